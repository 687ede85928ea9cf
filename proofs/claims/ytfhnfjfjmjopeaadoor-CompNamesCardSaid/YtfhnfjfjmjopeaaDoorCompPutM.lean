/-
  Package comp: what is put, as bytes.
-/
import Derived.Test.YtfhnfjfjmjopeaaDoorCompFacts
namespace Go.Proofs.YtfhnfjfjmjopeaaDoor
open Go.RowKit
set_option linter.unusedVariables false
set_option linter.unusedSimpArgs false

def encs : List Lab → List UInt8
  | [] => []
  | x :: r => UInt8.ofNat x.length :: (x ++ encs r)
theorem encs_len : ∀ L : List Lab, (encs L).length = sz L
  | [] => rfl
  | x :: r => by simp only [encs, sz, List.length_cons, List.length_append, encs_len r]; omega
theorem enc_app : ∀ P Q : List Lab, enc (P ++ Q) = encs P ++ enc Q
  | [], Q => rfl
  | x :: r, Q => by rw [List.cons_append, enc, enc_app r Q, encs]; simp
theorem enc_take (P Q : List Lab) : (enc (P ++ Q)).take (sz P) = encs P := by
  rw [enc_app, ← encs_len, List.take_left]
theorem lg_spec (K : Kn) : ∀ (L : List Lab) (a : Nat), ∃ P Q, L = P ++ Q ∧
    (((lg K a L).2.2 = true ∧ Q ≠ [] ∧ lookK K (enc Q) = some (lg K a L).2.1 ∧ (lg K a L).1 = a + sz P) ∨ ((lg K a L).2.2 = false ∧ Q = [] ∧ (lg K a L).1 = a + sz L + 1))
  | [], a => ⟨[], [], rfl, .inr ⟨rfl, rfl, rfl⟩⟩
  | x :: r, a => by
    rw [lg]
    cases e : lookK K (enc (x :: r)) with
    | some o => exact ⟨[], x :: r, rfl, .inl ⟨rfl, by simp, e, rfl⟩⟩
    | none =>
      obtain ⟨P, Q, h1, h2⟩ := lg_spec K r (a + 1 + x.length)
      refine ⟨x :: P, Q, by rw [h1]; rfl, ?_⟩
      rcases h2 with ⟨b1, b2, b3, b4⟩ | ⟨b1, b2, b3⟩
      · exact .inl ⟨b1, b2, b3, by show (lg K (a + 1 + x.length) r).1 = _; rw [b4]; simp only [sz]; omega⟩
      · exact .inr ⟨b1, b2, by show (lg K (a + 1 + x.length) r).1 = _; rw [b3]; simp only [sz]; omega⟩
/-- What is put: the name, or its beginning and a pointer. -/
theorem out_spec (cp : Bool) (K : Kn) (b : List UInt8) (L : List Lab) :
    (∃ P Q o, cp = true ∧ L = P ++ Q ∧ Q ≠ [] ∧ lookK K (enc Q) = some o ∧ lgC cp K L = (sz P, o, true) ∧ outP (lgC cp K L) b L = b ++ encs P ++ beB 2 (49152 + o)) ∨
    (lgC cp K L = (sz L + 1, 0, false) ∨ (lgC cp K L).2.2 = false ∧ (lgC cp K L).1 = sz L + 1) ∧ outP (lgC cp K L) b L = b ++ enc L := by
  unfold lgC
  cases cp with
  | false =>
    refine .inr ⟨.inr ⟨rfl, by rw [if_neg (by decide), enc_len]⟩, ?_⟩
    unfold outP
    rw [if_neg (by decide)]
    show b ++ (enc L).take (enc L).length ++ [] = _
    rw [List.take_length, List.append_nil]
  | true =>
    rw [if_pos rfl]
    obtain ⟨P, Q, hL, ⟨b1, b2, b3, b4⟩ | ⟨b1, b2, b3⟩⟩ := lg_spec K L 0
    · obtain ⟨k, o, i⟩ : ∃ R, lg K 0 L = R := ⟨_, rfl⟩
      refine .inl ⟨P, Q, (lg K 0 L).2.1, rfl, hL, b2, b3, ?_, ?_⟩
      · refine Prod.ext (by rw [b4, Nat.zero_add]) (Prod.ext rfl b1)
      · unfold outP
        rw [b1, b4, Nat.zero_add, if_pos rfl, hL, enc_take]
    · refine .inr ⟨.inr ⟨b1, by rw [b3, Nat.zero_add]⟩, ?_⟩
      unfold outP
      rw [b1, b3, Nat.zero_add, if_neg (by decide), List.append_nil, List.take_of_length_le (by rw [enc_len]; omega)]
theorem beB2 {o : Nat} (h : o ≤ 16383) : beB 2 (49152 + o) = [UInt8.ofNat (192 + o / 256), UInt8.ofNat (o % 256)] := by
  have h1 : (49152 + o) / 256 ^ 1 = 192 + o / 256 := by omega
  have h2 : (49152 + o) / 256 ^ 0 = 49152 + o := by simp
  rw [beB_cons, beB_cons, h1, h2]
  have h3 : UInt8.ofNat (49152 + o) = UInt8.ofNat (o % 256) := by
    apply UInt8.toNat_inj.1
    rw [UInt8.toNat_ofNat', UInt8.toNat_ofNat']
    omega
  rw [h3]
  rfl
/-- Every offset lies ahead of N. -/
def lowN (K : Kn) (N : Nat) : Prop := ∀ p ∈ K, p.2 ≤ 16383 ∧ p.2 < N
theorem lowN.low {K : Kn} {N : Nat} (h : lowN K N) : lowK K := fun p hp => (h p hp).1
theorem lowN.more {K : Kn} {N N' : Nat} (h : lowN K N) (hN : N ≤ N') : lowN K N' := fun p hp => ⟨(h p hp).1, by have := (h p hp).2; omega⟩
theorem lowN.look {K : Kn} {N : Nat} (h : lowN K N) {s : List UInt8} {o : Nat} (hl : lookK K s = some o) : o ≤ 16383 ∧ o < N := by
  unfold lookK at hl
  rw [Option.map_eq_some_iff] at hl
  obtain ⟨p, hp, rfl⟩ := hl
  exact h p (List.mem_of_find?_eq_some hp)
theorem ad_lowN {keep off : Nat} : ∀ (L : List Lab) (K : Kn) (a : Nat), lowN K (off + keep) → lowN (ad keep off K a L) (off + keep)
  | [], K, a, h => h
  | x :: r, K, a, h => by
    rw [ad]
    by_cases hk : a < keep
    · rw [if_pos hk]
      refine ad_lowN r _ _ ?_
      by_cases hc : (lookK K (enc (x :: r))).isSome = true ∨ 16383 < off + a
      · rw [if_pos hc]; exact h
      · rw [if_neg hc]
        intro p hp
        rcases List.mem_append.1 hp with hp | hp
        · exact h p hp
        · rw [List.mem_singleton.1 hp]
          have : ¬ 16383 < off + a := fun h => hc (.inr h)
          exact ⟨by show off + a ≤ 16383; omega, by show off + a < off + keep; omega⟩
    · rw [if_neg hk]; exact h
theorem out_len (R : Nat × Nat × Bool) (b : List UInt8) (L : List Lab) (h : R.1 ≤ (enc L).length) : b.length + R.1 ≤ (outP R b L).length := by
  unfold outP
  rw [List.length_append, List.length_append, List.length_take]
  omega
theorem newK_lowN {cp kn : Bool} {K : Kn} {b : List UInt8} {L : List Lab} (h : lowN K b.length) : lowN (newK (lgC cp K L) K b.length L kn) (outP (lgC cp K L) b L).length := by
  have hk := (lgC_ok h.low cp L).2
  have ho := out_len (lgC cp K L) b L hk
  unfold newK
  cases kn
  · exact h.more (by omega)
  · exact (ad_lowN L K 0 (h.more (by omega))).more ho
theorem sz_two (Q : List Lab) (h : ∀ x ∈ Q, okLab x) (hQ : Q ≠ []) : 2 ≤ sz Q := by
  cases Q with
  | nil => exact absurd rfl hQ
  | cons x r => have := (h x List.mem_cons_self).1; simp only [sz]; omega
end Go.Proofs.YtfhnfjfjmjopeaaDoor
