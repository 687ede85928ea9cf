/-
  Package comp: what the bytes at a place are read as; bytes behind, bytes cut off, a name at a place.
-/
import Derived.Test.YtfhnfjfjmjopeaaDoorNameMath
namespace Go.Proofs.YtfhnfjfjmjopeaaDoor
open Go.RowKit
set_option linter.unusedVariables false
set_option linter.unusedSimpArgs false

inductive Rs
  | err (e : Nat)
  | fin (acc : List UInt8) (nx : Nat)
  | go (a b nx : Nat) (acc : List UInt8)
/-- One step: at a, pointers must lead before b; nx: the place behind, 0 till it is known; acc: what is read. -/
def st1 (m : List UInt8) (a b nx : Nat) (acc : List UInt8) : Rs :=
  match m[a]? with
  | none => .err 4
  | some c =>
    if 192 ≤ c.toNat then
      match m[a + 1]? with
      | none => .err 4
      | some d => if b ≤ (c.toNat - 192) * 256 + d.toNat then .err 8 else .go ((c.toNat - 192) * 256 + d.toNat) ((c.toNat - 192) * 256 + d.toNat) (if nx = 0 then a + 2 else nx) acc
    else if 64 ≤ c.toNat then .err 3
    else if m.length < a + 1 + c.toNat then .err 4
    else if c.toNat = 0 then .fin (acc ++ [c]) (if nx = 0 then a + 1 else nx)
    else if 254 < acc.length + 1 + c.toNat then .err 5
    else .go (a + 1 + c.toNat) b nx (acc ++ c :: (m.drop (a + 1)).take c.toNat)
def rd : Nat → List UInt8 → Nat → Nat → Nat → List UInt8 → Nat × List UInt8 × Nat
  | 0, _, _, _, _, _ => (99, [], 0)
  | f + 1, m, a, b, nx, acc =>
    match st1 m a b nx acc with
    | .err e => (e, [], 0)
    | .fin acc nx => (0, acc, nx)
    | .go a b nx acc => rd f m a b nx acc
/-- What is read at a place. -/
def readL (m : List UInt8) (at_ : Nat) : Nat × List UInt8 × Nat := rd (300 * at_ + 400) m at_ at_ 0 []
theorem rd_err {f : Nat} {m : List UInt8} {a b nx e : Nat} {acc : List UInt8} (h : st1 m a b nx acc = .err e) : rd (f + 1) m a b nx acc = (e, [], 0) := by rw [rd, h]
theorem rd_fin {f : Nat} {m : List UInt8} {a b nx nx' : Nat} {acc acc' : List UInt8} (h : st1 m a b nx acc = .fin acc' nx') : rd (f + 1) m a b nx acc = (0, acc', nx') := by rw [rd, h]
theorem rd_go {f : Nat} {m : List UInt8} {a b nx a' b' nx' : Nat} {acc acc' : List UInt8} (h : st1 m a b nx acc = .go a' b' nx' acc') : rd (f + 1) m a b nx acc = rd f m a' b' nx' acc' := by rw [rd, h]
theorem u8_len {n : Nat} (h : n ≤ 63) : (UInt8.ofNat n).toNat = n := toNat_len h
/-- What a step is. -/
theorem st1_cases (m : List UInt8) (a b nx : Nat) (acc : List UInt8) :
    (∃ e, e ≠ 0 ∧ st1 m a b nx acc = .err e) ∨
    (m[a]? = some 0 ∧ st1 m a b nx acc = .fin (acc ++ [0]) (if nx = 0 then a + 1 else nx)) ∨
    (∃ x : Lab, okLab x ∧ acc.length + 1 + x.length ≤ 254 ∧ a + 1 + x.length ≤ m.length ∧ (m.drop a).take (1 + x.length) = UInt8.ofNat x.length :: x ∧ st1 m a b nx acc = .go (a + 1 + x.length) b nx (acc ++ UInt8.ofNat x.length :: x)) ∨
    (∃ to, to < b ∧ a + 2 ≤ m.length ∧ st1 m a b nx acc = .go to to (if nx = 0 then a + 2 else nx) acc) := by
  unfold st1
  cases hc : m[a]? with
  | none => exact .inl ⟨4, by decide, rfl⟩
  | some c =>
    obtain ⟨ha, hca⟩ := List.getElem?_eq_some_iff.1 hc
    simp only
    by_cases h192 : 192 ≤ c.toNat
    · rw [if_pos h192]
      cases hd : m[a + 1]? with
      | none => exact .inl ⟨4, by decide, rfl⟩
      | some d =>
        obtain ⟨hb, _⟩ := List.getElem?_eq_some_iff.1 hd
        simp only
        by_cases hlt : b ≤ (c.toNat - 192) * 256 + d.toNat
        · rw [if_pos hlt]; exact .inl ⟨8, by decide, rfl⟩
        · rw [if_neg hlt]; exact .inr (.inr (.inr ⟨_, by omega, by omega, rfl⟩))
    · rw [if_neg h192]
      by_cases h64 : 64 ≤ c.toNat
      · rw [if_pos h64]; exact .inl ⟨3, by decide, rfl⟩
      · rw [if_neg h64]
        by_cases hl : m.length < a + 1 + c.toNat
        · rw [if_pos hl]; exact .inl ⟨4, by decide, rfl⟩
        · rw [if_neg hl]
          by_cases h0 : c.toNat = 0
          · rw [if_pos h0]
            obtain rfl : c = 0 := UInt8.toNat_inj.1 (by rw [h0]; rfl)
            exact .inr (.inl ⟨rfl, rfl⟩)
          · rw [if_neg h0]
            by_cases h5 : 254 < acc.length + 1 + c.toNat
            · rw [if_pos h5]; exact .inl ⟨5, by decide, rfl⟩
            · rw [if_neg h5]
              have hx : ((m.drop (a + 1)).take c.toNat).length = c.toNat := by rw [List.length_take, List.length_drop]; omega
              refine .inr (.inr (.inl ⟨(m.drop (a + 1)).take c.toNat, ⟨by omega, by omega⟩, by omega, by omega, ?_, ?_⟩))
              · rw [hx, List.drop_eq_getElem_cons ha, hca, Nat.add_comm 1, List.take_succ_cons, UInt8.ofNat_toNat]
              · rw [hx, UInt8.ofNat_toNat]
theorem enc_two (S : List Lab) (h : ∀ x ∈ S, okLab x) : (enc S).length ≠ 2 := by
  rw [enc_len]
  cases S with
  | nil => simp [sz]
  | cons x r => have := (h x List.mem_cons_self).1; simp only [sz]; omega
/-- What is read is a name; where the place behind it is. -/
theorem rd_out : ∀ (f : Nat) (m : List UInt8) (a b nx : Nat) (acc n : List UInt8) (nx' : Nat), rd f m a b nx acc = (0, n, nx') → acc.length ≤ 254 →
    ∃ S, (∀ x ∈ S, okLab x) ∧ n = acc ++ enc S ∧ n.length ≤ 255 ∧ (nx ≠ 0 → nx' = nx) ∧
      (nx = 0 → a < nx' ∧ nx' ≤ m.length ∧ ((nx' = a + (enc S).length ∧ (m.drop a).take (enc S).length = enc S) ∨ nx' ≠ a + (enc S).length))
  | 0, _, _, _, _, _, _, _, h, _ => by simp [rd] at h
  | f + 1, m, a, b, nx, acc, n, nx', h, hacc => by
    rcases st1_cases m a b nx acc with ⟨e, he, hs⟩ | ⟨h0, hs⟩ | ⟨x, hx, hxl, hxm, hxt, hs⟩ | ⟨to, hto, ham, hs⟩
    · rw [rd_err hs] at h
      exact absurd (congrArg Prod.fst h) he
    · rw [rd_fin hs] at h
      obtain ⟨ha, h0a⟩ := List.getElem?_eq_some_iff.1 h0
      injection h with _ h
      injection h with h1 h2
      refine ⟨[], (fun x hx => by cases hx), h1.symm, ?_, fun hn => by rw [← h2, if_neg hn], fun hn => ?_⟩
      · rw [← h1, List.length_append, List.length_singleton]; omega
      · rw [if_pos hn] at h2
        refine ⟨by omega, by omega, .inl ⟨by rw [← h2]; rfl, ?_⟩⟩
        rw [List.drop_eq_getElem_cons ha, h0a]; rfl
    · rw [rd_go hs] at h
      obtain ⟨S, h1, h2, h3, h4, h5⟩ := rd_out f m _ _ _ _ _ _ h (by rw [List.length_append, List.length_cons]; omega)
      have hcons : enc (x :: S) = UInt8.ofNat x.length :: (x ++ enc S) := rfl
      refine ⟨x :: S, fun y hy => ?_, ?_, h3, h4, fun hn => ?_⟩
      · rcases List.mem_cons.1 hy with rfl | hy
        · exact hx
        · exact h1 y hy
      · rw [h2, hcons]; simp
      · obtain ⟨k1, k2, k3⟩ := h5 hn
        refine ⟨by omega, k2, ?_⟩
        have hl : (enc (x :: S)).length = 1 + x.length + (enc S).length := by rw [hcons, List.length_cons, List.length_append]; omega
        rcases k3 with ⟨k3, k4⟩ | k3
        · refine .inl ⟨by rw [hl]; omega, ?_⟩
          rw [hl, List.take_add, hxt, List.drop_drop, show a + (1 + x.length) = a + 1 + x.length by omega, k4, hcons]
          rfl
        · exact .inr (by rw [hl]; omega)
    · rw [rd_go hs] at h
      obtain ⟨S, h1, h2, h3, h4, h5⟩ := rd_out f m _ _ _ _ _ _ h hacc
      by_cases hn : nx = 0
      · rw [if_pos hn] at h4
        have h6 := h4 (by omega)
        have h7 := enc_two S h1
        exact ⟨S, h1, h2, h3, fun h => absurd hn h, fun _ => ⟨by omega, by omega, .inr (by omega)⟩⟩
      · rw [if_neg hn] at h4
        exact ⟨S, h1, h2, h3, h4, fun h => absurd h hn⟩
theorem get_more {m more : List UInt8} {a : Nat} {c : UInt8} (h : m[a]? = some c) : (m ++ more)[a]? = some c := by
  obtain ⟨ha, e⟩ := List.getElem?_eq_some_iff.1 h
  rw [List.getElem?_append_left ha]; exact h
/-- Bytes behind change nothing of a step that is none's end. -/
theorem st1_more {m : List UInt8} (more : List UInt8) {a b nx : Nat} {acc : List UInt8} (h : st1 m a b nx acc ≠ .err 4) : st1 (m ++ more) a b nx acc = st1 m a b nx acc := by
  unfold st1 at h ⊢
  cases hc : m[a]? with
  | none => rw [hc] at h; exact absurd rfl h
  | some c =>
    rw [hc] at h
    rw [get_more hc]
    obtain ⟨ha, _⟩ := List.getElem?_eq_some_iff.1 hc
    simp only at h ⊢
    by_cases h192 : 192 ≤ c.toNat
    · rw [if_pos h192] at h ⊢
      rw [if_pos h192]
      cases hd : m[a + 1]? with
      | none => rw [hd] at h; exact absurd rfl h
      | some d => rw [get_more hd]
    · rw [if_neg h192] at h ⊢
      rw [if_neg h192]
      by_cases h64 : 64 ≤ c.toNat
      · rw [if_pos h64, if_pos h64]
      · rw [if_neg h64] at h ⊢
        rw [if_neg h64]
        by_cases hl : m.length < a + 1 + c.toNat
        · rw [if_pos hl] at h; exact absurd rfl h
        · rw [if_neg hl, if_neg (by rw [List.length_append]; omega), List.drop_append_of_le_length (by omega), List.take_append_of_le_length (by rw [List.length_drop]; omega)]
theorem rd_more (more : List UInt8) : ∀ (f : Nat) (m : List UInt8) (a b nx : Nat) (acc n : List UInt8) (nx' : Nat), rd f m a b nx acc = (0, n, nx') → rd f (m ++ more) a b nx acc = (0, n, nx')
  | 0, _, _, _, _, _, _, _, h => by simp [rd] at h
  | f + 1, m, a, b, nx, acc, n, nx', h => by
    have h4 : st1 m a b nx acc ≠ .err 4 := fun e => by
      rw [rd_err e] at h
      exact absurd (show (4 : Nat) = 0 from congrArg Prod.fst h) (by decide)
    have hm := st1_more more h4
    cases hs : st1 m a b nx acc with
    | err e =>
      rw [rd_err hs] at h
      rw [rd_err (hm.trans hs)]
      exact h
    | fin acc' nx1 =>
      rw [rd_fin hs] at h
      rw [rd_fin (hm.trans hs)]
      exact h
    | go a' b' nx1 acc' =>
      rw [rd_go hs] at h
      rw [rd_go (hm.trans hs)]
      exact rd_more more f m _ _ _ _ _ _ h
/-- Cut short: the same, or nothing is left. -/
theorem rd_cut (k : Nat) : ∀ (f : Nat) (m : List UInt8) (a b nx : Nat) (acc n : List UInt8) (nx' : Nat), rd f m a b nx acc = (0, n, nx') → rd f (m.take k) a b nx acc = (0, n, nx') ∨ rd f (m.take k) a b nx acc = (4, [], 0)
  | 0, _, _, _, _, _, _, _, h => by simp [rd] at h
  | f + 1, m, a, b, nx, acc, n, nx', h => by
    by_cases h4 : st1 (m.take k) a b nx acc = .err 4
    · exact .inr (rd_err h4)
    · have hm := st1_more (m.drop k) h4
      rw [List.take_append_drop] at hm
      cases hs : st1 m a b nx acc with
      | err e =>
        rw [rd_err hs] at h
        rw [rd_err (hm.symm.trans hs)]
        exact .inl h
      | fin acc' nx1 =>
        rw [rd_fin hs] at h
        rw [rd_fin (hm.symm.trans hs)]
        exact .inl h
      | go a' b' nx1 acc' =>
        rw [rd_go hs] at h
        rw [rd_go (hm.symm.trans hs)]
        exact rd_cut k f m _ _ _ _ _ _ h
theorem st1_lab {m : List UInt8} {a b nx : Nat} {acc : List UInt8} {x : Lab} {R : List UInt8} (hx : okLab x) (h : m.drop a = UInt8.ofNat x.length :: (x ++ R)) (hl : acc.length + 1 + x.length ≤ 254) :
    st1 m a b nx acc = .go (a + 1 + x.length) b nx (acc ++ UInt8.ofNat x.length :: x) := by
  have hc : m[a]? = some (UInt8.ofNat x.length) := by
    have := congrArg (fun l => l[0]?) h
    simpa [List.getElem?_drop] using this
  have hn := u8_len hx.2
  have hlen := congrArg List.length h
  rw [List.length_drop, List.length_cons, List.length_append] at hlen
  have h1 := hx.1
  have h2 := hx.2
  have hd : m.drop (a + 1) = x ++ R := by
    have := congrArg (List.drop 1) h
    rw [List.drop_drop] at this
    exact this
  unfold st1
  rw [hc]
  simp only
  rw [hn, if_neg (by omega), if_neg (by omega), if_neg (by omega), if_neg (by omega), if_neg (by omega), hd, List.take_left]
theorem st1_nul {m : List UInt8} {a b nx : Nat} {acc : List UInt8} {R : List UInt8} (h : m.drop a = 0 :: R) : st1 m a b nx acc = .fin (acc ++ [0]) (if nx = 0 then a + 1 else nx) := by
  have hc : m[a]? = some 0 := by
    have := congrArg (fun l => l[0]?) h
    simpa [List.getElem?_drop] using this
  have hlen := congrArg List.length h
  rw [List.length_drop, List.length_cons] at hlen
  have h0 : (0 : UInt8).toNat = 0 := rfl
  unfold st1
  rw [hc]
  simp only
  rw [h0, if_neg (by omega), if_neg (by omega), if_neg (by omega), if_pos rfl]
/-- A name at a place is read as that name. -/
theorem rd_enc : ∀ (S : List Lab) (f : Nat) (m : List UInt8) (a b nx : Nat) (acc R : List UInt8), (∀ x ∈ S, okLab x) → m.drop a = enc S ++ R → acc.length + (enc S).length ≤ 255 → S.length < f →
    rd f m a b nx acc = (0, acc ++ enc S, if nx = 0 then a + (enc S).length else nx)
  | [], f, m, a, b, nx, acc, R, _, hm, _, hf => by
    obtain ⟨f', rfl⟩ : ∃ f', f = f' + 1 := ⟨f - 1, by simp at hf; omega⟩
    rw [rd_fin (st1_nul (R := R) hm)]
    rfl
  | x :: S, f, m, a, b, nx, acc, R, hS, hm, hl, hf => by
    obtain ⟨f', rfl⟩ : ∃ f', f = f' + 1 := ⟨f - 1, by simp at hf; omega⟩
    have hx := hS x List.mem_cons_self
    have hcons : enc (x :: S) = UInt8.ofNat x.length :: (x ++ enc S) := rfl
    have hl2 : (enc (x :: S)).length = 1 + x.length + (enc S).length := by rw [hcons, List.length_cons, List.length_append]; omega
    have hpos : 1 ≤ (enc S).length := by rw [enc_len]; omega
    rw [hcons, List.cons_append, List.append_assoc] at hm
    rw [rd_go (st1_lab hx hm (by omega))]
    have hd : m.drop (a + 1 + x.length) = enc S ++ R := by
      have := congrArg (List.drop (1 + x.length)) hm
      rw [List.drop_drop, show a + (1 + x.length) = a + 1 + x.length by omega, Nat.add_comm 1, List.drop_succ_cons, List.drop_left] at this
      exact this
    rw [rd_enc S f' m _ b nx _ R (fun y hy => hS y (List.mem_cons_of_mem _ hy)) hd (by rw [List.length_append, List.length_cons]; omega) (by simp at hf; omega)]
    rw [hcons]
    simp only [Prod.mk.injEq, true_and]
    refine ⟨by simp, ?_⟩
    split
    · simp only [List.length_cons, List.length_append]; omega
    · rfl
end Go.Proofs.YtfhnfjfjmjopeaaDoor
