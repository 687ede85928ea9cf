/-
  Package comp: names that are put, one behind the other, are read where they were put.
-/
import Derived.Test.YtfhnfjfjmjopeaaDoorCompPutM
namespace Go.Proofs.YtfhnfjfjmjopeaaDoor
open Go.RowKit
set_option linter.unusedVariables false
set_option linter.unusedSimpArgs false

/-- At o stands what is read as s, behind whatever was read so far. -/
def Pts (m : List UInt8) (o : Nat) (s : List UInt8) : Prop := ∀ (f nx : Nat) (acc : List UInt8), nx ≠ 0 → acc.length + s.length ≤ 255 → 300 * o + 300 < f + acc.length → rd f m o o nx acc = (0, acc ++ s, nx)
theorem Pts.more {m : List UInt8} {o : Nat} {s : List UInt8} (h : Pts m o s) (more : List UInt8) : Pts (m ++ more) o s := fun f nx acc h1 h2 h3 => rd_more more f m o o nx acc _ _ (h f nx acc h1 h2 h3)
theorem rd_labs : ∀ (P : List Lab) (f : Nat) (m : List UInt8) (a b nx : Nat) (acc R : List UInt8), (∀ x ∈ P, okLab x) → m.drop a = encs P ++ R → acc.length + sz P ≤ 254 →
    rd (f + P.length) m a b nx acc = rd f m (a + sz P) b nx (acc ++ encs P)
  | [], f, m, a, b, nx, acc, R, _, _, _ => by simp [sz, encs]
  | x :: P, f, m, a, b, nx, acc, R, hP, hm, hl => by
    have hx := hP x List.mem_cons_self
    rw [encs, List.cons_append, List.append_assoc] at hm
    rw [sz] at hl ⊢
    rw [List.length_cons, ← Nat.add_assoc, rd_go (st1_lab hx hm (by omega))]
    have hd : m.drop (a + 1 + x.length) = encs P ++ R := by
      have := congrArg (List.drop (1 + x.length)) hm
      rw [List.drop_drop, show a + (1 + x.length) = a + 1 + x.length by omega, Nat.add_comm 1, List.drop_succ_cons, List.drop_left] at this
      exact this
    rw [rd_labs P f m (a + 1 + x.length) b nx _ R (fun y hy => hP y (List.mem_cons_of_mem _ hy)) hd (by rw [List.length_append, List.length_cons]; omega)]
    rw [encs, show a + 1 + x.length + sz P = a + (1 + x.length + sz P) by omega]
    simp
theorem st1_ptr {m : List UInt8} {a b nx o : Nat} {acc R : List UInt8} (h : m.drop a = beB 2 (49152 + o) ++ R) (ho : o ≤ 16383) (hob : o < b) : st1 m a b nx acc = .go o o (if nx = 0 then a + 2 else nx) acc := by
  rw [beB2 ho] at h
  have hc : m[a]? = some (UInt8.ofNat (192 + o / 256)) := by
    have := congrArg (fun l => l[0]?) h
    simpa [List.getElem?_drop] using this
  have hd : m[a + 1]? = some (UInt8.ofNat (o % 256)) := by
    have := congrArg (fun l => l[1]?) h
    simpa [List.getElem?_drop] using this
  have h1 : (UInt8.ofNat (192 + o / 256)).toNat = 192 + o / 256 := UInt8.toNat_ofNat_of_lt' (show 192 + o / 256 < 256 by omega)
  have h2 : (UInt8.ofNat (o % 256)).toNat = o % 256 := UInt8.toNat_ofNat_of_lt' (show o % 256 < 256 by omega)
  have h3 : (192 + o / 256 - 192) * 256 + o % 256 = o := by omega
  unfold st1
  rw [hc]
  simp only
  rw [h1, if_pos (by omega), hd]
  simp only
  rw [h2, h3, if_neg (by omega)]
theorem rd_ptr_name {P Q : List Lab} {f : Nat} {m : List UInt8} {a b nx o : Nat} {acc R : List UInt8} (hP : ∀ x ∈ P, okLab x) (hm : m.drop a = encs P ++ (beB 2 (49152 + o) ++ R)) (hpt : Pts m o (enc Q)) (ho : o ≤ 16383) (hob : o < b)
    (hl : acc.length + sz P + (enc Q).length ≤ 255) (hf : 300 * b + 300 < f + acc.length) : rd f m a b nx acc = (0, acc ++ encs P ++ enc Q, if nx = 0 then a + sz P + 2 else nx) := by
  have hge := sz_ge hP
  have hQ1 : 1 ≤ (enc Q).length := by rw [enc_len]; omega
  obtain ⟨f1, rfl⟩ : ∃ f1, f = (f1 + 1) + P.length := ⟨f - 1 - P.length, by omega⟩
  rw [rd_labs P (f1 + 1) m a b nx acc _ hP hm (by omega)]
  have hd : m.drop (a + sz P) = beB 2 (49152 + o) ++ R := by
    have := congrArg (List.drop (sz P)) hm
    rw [List.drop_drop, ← encs_len, List.drop_left] at this
    rw [← encs_len]
    exact this
  rw [rd_go (st1_ptr hd ho hob), hpt f1 _ _ (by split <;> omega) (by rw [List.length_append, encs_len]; omega) (by rw [List.length_append, encs_len]; omega)]
theorem ad_look {keep off : Nat} : ∀ (L : List Lab) (K : Kn) (a : Nat) (s : List UInt8) (o : Nat), lookK (ad keep off K a L) s = some o →
    lookK K s = some o ∨ ∃ P Q, L = P ++ Q ∧ Q ≠ [] ∧ s = enc Q ∧ o = off + a + sz P ∧ a + sz P < keep
  | [], K, a, s, o, h => .inl h
  | x :: r, K, a, s, o, h => by
    rw [ad] at h
    by_cases hk : a < keep
    · rw [if_pos hk] at h
      rcases ad_look r _ _ s o h with h1 | ⟨P, Q, h1, h2, h3, h4, h5⟩
      · by_cases hc : (lookK K (enc (x :: r))).isSome = true ∨ 16383 < off + a
        · rw [if_pos hc] at h1; exact .inl h1
        · rw [if_neg hc] at h1
          have hn : lookK K (enc (x :: r)) = none := by
            cases e : lookK K (enc (x :: r)) with
            | none => rfl
            | some v => exact absurd (.inl (by rw [e]; rfl)) hc
          rw [lookK_snoc K _ s _ hn] at h1
          by_cases he : s = enc (x :: r)
          · rw [if_pos he] at h1
            exact .inr ⟨[], x :: r, rfl, by simp, he, by rw [sz]; exact (Option.some.inj h1).symm, by rw [sz]; exact hk⟩
          · rw [if_neg he] at h1
            exact .inl h1
      · exact .inr ⟨x :: P, Q, by rw [h1]; rfl, h2, h3, by rw [h4, sz]; omega, by rw [sz]; omega⟩
    · rw [if_neg hk] at h
      exact .inl h
theorem encs_app : ∀ P Q : List Lab, encs (P ++ Q) = encs P ++ encs Q
  | [], Q => rfl
  | x :: r, Q => by rw [List.cons_append, encs, encs_app r Q, encs]; simp
/-- Every ending that the table has stands where it says. -/
def Good (B : List UInt8) (K : Kn) : Prop := ∀ s o, lookK K s = some o → Pts B o s
theorem Good.more {B : List UInt8} {K : Kn} (h : Good B K) (more : List UInt8) : Good (B ++ more) K := fun s o hl => (h s o hl).more more
theorem pre_of {P Q P1 Q1 : List Lab} (h : P1 ++ Q1 = P ++ Q) (hs : sz P1 < sz P) : ∃ P2, P = P1 ++ P2 ∧ Q1 = P2 ++ Q := by
  rcases List.append_eq_append_iff.1 h with ⟨a, h1, h2⟩ | ⟨a, h1, h2⟩
  · exact ⟨a, h1, h2⟩
  · rw [h1, sz_app] at hs
    omega
theorem put_good {B : List UInt8} {K : Kn} (hg : Good B K) (hlow : lowN K B.length) {L : List Lab} (hL : okL L) (cp kn : Bool) :
    Good (outP (lgC cp K L) B L) (newK (lgC cp K L) K B.length L kn) ∧ readL (outP (lgC cp K L) B L) B.length = (0, enc L, (outP (lgC cp K L) B L).length) := by
  have hl5 := hL.2
  have hlen := hL.len
  have old : Good (outP (lgC cp K L) B L) K := by
    unfold outP
    rw [List.append_assoc]
    exact hg.more _
  rcases out_spec cp K B L with ⟨P, Q, o, hcp, hLPQ, hQ, hlk, hR, hO⟩ | ⟨hR, hO⟩
  · have ho := hlow.look hlk
    have hpt : Pts (outP (lgC cp K L) B L) o (enc Q) := old _ _ hlk
    have hOl : (outP (lgC cp K L) B L).length = B.length + sz P + 2 := by rw [hO, List.length_append, List.length_append, encs_len, beB_length]
    have hokP : ∀ x ∈ P, okLab x := fun x hx => hL.1 x (by rw [hLPQ]; exact List.mem_append_left _ hx)
    have hszL : sz L = sz P + sz Q := by rw [hLPQ, sz_app]
    have whole : ∀ P1 P2, P = P1 ++ P2 → ∀ (f nx : Nat) (acc : List UInt8), acc.length + sz P2 + (enc Q).length ≤ 255 → 300 * (B.length + sz P1) + 300 < f + acc.length →
        rd f (outP (lgC cp K L) B L) (B.length + sz P1) (B.length + sz P1) nx acc = (0, acc ++ encs P2 ++ enc Q, if nx = 0 then B.length + sz P1 + sz P2 + 2 else nx) := fun P1 P2 hP12 f nx acc h1 h2 => by
      have hd : (outP (lgC cp K L) B L).drop (B.length + sz P1) = encs P2 ++ (beB 2 (49152 + o) ++ []) := by
        rw [hO, hP12, ← List.drop_drop, List.append_assoc, List.drop_left, encs_app, List.append_assoc, ← encs_len, List.drop_left, List.append_nil]
      exact rd_ptr_name (fun x hx => hokP x (by rw [hP12]; exact List.mem_append_right _ hx)) hd hpt ho.1 (by omega) h1 h2
    refine ⟨fun s o' hl => ?_, ?_⟩
    · unfold newK at hl
      cases kn with
      | false => exact old s o' hl
      | true =>
        rw [if_pos rfl] at hl
        rcases ad_look L K 0 s o' hl with h1 | ⟨P1, Q1, h1, h2, h3, h4, h5⟩
        · exact old s o' h1
        · rw [hR] at h5
          obtain ⟨P2, hp2, hq2⟩ := pre_of (h1.symm.trans hLPQ) (by simpa using h5)
          subst h3
          rw [h4, Nat.add_zero]
          intro f nx acc hn h6 h7
          have hQ1 : enc Q1 = encs P2 ++ enc Q := by rw [hq2, enc_app]
          rw [whole P1 P2 hp2 f nx acc (by rw [hQ1, List.length_append, encs_len] at h6; omega) h7, hQ1, if_neg hn, List.append_assoc]
    · have := whole [] P rfl (300 * B.length + 400) 0 [] (by rw [enc_len]; simp; omega) (by first | (simp [sz]; done) | (simp [sz]; omega))
      simp only [sz, Nat.add_zero, List.nil_append] at this
      unfold readL
      rw [this, hOl, hLPQ, enc_app]
      simp
  · have hOl : (outP (lgC cp K L) B L).length = B.length + (enc L).length := by rw [hO, List.length_append]
    refine ⟨fun s o' hl => ?_, ?_⟩
    · unfold newK at hl
      cases kn with
      | false => exact old s o' hl
      | true =>
        rw [if_pos rfl] at hl
        rcases ad_look L K 0 s o' hl with h1 | ⟨P1, Q1, h1, h2, h3, h4, h5⟩
        · exact old s o' h1
        · subst h3
          rw [h4, Nat.add_zero]
          intro f nx acc hn h6 h7
          have hd : (outP (lgC cp K L) B L).drop (B.length + sz P1) = enc Q1 ++ [] := by
            rw [hO, h1, enc_app, ← List.drop_drop, List.drop_left, ← encs_len, List.drop_left, List.append_nil]
          have hokQ : ∀ x ∈ Q1, okLab x := fun x hx => hL.1 x (by rw [h1]; exact List.mem_append_right _ hx)
          have hq2 := sz_ge hokQ
          rw [enc_len] at h6
          rw [rd_enc Q1 f _ _ _ nx acc [] hokQ hd (by rw [enc_len]; exact h6) (by omega), if_neg hn]
    · unfold readL
      rw [rd_enc L _ _ B.length B.length 0 [] [] hL.1 (by rw [hO, List.drop_left, List.append_nil]) (by rw [enc_len]; simp; omega) (by omega), if_pos rfl, hOl]
      rfl
end Go.Proofs.YtfhnfjfjmjopeaaDoor
