/-
  Package comp: what the laws of reading say, of lists of bytes.
-/
import Derived.Test.YtfhnfjfjmjopeaaDoorCompAwake
namespace Go.Proofs.YtfhnfjfjmjopeaaDoor
open Go.RowKit
set_option linter.unusedVariables false
set_option linter.unusedSimpArgs false

theorem app_list (a b : ByteArray) : (a ++ b).data.toList = a.data.toList ++ b.data.toList := by
  rw [ByteArray.data_append, Array.toList_append]
theorem list_size (s : ByteArray) : s.data.toList.length = s.size := by rw [Array.length_toList]; rfl
/-- A name between any bytes. -/
theorem readL_name {s : ByteArray} (hm : mayN s.data.toList = true) (A B : List UInt8) : readL (A ++ s.data.toList ++ B) A.length = (0, s.data.toList, A.length + s.size) := by
  obtain ⟨L, hL, e⟩ := may_mk hm
  have hl : s.data.toList = enc L := by rw [e, mk_list]
  have hsz : s.size = (enc L).length := by rw [e, mk_size]
  have hlen := hL.len
  have h5 := hL.2
  unfold readL
  rw [hl, rd_enc L _ _ A.length A.length 0 [] B hL.1 (by rw [List.append_assoc, List.drop_left]) (by rw [enc_len]; simp; omega) (by omega), hsz, if_pos rfl]
  rfl
/-- What is read at a place is a name, and next lies behind the place. -/
theorem readL_out {m n : List UInt8} {a nx : Nat} (h : readL m a = (0, n, nx)) : mayN n = true ∧ a < nx ∧ nx ≤ m.length ∧ ((nx = a + n.length ∧ (m.drop a).take n.length = n) ∨ nx ≠ a + n.length) := by
  obtain ⟨S, h1, h2, h3, _, h5⟩ := rd_out _ m a a 0 [] n nx h (by simp)
  have hn : n = enc S := h2
  subst hn
  obtain ⟨k1, k2, k3⟩ := h5 rfl
  exact ⟨may_enc ⟨h1, by rw [← enc_len]; exact h3⟩, k1, k2, k3⟩
theorem readL_more {m n : List UInt8} {a nx : Nat} (more : List UInt8) (h : readL m a = (0, n, nx)) : readL (m ++ more) a = (0, n, nx) := rd_more more _ m a a 0 [] n nx h
theorem readL_cut {m n : List UInt8} {a nx : Nat} (k : Nat) (h : readL m a = (0, n, nx)) : readL (m.take k) a = (0, n, nx) ∨ readL (m.take k) a = (4, [], 0) := rd_cut k _ m a a 0 [] n nx h
/-- Cut behind next: the same, or there was a pointer, and nothing is left. -/
theorem readL_next {m n : List UInt8} {a nx : Nat} (h : readL m a = (0, n, nx)) : readL (m.take nx) a = (0, n, nx) ∨ (readL (m.take nx) a = (4, [], 0) ∧ n.length + a ≠ nx) := by
  rcases readL_cut nx h with h1 | h1
  · exact .inl h1
  · refine .inr ⟨h1, fun e => ?_⟩
    obtain ⟨hm, h2, h3, h4 | h4⟩ := readL_out h
    · obtain ⟨L, hL, hn⟩ := may_out hm
      have hlen := hL.len
      have h5 := hL.2
      have hd : (m.take nx).drop a = enc L ++ [] := by
        rw [List.drop_take, List.append_nil, ← hn, show nx - a = n.length by omega]
        exact h4.2
      have := rd_enc L (300 * a + 400) (m.take nx) a a 0 [] [] hL.1 hd (by rw [enc_len]; simp; omega) (by omega)
      unfold readL at h1
      rw [h1] at this
      exact absurd (show (4 : Nat) = 0 from congrArg Prod.fst this) (by decide)
    · exact h4 (by omega)
/-- Cut within what stands there: nothing is left. -/
theorem readL_short {m n : List UInt8} {a nx k : Nat} (h : readL m a = (0, n, nx)) (hk : k < nx) (hkm : k ≤ m.length) : readL (m.take k) a = (4, [], 0) := by
  rcases readL_cut k h with h1 | h1
  · obtain ⟨_, _, h3, _⟩ := readL_out h1
    rw [List.length_take] at h3
    omega
  · exact h1
theorem rd_bad : ∀ (f : Nat) (m : List UInt8) (a b nx : Nat) (acc n : List UInt8) (nx' e : Nat), rd f m a b nx acc = (e, n, nx') → e ≠ 0 → n = [] ∧ nx' = 0
  | 0, _, _, _, _, _, _, _, _, h, _ => by
    rw [rd] at h
    injection h with h1 h2
    injection h2 with h2 h3
    exact ⟨h2.symm, h3.symm⟩
  | f + 1, m, a, b, nx, acc, n, nx', e, h, he => by
    cases hs : st1 m a b nx acc with
    | err e1 =>
      rw [rd_err hs] at h
      injection h with h1 h2
      injection h2 with h2 h3
      exact ⟨h2.symm, h3.symm⟩
    | fin acc' nx1 =>
      rw [rd_fin hs] at h
      injection h with h1 h2
      exact absurd h1.symm he
    | go a' b' nx1 acc' =>
      rw [rd_go hs] at h
      exact rd_bad f m _ _ _ _ _ _ _ h he
theorem readL_bad {m n : List UInt8} {a nx e : Nat} (h : readL m a = (e, n, nx)) (he : e ≠ 0) : n = [] ∧ nx = 0 := rd_bad _ m a a 0 [] n nx e h he
end Go.Proofs.YtfhnfjfjmjopeaaDoor
