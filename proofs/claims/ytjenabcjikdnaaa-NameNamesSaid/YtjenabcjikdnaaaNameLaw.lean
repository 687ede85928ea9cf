/-
  Package name: what the functions say of whatever bytes.
-/
import Derived.Test.YtjenabcjikdnaaaNameAwake
namespace Go.Proofs.Ytjenabcjikdnaaa
open Go.RowKit
set_option linter.unusedVariables false
set_option linter.unusedSimpArgs false

/-- The labels of bytes. -/
def labs (s : ByteArray) : List Lab := (dec s.data.toList.length s.data.toList).getD []
theorem labs_enc {L : List Lab} (h : okL L) : labs (mk (enc L)) = L := by
  unfold labs
  rw [mk_list, dec_enc L _ h.1 (Nat.le_refl _)]
  rfl
def cmpS (a b : ByteArray) : Int := if mayN a.data.toList = true ∧ mayN b.data.toList = true then cmpN (labs a) (labs b) else 0
def inS (a b : ByteArray) : Bool := mayN a.data.toList && mayN b.data.toList && inN (labs a) (labs b)
theorem cmpS_enc {L M : List Lab} (h : okL L) (k : okL M) : cmpS (mk (enc L)) (mk (enc M)) = cmpN L M := by
  unfold cmpS
  rw [if_pos ⟨may_b h, may_b k⟩, labs_enc h, labs_enc k]
theorem inS_enc {L M : List Lab} (h : okL L) (k : okL M) : inS (mk (enc L)) (mk (enc M)) = inN L M := by
  unfold inS
  rw [may_b h, may_b k, labs_enc h, labs_enc k]; rfl
theorem cmpS_no {a b : ByteArray} (h : mayN a.data.toList = false ∨ mayN b.data.toList = false) : cmpS a b = 0 := by
  unfold cmpS
  rw [if_neg]
  rintro ⟨h1, h2⟩
  rcases h with h | h
  · rw [h] at h1; cases h1
  · rw [h] at h2; cases h2
theorem inS_no {a b : ByteArray} (h : mayN a.data.toList = false ∨ mayN b.data.toList = false) : inS a b = false := by
  unfold inS
  rcases h with h | h <;> rw [h] <;> simp
theorem two_may (a b : ByteArray) : (mayN a.data.toList = false ∨ mayN b.data.toList = false) ∨ (∃ L M, okL L ∧ okL M ∧ a = mk (enc L) ∧ b = mk (enc M)) := by
  rcases ha : mayN a.data.toList with _ | _
  · exact .inl (.inl rfl)
  · rcases hb : mayN b.data.toList with _ | _
    · exact .inl (.inr rfl)
    · obtain ⟨L, hL, e⟩ := may_mk ha
      obtain ⟨M, hM, e'⟩ := may_mk hb
      exact .inr ⟨L, M, hL, hM, e, e'⟩
theorem inS_may {a b : ByteArray} (h : inS a b = true) : mayN a.data.toList = true ∧ mayN b.data.toList = true := by
  unfold inS at h
  rw [Bool.and_eq_true, Bool.and_eq_true] at h
  exact h.1

theorem may_s (s : ByteArray) (hs : s.size ≤ 3000) (w : World) : Calls Try.prog 13 #[.string s] w fun e w' => e = .returned (.bool (mayN s.data.toList)) ∧ Still w w' := by
  refine (may_any s (by unfold maxLen; omega) w).mono ?_
  rintro e w' ⟨rfl, q, rfl⟩
  exact ⟨rfl, Still.quiet _ _⟩
theorem fold_s (s : ByteArray) (hs : s.size ≤ 3000) (w : World) : Calls Try.prog 23 #[.string s] w fun e w' => e = .returned (.string (foldS s)) ∧ Still w w' := fold_any s (by unfold maxLen; omega) w
theorem foldS_size (s : ByteArray) (hs : s.size ≤ 3000) : (foldS s).size ≤ 3000 := by
  unfold foldS
  by_cases h : mayN s.data.toList = true
  · rw [if_pos h, mk_size, List.length_map, Array.length_toList]; exact hs
  · rw [if_neg h, mk_size]; simp
theorem same_s (a b : ByteArray) (ha : a.size ≤ 3000) (hb : b.size ≤ 3000) (w : World) : Calls Try.prog 21 #[.string a, .string b] w fun e w' => e = .returned (.bool (sameS a b)) ∧ Still w w' := same_any a b (by unfold maxLen; omega) (by unfold maxLen; omega) w
theorem compare_s (a b : ByteArray) (ha : a.size ≤ 3000) (hb : b.size ≤ 3000) (w : World) : Calls Try.prog 22 #[.string a, .string b] w fun e w' => e = .returned (.int .i64 (cmpS a b)) ∧ Still w w' := by
  rcases two_may a b with h | ⟨L, M, hL, hM, rfl, rfl⟩
  · rw [cmpS_no h]
    exact compare_no a b (by unfold maxLen; omega) (by unfold maxLen; omega) h w
  · rw [cmpS_enc hL hM]
    exact compare_any L M hL hM w
theorem within_s (a b : ByteArray) (ha : a.size ≤ 3000) (hb : b.size ≤ 3000) (w : World) : Calls Try.prog 30 #[.string a, .string b] w fun e w' => e = .returned (.bool (inS a b)) ∧ Still w w' := by
  rcases two_may a b with h | ⟨L, M, hL, hM, rfl, rfl⟩
  · rw [inS_no h]
    exact within_no a b (by unfold maxLen; omega) (by unfold maxLen; omega) h w
  · rw [inS_enc hL hM]
    exact within_any L M hL hM w

/-! ### the row of names -/
theorem cmpS_rng (a b : ByteArray) : cmpS a b = -1 ∨ cmpS a b = 0 ∨ cmpS a b = 1 := by
  rcases two_may a b with h | ⟨L, M, hL, hM, rfl, rfl⟩
  · rw [cmpS_no h]; exact .inr (.inl rfl)
  · rw [cmpS_enc hL hM]; exact cmpN_rng L M
theorem cmpS_anti (a b : ByteArray) : cmpS b a = - cmpS a b := by
  rcases two_may a b with h | ⟨L, M, hL, hM, rfl, rfl⟩
  · rw [cmpS_no h, cmpS_no h.symm]; rfl
  · rw [cmpS_enc hL hM, cmpS_enc hM hL]; exact cmpN_anti L M
theorem cmpS_same {a b : ByteArray} (ha : mayN a.data.toList = true) (hb : mayN b.data.toList = true) : sameS a b = decide (cmpS a b = 0) := by
  obtain ⟨L, hL, rfl⟩ := may_mk ha
  obtain ⟨M, hM, rfl⟩ := may_mk hb
  rw [cmpS_enc hL hM, sameS_enc hL hM]
  by_cases e : fold L = fold M
  · rw [decide_eq_true e, decide_eq_true ((cmpN_zero L M).2 e)]
  · rw [decide_eq_false e, decide_eq_false (fun h => e ((cmpN_zero L M).1 h))]
theorem cmpS_self (a : ByteArray) : cmpS a a = 0 := by
  have := cmpS_anti a a
  omega
theorem cmpS_trans {a b c : ByteArray} (ha : mayN a.data.toList = true) (hb : mayN b.data.toList = true) (hc : mayN c.data.toList = true) (h1 : cmpS a b ≤ 0) (h2 : cmpS b c ≤ 0) : cmpS a c = if cmpS a b < 0 ∨ cmpS b c < 0 then -1 else 0 := by
  obtain ⟨L, hL, rfl⟩ := may_mk ha
  obtain ⟨M, hM, rfl⟩ := may_mk hb
  obtain ⟨N, hN, rfl⟩ := may_mk hc
  rw [cmpS_enc hL hM] at h1 ⊢
  rw [cmpS_enc hM hN] at h2 ⊢
  rw [cmpS_enc hL hN]
  have r1 := cmpN_rng L N
  by_cases e1 : cmpN L M = 0
  · have e := (cmpN_zero L M).1 e1
    have : cmpN L N = cmpN M N := by unfold cmpN; rw [e]
    rw [this, e1]
    have := cmpN_rng M N
    split <;> omega
  · by_cases e2 : cmpN M N = 0
    · have e := (cmpN_zero M N).1 e2
      have : cmpN L N = cmpN L M := by unfold cmpN; rw [e]
      rw [this, e2]
      have := cmpN_rng L M
      split <;> omega
    · have := cmpN_trans L M N (by omega) (by omega)
      rw [if_pos (.inl (by omega))]
      omega
theorem inS_cmp {a z : ByteArray} (h : inS a z = true) : cmpS z a ≤ 0 := by
  obtain ⟨ha, hz⟩ := inS_may h
  obtain ⟨L, hL, rfl⟩ := may_mk ha
  obtain ⟨Z, hZ, rfl⟩ := may_mk hz
  rw [inS_enc hL hZ] at h
  rw [cmpS_enc hZ hL]
  exact inN_cmp h
theorem inS_between {a b c z : ByteArray} (hb : mayN b.data.toList = true) (h : inS a z = true) (k : inS c z = true) (h1 : cmpS a b ≤ 0) (h2 : cmpS b c ≤ 0) : inS b z = true := by
  obtain ⟨ha, hz⟩ := inS_may h
  obtain ⟨hc, _⟩ := inS_may k
  obtain ⟨L, hL, rfl⟩ := may_mk ha
  obtain ⟨M, hM, rfl⟩ := may_mk hb
  obtain ⟨N, hN, rfl⟩ := may_mk hc
  obtain ⟨Z, hZ, rfl⟩ := may_mk hz
  rw [inS_enc hL hZ] at h
  rw [inS_enc hN hZ] at k
  rw [cmpS_enc hL hM] at h1
  rw [cmpS_enc hM hN] at h2
  rw [inS_enc hM hZ]
  exact inN_between h k h1 h2
end Go.Proofs.Ytjenabcjikdnaaa
