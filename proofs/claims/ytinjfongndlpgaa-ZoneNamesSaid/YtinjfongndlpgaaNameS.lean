/-
  Package name: what the functions that zone calls say of whatever bytes.
-/
import Derived.Test.YtinjfongndlpgaaZoneMath
namespace Go.Proofs.Ytinjfongndlpgaa
open Go.RowKit
set_option linter.unusedVariables false
set_option linter.unusedSimpArgs false

def labs (s : ByteArray) : List Lab := (dec s.data.toList.length s.data.toList).getD []
theorem labs_enc {L : List Lab} (h : okL L) : labs (mk (enc L)) = L := by
  unfold labs
  rw [mk_list, dec_enc L _ h.1 (Nat.le_refl _)]
  rfl
def inS (a b : ByteArray) : Bool := mayN a.data.toList && mayN b.data.toList && inN (labs a) (labs b)
theorem inS_enc {L M : List Lab} (h : okL L) (k : okL M) : inS (mk (enc L)) (mk (enc M)) = inN L M := by
  unfold inS
  rw [may_b h, may_b k, labs_enc h, labs_enc k]; rfl
theorem inS_no {a b : ByteArray} (h : mayN a.data.toList = false ∨ mayN b.data.toList = false) : inS a b = false := by
  unfold inS
  rcases h with h | h <;> rw [h] <;> simp
theorem two_may (a b : ByteArray) : (mayN a.data.toList = false ∨ mayN b.data.toList = false) ∨ (∃ L M, okL L ∧ okL M ∧ a = mk (enc L) ∧ b = mk (enc M)) := by
  rcases ha : mayN a.data.toList with _ | _
  · exact .inl (.inl rfl)
  · rcases hb : mayN b.data.toList with _ | _
    · exact .inl (.inr rfl)
    · obtain ⟨L, hL, e⟩ := may_mk ha
      obtain ⟨M, hM, e'⟩ := may_mk hb
      exact .inr ⟨L, M, hL, hM, e, e'⟩
theorem may_s (s : ByteArray) (hs : s.size ≤ 30000) (w : World) : Calls Try.prog 19 #[.string s] w fun e w' => e = .returned (.bool (mayN s.data.toList)) ∧ Still w w' := by
  refine (may_any s (by unfold maxLen; omega) w).mono ?_
  rintro e w' ⟨rfl, q, rfl⟩
  exact ⟨rfl, Still.quiet _ _⟩
theorem fold_s (s : ByteArray) (hs : s.size ≤ 30000) (w : World) : Calls Try.prog 20 #[.string s] w fun e w' => e = .returned (.string (foldS s)) ∧ Still w w' := fold_any s (by unfold maxLen; omega) w
theorem foldS_size (s : ByteArray) (hs : s.size ≤ 30000) : (foldS s).size ≤ 30000 := by
  unfold foldS
  by_cases h : mayN s.data.toList = true
  · rw [if_pos h, mk_size, List.length_map, Array.length_toList]; exact hs
  · rw [if_neg h, mk_size]; simp
theorem within_s (a b : ByteArray) (ha : a.size ≤ 30000) (hb : b.size ≤ 30000) (w : World) : Calls Try.prog 17 #[.string a, .string b] w fun e w' => e = .returned (.bool (inS a b)) ∧ Still w w' := by
  rcases two_may a b with h | ⟨L, M, hL, hM, rfl, rfl⟩
  · rw [inS_no h]
    exact within_no a b (by unfold maxLen; omega) (by unfold maxLen; omega) h w
  · rw [inS_enc hL hM]
    exact within_any L M hL hM w
theorem labels_c (s : ByteArray) (hs : s.size ≤ 30000) (w : World) : Calls Try.prog 24 #[.string s] w fun e w' => ∃ A c, e = .returned (.slice A (nl s) c) ∧ Still w w' := by
  rcases h : mayN s.data.toList with _ | _
  · rw [nl_no h]
    refine (labels_no s (by unfold maxLen; omega) h w).mono ?_
    rintro e w' ⟨rfl, hs⟩
    exact ⟨none, 0, rfl, hs⟩
  · obtain ⟨L, hL, e⟩ := may_mk h
    subst e
    rw [nl_enc hL]
    refine (labels_any L hL w).mono ?_
    rintro e w' ⟨A, c, rfl, _, hs⟩
    exact ⟨A, c, rfl, hs⟩
end Go.Proofs.Ytinjfongndlpgaa
