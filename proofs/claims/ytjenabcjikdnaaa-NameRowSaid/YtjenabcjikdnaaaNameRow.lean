/-
  NameRow.
-/
import Derived.Test.YtjenabcjikdnaaaNameLaw
namespace Go.Proofs.Ytjenabcjikdnaaa
open Go.RowKit
set_option linter.unusedVariables false
set_option linter.unusedSimpArgs false

set_option maxRecDepth 1000000 in
set_option maxHeartbeats 6400000 in
theorem row_walk (w : World) (a : ByteArray) (ha : a.size ≤ maxLen) (b : ByteArray) (hb : b.size ≤ maxLen) (c : ByteArray) (hc : c.size ≤ maxLen) :
    Calls Try.prog 8 #[.string a, .string b, .string c] w fun e w' => e = .returned (.bool true) ∧ Still w w' := by
  clear ha hb hc
  have hS : Still w w := Only.refl _ _
  go_enter Try.func8, Try.ntmps8
  by_cases za : 1000 < a.size
  · have ia : (1000 : Int) < (a.size : Int) := by omega
    go_wp2_with (first | (go_at_call 12; refine (name_awake _).mono ?_; rintro e w' ⟨rfl, hst⟩; have hS := hS.still hst; clear hst) | (go_at_call 13; refine (may_s _ (by assumption) _).mono ?_; rintro e w' ⟨rfl, hst⟩; have hS := hS.still hst; clear hst) | (go_at_call 21; refine (same_s _ _ (by assumption) (by assumption) _).mono ?_; rintro e w' ⟨rfl, hst⟩; have hS := hS.still hst; clear hst) | (go_at_call 22; refine (compare_s _ _ (by assumption) (by assumption) _).mono ?_; rintro e w' ⟨rfl, hst⟩; have hS := hS.still hst; clear hst) | (go_at_call 30; refine (within_s _ _ (by assumption) (by assumption) _).mono ?_; rintro e w' ⟨rfl, hst⟩; have hS := hS.still hst; clear hst) | (go_at_call 23; refine (fold_s _ (by assumption) _).mono ?_; rintro e w' ⟨rfl, hst⟩; have hS := hS.still hst; clear hst))
    go_ret
    exact ⟨rfl, hS⟩
  have ia : ¬ (1000 : Int) < (a.size : Int) := by omega
  have sa : a.size ≤ 3000 := by omega
  clear za
  by_cases zb : 1000 < b.size
  · have ib : (1000 : Int) < (b.size : Int) := by omega
    go_wp2_with (first | (go_at_call 12; refine (name_awake _).mono ?_; rintro e w' ⟨rfl, hst⟩; have hS := hS.still hst; clear hst) | (go_at_call 13; refine (may_s _ (by assumption) _).mono ?_; rintro e w' ⟨rfl, hst⟩; have hS := hS.still hst; clear hst) | (go_at_call 21; refine (same_s _ _ (by assumption) (by assumption) _).mono ?_; rintro e w' ⟨rfl, hst⟩; have hS := hS.still hst; clear hst) | (go_at_call 22; refine (compare_s _ _ (by assumption) (by assumption) _).mono ?_; rintro e w' ⟨rfl, hst⟩; have hS := hS.still hst; clear hst) | (go_at_call 30; refine (within_s _ _ (by assumption) (by assumption) _).mono ?_; rintro e w' ⟨rfl, hst⟩; have hS := hS.still hst; clear hst) | (go_at_call 23; refine (fold_s _ (by assumption) _).mono ?_; rintro e w' ⟨rfl, hst⟩; have hS := hS.still hst; clear hst))
    go_ret
    exact ⟨rfl, hS⟩
  have ib : ¬ (1000 : Int) < (b.size : Int) := by omega
  have sb : b.size ≤ 3000 := by omega
  clear zb
  by_cases zc : 1000 < c.size
  · have ic : (1000 : Int) < (c.size : Int) := by omega
    go_wp2_with (first | (go_at_call 12; refine (name_awake _).mono ?_; rintro e w' ⟨rfl, hst⟩; have hS := hS.still hst; clear hst) | (go_at_call 13; refine (may_s _ (by assumption) _).mono ?_; rintro e w' ⟨rfl, hst⟩; have hS := hS.still hst; clear hst) | (go_at_call 21; refine (same_s _ _ (by assumption) (by assumption) _).mono ?_; rintro e w' ⟨rfl, hst⟩; have hS := hS.still hst; clear hst) | (go_at_call 22; refine (compare_s _ _ (by assumption) (by assumption) _).mono ?_; rintro e w' ⟨rfl, hst⟩; have hS := hS.still hst; clear hst) | (go_at_call 30; refine (within_s _ _ (by assumption) (by assumption) _).mono ?_; rintro e w' ⟨rfl, hst⟩; have hS := hS.still hst; clear hst) | (go_at_call 23; refine (fold_s _ (by assumption) _).mono ?_; rintro e w' ⟨rfl, hst⟩; have hS := hS.still hst; clear hst))
    go_ret
    exact ⟨rfl, hS⟩
  have ic : ¬ (1000 : Int) < (c.size : Int) := by omega
  have sc : c.size ≤ 3000 := by omega
  clear zc
  rcases ma : mayN a.data.toList with _ | _
  · go_wp2_with (first | (go_at_call 12; refine (name_awake _).mono ?_; rintro e w' ⟨rfl, hst⟩; have hS := hS.still hst; clear hst) | (go_at_call 13; refine (may_s _ (by assumption) _).mono ?_; rintro e w' ⟨rfl, hst⟩; have hS := hS.still hst; clear hst) | (go_at_call 21; refine (same_s _ _ (by assumption) (by assumption) _).mono ?_; rintro e w' ⟨rfl, hst⟩; have hS := hS.still hst; clear hst) | (go_at_call 22; refine (compare_s _ _ (by assumption) (by assumption) _).mono ?_; rintro e w' ⟨rfl, hst⟩; have hS := hS.still hst; clear hst) | (go_at_call 30; refine (within_s _ _ (by assumption) (by assumption) _).mono ?_; rintro e w' ⟨rfl, hst⟩; have hS := hS.still hst; clear hst) | (go_at_call 23; refine (fold_s _ (by assumption) _).mono ?_; rintro e w' ⟨rfl, hst⟩; have hS := hS.still hst; clear hst))
    go_ret
    exact ⟨rfl, hS⟩
  rcases mb : mayN b.data.toList with _ | _
  · go_wp2_with (first | (go_at_call 12; refine (name_awake _).mono ?_; rintro e w' ⟨rfl, hst⟩; have hS := hS.still hst; clear hst) | (go_at_call 13; refine (may_s _ (by assumption) _).mono ?_; rintro e w' ⟨rfl, hst⟩; have hS := hS.still hst; clear hst) | (go_at_call 21; refine (same_s _ _ (by assumption) (by assumption) _).mono ?_; rintro e w' ⟨rfl, hst⟩; have hS := hS.still hst; clear hst) | (go_at_call 22; refine (compare_s _ _ (by assumption) (by assumption) _).mono ?_; rintro e w' ⟨rfl, hst⟩; have hS := hS.still hst; clear hst) | (go_at_call 30; refine (within_s _ _ (by assumption) (by assumption) _).mono ?_; rintro e w' ⟨rfl, hst⟩; have hS := hS.still hst; clear hst) | (go_at_call 23; refine (fold_s _ (by assumption) _).mono ?_; rintro e w' ⟨rfl, hst⟩; have hS := hS.still hst; clear hst))
    go_ret
    exact ⟨rfl, hS⟩
  rcases mc : mayN c.data.toList with _ | _
  · go_wp2_with (first | (go_at_call 12; refine (name_awake _).mono ?_; rintro e w' ⟨rfl, hst⟩; have hS := hS.still hst; clear hst) | (go_at_call 13; refine (may_s _ (by assumption) _).mono ?_; rintro e w' ⟨rfl, hst⟩; have hS := hS.still hst; clear hst) | (go_at_call 21; refine (same_s _ _ (by assumption) (by assumption) _).mono ?_; rintro e w' ⟨rfl, hst⟩; have hS := hS.still hst; clear hst) | (go_at_call 22; refine (compare_s _ _ (by assumption) (by assumption) _).mono ?_; rintro e w' ⟨rfl, hst⟩; have hS := hS.still hst; clear hst) | (go_at_call 30; refine (within_s _ _ (by assumption) (by assumption) _).mono ?_; rintro e w' ⟨rfl, hst⟩; have hS := hS.still hst; clear hst) | (go_at_call 23; refine (fold_s _ (by assumption) _).mono ?_; rintro e w' ⟨rfl, hst⟩; have hS := hS.still hst; clear hst))
    go_ret
    exact ⟨rfl, hS⟩
  have hba := cmpS_anti a b
  have haa := cmpS_self a
  have hsm := cmpS_same ma mb
  have htr := cmpS_trans ma mb mc
  rcases cmpS_rng a b with x | x | x <;> rcases cmpS_rng b c with y | y | y <;> rw [x] at hba hsm htr <;> rw [y] at htr
  · have hba' : cmpS b a = 1 := hba
    have hsm' : sameS a b = false := hsm
    have hz : cmpS a c = -1 := htr (by decide) (by decide)
    clear hba hsm htr
    go_wp2_with (first | (go_at_call 12; refine (name_awake _).mono ?_; rintro e w' ⟨rfl, hst⟩; have hS := hS.still hst; clear hst) | (go_at_call 13; refine (may_s _ (by assumption) _).mono ?_; rintro e w' ⟨rfl, hst⟩; have hS := hS.still hst; clear hst) | (go_at_call 21; refine (same_s _ _ (by assumption) (by assumption) _).mono ?_; rintro e w' ⟨rfl, hst⟩; have hS := hS.still hst; clear hst) | (go_at_call 22; refine (compare_s _ _ (by assumption) (by assumption) _).mono ?_; rintro e w' ⟨rfl, hst⟩; have hS := hS.still hst; clear hst) | (go_at_call 30; refine (within_s _ _ (by assumption) (by assumption) _).mono ?_; rintro e w' ⟨rfl, hst⟩; have hS := hS.still hst; clear hst) | (go_at_call 23; refine (fold_s _ (by assumption) _).mono ?_; rintro e w' ⟨rfl, hst⟩; have hS := hS.still hst; clear hst))
    go_ret
    exact ⟨rfl, hS⟩
  · have hba' : cmpS b a = 1 := hba
    have hsm' : sameS a b = false := hsm
    have hz : cmpS a c = -1 := htr (by decide) (by decide)
    clear hba hsm htr
    go_wp2_with (first | (go_at_call 12; refine (name_awake _).mono ?_; rintro e w' ⟨rfl, hst⟩; have hS := hS.still hst; clear hst) | (go_at_call 13; refine (may_s _ (by assumption) _).mono ?_; rintro e w' ⟨rfl, hst⟩; have hS := hS.still hst; clear hst) | (go_at_call 21; refine (same_s _ _ (by assumption) (by assumption) _).mono ?_; rintro e w' ⟨rfl, hst⟩; have hS := hS.still hst; clear hst) | (go_at_call 22; refine (compare_s _ _ (by assumption) (by assumption) _).mono ?_; rintro e w' ⟨rfl, hst⟩; have hS := hS.still hst; clear hst) | (go_at_call 30; refine (within_s _ _ (by assumption) (by assumption) _).mono ?_; rintro e w' ⟨rfl, hst⟩; have hS := hS.still hst; clear hst) | (go_at_call 23; refine (fold_s _ (by assumption) _).mono ?_; rintro e w' ⟨rfl, hst⟩; have hS := hS.still hst; clear hst))
    go_ret
    exact ⟨rfl, hS⟩
  · have hba' : cmpS b a = 1 := hba
    have hsm' : sameS a b = false := hsm
    clear hba hsm htr
    go_wp2_with (first | (go_at_call 12; refine (name_awake _).mono ?_; rintro e w' ⟨rfl, hst⟩; have hS := hS.still hst; clear hst) | (go_at_call 13; refine (may_s _ (by assumption) _).mono ?_; rintro e w' ⟨rfl, hst⟩; have hS := hS.still hst; clear hst) | (go_at_call 21; refine (same_s _ _ (by assumption) (by assumption) _).mono ?_; rintro e w' ⟨rfl, hst⟩; have hS := hS.still hst; clear hst) | (go_at_call 22; refine (compare_s _ _ (by assumption) (by assumption) _).mono ?_; rintro e w' ⟨rfl, hst⟩; have hS := hS.still hst; clear hst) | (go_at_call 30; refine (within_s _ _ (by assumption) (by assumption) _).mono ?_; rintro e w' ⟨rfl, hst⟩; have hS := hS.still hst; clear hst) | (go_at_call 23; refine (fold_s _ (by assumption) _).mono ?_; rintro e w' ⟨rfl, hst⟩; have hS := hS.still hst; clear hst))
    go_ret
    exact ⟨rfl, hS⟩
  · have hba' : cmpS b a = 0 := hba
    have hsm' : sameS a b = true := hsm
    have hz : cmpS a c = -1 := htr (by decide) (by decide)
    clear hba hsm htr
    go_wp2_with (first | (go_at_call 12; refine (name_awake _).mono ?_; rintro e w' ⟨rfl, hst⟩; have hS := hS.still hst; clear hst) | (go_at_call 13; refine (may_s _ (by assumption) _).mono ?_; rintro e w' ⟨rfl, hst⟩; have hS := hS.still hst; clear hst) | (go_at_call 21; refine (same_s _ _ (by assumption) (by assumption) _).mono ?_; rintro e w' ⟨rfl, hst⟩; have hS := hS.still hst; clear hst) | (go_at_call 22; refine (compare_s _ _ (by assumption) (by assumption) _).mono ?_; rintro e w' ⟨rfl, hst⟩; have hS := hS.still hst; clear hst) | (go_at_call 30; refine (within_s _ _ (by assumption) (by assumption) _).mono ?_; rintro e w' ⟨rfl, hst⟩; have hS := hS.still hst; clear hst) | (go_at_call 23; refine (fold_s _ (by assumption) _).mono ?_; rintro e w' ⟨rfl, hst⟩; have hS := hS.still hst; clear hst))
    go_ret
    exact ⟨rfl, hS⟩
  · have hba' : cmpS b a = 0 := hba
    have hsm' : sameS a b = true := hsm
    have hz : cmpS a c = 0 := htr (by decide) (by decide)
    clear hba hsm htr
    go_wp2_with (first | (go_at_call 12; refine (name_awake _).mono ?_; rintro e w' ⟨rfl, hst⟩; have hS := hS.still hst; clear hst) | (go_at_call 13; refine (may_s _ (by assumption) _).mono ?_; rintro e w' ⟨rfl, hst⟩; have hS := hS.still hst; clear hst) | (go_at_call 21; refine (same_s _ _ (by assumption) (by assumption) _).mono ?_; rintro e w' ⟨rfl, hst⟩; have hS := hS.still hst; clear hst) | (go_at_call 22; refine (compare_s _ _ (by assumption) (by assumption) _).mono ?_; rintro e w' ⟨rfl, hst⟩; have hS := hS.still hst; clear hst) | (go_at_call 30; refine (within_s _ _ (by assumption) (by assumption) _).mono ?_; rintro e w' ⟨rfl, hst⟩; have hS := hS.still hst; clear hst) | (go_at_call 23; refine (fold_s _ (by assumption) _).mono ?_; rintro e w' ⟨rfl, hst⟩; have hS := hS.still hst; clear hst))
    go_ret
    exact ⟨rfl, hS⟩
  · have hba' : cmpS b a = 0 := hba
    have hsm' : sameS a b = true := hsm
    clear hba hsm htr
    go_wp2_with (first | (go_at_call 12; refine (name_awake _).mono ?_; rintro e w' ⟨rfl, hst⟩; have hS := hS.still hst; clear hst) | (go_at_call 13; refine (may_s _ (by assumption) _).mono ?_; rintro e w' ⟨rfl, hst⟩; have hS := hS.still hst; clear hst) | (go_at_call 21; refine (same_s _ _ (by assumption) (by assumption) _).mono ?_; rintro e w' ⟨rfl, hst⟩; have hS := hS.still hst; clear hst) | (go_at_call 22; refine (compare_s _ _ (by assumption) (by assumption) _).mono ?_; rintro e w' ⟨rfl, hst⟩; have hS := hS.still hst; clear hst) | (go_at_call 30; refine (within_s _ _ (by assumption) (by assumption) _).mono ?_; rintro e w' ⟨rfl, hst⟩; have hS := hS.still hst; clear hst) | (go_at_call 23; refine (fold_s _ (by assumption) _).mono ?_; rintro e w' ⟨rfl, hst⟩; have hS := hS.still hst; clear hst))
    go_ret
    exact ⟨rfl, hS⟩
  · have hba' : cmpS b a = -1 := hba
    have hsm' : sameS a b = false := hsm
    clear hba hsm htr
    go_wp2_with (first | (go_at_call 12; refine (name_awake _).mono ?_; rintro e w' ⟨rfl, hst⟩; have hS := hS.still hst; clear hst) | (go_at_call 13; refine (may_s _ (by assumption) _).mono ?_; rintro e w' ⟨rfl, hst⟩; have hS := hS.still hst; clear hst) | (go_at_call 21; refine (same_s _ _ (by assumption) (by assumption) _).mono ?_; rintro e w' ⟨rfl, hst⟩; have hS := hS.still hst; clear hst) | (go_at_call 22; refine (compare_s _ _ (by assumption) (by assumption) _).mono ?_; rintro e w' ⟨rfl, hst⟩; have hS := hS.still hst; clear hst) | (go_at_call 30; refine (within_s _ _ (by assumption) (by assumption) _).mono ?_; rintro e w' ⟨rfl, hst⟩; have hS := hS.still hst; clear hst) | (go_at_call 23; refine (fold_s _ (by assumption) _).mono ?_; rintro e w' ⟨rfl, hst⟩; have hS := hS.still hst; clear hst))
    go_ret
    exact ⟨rfl, hS⟩
  · have hba' : cmpS b a = -1 := hba
    have hsm' : sameS a b = false := hsm
    clear hba hsm htr
    go_wp2_with (first | (go_at_call 12; refine (name_awake _).mono ?_; rintro e w' ⟨rfl, hst⟩; have hS := hS.still hst; clear hst) | (go_at_call 13; refine (may_s _ (by assumption) _).mono ?_; rintro e w' ⟨rfl, hst⟩; have hS := hS.still hst; clear hst) | (go_at_call 21; refine (same_s _ _ (by assumption) (by assumption) _).mono ?_; rintro e w' ⟨rfl, hst⟩; have hS := hS.still hst; clear hst) | (go_at_call 22; refine (compare_s _ _ (by assumption) (by assumption) _).mono ?_; rintro e w' ⟨rfl, hst⟩; have hS := hS.still hst; clear hst) | (go_at_call 30; refine (within_s _ _ (by assumption) (by assumption) _).mono ?_; rintro e w' ⟨rfl, hst⟩; have hS := hS.still hst; clear hst) | (go_at_call 23; refine (fold_s _ (by assumption) _).mono ?_; rintro e w' ⟨rfl, hst⟩; have hS := hS.still hst; clear hst))
    go_ret
    exact ⟨rfl, hS⟩
  · have hba' : cmpS b a = -1 := hba
    have hsm' : sameS a b = false := hsm
    clear hba hsm htr
    go_wp2_with (first | (go_at_call 12; refine (name_awake _).mono ?_; rintro e w' ⟨rfl, hst⟩; have hS := hS.still hst; clear hst) | (go_at_call 13; refine (may_s _ (by assumption) _).mono ?_; rintro e w' ⟨rfl, hst⟩; have hS := hS.still hst; clear hst) | (go_at_call 21; refine (same_s _ _ (by assumption) (by assumption) _).mono ?_; rintro e w' ⟨rfl, hst⟩; have hS := hS.still hst; clear hst) | (go_at_call 22; refine (compare_s _ _ (by assumption) (by assumption) _).mono ?_; rintro e w' ⟨rfl, hst⟩; have hS := hS.still hst; clear hst) | (go_at_call 30; refine (within_s _ _ (by assumption) (by assumption) _).mono ?_; rintro e w' ⟨rfl, hst⟩; have hS := hS.still hst; clear hst) | (go_at_call 23; refine (fold_s _ (by assumption) _).mono ?_; rintro e w' ⟨rfl, hst⟩; have hS := hS.still hst; clear hst))
    go_ret
    exact ⟨rfl, hS⟩
end Go.Proofs.Ytjenabcjikdnaaa
