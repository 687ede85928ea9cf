/-
  NameTogether.
-/
import Derived.Test.YtjenabcjikdnaaaNameLaw
namespace Go.Proofs.Ytjenabcjikdnaaa
open Go.RowKit
set_option linter.unusedVariables false
set_option linter.unusedSimpArgs false

set_option maxRecDepth 1000000 in
set_option maxHeartbeats 6400000 in
theorem together_walk (w : World) (a : ByteArray) (ha : a.size ≤ maxLen) (b : ByteArray) (hb : b.size ≤ maxLen) (c : ByteArray) (hc : c.size ≤ maxLen) (z : ByteArray) (hz : z.size ≤ maxLen) :
    Calls Try.prog 9 #[.string a, .string b, .string c, .string z] w fun e w' => e = .returned (.bool true) ∧ Still w w' := by
  clear ha hb hc hz
  have hS : Still w w := Only.refl _ _
  go_enter Try.func9, Try.ntmps9
  by_cases za : 1000 < a.size
  · have ia : (1000 : Int) < (a.size : Int) := by omega
    go_wp2_with (first | (go_at_call 12; refine (name_awake _).mono ?_; rintro e w' ⟨rfl, hst⟩; have hS := hS.still hst; clear hst) | (go_at_call 13; refine (may_s _ (by assumption) _).mono ?_; rintro e w' ⟨rfl, hst⟩; have hS := hS.still hst; clear hst) | (go_at_call 21; refine (same_s _ _ (by assumption) (by assumption) _).mono ?_; rintro e w' ⟨rfl, hst⟩; have hS := hS.still hst; clear hst) | (go_at_call 22; refine (compare_s _ _ (by assumption) (by assumption) _).mono ?_; rintro e w' ⟨rfl, hst⟩; have hS := hS.still hst; clear hst) | (go_at_call 30; refine (within_s _ _ (by assumption) (by assumption) _).mono ?_; rintro e w' ⟨rfl, hst⟩; have hS := hS.still hst; clear hst) | (go_at_call 23; refine (fold_s _ (by assumption) _).mono ?_; rintro e w' ⟨rfl, hst⟩; have hS := hS.still hst; clear hst))
    go_ret
    exact ⟨rfl, hS⟩
  have ia : ¬ (1000 : Int) < (a.size : Int) := by omega
  have sa : a.size ≤ 3000 := by omega
  clear za
  by_cases zb : 1000 < b.size
  · have ib : (1000 : Int) < (b.size : Int) := by omega
    go_wp2_with (first | (go_at_call 12; refine (name_awake _).mono ?_; rintro e w' ⟨rfl, hst⟩; have hS := hS.still hst; clear hst) | (go_at_call 13; refine (may_s _ (by assumption) _).mono ?_; rintro e w' ⟨rfl, hst⟩; have hS := hS.still hst; clear hst) | (go_at_call 21; refine (same_s _ _ (by assumption) (by assumption) _).mono ?_; rintro e w' ⟨rfl, hst⟩; have hS := hS.still hst; clear hst) | (go_at_call 22; refine (compare_s _ _ (by assumption) (by assumption) _).mono ?_; rintro e w' ⟨rfl, hst⟩; have hS := hS.still hst; clear hst) | (go_at_call 30; refine (within_s _ _ (by assumption) (by assumption) _).mono ?_; rintro e w' ⟨rfl, hst⟩; have hS := hS.still hst; clear hst) | (go_at_call 23; refine (fold_s _ (by assumption) _).mono ?_; rintro e w' ⟨rfl, hst⟩; have hS := hS.still hst; clear hst))
    go_ret
    exact ⟨rfl, hS⟩
  have ib : ¬ (1000 : Int) < (b.size : Int) := by omega
  have sb : b.size ≤ 3000 := by omega
  clear zb
  by_cases zc : 1000 < c.size
  · have ic : (1000 : Int) < (c.size : Int) := by omega
    go_wp2_with (first | (go_at_call 12; refine (name_awake _).mono ?_; rintro e w' ⟨rfl, hst⟩; have hS := hS.still hst; clear hst) | (go_at_call 13; refine (may_s _ (by assumption) _).mono ?_; rintro e w' ⟨rfl, hst⟩; have hS := hS.still hst; clear hst) | (go_at_call 21; refine (same_s _ _ (by assumption) (by assumption) _).mono ?_; rintro e w' ⟨rfl, hst⟩; have hS := hS.still hst; clear hst) | (go_at_call 22; refine (compare_s _ _ (by assumption) (by assumption) _).mono ?_; rintro e w' ⟨rfl, hst⟩; have hS := hS.still hst; clear hst) | (go_at_call 30; refine (within_s _ _ (by assumption) (by assumption) _).mono ?_; rintro e w' ⟨rfl, hst⟩; have hS := hS.still hst; clear hst) | (go_at_call 23; refine (fold_s _ (by assumption) _).mono ?_; rintro e w' ⟨rfl, hst⟩; have hS := hS.still hst; clear hst))
    go_ret
    exact ⟨rfl, hS⟩
  have ic : ¬ (1000 : Int) < (c.size : Int) := by omega
  have sc : c.size ≤ 3000 := by omega
  clear zc
  by_cases zz : 1000 < z.size
  · have iz : (1000 : Int) < (z.size : Int) := by omega
    go_wp2_with (first | (go_at_call 12; refine (name_awake _).mono ?_; rintro e w' ⟨rfl, hst⟩; have hS := hS.still hst; clear hst) | (go_at_call 13; refine (may_s _ (by assumption) _).mono ?_; rintro e w' ⟨rfl, hst⟩; have hS := hS.still hst; clear hst) | (go_at_call 21; refine (same_s _ _ (by assumption) (by assumption) _).mono ?_; rintro e w' ⟨rfl, hst⟩; have hS := hS.still hst; clear hst) | (go_at_call 22; refine (compare_s _ _ (by assumption) (by assumption) _).mono ?_; rintro e w' ⟨rfl, hst⟩; have hS := hS.still hst; clear hst) | (go_at_call 30; refine (within_s _ _ (by assumption) (by assumption) _).mono ?_; rintro e w' ⟨rfl, hst⟩; have hS := hS.still hst; clear hst) | (go_at_call 23; refine (fold_s _ (by assumption) _).mono ?_; rintro e w' ⟨rfl, hst⟩; have hS := hS.still hst; clear hst))
    go_ret
    exact ⟨rfl, hS⟩
  have iz : ¬ (1000 : Int) < (z.size : Int) := by omega
  have sz : z.size ≤ 3000 := by omega
  clear zz
  have H1 := Lib.hid (fun h => inS_cmp (a := a) (z := z) h)
  have H2 := Lib.hid (fun h0 h1 h2 h3 h4 => inS_between (a := a) (b := b) (c := c) (z := z) h0 h1 h2 h3 h4)
  rcases az : inS a z with _ | _
  · rcases mb : mayN b.data.toList with _ | _
    · go_wp2_with (first | (go_at_call 12; refine (name_awake _).mono ?_; rintro e w' ⟨rfl, hst⟩; have hS := hS.still hst; clear hst) | (go_at_call 13; refine (may_s _ (by assumption) _).mono ?_; rintro e w' ⟨rfl, hst⟩; have hS := hS.still hst; clear hst) | (go_at_call 21; refine (same_s _ _ (by assumption) (by assumption) _).mono ?_; rintro e w' ⟨rfl, hst⟩; have hS := hS.still hst; clear hst) | (go_at_call 22; refine (compare_s _ _ (by assumption) (by assumption) _).mono ?_; rintro e w' ⟨rfl, hst⟩; have hS := hS.still hst; clear hst) | (go_at_call 30; refine (within_s _ _ (by assumption) (by assumption) _).mono ?_; rintro e w' ⟨rfl, hst⟩; have hS := hS.still hst; clear hst) | (go_at_call 23; refine (fold_s _ (by assumption) _).mono ?_; rintro e w' ⟨rfl, hst⟩; have hS := hS.still hst; clear hst))
      go_ret
      exact ⟨rfl, hS⟩
    · go_wp2_with (first | (go_at_call 12; refine (name_awake _).mono ?_; rintro e w' ⟨rfl, hst⟩; have hS := hS.still hst; clear hst) | (go_at_call 13; refine (may_s _ (by assumption) _).mono ?_; rintro e w' ⟨rfl, hst⟩; have hS := hS.still hst; clear hst) | (go_at_call 21; refine (same_s _ _ (by assumption) (by assumption) _).mono ?_; rintro e w' ⟨rfl, hst⟩; have hS := hS.still hst; clear hst) | (go_at_call 22; refine (compare_s _ _ (by assumption) (by assumption) _).mono ?_; rintro e w' ⟨rfl, hst⟩; have hS := hS.still hst; clear hst) | (go_at_call 30; refine (within_s _ _ (by assumption) (by assumption) _).mono ?_; rintro e w' ⟨rfl, hst⟩; have hS := hS.still hst; clear hst) | (go_at_call 23; refine (fold_s _ (by assumption) _).mono ?_; rintro e w' ⟨rfl, hst⟩; have hS := hS.still hst; clear hst))
      go_ret
      exact ⟨rfl, hS⟩
  have h1 := H1.out az
  have i1 : ¬ 0 < cmpS z a := by omega
  clear h1 H1
  rcases mb : mayN b.data.toList with _ | _
  · go_wp2_with (first | (go_at_call 12; refine (name_awake _).mono ?_; rintro e w' ⟨rfl, hst⟩; have hS := hS.still hst; clear hst) | (go_at_call 13; refine (may_s _ (by assumption) _).mono ?_; rintro e w' ⟨rfl, hst⟩; have hS := hS.still hst; clear hst) | (go_at_call 21; refine (same_s _ _ (by assumption) (by assumption) _).mono ?_; rintro e w' ⟨rfl, hst⟩; have hS := hS.still hst; clear hst) | (go_at_call 22; refine (compare_s _ _ (by assumption) (by assumption) _).mono ?_; rintro e w' ⟨rfl, hst⟩; have hS := hS.still hst; clear hst) | (go_at_call 30; refine (within_s _ _ (by assumption) (by assumption) _).mono ?_; rintro e w' ⟨rfl, hst⟩; have hS := hS.still hst; clear hst) | (go_at_call 23; refine (fold_s _ (by assumption) _).mono ?_; rintro e w' ⟨rfl, hst⟩; have hS := hS.still hst; clear hst))
    go_ret
    exact ⟨rfl, hS⟩
  rcases cz : inS c z with _ | _
  · go_wp2_with (first | (go_at_call 12; refine (name_awake _).mono ?_; rintro e w' ⟨rfl, hst⟩; have hS := hS.still hst; clear hst) | (go_at_call 13; refine (may_s _ (by assumption) _).mono ?_; rintro e w' ⟨rfl, hst⟩; have hS := hS.still hst; clear hst) | (go_at_call 21; refine (same_s _ _ (by assumption) (by assumption) _).mono ?_; rintro e w' ⟨rfl, hst⟩; have hS := hS.still hst; clear hst) | (go_at_call 22; refine (compare_s _ _ (by assumption) (by assumption) _).mono ?_; rintro e w' ⟨rfl, hst⟩; have hS := hS.still hst; clear hst) | (go_at_call 30; refine (within_s _ _ (by assumption) (by assumption) _).mono ?_; rintro e w' ⟨rfl, hst⟩; have hS := hS.still hst; clear hst) | (go_at_call 23; refine (fold_s _ (by assumption) _).mono ?_; rintro e w' ⟨rfl, hst⟩; have hS := hS.still hst; clear hst))
    go_ret
    exact ⟨rfl, hS⟩
  by_cases x : cmpS a b ≤ 0
  · by_cases y : cmpS b c ≤ 0
    · have hbz := H2.out mb az cz x y
      clear H2
      go_wp2_with (first | (go_at_call 12; refine (name_awake _).mono ?_; rintro e w' ⟨rfl, hst⟩; have hS := hS.still hst; clear hst) | (go_at_call 13; refine (may_s _ (by assumption) _).mono ?_; rintro e w' ⟨rfl, hst⟩; have hS := hS.still hst; clear hst) | (go_at_call 21; refine (same_s _ _ (by assumption) (by assumption) _).mono ?_; rintro e w' ⟨rfl, hst⟩; have hS := hS.still hst; clear hst) | (go_at_call 22; refine (compare_s _ _ (by assumption) (by assumption) _).mono ?_; rintro e w' ⟨rfl, hst⟩; have hS := hS.still hst; clear hst) | (go_at_call 30; refine (within_s _ _ (by assumption) (by assumption) _).mono ?_; rintro e w' ⟨rfl, hst⟩; have hS := hS.still hst; clear hst) | (go_at_call 23; refine (fold_s _ (by assumption) _).mono ?_; rintro e w' ⟨rfl, hst⟩; have hS := hS.still hst; clear hst))
      go_ret
      exact ⟨rfl, hS⟩
    · clear H2
      go_wp2_with (first | (go_at_call 12; refine (name_awake _).mono ?_; rintro e w' ⟨rfl, hst⟩; have hS := hS.still hst; clear hst) | (go_at_call 13; refine (may_s _ (by assumption) _).mono ?_; rintro e w' ⟨rfl, hst⟩; have hS := hS.still hst; clear hst) | (go_at_call 21; refine (same_s _ _ (by assumption) (by assumption) _).mono ?_; rintro e w' ⟨rfl, hst⟩; have hS := hS.still hst; clear hst) | (go_at_call 22; refine (compare_s _ _ (by assumption) (by assumption) _).mono ?_; rintro e w' ⟨rfl, hst⟩; have hS := hS.still hst; clear hst) | (go_at_call 30; refine (within_s _ _ (by assumption) (by assumption) _).mono ?_; rintro e w' ⟨rfl, hst⟩; have hS := hS.still hst; clear hst) | (go_at_call 23; refine (fold_s _ (by assumption) _).mono ?_; rintro e w' ⟨rfl, hst⟩; have hS := hS.still hst; clear hst))
      go_ret
      exact ⟨rfl, hS⟩
  · clear H2
    go_wp2_with (first | (go_at_call 12; refine (name_awake _).mono ?_; rintro e w' ⟨rfl, hst⟩; have hS := hS.still hst; clear hst) | (go_at_call 13; refine (may_s _ (by assumption) _).mono ?_; rintro e w' ⟨rfl, hst⟩; have hS := hS.still hst; clear hst) | (go_at_call 21; refine (same_s _ _ (by assumption) (by assumption) _).mono ?_; rintro e w' ⟨rfl, hst⟩; have hS := hS.still hst; clear hst) | (go_at_call 22; refine (compare_s _ _ (by assumption) (by assumption) _).mono ?_; rintro e w' ⟨rfl, hst⟩; have hS := hS.still hst; clear hst) | (go_at_call 30; refine (within_s _ _ (by assumption) (by assumption) _).mono ?_; rintro e w' ⟨rfl, hst⟩; have hS := hS.still hst; clear hst) | (go_at_call 23; refine (fold_s _ (by assumption) _).mono ?_; rintro e w' ⟨rfl, hst⟩; have hS := hS.still hst; clear hst))
    go_ret
    exact ⟨rfl, hS⟩
end Go.Proofs.Ytjenabcjikdnaaa
