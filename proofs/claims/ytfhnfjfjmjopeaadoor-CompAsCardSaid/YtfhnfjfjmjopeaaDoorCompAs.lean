/-
  CompAs.
-/
import Derived.Test.YtfhnfjfjmjopeaaDoorCompFacts
namespace Go.Proofs.YtfhnfjfjmjopeaaDoor
open Go.RowKit
set_option linter.unusedVariables false
set_option linter.unusedSimpArgs false

set_option maxRecDepth 1000000 in
set_option maxHeartbeats 6400000 in
theorem as_walk (w : World) (he : ErrT w) (a s b : ByteArray) (ha : a.size ≤ maxLen) (hs : s.size ≤ maxLen) (hb : b.size ≤ maxLen) (at_ : Int) :
    Calls Tryd.prog 7 #[.string a, .string s, .string b, .int .i64 at_] w fun e w' => e = .returned (.bool true) ∧ Still w w' := by
  go_enter Tryd.func7, Tryd.ntmps7
  by_cases g1 : 2000 < a.size
  · have i1 : decide ((a.size : Int) > 2000) = true := decide_eq_true (by omega)
    go_wp2_with (go_at_call 8; refine (comp_awake _ (by assumption)).mono ?_; rintro e w3 ⟨rfl, h3⟩)
    go_ret
    exact ⟨rfl, h3⟩
  have i1 : decide ((a.size : Int) > 2000) = false := decide_eq_false (by omega)
  by_cases g2 : 2000 < b.size
  · have i2 : decide ((b.size : Int) > 2000) = true := decide_eq_true (by omega)
    go_wp2_with (go_at_call 8; refine (comp_awake _ (by assumption)).mono ?_; rintro e w3 ⟨rfl, h3⟩)
    go_ret
    exact ⟨rfl, h3⟩
  have i2 : decide ((b.size : Int) > 2000) = false := decide_eq_false (by omega)
  by_cases g3 : 2000 < s.size
  · have i3 : decide ((s.size : Int) > 2000) = true := decide_eq_true (by omega)
    go_wp2_with (go_at_call 8; refine (comp_awake _ (by assumption)).mono ?_; rintro e w3 ⟨rfl, h3⟩)
    go_ret
    exact ⟨rfl, h3⟩
  have i3 : decide ((s.size : Int) > 2000) = false := decide_eq_false (by omega)
  obtain ⟨X, hX⟩ : ∃ X, a ++ s = X := ⟨_, rfl⟩
  obtain ⟨M, hM⟩ : ∃ M, X ++ b = M := ⟨_, rfl⟩
  have hzX : X.size = a.size + s.size := by rw [← hX, ByteArray.size_append]
  have hzM : M.size = a.size + s.size + b.size := by rw [← hM, ByteArray.size_append, hzX]
  have hMl : M.data.toList = a.data.toList ++ s.data.toList ++ b.data.toList := by rw [← hM, ← hX, app_list, app_list]
  have HMl := Lib.hid hMl
  have z1 : ¬ 9223372036854775807 < a.size + s.size := by omega
  have z2 : ¬ 9223372036854775807 < X.size + b.size := by omega
  have HzX := Lib.hid hzX
  clear hMl hzX
  have hzM' := Lib.hid hzM
  clear hzM
  go_wp2_with (go_at_call 8; refine (comp_awake _ (by assumption)).mono ?_; rintro e w3 ⟨rfl, h3⟩)
  have he3 := he.still h3
  have hzM := hzM'.out
  rcases hm : mayN s.data.toList with _ | _
  · refine (read_in _ M a.size he3 (by omega) (by omega)).mono ?_
    rintro e w4 ⟨rfl, h4⟩
    have he4 := he3.still h4
    have hS4 : Still w w4 := h3.still h4
    clear h3 h4 he3
    generalize readL M.data.toList a.size = R1
    obtain ⟨e1, n1, x1⟩ := R1
    clear hzM
    go_wp2_with (go_at_call 15; refine (may_any s hs _).mono ?_; rintro e w6 ⟨rfl, q6, rfl⟩; rw [hm])
    have he4 := he4.still (Still.quiet _ q6)
    have hS4 := hS4.drewN q6
    have hzM := hzM'.out
    by_cases hr2 : at_ < 0 ∨ (M.size : Int) < at_
    · refine (read_out _ M at_ he4 hr2).mono ?_
      rintro e w5 ⟨rfl, h5⟩
      go_wp2_with fail
      go_ret
      exact ⟨rfl, hS4.still h5⟩
    · obtain ⟨k, rfl⟩ : ∃ k : Nat, at_ = k := ⟨at_.toNat, by omega⟩
      have hkM : k ≤ M.size := by omega
      obtain ⟨R2, hR2⟩ : ∃ R, R = readL M.data.toList k := ⟨_, rfl⟩
      refine (read_in _ M k he4 hkM (by omega)).mono ?_
      rintro e w5 ⟨rfl, h5⟩
      rw [← hR2]
      obtain ⟨er, nn, nx⟩ := R2
      have hS5 := hS4.still h5
      have hR2' := Lib.hid hR2
      clear hR2 h5 he4
      by_cases hz : er = 0
      · subst hz
        obtain ⟨g1, g2, g3, _⟩ := readL_out hR2'.out.symm
        rw [list_size, hzM] at g3
        have gm : mayN (mk nn).data.toList = true := by rw [mk_list]; exact g1
        have gsz : (mk nn).size ≤ maxLen := by
          obtain ⟨L, hL, e⟩ := may_out g1
          rw [mk_size, e, enc_len]; have := hL.2; unfold maxLen; omega
        have dl : decide ((nx : Int) ≤ (a.size : Int) + (s.size : Int) + (b.size : Int)) = true := decide_eq_true (by omega)
        clear g1 hr2
        go_wp2_with (go_at_call 15; refine (may_any _ gsz _).mono ?_; rintro e w6 ⟨rfl, q6, rfl⟩; rw [gm])
        go_ret
        exact ⟨rfl, hS5.drewN q6⟩
      · have d0 : decide ((er : Int) = 0) = false := decide_eq_false (by omega)
        have d1 : ((er : Int) == 0) = false := by rw [beq_eq_false_iff_ne]; omega
        have d2 : ((er : Int) != 0) = true := by rw [bne, d1]; rfl
        clear hr2
        go_wp2_with fail
        go_ret
        exact ⟨rfl, hS5⟩
  · have hrd : readL M.data.toList a.size = (0, s.data.toList, a.size + s.size) := by
      have := readL_name hm a.data.toList b.data.toList
      rw [list_size] at this
      rw [HMl.out]; exact this
    have sx : (a.size : Int) + (s.size : Int) = ((a.size + s.size : Nat) : Int) := by omega
    refine (read_c _ M a.size a.size s (a.size + s.size) 0 ((a.size : Int) + (s.size : Int)) 0 he3 (by omega) (by omega) rfl hrd sx rfl).mono ?_
    rintro e w4 ⟨rfl, h4⟩
    have he4 := he3.still h4
    have hS4 : Still w w4 := h3.still h4
    clear h3 h4 he3 sx
    have hbe : (s.toList == s.toList) = true := beq_self_eq_true _
    clear hzM hrd
    go_wp2_with (go_at_call 15; refine (may_any s hs _).mono ?_; rintro e w6 ⟨rfl, q6, rfl⟩; rw [hm])
    have he4 := he4.still (Still.quiet _ q6)
    have hS4 := hS4.drewN q6
    have hzM := hzM'.out
    by_cases hr2 : at_ < 0 ∨ (M.size : Int) < at_
    · refine (read_out _ M at_ he4 hr2).mono ?_
      rintro e w5 ⟨rfl, h5⟩
      go_wp2_with fail
      go_ret
      exact ⟨rfl, hS4.still h5⟩
    · obtain ⟨k, rfl⟩ : ∃ k : Nat, at_ = k := ⟨at_.toNat, by omega⟩
      have hkM : k ≤ M.size := by omega
      obtain ⟨R2, hR2⟩ : ∃ R, R = readL M.data.toList k := ⟨_, rfl⟩
      refine (read_in _ M k he4 hkM (by omega)).mono ?_
      rintro e w5 ⟨rfl, h5⟩
      rw [← hR2]
      obtain ⟨er, nn, nx⟩ := R2
      have hS5 := hS4.still h5
      have hR2' := Lib.hid hR2
      clear hR2 h5 he4
      by_cases hz : er = 0
      · subst hz
        obtain ⟨g1, g2, g3, _⟩ := readL_out hR2'.out.symm
        rw [list_size, hzM] at g3
        have gm : mayN (mk nn).data.toList = true := by rw [mk_list]; exact g1
        have gsz : (mk nn).size ≤ maxLen := by
          obtain ⟨L, hL, e⟩ := may_out g1
          rw [mk_size, e, enc_len]; have := hL.2; unfold maxLen; omega
        have dl : decide ((nx : Int) ≤ (a.size : Int) + (s.size : Int) + (b.size : Int)) = true := decide_eq_true (by omega)
        clear g1 hr2
        go_wp2_with (go_at_call 15; refine (may_any _ gsz _).mono ?_; rintro e w6 ⟨rfl, q6, rfl⟩; rw [gm])
        go_ret
        exact ⟨rfl, hS5.drewN q6⟩
      · have d0 : decide ((er : Int) = 0) = false := decide_eq_false (by omega)
        have d1 : ((er : Int) == 0) = false := by rw [beq_eq_false_iff_ne]; omega
        have d2 : ((er : Int) != 0) = true := by rw [bne, d1]; rfl
        clear hr2
        go_wp2_with fail
        go_ret
        exact ⟨rfl, hS5⟩
end Go.Proofs.YtfhnfjfjmjopeaaDoor
