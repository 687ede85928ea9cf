/-
  hustingslaw02.step: what it tells, and where the cursor stands then.
-/
import Derived.Test.YtkpogngbajkgmaaDoorCurLaw
import Derived.Test.YtkpogngbajkgmaaDoorCurActs
namespace Go.Proofs.YtkpogngbajkgmaaDoor
open Go.RowKit
set_option linter.unusedVariables false

/-- A call that reads, behind draws. -/
theorem quiet_draws {P : Program} {f : FuncId} {args : Array Value} {w : World} {n : Nat} {v : Value} (h : Calls P f args (w.drewN n) fun e w' => e = .returned v ∧ ∃ q, w' = (w.drewN n).drewN q) :
    Calls P f args (w.drewN n) fun e w'' => e = .returned v ∧ ∃ m, w'' = w.drewN m :=
  h.mono fun _ _ ⟨he, q, hw⟩ => ⟨he, n + q, hw.trans (World.drewN_drewN w n q)⟩

/-- The first result, the error, the place. -/
def stepS (z a : Nat) (what n : Int) : Int × Int × Nat :=
  if what = 0 then (1, if a + 1 ≤ z then (0, a + 1) else (4, a))
  else if what = 1 then (2, if a + 2 ≤ z then (0, a + 2) else (4, a))
  else if what = 2 then (4, if a + 4 ≤ z then (0, a + 4) else (4, a))
  else if what = 3 then (if n < 0 then (0, 1, a) else if (z : Int) - a < n then (0, 4, a) else (n, 0, a + n.toNat))
  else (0, if n < 0 ∨ (z : Int) < n then (1, a) else (0, n.toNat))

theorem stepS_le (z a : Nat) (what n : Int) (ha : a ≤ z) : (stepS z a what n).2.2 ≤ z := by
  unfold stepS
  repeat' split
  all_goals simp only
  all_goals omega
theorem stepS_bad (z a : Nat) (what n : Int) (h : (stepS z a what n).2.1 ≠ 0) : (stepS z a what n).2.2 = a := by
  revert h
  unfold stepS
  repeat' split
  all_goals first | exact fun _ => rfl | exact fun h => absurd rfl h
theorem stepS_good (z a : Nat) (what n : Int) (hw : what < 4) (h0 : 0 ≤ what) (h : (stepS z a what n).2.1 = 0) : ((stepS z a what n).2.2 : Int) = a + (stepS z a what n).1 ∧ 0 ≤ (stepS z a what n).1 := by
  revert h
  unfold stepS
  repeat' split
  all_goals simp only
  all_goals intro h
  all_goals omega
theorem stepS_seek (z a : Nat) (what n : Int) (hw : 4 ≤ what) (h : (stepS z a what n).2.1 = 0) : ((stepS z a what n).2.2 : Int) = n := by
  revert h
  unfold stepS
  repeat' split
  all_goals simp only
  all_goals intro h
  all_goals omega
theorem stepS_e (z a : Nat) (what n : Int) : 0 ≤ (stepS z a what n).2.1 ∧ (stepS z a what n).2.1 ≤ 4 := by
  unfold stepS
  repeat' split
  all_goals simp

section
variable {w : World} {g : Nat} {s : ByteArray} {a : Nat}
set_option maxRecDepth 1000000 in
set_option maxHeartbeats 6400000 in
theorem step_any (h : Cur w g s a) (he : ErrT w) (ha : a ≤ s.size) (hs : s.size ≤ 1000000) (what n : Int) :
    Calls Tryd.prog 36 #[.pointer (some ⟨g, 0, none⟩), .agg #[.int .u8 what, .int .i64 n]] w fun e w' =>
      e = .returned (.tuple #[.int .i64 (stepS s.size a what n).1, .int .i64 (stepS s.size a what n).2.1]) ∧ Cur w' g s (stepS s.size a what n).2.2 ∧ Only (· = g) w w' := by
  have hm : s.size ≤ maxLen := by unfold maxLen; omega
  obtain ⟨W, hW⟩ : ∃ W, W = w.alloc (Obj.cells #[.int .u8 what, .int .i64 n] 31) := ⟨_, rfl⟩
  have hk : Cur W g s a := by rw [hW]; exact Blk.alloc h _
  have heW : ErrT W := by rw [hW]; exact he.still (Still.new _ _)
  have hoW : Only (· = g) w W := by rw [hW]; exact (Only.refl _ _).alloc _
  have HW := Lib.hid hW
  clear hW
  by_cases w0 : what = 0
  · subst w0
    by_cases hz : a + 1 ≤ s.size
    · have hsp : stepS s.size a 0 n = (1, 0, a + 1) := by simp [stepS, hz]
      rw [hsp]
      go_enter Tryd.func36, Tryd.ntmps36
      go_wp2_with fail
      rw [← HW.out]
      refine (Byte_in hk ha hm hz).mono ?_
      rintro e w1 ⟨rfl, h1, ho1⟩
      go_wp2_with fail
      go_ret2
      exact ⟨rfl, h1, hoW.trans ho1 (fun _ _ h => h)⟩
    · have hsp : stepS s.size a 0 n = (1, 4, a) := by simp [stepS, hz]
      rw [hsp]
      go_enter Tryd.func36, Tryd.ntmps36
      go_wp2_with fail
      rw [← HW.out]
      refine (Byte_short hk heW ha hm (by omega)).mono ?_
      rintro e w1 ⟨rfl, ho1⟩
      go_wp2_with fail
      go_ret2
      exact ⟨rfl, hk.still ho1, hoW.still ho1⟩
  by_cases w1 : what = 1
  · subst w1
    by_cases hz : a + 2 ≤ s.size
    · have hsp : stepS s.size a 1 n = (2, 0, a + 2) := by simp [stepS, hz]
      rw [hsp]
      go_enter Tryd.func36, Tryd.ntmps36
      go_wp2_with fail
      rw [← HW.out]
      refine (Two_in hk ha hm hz).mono ?_
      rintro e w1 ⟨rfl, h1, ho1⟩
      go_wp2_with fail
      go_ret2
      exact ⟨rfl, h1, hoW.trans ho1 (fun _ _ h => h)⟩
    · have hsp : stepS s.size a 1 n = (2, 4, a) := by simp [stepS, hz]
      rw [hsp]
      go_enter Tryd.func36, Tryd.ntmps36
      go_wp2_with fail
      rw [← HW.out]
      refine (Two_short hk heW ha hm (by omega)).mono ?_
      rintro e w1 ⟨rfl, ho1⟩
      go_wp2_with fail
      go_ret2
      exact ⟨rfl, hk.still ho1, hoW.still ho1⟩
  by_cases w2 : what = 2
  · subst w2
    by_cases hz : a + 4 ≤ s.size
    · have hsp : stepS s.size a 2 n = (4, 0, a + 4) := by simp [stepS, hz]
      rw [hsp]
      go_enter Tryd.func36, Tryd.ntmps36
      go_wp2_with fail
      rw [← HW.out]
      refine (Four_in hk ha hm hz).mono ?_
      rintro e w1 ⟨rfl, h1, ho1⟩
      go_wp2_with fail
      go_ret2
      exact ⟨rfl, h1, hoW.trans ho1 (fun _ _ h => h)⟩
    · have hsp : stepS s.size a 2 n = (4, 4, a) := by simp [stepS, hz]
      rw [hsp]
      go_enter Tryd.func36, Tryd.ntmps36
      go_wp2_with fail
      rw [← HW.out]
      refine (Four_short hk heW ha hm (by omega)).mono ?_
      rintro e w1 ⟨rfl, ho1⟩
      go_wp2_with fail
      go_ret2
      exact ⟨rfl, hk.still ho1, hoW.still ho1⟩
  by_cases w3 : what = 3
  · subst w3
    by_cases hn : n < 0
    · have hsp : stepS s.size a 3 n = (0, 1, a) := by simp [stepS, hn]
      rw [hsp]
      go_enter Tryd.func36, Tryd.ntmps36
      go_wp2_with fail
      rw [← HW.out]
      refine (Take_neg hk heW n hn).mono ?_
      rintro e w1 ⟨rfl, ho1⟩
      go_wp2_with fail
      go_ret2
      exact ⟨rfl, hk.still ho1, hoW.still ho1⟩
    · by_cases hz : (s.size : Int) - a < n
      · have hsp : stepS s.size a 3 n = (0, 4, a) := by simp [stepS, hn, hz]
        rw [hsp]
        go_enter Tryd.func36, Tryd.ntmps36
        go_wp2_with fail
        rw [← HW.out]
        refine (Take_short hk heW ha hm n hz).mono ?_
        rintro e w1 ⟨rfl, ho1⟩
        go_wp2_with fail
        go_ret2
        exact ⟨rfl, hk.still ho1, hoW.still ho1⟩
      · obtain ⟨m, rfl⟩ : ∃ m : Nat, n = (m : Int) := ⟨n.toNat, by omega⟩
        have hsp : stepS s.size a 3 m = ((m : Int), 0, a + m) := by simp [stepS, hz]
        rw [hsp]
        have hts : (s.extract a (a + m)).size = m := by rw [ByteArray.size_extract]; omega
        obtain ⟨t, ht⟩ : ∃ t, t = s.extract a (a + m) := ⟨_, rfl⟩
        rw [← ht] at hts
        have Ht := Lib.hid ht
        have Hts := Lib.hid hts
        clear ht hts
        go_enter Tryd.func36, Tryd.ntmps36
        go_wp2_with fail
        rw [← HW.out]
        refine (Take_in hk ha hm m (by omega)).mono ?_
        rintro e w1 ⟨hee, h1, ho1⟩
        rw [← Ht.out] at hee
        subst hee
        go_wp2_with fail
        go_ret2
        exact ⟨by rw [Hts.out]; rfl, h1, hoW.trans ho1 (fun _ _ h => h)⟩
  have n0 : (what == 0) = false := by simp [w0]
  have n1 : (what == 1) = false := by simp [w1]
  have n2 : (what == 2) = false := by simp [w2]
  have n3 : (what == 3) = false := by simp [w3]
  by_cases hz : n < 0 ∨ (s.size : Int) < n
  · have hsp : stepS s.size a what n = (0, 1, a) := by simp [stepS, w0, w1, w2, w3, hz]
    rw [hsp]
    have Hz := Lib.hid hz
    clear hsp w0 w1 w2 w3 hz
    go_enter Tryd.func36, Tryd.ntmps36
    go_wp2_with fail
    rw [← HW.out]
    refine (Seek_out hk heW n Hz.out).mono ?_
    rintro e w1 ⟨rfl, ho1⟩
    go_wp2_with fail
    go_ret2
    exact ⟨rfl, hk.still ho1, hoW.still ho1⟩
  · obtain ⟨m, rfl⟩ : ∃ m : Nat, n = (m : Int) := ⟨n.toNat, by omega⟩
    have hsp : stepS s.size a what m = (0, 0, m) := by simp [stepS, w0, w1, w2, w3]; omega
    rw [hsp]
    have hz' : m ≤ s.size := by omega
    clear hsp w0 w1 w2 w3 hz
    go_enter Tryd.func36, Tryd.ntmps36
    go_wp2_with fail
    rw [← HW.out]
    refine (Seek_in hk m hz').mono ?_
    rintro e w1 ⟨rfl, h1, ho1⟩
    go_wp2_with fail
    go_ret2
    exact ⟨rfl, h1, hoW.trans ho1 (fun _ _ h => h)⟩
end
end Go.Proofs.YtkpogngbajkgmaaDoor
