/-
  ReputeNames: the examples.
-/
import Derived.Test.YtfbknjboceheaaaDoorRepAwake
import Derived.Test.YtfbknjboceheaaaDoorRepOf
import Derived.Test.YtfbknjboceheaaaDoorRepDue
namespace Go.Proofs.YtfbknjboceheaaaDoor
open Go.RowKit
set_option linter.unusedVariables false
set_option linter.unusedSimpArgs false

set_option maxRecDepth 1000000 in
theorem bad_0 (w : World) : Calls Tryd.prog 10 #[.int .i64 0, .int .i64 1, .int .i64 1] w fun e w' => e = .returned (.tuple #[.pointer none, .int .i64 1]) ∧ w = w' := by
  go_enter Tryd.func10, Tryd.ntmps10
  go_wp2_with fail
  go_ret2
  exact ⟨rfl, rfl⟩
set_option maxRecDepth 1000000 in
theorem bad_1 (w : World) : Calls Tryd.prog 10 #[.int .i64 2, .int .i64 1, .int .i64 1] w fun e w' => e = .returned (.tuple #[.pointer none, .int .i64 1]) ∧ w = w' := by
  go_enter Tryd.func10, Tryd.ntmps10
  go_wp2_with fail
  go_ret2
  exact ⟨rfl, rfl⟩
set_option maxRecDepth 1000000 in
theorem bad_2 (w : World) : Calls Tryd.prog 10 #[.int .i64 11, .int .i64 1, .int .i64 1] w fun e w' => e = .returned (.tuple #[.pointer none, .int .i64 1]) ∧ w = w' := by
  go_enter Tryd.func10, Tryd.ntmps10
  go_wp2_with fail
  go_ret2
  exact ⟨rfl, rfl⟩
set_option maxRecDepth 1000000 in
theorem bad_3 (w : World) : Calls Tryd.prog 10 #[.int .i64 (-1), .int .i64 1, .int .i64 1] w fun e w' => e = .returned (.tuple #[.pointer none, .int .i64 1]) ∧ w = w' := by
  go_enter Tryd.func10, Tryd.ntmps10
  go_wp2_with fail
  go_ret2
  exact ⟨rfl, rfl⟩
set_option maxRecDepth 1000000 in
theorem bad_4 (w : World) : Calls Tryd.prog 10 #[.int .i64 3, .int .i64 0, .int .i64 1] w fun e w' => e = .returned (.tuple #[.pointer none, .int .i64 1]) ∧ w = w' := by
  go_enter Tryd.func10, Tryd.ntmps10
  go_wp2_with fail
  go_ret2
  exact ⟨rfl, rfl⟩
set_option maxRecDepth 1000000 in
theorem bad_5 (w : World) : Calls Tryd.prog 10 #[.int .i64 3, .int .i64 101, .int .i64 1] w fun e w' => e = .returned (.tuple #[.pointer none, .int .i64 1]) ∧ w = w' := by
  go_enter Tryd.func10, Tryd.ntmps10
  go_wp2_with fail
  go_ret2
  exact ⟨rfl, rfl⟩
set_option maxRecDepth 1000000 in
theorem bad_6 (w : World) : Calls Tryd.prog 10 #[.int .i64 3, .int .i64 1, .int .i64 0] w fun e w' => e = .returned (.tuple #[.pointer none, .int .i64 1]) ∧ w = w' := by
  go_enter Tryd.func10, Tryd.ntmps10
  go_wp2_with fail
  go_ret2
  exact ⟨rfl, rfl⟩
set_option maxRecDepth 1000000 in
theorem bad_7 (w : World) : Calls Tryd.prog 10 #[.int .i64 3, .int .i64 1, .int .i64 100001] w fun e w' => e = .returned (.tuple #[.pointer none, .int .i64 1]) ∧ w = w' := by
  go_enter Tryd.func10, Tryd.ntmps10
  go_wp2_with fail
  go_ret2
  exact ⟨rfl, rfl⟩
section
variable {w : World}
set_option maxRecDepth 1000000 in
theorem score_nil (w : World) : Calls Tryd.prog 12 #[.pointer none, .int .i64 0] w fun e w' => e = .returned (.int .i64 0) ∧ Still w w' := by
  go_enter Tryd.func12, Tryd.ntmps12
  go_wp2_with fail
  refine (is_nil 0 w).mono ?_
  rintro e w' ⟨rfl, rfl⟩
  go_wp2_with fail
  go_ret
  exact ⟨rfl, Only.refl _ _⟩
set_option maxRecDepth 1000000 in
theorem rests_nil (w : World) : Calls Tryd.prog 13 #[.pointer none, .int .i64 0] w fun e w' => e = .returned (.bool false) ∧ Still w w' := by
  go_enter Tryd.func13, Tryd.ntmps13
  go_wp2_with fail
  refine (is_nil 0 w).mono ?_
  rintro e w' ⟨rfl, rfl⟩
  go_wp2_with fail
  go_ret
  exact ⟨rfl, Only.refl _ _⟩
set_option maxRecDepth 1000000 in
theorem trial_nil (w : World) : Calls Tryd.prog 19 #[.pointer none, .int .i64 0] w fun e w' => e = .returned (.bool false) ∧ Still w w' := by
  go_enter Tryd.func19, Tryd.ntmps19
  go_wp2_with fail
  refine (is_nil 0 w).mono ?_
  rintro e w' ⟨rfl, rfl⟩
  go_wp2_with fail
  go_ret
  exact ⟨rfl, Only.refl _ _⟩
set_option maxRecDepth 1000000 in
theorem counts_nil (w : World) : Calls Tryd.prog 16 #[.pointer none, .int .i64 0] w fun e w' => e = .returned (.tuple #[.int .i64 0, .int .i64 0, .int .i64 0]) ∧ Still w w' := by
  go_enter Tryd.func16, Tryd.ntmps16
  go_wp2_with fail
  refine (is_nil 0 w).mono ?_
  rintro e w' ⟨rfl, rfl⟩
  go_wp2_with fail
  go_ret3
  exact ⟨rfl, Only.refl _ _⟩
set_option maxRecDepth 1000000 in
theorem back_nil (w : World) : Calls Tryd.prog 18 #[.pointer none, .int .i64 9] w fun e w' => e = .returned (.slice none 0 0) ∧ Still w w' := by
  go_enter Tryd.func18, Tryd.ntmps18
  go_wp2_with fail
  go_ret
  exact ⟨rfl, Only.refl _ _⟩
set_option maxRecDepth 1000000 in
theorem may_nil (w : World) : Calls Tryd.prog 21 #[.pointer none] w fun e w' => e = .returned (.slice none 0 0) ∧ Still w w' := by
  go_enter Tryd.func21, Tryd.ntmps21
  go_wp2_with fail
  go_ret
  exact ⟨rfl, Only.refl _ _⟩
set_option maxRecDepth 1000000 in
theorem len_nil (w : World) : Calls Tryd.prog 23 #[.pointer none] w fun e w' => e = .returned (.int .i64 0) ∧ Still w w' := by
  go_enter Tryd.func23, Tryd.ntmps23
  go_wp2_with fail
  go_ret
  exact ⟨rfl, Only.refl _ _⟩
set_option maxRecDepth 1000000 in
theorem copy_nil (w : World) : Calls Tryd.prog 24 #[.pointer none] w fun e w' => e = .returned (.pointer none) ∧ Still w w' := by
  go_enter Tryd.func24, Tryd.ntmps24
  go_wp2_with fail
  go_ret
  exact ⟨rfl, Only.refl _ _⟩
set_option maxRecDepth 1000000 in
theorem due_nil (w : World) : Calls Tryd.prog 20 #[.pointer none] w fun e w' => e = .returned (.tuple #[.int .i64 0, .bool false]) ∧ Still w w' := by
  go_enter Tryd.func20, Tryd.ntmps20
  go_wp2_with fail
  go_ret2
  exact ⟨rfl, Only.refl _ _⟩
set_option maxRecDepth 1000000 in
set_option maxHeartbeats 6400000 in
theorem of_nil (w : World) :
    Calls Tryd.prog 22 #[.pointer none, .int .i64 0] w fun e w' => e = .returned (.agg #[.int .i64 0, .int .i64 0, .int .i64 0, .int .i64 0, .bool false, .bool false, .int .i64 0]) ∧ Still w w' := by
  have hs0 := Still.new w (.cells #[.int .i64 0, .int .i64 0, .int .i64 0, .int .i64 0, .bool false, .bool false, .int .i64 0] 45)
  have hb0 := Blk.new w 45 #[.int .i64 0, .int .i64 0, .int .i64 0, .int .i64 0, .bool false, .bool false, .int .i64 0]
  go_enter Tryd.func22, Tryd.ntmps22
  go_wp2_with fail
  refine (counts_nil _).mono ?_
  rintro e w1 ⟨rfl, hs1⟩
  have hb1 := hb0.only hs1 (fun h => h)
  have hs1 := hs0.still hs1
  clear hb0 hs0
  go_wp2_with fail
  refine (score_nil _).mono ?_
  rintro e w2 ⟨rfl, hs2⟩
  have hb2 := hb1.only hs2 (fun h => h)
  have hs1 := hs1.still hs2
  clear hb1 hs2
  have hb1 := hb2
  clear hb2
  go_wp2_with fail
  refine (rests_nil _).mono ?_
  rintro e w2 ⟨rfl, hs2⟩
  have hb2 := hb1.only hs2 (fun h => h)
  have hs1 := hs1.still hs2
  clear hb1 hs2
  have hb1 := hb2
  clear hb2
  go_wp2_with fail
  refine (trial_nil _).mono ?_
  rintro e w2 ⟨rfl, hs2⟩
  have hb2 := hb1.only hs2 (fun h => h)
  have hs1 := hs1.still hs2
  clear hb1 hs2
  have hb1 := hb2
  clear hb2
  go_wp2_with ((refine wpList_store_blk rfl 45 (.tmp 4) (.tmp 27) rfl w.heap.size rfl #[.int .i64 0, .int .i64 0, .int .i64 0, .int .i64 0, .bool false, .bool false, .int .i64 0] rfl 45 _ hb1 (by kernel_rfl) rfl (by kernel_rfl) ?_); intro wa hBa hoa)
  (try simp only [Exit.inBlock, Exit.then])
  refine bodyPost_ret (results_cell_row rfl _ _ w.heap.size 45 #[.int .i64 0, .int .i64 0, .int .i64 0, .int .i64 0, .bool false, .bool false, .int .i64 0] (0, 0) _ rfl hBa Tryd.underlying45 rfl (by kernel_rfl)) rfl ?_
  exact ⟨rfl, hs1.trans hoa (fun i hi e => by omega)⟩
set_option maxRecDepth 1000000 in
theorem is_fresh {g : Nat} (hB : Blk w g 40 #[.slice none 0 0, .int .i64 0, .int .i64 0]) : Calls Tryd.prog 28 #[.pointer (some ⟨g, 0, none⟩), .int .i64 0] w fun e w' => e = .returned (.bool false) ∧ Still w w' := by
  have c0 := hB.cell 0
  simp at c0
  go_enter Tryd.func28, Tryd.ntmps28
  go_wp2_with fail
  go_ret
  exact ⟨rfl, Only.refl _ _⟩
set_option maxRecDepth 1000000 in
theorem did_fresh {g : Nat} (hB : Blk w g 40 #[.slice none 0 0, .int .i64 0, .int .i64 0]) : Calls Tryd.prog 27 #[.pointer (some ⟨g, 0, none⟩), .int .i64 0, .int .i64 0, .int .i64 0] w fun e w' => e = .returned (.int .i64 1) ∧ Still w w' := by
  have c0 := hB.cell 0
  simp at c0
  go_enter Tryd.func27, Tryd.ntmps27
  go_wp2_with fail
  refine (is_fresh hB).mono ?_
  rintro e w1 ⟨rfl, hs⟩
  go_wp2_with fail
  go_ret
  exact ⟨rfl, hs⟩
set_option maxRecDepth 1000000 in
theorem agree_fresh {g : Nat} (hB : Blk w g 40 #[.slice none 0 0, .int .i64 0, .int .i64 0]) : Calls Tryd.prog 15 #[.pointer (some ⟨g, 0, none⟩), .int .i64 0] w fun e w' => e = .returned (.int .i64 1) ∧ Still w w' := by
  have c0 := hB.cell 0
  simp at c0
  go_enter Tryd.func15, Tryd.ntmps15
  go_wp2_with fail
  refine (did_fresh hB).mono ?_
  rintro e w1 ⟨rfl, hs⟩
  go_wp2_with fail
  go_ret
  exact ⟨rfl, hs⟩
set_option maxRecDepth 1000000 in
theorem len_fresh {g : Nat} (hB : Blk w g 40 #[.slice none 0 0, .int .i64 0, .int .i64 0]) : Calls Tryd.prog 23 #[.pointer (some ⟨g, 0, none⟩)] w fun e w' => e = .returned (.int .i64 0) ∧ Still w w' := by
  have c0 := hB.cell 0
  simp at c0
  go_enter Tryd.func23, Tryd.ntmps23
  go_wp2_with fail
  go_ret
  exact ⟨rfl, Only.refl _ _⟩
set_option maxRecDepth 1000000 in
theorem may_fresh {g : Nat} (hB : Blk w g 40 #[.slice none 0 0, .int .i64 0, .int .i64 0]) : Calls Tryd.prog 21 #[.pointer (some ⟨g, 0, none⟩)] w fun e w' => e = .returned (.slice none 0 0) ∧ Still w w' := by
  have c0 := hB.cell 0
  simp at c0
  go_enter Tryd.func21, Tryd.ntmps21
  go_wp2_with fail
  go_loopw [3, 13] (fun v i wr => v = .slice none 0 0 ∧ i = .int .i64 0 ∧ w = wr) (fun _ _ _ => 0)
  case atStart => exact ⟨rfl, rfl, rfl⟩
  case round =>
    obtain ⟨rfl, rfl, rfl⟩ := hrel
    go_wp2_with fail
    go_ret
    exact ⟨rfl, Only.refl _ _⟩
end

theorem fresh_blk {w0 w : World} (h : Still w0 w) : Blk (w.alloc (.cells #[.slice none 0 0, .int .i64 0, .int .i64 0] 40)) w.heap.size 40 #[.slice none 0 0, .int .i64 0, .int .i64 0] ∧ Still w0 (w.alloc (.cells #[.slice none 0 0, .int .i64 0, .int .i64 0] 40)) :=
  ⟨Blk.new _ _ _, h.alloc _⟩
def nmU (k : Nat) : Up := ⟨if 89 - 2 * (k : Int) < 0 then 0 else 89 - 2 * (k : Int), 1, 1, if 65535 < 1 + (k : Int) then 65535 else 1 + (k : Int), false, 0, false⟩
theorem nmU_next (k : Nat) : upd [nmU k] 0 (silentUp 100) = [nmU (k + 1)] := by
  have e : upd [nmU k] 0 (silentUp 100) = [silentUp 100 (nmU k)] := by kernel_rfl
  rw [e]
  congr 1
  unfold silentUp endTrial nmU mn cl
  simp only [Up.mk.injEq, Bool.false_and, true_and, and_true]
  refine ⟨?_, ?_⟩
  · (repeat' split) <;> omega
  · (repeat' split) <;> omega
def gD (k : Nat) : List Up := [⟨100, 0, 0, 0, false, 0, false⟩, ⟨100 - 10 * (k : Int), 0, k, 0, decide (k = 6), if k = 6 then 1 else 0, false⟩, ⟨100, 0, 0, 0, false, 0, false⟩]
theorem gD_next : ∀ k, k < 6 → dissentL 50 1 3 1 0 (gD k) = gD (k + 1)
  | 0, _ => by kernel_rfl
  | 1, _ => by kernel_rfl
  | 2, _ => by kernel_rfl
  | 3, _ => by kernel_rfl
  | 4, _ => by kernel_rfl
  | 5, _ => by kernel_rfl
  | n + 6, h => by omega
def gA (k : Nat) : List Up := [⟨100, 0, 0, 0, false, 0, false⟩, ⟨40 + (k : Int), k, 6, 0, true, 1, false⟩, ⟨100, 0, 0, 0, false, 0, false⟩]
theorem gA_next (k : Nat) (hk : k < 60) : upd (gA k) 1 (agreeUp 50) = gA (k + 1) := by
  have e : upd (gA k) 1 (agreeUp 50) = [⟨100, 0, 0, 0, false, 0, false⟩, agreeUp 50 ⟨40 + (k : Int), k, 6, 0, true, 1, false⟩, ⟨100, 0, 0, 0, false, 0, false⟩] := by kernel_rfl
  rw [e]
  unfold gA agreeUp endTrial mn cl
  simp only [List.cons.injEq, Up.mk.injEq, Bool.false_and, true_and, and_true]
  refine ⟨?_, ?_⟩
  · (repeat' split) <;> omega
  · (repeat' split) <;> omega

set_option maxRecDepth 1000000 in
set_option maxHeartbeats 12800000 in
theorem repnames_walk (w : World) (hg : Gains w) : Calls Tryd.prog 3 #[] w fun e w' => e = .returned (.bool true) ∧ Still w w' := by
  go_enter Tryd.func3, Tryd.ntmps3
  go_wp2_with fail
  refine (rep_awake w hg).mono ?_
  rintro e w1 ⟨rfl, hs1⟩
  go_wp2_with fail
  have hT := Blk.new w1 23 #[.int .i64 0, .int .i64 1, .int .i64 1, .int .i64 2, .int .i64 1, .int .i64 1, .int .i64 11, .int .i64 1, .int .i64 1, .int .i64 (-1), .int .i64 1, .int .i64 1, .int .i64 3, .int .i64 0, .int .i64 1, .int .i64 3, .int .i64 101, .int .i64 1, .int .i64 3, .int .i64 1, .int .i64 0, .int .i64 3, .int .i64 1, .int .i64 100001]
  have hs2 := hs1.alloc (.cells #[.int .i64 0, .int .i64 1, .int .i64 1, .int .i64 2, .int .i64 1, .int .i64 1, .int .i64 11, .int .i64 1, .int .i64 1, .int .i64 (-1), .int .i64 1, .int .i64 1, .int .i64 3, .int .i64 0, .int .i64 1, .int .i64 3, .int .i64 101, .int .i64 1, .int .i64 3, .int .i64 1, .int .i64 0, .int .i64 3, .int .i64 1, .int .i64 100001] 23)
  generalize w1.alloc (.cells #[.int .i64 0, .int .i64 1, .int .i64 1, .int .i64 2, .int .i64 1, .int .i64 1, .int .i64 11, .int .i64 1, .int .i64 1, .int .i64 (-1), .int .i64 1, .int .i64 1, .int .i64 3, .int .i64 0, .int .i64 1, .int .i64 3, .int .i64 101, .int .i64 1, .int .i64 3, .int .i64 1, .int .i64 0, .int .i64 3, .int .i64 1, .int .i64 100001] 23) = w2 at *
  generalize w1.heap.size = τ at *
  go_loopw [41] (fun i wr => ∃ k : Nat, k ≤ 8 ∧ i = .int .i64 k ∧ Hid (Still w2 wr)) (fun i _ => 8 - (intOf i).toNat)
  case atStart => exact ⟨0, by omega, rfl, Lib.hid (Only.refl _ _)⟩
  case round =>
    obtain ⟨k, hk, rfl, hst⟩ := hrel
    by_cases hlt : k < 8
    · have hB := hT.only hst.out (fun h => h)
      have x0 := hB.cell 0
      have x1 := hB.cell 1
      have x2 := hB.cell 2
      have x3 := hB.cell 3
      have x4 := hB.cell 4
      have x5 := hB.cell 5
      have x6 := hB.cell 6
      have x7 := hB.cell 7
      have x8 := hB.cell 8
      have x9 := hB.cell 9
      have x10 := hB.cell 10
      have x11 := hB.cell 11
      have x12 := hB.cell 12
      have x13 := hB.cell 13
      have x14 := hB.cell 14
      have x15 := hB.cell 15
      have x16 := hB.cell 16
      have x17 := hB.cell 17
      have x18 := hB.cell 18
      have x19 := hB.cell 19
      have x20 := hB.cell 20
      have x21 := hB.cell 21
      have x22 := hB.cell 22
      have x23 := hB.cell 23
      simp at x0 x1 x2 x3 x4 x5 x6 x7 x8 x9 x10 x11 x12 x13 x14 x15 x16 x17 x18 x19 x20 x21 x22 x23
      match k, hlt with
      | 0, _ =>
        go_wp2_with fail
        refine (bad_0 _).mono ?_
        rintro e wx ⟨rfl, rfl⟩
        go_wp2_with fail
        go_roundw
        case rel => exact ⟨1, by omega, by go_num, Lib.hid (hst.out.alloc _)⟩
        case measure => simp [intOf] <;> omega
      | 1, _ =>
        go_wp2_with fail
        refine (bad_1 _).mono ?_
        rintro e wx ⟨rfl, rfl⟩
        go_wp2_with fail
        go_roundw
        case rel => exact ⟨2, by omega, by go_num, Lib.hid (hst.out.alloc _)⟩
        case measure => simp [intOf] <;> omega
      | 2, _ =>
        go_wp2_with fail
        refine (bad_2 _).mono ?_
        rintro e wx ⟨rfl, rfl⟩
        go_wp2_with fail
        go_roundw
        case rel => exact ⟨3, by omega, by go_num, Lib.hid (hst.out.alloc _)⟩
        case measure => simp [intOf] <;> omega
      | 3, _ =>
        go_wp2_with fail
        refine (bad_3 _).mono ?_
        rintro e wx ⟨rfl, rfl⟩
        go_wp2_with fail
        go_roundw
        case rel => exact ⟨4, by omega, by go_num, Lib.hid (hst.out.alloc _)⟩
        case measure => simp [intOf] <;> omega
      | 4, _ =>
        go_wp2_with fail
        refine (bad_4 _).mono ?_
        rintro e wx ⟨rfl, rfl⟩
        go_wp2_with fail
        go_roundw
        case rel => exact ⟨5, by omega, by go_num, Lib.hid (hst.out.alloc _)⟩
        case measure => simp [intOf] <;> omega
      | 5, _ =>
        go_wp2_with fail
        refine (bad_5 _).mono ?_
        rintro e wx ⟨rfl, rfl⟩
        go_wp2_with fail
        go_roundw
        case rel => exact ⟨6, by omega, by go_num, Lib.hid (hst.out.alloc _)⟩
        case measure => simp [intOf] <;> omega
      | 6, _ =>
        go_wp2_with fail
        refine (bad_6 _).mono ?_
        rintro e wx ⟨rfl, rfl⟩
        go_wp2_with fail
        go_roundw
        case rel => exact ⟨7, by omega, by go_num, Lib.hid (hst.out.alloc _)⟩
        case measure => simp [intOf] <;> omega
      | 7, _ =>
        go_wp2_with fail
        refine (bad_7 _).mono ?_
        rintro e wx ⟨rfl, rfl⟩
        go_wp2_with fail
        go_roundw
        case rel => exact ⟨8, by omega, by go_num, Lib.hid (hst.out.alloc _)⟩
        case measure => simp [intOf] <;> omega
    · obtain rfl : k = 8 := by omega
      have hs3 := hs2.still hst.out
      have hg3 := hg.still hs3
      clear hs2 hT hst
      go_wp2_with fail
      refine (new_live _ (n := 1) hg3 (lim := 100) (rst := 100000) ⟨by omega, by omega, by omega, by omega, by omega, by omega⟩ (by decide)).mono ?_
      rintro e wn ⟨gb, gbb, rfl, hb⟩
      rw [show List.replicate 1 up1 = [⟨100, 0, 0, 0, false, 0, false⟩] by kernel_rfl] at hb
      go_wp2_with fail
      refine (dissent_live hb 0 5).mono ?_
      rintro e wx ⟨rfl, hx, _⟩
      rw [show dissentL 100 100000 1 0 5 ([⟨100, 0, 0, 0, false, 0, false⟩]) = [⟨90, 0, 1, 0, false, 0, false⟩] by kernel_rfl] at hx
      clear hb
      have hb := hx
      clear hx
      rw [show (if nowOk 5 ∧ (0 : Int) ≤ 0 ∧ (0 : Int) < (1 : Nat) then (0 : Int) else 1) = 0 by decide]
      go_wp2_with fail
      refine (score_in hb.bk 0 (u := ([⟨90, 0, 1, 0, false, 0, false⟩] : List Up)[0]) rfl).mono ?_
      rintro e wx ⟨rfl, rfl⟩
      go_wp2_with fail
      refine (rests_in hb.bk 0 (u := ([⟨90, 0, 1, 0, false, 0, false⟩] : List Up)[0]) rfl).mono ?_
      rintro e wx ⟨rfl, rfl⟩
      go_wp2_with fail
      refine (silent_live hb 0).mono ?_
      rintro e wx ⟨rfl, hx, _⟩
      rw [show upd ([⟨90, 0, 1, 0, false, 0, false⟩]) 0 (silentUp 100) = [⟨88, 0, 1, 1, false, 0, false⟩] by kernel_rfl] at hx
      clear hb
      have hb := hx
      clear hx
      rw [show (if (0 : Int) ≤ 0 ∧ (0 : Int) < (1 : Nat) then (0 : Int) else 1) = 0 by decide]
      go_wp2_with fail
      refine (score_in hb.bk 0 (u := ([⟨88, 0, 1, 1, false, 0, false⟩] : List Up)[0]) rfl).mono ?_
      rintro e wx ⟨rfl, rfl⟩
      go_wp2_with fail
      refine (agree_live hb 0).mono ?_
      rintro e wx ⟨rfl, hx, _⟩
      rw [show upd ([⟨88, 0, 1, 1, false, 0, false⟩]) 0 (agreeUp 100) = [⟨89, 1, 1, 1, false, 0, false⟩] by kernel_rfl] at hx
      clear hb
      have hb := hx
      clear hx
      rw [show (if (0 : Int) ≤ 0 ∧ (0 : Int) < (1 : Nat) then (0 : Int) else 1) = 0 by decide]
      go_wp2_with fail
      refine (score_in hb.bk 0 (u := ([⟨89, 1, 1, 1, false, 0, false⟩] : List Up)[0]) rfl).mono ?_
      rintro e wx ⟨rfl, rfl⟩
      go_wp2_with fail
      rw [show ([⟨89, 1, 1, 1, false, 0, false⟩] : List Up) = [nmU 0] by kernel_rfl] at hb
      go_loopw [7] (fun i wr => ∃ k : Nat, k ≤ 65537 ∧ i = .int .i64 k ∧ Live _ wr gb gbb 1 1 100 100000 [nmU k]) (fun i _ => 65537 - (intOf i).toNat)
      case atStart => exact ⟨0, by omega, rfl, hb⟩
      case round =>
        clear hb
        obtain ⟨k, hk, rfl, hb⟩ := hrel
        by_cases hlt : k < 65537
        · have Hn := Lib.hid (nmU_next k)
          go_wp2_with fail
          refine (silent_live hb 0).mono ?_
          rintro e wx ⟨rfl, hx, _⟩
          rw [Hn.out] at hx
          go_wp2_with fail
          go_roundw
          case rel => exact ⟨k + 1, by omega, by go_num, hx⟩
          case measure => simp [intOf] <;> omega
        · obtain rfl : k = 65537 := by omega
          rw [show [nmU 65537] = [(⟨0, 1, 1, 65535, false, 0, false⟩ : Up)] by kernel_rfl] at hb
          go_wp2_with fail
          refine (counts_in hb.bk 0 (u := ([⟨0, 1, 1, 65535, false, 0, false⟩] : List Up)[0]) rfl).mono ?_
          rintro e wx ⟨rfl, hsx⟩
          have hx := hb.still hsx
          clear hb hsx
          have hb := hx
          clear hx
          go_wp2_with fail
          refine (score_in hb.bk 0 (u := ([⟨0, 1, 1, 65535, false, 0, false⟩] : List Up)[0]) rfl).mono ?_
          rintro e wx ⟨rfl, rfl⟩
          go_wp2_with fail
          refine (agree_live hb 1).mono ?_
          rintro e wx ⟨rfl, hx, _⟩
          rw [show upd ([⟨0, 1, 1, 65535, false, 0, false⟩]) 1 (agreeUp 100) = [⟨0, 1, 1, 65535, false, 0, false⟩] by kernel_rfl] at hx
          clear hb
          have hb := hx
          clear hx
          rw [show (if (0 : Int) ≤ 1 ∧ (1 : Int) < (1 : Nat) then (0 : Int) else 1) = 1 by decide]
          go_wp2_with fail
          refine (silent_live hb (-1)).mono ?_
          rintro e wx ⟨rfl, hx, _⟩
          rw [show upd ([⟨0, 1, 1, 65535, false, 0, false⟩]) (-1) (silentUp 100) = [⟨0, 1, 1, 65535, false, 0, false⟩] by kernel_rfl] at hx
          clear hb
          have hb := hx
          clear hx
          rw [show (if (0 : Int) ≤ (-1) ∧ ((-1) : Int) < (1 : Nat) then (0 : Int) else 1) = 1 by decide]
          go_wp2_with fail
          refine (dissent_live hb 1 0).mono ?_
          rintro e wx ⟨rfl, hx, _⟩
          rw [show dissentL 100 100000 1 1 0 ([⟨0, 1, 1, 65535, false, 0, false⟩]) = [⟨0, 1, 1, 65535, false, 0, false⟩] by kernel_rfl] at hx
          clear hb
          have hb := hx
          clear hx
          rw [show (if nowOk 0 ∧ (0 : Int) ≤ 1 ∧ (1 : Int) < (1 : Nat) then (0 : Int) else 1) = 1 by decide]
          go_wp2_with fail
          refine (dissent_live hb 0 (-1)).mono ?_
          rintro e wx ⟨rfl, hx, _⟩
          rw [show dissentL 100 100000 1 0 (-1) ([⟨0, 1, 1, 65535, false, 0, false⟩]) = [⟨0, 1, 1, 65535, false, 0, false⟩] by kernel_rfl] at hx
          clear hb
          have hb := hx
          clear hx
          rw [show (if nowOk (-1) ∧ (0 : Int) ≤ 0 ∧ (0 : Int) < (1 : Nat) then (0 : Int) else 1) = 1 by decide]
          go_wp2_with fail
          refine (dissent_live hb 0 1099511627777).mono ?_
          rintro e wx ⟨rfl, hx, _⟩
          rw [show dissentL 100 100000 1 0 1099511627777 ([⟨0, 1, 1, 65535, false, 0, false⟩]) = [⟨0, 1, 1, 65535, false, 0, false⟩] by kernel_rfl] at hx
          clear hb
          have hb := hx
          clear hx
          rw [show (if nowOk 1099511627777 ∧ (0 : Int) ≤ 0 ∧ (0 : Int) < (1 : Nat) then (0 : Int) else 1) = 1 by decide]
          go_wp2_with fail
          refine (dissent_live hb 0 1099511627776).mono ?_
          rintro e wx ⟨rfl, hx, _⟩
          rw [show dissentL 100 100000 1 0 1099511627776 ([⟨0, 1, 1, 65535, false, 0, false⟩]) = [⟨0, 1, 2, 65535, false, 0, false⟩] by kernel_rfl] at hx
          clear hb
          have hb := hx
          clear hx
          rw [show (if nowOk 1099511627776 ∧ (0 : Int) ≤ 0 ∧ (0 : Int) < (1 : Nat) then (0 : Int) else 1) = 0 by decide]
          go_wp2_with fail
          have hs4 := hs3.still hb.st
          have hg4 := hb.gw
          clear hb hs3 hg3
          refine (new_live _ (n := 3) hg4 (lim := 100) (rst := 7) ⟨by omega, by omega, by omega, by omega, by omega, by omega⟩ (by decide)).mono ?_
          rintro e wn ⟨gc, gcb, rfl, hb⟩
          rw [show List.replicate 3 up1 = [⟨100, 0, 0, 0, false, 0, false⟩, ⟨100, 0, 0, 0, false, 0, false⟩, ⟨100, 0, 0, 0, false, 0, false⟩] by kernel_rfl] at hb
          go_wp2_with fail
          refine (dissent_live hb 2 1).mono ?_
          rintro e wx ⟨rfl, hx, _⟩
          rw [show dissentL 100 7 3 2 1 ([⟨100, 0, 0, 0, false, 0, false⟩, ⟨100, 0, 0, 0, false, 0, false⟩, ⟨100, 0, 0, 0, false, 0, false⟩]) = [⟨100, 0, 0, 0, false, 0, false⟩, ⟨100, 0, 0, 0, false, 0, false⟩, ⟨90, 0, 1, 0, true, 8, false⟩] by kernel_rfl] at hx
          clear hb
          have hb := hx
          clear hx
          rw [show (if nowOk 1 ∧ (0 : Int) ≤ 2 ∧ (2 : Int) < (3 : Nat) then (0 : Int) else 1) = 0 by decide]
          go_wp2_with fail
          refine (rests_in hb.bk 2 (u := ([⟨100, 0, 0, 0, false, 0, false⟩, ⟨100, 0, 0, 0, false, 0, false⟩, ⟨90, 0, 1, 0, true, 8, false⟩] : List Up)[2]) rfl).mono ?_
          rintro e wx ⟨rfl, rfl⟩
          go_wp2_with fail
          refine (back_live hb 8).mono ?_
          rintro e wb ⟨Aa, cc, rfl, hown, hx, _⟩
          rw [show ([⟨100, 0, 0, 0, false, 0, false⟩, ⟨100, 0, 0, 0, false, 0, false⟩, ⟨90, 0, 1, 0, true, 8, false⟩] : List Up).map (backOne 100 8) = [⟨100, 0, 0, 0, false, 0, false⟩, ⟨100, 0, 0, 0, false, 0, false⟩, ⟨100, 0, 1, 0, false, 0, false⟩] by kernel_rfl] at hx
          rw [show backs 8 ([⟨100, 0, 0, 0, false, 0, false⟩, ⟨100, 0, 0, 0, false, 0, false⟩, ⟨90, 0, 1, 0, true, 8, false⟩] : List Up) 3 = [2] by kernel_rfl] at hown ⊢
          clear hb
          have hb := hx
          clear hx
          have hrow : Reads wb wb.heap.size 1 Aa 1 (([2] : List Int).map (.int .i64)) := Reads.of_own hown
          have hr1 := hrow.alloc (Nat.le_refl _) (.cells #[.int .i64 2] 3)
          have hr2 := reads_made wb 3 .i64 [2] 1 rfl
          have hx := hb.still (Still.new wb (.cells #[.int .i64 2] 3))
          go_wp2_with fail
          refine (ints_any Aa (some ⟨wb.heap.size, 0, none⟩) 1 cc 1 1 wb.heap.size (wb.heap.size + 1) [2] [2] _ hr1 hr2 (by omega) (by omega)).mono ?_
          rintro e wc ⟨rfl, q, rfl⟩
          have hy := hx.still ((Only.refl (fun _ => False) _).drewN q)
          generalize (wb.alloc (.cells #[.int .i64 2] 3)).drewN q = wd at *
          clear hx hr1 hr2 hrow hown hb
          have hb := hy
          clear hy
          go_wp2_with fail
          refine (trial_in hb.bk 2 (u := ([⟨100, 0, 0, 0, false, 0, false⟩, ⟨100, 0, 0, 0, false, 0, false⟩, ⟨100, 0, 1, 0, false, 0, false⟩] : List Up)[2]) rfl).mono ?_
          rintro e wx ⟨rfl, rfl⟩
          go_wp2_with fail
          refine (score_in hb.bk 2 (u := ([⟨100, 0, 0, 0, false, 0, false⟩, ⟨100, 0, 0, 0, false, 0, false⟩, ⟨100, 0, 1, 0, false, 0, false⟩] : List Up)[2]) rfl).mono ?_
          rintro e wx ⟨rfl, rfl⟩
          go_wp2_with fail
          have hs5 := hs4.still hb.st
          have hg5 := hb.gw
          clear hb hs4 hg4
          refine (new_live _ (n := 3) hg5 (lim := 50) (rst := 1) ⟨by omega, by omega, by omega, by omega, by omega, by omega⟩ (by decide)).mono ?_
          rintro e wn ⟨gd, gdb, rfl, hb⟩
          rw [show List.replicate 3 up1 = [⟨100, 0, 0, 0, false, 0, false⟩, ⟨100, 0, 0, 0, false, 0, false⟩, ⟨100, 0, 0, 0, false, 0, false⟩] by kernel_rfl] at hb
          go_wp2_with fail
          rw [show ([⟨100, 0, 0, 0, false, 0, false⟩, ⟨100, 0, 0, 0, false, 0, false⟩, ⟨100, 0, 0, 0, false, 0, false⟩] : List Up) = gD 0 by kernel_rfl] at hb
          go_loopw [15] (fun i wr => ∃ k : Nat, k ≤ 6 ∧ i = .int .i64 k ∧ Live _ wr gd gdb 3 3 50 1 (gD k)) (fun i _ => 6 - (intOf i).toNat)
          case atStart => exact ⟨0, by omega, rfl, hb⟩
          case round =>
            clear hb
            obtain ⟨k, hk, rfl, hb⟩ := hrel
            by_cases hlt : k < 6
            · have Hn := Lib.hid (gD_next k hlt)
              go_wp2_with fail
              refine (dissent_live hb 1 0).mono ?_
              rintro e wx ⟨rfl, hx, _⟩
              rw [Hn.out] at hx
              go_wp2_with fail
              go_roundw
              case rel => exact ⟨k + 1, by omega, by go_num, hx⟩
              case measure => simp [intOf] <;> omega
            · obtain rfl : k = 6 := by omega
              rw [show gD 6 = [⟨100, 0, 0, 0, false, 0, false⟩, ⟨40, 0, 6, 0, true, 1, false⟩, ⟨100, 0, 0, 0, false, 0, false⟩] by kernel_rfl] at hb
              go_wp2_with fail
              refine (score_in hb.bk 1 (u := ([⟨100, 0, 0, 0, false, 0, false⟩, ⟨40, 0, 6, 0, true, 1, false⟩, ⟨100, 0, 0, 0, false, 0, false⟩] : List Up)[1]) rfl).mono ?_
              rintro e wx ⟨rfl, rfl⟩
              go_wp2_with fail
              refine (rests_in hb.bk 1 (u := ([⟨100, 0, 0, 0, false, 0, false⟩, ⟨40, 0, 6, 0, true, 1, false⟩, ⟨100, 0, 0, 0, false, 0, false⟩] : List Up)[1]) rfl).mono ?_
              rintro e wx ⟨rfl, rfl⟩
              go_wp2_with fail
              rw [show ([⟨100, 0, 0, 0, false, 0, false⟩, ⟨40, 0, 6, 0, true, 1, false⟩, ⟨100, 0, 0, 0, false, 0, false⟩] : List Up) = gA 0 by kernel_rfl] at hb
              go_loopw [16] (fun i wr => ∃ k : Nat, k ≤ 60 ∧ i = .int .i64 k ∧ Live _ wr gd gdb 3 3 50 1 (gA k)) (fun i _ => 60 - (intOf i).toNat)
              case atStart => exact ⟨0, by omega, rfl, hb⟩
              case round =>
                clear hb
                obtain ⟨k, hk, rfl, hb⟩ := hrel
                by_cases hlt : k < 60
                · have Hn := Lib.hid (gA_next k hlt)
                  go_wp2_with fail
                  refine (agree_live hb 1).mono ?_
                  rintro e wx ⟨rfl, hx, _⟩
                  rw [Hn.out] at hx
                  go_wp2_with fail
                  go_roundw
                  case rel => exact ⟨k + 1, by omega, by go_num, hx⟩
                  case measure => simp [intOf] <;> omega
                · obtain rfl : k = 60 := by omega
                  rw [show gA 60 = [⟨100, 0, 0, 0, false, 0, false⟩, ⟨100, 60, 6, 0, true, 1, false⟩, ⟨100, 0, 0, 0, false, 0, false⟩] by kernel_rfl] at hb
                  go_wp2_with fail
                  refine (score_in hb.bk 1 (u := ([⟨100, 0, 0, 0, false, 0, false⟩, ⟨100, 60, 6, 0, true, 1, false⟩, ⟨100, 0, 0, 0, false, 0, false⟩] : List Up)[1]) rfl).mono ?_
                  rintro e wx ⟨rfl, rfl⟩
                  go_wp2_with fail
                  refine (back_live hb 1).mono ?_
                  rintro e wb ⟨Aa, cc, rfl, hown, hx, _⟩
                  rw [show ([⟨100, 0, 0, 0, false, 0, false⟩, ⟨100, 60, 6, 0, true, 1, false⟩, ⟨100, 0, 0, 0, false, 0, false⟩] : List Up).map (backOne 50 1) = [⟨100, 0, 0, 0, false, 0, false⟩, ⟨50, 60, 6, 0, false, 0, true⟩, ⟨100, 0, 0, 0, false, 0, false⟩] by kernel_rfl] at hx
                  rw [show backs 1 ([⟨100, 0, 0, 0, false, 0, false⟩, ⟨100, 60, 6, 0, true, 1, false⟩, ⟨100, 0, 0, 0, false, 0, false⟩] : List Up) 3 = [1] by kernel_rfl] at hown ⊢
                  clear hb
                  have hb := hx
                  clear hx
                  have hrow : Reads wb wb.heap.size 1 Aa 1 (([1] : List Int).map (.int .i64)) := Reads.of_own hown
                  have hr1 := hrow.alloc (Nat.le_refl _) (.cells #[.int .i64 1] 3)
                  have hr2 := reads_made wb 3 .i64 [1] 1 rfl
                  have hx := hb.still (Still.new wb (.cells #[.int .i64 1] 3))
                  go_wp2_with fail
                  refine (ints_any Aa (some ⟨wb.heap.size, 0, none⟩) 1 cc 1 1 wb.heap.size (wb.heap.size + 1) [1] [1] _ hr1 hr2 (by omega) (by omega)).mono ?_
                  rintro e wc ⟨rfl, q, rfl⟩
                  have hy := hx.still ((Only.refl (fun _ => False) _).drewN q)
                  generalize (wb.alloc (.cells #[.int .i64 1] 3)).drewN q = wd at *
                  clear hx hr1 hr2 hrow hown hb
                  have hb := hy
                  clear hy
                  go_wp2_with fail
                  refine (score_in hb.bk 1 (u := ([⟨100, 0, 0, 0, false, 0, false⟩, ⟨50, 60, 6, 0, false, 0, true⟩, ⟨100, 0, 0, 0, false, 0, false⟩] : List Up)[1]) rfl).mono ?_
                  rintro e wx ⟨rfl, rfl⟩
                  go_wp2_with fail
                  refine (trial_in hb.bk 1 (u := ([⟨100, 0, 0, 0, false, 0, false⟩, ⟨50, 60, 6, 0, false, 0, true⟩, ⟨100, 0, 0, 0, false, 0, false⟩] : List Up)[1]) rfl).mono ?_
                  rintro e wx ⟨rfl, rfl⟩
                  go_wp2_with fail
                  refine (dissent_live hb 1 9).mono ?_
                  rintro e wx ⟨rfl, hx, _⟩
                  rw [show dissentL 50 1 3 1 9 ([⟨100, 0, 0, 0, false, 0, false⟩, ⟨50, 60, 6, 0, false, 0, true⟩, ⟨100, 0, 0, 0, false, 0, false⟩]) = [⟨100, 0, 0, 0, false, 0, false⟩, ⟨40, 60, 7, 0, true, 10, false⟩, ⟨100, 0, 0, 0, false, 0, false⟩] by kernel_rfl] at hx
                  clear hb
                  have hb := hx
                  clear hx
                  rw [show (if nowOk 9 ∧ (0 : Int) ≤ 1 ∧ (1 : Int) < (3 : Nat) then (0 : Int) else 1) = 0 by decide]
                  go_wp2_with fail
                  refine (rests_in hb.bk 1 (u := ([⟨100, 0, 0, 0, false, 0, false⟩, ⟨40, 60, 7, 0, true, 10, false⟩, ⟨100, 0, 0, 0, false, 0, false⟩] : List Up)[1]) rfl).mono ?_
                  rintro e wx ⟨rfl, rfl⟩
                  go_wp2_with fail
                  refine (trial_in hb.bk 1 (u := ([⟨100, 0, 0, 0, false, 0, false⟩, ⟨40, 60, 7, 0, true, 10, false⟩, ⟨100, 0, 0, 0, false, 0, false⟩] : List Up)[1]) rfl).mono ?_
                  rintro e wx ⟨rfl, rfl⟩
                  go_wp2_with fail
                  obtain ⟨hF, hs6⟩ := fresh_blk (hs5.still hb.st)
                  clear hb hs5
                  refine (due_nil _).mono ?_
                  rintro e wy ⟨rfl, hsy⟩
                  have hF' := hF.only hsy (fun h => h)
                  have hs6 := hs6.still hsy
                  clear hF hsy
                  have hF := hF'
                  clear hF'
                  go_wp2_with fail
                  refine (Agree_nil _ 0).mono ?_
                  rintro e wy ⟨rfl, rfl⟩
                  go_wp2_with fail
                  refine (Dissent_nil _ 0 0).mono ?_
                  rintro e wy ⟨rfl, rfl⟩
                  go_wp2_with fail
                  refine (Silent_nil _ 0).mono ?_
                  rintro e wy ⟨rfl, rfl⟩
                  go_wp2_with fail
                  refine (back_nil _).mono ?_
                  rintro e wy ⟨rfl, hsy⟩
                  have hF' := hF.only hsy (fun h => h)
                  have hs6 := hs6.still hsy
                  clear hF hsy
                  have hF := hF'
                  clear hF'
                  go_wp2_with fail
                  refine (may_nil _).mono ?_
                  rintro e wy ⟨rfl, hsy⟩
                  have hF' := hF.only hsy (fun h => h)
                  have hs6 := hs6.still hsy
                  clear hF hsy
                  have hF := hF'
                  clear hF'
                  go_wp2_with fail
                  refine (of_nil _).mono ?_
                  rintro e wy ⟨rfl, hsy⟩
                  have hF' := hF.only hsy (fun h => h)
                  have hs6 := hs6.still hsy
                  clear hF hsy
                  have hF := hF'
                  clear hF'
                  go_wp2_with fail
                  refine (len_nil _).mono ?_
                  rintro e wy ⟨rfl, hsy⟩
                  have hF' := hF.only hsy (fun h => h)
                  have hs6 := hs6.still hsy
                  clear hF hsy
                  have hF := hF'
                  clear hF'
                  go_wp2_with fail
                  refine (copy_nil _).mono ?_
                  rintro e wy ⟨rfl, hsy⟩
                  have hF' := hF.only hsy (fun h => h)
                  have hs6 := hs6.still hsy
                  clear hF hsy
                  have hF := hF'
                  clear hF'
                  go_wp2_with fail
                  refine (agree_fresh hF).mono ?_
                  rintro e wy ⟨rfl, hsy⟩
                  have hF' := hF.only hsy (fun h => h)
                  have hs6 := hs6.still hsy
                  clear hF hsy
                  have hF := hF'
                  clear hF'
                  go_wp2_with fail
                  refine (may_fresh hF).mono ?_
                  rintro e wy ⟨rfl, hsy⟩
                  have hF' := hF.only hsy (fun h => h)
                  have hs6 := hs6.still hsy
                  clear hF hsy
                  have hF := hF'
                  clear hF'
                  go_wp2_with fail
                  refine (len_fresh hF).mono ?_
                  rintro e wy ⟨rfl, hsy⟩
                  have hF' := hF.only hsy (fun h => h)
                  have hs6 := hs6.still hsy
                  clear hF hsy
                  have hF := hF'
                  clear hF'
                  go_wp2_with fail
                  go_ret
                  exact ⟨rfl, hs6⟩
end Go.Proofs.YtfbknjboceheaaaDoor
