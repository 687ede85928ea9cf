/-
  Package head: the examples that every law asks first.
-/
import Derived.Test.YtkoejogmcoigoaaDoorHeadR
import Derived.Test.YtkoejogmcoigoaaDoorEq4
namespace Go.Proofs.YtkoejogmcoigoaaDoor
open Go.RowKit
set_option linter.unusedVariables false
set_option linter.unusedSimpArgs false

theorem ex1 (w : World) (hb : BitsT w) : Calls Tryd.prog 13 #[.string ⟨#[18, 52, 129, 128, 0, 1, 0, 2, 0, 0, 0, 1, 32, 97, 110, 100, 32, 109, 111, 114, 101]⟩] w fun e w' => e = .returned (.tuple #[.agg #[.int .u16 4660, .bool true, .int .u8 0, .bool false, .bool false, .bool true, .bool true, .bool false, .bool false, .bool false, .int .u8 0], .agg #[.int .i64 1, .int .i64 2, .int .i64 0, .int .i64 1], .int .i64 0]) ∧ Still w w' :=
  (read_long ⟨#[18, 52, 129, 128, 0, 1, 0, 2, 0, 0, 0, 1, 32, 97, 110, 100, 32, 109, 111, 114, 101]⟩ (by decide) (by unfold maxLen; decide) w hb 4660 33152 1 2 0 1 (by kernel_rfl) (by kernel_rfl) (by kernel_rfl) (by kernel_rfl) (by kernel_rfl) (by kernel_rfl)).mono fun e w' h => ⟨h.1.trans (by kernel_rfl), h.2⟩
theorem ex2 (w : World) (hb : BitsT w) : Calls Tryd.prog 13 #[.string ⟨#[0, 0, 40, 5, 0, 0, 0, 0, 0, 0, 0, 0]⟩] w fun e w' => e = .returned (.tuple #[.agg #[.int .u16 0, .bool false, .int .u8 5, .bool false, .bool false, .bool false, .bool false, .bool false, .bool false, .bool false, .int .u8 5], .agg #[.int .i64 0, .int .i64 0, .int .i64 0, .int .i64 0], .int .i64 0]) ∧ Still w w' :=
  (read_long ⟨#[0, 0, 40, 5, 0, 0, 0, 0, 0, 0, 0, 0]⟩ (by decide) (by unfold maxLen; decide) w hb 0 10245 0 0 0 0 (by kernel_rfl) (by kernel_rfl) (by kernel_rfl) (by kernel_rfl) (by kernel_rfl) (by kernel_rfl)).mono fun e w' h => ⟨h.1.trans (by kernel_rfl), h.2⟩
theorem ex3 (w : World) (hb : BitsT w) : Calls Tryd.prog 10 #[.agg #[.int .u16 0, .bool false, .int .u8 0, .bool true, .bool true, .bool false, .bool false, .bool false, .bool false, .bool false, .int .u8 0]] w fun e w' => e = .returned (.tuple #[.int .u16 1536, .int .i64 0]) ∧ Still w w' :=
  (flags_ok 0 false 0 true true false false false false false 0 w hb (by decide) (by decide)).mono fun e w' h => ⟨h.1.trans (by kernel_rfl), h.2⟩
theorem ex4 (w : World) : Calls Tryd.prog 10 #[.agg #[.int .u16 0, .bool false, .int .u8 16, .bool false, .bool false, .bool false, .bool false, .bool false, .bool false, .bool false, .int .u8 0]] w fun e w' => e = .returned (.tuple #[.int .u16 0, .int .i64 1]) ∧ Still w w' :=
  flags_op 0 false 16 false false false false false false false 0 w (by decide) (by decide)
theorem ex5 (w : World) : Calls Tryd.prog 13 #[.string ⟨#[49, 50, 51, 52, 53, 54, 55, 56, 57, 48, 49]⟩] w fun e w' => e = .returned (.tuple #[.agg #[.int .u16 0, .bool false, .int .u8 0, .bool false, .bool false, .bool false, .bool false, .bool false, .bool false, .bool false, .int .u8 0], .agg #[.int .i64 0, .int .i64 0, .int .i64 0, .int .i64 0], .int .i64 4]) ∧ Still w w' :=
  read_short ⟨#[49, 50, 51, 52, 53, 54, 55, 56, 57, 48, 49]⟩ (by decide) w
set_option maxRecDepth 1000000 in
set_option maxHeartbeats 3200000 in
theorem head_awake (w : World) (hb : BitsT w) : Calls Tryd.prog 9 #[] w fun e w' => e = .returned (.bool true) ∧ Still w w' := by
  go_enter Tryd.func9, Tryd.ntmps9
  go_wp2_with fail
  refine (ex1 _ hb).mono ?_
  rintro e w1 ⟨rfl, hs1⟩
  have hst := (hs1.alloc (.cells #[.int .u16 4660, .bool true, .int .u8 0, .bool false, .bool false, .bool true, .bool true, .bool false, .bool false, .bool false, .int .u8 0] 25)).alloc (.cells #[.int .i64 1, .int .i64 2, .int .i64 0, .int .i64 1] 34)
  have hA := (Blk.new w1 25 #[.int .u16 4660, .bool true, .int .u8 0, .bool false, .bool false, .bool true, .bool true, .bool false, .bool false, .bool false, .int .u8 0]).alloc (.cells #[.int .i64 1, .int .i64 2, .int .i64 0, .int .i64 1] 34)
  have hB := Blk.at_ (w1.alloc (.cells #[.int .u16 4660, .bool true, .int .u8 0, .bool false, .bool false, .bool true, .bool true, .bool false, .bool false, .bool false, .int .u8 0] 25)) 34 #[.int .i64 1, .int .i64 2, .int .i64 0, .int .i64 1] (g := w1.heap.size + 1) (by simp)
  go_wp2_with fail
  generalize (w1.alloc (.cells #[.int .u16 4660, .bool true, .int .u8 0, .bool false, .bool false, .bool true, .bool true, .bool false, .bool false, .bool false, .int .u8 0] 25)).alloc (.cells #[.int .i64 1, .int .i64 2, .int .i64 0, .int .i64 1] 34) = w2 at *
  obtain ⟨g, hg⟩ : ∃ g, w1.heap.size = g := ⟨_, rfl⟩
  rw [hg] at hA hB
  rw [hg]
  clear hg hs1
  refine (ex2 _ (hb.still hst)).mono ?_
  rintro e w1 ⟨rfl, hs1⟩
  have hA := (hA.only hs1 (fun h => h))
  have hB := (hB.only hs1 (fun h => h))
  have hst := hst.still hs1
  have hA := (hA.alloc (.cells #[.int .u16 0, .bool false, .int .u8 5, .bool false, .bool false, .bool false, .bool false, .bool false, .bool false, .bool false, .int .u8 5] 25)).alloc (.cells #[.int .i64 0, .int .i64 0, .int .i64 0, .int .i64 0] 34)
  have hB := (hB.alloc (.cells #[.int .u16 0, .bool false, .int .u8 5, .bool false, .bool false, .bool false, .bool false, .bool false, .bool false, .bool false, .int .u8 5] 25)).alloc (.cells #[.int .i64 0, .int .i64 0, .int .i64 0, .int .i64 0] 34)
  have hst := (hst.alloc (.cells #[.int .u16 0, .bool false, .int .u8 5, .bool false, .bool false, .bool false, .bool false, .bool false, .bool false, .bool false, .int .u8 5] 25)).alloc (.cells #[.int .i64 0, .int .i64 0, .int .i64 0, .int .i64 0] 34)
  have hD := (Blk.new w1 25 #[.int .u16 0, .bool false, .int .u8 5, .bool false, .bool false, .bool false, .bool false, .bool false, .bool false, .bool false, .int .u8 5]).alloc (.cells #[.int .i64 0, .int .i64 0, .int .i64 0, .int .i64 0] 34)
  go_wp2_with fail
  generalize (w1.alloc (.cells #[.int .u16 0, .bool false, .int .u8 5, .bool false, .bool false, .bool false, .bool false, .bool false, .bool false, .bool false, .int .u8 5] 25)).alloc (.cells #[.int .i64 0, .int .i64 0, .int .i64 0, .int .i64 0] 34) = w2 at *
  obtain ⟨g', hg⟩ : ∃ g, w1.heap.size = g := ⟨_, rfl⟩
  rw [hg] at hD
  rw [hg]
  clear hg hs1
  refine (ex3 _ (hb.still hst)).mono ?_
  rintro e w1 ⟨rfl, hs1⟩
  have hA := (hA.only hs1 (fun h => h))
  have hB := (hB.only hs1 (fun h => h))
  have hD := (hD.only hs1 (fun h => h))
  have hst := hst.still hs1
  clear hs1
  go_wp2_with fail
  refine (ex4 _).mono ?_
  rintro e w1 ⟨rfl, hs1⟩
  have hA := (hA.only hs1 (fun h => h))
  have hB := (hB.only hs1 (fun h => h))
  have hD := (hD.only hs1 (fun h => h))
  have hst := hst.still hs1
  clear hs1
  go_wp2_with fail
  refine (ex5 _).mono ?_
  rintro e w1 ⟨rfl, hs1⟩
  have hA := (hA.only hs1 (fun h => h))
  have hB := (hB.only hs1 (fun h => h))
  have hD := (hD.only hs1 (fun h => h))
  have hst := hst.still hs1
  have hA := (hA.alloc (.cells #[.int .u16 0, .bool false, .int .u8 0, .bool false, .bool false, .bool false, .bool false, .bool false, .bool false, .bool false, .int .u8 0] 25)).alloc (.cells #[.int .i64 0, .int .i64 0, .int .i64 0, .int .i64 0] 34)
  have hB := (hB.alloc (.cells #[.int .u16 0, .bool false, .int .u8 0, .bool false, .bool false, .bool false, .bool false, .bool false, .bool false, .bool false, .int .u8 0] 25)).alloc (.cells #[.int .i64 0, .int .i64 0, .int .i64 0, .int .i64 0] 34)
  have hD := (hD.alloc (.cells #[.int .u16 0, .bool false, .int .u8 0, .bool false, .bool false, .bool false, .bool false, .bool false, .bool false, .bool false, .int .u8 0] 25)).alloc (.cells #[.int .i64 0, .int .i64 0, .int .i64 0, .int .i64 0] 34)
  have hst := (hst.alloc (.cells #[.int .u16 0, .bool false, .int .u8 0, .bool false, .bool false, .bool false, .bool false, .bool false, .bool false, .bool false, .int .u8 0] 25)).alloc (.cells #[.int .i64 0, .int .i64 0, .int .i64 0, .int .i64 0] 34)
  go_upto_region 6 with fail
  generalize (w1.alloc (.cells #[.int .u16 0, .bool false, .int .u8 0, .bool false, .bool false, .bool false, .bool false, .bool false, .bool false, .bool false, .int .u8 0] 25)).alloc (.cells #[.int .i64 0, .int .i64 0, .int .i64 0, .int .i64 0] 34) = w2 at *
  clear hs1
  have a0 : w2.cell? ⟨g, 0, none⟩ = some (.int .u16 4660) := hA.cell 0
  have a1 : w2.cell? ⟨g, 1, none⟩ = some (.bool true) := hA.cell 1
  have a2 : w2.cell? ⟨g, 2, none⟩ = some (.int .u8 0) := hA.cell 2
  have a3 : w2.cell? ⟨g, 3, none⟩ = some (.bool false) := hA.cell 3
  have a4 : w2.cell? ⟨g, 4, none⟩ = some (.bool false) := hA.cell 4
  have a5 : w2.cell? ⟨g, 5, none⟩ = some (.bool true) := hA.cell 5
  have a6 : w2.cell? ⟨g, 6, none⟩ = some (.bool true) := hA.cell 6
  have a7 : w2.cell? ⟨g, 7, none⟩ = some (.bool false) := hA.cell 7
  have a8 : w2.cell? ⟨g, 8, none⟩ = some (.bool false) := hA.cell 8
  have a9 : w2.cell? ⟨g, 9, none⟩ = some (.bool false) := hA.cell 9
  have a10 : w2.cell? ⟨g, 10, none⟩ = some (.int .u8 0) := hA.cell 10
  have b0 : w2.cell? ⟨g + 1, 0, none⟩ = some (.int .i64 1) := hB.cell 0
  have b1 : w2.cell? ⟨g + 1, 1, none⟩ = some (.int .i64 2) := hB.cell 1
  have b2 : w2.cell? ⟨g + 1, 2, none⟩ = some (.int .i64 0) := hB.cell 2
  have b3 : w2.cell? ⟨g + 1, 3, none⟩ = some (.int .i64 1) := hB.cell 3
  have d0 : w2.cell? ⟨g', 0, none⟩ = some (.int .u16 0) := hD.cell 0
  have d1 : w2.cell? ⟨g', 1, none⟩ = some (.bool false) := hD.cell 1
  have d2 : w2.cell? ⟨g', 2, none⟩ = some (.int .u8 5) := hD.cell 2
  have d3 : w2.cell? ⟨g', 3, none⟩ = some (.bool false) := hD.cell 3
  have d4 : w2.cell? ⟨g', 4, none⟩ = some (.bool false) := hD.cell 4
  have d5 : w2.cell? ⟨g', 5, none⟩ = some (.bool false) := hD.cell 5
  have d6 : w2.cell? ⟨g', 6, none⟩ = some (.bool false) := hD.cell 6
  have d7 : w2.cell? ⟨g', 7, none⟩ = some (.bool false) := hD.cell 7
  have d8 : w2.cell? ⟨g', 8, none⟩ = some (.bool false) := hD.cell 8
  have d9 : w2.cell? ⟨g', 9, none⟩ = some (.bool false) := hD.cell 9
  have d10 : w2.cell? ⟨g', 10, none⟩ = some (.int .u8 5) := hD.cell 10
  clear hA hB hD
  have e4 := eq4c 1 2 0 1 1 2 0 1
  go_wp2_with fail
  go_ret
  exact ⟨rfl, hst⟩
end Go.Proofs.YtkoejogmcoigoaaDoor
