/-
  HeadCut: of fewer than 12 bytes there is no header; bytes more behind change nothing; for every two texts.
-/
import Derived.Test.YtkoejogmcoigoaaDoorHeadL
import Derived.Test.YtkoejogmcoigoaaDoorHeadOpen
import Derived.Test.YtkoejogmcoigoaaDoorCurPartsM
import Derived.Deep.Cut
namespace Go.Proofs.YtkoejogmcoigoaaDoor
open Go.RowKit
set_option linter.unusedVariables false
set_option linter.unusedSimpArgs false

set_option maxRecDepth 1000000 in
set_option maxHeartbeats 3200000 in
theorem cut_short (s m : ByteArray) (h : s.size < 12) (w : World) (hb : BitsT w) :
    Calls Tryd.prog 8 #[.string s, .string m] w fun e w' => e = .returned (.bool true) ∧ Still w w' := by
  have h1 : (s.size : Int) < 12 := by omega
  go_enter Tryd.func8, Tryd.ntmps8
  go_wp2_with fail
  refine (read_short s h _).mono ?_
  rintro e w1 ⟨rfl, hs1⟩
  have hst := (hs1.alloc (.cells #[.int .u16 0, .bool false, .int .u8 0, .bool false, .bool false, .bool false, .bool false, .bool false, .bool false, .bool false, .int .u8 0] 25)).alloc (.cells #[.int .i64 0, .int .i64 0, .int .i64 0, .int .i64 0] 34)
  have hA := (Blk.new w1 25 #[.int .u16 0, .bool false, .int .u8 0, .bool false, .bool false, .bool false, .bool false, .bool false, .bool false, .bool false, .int .u8 0]).alloc (.cells #[.int .i64 0, .int .i64 0, .int .i64 0, .int .i64 0] 34)
  have hB := Blk.at_ (w1.alloc (.cells #[.int .u16 0, .bool false, .int .u8 0, .bool false, .bool false, .bool false, .bool false, .bool false, .bool false, .bool false, .int .u8 0] 25)) 34 #[.int .i64 0, .int .i64 0, .int .i64 0, .int .i64 0] (g := w1.heap.size + 1) (by simp)
  go_upto_region 2 with fail
  generalize (w1.alloc (.cells #[.int .u16 0, .bool false, .int .u8 0, .bool false, .bool false, .bool false, .bool false, .bool false, .bool false, .bool false, .int .u8 0] 25)).alloc (.cells #[.int .i64 0, .int .i64 0, .int .i64 0, .int .i64 0] 34) = w2 at *
  generalize w1.heap.size = g at *
  clear hs1
  have a0 : w2.cell? ⟨g, 0, none⟩ = some (.int .u16 0) := hA.cell 0
  have a1 : w2.cell? ⟨g, 1, none⟩ = some (.bool false) := hA.cell 1
  have a2 : w2.cell? ⟨g, 2, none⟩ = some (.int .u8 0) := hA.cell 2
  have a3 : w2.cell? ⟨g, 3, none⟩ = some (.bool false) := hA.cell 3
  have a4 : w2.cell? ⟨g, 4, none⟩ = some (.bool false) := hA.cell 4
  have a5 : w2.cell? ⟨g, 5, none⟩ = some (.bool false) := hA.cell 5
  have a6 : w2.cell? ⟨g, 6, none⟩ = some (.bool false) := hA.cell 6
  have a7 : w2.cell? ⟨g, 7, none⟩ = some (.bool false) := hA.cell 7
  have a8 : w2.cell? ⟨g, 8, none⟩ = some (.bool false) := hA.cell 8
  have a9 : w2.cell? ⟨g, 9, none⟩ = some (.bool false) := hA.cell 9
  have a10 : w2.cell? ⟨g, 10, none⟩ = some (.int .u8 0) := hA.cell 10
  have b0 : w2.cell? ⟨g + 1, 0, none⟩ = some (.int .i64 0) := hB.cell 0
  have b1 : w2.cell? ⟨g + 1, 1, none⟩ = some (.int .i64 0) := hB.cell 1
  have b2 : w2.cell? ⟨g + 1, 2, none⟩ = some (.int .i64 0) := hB.cell 2
  have b3 : w2.cell? ⟨g + 1, 3, none⟩ = some (.int .i64 0) := hB.cell 3
  clear hA hB
  have e4 := eq4c 0 0 0 0 0 0 0 0
  go_wp2_with fail
  refine (head_awake _ (hb.still hst)).mono ?_
  rintro e w5 ⟨rfl, hs5⟩
  go_wp2_with fail
  go_ret
  exact ⟨rfl, hst.still hs5⟩
theorem numAt_cat (s m : ByteArray) (a k : Nat) (h : a + k ≤ s.size) : numAt (s ++ m) a k = numAt s a k := by
  unfold numAt
  have hl : s.data.toList.length = s.size := by rw [Array.length_toList]; rfl
  rw [extract_list, extract_list, ByteArray.data_append, Array.toList_append, List.drop_append_of_le_length (by omega), List.take_append_of_le_length (by rw [List.length_drop]; omega)]
theorem numAt_cut (s : ByteArray) (n a k : Nat) (h : a + k ≤ n) (hn : n ≤ s.size) : numAt (s.extract 0 n) a k = numAt s a k := by
  unfold numAt
  rw [extract_list, extract_list, extract_list, List.drop_zero, Nat.sub_zero, List.drop_take, List.take_take, Nat.min_eq_left (by omega)]
set_option maxRecDepth 1000000 in
set_option maxHeartbeats 3200000 in
theorem cut_long (s m : ByteArray) (h : 12 ≤ s.size) (hs : s.size ≤ 140737488355328) (hm : m.size ≤ 140737488355328) (id f n0 n1 n2 n3 : Nat) (hid : numAt s 0 2 = id) (hf : numAt s 2 2 = f) (hn0 : numAt s 4 2 = n0) (hn1 : numAt s 6 2 = n1) (hn2 : numAt s 8 2 = n2) (hn3 : numAt s 10 2 = n3) (w : World) (hb : BitsT w) :
    Calls Tryd.prog 8 #[.string s, .string m] w fun e w' => e = .returned (.bool true) ∧ Still w w' := by
  have h1 : ¬ (s.size : Int) < 12 := by omega
  have h12 : (12 : Int) ≤ (s.size : Int) := by omega
  have hcat : ¬ 9223372036854775807 < s.size + m.size := by omega
  have hsz : (s ++ m).size = s.size + m.size := ByteArray.size_append
  have hx : (s.extract 0 12).size = 12 := by rw [ByteArray.size_extract]; omega
  have k1 := fun w hb => read_long s h (by unfold maxLen; omega) w hb id f n0 n1 n2 n3 hid hf hn0 hn1 hn2 hn3
  have k2 := fun w hb => read_long (s ++ m) (by rw [hsz]; omega) (by rw [hsz]; unfold maxLen; omega) w hb id f n0 n1 n2 n3 (by rw [numAt_cat _ _ _ _ (by omega)]; exact hid) (by rw [numAt_cat _ _ _ _ (by omega)]; exact hf) (by rw [numAt_cat _ _ _ _ (by omega)]; exact hn0) (by rw [numAt_cat _ _ _ _ (by omega)]; exact hn1) (by rw [numAt_cat _ _ _ _ (by omega)]; exact hn2) (by rw [numAt_cat _ _ _ _ (by omega)]; exact hn3)
  have k3 := fun w hb => read_long (s.extract 0 12) (by rw [hx]; exact Nat.le_refl _) (by rw [hx]; unfold maxLen; decide) w hb id f n0 n1 n2 n3 (by rw [numAt_cut _ _ _ _ (by omega) h]; exact hid) (by rw [numAt_cut _ _ _ _ (by omega) h]; exact hf) (by rw [numAt_cut _ _ _ _ (by omega) h]; exact hn0) (by rw [numAt_cut _ _ _ _ (by omega) h]; exact hn1) (by rw [numAt_cut _ _ _ _ (by omega) h]; exact hn2) (by rw [numAt_cut _ _ _ _ (by omega) h]; exact hn3)
  have K1 := Lib.hid k1
  have K2 := Lib.hid k2
  have K3 := Lib.hid k3
  clear k1 k2 k3 hsz hx hid hf hn0 hn1 hn2 hn3
  go_enter Tryd.func8, Tryd.ntmps8
  go_wp2_with fail
  refine (K1.out _ hb).mono ?_
  rintro e w1 ⟨rfl, hs1⟩
  have hst := (hs1.alloc (.cells #[.int .u16 (id : Int), .bool (f.testBit 15), .int .u8 ((f : Int) / 2048 % 16), .bool (f.testBit 10), .bool (f.testBit 9), .bool (f.testBit 8), .bool (f.testBit 7), .bool (f.testBit 6), .bool (f.testBit 5), .bool (f.testBit 4), .int .u8 ((f : Int) % 16)] 25)).alloc (.cells #[.int .i64 (n0 : Int), .int .i64 (n1 : Int), .int .i64 (n2 : Int), .int .i64 (n3 : Int)] 34)
  have hA := (Blk.new w1 25 #[.int .u16 (id : Int), .bool (f.testBit 15), .int .u8 ((f : Int) / 2048 % 16), .bool (f.testBit 10), .bool (f.testBit 9), .bool (f.testBit 8), .bool (f.testBit 7), .bool (f.testBit 6), .bool (f.testBit 5), .bool (f.testBit 4), .int .u8 ((f : Int) % 16)]).alloc (.cells #[.int .i64 (n0 : Int), .int .i64 (n1 : Int), .int .i64 (n2 : Int), .int .i64 (n3 : Int)] 34)
  have hB := Blk.at_ (w1.alloc (.cells #[.int .u16 (id : Int), .bool (f.testBit 15), .int .u8 ((f : Int) / 2048 % 16), .bool (f.testBit 10), .bool (f.testBit 9), .bool (f.testBit 8), .bool (f.testBit 7), .bool (f.testBit 6), .bool (f.testBit 5), .bool (f.testBit 4), .int .u8 ((f : Int) % 16)] 25)) 34 #[.int .i64 (n0 : Int), .int .i64 (n1 : Int), .int .i64 (n2 : Int), .int .i64 (n3 : Int)] (g := w1.heap.size + 1) (by simp)
  go_upto_region 2 with fail
  generalize (w1.alloc (.cells #[.int .u16 (id : Int), .bool (f.testBit 15), .int .u8 ((f : Int) / 2048 % 16), .bool (f.testBit 10), .bool (f.testBit 9), .bool (f.testBit 8), .bool (f.testBit 7), .bool (f.testBit 6), .bool (f.testBit 5), .bool (f.testBit 4), .int .u8 ((f : Int) % 16)] 25)).alloc (.cells #[.int .i64 (n0 : Int), .int .i64 (n1 : Int), .int .i64 (n2 : Int), .int .i64 (n3 : Int)] 34) = w2 at *
  generalize w1.heap.size = g at *
  clear hs1
  go_wp2_with fail
  refine (K2.out _ (hb.still hst)).mono ?_
  rintro e w3 ⟨rfl, hs3⟩
  have hst := ((hst.still hs3).alloc (.cells #[.int .u16 (id : Int), .bool (f.testBit 15), .int .u8 ((f : Int) / 2048 % 16), .bool (f.testBit 10), .bool (f.testBit 9), .bool (f.testBit 8), .bool (f.testBit 7), .bool (f.testBit 6), .bool (f.testBit 5), .bool (f.testBit 4), .int .u8 ((f : Int) % 16)] 25)).alloc (.cells #[.int .i64 (n0 : Int), .int .i64 (n1 : Int), .int .i64 (n2 : Int), .int .i64 (n3 : Int)] 34)
  have hA := ((hA.only hs3 (fun h => h)).alloc (.cells #[.int .u16 (id : Int), .bool (f.testBit 15), .int .u8 ((f : Int) / 2048 % 16), .bool (f.testBit 10), .bool (f.testBit 9), .bool (f.testBit 8), .bool (f.testBit 7), .bool (f.testBit 6), .bool (f.testBit 5), .bool (f.testBit 4), .int .u8 ((f : Int) % 16)] 25)).alloc (.cells #[.int .i64 (n0 : Int), .int .i64 (n1 : Int), .int .i64 (n2 : Int), .int .i64 (n3 : Int)] 34)
  have hB := ((hB.only hs3 (fun h => h)).alloc (.cells #[.int .u16 (id : Int), .bool (f.testBit 15), .int .u8 ((f : Int) / 2048 % 16), .bool (f.testBit 10), .bool (f.testBit 9), .bool (f.testBit 8), .bool (f.testBit 7), .bool (f.testBit 6), .bool (f.testBit 5), .bool (f.testBit 4), .int .u8 ((f : Int) % 16)] 25)).alloc (.cells #[.int .i64 (n0 : Int), .int .i64 (n1 : Int), .int .i64 (n2 : Int), .int .i64 (n3 : Int)] 34)
  have hD := (Blk.new w3 25 #[.int .u16 (id : Int), .bool (f.testBit 15), .int .u8 ((f : Int) / 2048 % 16), .bool (f.testBit 10), .bool (f.testBit 9), .bool (f.testBit 8), .bool (f.testBit 7), .bool (f.testBit 6), .bool (f.testBit 5), .bool (f.testBit 4), .int .u8 ((f : Int) % 16)]).alloc (.cells #[.int .i64 (n0 : Int), .int .i64 (n1 : Int), .int .i64 (n2 : Int), .int .i64 (n3 : Int)] 34)
  have hE := Blk.at_ (w3.alloc (.cells #[.int .u16 (id : Int), .bool (f.testBit 15), .int .u8 ((f : Int) / 2048 % 16), .bool (f.testBit 10), .bool (f.testBit 9), .bool (f.testBit 8), .bool (f.testBit 7), .bool (f.testBit 6), .bool (f.testBit 5), .bool (f.testBit 4), .int .u8 ((f : Int) % 16)] 25)) 34 #[.int .i64 (n0 : Int), .int .i64 (n1 : Int), .int .i64 (n2 : Int), .int .i64 (n3 : Int)] (g := w3.heap.size + 1) (by simp)
  go_upto_region 5 with fail
  generalize (w3.alloc (.cells #[.int .u16 (id : Int), .bool (f.testBit 15), .int .u8 ((f : Int) / 2048 % 16), .bool (f.testBit 10), .bool (f.testBit 9), .bool (f.testBit 8), .bool (f.testBit 7), .bool (f.testBit 6), .bool (f.testBit 5), .bool (f.testBit 4), .int .u8 ((f : Int) % 16)] 25)).alloc (.cells #[.int .i64 (n0 : Int), .int .i64 (n1 : Int), .int .i64 (n2 : Int), .int .i64 (n3 : Int)] 34) = w4 at *
  generalize w3.heap.size = p at *
  clear hs3
  go_wp2_with fail
  refine (K3.out _ (hb.still hst)).mono ?_
  rintro e w5 ⟨rfl, hs5⟩
  have hst := ((hst.still hs5).alloc (.cells #[.int .u16 (id : Int), .bool (f.testBit 15), .int .u8 ((f : Int) / 2048 % 16), .bool (f.testBit 10), .bool (f.testBit 9), .bool (f.testBit 8), .bool (f.testBit 7), .bool (f.testBit 6), .bool (f.testBit 5), .bool (f.testBit 4), .int .u8 ((f : Int) % 16)] 25)).alloc (.cells #[.int .i64 (n0 : Int), .int .i64 (n1 : Int), .int .i64 (n2 : Int), .int .i64 (n3 : Int)] 34)
  have hA := ((hA.only hs5 (fun h => h)).alloc (.cells #[.int .u16 (id : Int), .bool (f.testBit 15), .int .u8 ((f : Int) / 2048 % 16), .bool (f.testBit 10), .bool (f.testBit 9), .bool (f.testBit 8), .bool (f.testBit 7), .bool (f.testBit 6), .bool (f.testBit 5), .bool (f.testBit 4), .int .u8 ((f : Int) % 16)] 25)).alloc (.cells #[.int .i64 (n0 : Int), .int .i64 (n1 : Int), .int .i64 (n2 : Int), .int .i64 (n3 : Int)] 34)
  have hB := ((hB.only hs5 (fun h => h)).alloc (.cells #[.int .u16 (id : Int), .bool (f.testBit 15), .int .u8 ((f : Int) / 2048 % 16), .bool (f.testBit 10), .bool (f.testBit 9), .bool (f.testBit 8), .bool (f.testBit 7), .bool (f.testBit 6), .bool (f.testBit 5), .bool (f.testBit 4), .int .u8 ((f : Int) % 16)] 25)).alloc (.cells #[.int .i64 (n0 : Int), .int .i64 (n1 : Int), .int .i64 (n2 : Int), .int .i64 (n3 : Int)] 34)
  have hD := ((hD.only hs5 (fun h => h)).alloc (.cells #[.int .u16 (id : Int), .bool (f.testBit 15), .int .u8 ((f : Int) / 2048 % 16), .bool (f.testBit 10), .bool (f.testBit 9), .bool (f.testBit 8), .bool (f.testBit 7), .bool (f.testBit 6), .bool (f.testBit 5), .bool (f.testBit 4), .int .u8 ((f : Int) % 16)] 25)).alloc (.cells #[.int .i64 (n0 : Int), .int .i64 (n1 : Int), .int .i64 (n2 : Int), .int .i64 (n3 : Int)] 34)
  have hE := ((hE.only hs5 (fun h => h)).alloc (.cells #[.int .u16 (id : Int), .bool (f.testBit 15), .int .u8 ((f : Int) / 2048 % 16), .bool (f.testBit 10), .bool (f.testBit 9), .bool (f.testBit 8), .bool (f.testBit 7), .bool (f.testBit 6), .bool (f.testBit 5), .bool (f.testBit 4), .int .u8 ((f : Int) % 16)] 25)).alloc (.cells #[.int .i64 (n0 : Int), .int .i64 (n1 : Int), .int .i64 (n2 : Int), .int .i64 (n3 : Int)] 34)
  have hG := (Blk.new w5 25 #[.int .u16 (id : Int), .bool (f.testBit 15), .int .u8 ((f : Int) / 2048 % 16), .bool (f.testBit 10), .bool (f.testBit 9), .bool (f.testBit 8), .bool (f.testBit 7), .bool (f.testBit 6), .bool (f.testBit 5), .bool (f.testBit 4), .int .u8 ((f : Int) % 16)]).alloc (.cells #[.int .i64 (n0 : Int), .int .i64 (n1 : Int), .int .i64 (n2 : Int), .int .i64 (n3 : Int)] 34)
  have hI := Blk.at_ (w5.alloc (.cells #[.int .u16 (id : Int), .bool (f.testBit 15), .int .u8 ((f : Int) / 2048 % 16), .bool (f.testBit 10), .bool (f.testBit 9), .bool (f.testBit 8), .bool (f.testBit 7), .bool (f.testBit 6), .bool (f.testBit 5), .bool (f.testBit 4), .int .u8 ((f : Int) % 16)] 25)) 34 #[.int .i64 (n0 : Int), .int .i64 (n1 : Int), .int .i64 (n2 : Int), .int .i64 (n3 : Int)] (g := w5.heap.size + 1) (by simp)
  go_upto_region 6 with fail
  generalize (w5.alloc (.cells #[.int .u16 (id : Int), .bool (f.testBit 15), .int .u8 ((f : Int) / 2048 % 16), .bool (f.testBit 10), .bool (f.testBit 9), .bool (f.testBit 8), .bool (f.testBit 7), .bool (f.testBit 6), .bool (f.testBit 5), .bool (f.testBit 4), .int .u8 ((f : Int) % 16)] 25)).alloc (.cells #[.int .i64 (n0 : Int), .int .i64 (n1 : Int), .int .i64 (n2 : Int), .int .i64 (n3 : Int)] 34) = w6 at *
  generalize w5.heap.size = q at *
  clear hs5
  have a0 : w6.cell? ⟨g, 0, none⟩ = some (.int .u16 (id : Int)) := hA.cell 0
  have a1 : w6.cell? ⟨g, 1, none⟩ = some (.bool (f.testBit 15)) := hA.cell 1
  have a2 : w6.cell? ⟨g, 2, none⟩ = some (.int .u8 ((f : Int) / 2048 % 16)) := hA.cell 2
  have a3 : w6.cell? ⟨g, 3, none⟩ = some (.bool (f.testBit 10)) := hA.cell 3
  have a4 : w6.cell? ⟨g, 4, none⟩ = some (.bool (f.testBit 9)) := hA.cell 4
  have a5 : w6.cell? ⟨g, 5, none⟩ = some (.bool (f.testBit 8)) := hA.cell 5
  have a6 : w6.cell? ⟨g, 6, none⟩ = some (.bool (f.testBit 7)) := hA.cell 6
  have a7 : w6.cell? ⟨g, 7, none⟩ = some (.bool (f.testBit 6)) := hA.cell 7
  have a8 : w6.cell? ⟨g, 8, none⟩ = some (.bool (f.testBit 5)) := hA.cell 8
  have a9 : w6.cell? ⟨g, 9, none⟩ = some (.bool (f.testBit 4)) := hA.cell 9
  have a10 : w6.cell? ⟨g, 10, none⟩ = some (.int .u8 ((f : Int) % 16)) := hA.cell 10
  have b0 : w6.cell? ⟨g + 1, 0, none⟩ = some (.int .i64 (n0 : Int)) := hB.cell 0
  have b1 : w6.cell? ⟨g + 1, 1, none⟩ = some (.int .i64 (n1 : Int)) := hB.cell 1
  have b2 : w6.cell? ⟨g + 1, 2, none⟩ = some (.int .i64 (n2 : Int)) := hB.cell 2
  have b3 : w6.cell? ⟨g + 1, 3, none⟩ = some (.int .i64 (n3 : Int)) := hB.cell 3
  have d0 : w6.cell? ⟨p, 0, none⟩ = some (.int .u16 (id : Int)) := hD.cell 0
  have d1 : w6.cell? ⟨p, 1, none⟩ = some (.bool (f.testBit 15)) := hD.cell 1
  have d2 : w6.cell? ⟨p, 2, none⟩ = some (.int .u8 ((f : Int) / 2048 % 16)) := hD.cell 2
  have d3 : w6.cell? ⟨p, 3, none⟩ = some (.bool (f.testBit 10)) := hD.cell 3
  have d4 : w6.cell? ⟨p, 4, none⟩ = some (.bool (f.testBit 9)) := hD.cell 4
  have d5 : w6.cell? ⟨p, 5, none⟩ = some (.bool (f.testBit 8)) := hD.cell 5
  have d6 : w6.cell? ⟨p, 6, none⟩ = some (.bool (f.testBit 7)) := hD.cell 6
  have d7 : w6.cell? ⟨p, 7, none⟩ = some (.bool (f.testBit 6)) := hD.cell 7
  have d8 : w6.cell? ⟨p, 8, none⟩ = some (.bool (f.testBit 5)) := hD.cell 8
  have d9 : w6.cell? ⟨p, 9, none⟩ = some (.bool (f.testBit 4)) := hD.cell 9
  have d10 : w6.cell? ⟨p, 10, none⟩ = some (.int .u8 ((f : Int) % 16)) := hD.cell 10
  have e0 : w6.cell? ⟨p + 1, 0, none⟩ = some (.int .i64 (n0 : Int)) := hE.cell 0
  have e1 : w6.cell? ⟨p + 1, 1, none⟩ = some (.int .i64 (n1 : Int)) := hE.cell 1
  have e2 : w6.cell? ⟨p + 1, 2, none⟩ = some (.int .i64 (n2 : Int)) := hE.cell 2
  have e3 : w6.cell? ⟨p + 1, 3, none⟩ = some (.int .i64 (n3 : Int)) := hE.cell 3
  have g0 : w6.cell? ⟨q, 0, none⟩ = some (.int .u16 (id : Int)) := hG.cell 0
  have g1 : w6.cell? ⟨q, 1, none⟩ = some (.bool (f.testBit 15)) := hG.cell 1
  have g2 : w6.cell? ⟨q, 2, none⟩ = some (.int .u8 ((f : Int) / 2048 % 16)) := hG.cell 2
  have g3 : w6.cell? ⟨q, 3, none⟩ = some (.bool (f.testBit 10)) := hG.cell 3
  have g4 : w6.cell? ⟨q, 4, none⟩ = some (.bool (f.testBit 9)) := hG.cell 4
  have g5 : w6.cell? ⟨q, 5, none⟩ = some (.bool (f.testBit 8)) := hG.cell 5
  have g6 : w6.cell? ⟨q, 6, none⟩ = some (.bool (f.testBit 7)) := hG.cell 6
  have g7 : w6.cell? ⟨q, 7, none⟩ = some (.bool (f.testBit 6)) := hG.cell 7
  have g8 : w6.cell? ⟨q, 8, none⟩ = some (.bool (f.testBit 5)) := hG.cell 8
  have g9 : w6.cell? ⟨q, 9, none⟩ = some (.bool (f.testBit 4)) := hG.cell 9
  have g10 : w6.cell? ⟨q, 10, none⟩ = some (.int .u8 ((f : Int) % 16)) := hG.cell 10
  have i0 : w6.cell? ⟨q + 1, 0, none⟩ = some (.int .i64 (n0 : Int)) := hI.cell 0
  have i1 : w6.cell? ⟨q + 1, 1, none⟩ = some (.int .i64 (n1 : Int)) := hI.cell 1
  have i2 : w6.cell? ⟨q + 1, 2, none⟩ = some (.int .i64 (n2 : Int)) := hI.cell 2
  have i3 : w6.cell? ⟨q + 1, 3, none⟩ = some (.int .i64 (n3 : Int)) := hI.cell 3
  clear hA hB hD hE hG hI
  have e4 := eq4c ((n0 : Int)) ((n1 : Int)) ((n2 : Int)) ((n3 : Int)) ((n0 : Int)) ((n1 : Int)) ((n2 : Int)) ((n3 : Int))
  go_wp2_with fail
  refine (head_awake _ (hb.still hst)).mono ?_
  rintro e w7 ⟨rfl, hs7⟩
  go_wp2_with fail
  go_ret
  exact ⟨rfl, hst.still hs7⟩
theorem cut_all (w : World) (s : ByteArray) (ws : s.size ≤ maxLen) (m : ByteArray) (wm : m.size ≤ maxLen) (hb : BitsT w) (hs : s.size ≤ 140737488355328) (hm : m.size ≤ 140737488355328) :
    Calls Tryd.prog 8 #[.string s, .string m] w fun e w' => e = .returned (.bool true) ∧ Still w w' := by
  rcases Nat.lt_or_ge s.size 12 with h | h
  · exact cut_short s m h w hb
  · exact cut_long s m h hs hm _ _ _ _ _ _ rfl rfl rfl rfl rfl rfl w hb
end Go.Proofs.YtkoejogmcoigoaaDoor
