/-
  HeadReads: the header and the counts that any bytes are, or why they are refused, are the reference's; for every text.
-/
import Derived.Test.YtccdccclklidaaaDoorHeadL
import Derived.Test.YtccdccclklidaaaDoorHeadOpen
import Derived.Deep.Cut
namespace Go.Proofs.YtccdccclklidaaaDoor
open Go.RowKit
set_option linter.unusedVariables false
set_option linter.unusedSimpArgs false

set_option maxRecDepth 1000000 in
set_option maxHeartbeats 3200000 in
theorem reads_short (s : ByteArray) (h : s.size < 12) (w : World) (hb : BitsT w) :
    Calls Tryd.prog 11 #[.string s] w fun e w' => e = .returned (.bool true) ∧ Still w w' := by
  go_enter Tryd.func11, Tryd.ntmps11
  go_wp2_with fail
  refine (read_short s h _).mono ?_
  rintro e w1 ⟨rfl, hs1⟩
  have hst := (hs1.alloc (.cells #[.int .u16 0, .bool false, .int .u8 0, .bool false, .bool false, .bool false, .bool false, .bool false, .bool false, .bool false, .int .u8 0] 61)).alloc (.cells #[.int .i64 0, .int .i64 0, .int .i64 0, .int .i64 0] 67)
  have hA := (Blk.new w1 61 #[.int .u16 0, .bool false, .int .u8 0, .bool false, .bool false, .bool false, .bool false, .bool false, .bool false, .bool false, .int .u8 0]).alloc (.cells #[.int .i64 0, .int .i64 0, .int .i64 0, .int .i64 0] 67)
  have hB := Blk.at_ (w1.alloc (.cells #[.int .u16 0, .bool false, .int .u8 0, .bool false, .bool false, .bool false, .bool false, .bool false, .bool false, .bool false, .int .u8 0] 61)) 67 #[.int .i64 0, .int .i64 0, .int .i64 0, .int .i64 0] (g := w1.heap.size + 1) (by simp)
  go_wp2_with fail
  generalize (w1.alloc (.cells #[.int .u16 0, .bool false, .int .u8 0, .bool false, .bool false, .bool false, .bool false, .bool false, .bool false, .bool false, .int .u8 0] 61)).alloc (.cells #[.int .i64 0, .int .i64 0, .int .i64 0, .int .i64 0] 67) = w2 at *
  generalize w1.heap.size = g at *
  clear hs1
  refine (rread_short s h _).mono ?_
  rintro e w3 ⟨rfl, hs3⟩
  have hst := ((hst.still hs3).alloc (.cells #[.int .u16 0, .bool false, .int .u8 0, .bool false, .bool false, .bool false, .bool false, .bool false, .bool false, .bool false, .int .u8 0] 61)).alloc (.cells #[.int .i64 0, .int .i64 0, .int .i64 0, .int .i64 0] 66)
  have hA := ((hA.only hs3 (fun h => h)).alloc (.cells #[.int .u16 0, .bool false, .int .u8 0, .bool false, .bool false, .bool false, .bool false, .bool false, .bool false, .bool false, .int .u8 0] 61)).alloc (.cells #[.int .i64 0, .int .i64 0, .int .i64 0, .int .i64 0] 66)
  have hB := ((hB.only hs3 (fun h => h)).alloc (.cells #[.int .u16 0, .bool false, .int .u8 0, .bool false, .bool false, .bool false, .bool false, .bool false, .bool false, .bool false, .int .u8 0] 61)).alloc (.cells #[.int .i64 0, .int .i64 0, .int .i64 0, .int .i64 0] 66)
  have hD := (Blk.new w3 61 #[.int .u16 0, .bool false, .int .u8 0, .bool false, .bool false, .bool false, .bool false, .bool false, .bool false, .bool false, .int .u8 0]).alloc (.cells #[.int .i64 0, .int .i64 0, .int .i64 0, .int .i64 0] 66)
  have hE := Blk.at_ (w3.alloc (.cells #[.int .u16 0, .bool false, .int .u8 0, .bool false, .bool false, .bool false, .bool false, .bool false, .bool false, .bool false, .int .u8 0] 61)) 66 #[.int .i64 0, .int .i64 0, .int .i64 0, .int .i64 0] (g := w3.heap.size + 1) (by simp)
  go_upto_region 3 with fail
  generalize (w3.alloc (.cells #[.int .u16 0, .bool false, .int .u8 0, .bool false, .bool false, .bool false, .bool false, .bool false, .bool false, .bool false, .int .u8 0] 61)).alloc (.cells #[.int .i64 0, .int .i64 0, .int .i64 0, .int .i64 0] 66) = w4 at *
  generalize w3.heap.size = p at *
  clear hs3
  have a0 : w4.cell? ⟨g, 0, none⟩ = some (.int .u16 0) := hA.cell 0
  have a1 : w4.cell? ⟨g, 1, none⟩ = some (.bool false) := hA.cell 1
  have a2 : w4.cell? ⟨g, 2, none⟩ = some (.int .u8 0) := hA.cell 2
  have a3 : w4.cell? ⟨g, 3, none⟩ = some (.bool false) := hA.cell 3
  have a4 : w4.cell? ⟨g, 4, none⟩ = some (.bool false) := hA.cell 4
  have a5 : w4.cell? ⟨g, 5, none⟩ = some (.bool false) := hA.cell 5
  have a6 : w4.cell? ⟨g, 6, none⟩ = some (.bool false) := hA.cell 6
  have a7 : w4.cell? ⟨g, 7, none⟩ = some (.bool false) := hA.cell 7
  have a8 : w4.cell? ⟨g, 8, none⟩ = some (.bool false) := hA.cell 8
  have a9 : w4.cell? ⟨g, 9, none⟩ = some (.bool false) := hA.cell 9
  have a10 : w4.cell? ⟨g, 10, none⟩ = some (.int .u8 0) := hA.cell 10
  have b0 : w4.cell? ⟨g + 1, 0, none⟩ = some (.int .i64 0) := hB.cell 0
  have b1 : w4.cell? ⟨g + 1, 1, none⟩ = some (.int .i64 0) := hB.cell 1
  have b2 : w4.cell? ⟨g + 1, 2, none⟩ = some (.int .i64 0) := hB.cell 2
  have b3 : w4.cell? ⟨g + 1, 3, none⟩ = some (.int .i64 0) := hB.cell 3
  have d0 : w4.cell? ⟨p, 0, none⟩ = some (.int .u16 0) := hD.cell 0
  have d1 : w4.cell? ⟨p, 1, none⟩ = some (.bool false) := hD.cell 1
  have d2 : w4.cell? ⟨p, 2, none⟩ = some (.int .u8 0) := hD.cell 2
  have d3 : w4.cell? ⟨p, 3, none⟩ = some (.bool false) := hD.cell 3
  have d4 : w4.cell? ⟨p, 4, none⟩ = some (.bool false) := hD.cell 4
  have d5 : w4.cell? ⟨p, 5, none⟩ = some (.bool false) := hD.cell 5
  have d6 : w4.cell? ⟨p, 6, none⟩ = some (.bool false) := hD.cell 6
  have d7 : w4.cell? ⟨p, 7, none⟩ = some (.bool false) := hD.cell 7
  have d8 : w4.cell? ⟨p, 8, none⟩ = some (.bool false) := hD.cell 8
  have d9 : w4.cell? ⟨p, 9, none⟩ = some (.bool false) := hD.cell 9
  have d10 : w4.cell? ⟨p, 10, none⟩ = some (.int .u8 0) := hD.cell 10
  have e0 : w4.cell? ⟨p + 1, 0, none⟩ = some (.int .i64 0) := hE.cell 0
  have e1 : w4.cell? ⟨p + 1, 1, none⟩ = some (.int .i64 0) := hE.cell 1
  have e2 : w4.cell? ⟨p + 1, 2, none⟩ = some (.int .i64 0) := hE.cell 2
  have e3 : w4.cell? ⟨p + 1, 3, none⟩ = some (.int .i64 0) := hE.cell 3
  clear hA hB hD hE
  have e4 := eq4c (0) (0) (0) (0) (0) (0) (0) (0)
  go_wp2_with fail
  refine (head_awake _ (hb.still hst)).mono ?_
  rintro e w5 ⟨rfl, hs5⟩
  go_wp2_with fail
  go_ret
  exact ⟨rfl, hst.still hs5⟩
set_option maxRecDepth 1000000 in
set_option maxHeartbeats 3200000 in
theorem reads_long (s : ByteArray) (h : 12 ≤ s.size) (hmax : s.size ≤ maxLen) (id f n0 n1 n2 n3 : Nat) (hid : numAt s 0 2 = id) (hf : numAt s 2 2 = f) (hn0 : numAt s 4 2 = n0) (hn1 : numAt s 6 2 = n1) (hn2 : numAt s 8 2 = n2) (hn3 : numAt s 10 2 = n3) (w : World) (hb : BitsT w) :
    Calls Tryd.prog 11 #[.string s] w fun e w' => e = .returned (.bool true) ∧ Still w w' := by
  have h1 := fun w hb => read_long s h hmax w hb id f n0 n1 n2 n3 hid hf hn0 hn1 hn2 hn3
  have h2 := fun w => rread_long s h hmax w id f n0 n1 n2 n3 hid hf hn0 hn1 hn2 hn3
  have H1 := Lib.hid h1
  have H2 := Lib.hid h2
  clear h1 h2 hid hf hn0 hn1 hn2 hn3
  go_enter Tryd.func11, Tryd.ntmps11
  go_wp2_with fail
  refine (H1.out _ hb).mono ?_
  rintro e w1 ⟨rfl, hs1⟩
  have hst := (hs1.alloc (.cells #[.int .u16 (id : Int), .bool (f.testBit 15), .int .u8 ((f : Int) / 2048 % 16), .bool (f.testBit 10), .bool (f.testBit 9), .bool (f.testBit 8), .bool (f.testBit 7), .bool (f.testBit 6), .bool (f.testBit 5), .bool (f.testBit 4), .int .u8 ((f : Int) % 16)] 61)).alloc (.cells #[.int .i64 (n0 : Int), .int .i64 (n1 : Int), .int .i64 (n2 : Int), .int .i64 (n3 : Int)] 67)
  have hA := (Blk.new w1 61 #[.int .u16 (id : Int), .bool (f.testBit 15), .int .u8 ((f : Int) / 2048 % 16), .bool (f.testBit 10), .bool (f.testBit 9), .bool (f.testBit 8), .bool (f.testBit 7), .bool (f.testBit 6), .bool (f.testBit 5), .bool (f.testBit 4), .int .u8 ((f : Int) % 16)]).alloc (.cells #[.int .i64 (n0 : Int), .int .i64 (n1 : Int), .int .i64 (n2 : Int), .int .i64 (n3 : Int)] 67)
  have hB := Blk.at_ (w1.alloc (.cells #[.int .u16 (id : Int), .bool (f.testBit 15), .int .u8 ((f : Int) / 2048 % 16), .bool (f.testBit 10), .bool (f.testBit 9), .bool (f.testBit 8), .bool (f.testBit 7), .bool (f.testBit 6), .bool (f.testBit 5), .bool (f.testBit 4), .int .u8 ((f : Int) % 16)] 61)) 67 #[.int .i64 (n0 : Int), .int .i64 (n1 : Int), .int .i64 (n2 : Int), .int .i64 (n3 : Int)] (g := w1.heap.size + 1) (by simp)
  go_wp2_with fail
  generalize (w1.alloc (.cells #[.int .u16 (id : Int), .bool (f.testBit 15), .int .u8 ((f : Int) / 2048 % 16), .bool (f.testBit 10), .bool (f.testBit 9), .bool (f.testBit 8), .bool (f.testBit 7), .bool (f.testBit 6), .bool (f.testBit 5), .bool (f.testBit 4), .int .u8 ((f : Int) % 16)] 61)).alloc (.cells #[.int .i64 (n0 : Int), .int .i64 (n1 : Int), .int .i64 (n2 : Int), .int .i64 (n3 : Int)] 67) = w2 at *
  generalize w1.heap.size = g at *
  clear hs1
  refine (H2.out _).mono ?_
  rintro e w3 ⟨rfl, hs3⟩
  have hst := ((hst.still hs3).alloc (.cells #[.int .u16 (id : Int), .bool (f.testBit 15), .int .u8 ((f : Int) / 2048 % 16), .bool (f.testBit 10), .bool (f.testBit 9), .bool (f.testBit 8), .bool (f.testBit 7), .bool (f.testBit 6), .bool (f.testBit 5), .bool (f.testBit 4), .int .u8 ((f : Int) % 16)] 61)).alloc (.cells #[.int .i64 (n0 : Int), .int .i64 (n1 : Int), .int .i64 (n2 : Int), .int .i64 (n3 : Int)] 66)
  have hA := ((hA.only hs3 (fun h => h)).alloc (.cells #[.int .u16 (id : Int), .bool (f.testBit 15), .int .u8 ((f : Int) / 2048 % 16), .bool (f.testBit 10), .bool (f.testBit 9), .bool (f.testBit 8), .bool (f.testBit 7), .bool (f.testBit 6), .bool (f.testBit 5), .bool (f.testBit 4), .int .u8 ((f : Int) % 16)] 61)).alloc (.cells #[.int .i64 (n0 : Int), .int .i64 (n1 : Int), .int .i64 (n2 : Int), .int .i64 (n3 : Int)] 66)
  have hB := ((hB.only hs3 (fun h => h)).alloc (.cells #[.int .u16 (id : Int), .bool (f.testBit 15), .int .u8 ((f : Int) / 2048 % 16), .bool (f.testBit 10), .bool (f.testBit 9), .bool (f.testBit 8), .bool (f.testBit 7), .bool (f.testBit 6), .bool (f.testBit 5), .bool (f.testBit 4), .int .u8 ((f : Int) % 16)] 61)).alloc (.cells #[.int .i64 (n0 : Int), .int .i64 (n1 : Int), .int .i64 (n2 : Int), .int .i64 (n3 : Int)] 66)
  have hD := (Blk.new w3 61 #[.int .u16 (id : Int), .bool (f.testBit 15), .int .u8 ((f : Int) / 2048 % 16), .bool (f.testBit 10), .bool (f.testBit 9), .bool (f.testBit 8), .bool (f.testBit 7), .bool (f.testBit 6), .bool (f.testBit 5), .bool (f.testBit 4), .int .u8 ((f : Int) % 16)]).alloc (.cells #[.int .i64 (n0 : Int), .int .i64 (n1 : Int), .int .i64 (n2 : Int), .int .i64 (n3 : Int)] 66)
  have hE := Blk.at_ (w3.alloc (.cells #[.int .u16 (id : Int), .bool (f.testBit 15), .int .u8 ((f : Int) / 2048 % 16), .bool (f.testBit 10), .bool (f.testBit 9), .bool (f.testBit 8), .bool (f.testBit 7), .bool (f.testBit 6), .bool (f.testBit 5), .bool (f.testBit 4), .int .u8 ((f : Int) % 16)] 61)) 66 #[.int .i64 (n0 : Int), .int .i64 (n1 : Int), .int .i64 (n2 : Int), .int .i64 (n3 : Int)] (g := w3.heap.size + 1) (by simp)
  go_upto_region 3 with fail
  generalize (w3.alloc (.cells #[.int .u16 (id : Int), .bool (f.testBit 15), .int .u8 ((f : Int) / 2048 % 16), .bool (f.testBit 10), .bool (f.testBit 9), .bool (f.testBit 8), .bool (f.testBit 7), .bool (f.testBit 6), .bool (f.testBit 5), .bool (f.testBit 4), .int .u8 ((f : Int) % 16)] 61)).alloc (.cells #[.int .i64 (n0 : Int), .int .i64 (n1 : Int), .int .i64 (n2 : Int), .int .i64 (n3 : Int)] 66) = w4 at *
  generalize w3.heap.size = p at *
  clear hs3
  have a0 : w4.cell? ⟨g, 0, none⟩ = some (.int .u16 (id : Int)) := hA.cell 0
  have a1 : w4.cell? ⟨g, 1, none⟩ = some (.bool (f.testBit 15)) := hA.cell 1
  have a2 : w4.cell? ⟨g, 2, none⟩ = some (.int .u8 ((f : Int) / 2048 % 16)) := hA.cell 2
  have a3 : w4.cell? ⟨g, 3, none⟩ = some (.bool (f.testBit 10)) := hA.cell 3
  have a4 : w4.cell? ⟨g, 4, none⟩ = some (.bool (f.testBit 9)) := hA.cell 4
  have a5 : w4.cell? ⟨g, 5, none⟩ = some (.bool (f.testBit 8)) := hA.cell 5
  have a6 : w4.cell? ⟨g, 6, none⟩ = some (.bool (f.testBit 7)) := hA.cell 6
  have a7 : w4.cell? ⟨g, 7, none⟩ = some (.bool (f.testBit 6)) := hA.cell 7
  have a8 : w4.cell? ⟨g, 8, none⟩ = some (.bool (f.testBit 5)) := hA.cell 8
  have a9 : w4.cell? ⟨g, 9, none⟩ = some (.bool (f.testBit 4)) := hA.cell 9
  have a10 : w4.cell? ⟨g, 10, none⟩ = some (.int .u8 ((f : Int) % 16)) := hA.cell 10
  have b0 : w4.cell? ⟨g + 1, 0, none⟩ = some (.int .i64 (n0 : Int)) := hB.cell 0
  have b1 : w4.cell? ⟨g + 1, 1, none⟩ = some (.int .i64 (n1 : Int)) := hB.cell 1
  have b2 : w4.cell? ⟨g + 1, 2, none⟩ = some (.int .i64 (n2 : Int)) := hB.cell 2
  have b3 : w4.cell? ⟨g + 1, 3, none⟩ = some (.int .i64 (n3 : Int)) := hB.cell 3
  have d0 : w4.cell? ⟨p, 0, none⟩ = some (.int .u16 (id : Int)) := hD.cell 0
  have d1 : w4.cell? ⟨p, 1, none⟩ = some (.bool (f.testBit 15)) := hD.cell 1
  have d2 : w4.cell? ⟨p, 2, none⟩ = some (.int .u8 ((f : Int) / 2048 % 16)) := hD.cell 2
  have d3 : w4.cell? ⟨p, 3, none⟩ = some (.bool (f.testBit 10)) := hD.cell 3
  have d4 : w4.cell? ⟨p, 4, none⟩ = some (.bool (f.testBit 9)) := hD.cell 4
  have d5 : w4.cell? ⟨p, 5, none⟩ = some (.bool (f.testBit 8)) := hD.cell 5
  have d6 : w4.cell? ⟨p, 6, none⟩ = some (.bool (f.testBit 7)) := hD.cell 6
  have d7 : w4.cell? ⟨p, 7, none⟩ = some (.bool (f.testBit 6)) := hD.cell 7
  have d8 : w4.cell? ⟨p, 8, none⟩ = some (.bool (f.testBit 5)) := hD.cell 8
  have d9 : w4.cell? ⟨p, 9, none⟩ = some (.bool (f.testBit 4)) := hD.cell 9
  have d10 : w4.cell? ⟨p, 10, none⟩ = some (.int .u8 ((f : Int) % 16)) := hD.cell 10
  have e0 : w4.cell? ⟨p + 1, 0, none⟩ = some (.int .i64 (n0 : Int)) := hE.cell 0
  have e1 : w4.cell? ⟨p + 1, 1, none⟩ = some (.int .i64 (n1 : Int)) := hE.cell 1
  have e2 : w4.cell? ⟨p + 1, 2, none⟩ = some (.int .i64 (n2 : Int)) := hE.cell 2
  have e3 : w4.cell? ⟨p + 1, 3, none⟩ = some (.int .i64 (n3 : Int)) := hE.cell 3
  clear hA hB hD hE
  have e4 := eq4c ((n0 : Int)) ((n1 : Int)) ((n2 : Int)) ((n3 : Int)) ((n0 : Int)) ((n1 : Int)) ((n2 : Int)) ((n3 : Int))
  go_wp2_with fail
  refine (head_awake _ (hb.still hst)).mono ?_
  rintro e w5 ⟨rfl, hs5⟩
  go_wp2_with fail
  go_ret
  exact ⟨rfl, hst.still hs5⟩
theorem reads_all (w : World) (s : ByteArray) (hs : s.size ≤ maxLen) (hb : BitsT w) :
    Calls Tryd.prog 11 #[.string s] w fun e w' => e = .returned (.bool true) ∧ Still w w' := by
  rcases Nat.lt_or_ge s.size 12 with h | h
  · exact reads_short s h w hb
  · exact reads_long s h hs _ _ _ _ _ _ rfl rfl rfl rfl rfl rfl w hb
end Go.Proofs.YtccdccclklidaaaDoor
