/-
  Package head and its reference: Read.
-/
import Derived.Test.YtkoejogmcoigoaaDoorHeadW
import Derived.Test.YtkoejogmcoigoaaDoorTake
import Derived.Deep.Cut
namespace Go.Proofs.YtkoejogmcoigoaaDoor
open Go.RowKit
set_option linter.unusedVariables false
set_option linter.unusedSimpArgs false

set_option maxRecDepth 100000 in
theorem read_short (s : ByteArray) (h : s.size < 12) (w : World) :
    Calls Tryd.prog 13 #[.string s] w fun e w' => e = .returned (.tuple #[.agg #[.int .u16 0, .bool false, .int .u8 0, .bool false, .bool false, .bool false, .bool false, .bool false, .bool false, .bool false, .int .u8 0], .agg #[.int .i64 0, .int .i64 0, .int .i64 0, .int .i64 0], .int .i64 4]) ∧ Still w w' := by
  have h1 : (s.size : Int) < 12 := by omega
  have hst := (Still.new w (.cells #[.int .u16 0, .bool false, .int .u8 0, .bool false, .bool false, .bool false, .bool false, .bool false, .bool false, .bool false, .int .u8 0] 25)).alloc (.cells #[.int .i64 0, .int .i64 0, .int .i64 0, .int .i64 0] 34)
  have hB := (Blk.new w 25 #[.int .u16 0, .bool false, .int .u8 0, .bool false, .bool false, .bool false, .bool false, .bool false, .bool false, .bool false, .int .u8 0]).alloc (.cells #[.int .i64 0, .int .i64 0, .int .i64 0, .int .i64 0] 34)
  have hC := Blk.at_ (w.alloc (.cells #[.int .u16 0, .bool false, .int .u8 0, .bool false, .bool false, .bool false, .bool false, .bool false, .bool false, .bool false, .int .u8 0] 25)) 34 #[.int .i64 0, .int .i64 0, .int .i64 0, .int .i64 0] (g := w.heap.size + 1) (by simp)
  go_enter Tryd.func13, Tryd.ntmps13
  go_upto_region 2 with (fail)
  generalize (w.alloc (.cells #[.int .u16 0, .bool false, .int .u8 0, .bool false, .bool false, .bool false, .bool false, .bool false, .bool false, .bool false, .int .u8 0] 25)).alloc (.cells #[.int .i64 0, .int .i64 0, .int .i64 0, .int .i64 0] 34) = w1 at *
  obtain ⟨g, hg⟩ : ∃ g, w.heap.size = g := ⟨_, rfl⟩
  rw [hg] at hB hC
  rw [hg]
  go_wp2_with (first | ((refine wpList_store_blk rfl 25 (.tmp 2) (.tmp 18) rfl g rfl #[.int .u16 0, .bool false, .int .u8 0, .bool false, .bool false, .bool false, .bool false, .bool false, .bool false, .bool false, .int .u8 0] rfl 25 _ hB (by kernel_rfl) rfl (by kernel_rfl) ?_); intro wa hBa hoa; have hCa := hC.only hoa (by omega)) | ((refine wpList_store_blk rfl 34 (.tmp 3) (.tmp 19) rfl (g + 1) rfl #[.int .i64 0, .int .i64 0, .int .i64 0, .int .i64 0] rfl 34 _ hCa (by kernel_rfl) rfl (by kernel_rfl) ?_); intro wb hCb hob; have hBb := hBa.only hob (by omega)))
  refine bodyPost_ret (results_ccr rfl _ _ g (g + 1) _ _ _ _ _ _ rfl hBb rfl hCb _ rfl Tryd.underlying25 rfl (by kernel_rfl) Tryd.underlying34 rfl (by kernel_rfl)) rfl ?_
  exact ⟨rfl, (hst.trans hoa (fun i hi e => by omega)).trans hob (fun i hi e => by omega)⟩
set_option maxRecDepth 100000 in
theorem rread_short (s : ByteArray) (h : s.size < 12) (w : World) :
    Calls Tryd.prog 14 #[.string s] w fun e w' => e = .returned (.tuple #[.agg #[.int .u16 0, .bool false, .int .u8 0, .bool false, .bool false, .bool false, .bool false, .bool false, .bool false, .bool false, .int .u8 0], .agg #[.int .i64 0, .int .i64 0, .int .i64 0, .int .i64 0], .int .i64 4]) ∧ Still w w' := by
  have h1 : (s.size : Int) < 12 := by omega
  have hst := (Still.new w (.cells #[.int .u16 0, .bool false, .int .u8 0, .bool false, .bool false, .bool false, .bool false, .bool false, .bool false, .bool false, .int .u8 0] 25)).alloc (.cells #[.int .i64 0, .int .i64 0, .int .i64 0, .int .i64 0] 33)
  have hB := (Blk.new w 25 #[.int .u16 0, .bool false, .int .u8 0, .bool false, .bool false, .bool false, .bool false, .bool false, .bool false, .bool false, .int .u8 0]).alloc (.cells #[.int .i64 0, .int .i64 0, .int .i64 0, .int .i64 0] 33)
  have hC := Blk.at_ (w.alloc (.cells #[.int .u16 0, .bool false, .int .u8 0, .bool false, .bool false, .bool false, .bool false, .bool false, .bool false, .bool false, .int .u8 0] 25)) 33 #[.int .i64 0, .int .i64 0, .int .i64 0, .int .i64 0] (g := w.heap.size + 1) (by simp)
  go_enter Tryd.func14, Tryd.ntmps14
  go_upto_region 2 with (fail)
  generalize (w.alloc (.cells #[.int .u16 0, .bool false, .int .u8 0, .bool false, .bool false, .bool false, .bool false, .bool false, .bool false, .bool false, .int .u8 0] 25)).alloc (.cells #[.int .i64 0, .int .i64 0, .int .i64 0, .int .i64 0] 33) = w1 at *
  obtain ⟨g, hg⟩ : ∃ g, w.heap.size = g := ⟨_, rfl⟩
  rw [hg] at hB hC
  rw [hg]
  go_wp2_with (first | ((refine wpList_store_blk rfl 25 (.tmp 2) (.tmp 9) rfl g rfl #[.int .u16 0, .bool false, .int .u8 0, .bool false, .bool false, .bool false, .bool false, .bool false, .bool false, .bool false, .int .u8 0] rfl 25 _ hB (by kernel_rfl) rfl (by kernel_rfl) ?_); intro wa hBa hoa; have hCa := hC.only hoa (by omega)) | ((refine wpList_store_blk rfl 33 (.tmp 3) (.tmp 10) rfl (g + 1) rfl #[.int .i64 0, .int .i64 0, .int .i64 0, .int .i64 0] rfl 33 _ hCa (by kernel_rfl) rfl (by kernel_rfl) ?_); intro wb hCb hob; have hBb := hBa.only hob (by omega)))
  refine bodyPost_ret (results_ccr rfl _ _ g (g + 1) _ _ _ _ _ _ rfl hBb rfl hCb _ rfl Tryd.underlying25 rfl (by kernel_rfl) Tryd.underlying33 rfl (by kernel_rfl)) rfl ?_
  exact ⟨rfl, (hst.trans hoa (fun i hi e => by omega)).trans hob (fun i hi e => by omega)⟩

set_option maxRecDepth 1000000 in
set_option maxHeartbeats 3200000 in
theorem read_long (s : ByteArray) (h : 12 ≤ s.size) (hmax : s.size ≤ maxLen) (w : World) (hb : BitsT w) (id f n0 n1 n2 n3 : Nat) (hid : numAt s 0 2 = id) (hf : numAt s 2 2 = f) (hn0 : numAt s 4 2 = n0) (hn1 : numAt s 6 2 = n1) (hn2 : numAt s 8 2 = n2) (hn3 : numAt s 10 2 = n3) :
    Calls Tryd.prog 13 #[.string s] w fun e w' => e = .returned (.tuple #[.agg #[.int .u16 (id : Int), .bool (f.testBit 15), .int .u8 ((f : Int) / 2048 % 16), .bool (f.testBit 10), .bool (f.testBit 9), .bool (f.testBit 8), .bool (f.testBit 7), .bool (f.testBit 6), .bool (f.testBit 5), .bool (f.testBit 4), .int .u8 ((f : Int) % 16)], .agg #[.int .i64 (n0 : Int), .int .i64 (n1 : Int), .int .i64 (n2 : Int), .int .i64 (n3 : Int)], .int .i64 0]) ∧ Still w w' := by
  have h1 : ¬ (s.size : Int) < 12 := by omega
  have lid : id < 65536 := by rw [← hid]; exact beL_len s 0 2 (by omega)
  have lf : f < 65536 := by rw [← hf]; exact beL_len s 2 2 (by omega)
  have l0 : n0 < 65536 := by rw [← hn0]; exact beL_len s 4 2 (by omega)
  have l1 : n1 < 65536 := by rw [← hn1]; exact beL_len s 6 2 (by omega)
  have l2 : n2 < 65536 := by rw [← hn2]; exact beL_len s 8 2 (by omega)
  have l3 : n3 < 65536 := by rw [← hn3]; exact beL_len s 10 2 (by omega)
  have Hid_ := Lib.hid hid
  have Hf := Lib.hid hf
  have Hn0 := Lib.hid hn0
  have Hn1 := Lib.hid hn1
  have Hn2 := Lib.hid hn2
  have Hn3 := Lib.hid hn3
  clear hid hf hn0 hn1 hn2 hn3
  have hst := (Still.new w (.cells #[.int .u16 0, .bool false, .int .u8 0, .bool false, .bool false, .bool false, .bool false, .bool false, .bool false, .bool false, .int .u8 0] 25)).alloc (.cells #[.int .i64 0, .int .i64 0, .int .i64 0, .int .i64 0] 34)
  have hB := (Blk.new w 25 #[.int .u16 0, .bool false, .int .u8 0, .bool false, .bool false, .bool false, .bool false, .bool false, .bool false, .bool false, .int .u8 0]).alloc (.cells #[.int .i64 0, .int .i64 0, .int .i64 0, .int .i64 0] 34)
  have hC := Blk.at_ (w.alloc (.cells #[.int .u16 0, .bool false, .int .u8 0, .bool false, .bool false, .bool false, .bool false, .bool false, .bool false, .bool false, .int .u8 0] 25)) 34 #[.int .i64 0, .int .i64 0, .int .i64 0, .int .i64 0] (g := w.heap.size + 1) (by simp)
  go_enter Tryd.func13, Tryd.ntmps13
  go_wp2_with fail
  generalize (w.alloc (.cells #[.int .u16 0, .bool false, .int .u8 0, .bool false, .bool false, .bool false, .bool false, .bool false, .bool false, .bool false, .int .u8 0] 25)).alloc (.cells #[.int .i64 0, .int .i64 0, .int .i64 0, .int .i64 0] 34) = w1 at *
  obtain ⟨g, hg⟩ : ∃ g, w.heap.size = g := ⟨_, rfl⟩
  rw [hg] at hB hC
  rw [hg]
  have hgl := hC.lt
  refine (cur_new s _).mono ?_
  rintro e w2 ⟨gc, rfl, hgc, hc0, hs2⟩
  have hst2 := hst.still hs2
  have hB2 := hB.only hs2 (fun h => h)
  have hC2 := hC.only hs2 (fun h => h)
  clear hst hs2 hB hC
  go_wp2_with fail
  refine (Two_in hc0 (by omega) hmax (by omega)).mono ?_
  rintro e v0 ⟨hee, hc1, ho0⟩
  rw [show numAt s 0 2 = id from Hid_.out] at hee
  subst hee
  have hc1 : Cur v0 gc s 2 := hc1
  go_wp2_with fail
  refine (Two_in hc1 (by omega) hmax (by omega)).mono ?_
  rintro e v1 ⟨hee, hc2, ho1⟩
  rw [show numAt s 2 2 = f from Hf.out] at hee
  subst hee
  have hc2 : Cur v1 gc s 4 := hc2
  have hst3 := (hst2.trans ho0 (fun i hi e => by omega)).trans ho1 (fun i hi e => by omega)
  have hB3 := (hB2.only ho0 (by omega)).only ho1 (by omega)
  have hC3 := (hC2.only ho0 (by omega)).only ho1 (by omega)
  clear hst2 hB2 hC2 ho0 ho1 hc0 hc1
  go_wp2_with fail
  refine (from_any f lf _ (hb.still hst3)).mono ?_
  rintro e w3 ⟨rfl, hs4⟩
  have hst4 := hst3.still hs4
  have hB4 := hB3.only hs4 (fun h => h)
  have hC4 := hC3.only hs4 (fun h => h)
  have hc4 := hc2.still hs4
  clear hst3 hB3 hC3 hc2 hs4
  have hgc3 := hc4.lt
  have hst5 := (hst4.alloc (.cells #[.int .u16 (id : Int), .bool (f.testBit 15), .int .u8 ((f : Int) / 2048 % 16), .bool (f.testBit 10), .bool (f.testBit 9), .bool (f.testBit 8), .bool (f.testBit 7), .bool (f.testBit 6), .bool (f.testBit 5), .bool (f.testBit 4), .int .u8 ((f : Int) % 16)] 25)).alloc (.cells #[.int .i64 0, .int .i64 0, .int .i64 0, .int .i64 0] 34)
  have hB5 := (hB4.alloc (.cells #[.int .u16 (id : Int), .bool (f.testBit 15), .int .u8 ((f : Int) / 2048 % 16), .bool (f.testBit 10), .bool (f.testBit 9), .bool (f.testBit 8), .bool (f.testBit 7), .bool (f.testBit 6), .bool (f.testBit 5), .bool (f.testBit 4), .int .u8 ((f : Int) % 16)] 25)).alloc (.cells #[.int .i64 0, .int .i64 0, .int .i64 0, .int .i64 0] 34)
  have hC5 := (hC4.alloc (.cells #[.int .u16 (id : Int), .bool (f.testBit 15), .int .u8 ((f : Int) / 2048 % 16), .bool (f.testBit 10), .bool (f.testBit 9), .bool (f.testBit 8), .bool (f.testBit 7), .bool (f.testBit 6), .bool (f.testBit 5), .bool (f.testBit 4), .int .u8 ((f : Int) % 16)] 25)).alloc (.cells #[.int .i64 0, .int .i64 0, .int .i64 0, .int .i64 0] 34)
  have hc5 : Cur ((w3.alloc (.cells #[.int .u16 (id : Int), .bool (f.testBit 15), .int .u8 ((f : Int) / 2048 % 16), .bool (f.testBit 10), .bool (f.testBit 9), .bool (f.testBit 8), .bool (f.testBit 7), .bool (f.testBit 6), .bool (f.testBit 5), .bool (f.testBit 4), .int .u8 ((f : Int) % 16)] 25)).alloc (.cells #[.int .i64 0, .int .i64 0, .int .i64 0, .int .i64 0] 34)) gc s 4 := (Blk.alloc hc4 (.cells #[.int .u16 (id : Int), .bool (f.testBit 15), .int .u8 ((f : Int) / 2048 % 16), .bool (f.testBit 10), .bool (f.testBit 9), .bool (f.testBit 8), .bool (f.testBit 7), .bool (f.testBit 6), .bool (f.testBit 5), .bool (f.testBit 4), .int .u8 ((f : Int) % 16)] 25)).alloc (.cells #[.int .i64 0, .int .i64 0, .int .i64 0, .int .i64 0] 34)
  have hH5 := (Blk.new w3 25 #[.int .u16 (id : Int), .bool (f.testBit 15), .int .u8 ((f : Int) / 2048 % 16), .bool (f.testBit 10), .bool (f.testBit 9), .bool (f.testBit 8), .bool (f.testBit 7), .bool (f.testBit 6), .bool (f.testBit 5), .bool (f.testBit 4), .int .u8 ((f : Int) % 16)]).alloc (.cells #[.int .i64 0, .int .i64 0, .int .i64 0, .int .i64 0] 34)
  have hN5 := Blk.at_ (w3.alloc (.cells #[.int .u16 (id : Int), .bool (f.testBit 15), .int .u8 ((f : Int) / 2048 % 16), .bool (f.testBit 10), .bool (f.testBit 9), .bool (f.testBit 8), .bool (f.testBit 7), .bool (f.testBit 6), .bool (f.testBit 5), .bool (f.testBit 4), .int .u8 ((f : Int) % 16)] 25)) 34 #[.int .i64 0, .int .i64 0, .int .i64 0, .int .i64 0] (g := w3.heap.size + 1) (by simp)
  have hgp := hC4.lt
  have hp0 : w.heap.size < w3.heap.size := by omega
  clear hst4 hB4 hC4 hc4
  go_upto_region 9 with (fail)
  generalize (w3.alloc (.cells #[.int .u16 (id : Int), .bool (f.testBit 15), .int .u8 ((f : Int) / 2048 % 16), .bool (f.testBit 10), .bool (f.testBit 9), .bool (f.testBit 8), .bool (f.testBit 7), .bool (f.testBit 6), .bool (f.testBit 5), .bool (f.testBit 4), .int .u8 ((f : Int) % 16)] 25)).alloc (.cells #[.int .i64 0, .int .i64 0, .int .i64 0, .int .i64 0] 34) = w5 at *
  obtain ⟨p, hp⟩ : ∃ p, w3.heap.size = p := ⟨_, rfl⟩
  rw [hp] at hH5 hN5 hgc3 hp0 hgp
  rw [hp]
  have hgw : w.heap.size ≤ g := by omega
  clear hp hg
  go_wp2_with fail
  refine wp_loop_rounds 5 ?_
  rw [rounds_succ]
  go_wp2_with fail
  refine (Two_in hc5 (by omega) hmax (by omega)).mono ?_
  rintro e v0 ⟨hee, hc6, ho⟩
  rw [show numAt s 4 2 = n0 from Hn0.out] at hee
  subst hee
  have hst6 := hst5.trans ho (fun i hi e => by omega)
  have hB6 := hB5.only ho (by omega)
  have hC6 := hC5.only ho (by omega)
  have hH6 := hH5.only ho (by omega)
  have hN6 := hN5.only ho (by omega)
  clear hst5 hB5 hC5 hH5 hN5 hc5 ho
  have cc : v0.cell? ⟨p + 1, 0, none⟩ = some (.int .i64 0) := hN6.cell 0
  have ff := hN6.frozen 0
  go_wp2_with fail
  have hN5 : Blk (v0.setCell ⟨p + 1, 0, none⟩ (.int .i64 (n0 : Int))) (p + 1) 34 #[.int .i64 (n0 : Int), .int .i64 0, .int .i64 0, .int .i64 0] := hN6.set_ 0 (.int .i64 (n0 : Int))
  have hH5 := hH6.far (p := ⟨p + 1, 0, none⟩) (by show p ≠ p + 1; omega) (.int .i64 (n0 : Int))
  have hB5 := hB6.far (p := ⟨p + 1, 0, none⟩) (by show g ≠ p + 1; omega) (.int .i64 (n0 : Int))
  have hC5 := hC6.far (p := ⟨p + 1, 0, none⟩) (by show g + 1 ≠ p + 1; omega) (.int .i64 (n0 : Int))
  have hc5 : Cur (v0.setCell ⟨p + 1, 0, none⟩ (.int .i64 (n0 : Int))) gc s 6 := Blk.far hc6 (p := ⟨p + 1, 0, none⟩) (by show gc ≠ p + 1; omega) (.int .i64 (n0 : Int))
  have hst5 := hst6.setCell (p := ⟨p + 1, 0, none⟩) (.inr (by show w.heap.size ≤ p + 1; omega)) (.int .i64 (n0 : Int))
  clear hst6 hB6 hC6 hH6 hN6 hc6 cc ff
  generalize v0.setCell ⟨p + 1, 0, none⟩ (.int .i64 (n0 : Int)) = w6 at *
  rw [rounds_succ]
  go_wp2_with fail
  refine (Two_in hc5 (by omega) hmax (by omega)).mono ?_
  rintro e v1 ⟨hee, hc6, ho⟩
  rw [show numAt s 6 2 = n1 from Hn1.out] at hee
  subst hee
  have hst6 := hst5.trans ho (fun i hi e => by omega)
  have hB6 := hB5.only ho (by omega)
  have hC6 := hC5.only ho (by omega)
  have hH6 := hH5.only ho (by omega)
  have hN6 := hN5.only ho (by omega)
  clear hst5 hB5 hC5 hH5 hN5 hc5 ho
  have cc : v1.cell? ⟨p + 1, 1, none⟩ = some (.int .i64 0) := hN6.cell 1
  have ff := hN6.frozen 1
  go_wp2_with fail
  have hN5 : Blk (v1.setCell ⟨p + 1, 1, none⟩ (.int .i64 (n1 : Int))) (p + 1) 34 #[.int .i64 (n0 : Int), .int .i64 (n1 : Int), .int .i64 0, .int .i64 0] := hN6.set_ 1 (.int .i64 (n1 : Int))
  have hH5 := hH6.far (p := ⟨p + 1, 1, none⟩) (by show p ≠ p + 1; omega) (.int .i64 (n1 : Int))
  have hB5 := hB6.far (p := ⟨p + 1, 1, none⟩) (by show g ≠ p + 1; omega) (.int .i64 (n1 : Int))
  have hC5 := hC6.far (p := ⟨p + 1, 1, none⟩) (by show g + 1 ≠ p + 1; omega) (.int .i64 (n1 : Int))
  have hc5 : Cur (v1.setCell ⟨p + 1, 1, none⟩ (.int .i64 (n1 : Int))) gc s 8 := Blk.far hc6 (p := ⟨p + 1, 1, none⟩) (by show gc ≠ p + 1; omega) (.int .i64 (n1 : Int))
  have hst5 := hst6.setCell (p := ⟨p + 1, 1, none⟩) (.inr (by show w.heap.size ≤ p + 1; omega)) (.int .i64 (n1 : Int))
  clear hst6 hB6 hC6 hH6 hN6 hc6 cc ff
  generalize v1.setCell ⟨p + 1, 1, none⟩ (.int .i64 (n1 : Int)) = w7 at *
  rw [rounds_succ]
  go_wp2_with fail
  refine (Two_in hc5 (by omega) hmax (by omega)).mono ?_
  rintro e v2 ⟨hee, hc6, ho⟩
  rw [show numAt s 8 2 = n2 from Hn2.out] at hee
  subst hee
  have hst6 := hst5.trans ho (fun i hi e => by omega)
  have hB6 := hB5.only ho (by omega)
  have hC6 := hC5.only ho (by omega)
  have hH6 := hH5.only ho (by omega)
  have hN6 := hN5.only ho (by omega)
  clear hst5 hB5 hC5 hH5 hN5 hc5 ho
  have cc : v2.cell? ⟨p + 1, 2, none⟩ = some (.int .i64 0) := hN6.cell 2
  have ff := hN6.frozen 2
  go_wp2_with fail
  have hN5 : Blk (v2.setCell ⟨p + 1, 2, none⟩ (.int .i64 (n2 : Int))) (p + 1) 34 #[.int .i64 (n0 : Int), .int .i64 (n1 : Int), .int .i64 (n2 : Int), .int .i64 0] := hN6.set_ 2 (.int .i64 (n2 : Int))
  have hH5 := hH6.far (p := ⟨p + 1, 2, none⟩) (by show p ≠ p + 1; omega) (.int .i64 (n2 : Int))
  have hB5 := hB6.far (p := ⟨p + 1, 2, none⟩) (by show g ≠ p + 1; omega) (.int .i64 (n2 : Int))
  have hC5 := hC6.far (p := ⟨p + 1, 2, none⟩) (by show g + 1 ≠ p + 1; omega) (.int .i64 (n2 : Int))
  have hc5 : Cur (v2.setCell ⟨p + 1, 2, none⟩ (.int .i64 (n2 : Int))) gc s 10 := Blk.far hc6 (p := ⟨p + 1, 2, none⟩) (by show gc ≠ p + 1; omega) (.int .i64 (n2 : Int))
  have hst5 := hst6.setCell (p := ⟨p + 1, 2, none⟩) (.inr (by show w.heap.size ≤ p + 1; omega)) (.int .i64 (n2 : Int))
  clear hst6 hB6 hC6 hH6 hN6 hc6 cc ff
  generalize v2.setCell ⟨p + 1, 2, none⟩ (.int .i64 (n2 : Int)) = w8 at *
  rw [rounds_succ]
  go_wp2_with fail
  refine (Two_in hc5 (by omega) hmax (by omega)).mono ?_
  rintro e v3 ⟨hee, hc6, ho⟩
  rw [show numAt s 10 2 = n3 from Hn3.out] at hee
  subst hee
  have hst6 := hst5.trans ho (fun i hi e => by omega)
  have hB6 := hB5.only ho (by omega)
  have hC6 := hC5.only ho (by omega)
  have hH6 := hH5.only ho (by omega)
  have hN6 := hN5.only ho (by omega)
  clear hst5 hB5 hC5 hH5 hN5 hc5 ho
  have cc : v3.cell? ⟨p + 1, 3, none⟩ = some (.int .i64 0) := hN6.cell 3
  have ff := hN6.frozen 3
  go_wp2_with fail
  have hN5 : Blk (v3.setCell ⟨p + 1, 3, none⟩ (.int .i64 (n3 : Int))) (p + 1) 34 #[.int .i64 (n0 : Int), .int .i64 (n1 : Int), .int .i64 (n2 : Int), .int .i64 (n3 : Int)] := hN6.set_ 3 (.int .i64 (n3 : Int))
  have hH5 := hH6.far (p := ⟨p + 1, 3, none⟩) (by show p ≠ p + 1; omega) (.int .i64 (n3 : Int))
  have hB5 := hB6.far (p := ⟨p + 1, 3, none⟩) (by show g ≠ p + 1; omega) (.int .i64 (n3 : Int))
  have hC5 := hC6.far (p := ⟨p + 1, 3, none⟩) (by show g + 1 ≠ p + 1; omega) (.int .i64 (n3 : Int))
  have hc5 : Cur (v3.setCell ⟨p + 1, 3, none⟩ (.int .i64 (n3 : Int))) gc s 12 := Blk.far hc6 (p := ⟨p + 1, 3, none⟩) (by show gc ≠ p + 1; omega) (.int .i64 (n3 : Int))
  have hst5 := hst6.setCell (p := ⟨p + 1, 3, none⟩) (.inr (by show w.heap.size ≤ p + 1; omega)) (.int .i64 (n3 : Int))
  clear hst6 hB6 hC6 hH6 hN6 hc6 cc ff
  generalize v3.setCell ⟨p + 1, 3, none⟩ (.int .i64 (n3 : Int)) = w9 at *
  rw [rounds_succ]
  go_wp2_with fail
  refine wp_region_held_drew (S := fun w' => Blk w' p 25 #[.int .u16 (id : Int), .bool (f.testBit 15), .int .u8 ((f : Int) / 2048 % 16), .bool (f.testBit 10), .bool (f.testBit 9), .bool (f.testBit 8), .bool (f.testBit 7), .bool (f.testBit 6), .bool (f.testBit 5), .bool (f.testBit 4), .int .u8 ((f : Int) % 16)] ∧ Blk w' (p + 1) 34 #[.int .i64 (n0 : Int), .int .i64 (n1 : Int), .int .i64 (n2 : Int), .int .i64 (n3 : Int)]) (by kernel_rfl) ⟨hH5.drew, hN5.drew⟩ (fun hHeld => ?_)
  clear hHeld
  refine take_p (i := 0) (v := .agg #[.int .u16 (id : Int), .bool (f.testBit 15), .int .u8 ((f : Int) / 2048 % 16), .bool (f.testBit 10), .bool (f.testBit 9), .bool (f.testBit 8), .bool (f.testBit 7), .bool (f.testBit 6), .bool (f.testBit 5), .bool (f.testBit 4), .int .u8 ((f : Int) % 16)]) rfl (by kernel_rfl) (by kernel_rfl) (by kernel_rfl) (fun _ _ _ h => h) ?_ ⟨hH5.drew, hN5.drew⟩ ?_
  · exact yieldsIf_load_blk rfl 25 (.tmp 10) rfl p rfl 25 #[.int .u16 (id : Int), .bool (f.testBit 15), .int .u8 ((f : Int) / 2048 % 16), .bool (f.testBit 10), .bool (f.testBit 9), .bool (f.testBit 8), .bool (f.testBit 7), .bool (f.testBit 6), .bool (f.testBit 5), .bool (f.testBit 4), .int .u8 ((f : Int) % 16)] _ (fun _ h => h.1) Tryd.underlying25 rfl (by kernel_rfl)
  refine take_p (i := 1) (v := .agg #[.int .i64 (n0 : Int), .int .i64 (n1 : Int), .int .i64 (n2 : Int), .int .i64 (n3 : Int)]) rfl (by kernel_rfl) (by kernel_rfl) (by kernel_rfl) (fun _ _ _ h => h) ?_ ⟨hH5.drew, hN5.drew⟩ ?_
  · exact yieldsIf_load_blk rfl 34 (.tmp 11) rfl (p + 1) rfl 34 #[.int .i64 (n0 : Int), .int .i64 (n1 : Int), .int .i64 (n2 : Int), .int .i64 (n3 : Int)] _ (fun _ h => h.2) Tryd.underlying34 rfl (by kernel_rfl)
  refine wpAnyH_ready (rs := [2]) (by kernel_rfl) (by simp) ?_
  refine cons_p rfl (fun K hK => ?_) AllReadyH.nil
  refine step_store_blk rfl 25 (.tmp 2) (.tmp 49) rfl g rfl #[.int .u16 (id : Int), .bool (f.testBit 15), .int .u8 ((f : Int) / 2048 % 16), .bool (f.testBit 10), .bool (f.testBit 9), .bool (f.testBit 8), .bool (f.testBit 7), .bool (f.testBit 6), .bool (f.testBit 5), .bool (f.testBit 4), .int .u8 ((f : Int) % 16)] rfl 25 _ hB5.drew (by kernel_rfl) rfl (by kernel_rfl) ?_
  intro wa hBa hoa
  have hHa := hH5.drew.only hoa (by omega)
  have hNa := hN5.drew.only hoa (by omega)
  have hCa := hC5.drew.only hoa (by omega)
  have hsta := hst5.drew.trans hoa (fun i hi e => by omega)
  refine hK.out _ _ ⟨hHa, hNa⟩ (fun hHeld => ?_)
  clear hK K hHeld hH5 hN5 hC5 hst5 hoa
  refine wpAnyH_ready (rs := [3]) (by kernel_rfl) (by simp) ?_
  refine cons_p rfl (fun K hK => ?_) AllReadyH.nil
  refine step_store_blk rfl 34 (.tmp 3) (.tmp 50) rfl (g + 1) rfl #[.int .i64 (n0 : Int), .int .i64 (n1 : Int), .int .i64 (n2 : Int), .int .i64 (n3 : Int)] rfl 34 _ hCa (by kernel_rfl) rfl (by kernel_rfl) ?_
  intro wb hCb hob
  have hHb := hHa.only hob (by omega)
  have hNb := hNa.only hob (by omega)
  have hBb := hBa.only hob (by omega)
  have hstb := hsta.trans hob (fun i hi e => by omega)
  refine hK.out _ _ ⟨hHb, hNb⟩ (fun hHeld => ?_)
  clear hK K hHeld hHa hNa hCa hsta hob
  refine wpAnyH_ready (rs := [4]) (by kernel_rfl) (by simp) ?_
  refine cons_p rfl (fun K hK => ?_) AllReadyH.nil
  go_simp
  refine hK.out _ _ ⟨hHb, hNb⟩ (fun hHeld => ?_)
  refine wpAnyH_done (by kernel_rfl) ?_ _
  go_wp2_with fail
  refine bodyPost_ret (results_ccr rfl _ _ g (g + 1) _ _ _ _ _ _ rfl hBb rfl hCb _ rfl Tryd.underlying25 rfl (by kernel_rfl) Tryd.underlying34 rfl (by kernel_rfl)) rfl ?_
  exact ⟨rfl, hstb⟩

set_option maxRecDepth 1000000 in
set_option maxHeartbeats 3200000 in
theorem rread_long (s : ByteArray) (h : 12 ≤ s.size) (hmax : s.size ≤ maxLen) (w : World) (id f n0 n1 n2 n3 : Nat) (hid : numAt s 0 2 = id) (hf : numAt s 2 2 = f) (hn0 : numAt s 4 2 = n0) (hn1 : numAt s 6 2 = n1) (hn2 : numAt s 8 2 = n2) (hn3 : numAt s 10 2 = n3) :
    Calls Tryd.prog 14 #[.string s] w fun e w' => e = .returned (.tuple #[.agg #[.int .u16 (id : Int), .bool (f.testBit 15), .int .u8 ((f : Int) / 2048 % 16), .bool (f.testBit 10), .bool (f.testBit 9), .bool (f.testBit 8), .bool (f.testBit 7), .bool (f.testBit 6), .bool (f.testBit 5), .bool (f.testBit 4), .int .u8 ((f : Int) % 16)], .agg #[.int .i64 (n0 : Int), .int .i64 (n1 : Int), .int .i64 (n2 : Int), .int .i64 (n3 : Int)], .int .i64 0]) ∧ Still w w' := by
  have h1 : ¬ (s.size : Int) < 12 := by omega
  have lid : id < 65536 := by rw [← hid]; exact beL_len s 0 2 (by omega)
  have lf : f < 65536 := by rw [← hf]; exact beL_len s 2 2 (by omega)
  have c0 := fun w => number_ref s 0 hmax (by omega) w
  have cf := fun w => number_ref s 2 hmax (by omega) w
  have d0 := fun w => number_ref s 4 hmax (by omega) w
  have d1 := fun w => number_ref s 6 hmax (by omega) w
  have d2 := fun w => number_ref s 8 hmax (by omega) w
  have d3 := fun w => number_ref s 10 hmax (by omega) w
  rw [hid] at c0
  rw [hf] at cf
  rw [hn0] at d0
  rw [hn1] at d1
  rw [hn2] at d2
  rw [hn3] at d3
  have C0 := Lib.hid c0
  have CF := Lib.hid cf
  have D0 := Lib.hid d0
  have D1 := Lib.hid d1
  have D2 := Lib.hid d2
  have D3 := Lib.hid d3
  clear c0 cf d0 d1 d2 d3 hid hf hn0 hn1 hn2 hn3
  have y1 : (id : Int) % 65536 = id := by omega
  have y2 : (f : Int) % 65536 = f := by omega
  have hst := (Still.new w (.cells #[.int .u16 0, .bool false, .int .u8 0, .bool false, .bool false, .bool false, .bool false, .bool false, .bool false, .bool false, .int .u8 0] 25)).alloc (.cells #[.int .i64 0, .int .i64 0, .int .i64 0, .int .i64 0] 33)
  have hB := (Blk.new w 25 #[.int .u16 0, .bool false, .int .u8 0, .bool false, .bool false, .bool false, .bool false, .bool false, .bool false, .bool false, .int .u8 0]).alloc (.cells #[.int .i64 0, .int .i64 0, .int .i64 0, .int .i64 0] 33)
  have hC := Blk.at_ (w.alloc (.cells #[.int .u16 0, .bool false, .int .u8 0, .bool false, .bool false, .bool false, .bool false, .bool false, .bool false, .bool false, .int .u8 0] 25)) 33 #[.int .i64 0, .int .i64 0, .int .i64 0, .int .i64 0] (g := w.heap.size + 1) (by simp)
  go_enter Tryd.func14, Tryd.ntmps14
  go_wp2_with fail
  generalize (w.alloc (.cells #[.int .u16 0, .bool false, .int .u8 0, .bool false, .bool false, .bool false, .bool false, .bool false, .bool false, .bool false, .int .u8 0] 25)).alloc (.cells #[.int .i64 0, .int .i64 0, .int .i64 0, .int .i64 0] 33) = w1 at *
  obtain ⟨g, hg⟩ : ∃ g, w.heap.size = g := ⟨_, rfl⟩
  rw [hg] at hB hC
  rw [hg]
  have hgl := hC.lt
  have hgw : w.heap.size ≤ g := by omega
  clear hg
  refine (CF.out _).mono ?_
  rintro e w2 ⟨rfl, q, rfl⟩
  have hst := hst.drewN q
  have hB := hB.drewN q
  have hC := hC.drewN q
  have hgl : g + 1 < (w1.drewN q).heap.size := hgl
  generalize w1.drewN q = w2 at *
  go_wp2_with fail
  refine (rfrom_any f lf _).mono ?_
  rintro e w3 ⟨rfl, hs3⟩
  have hst := hst.still hs3
  have hB := hB.only hs3 (fun h => h)
  have hC := hC.only hs3 (fun h => h)
  have hgl := hC.lt
  have hst := hst.alloc (.cells #[.int .u16 0, .bool (f.testBit 15), .int .u8 ((f : Int) / 2048 % 16), .bool (f.testBit 10), .bool (f.testBit 9), .bool (f.testBit 8), .bool (f.testBit 7), .bool (f.testBit 6), .bool (f.testBit 5), .bool (f.testBit 4), .int .u8 ((f : Int) % 16)] 25)
  have hB := hB.alloc (.cells #[.int .u16 0, .bool (f.testBit 15), .int .u8 ((f : Int) / 2048 % 16), .bool (f.testBit 10), .bool (f.testBit 9), .bool (f.testBit 8), .bool (f.testBit 7), .bool (f.testBit 6), .bool (f.testBit 5), .bool (f.testBit 4), .int .u8 ((f : Int) % 16)] 25)
  have hC := hC.alloc (.cells #[.int .u16 0, .bool (f.testBit 15), .int .u8 ((f : Int) / 2048 % 16), .bool (f.testBit 10), .bool (f.testBit 9), .bool (f.testBit 8), .bool (f.testBit 7), .bool (f.testBit 6), .bool (f.testBit 5), .bool (f.testBit 4), .int .u8 ((f : Int) % 16)] 25)
  have hH := (Blk.new w3 25 #[.int .u16 0, .bool (f.testBit 15), .int .u8 ((f : Int) / 2048 % 16), .bool (f.testBit 10), .bool (f.testBit 9), .bool (f.testBit 8), .bool (f.testBit 7), .bool (f.testBit 6), .bool (f.testBit 5), .bool (f.testBit 4), .int .u8 ((f : Int) % 16)])
  go_wp2_with fail
  generalize w3.alloc (.cells #[.int .u16 0, .bool (f.testBit 15), .int .u8 ((f : Int) / 2048 % 16), .bool (f.testBit 10), .bool (f.testBit 9), .bool (f.testBit 8), .bool (f.testBit 7), .bool (f.testBit 6), .bool (f.testBit 5), .bool (f.testBit 4), .int .u8 ((f : Int) % 16)] 25) = w4 at *
  generalize w3.heap.size = p at *
  refine (C0.out _).mono ?_
  rintro e w2 ⟨rfl, q, rfl⟩
  have hst := hst.drewN q
  have hB := hB.drewN q
  have hC := hC.drewN q
  have hH := hH.drewN q
  generalize w4.drewN q = w5 at *
  have dd : w5.cell? ⟨p, 0, none⟩ = some (.int .u16 0) := hH.cell 0
  have ff := hH.frozen 0
  have hst := hst.setCell (p := ⟨p, 0, none⟩) (.inr (by show w.heap.size ≤ p; omega)) (.int .u16 (id : Int))
  have hB := hB.far (p := ⟨p, 0, none⟩) (by show g ≠ p; omega) (.int .u16 (id : Int))
  have hC := hC.far (p := ⟨p, 0, none⟩) (by show g + 1 ≠ p; omega) (.int .u16 (id : Int))
  have hH : Blk (w5.setCell ⟨p, 0, none⟩ (.int .u16 (id : Int))) p 25 #[.int .u16 (id : Int), .bool (f.testBit 15), .int .u8 ((f : Int) / 2048 % 16), .bool (f.testBit 10), .bool (f.testBit 9), .bool (f.testBit 8), .bool (f.testBit 7), .bool (f.testBit 6), .bool (f.testBit 5), .bool (f.testBit 4), .int .u8 ((f : Int) % 16)] := hH.set_ 0 (.int .u16 (id : Int))
  go_wp2_with fail
  generalize w5.setCell ⟨p, 0, none⟩ (.int .u16 (id : Int)) = w6 at *
  refine wp_region_held_drew (S := fun w' => Blk w' p 25 #[.int .u16 (id : Int), .bool (f.testBit 15), .int .u8 ((f : Int) / 2048 % 16), .bool (f.testBit 10), .bool (f.testBit 9), .bool (f.testBit 8), .bool (f.testBit 7), .bool (f.testBit 6), .bool (f.testBit 5), .bool (f.testBit 4), .int .u8 ((f : Int) % 16)]) (by kernel_rfl) hH.drew (fun hS => ?_)
  refine take_p (i := 0) (v := .agg #[.int .u16 (id : Int), .bool (f.testBit 15), .int .u8 ((f : Int) / 2048 % 16), .bool (f.testBit 10), .bool (f.testBit 9), .bool (f.testBit 8), .bool (f.testBit 7), .bool (f.testBit 6), .bool (f.testBit 5), .bool (f.testBit 4), .int .u8 ((f : Int) % 16)]) rfl (by kernel_rfl) (by kernel_rfl) (by kernel_rfl) (fun _ _ _ h => h) ?_ hS ?_
  · exact yieldsIf_load_blk rfl 25 (.tmp 5) rfl p rfl 25 #[.int .u16 (id : Int), .bool (f.testBit 15), .int .u8 ((f : Int) / 2048 % 16), .bool (f.testBit 10), .bool (f.testBit 9), .bool (f.testBit 8), .bool (f.testBit 7), .bool (f.testBit 6), .bool (f.testBit 5), .bool (f.testBit 4), .int .u8 ((f : Int) % 16)] _ (fun _ h => h) Tryd.underlying25 rfl (by kernel_rfl)
  (refine take_p (i := 1) (v := ?_) rfl (by kernel_rfl) (by kernel_rfl) (by kernel_rfl) (fun _ _ _ h => h) (Or.inl ⟨by rfl, ?_⟩) hS ?_; rotate_left; (focus (intro w0 hSw; go_simp; try with_reducible rfl)); try simp only [Act.put, List.setIfInBounds_toArray, List.set_cons_zero, List.set_cons_succ])
  (refine take_p (i := 3) (v := ?_) rfl (by kernel_rfl) (by kernel_rfl) (by kernel_rfl) (fun _ _ _ h => h) (Or.inl ⟨by rfl, ?_⟩) hS ?_; rotate_left; (focus (intro w0 hSw; go_simp; try with_reducible rfl)); try simp only [Act.put, List.setIfInBounds_toArray, List.set_cons_zero, List.set_cons_succ])
  (refine take_p (i := 5) (v := ?_) rfl (by kernel_rfl) (by kernel_rfl) (by kernel_rfl) (fun _ _ _ h => h) (Or.inl ⟨by rfl, ?_⟩) hS ?_; rotate_left; (focus (intro w0 hSw; go_simp; try with_reducible rfl)); try simp only [Act.put, List.setIfInBounds_toArray, List.set_cons_zero, List.set_cons_succ])
  (refine take_p (i := 7) (v := ?_) rfl (by kernel_rfl) (by kernel_rfl) (by kernel_rfl) (fun _ _ _ h => h) (Or.inl ⟨by rfl, ?_⟩) hS ?_; rotate_left; (focus (intro w0 hSw; go_simp; try with_reducible rfl)); try simp only [Act.put, List.setIfInBounds_toArray, List.set_cons_zero, List.set_cons_succ])
  have hst := hst.drew
  have hB := hB.drew
  have hC := hC.drew
  generalize w6.drew = w7 at *
  refine wpAnyH_ready (rs := [2]) (by kernel_rfl) (by simp) ?_
  refine cons_p rfl (fun K hK => ?_) AllReadyH.nil
  go_simp
  go_at_call 22
  refine (D0.out _).mono ?_
  rintro e w2 ⟨rfl, q, rfl⟩
  have hst := hst.drewN q
  have hB := hB.drewN q
  have hC := hC.drewN q
  have hS : Blk _ _ _ _ := Blk.drewN hS q
  generalize w7.drewN q = w8 at *
  refine hK.out _ _ hS (fun hHeld => ?_)
  clear hK K hHeld
  try simp only [Act.put, List.setIfInBounds_toArray, List.set_cons_zero, List.set_cons_succ]
  refine wpAnyH_ready (rs := [4]) (by kernel_rfl) (by simp) ?_
  refine cons_p rfl (fun K hK => ?_) AllReadyH.nil
  go_simp
  go_at_call 22
  refine (D1.out _).mono ?_
  rintro e w2 ⟨rfl, q, rfl⟩
  have hst := hst.drewN q
  have hB := hB.drewN q
  have hC := hC.drewN q
  have hS : Blk _ _ _ _ := Blk.drewN hS q
  generalize w8.drewN q = w9 at *
  refine hK.out _ _ hS (fun hHeld => ?_)
  clear hK K hHeld
  try simp only [Act.put, List.setIfInBounds_toArray, List.set_cons_zero, List.set_cons_succ]
  refine wpAnyH_ready (rs := [6]) (by kernel_rfl) (by simp) ?_
  refine cons_p rfl (fun K hK => ?_) AllReadyH.nil
  go_simp
  go_at_call 22
  refine (D2.out _).mono ?_
  rintro e w2 ⟨rfl, q, rfl⟩
  have hst := hst.drewN q
  have hB := hB.drewN q
  have hC := hC.drewN q
  have hS : Blk _ _ _ _ := Blk.drewN hS q
  generalize w9.drewN q = w10 at *
  refine hK.out _ _ hS (fun hHeld => ?_)
  clear hK K hHeld
  try simp only [Act.put, List.setIfInBounds_toArray, List.set_cons_zero, List.set_cons_succ]
  refine wpAnyH_ready (rs := [8]) (by kernel_rfl) (by simp) ?_
  refine cons_p rfl (fun K hK => ?_) AllReadyH.nil
  go_simp
  go_at_call 22
  refine (D3.out _).mono ?_
  rintro e w2 ⟨rfl, q, rfl⟩
  have hst := hst.drewN q
  have hB := hB.drewN q
  have hC := hC.drewN q
  have hS : Blk _ _ _ _ := Blk.drewN hS q
  generalize w10.drewN q = w11 at *
  refine hK.out _ _ hS (fun hHeld => ?_)
  clear hK K hHeld
  try simp only [Act.put, List.setIfInBounds_toArray, List.set_cons_zero, List.set_cons_succ]
  (refine take_p (i := 9) (v := ?_) rfl (by kernel_rfl) (by kernel_rfl) (by kernel_rfl) (fun _ _ _ h => h) (Or.inl ⟨by rfl, ?_⟩) hS ?_; rotate_left; (focus (intro w0 hSw; go_simp; try with_reducible rfl)); try simp only [Act.put, List.setIfInBounds_toArray, List.set_cons_zero, List.set_cons_succ])
  refine wpAnyH_ready (rs := [10]) (by kernel_rfl) (by simp) ?_
  refine cons_p rfl (fun K hK => ?_) AllReadyH.nil
  refine step_store_blk rfl 25 (.tmp 2) (.tmp 19) rfl g rfl #[.int .u16 (id : Int), .bool (f.testBit 15), .int .u8 ((f : Int) / 2048 % 16), .bool (f.testBit 10), .bool (f.testBit 9), .bool (f.testBit 8), .bool (f.testBit 7), .bool (f.testBit 6), .bool (f.testBit 5), .bool (f.testBit 4), .int .u8 ((f : Int) % 16)] rfl 25 _ hB (by kernel_rfl) rfl (by kernel_rfl) ?_
  intro wa hBa hoa
  have hSa : Blk wa p 25 #[.int .u16 (id : Int), .bool (f.testBit 15), .int .u8 ((f : Int) / 2048 % 16), .bool (f.testBit 10), .bool (f.testBit 9), .bool (f.testBit 8), .bool (f.testBit 7), .bool (f.testBit 6), .bool (f.testBit 5), .bool (f.testBit 4), .int .u8 ((f : Int) % 16)] := Blk.only hS hoa (by omega)
  have hCa := hC.only hoa (by omega)
  have hsta := hst.trans hoa (fun i hi e => by omega)
  refine hK.out _ _ hSa (fun hHeld => ?_)
  clear hK K hHeld
  refine wpAnyH_ready (rs := [11]) (by kernel_rfl) (by simp) ?_
  refine cons_p rfl (fun K hK => ?_) AllReadyH.nil
  refine step_store_blk rfl 33 (.tmp 3) (.tmp 28) rfl (g + 1) rfl #[.int .i64 (n0 : Int), .int .i64 (n1 : Int), .int .i64 (n2 : Int), .int .i64 (n3 : Int)] rfl 33 _ hCa (by kernel_rfl) rfl (by kernel_rfl) ?_
  intro wb hCb hob
  have hSb : Blk wb p 25 #[.int .u16 (id : Int), .bool (f.testBit 15), .int .u8 ((f : Int) / 2048 % 16), .bool (f.testBit 10), .bool (f.testBit 9), .bool (f.testBit 8), .bool (f.testBit 7), .bool (f.testBit 6), .bool (f.testBit 5), .bool (f.testBit 4), .int .u8 ((f : Int) % 16)] := Blk.only hSa hob (by omega)
  have hBb := hBa.only hob (by omega)
  have hstb := hsta.trans hob (fun i hi e => by omega)
  refine hK.out _ _ hSb (fun hHeld => ?_)
  clear hK K hHeld
  refine wpAnyH_ready (rs := [12]) (by kernel_rfl) (by simp) ?_
  refine cons_p rfl (fun K hK => ?_) AllReadyH.nil
  go_simp
  refine hK.out _ _ hSb (fun hHeld => ?_)
  refine wpAnyH_done (by kernel_rfl) ?_ _
  go_wp2_with fail
  refine bodyPost_ret (results_ccr rfl _ _ g (g + 1) _ _ _ _ _ _ rfl hBb rfl hCb _ rfl Tryd.underlying25 rfl (by kernel_rfl) Tryd.underlying33 rfl (by kernel_rfl)) rfl ?_
  exact ⟨rfl, hstb⟩
end Go.Proofs.YtkoejogmcoigoaaDoor
