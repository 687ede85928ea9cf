/-
  The reference of package sip: a round. (Steps written by a program: each names the number that it stores.)
-/
import Derived.Test.YtpgebejnpncemaaSipRef
import Derived.Deep.CutRange
import Derived.Deep.DeepCutAuto
namespace Go.Proofs.Ytpgebejnpncemaa
open Go.RowKit
set_option linter.unusedVariables false

set_option maxRecDepth 1000000 in
set_option maxHeartbeats 6400000 in
theorem refround_any {w : World} (a b c d : Int) (ra : 0 ≤ a ∧ a < 18446744073709551616) (rb : 0 ≤ b ∧ b < 18446744073709551616) (rc : 0 ≤ c ∧ c < 18446744073709551616) (rdd : 0 ≤ d ∧ d < 18446744073709551616) :
    Calls Try.prog 41 #[.agg #[.int .u64 a, .int .u64 b, .int .u64 c, .int .u64 d]] w fun e w' => e = .returned (.agg ((rd [a, b, c, d]).map (Value.int .u64)).toArray) ∧ Still w w' := by
  obtain ⟨x1, e1⟩ : ∃ x, IntKind.u64.wrap (a + b) = x := ⟨_, rfl⟩
  have rx1 : 0 ≤ x1 ∧ x1 < 18446744073709551616 := by rw [← e1]; exact wrap_range _
  have hb := ((Blk.new w 56 #[.int .u64 x1, .int .u64 b, .int .u64 c, .int .u64 d])).alloc (.cells #[.int .u64 0, .int .u64 0, .int .u64 0, .int .u64 0] 56)
  have hz := Blk.at_ (w.alloc (.cells #[.int .u64 x1, .int .u64 b, .int .u64 c, .int .u64 d] 56)) 56 #[.int .u64 0, .int .u64 0, .int .u64 0, .int .u64 0] (g := w.heap.size + 1) (by simp)
  have hs := ((Still.new w (.cells #[.int .u64 x1, .int .u64 b, .int .u64 c, .int .u64 d] 56))).alloc (.cells #[.int .u64 0, .int .u64 0, .int .u64 0, .int .u64 0] 56)
  go_enter Try.func41, Try.ntmps41
  go_wp2_with fail
  have E1 := Lib.hid e1
  clear e1
  generalize (w.alloc (.cells #[.int .u64 x1, .int .u64 b, .int .u64 c, .int .u64 d] 56)).alloc (.cells #[.int .u64 0, .int .u64 0, .int .u64 0, .int .u64 0] 56) = w1 at *
  obtain ⟨g, hge⟩ : ∃ g, w.heap.size = g := ⟨_, rfl⟩
  rw [hge] at hb hz
  have hg : w.heap.size ≤ g := by omega
  have hzg : g + 1 ≠ g := by omega
  rw [hge]
  clear hge
  have c0 : w1.cell? ⟨g, 0, none⟩ = some (.int .u64 x1) := hb.cell 0
  have f0 : w1.frozen? ⟨g, 0, none⟩ = false := hb.frozen 0
  have c1 : w1.cell? ⟨g, 1, none⟩ = some (.int .u64 b) := hb.cell 1
  have f1 : w1.frozen? ⟨g, 1, none⟩ = false := hb.frozen 1
  have c2 : w1.cell? ⟨g, 2, none⟩ = some (.int .u64 c) := hb.cell 2
  have f2 : w1.frozen? ⟨g, 2, none⟩ = false := hb.frozen 2
  have c3 : w1.cell? ⟨g, 3, none⟩ = some (.int .u64 d) := hb.cell 3
  have f3 : w1.frozen? ⟨g, 3, none⟩ = false := hb.frozen 3
  have hb' := hb
  have hz' := hz
  have hs' := hs
  obtain ⟨x2, e2⟩ : ∃ x, bits .xor .u64 (rot b 8192 2251799813685248) x1 = x := ⟨_, rfl⟩
  have rx2 : 0 ≤ x2 ∧ x2 < 18446744073709551616 := by rw [← e2]; exact xor64 _ _ (rot_range _ _ _ rb.1 rb.2 (by omega)) rx1
  have hb' : Blk (w1.setCell ⟨g, 1, none⟩ (.int .u64 x2)) g 56 #[.int .u64 x1, .int .u64 x2, .int .u64 c, .int .u64 d] := hb'.set_ 1 (.int .u64 x2)
  have hz' := hz'.far (p := ⟨g, 1, none⟩) hzg (.int .u64 x2)
  have hs' : Still w (w1.setCell ⟨g, 1, none⟩ (.int .u64 x2)) := hs'.setCell (p := ⟨g, 1, none⟩) (.inr hg) _
  go_cut [] from 9 to 15 (fun wx => wx = (w1.setCell ⟨g, 1, none⟩ (.int .u64 x2)).drew)
  case first =>
    go_region_with (go_at_call 49; refine (turn13 b _ rb.1 rb.2).mono ?_; rintro e w5 ⟨rfl, rfl⟩)
    all_goals (go_wp2_with fail; go_meet; rfl)
  subst hcut
  go_wp2_with fail
  have hb' := hb'.drew
  have hz' := hz'.drew
  have hs' := hs'.drew
  generalize (w1.setCell ⟨g, 1, none⟩ (.int .u64 x2)).drew = w2 at *
  have E2 := Lib.hid e2
  clear hb hs hz c0 c1 c2 c3 f0 f1 f2 f3 e2
  have hb := hb'
  have hz := hz'
  have hs := hs'
  clear hb' hs' hz'
  have c0 : w2.cell? ⟨g, 0, none⟩ = some (.int .u64 x1) := hb.cell 0
  have f0 : w2.frozen? ⟨g, 0, none⟩ = false := hb.frozen 0
  have c1 : w2.cell? ⟨g, 1, none⟩ = some (.int .u64 x2) := hb.cell 1
  have f1 : w2.frozen? ⟨g, 1, none⟩ = false := hb.frozen 1
  have c2 : w2.cell? ⟨g, 2, none⟩ = some (.int .u64 c) := hb.cell 2
  have f2 : w2.frozen? ⟨g, 2, none⟩ = false := hb.frozen 2
  have c3 : w2.cell? ⟨g, 3, none⟩ = some (.int .u64 d) := hb.cell 3
  have f3 : w2.frozen? ⟨g, 3, none⟩ = false := hb.frozen 3
  have hb' := hb
  have hz' := hz
  have hs' := hs
  obtain ⟨x3, e3⟩ : ∃ x, rot x1 4294967296 4294967296 = x := ⟨_, rfl⟩
  have rx3 : 0 ≤ x3 ∧ x3 < 18446744073709551616 := by rw [← e3]; exact rot_range _ _ _ rx1.1 rx1.2 (by omega)
  have hb' : Blk (w2.setCell ⟨g, 0, none⟩ (.int .u64 x3)) g 56 #[.int .u64 x3, .int .u64 x2, .int .u64 c, .int .u64 d] := hb'.set_ 0 (.int .u64 x3)
  have hz' := hz'.far (p := ⟨g, 0, none⟩) hzg (.int .u64 x3)
  have hs' : Still w (w2.setCell ⟨g, 0, none⟩ (.int .u64 x3)) := hs'.setCell (p := ⟨g, 0, none⟩) (.inr hg) _
  obtain ⟨x4, e4⟩ : ∃ x, IntKind.u64.wrap (c + d) = x := ⟨_, rfl⟩
  have rx4 : 0 ≤ x4 ∧ x4 < 18446744073709551616 := by rw [← e4]; exact wrap_range _
  have hb' : Blk ((w2.setCell ⟨g, 0, none⟩ (.int .u64 x3)).setCell ⟨g, 2, none⟩ (.int .u64 x4)) g 56 #[.int .u64 x3, .int .u64 x2, .int .u64 x4, .int .u64 d] := hb'.set_ 2 (.int .u64 x4)
  have hz' := hz'.far (p := ⟨g, 2, none⟩) hzg (.int .u64 x4)
  have hs' : Still w ((w2.setCell ⟨g, 0, none⟩ (.int .u64 x3)).setCell ⟨g, 2, none⟩ (.int .u64 x4)) := hs'.setCell (p := ⟨g, 2, none⟩) (.inr hg) _
  refine (turn32 x1 _ rx1.1 rx1.2).mono ?_
  rintro e w5 ⟨rfl, rfl⟩
  rw [e3]
  go_wp2_with fail
  generalize ((w2.setCell ⟨g, 0, none⟩ (.int .u64 x3)).setCell ⟨g, 2, none⟩ (.int .u64 x4)) = w4 at *
  have E3 := Lib.hid e3
  have E4 := Lib.hid e4
  clear hb hs hz c0 c1 c2 c3 f0 f1 f2 f3 e3 e4
  have hb := hb'
  have hz := hz'
  have hs := hs'
  clear hb' hs' hz'
  have c0 : w4.cell? ⟨g, 0, none⟩ = some (.int .u64 x3) := hb.cell 0
  have f0 : w4.frozen? ⟨g, 0, none⟩ = false := hb.frozen 0
  have c1 : w4.cell? ⟨g, 1, none⟩ = some (.int .u64 x2) := hb.cell 1
  have f1 : w4.frozen? ⟨g, 1, none⟩ = false := hb.frozen 1
  have c2 : w4.cell? ⟨g, 2, none⟩ = some (.int .u64 x4) := hb.cell 2
  have f2 : w4.frozen? ⟨g, 2, none⟩ = false := hb.frozen 2
  have c3 : w4.cell? ⟨g, 3, none⟩ = some (.int .u64 d) := hb.cell 3
  have f3 : w4.frozen? ⟨g, 3, none⟩ = false := hb.frozen 3
  have hb' := hb
  have hz' := hz
  have hs' := hs
  obtain ⟨x5, e5⟩ : ∃ x, bits .xor .u64 (rot d 65536 281474976710656) x4 = x := ⟨_, rfl⟩
  have rx5 : 0 ≤ x5 ∧ x5 < 18446744073709551616 := by rw [← e5]; exact xor64 _ _ (rot_range _ _ _ rdd.1 rdd.2 (by omega)) rx4
  have hb' : Blk (w4.setCell ⟨g, 3, none⟩ (.int .u64 x5)) g 56 #[.int .u64 x3, .int .u64 x2, .int .u64 x4, .int .u64 x5] := hb'.set_ 3 (.int .u64 x5)
  have hz' := hz'.far (p := ⟨g, 3, none⟩) hzg (.int .u64 x5)
  have hs' : Still w (w4.setCell ⟨g, 3, none⟩ (.int .u64 x5)) := hs'.setCell (p := ⟨g, 3, none⟩) (.inr hg) _
  obtain ⟨x6, e6⟩ : ∃ x, IntKind.u64.wrap (x3 + x5) = x := ⟨_, rfl⟩
  have rx6 : 0 ≤ x6 ∧ x6 < 18446744073709551616 := by rw [← e6]; exact wrap_range _
  have hb' : Blk ((w4.setCell ⟨g, 3, none⟩ (.int .u64 x5)).setCell ⟨g, 0, none⟩ (.int .u64 x6)) g 56 #[.int .u64 x6, .int .u64 x2, .int .u64 x4, .int .u64 x5] := hb'.set_ 0 (.int .u64 x6)
  have hz' := hz'.far (p := ⟨g, 0, none⟩) hzg (.int .u64 x6)
  have hs' : Still w ((w4.setCell ⟨g, 3, none⟩ (.int .u64 x5)).setCell ⟨g, 0, none⟩ (.int .u64 x6)) := hs'.setCell (p := ⟨g, 0, none⟩) (.inr hg) _
  go_cut [] from 26 to 32 (fun wx => wx = (w4.setCell ⟨g, 3, none⟩ (.int .u64 x5)).drew)
  case first =>
    go_region_with (go_at_call 49; refine (turn16 d _ rdd.1 rdd.2).mono ?_; rintro e w5 ⟨rfl, rfl⟩)
    all_goals (go_wp2_with fail; go_meet; rfl)
  subst hcut
  go_wp2_with fail
  have hb' := hb'.drew
  have hz' := hz'.drew
  have hs' := hs'.drew
  generalize ((w4.setCell ⟨g, 3, none⟩ (.int .u64 x5)).setCell ⟨g, 0, none⟩ (.int .u64 x6)).drew = w6 at *
  have E5 := Lib.hid e5
  have E6 := Lib.hid e6
  clear hb hs hz c0 c1 c2 c3 f0 f1 f2 f3 e5 e6
  have hb := hb'
  have hz := hz'
  have hs := hs'
  clear hb' hs' hz'
  have c0 : w6.cell? ⟨g, 0, none⟩ = some (.int .u64 x6) := hb.cell 0
  have f0 : w6.frozen? ⟨g, 0, none⟩ = false := hb.frozen 0
  have c1 : w6.cell? ⟨g, 1, none⟩ = some (.int .u64 x2) := hb.cell 1
  have f1 : w6.frozen? ⟨g, 1, none⟩ = false := hb.frozen 1
  have c2 : w6.cell? ⟨g, 2, none⟩ = some (.int .u64 x4) := hb.cell 2
  have f2 : w6.frozen? ⟨g, 2, none⟩ = false := hb.frozen 2
  have c3 : w6.cell? ⟨g, 3, none⟩ = some (.int .u64 x5) := hb.cell 3
  have f3 : w6.frozen? ⟨g, 3, none⟩ = false := hb.frozen 3
  have hb' := hb
  have hz' := hz
  have hs' := hs
  obtain ⟨x7, e7⟩ : ∃ x, bits .xor .u64 (rot x5 2097152 8796093022208) x6 = x := ⟨_, rfl⟩
  have rx7 : 0 ≤ x7 ∧ x7 < 18446744073709551616 := by rw [← e7]; exact xor64 _ _ (rot_range _ _ _ rx5.1 rx5.2 (by omega)) rx6
  have hb' : Blk (w6.setCell ⟨g, 3, none⟩ (.int .u64 x7)) g 56 #[.int .u64 x6, .int .u64 x2, .int .u64 x4, .int .u64 x7] := hb'.set_ 3 (.int .u64 x7)
  have hz' := hz'.far (p := ⟨g, 3, none⟩) hzg (.int .u64 x7)
  have hs' : Still w (w6.setCell ⟨g, 3, none⟩ (.int .u64 x7)) := hs'.setCell (p := ⟨g, 3, none⟩) (.inr hg) _
  obtain ⟨x8, e8⟩ : ∃ x, IntKind.u64.wrap (x4 + x2) = x := ⟨_, rfl⟩
  have rx8 : 0 ≤ x8 ∧ x8 < 18446744073709551616 := by rw [← e8]; exact wrap_range _
  have hb' : Blk ((w6.setCell ⟨g, 3, none⟩ (.int .u64 x7)).setCell ⟨g, 2, none⟩ (.int .u64 x8)) g 56 #[.int .u64 x6, .int .u64 x2, .int .u64 x8, .int .u64 x7] := hb'.set_ 2 (.int .u64 x8)
  have hz' := hz'.far (p := ⟨g, 2, none⟩) hzg (.int .u64 x8)
  have hs' : Still w ((w6.setCell ⟨g, 3, none⟩ (.int .u64 x7)).setCell ⟨g, 2, none⟩ (.int .u64 x8)) := hs'.setCell (p := ⟨g, 2, none⟩) (.inr hg) _
  go_cut [] from 39 to 45 (fun wx => wx = (w6.setCell ⟨g, 3, none⟩ (.int .u64 x7)).drew)
  case first =>
    go_region_with (go_at_call 49; refine (turn21 x5 _ rx5.1 rx5.2).mono ?_; rintro e w5 ⟨rfl, rfl⟩)
    all_goals (go_wp2_with fail; go_meet; rfl)
  subst hcut
  go_wp2_with fail
  have hb' := hb'.drew
  have hz' := hz'.drew
  have hs' := hs'.drew
  generalize ((w6.setCell ⟨g, 3, none⟩ (.int .u64 x7)).setCell ⟨g, 2, none⟩ (.int .u64 x8)).drew = w8 at *
  have E7 := Lib.hid e7
  have E8 := Lib.hid e8
  clear hb hs hz c0 c1 c2 c3 f0 f1 f2 f3 e7 e8
  have hb := hb'
  have hz := hz'
  have hs := hs'
  clear hb' hs' hz'
  have c0 : w8.cell? ⟨g, 0, none⟩ = some (.int .u64 x6) := hb.cell 0
  have f0 : w8.frozen? ⟨g, 0, none⟩ = false := hb.frozen 0
  have c1 : w8.cell? ⟨g, 1, none⟩ = some (.int .u64 x2) := hb.cell 1
  have f1 : w8.frozen? ⟨g, 1, none⟩ = false := hb.frozen 1
  have c2 : w8.cell? ⟨g, 2, none⟩ = some (.int .u64 x8) := hb.cell 2
  have f2 : w8.frozen? ⟨g, 2, none⟩ = false := hb.frozen 2
  have c3 : w8.cell? ⟨g, 3, none⟩ = some (.int .u64 x7) := hb.cell 3
  have f3 : w8.frozen? ⟨g, 3, none⟩ = false := hb.frozen 3
  have hb' := hb
  have hz' := hz
  have hs' := hs
  obtain ⟨x9, e9⟩ : ∃ x, bits .xor .u64 (rot x2 131072 140737488355328) x8 = x := ⟨_, rfl⟩
  have rx9 : 0 ≤ x9 ∧ x9 < 18446744073709551616 := by rw [← e9]; exact xor64 _ _ (rot_range _ _ _ rx2.1 rx2.2 (by omega)) rx8
  have hb' : Blk (w8.setCell ⟨g, 1, none⟩ (.int .u64 x9)) g 56 #[.int .u64 x6, .int .u64 x9, .int .u64 x8, .int .u64 x7] := hb'.set_ 1 (.int .u64 x9)
  have hz' := hz'.far (p := ⟨g, 1, none⟩) hzg (.int .u64 x9)
  have hs' : Still w (w8.setCell ⟨g, 1, none⟩ (.int .u64 x9)) := hs'.setCell (p := ⟨g, 1, none⟩) (.inr hg) _
  go_cut [] from 52 to 58 (fun wx => wx = (w8.setCell ⟨g, 1, none⟩ (.int .u64 x9)).drew)
  case first =>
    go_region_with (go_at_call 49; refine (turn17 x2 _ rx2.1 rx2.2).mono ?_; rintro e w5 ⟨rfl, rfl⟩)
    all_goals (go_wp2_with fail; go_meet; rfl)
  subst hcut
  go_wp2_with fail
  have hb' := hb'.drew
  have hz' := hz'.drew
  have hs' := hs'.drew
  generalize (w8.setCell ⟨g, 1, none⟩ (.int .u64 x9)).drew = w9 at *
  have E9 := Lib.hid e9
  clear hb hs hz c0 c1 c2 c3 f0 f1 f2 f3 e9
  have hb := hb'
  have hz := hz'
  have hs := hs'
  clear hb' hs' hz'
  have c0 : w9.cell? ⟨g, 0, none⟩ = some (.int .u64 x6) := hb.cell 0
  have f0 : w9.frozen? ⟨g, 0, none⟩ = false := hb.frozen 0
  have c1 : w9.cell? ⟨g, 1, none⟩ = some (.int .u64 x9) := hb.cell 1
  have f1 : w9.frozen? ⟨g, 1, none⟩ = false := hb.frozen 1
  have c2 : w9.cell? ⟨g, 2, none⟩ = some (.int .u64 x8) := hb.cell 2
  have f2 : w9.frozen? ⟨g, 2, none⟩ = false := hb.frozen 2
  have c3 : w9.cell? ⟨g, 3, none⟩ = some (.int .u64 x7) := hb.cell 3
  have f3 : w9.frozen? ⟨g, 3, none⟩ = false := hb.frozen 3
  have hb' := hb
  have hz' := hz
  have hs' := hs
  obtain ⟨x10, e10⟩ : ∃ x, rot x8 4294967296 4294967296 = x := ⟨_, rfl⟩
  have rx10 : 0 ≤ x10 ∧ x10 < 18446744073709551616 := by rw [← e10]; exact rot_range _ _ _ rx8.1 rx8.2 (by omega)
  have hb' : Blk (w9.setCell ⟨g, 2, none⟩ (.int .u64 x10)) g 56 #[.int .u64 x6, .int .u64 x9, .int .u64 x10, .int .u64 x7] := hb'.set_ 2 (.int .u64 x10)
  have hz' := hz'.far (p := ⟨g, 2, none⟩) hzg (.int .u64 x10)
  have hs' : Still w (w9.setCell ⟨g, 2, none⟩ (.int .u64 x10)) := hs'.setCell (p := ⟨g, 2, none⟩) (.inr hg) _
  refine (turn32 x8 _ rx8.1 rx8.2).mono ?_
  rintro e w5 ⟨rfl, rfl⟩
  rw [e10]
  have z0 : w9.cell? ⟨g + 1, 0, none⟩ = some (.int .u64 0) := hz.cell 0
  have z1 : w9.cell? ⟨g + 1, 1, none⟩ = some (.int .u64 0) := hz.cell 1
  have z2 : w9.cell? ⟨g + 1, 2, none⟩ = some (.int .u64 0) := hz.cell 2
  have z3 : w9.cell? ⟨g + 1, 3, none⟩ = some (.int .u64 0) := hz.cell 3
  have y0 : w9.frozen? ⟨g + 1, 0, none⟩ = false := hz.frozen 0
  have y1 : w9.frozen? ⟨g + 1, 1, none⟩ = false := hz.frozen 1
  have y2 : w9.frozen? ⟨g + 1, 2, none⟩ = false := hz.frozen 2
  have y3 : w9.frozen? ⟨g + 1, 3, none⟩ = false := hz.frozen 3
  have E10 := Lib.hid e10
  clear e10
  go_wp2_with fail
  have hf := (((hz'.set_ 0 (.int .u64 x6)).set_ 1 (.int .u64 x9)).set_ 2 (.int .u64 x10)).set_ 3 (.int .u64 x7)
  have hfs := (((hs'.setCell (p := ⟨g + 1, 0, none⟩) (.inr (by show _ ≤ g + 1; omega)) (.int .u64 x6)).setCell (p := ⟨g + 1, 1, none⟩) (.inr (by show _ ≤ g + 1; omega)) (.int .u64 x9)).setCell (p := ⟨g + 1, 2, none⟩) (.inr (by show _ ≤ g + 1; omega)) (.int .u64 x10)).setCell (p := ⟨g + 1, 3, none⟩) (.inr (by show _ ≤ g + 1; omega)) (.int .u64 x7)
  have hr : rd [a, b, c, d] = [x6, x9, x10, x7] := by
    rw [← E10.out, ← E9.out, ← E8.out, ← E7.out, ← E6.out, ← E5.out, ← E4.out, ← E3.out, ← E2.out, ← E1.out]
    rfl
  refine bodyPost_ret (results_cell_row rfl _ _ _ _ _ (0, 0) _ rfl hf (Try.underlying56) rfl (by kernel_rfl)) rfl ?_
  rw [hr]
  exact ⟨rfl, hfs⟩

end Go.Proofs.Ytpgebejnpncemaa
