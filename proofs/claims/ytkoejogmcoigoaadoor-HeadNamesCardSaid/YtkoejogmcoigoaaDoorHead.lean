/-
  Package head: flags as contracts.
-/
import Derived.Test.YtkoejogmcoigoaaDoorErrno
import Derived.Test.YtkoejogmcoigoaaDoorRowW
import Derived.Laws.BitsAllLaws
namespace Go.Proofs.YtkoejogmcoigoaaDoor
open Go.RowKit
set_option linter.unusedVariables false

/-- The variable head.bits holds its masks. -/
def BitsT (w : World) : Prop := w.cell? ⟨0, 0, none⟩ = some (.int .u16 32768) ∧ w.cell? ⟨0, 1, none⟩ = some (.int .u16 1024) ∧ w.cell? ⟨0, 2, none⟩ = some (.int .u16 512) ∧ w.cell? ⟨0, 3, none⟩ = some (.int .u16 256) ∧ w.cell? ⟨0, 4, none⟩ = some (.int .u16 128) ∧ w.cell? ⟨0, 5, none⟩ = some (.int .u16 64) ∧ w.cell? ⟨0, 6, none⟩ = some (.int .u16 32) ∧ w.cell? ⟨0, 7, none⟩ = some (.int .u16 16)
theorem BitsT.only {w w' : World} {S : Nat → Prop} (h : BitsT w) (ho : Only S w w') (hS : ¬ S 0) : BitsT w' := by
  obtain ⟨h0, h1, h2, h3, h4, h5, h6, h7⟩ := h
  exact ⟨ho.cell_some hS h0, ho.cell_some hS h1, ho.cell_some hS h2, ho.cell_some hS h3, ho.cell_some hS h4, ho.cell_some hS h5, ho.cell_some hS h6, ho.cell_some hS h7⟩
theorem BitsT.still {w w' : World} (h : BitsT w) (ho : Still w w') : BitsT w' := h.only ho (fun h => h)

theorem nat_and_bit (f k : Nat) : f &&& 2 ^ k = if f.testBit k then 2 ^ k else 0 := by
  apply Nat.eq_of_testBit_eq
  intro i
  rw [Nat.testBit_and, Nat.testBit_two_pow]
  by_cases hk : k = i
  · subst hk
    cases f.testBit k <;> simp
  · cases h : f.testBit k <;> simp [hk]
theorem and_bit (f k : Nat) (hf : f < 65536) (hk : k < 16) : (bits .and .u16 (f : Int) ((2 ^ k : Nat) : Int) != 0) = f.testBit k := by
  have h2 : 2 ^ k < 65536 := Nat.lt_of_lt_of_le (Nat.pow_lt_pow_right (by decide) hk) (by decide)
  have h3 : 2 ^ k ≠ 0 := Nat.ne_of_gt (Nat.two_pow_pos k)
  rw [u16_and_nat f (2 ^ k) hf h2, nat_and_bit]
  generalize 2 ^ k = p at *
  cases f.testBit k
  · rfl
  · rw [if_pos rfl, bne_iff_ne]
    omega
theorem and_mask (f : Nat) (hf : f < 65536) : bits .and .u16 (f : Int) 15 = ((f % 16 : Nat) : Int) := by
  have := u16_and_nat f 15 hf (by decide)
  rw [show ((15 : Nat) : Int) = 15 from rfl] at this
  rw [this]
  exact congrArg _ (Nat.and_two_pow_sub_one_eq_mod f 4)

set_option maxRecDepth 1000000 in
set_option maxHeartbeats 1600000 in
theorem from_any (f : Nat) (hf : f < 65536) (w : World) (hb : BitsT w) :
    Calls Tryd.prog 12 #[.int .u16 f] w fun e w' => e = .returned (.agg #[.int .u16 0, .bool (f.testBit 15), .int .u8 ((f : Int) / 2048 % 16), .bool (f.testBit 10), .bool (f.testBit 9), .bool (f.testBit 8), .bool (f.testBit 7), .bool (f.testBit 6), .bool (f.testBit 5), .bool (f.testBit 4), .int .u8 ((f : Int) % 16)]) ∧ Still w w' := by
  have b0 := and_bit f 15 hf (by decide)
  rw [show ((2 ^ 15 : Nat) : Int) = 32768 from rfl] at b0
  have b1 := and_bit f 10 hf (by decide)
  rw [show ((2 ^ 10 : Nat) : Int) = 1024 from rfl] at b1
  have b2 := and_bit f 9 hf (by decide)
  rw [show ((2 ^ 9 : Nat) : Int) = 512 from rfl] at b2
  have b3 := and_bit f 8 hf (by decide)
  rw [show ((2 ^ 8 : Nat) : Int) = 256 from rfl] at b3
  have b4 := and_bit f 7 hf (by decide)
  rw [show ((2 ^ 7 : Nat) : Int) = 128 from rfl] at b4
  have b5 := and_bit f 6 hf (by decide)
  rw [show ((2 ^ 6 : Nat) : Int) = 64 from rfl] at b5
  have b6 := and_bit f 5 hf (by decide)
  rw [show ((2 ^ 5 : Nat) : Int) = 32 from rfl] at b6
  have b7 := and_bit f 4 hf (by decide)
  rw [show ((2 ^ 4 : Nat) : Int) = 16 from rfl] at b7
  have m1 := and_mask f hf
  have m2 : bits .and .u16 ((f : Int) / 2048) 15 = ((f / 2048 % 16 : Nat) : Int) := by
    have := and_mask (f / 2048) (by omega)
    rwa [show ((f / 2048 : Nat) : Int) = (f : Int) / 2048 by omega] at this
  have hZ := (Blk.new w 25 #[.int .u16 0, .bool false, .int .u8 0, .bool false, .bool false, .bool false, .bool false, .bool false, .bool false, .bool false, .int .u8 0]).alloc (.cells #[.int .u16 0, .bool false, .int .u8 ((f : Int) / 2048 % 16), .bool false, .bool false, .bool false, .bool false, .bool false, .bool false, .bool false, .int .u8 ((f : Int) % 16)] 25)
  have hF := Blk.at_ (w.alloc (.cells #[.int .u16 0, .bool false, .int .u8 0, .bool false, .bool false, .bool false, .bool false, .bool false, .bool false, .bool false, .int .u8 0] 25)) 25 #[.int .u16 0, .bool false, .int .u8 ((f : Int) / 2048 % 16), .bool false, .bool false, .bool false, .bool false, .bool false, .bool false, .bool false, .int .u8 ((f : Int) % 16)] (g := w.heap.size + 1) (by simp)
  have hS := ((Still.new w (.cells #[.int .u16 0, .bool false, .int .u8 0, .bool false, .bool false, .bool false, .bool false, .bool false, .bool false, .bool false, .int .u8 0] 25))).alloc (.cells #[.int .u16 0, .bool false, .int .u8 ((f : Int) / 2048 % 16), .bool false, .bool false, .bool false, .bool false, .bool false, .bool false, .bool false, .int .u8 ((f : Int) % 16)] 25)
  go_enter Tryd.func12, Tryd.ntmps12
  go_wp2_with fail
  generalize (w.alloc (.cells #[.int .u16 0, .bool false, .int .u8 0, .bool false, .bool false, .bool false, .bool false, .bool false, .bool false, .bool false, .int .u8 0] 25)).alloc (.cells #[.int .u16 0, .bool false, .int .u8 ((f : Int) / 2048 % 16), .bool false, .bool false, .bool false, .bool false, .bool false, .bool false, .bool false, .int .u8 ((f : Int) % 16)] 25) = w1 at *
  obtain ⟨z, hz⟩ : ∃ z, w.heap.size = z := ⟨_, rfl⟩
  rw [hz] at hZ hF ⊢
  obtain ⟨g, hg⟩ : ∃ g, z + 1 = g := ⟨_, rfl⟩
  rw [hg] at hF ⊢
  have hgw : w.heap.size ≤ g := by omega
  have hzw : w.heap.size ≤ z := by omega
  have hzg : z ≠ g := by omega
  clear hz hg m1 m2
  have i0 : ∀ w, (Instr.index 53 (.agg #[.pointer (some ⟨g, 1, none⟩), .pointer (some ⟨g, 3, none⟩), .pointer (some ⟨g, 4, none⟩), .pointer (some ⟨g, 5, none⟩), .pointer (some ⟨g, 6, none⟩), .pointer (some ⟨g, 7, none⟩), .pointer (some ⟨g, 8, none⟩), .pointer (some ⟨g, 9, none⟩)]) (.int .i64 0)).run Tryd.prog w = .ok (.pointer (some ⟨g, 1, none⟩)) w := fun _ => by kernel_rfl
  have i1 : ∀ w, (Instr.index 53 (.agg #[.pointer (some ⟨g, 1, none⟩), .pointer (some ⟨g, 3, none⟩), .pointer (some ⟨g, 4, none⟩), .pointer (some ⟨g, 5, none⟩), .pointer (some ⟨g, 6, none⟩), .pointer (some ⟨g, 7, none⟩), .pointer (some ⟨g, 8, none⟩), .pointer (some ⟨g, 9, none⟩)]) (.int .i64 1)).run Tryd.prog w = .ok (.pointer (some ⟨g, 3, none⟩)) w := fun _ => by kernel_rfl
  have i2 : ∀ w, (Instr.index 53 (.agg #[.pointer (some ⟨g, 1, none⟩), .pointer (some ⟨g, 3, none⟩), .pointer (some ⟨g, 4, none⟩), .pointer (some ⟨g, 5, none⟩), .pointer (some ⟨g, 6, none⟩), .pointer (some ⟨g, 7, none⟩), .pointer (some ⟨g, 8, none⟩), .pointer (some ⟨g, 9, none⟩)]) (.int .i64 2)).run Tryd.prog w = .ok (.pointer (some ⟨g, 4, none⟩)) w := fun _ => by kernel_rfl
  have i3 : ∀ w, (Instr.index 53 (.agg #[.pointer (some ⟨g, 1, none⟩), .pointer (some ⟨g, 3, none⟩), .pointer (some ⟨g, 4, none⟩), .pointer (some ⟨g, 5, none⟩), .pointer (some ⟨g, 6, none⟩), .pointer (some ⟨g, 7, none⟩), .pointer (some ⟨g, 8, none⟩), .pointer (some ⟨g, 9, none⟩)]) (.int .i64 3)).run Tryd.prog w = .ok (.pointer (some ⟨g, 5, none⟩)) w := fun _ => by kernel_rfl
  have i4 : ∀ w, (Instr.index 53 (.agg #[.pointer (some ⟨g, 1, none⟩), .pointer (some ⟨g, 3, none⟩), .pointer (some ⟨g, 4, none⟩), .pointer (some ⟨g, 5, none⟩), .pointer (some ⟨g, 6, none⟩), .pointer (some ⟨g, 7, none⟩), .pointer (some ⟨g, 8, none⟩), .pointer (some ⟨g, 9, none⟩)]) (.int .i64 4)).run Tryd.prog w = .ok (.pointer (some ⟨g, 6, none⟩)) w := fun _ => by kernel_rfl
  have i5 : ∀ w, (Instr.index 53 (.agg #[.pointer (some ⟨g, 1, none⟩), .pointer (some ⟨g, 3, none⟩), .pointer (some ⟨g, 4, none⟩), .pointer (some ⟨g, 5, none⟩), .pointer (some ⟨g, 6, none⟩), .pointer (some ⟨g, 7, none⟩), .pointer (some ⟨g, 8, none⟩), .pointer (some ⟨g, 9, none⟩)]) (.int .i64 5)).run Tryd.prog w = .ok (.pointer (some ⟨g, 7, none⟩)) w := fun _ => by kernel_rfl
  have i6 : ∀ w, (Instr.index 53 (.agg #[.pointer (some ⟨g, 1, none⟩), .pointer (some ⟨g, 3, none⟩), .pointer (some ⟨g, 4, none⟩), .pointer (some ⟨g, 5, none⟩), .pointer (some ⟨g, 6, none⟩), .pointer (some ⟨g, 7, none⟩), .pointer (some ⟨g, 8, none⟩), .pointer (some ⟨g, 9, none⟩)]) (.int .i64 6)).run Tryd.prog w = .ok (.pointer (some ⟨g, 8, none⟩)) w := fun _ => by kernel_rfl
  have i7 : ∀ w, (Instr.index 53 (.agg #[.pointer (some ⟨g, 1, none⟩), .pointer (some ⟨g, 3, none⟩), .pointer (some ⟨g, 4, none⟩), .pointer (some ⟨g, 5, none⟩), .pointer (some ⟨g, 6, none⟩), .pointer (some ⟨g, 7, none⟩), .pointer (some ⟨g, 8, none⟩), .pointer (some ⟨g, 9, none⟩)]) (.int .i64 7)).run Tryd.prog w = .ok (.pointer (some ⟨g, 9, none⟩)) w := fun _ => by kernel_rfl
  refine wp_loop_rounds 9 ?_
  have c := (hb.still hS).1
  have fz := hF.frozen 1
  have d : w1.cell? ⟨g, 1, none⟩ = some (.bool false) := hF.cell 1
  rw [rounds_succ]
  go_wp2_with fail
  have hF : Blk (w1.setCell ⟨g, 1, none⟩ (.bool (f.testBit 15))) g 25 #[.int .u16 0, .bool (f.testBit 15), .int .u8 ((f : Int) / 2048 % 16), .bool false, .bool false, .bool false, .bool false, .bool false, .bool false, .bool false, .int .u8 ((f : Int) % 16)] := hF.set_ 1 (.bool (f.testBit 15))
  have hZ := hZ.far (p := ⟨g, 1, none⟩) hzg (.bool (f.testBit 15))
  have hS := hS.setCell (p := ⟨g, 1, none⟩) (.inr hgw) (.bool (f.testBit 15))
  clear c fz d i0 b0
  generalize (w1.setCell ⟨g, 1, none⟩ (.bool (f.testBit 15))) = w2 at *
  have c := (hb.still hS).2.1
  have fz := hF.frozen 3
  have d : w2.cell? ⟨g, 3, none⟩ = some (.bool false) := hF.cell 3
  rw [rounds_succ]
  go_wp2_with fail
  have hF : Blk (w2.setCell ⟨g, 3, none⟩ (.bool (f.testBit 10))) g 25 #[.int .u16 0, .bool (f.testBit 15), .int .u8 ((f : Int) / 2048 % 16), .bool (f.testBit 10), .bool false, .bool false, .bool false, .bool false, .bool false, .bool false, .int .u8 ((f : Int) % 16)] := hF.set_ 3 (.bool (f.testBit 10))
  have hZ := hZ.far (p := ⟨g, 3, none⟩) hzg (.bool (f.testBit 10))
  have hS := hS.setCell (p := ⟨g, 3, none⟩) (.inr hgw) (.bool (f.testBit 10))
  clear c fz d i1 b1
  generalize (w2.setCell ⟨g, 3, none⟩ (.bool (f.testBit 10))) = w3 at *
  have c := (hb.still hS).2.2.1
  have fz := hF.frozen 4
  have d : w3.cell? ⟨g, 4, none⟩ = some (.bool false) := hF.cell 4
  rw [rounds_succ]
  go_wp2_with fail
  have hF : Blk (w3.setCell ⟨g, 4, none⟩ (.bool (f.testBit 9))) g 25 #[.int .u16 0, .bool (f.testBit 15), .int .u8 ((f : Int) / 2048 % 16), .bool (f.testBit 10), .bool (f.testBit 9), .bool false, .bool false, .bool false, .bool false, .bool false, .int .u8 ((f : Int) % 16)] := hF.set_ 4 (.bool (f.testBit 9))
  have hZ := hZ.far (p := ⟨g, 4, none⟩) hzg (.bool (f.testBit 9))
  have hS := hS.setCell (p := ⟨g, 4, none⟩) (.inr hgw) (.bool (f.testBit 9))
  clear c fz d i2 b2
  generalize (w3.setCell ⟨g, 4, none⟩ (.bool (f.testBit 9))) = w4 at *
  have c := (hb.still hS).2.2.2.1
  have fz := hF.frozen 5
  have d : w4.cell? ⟨g, 5, none⟩ = some (.bool false) := hF.cell 5
  rw [rounds_succ]
  go_wp2_with fail
  have hF : Blk (w4.setCell ⟨g, 5, none⟩ (.bool (f.testBit 8))) g 25 #[.int .u16 0, .bool (f.testBit 15), .int .u8 ((f : Int) / 2048 % 16), .bool (f.testBit 10), .bool (f.testBit 9), .bool (f.testBit 8), .bool false, .bool false, .bool false, .bool false, .int .u8 ((f : Int) % 16)] := hF.set_ 5 (.bool (f.testBit 8))
  have hZ := hZ.far (p := ⟨g, 5, none⟩) hzg (.bool (f.testBit 8))
  have hS := hS.setCell (p := ⟨g, 5, none⟩) (.inr hgw) (.bool (f.testBit 8))
  clear c fz d i3 b3
  generalize (w4.setCell ⟨g, 5, none⟩ (.bool (f.testBit 8))) = w5 at *
  have c := (hb.still hS).2.2.2.2.1
  have fz := hF.frozen 6
  have d : w5.cell? ⟨g, 6, none⟩ = some (.bool false) := hF.cell 6
  rw [rounds_succ]
  go_wp2_with fail
  have hF : Blk (w5.setCell ⟨g, 6, none⟩ (.bool (f.testBit 7))) g 25 #[.int .u16 0, .bool (f.testBit 15), .int .u8 ((f : Int) / 2048 % 16), .bool (f.testBit 10), .bool (f.testBit 9), .bool (f.testBit 8), .bool (f.testBit 7), .bool false, .bool false, .bool false, .int .u8 ((f : Int) % 16)] := hF.set_ 6 (.bool (f.testBit 7))
  have hZ := hZ.far (p := ⟨g, 6, none⟩) hzg (.bool (f.testBit 7))
  have hS := hS.setCell (p := ⟨g, 6, none⟩) (.inr hgw) (.bool (f.testBit 7))
  clear c fz d i4 b4
  generalize (w5.setCell ⟨g, 6, none⟩ (.bool (f.testBit 7))) = w6 at *
  have c := (hb.still hS).2.2.2.2.2.1
  have fz := hF.frozen 7
  have d : w6.cell? ⟨g, 7, none⟩ = some (.bool false) := hF.cell 7
  rw [rounds_succ]
  go_wp2_with fail
  have hF : Blk (w6.setCell ⟨g, 7, none⟩ (.bool (f.testBit 6))) g 25 #[.int .u16 0, .bool (f.testBit 15), .int .u8 ((f : Int) / 2048 % 16), .bool (f.testBit 10), .bool (f.testBit 9), .bool (f.testBit 8), .bool (f.testBit 7), .bool (f.testBit 6), .bool false, .bool false, .int .u8 ((f : Int) % 16)] := hF.set_ 7 (.bool (f.testBit 6))
  have hZ := hZ.far (p := ⟨g, 7, none⟩) hzg (.bool (f.testBit 6))
  have hS := hS.setCell (p := ⟨g, 7, none⟩) (.inr hgw) (.bool (f.testBit 6))
  clear c fz d i5 b5
  generalize (w6.setCell ⟨g, 7, none⟩ (.bool (f.testBit 6))) = w7 at *
  have c := (hb.still hS).2.2.2.2.2.2.1
  have fz := hF.frozen 8
  have d : w7.cell? ⟨g, 8, none⟩ = some (.bool false) := hF.cell 8
  rw [rounds_succ]
  go_wp2_with fail
  have hF : Blk (w7.setCell ⟨g, 8, none⟩ (.bool (f.testBit 5))) g 25 #[.int .u16 0, .bool (f.testBit 15), .int .u8 ((f : Int) / 2048 % 16), .bool (f.testBit 10), .bool (f.testBit 9), .bool (f.testBit 8), .bool (f.testBit 7), .bool (f.testBit 6), .bool (f.testBit 5), .bool false, .int .u8 ((f : Int) % 16)] := hF.set_ 8 (.bool (f.testBit 5))
  have hZ := hZ.far (p := ⟨g, 8, none⟩) hzg (.bool (f.testBit 5))
  have hS := hS.setCell (p := ⟨g, 8, none⟩) (.inr hgw) (.bool (f.testBit 5))
  clear c fz d i6 b6
  generalize (w7.setCell ⟨g, 8, none⟩ (.bool (f.testBit 5))) = w8 at *
  have c := (hb.still hS).2.2.2.2.2.2.2
  have fz := hF.frozen 9
  have d : w8.cell? ⟨g, 9, none⟩ = some (.bool false) := hF.cell 9
  rw [rounds_succ]
  go_wp2_with fail
  have hF : Blk (w8.setCell ⟨g, 9, none⟩ (.bool (f.testBit 4))) g 25 #[.int .u16 0, .bool (f.testBit 15), .int .u8 ((f : Int) / 2048 % 16), .bool (f.testBit 10), .bool (f.testBit 9), .bool (f.testBit 8), .bool (f.testBit 7), .bool (f.testBit 6), .bool (f.testBit 5), .bool (f.testBit 4), .int .u8 ((f : Int) % 16)] := hF.set_ 9 (.bool (f.testBit 4))
  have hZ := hZ.far (p := ⟨g, 9, none⟩) hzg (.bool (f.testBit 4))
  have hS := hS.setCell (p := ⟨g, 9, none⟩) (.inr hgw) (.bool (f.testBit 4))
  clear c fz d i7 b7
  generalize (w8.setCell ⟨g, 9, none⟩ (.bool (f.testBit 4))) = w9 at *
  rw [rounds_succ]
  go_wp2_with (first | (refine wpList_load_row rfl 25 (.tmp 3) rfl g rfl 25 _ (0, 0) _ hF Tryd.underlying25 rfl (by kernel_rfl) ?_) | ((refine wpList_store_blk rfl 25 (.tmp 2) (.tmp 36) rfl z rfl #[.int .u16 0, .bool (f.testBit 15), .int .u8 ((f : Int) / 2048 % 16), .bool (f.testBit 10), .bool (f.testBit 9), .bool (f.testBit 8), .bool (f.testBit 7), .bool (f.testBit 6), .bool (f.testBit 5), .bool (f.testBit 4), .int .u8 ((f : Int) % 16)] rfl 25 _ hZ (by kernel_rfl) rfl (by kernel_rfl) ?_); intro wa hZa hoa))
  have hSa := hS.trans hoa (fun i hi e => by omega)
  refine bodyPost_ret (results_cell_row rfl _ _ _ _ _ (0, 0) _ rfl hZa (Tryd.underlying25) rfl (by kernel_rfl)) rfl ?_
  exact ⟨rfl, hSa⟩
end Go.Proofs.YtkoejogmcoigoaaDoor
