/-
  HeadBack: what is written of a header is read as it was, what is read is written as it was, and flags are those of the header that they are; for every header, any counts, every text, all flags.
-/
import Derived.Test.YtccdccclklidaaaDoorHeadOpen
import Derived.Test.YtccdccclklidaaaDoorHeadBackM
import Derived.Test.YtccdccclklidaaaDoorTake
import Derived.Deep.CutRange
import Derived.Deep.DeepCutAuto
namespace Go.Proofs.YtccdccclklidaaaDoor
open Go.RowKit
set_option linter.unusedVariables false
set_option linter.unusedSimpArgs false

set_option maxRecDepth 1000000 in
set_option maxHeartbeats 6400000 in
theorem hback_walk (id : Nat) (qr : Bool) (op : Nat) (aa tc rd ra z ad cd : Bool) (code : Nat) (c0 c1 c2 c3 : Int) (s t : ByteArray) (er : Int) (f N n0 n1 n2 n3 : Nat) (hf : f < 65536) (hs : s.size ≤ maxLen) (w : World) (hb : BitsT w)
    (k1 : ∀ w, BitsT w → Calls Tryd.prog 32 #[.agg #[.int .u16 id, .bool qr, .int .u8 op, .bool aa, .bool tc, .bool rd, .bool ra, .bool z, .bool ad, .bool cd, .int .u8 code], .agg #[.int .i64 c0, .int .i64 c1, .int .i64 c2, .int .i64 c3]] w fun e w' => e = .returned (.tuple #[.string t, .int .i64 er]) ∧ Still w w')
    (her : er = 1 ∨ er = 0 ∧ c0 = n0 ∧ c1 = n1 ∧ c2 = n2 ∧ c3 = n3 ∧ t.size = 12 ∧ (∀ w, BitsT w → Calls Tryd.prog 34 #[.string t] w fun e w' => e = .returned (.tuple #[.agg #[.int .u16 id, .bool qr, .int .u8 op, .bool aa, .bool tc, .bool rd, .bool ra, .bool z, .bool ad, .bool cd, .int .u8 code], .agg #[.int .i64 (n0 : Int), .int .i64 (n1 : Int), .int .i64 (n2 : Int), .int .i64 (n3 : Int)], .int .i64 0]) ∧ Still w w') ∧
      (∀ w, BitsT w → Calls Tryd.prog 31 #[.agg #[.int .u16 id, .bool qr, .int .u8 op, .bool aa, .bool tc, .bool rd, .bool ra, .bool z, .bool ad, .bool cd, .int .u8 code]] w fun e w' => e = .returned (.tuple #[.int .u16 (N : Int), .int .i64 0]) ∧ Still w w') ∧
      (∀ w, BitsT w → Calls Tryd.prog 33 #[.int .u16 (N : Int)] w fun e w' => e = .returned (.agg #[.int .u16 0, .bool qr, .int .u8 op, .bool aa, .bool tc, .bool rd, .bool ra, .bool z, .bool ad, .bool cd, .int .u8 code]) ∧ Still w w')) :
    Calls Tryd.prog 13 #[.agg #[.int .u16 id, .bool qr, .int .u8 op, .bool aa, .bool tc, .bool rd, .bool ra, .bool z, .bool ad, .bool cd, .int .u8 code], .agg #[.int .i64 c0, .int .i64 c1, .int .i64 c2, .int .i64 c3], .string s, .int .u16 f] w fun e w' => e = .returned (.bool true) ∧ Still w w' := by
  have K1 := Lib.hid k1
  have Her := Lib.hid her
  clear k1 her
  have hst := (Still.new w (.cells #[.int .u16 id, .bool qr, .int .u8 op, .bool aa, .bool tc, .bool rd, .bool ra, .bool z, .bool ad, .bool cd, .int .u8 code] 61)).alloc (.cells #[.int .i64 c0, .int .i64 c1, .int .i64 c2, .int .i64 c3] 66)
  have hB := (Blk.new w 61 #[.int .u16 id, .bool qr, .int .u8 op, .bool aa, .bool tc, .bool rd, .bool ra, .bool z, .bool ad, .bool cd, .int .u8 code]).alloc (.cells #[.int .i64 c0, .int .i64 c1, .int .i64 c2, .int .i64 c3] 66)
  have hC := Blk.at_ (w.alloc (.cells #[.int .u16 id, .bool qr, .int .u8 op, .bool aa, .bool tc, .bool rd, .bool ra, .bool z, .bool ad, .bool cd, .int .u8 code] 61)) 66 #[.int .i64 c0, .int .i64 c1, .int .i64 c2, .int .i64 c3] (g := w.heap.size + 1) (by simp)
  go_enter Tryd.func13, Tryd.ntmps13
  go_upto_region 1 with fail
  generalize (w.alloc (.cells #[.int .u16 id, .bool qr, .int .u8 op, .bool aa, .bool tc, .bool rd, .bool ra, .bool z, .bool ad, .bool cd, .int .u8 code] 61)).alloc (.cells #[.int .i64 c0, .int .i64 c1, .int .i64 c2, .int .i64 c3] 66) = w1 at *
  obtain ⟨g, hg⟩ : ∃ g, w.heap.size = g := ⟨_, rfl⟩
  rw [hg] at hB hC
  rw [hg]
  clear hg
  go_wp2_with (first | (refine wpList_load_row rfl 61 (.tmp 4) rfl g rfl 61 _ (0, 0) _ hB Tryd.underlying61 rfl (by kernel_rfl) ?_) | (refine wpList_load_row rfl 66 (.tmp 5) rfl (g + 1) rfl 66 _ (0, 0) _ hC Tryd.underlying66 rfl (by kernel_rfl) ?_))
  refine (K1.out _ (hb.still hst)).mono ?_
  rintro e w2 ⟨rfl, hs⟩
  have hst := hst.still hs
  have hB := hB.only hs (fun h => h)
  have hC := hC.only hs (fun h => h)
  clear hs
  go_upto_if 31 with fail
  go_cut [] from 9 to 71 (fun wx => Still w wx)
  case first =>
    rcases Her.out with rfl | ⟨rfl, rfl, rfl, rfl, rfl, ht, hr, hfl, hfr⟩
    · go_wp2_with fail
      go_meet
      exact hst
    have ht' : (t.size : Int) = 12 := by omega
    have HR := Lib.hid hr
    have HFL := Lib.hid hfl
    have HFR := Lib.hid hfr
    clear hr hfl hfr Her K1 ht
    go_wp2_with fail
    refine (HR.out _ (hb.still hst)).mono ?_
    rintro e w3 ⟨rfl, hs3⟩
    have hst := ((hst.still hs3).alloc (.cells #[.int .u16 id, .bool qr, .int .u8 op, .bool aa, .bool tc, .bool rd, .bool ra, .bool z, .bool ad, .bool cd, .int .u8 code] 61)).alloc (.cells #[.int .i64 (n0 : Int), .int .i64 (n1 : Int), .int .i64 (n2 : Int), .int .i64 (n3 : Int)] 67)
    have hB := ((hB.only hs3 (fun h => h)).alloc (.cells #[.int .u16 id, .bool qr, .int .u8 op, .bool aa, .bool tc, .bool rd, .bool ra, .bool z, .bool ad, .bool cd, .int .u8 code] 61)).alloc (.cells #[.int .i64 (n0 : Int), .int .i64 (n1 : Int), .int .i64 (n2 : Int), .int .i64 (n3 : Int)] 67)
    have hC := ((hC.only hs3 (fun h => h)).alloc (.cells #[.int .u16 id, .bool qr, .int .u8 op, .bool aa, .bool tc, .bool rd, .bool ra, .bool z, .bool ad, .bool cd, .int .u8 code] 61)).alloc (.cells #[.int .i64 (n0 : Int), .int .i64 (n1 : Int), .int .i64 (n2 : Int), .int .i64 (n3 : Int)] 67)
    have hD := (Blk.new w3 61 #[.int .u16 id, .bool qr, .int .u8 op, .bool aa, .bool tc, .bool rd, .bool ra, .bool z, .bool ad, .bool cd, .int .u8 code]).alloc (.cells #[.int .i64 (n0 : Int), .int .i64 (n1 : Int), .int .i64 (n2 : Int), .int .i64 (n3 : Int)] 67)
    have hE := Blk.at_ (w3.alloc (.cells #[.int .u16 id, .bool qr, .int .u8 op, .bool aa, .bool tc, .bool rd, .bool ra, .bool z, .bool ad, .bool cd, .int .u8 code] 61)) 67 #[.int .i64 (n0 : Int), .int .i64 (n1 : Int), .int .i64 (n2 : Int), .int .i64 (n3 : Int)] (g := w3.heap.size + 1) (by simp)
    go_upto_region 4 with fail
    generalize (w3.alloc (.cells #[.int .u16 id, .bool qr, .int .u8 op, .bool aa, .bool tc, .bool rd, .bool ra, .bool z, .bool ad, .bool cd, .int .u8 code] 61)).alloc (.cells #[.int .i64 (n0 : Int), .int .i64 (n1 : Int), .int .i64 (n2 : Int), .int .i64 (n3 : Int)] 67) = w4 at *
    generalize w3.heap.size = p at *
    clear hs3
    go_wp2_with (first | (refine wpList_load_row rfl 61 (.tmp 4) rfl g rfl 61 _ (0, 0) _ hB Tryd.underlying61 rfl (by kernel_rfl) ?_) | (refine wpList_load_row rfl 66 (.tmp 5) rfl (g + 1) rfl 66 _ (0, 0) _ hC Tryd.underlying66 rfl (by kernel_rfl) ?_))
    refine (HFL.out _ (hb.still hst)).mono ?_
    rintro e w5 ⟨rfl, hs5⟩
    have hst := (hst.still hs5).alloc (.cells #[.int .u16 0, .bool qr, .int .u8 op, .bool aa, .bool tc, .bool rd, .bool ra, .bool z, .bool ad, .bool cd, .int .u8 code] 61)
    have hB5 := hB.only hs5 (fun h => h)
    have hB := hB5.alloc (.cells #[.int .u16 0, .bool qr, .int .u8 op, .bool aa, .bool tc, .bool rd, .bool ra, .bool z, .bool ad, .bool cd, .int .u8 code] 61)
    have hC := (hC.only hs5 (fun h => h)).alloc (.cells #[.int .u16 0, .bool qr, .int .u8 op, .bool aa, .bool tc, .bool rd, .bool ra, .bool z, .bool ad, .bool cd, .int .u8 code] 61)
    have hD := (hD.only hs5 (fun h => h)).alloc (.cells #[.int .u16 0, .bool qr, .int .u8 op, .bool aa, .bool tc, .bool rd, .bool ra, .bool z, .bool ad, .bool cd, .int .u8 code] 61)
    have hE := (hE.only hs5 (fun h => h)).alloc (.cells #[.int .u16 0, .bool qr, .int .u8 op, .bool aa, .bool tc, .bool rd, .bool ra, .bool z, .bool ad, .bool cd, .int .u8 code] 61)
    have hO := Blk.new w5 61 #[.int .u16 0, .bool qr, .int .u8 op, .bool aa, .bool tc, .bool rd, .bool ra, .bool z, .bool ad, .bool cd, .int .u8 code]
    go_wp2_with (refine wpList_load_row rfl 61 (.tmp 4) rfl g rfl 61 _ (0, 0) _ hB5 Tryd.underlying61 rfl (by kernel_rfl) ?_)
    generalize w5.alloc (.cells #[.int .u16 0, .bool qr, .int .u8 op, .bool aa, .bool tc, .bool rd, .bool ra, .bool z, .bool ad, .bool cd, .int .u8 code] 61) = w6 at *
    generalize w5.heap.size = q at *
    clear hB5 hs5
    refine wp_region_held_drew (S := fun w' => Still w6 w') (by kernel_rfl) (Only.refl _ _).drew (fun hS => ?_)
    (refine take_p (i := 0) (v := ?_) rfl (by kernel_rfl) (by kernel_rfl) (by kernel_rfl) (fun _ _ _ h => h) (Or.inl ⟨by rfl, ?_⟩) hS ?_; rotate_left; (focus (intro w0 hSw; go_simp; try with_reducible rfl)); try simp only [Act.put, List.setIfInBounds_toArray, List.set_cons_zero, List.set_cons_succ])
    (refine take_p (i := 1) (v := ?_) rfl (by kernel_rfl) (by kernel_rfl) (by kernel_rfl) (fun _ _ _ h => h) (Or.inl ⟨by rfl, ?_⟩) hS ?_; rotate_left; (focus (intro w0 hSw; go_simp; try with_reducible rfl)); try simp only [Act.put, List.setIfInBounds_toArray, List.set_cons_zero, List.set_cons_succ])
    (refine take_p (i := 2) (v := ?_) rfl (by kernel_rfl) (by kernel_rfl) (by kernel_rfl) (fun _ _ _ h => h) (Or.inl ⟨by rfl, ?_⟩) hS ?_; rotate_left; (focus (intro w0 hSw; go_simp; try with_reducible rfl)); try simp only [Act.put, List.setIfInBounds_toArray, List.set_cons_zero, List.set_cons_succ])
    refine take_p (i := 3) (v := .agg #[.int .u16 id, .bool qr, .int .u8 op, .bool aa, .bool tc, .bool rd, .bool ra, .bool z, .bool ad, .bool cd, .int .u8 code]) rfl (by kernel_rfl) (by kernel_rfl) (by kernel_rfl) (fun _ _ _ h => h) ?_ hS ?_
    · exact yieldsIf_load_blk rfl 61 (.tmp 11) rfl p rfl _ #[.int .u16 id, .bool qr, .int .u8 op, .bool aa, .bool tc, .bool rd, .bool ra, .bool z, .bool ad, .bool cd, .int .u8 code] _ (fun _ h => hD.only h (fun h => h)) Tryd.underlying61 rfl (by kernel_rfl)
    try simp only [Act.put, List.setIfInBounds_toArray, List.set_cons_zero, List.set_cons_succ]
    refine take_p (i := 4) (v := .agg #[.int .u16 id, .bool qr, .int .u8 op, .bool aa, .bool tc, .bool rd, .bool ra, .bool z, .bool ad, .bool cd, .int .u8 code]) rfl (by kernel_rfl) (by kernel_rfl) (by kernel_rfl) (fun _ _ _ h => h) ?_ hS ?_
    · exact yieldsIf_load_blk rfl 61 (.tmp 4) rfl g rfl _ #[.int .u16 id, .bool qr, .int .u8 op, .bool aa, .bool tc, .bool rd, .bool ra, .bool z, .bool ad, .bool cd, .int .u8 code] _ (fun _ h => hB.only h (fun h => h)) Tryd.underlying61 rfl (by kernel_rfl)
    try simp only [Act.put, List.setIfInBounds_toArray, List.set_cons_zero, List.set_cons_succ]
    (refine take_p (i := 5) (v := ?_) rfl (by kernel_rfl) (by kernel_rfl) (by kernel_rfl) (fun _ _ _ h => h) (Or.inl ⟨by rfl, ?_⟩) hS ?_; rotate_left; (focus (intro w0 hSw; go_simp; try with_reducible rfl)); try simp only [Act.put, List.setIfInBounds_toArray, List.set_cons_zero, List.set_cons_succ])
    (refine take_p (i := 6) (v := ?_) rfl (by kernel_rfl) (by kernel_rfl) (by kernel_rfl) (fun _ _ _ h => h) (Or.inl ⟨by rfl, ?_⟩) hS ?_; rotate_left; (focus (intro w0 hSw; go_simp; try with_reducible rfl)); try simp only [Act.put, List.setIfInBounds_toArray, List.set_cons_zero, List.set_cons_succ])
    (refine take_p (i := 7) (v := ?_) rfl (by kernel_rfl) (by kernel_rfl) (by kernel_rfl) (fun _ _ _ h => h) (Or.inl ⟨by rfl, ?_⟩) hS ?_; rotate_left; (focus (intro w0 hSw; go_simp; try with_reducible rfl)); try simp only [Act.put, List.setIfInBounds_toArray, List.set_cons_zero, List.set_cons_succ])
    refine take_p (i := 8) (v := .agg #[.int .i64 (n0 : Int), .int .i64 (n1 : Int), .int .i64 (n2 : Int), .int .i64 (n3 : Int)]) rfl (by kernel_rfl) (by kernel_rfl) (by kernel_rfl) (fun _ _ _ h => h) ?_ hS ?_
    · exact yieldsIf_load_blk rfl 67 (.tmp 12) rfl (p + 1) rfl _ #[.int .i64 (n0 : Int), .int .i64 (n1 : Int), .int .i64 (n2 : Int), .int .i64 (n3 : Int)] _ (fun _ h => hE.only h (fun h => h)) Tryd.underlying67 rfl (by kernel_rfl)
    try simp only [Act.put, List.setIfInBounds_toArray, List.set_cons_zero, List.set_cons_succ]
    refine take_p (i := 9) (v := .agg #[.int .i64 (n0 : Int), .int .i64 (n1 : Int), .int .i64 (n2 : Int), .int .i64 (n3 : Int)]) rfl (by kernel_rfl) (by kernel_rfl) (by kernel_rfl) (fun _ _ _ h => h) ?_ hS ?_
    · exact yieldsIf_load_blk rfl 66 (.tmp 5) rfl (g + 1) rfl _ #[.int .i64 (n0 : Int), .int .i64 (n1 : Int), .int .i64 (n2 : Int), .int .i64 (n3 : Int)] _ (fun _ h => hC.only h (fun h => h)) Tryd.underlying66 rfl (by kernel_rfl)
    try simp only [Act.put, List.setIfInBounds_toArray, List.set_cons_zero, List.set_cons_succ]
    (refine take_p (i := 10) (v := ?_) rfl (by kernel_rfl) (by kernel_rfl) (by kernel_rfl) (fun _ _ _ h => h) (Or.inl ⟨by rfl, ?_⟩) hS ?_; rotate_left; (focus (intro w0 hSw; have e4 := eq4c (n0 : Int) (n1 : Int) (n2 : Int) (n3 : Int) (n0 : Int) (n1 : Int) (n2 : Int) (n3 : Int); go_simp; try with_reducible rfl)); try simp only [Act.put, List.setIfInBounds_toArray, List.set_cons_zero, List.set_cons_succ])
    (refine take_p (i := 11) (v := ?_) rfl (by kernel_rfl) (by kernel_rfl) (by kernel_rfl) (fun _ _ _ h => h) (Or.inl ⟨by rfl, ?_⟩) hS ?_; rotate_left; (focus (intro w0 hSw; go_simp; try with_reducible rfl)); try simp only [Act.put, List.setIfInBounds_toArray, List.set_cons_zero, List.set_cons_succ])
    (refine take_p (i := 12) (v := ?_) rfl (by kernel_rfl) (by kernel_rfl) (by kernel_rfl) (fun _ _ _ h => h) (Or.inl ⟨by rfl, ?_⟩) hS ?_; rotate_left; (focus (intro w0 hSw; go_simp; try with_reducible rfl)); try simp only [Act.put, List.setIfInBounds_toArray, List.set_cons_zero, List.set_cons_succ])
    (refine take_p (i := 13) (v := ?_) rfl (by kernel_rfl) (by kernel_rfl) (by kernel_rfl) (fun _ _ _ h => h) (Or.inl ⟨by rfl, ?_⟩) hS ?_; rotate_left; (focus (intro w0 hSw; go_simp; try with_reducible rfl)); try simp only [Act.put, List.setIfInBounds_toArray, List.set_cons_zero, List.set_cons_succ])
    (refine take_p (i := 14) (v := ?_) rfl (by kernel_rfl) (by kernel_rfl) (by kernel_rfl) (fun _ _ _ h => h) (Or.inl ⟨by rfl, ?_⟩) hS ?_; rotate_left; (focus (intro w0 hSw; go_simp; try with_reducible rfl)); try simp only [Act.put, List.setIfInBounds_toArray, List.set_cons_zero, List.set_cons_succ])
    (refine take_p (i := 15) (v := ?_) rfl (by kernel_rfl) (by kernel_rfl) (by kernel_rfl) (fun _ _ _ h => h) (Or.inl ⟨by rfl, ?_⟩) hS ?_; rotate_left; (focus (intro w0 hSw; go_simp; try with_reducible rfl)); try simp only [Act.put, List.setIfInBounds_toArray, List.set_cons_zero, List.set_cons_succ])
    (refine take_p (i := 16) (v := ?_) rfl (by kernel_rfl) (by kernel_rfl) (by kernel_rfl) (fun _ _ _ h => h) (Or.inl ⟨by rfl, ?_⟩) hS ?_; rotate_left; (focus (intro w0 hSw; go_simp; try with_reducible rfl)); try simp only [Act.put, List.setIfInBounds_toArray, List.set_cons_zero, List.set_cons_succ])
    (refine take_p (i := 17) (v := ?_) rfl (by kernel_rfl) (by kernel_rfl) (by kernel_rfl) (fun _ _ _ h => h) (Or.inl ⟨by rfl, ?_⟩) hS ?_; rotate_left; (focus (intro w0 hSw; go_simp; try with_reducible rfl)); try simp only [Act.put, List.setIfInBounds_toArray, List.set_cons_zero, List.set_cons_succ])
    (refine take_p (i := 18) (v := ?_) rfl (by kernel_rfl) (by kernel_rfl) (by kernel_rfl) (fun _ _ _ h => h) (Or.inl ⟨by rfl, ?_⟩) hS ?_; rotate_left; (focus (intro w0 hSw; go_simp; try with_reducible rfl)); try simp only [Act.put, List.setIfInBounds_toArray, List.set_cons_zero, List.set_cons_succ])
    (refine take_p (i := 19) (v := ?_) rfl (by kernel_rfl) (by kernel_rfl) (by kernel_rfl) (fun _ _ _ h => h) (Or.inl ⟨by rfl, ?_⟩) hS ?_; rotate_left; (focus (intro w0 hSw; go_simp; try with_reducible rfl)); try simp only [Act.put, List.setIfInBounds_toArray, List.set_cons_zero, List.set_cons_succ])
    (refine take_p (i := 20) (v := ?_) rfl (by kernel_rfl) (by kernel_rfl) (by kernel_rfl) (fun _ _ _ h => h) (Or.inl ⟨by rfl, ?_⟩) hS ?_; rotate_left; (focus (intro w0 hSw; go_simp; try with_reducible rfl)); try simp only [Act.put, List.setIfInBounds_toArray, List.set_cons_zero, List.set_cons_succ])
    (refine take_p (i := 21) (v := ?_) rfl (by kernel_rfl) (by kernel_rfl) (by kernel_rfl) (fun _ _ _ h => h) (Or.inl ⟨by rfl, ?_⟩) hS ?_; rotate_left; (focus (intro w0 hSw; go_simp; try with_reducible rfl)); try simp only [Act.put, List.setIfInBounds_toArray, List.set_cons_zero, List.set_cons_succ])
    (refine take_p (i := 22) (v := ?_) rfl (by kernel_rfl) (by kernel_rfl) (by kernel_rfl) (fun _ _ _ h => h) (Or.inl ⟨by rfl, ?_⟩) hS ?_; rotate_left; (focus (intro w0 hSw; go_simp; try with_reducible rfl)); try simp only [Act.put, List.setIfInBounds_toArray, List.set_cons_zero, List.set_cons_succ])
    refine take_p (i := 24) (v := .agg #[.int .u16 0, .bool qr, .int .u8 op, .bool aa, .bool tc, .bool rd, .bool ra, .bool z, .bool ad, .bool cd, .int .u8 code]) rfl (by kernel_rfl) (by kernel_rfl) (by kernel_rfl) (fun _ _ _ h => h) ?_ hS ?_
    · exact yieldsIf_load_blk rfl 61 (.tmp 16) rfl q rfl _ #[.int .u16 0, .bool qr, .int .u8 op, .bool aa, .bool tc, .bool rd, .bool ra, .bool z, .bool ad, .bool cd, .int .u8 code] _ (fun _ h => hO.only h (fun h => h)) Tryd.underlying61 rfl (by kernel_rfl)
    try simp only [Act.put, List.setIfInBounds_toArray, List.set_cons_zero, List.set_cons_succ]
    refine wpAnyH_ready (rs := [23]) (by kernel_rfl) (by simp) ?_
    refine cons_p rfl (fun K hK => ?_) AllReadyH.nil
    go_simp
    go_at_call 33
    refine (HFR.out _ (hb.still (hst.still hS))).mono ?_
    rintro e w7 ⟨rfl, hs7⟩
    have hS : Still w6 w7 := hS.still hs7
    refine hK.out _ _ hS (fun hHeld => ?_)
    clear hK K hHeld
    try simp only [Act.put, List.setIfInBounds_toArray, List.set_cons_zero, List.set_cons_succ]
    (refine take_p (i := 25) (v := ?_) rfl (by kernel_rfl) (by kernel_rfl) (by kernel_rfl) (fun _ _ _ h => h) (Or.inl ⟨by rfl, ?_⟩) hS ?_; rotate_left; (focus (intro w0 hSw; go_simp; try with_reducible rfl)); try simp only [Act.put, List.setIfInBounds_toArray, List.set_cons_zero, List.set_cons_succ])
    (refine take_p (i := 26) (v := ?_) rfl (by kernel_rfl) (by kernel_rfl) (by kernel_rfl) (fun _ _ _ h => h) (Or.inl ⟨by rfl, ?_⟩) hS ?_; rotate_left; (focus (intro w0 hSw; go_simp; try with_reducible rfl)); try simp only [Act.put, List.setIfInBounds_toArray, List.set_cons_zero, List.set_cons_succ])
    refine wpAnyH_done (by kernel_rfl) ?_ _
    go_wp2_with fail
    go_meet
    exact hst.still hS
  case rest =>
    have hst : Still w wc := hcut
    clear hcut hB hC Her K1
    rcases Nat.lt_or_ge s.size 12 with hsh | hlg
    · go_wp2_with fail
      refine (read_short s hsh _).mono ?_
      rintro e w3 ⟨rfl, hs3⟩
      have hst := ((hst.still hs3).alloc (.cells #[.int .u16 0, .bool false, .int .u8 0, .bool false, .bool false, .bool false, .bool false, .bool false, .bool false, .bool false, .int .u8 0] 61)).alloc (.cells #[.int .i64 0, .int .i64 0, .int .i64 0, .int .i64 0] 67)
      go_wp2_with fail
      generalize (w3.alloc (.cells #[.int .u16 0, .bool false, .int .u8 0, .bool false, .bool false, .bool false, .bool false, .bool false, .bool false, .bool false, .int .u8 0] 61)).alloc (.cells #[.int .i64 0, .int .i64 0, .int .i64 0, .int .i64 0] 67) = w4 at *
      refine (from_any f hf _ (hb.still hst)).mono ?_
      rintro e w5 ⟨rfl, hs5⟩
      have hst := hst.still hs5
      go_wp2_with fail
      refine (flags_from f hf 0 _ (hb.still hst)).mono ?_
      rintro e w6 ⟨rfl, hs6⟩
      have hst := hst.still hs6
      go_wp2_with fail
      refine (head_awake _ (hb.still hst)).mono ?_
      rintro e w7 ⟨rfl, hs7⟩
      go_wp2_with fail
      go_ret
      exact ⟨rfl, hst.still hs7⟩
    · obtain ⟨i0, h0⟩ : ∃ n, numAt s 0 2 = n := ⟨_, rfl⟩
      obtain ⟨i1, h1⟩ : ∃ n, numAt s 2 2 = n := ⟨_, rfl⟩
      obtain ⟨i2, h2⟩ : ∃ n, numAt s 4 2 = n := ⟨_, rfl⟩
      obtain ⟨i3, h3⟩ : ∃ n, numAt s 6 2 = n := ⟨_, rfl⟩
      obtain ⟨i4, h4⟩ : ∃ n, numAt s 8 2 = n := ⟨_, rfl⟩
      obtain ⟨i5, h5⟩ : ∃ n, numAt s 10 2 = n := ⟨_, rfl⟩
      have r1 := fun w hb => read_long s hlg hs w hb i0 i1 i2 i3 i4 i5 h0 h1 h2 h3 h4 h5
      have r2 := fun w hb => write_back s hlg i0 i1 i2 i3 i4 i5 h0 h1 h2 h3 h4 h5 w hb
      have R1 := Lib.hid r1
      have R2 := Lib.hid r2
      have hd : decide ((s.size : Int) < 12) = false := decide_eq_false (by omega)
      have h12 : ¬ (s.size : Int) < 12 := by omega
      have h12' : (12 : Int) ≤ (s.size : Int) := by omega
      clear r1 r2 h0 h1 h2 h3 h4 h5
      go_wp2_with fail
      refine (R1.out _ (hb.still hst)).mono ?_
      rintro e w3 ⟨rfl, hs3⟩
      have hst := ((hst.still hs3).alloc (.cells #[.int .u16 (i0 : Int), .bool (i1.testBit 15), .int .u8 ((i1 : Int) / 2048 % 16), .bool (i1.testBit 10), .bool (i1.testBit 9), .bool (i1.testBit 8), .bool (i1.testBit 7), .bool (i1.testBit 6), .bool (i1.testBit 5), .bool (i1.testBit 4), .int .u8 ((i1 : Int) % 16)] 61)).alloc (.cells #[.int .i64 (i2 : Int), .int .i64 (i3 : Int), .int .i64 (i4 : Int), .int .i64 (i5 : Int)] 67)
      have hD := (Blk.new w3 61 #[.int .u16 (i0 : Int), .bool (i1.testBit 15), .int .u8 ((i1 : Int) / 2048 % 16), .bool (i1.testBit 10), .bool (i1.testBit 9), .bool (i1.testBit 8), .bool (i1.testBit 7), .bool (i1.testBit 6), .bool (i1.testBit 5), .bool (i1.testBit 4), .int .u8 ((i1 : Int) % 16)]).alloc (.cells #[.int .i64 (i2 : Int), .int .i64 (i3 : Int), .int .i64 (i4 : Int), .int .i64 (i5 : Int)] 67)
      have hE := Blk.at_ (w3.alloc (.cells #[.int .u16 (i0 : Int), .bool (i1.testBit 15), .int .u8 ((i1 : Int) / 2048 % 16), .bool (i1.testBit 10), .bool (i1.testBit 9), .bool (i1.testBit 8), .bool (i1.testBit 7), .bool (i1.testBit 6), .bool (i1.testBit 5), .bool (i1.testBit 4), .int .u8 ((i1 : Int) % 16)] 61)) 67 #[.int .i64 (i2 : Int), .int .i64 (i3 : Int), .int .i64 (i4 : Int), .int .i64 (i5 : Int)] (g := w3.heap.size + 1) (by simp)
      go_upto_region 10 with fail
      generalize (w3.alloc (.cells #[.int .u16 (i0 : Int), .bool (i1.testBit 15), .int .u8 ((i1 : Int) / 2048 % 16), .bool (i1.testBit 10), .bool (i1.testBit 9), .bool (i1.testBit 8), .bool (i1.testBit 7), .bool (i1.testBit 6), .bool (i1.testBit 5), .bool (i1.testBit 4), .int .u8 ((i1 : Int) % 16)] 61)).alloc (.cells #[.int .i64 (i2 : Int), .int .i64 (i3 : Int), .int .i64 (i4 : Int), .int .i64 (i5 : Int)] 67) = w4 at *
      generalize w3.heap.size = p at *
      clear hs3
      go_wp2_with (first | (refine wpList_load_row rfl 61 (.tmp 17) rfl p rfl 61 _ (0, 0) _ hD Tryd.underlying61 rfl (by kernel_rfl) ?_) | (refine wpList_load_row rfl 67 (.tmp 18) rfl (p + 1) rfl 67 _ (0, 0) _ hE Tryd.underlying67 rfl (by kernel_rfl) ?_))
      refine (R2.out _ (hb.still hst)).mono ?_
      rintro e w5 ⟨rfl, hs5⟩
      have hst := hst.still hs5
      clear hD hE hs5
      go_wp2_with fail
      refine (from_any f hf _ (hb.still hst)).mono ?_
      rintro e w6 ⟨rfl, hs6⟩
      have hst := hst.still hs6
      go_wp2_with fail
      refine (flags_from f hf 0 _ (hb.still hst)).mono ?_
      rintro e w7 ⟨rfl, hs7⟩
      have hst := hst.still hs7
      go_wp2_with fail
      refine (head_awake _ (hb.still hst)).mono ?_
      rintro e w8 ⟨rfl, hs8⟩
      go_wp2_with fail
      go_ret
      exact ⟨rfl, hst.still hs8⟩
theorem writeV_two (id : Nat) (qr : Bool) (op : Nat) (aa tc rd ra z ad cd : Bool) (code : Nat) (c : List Int) : (writeV id qr op aa tc rd ra z ad cd code c).2 = 0 ∨ (writeV id qr op aa tc rd ra z ad cd code c).2 = 1 := by
  unfold writeV
  split
  · exact .inl rfl
  · exact .inr rfl
theorem hback_all (w : World) (a0 : Int) (a1 : Bool) (a2 : Int) (a3 a4 a5 a6 a7 a8 a9 : Bool) (a10 : Int) (w0 : (Lit.int .u16 a0).wf = true) (w2 : (Lit.int .u8 a2).wf = true) (w10 : (Lit.int .u8 a10).wf = true) (c0 c1 c2 c3 : Int) (v0 : (Lit.int .i64 c0).wf = true) (v1 : (Lit.int .i64 c1).wf = true) (v2 : (Lit.int .i64 c2).wf = true) (v3 : (Lit.int .i64 c3).wf = true) (s : ByteArray) (hs : s.size ≤ maxLen) (f : Int) (wf : (Lit.int .u16 f).wf = true) (hb : BitsT w) :
    Calls Tryd.prog 13 #[.agg #[.int .u16 a0, .bool a1, .int .u8 a2, .bool a3, .bool a4, .bool a5, .bool a6, .bool a7, .bool a8, .bool a9, .int .u8 a10], .agg #[.int .i64 c0, .int .i64 c1, .int .i64 c2, .int .i64 c3], .string s, .int .u16 f] w fun e w' => e = .returned (.bool true) ∧ Still w w' := by
  have b0 := wf_u16 w0
  have b2 := wf_u8 w2
  have b10 := wf_u8 w10
  have bf := wf_u16 wf
  obtain ⟨i, rfl⟩ : ∃ n : Nat, a0 = (n : Int) := ⟨a0.toNat, by omega⟩
  obtain ⟨o, rfl⟩ : ∃ n : Nat, a2 = (n : Int) := ⟨a2.toNat, by omega⟩
  obtain ⟨c, rfl⟩ : ∃ n : Nat, a10 = (n : Int) := ⟨a10.toNat, by omega⟩
  obtain ⟨f, rfl⟩ : ∃ n : Nat, f = (n : Int) := ⟨f.toNat, by omega⟩
  have k1 := fun w hb => write_any i a1 o a3 a4 a5 a6 a7 a8 a9 c c0 c1 c2 c3 w hb (by omega) (by omega) (by omega)
  by_cases he : (writeV i a1 o a3 a4 a5 a6 a7 a8 a9 c [c0, c1, c2, c3]).2 = 0
  · obtain ⟨ho, hc, hall⟩ := writeV_err _ _ _ _ _ _ _ _ _ _ _ _ he
    have hok := List.all_eq_true.1 hall
    obtain ⟨n0, rfl, l0⟩ := okC_nat (hok c0 (by simp))
    obtain ⟨n1, rfl, l1⟩ := okC_nat (hok c1 (by simp))
    obtain ⟨n2, rfl, l2⟩ := okC_nat (hok c2 (by simp))
    obtain ⟨n3, rfl, l3⟩ := okC_nat (hok c3 (by simp))
    refine hback_walk i a1 o a3 a4 a5 a6 a7 a8 a9 c _ _ _ _ s _ _ f (flagsN a1 o a3 a4 a5 a6 a7 a8 a9 c) n0 n1 n2 n3 (by omega) hs w hb k1 (.inr ⟨he, rfl, rfl, rfl, rfl, ?_, ?_, ?_, ?_⟩)
    · rw [writeV_ok i a1 o a3 a4 a5 a6 a7 a8 a9 c _ ho hc hall, str_size]
      simp [cntB_length, beB_length]
    · exact fun w hb => read_back i a1 o a3 a4 a5 a6 a7 a8 a9 c n0 n1 n2 n3 ho hc (by omega) l0 l1 l2 l3 w hb
    · exact fun w hb => flags_ok i a1 o a3 a4 a5 a6 a7 a8 a9 c w hb ho hc
    · exact fun w hb => from_back i a1 o a3 a4 a5 a6 a7 a8 a9 c _ ho hc rfl w hb
  · have he1 : (writeV i a1 o a3 a4 a5 a6 a7 a8 a9 c [c0, c1, c2, c3]).2 = 1 := by
      rcases writeV_two i a1 o a3 a4 a5 a6 a7 a8 a9 c [c0, c1, c2, c3] with h | h
      · exact absurd h he
      · exact h
    exact hback_walk i a1 o a3 a4 a5 a6 a7 a8 a9 c _ _ _ _ s _ _ f 0 0 0 0 0 (by omega) hs w hb k1 (.inl he1)
end Go.Proofs.YtccdccclklidaaaDoor
