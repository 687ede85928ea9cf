/-
  Package comp: the examples.
-/
import Derived.Test.YtfhnfjfjmjopeaaDoorCompIs
namespace Go.Proofs.YtfhnfjfjmjopeaaDoor
open Go.RowKit
set_option linter.unusedVariables false
set_option linter.unusedSimpArgs false

instance (L : List Lab) : Decidable (okL L) := by unfold okL okLab; infer_instance
def lowB (K : Kn) : Bool := K.all (fun p => decide (p.2 ≤ 16383))
theorem low_of {K : Kn} (h : lowB K = true) : lowK K := fun p hp => by
  unfold lowB at h
  rw [List.all_eq_true] at h
  exact of_decide_eq_true (h p hp)
theorem read_c (w : World) (m : ByteArray) (at_ : Nat) (a : Int) (n : ByteArray) (nx er : Nat) (b c : Int) (he : ErrT w) (hat : at_ ≤ m.size) (hm : m.size ≤ 1000000000000) (ha : a = (at_ : Int)) (h : readL m.data.toList at_ = (er, n.data.toList, nx)) (hb : b = (nx : Int)) (hc : c = (er : Int)) :
    Calls Tryd.prog 10 #[.string m, .int .i64 a] w fun e w' => e = .returned (.tuple #[.string n, .int .i64 b, .int .i64 c]) ∧ Still w w' := by
  subst ha hb hc
  refine (read_in w m at_ he hat hm).mono ?_
  rintro e w' ⟨rfl, hs⟩
  rw [h]
  exact ⟨rfl, hs⟩
theorem okL_of {L : List Lab} (h : decide (okL L) = true) : okL L := of_decide_eq_true h

set_option maxRecDepth 1000000 in
set_option maxHeartbeats 6400000 in
theorem comp_awake (w : World) (he : ErrT w) : Calls Tryd.prog 8 #[] w fun e w' => e = .returned (.bool true) ∧ Still w w' := by
  go_enter Tryd.func8, Tryd.ntmps8
  go_wp2_with fail
  refine (comp_new w).mono ?_
  rintro e w0 ⟨t, rfl, ht, hT0, h0⟩
  have he0 := he.still h0
  have hS0 : Still w w0 := h0
  have hb0 := World.ownsRow_nil w0 0 5 1
  have hM0' : Hid (∀ i, (none : Option Nat) = some i → w.heap.size ≤ i) := Lib.hid (fun i e => by cases e)
  clear h0
  go_wp2_with fail
  refine (is_any hT0 none 0 0 [] hb0 (by decide) [[119, 119, 119], [101, 120]] (okL_of (by kernel_rfl)) ⟨#[3, 119, 119, 119, 2, 101, 120, 0]⟩ rfl [3, 119, 119, 119, 2, 101, 120, 0] (by decide) (by decide) (low_of (by kernel_rfl)) [3, 119, 119, 119, 2, 101, 120, 0] [([3, 119, 119, 119, 2, 101, 120, 0], 0), ([2, 101, 120, 0], 4)] (by kernel_rfl) (by kernel_rfl) (by rfl)).mono ?_
  rintro e w1 ⟨A1, c1, mb1, rfl, hb1, hT1, ho, hm⟩
  have he1 := errT_table he0 hT0 ho
  have hS1 : Still w w1 := hS0.trans ho (fun i hi e => by
    rcases e with e | e
    · omega
    · have := hM0'.out i e; omega)
  have hM1' : Hid (∀ i, mb1 = some i → w.heap.size ≤ i) := Lib.hid (fun i e => by
    rcases hm with h | ⟨_, b, h, hb⟩
    · exact hM0'.out i (by rw [← h]; exact e)
    · rw [h] at e
      cases e
      have := hS0.size
      omega)
  have hT1 : CTB w1 t mb1 [([3, 119, 119, 119, 2, 101, 120, 0], 0), ([2, 101, 120, 0], 4)] := hT1
  have hb1 : w1.ownsRow 0 5 1 (.slice A1 8 c1) 8 (bv [3, 119, 119, 119, 2, 101, 120, 0]) := hb1
  clear ho hm he0 hT0 hb0 hS0 hM0'
  go_wp2_with fail
  refine (is_any hT1 A1 8 c1 [3, 119, 119, 119, 2, 101, 120, 0] hb1 (by decide) [[102, 116, 112], [101, 120]] (okL_of (by kernel_rfl)) ⟨#[3, 102, 116, 112, 2, 101, 120, 0]⟩ rfl [3, 102, 116, 112, 192, 4] (by decide) (by decide) (low_of (by kernel_rfl)) [3, 119, 119, 119, 2, 101, 120, 0, 3, 102, 116, 112, 192, 4] [([3, 119, 119, 119, 2, 101, 120, 0], 0), ([2, 101, 120, 0], 4), ([3, 102, 116, 112, 2, 101, 120, 0], 8)] (by kernel_rfl) (by kernel_rfl) (by rfl)).mono ?_
  rintro e w2 ⟨A2, c2, mb2, rfl, hb2, hT2, ho, hm⟩
  have he2 := errT_table he1 hT1 ho
  have hS2 : Still w w2 := hS1.trans ho (fun i hi e => by
    rcases e with e | e
    · omega
    · have := hM1'.out i e; omega)
  have hM2' : Hid (∀ i, mb2 = some i → w.heap.size ≤ i) := Lib.hid (fun i e => by
    rcases hm with h | ⟨_, b, h, hb⟩
    · exact hM1'.out i (by rw [← h]; exact e)
    · rw [h] at e
      cases e
      have := hS1.size
      omega)
  have hT2 : CTB w2 t mb2 [([3, 119, 119, 119, 2, 101, 120, 0], 0), ([2, 101, 120, 0], 4), ([3, 102, 116, 112, 2, 101, 120, 0], 8)] := hT2
  have hb2 : w2.ownsRow 0 5 1 (.slice A2 14 c2) 14 (bv [3, 119, 119, 119, 2, 101, 120, 0, 3, 102, 116, 112, 192, 4]) := hb2
  clear ho hm he1 hT1 hb1 hS1 hM1'
  go_wp2_with fail
  refine (is_any hT2 A2 14 c2 [3, 119, 119, 119, 2, 101, 120, 0, 3, 102, 116, 112, 192, 4] hb2 (by decide) [[101, 120]] (okL_of (by kernel_rfl)) ⟨#[2, 101, 120, 0]⟩ rfl [192, 4] (by decide) (by decide) (low_of (by kernel_rfl)) [3, 119, 119, 119, 2, 101, 120, 0, 3, 102, 116, 112, 192, 4, 192, 4] [([3, 119, 119, 119, 2, 101, 120, 0], 0), ([2, 101, 120, 0], 4), ([3, 102, 116, 112, 2, 101, 120, 0], 8)] (by kernel_rfl) (by kernel_rfl) (by rfl)).mono ?_
  rintro e w3 ⟨A3, c3, mb3, rfl, hb3, hT3, ho, hm⟩
  have he3 := errT_table he2 hT2 ho
  have hS3 : Still w w3 := hS2.trans ho (fun i hi e => by
    rcases e with e | e
    · omega
    · have := hM2'.out i e; omega)
  have hM3' : Hid (∀ i, mb3 = some i → w.heap.size ≤ i) := Lib.hid (fun i e => by
    rcases hm with h | ⟨_, b, h, hb⟩
    · exact hM2'.out i (by rw [← h]; exact e)
    · rw [h] at e
      cases e
      have := hS2.size
      omega)
  have hT3 : CTB w3 t mb3 [([3, 119, 119, 119, 2, 101, 120, 0], 0), ([2, 101, 120, 0], 4), ([3, 102, 116, 112, 2, 101, 120, 0], 8)] := hT3
  have hb3 : w3.ownsRow 0 5 1 (.slice A3 16 c3) 16 (bv [3, 119, 119, 119, 2, 101, 120, 0, 3, 102, 116, 112, 192, 4, 192, 4]) := hb3
  clear ho hm he2 hT2 hb2 hS2 hM2'
  go_wp2_with fail
  refine (is_any hT3 A3 16 c3 [3, 119, 119, 119, 2, 101, 120, 0, 3, 102, 116, 112, 192, 4, 192, 4] hb3 (by decide) [[87, 87, 87], [101, 120]] (okL_of (by kernel_rfl)) ⟨#[3, 87, 87, 87, 2, 101, 120, 0]⟩ rfl [3, 87, 87, 87, 192, 4] (by decide) (by decide) (low_of (by kernel_rfl)) [3, 119, 119, 119, 2, 101, 120, 0, 3, 102, 116, 112, 192, 4, 192, 4, 3, 87, 87, 87, 192, 4] [([3, 119, 119, 119, 2, 101, 120, 0], 0), ([2, 101, 120, 0], 4), ([3, 102, 116, 112, 2, 101, 120, 0], 8), ([3, 87, 87, 87, 2, 101, 120, 0], 16)] (by kernel_rfl) (by kernel_rfl) (by rfl)).mono ?_
  rintro e w4 ⟨A4, c4, mb4, rfl, hb4, hT4, ho, hm⟩
  have he4 := errT_table he3 hT3 ho
  have hS4 : Still w w4 := hS3.trans ho (fun i hi e => by
    rcases e with e | e
    · omega
    · have := hM3'.out i e; omega)
  have hM4' : Hid (∀ i, mb4 = some i → w.heap.size ≤ i) := Lib.hid (fun i e => by
    rcases hm with h | ⟨_, b, h, hb⟩
    · exact hM3'.out i (by rw [← h]; exact e)
    · rw [h] at e
      cases e
      have := hS3.size
      omega)
  have hT4 : CTB w4 t mb4 [([3, 119, 119, 119, 2, 101, 120, 0], 0), ([2, 101, 120, 0], 4), ([3, 102, 116, 112, 2, 101, 120, 0], 8), ([3, 87, 87, 87, 2, 101, 120, 0], 16)] := hT4
  have hb4 : w4.ownsRow 0 5 1 (.slice A4 22 c4) 22 (bv [3, 119, 119, 119, 2, 101, 120, 0, 3, 102, 116, 112, 192, 4, 192, 4, 3, 87, 87, 87, 192, 4]) := hb4
  clear ho hm he3 hT3 hb3 hS3 hM3'
  have cv := conv_row hb4
  rw [show mk [3, 119, 119, 119, 2, 101, 120, 0, 3, 102, 116, 112, 192, 4, 192, 4, 3, 87, 87, 87, 192, 4] = ⟨#[3, 119, 119, 119, 2, 101, 120, 0, 3, 102, 116, 112, 192, 4, 192, 4, 3, 87, 87, 87, 192, 4]⟩ from rfl] at cv
  clear hT4 hb4
  go_wp2_with fail
  refine (read_c _ ⟨#[3, 119, 119, 119, 2, 101, 120, 0, 3, 102, 116, 112, 192, 4, 192, 4, 3, 87, 87, 87, 192, 4]⟩ 8 8 ⟨#[3, 102, 116, 112, 2, 101, 120, 0]⟩ 14 0 14 0 he4 (by decide) (by decide) rfl (by kernel_rfl) rfl rfl).mono ?_
  rintro e w5 ⟨rfl, hs⟩
  have he5 := he4.still hs
  have hS5 := hS4.still hs
  clear hs he4 hS4
  go_wp2_with fail
  refine (read_c _ ⟨#[192, 0]⟩ 0 0 ⟨#[]⟩ 0 8 0 8 he5 (by decide) (by decide) rfl (by kernel_rfl) rfl rfl).mono ?_
  rintro e w6 ⟨rfl, hs⟩
  have he6 := he5.still hs
  have hS6 := hS5.still hs
  clear hs he5 hS5
  go_wp2_with fail
  refine (read_c _ ⟨#[64]⟩ 0 0 ⟨#[]⟩ 0 3 0 3 he6 (by decide) (by decide) rfl (by kernel_rfl) rfl rfl).mono ?_
  rintro e w7 ⟨rfl, hs⟩
  have he7 := he6.still hs
  have hS7 := hS6.still hs
  clear hs he6 hS6
  go_wp2_with fail
  refine (read_c _ ⟨#[3, 97]⟩ 0 0 ⟨#[]⟩ 0 4 0 4 he7 (by decide) (by decide) rfl (by kernel_rfl) rfl rfl).mono ?_
  rintro e w8 ⟨rfl, hs⟩
  have he8 := he7.still hs
  have hS8 := hS7.still hs
  clear hs he7 hS7
  go_wp2_with fail
  refine (read_c _ ⟨#[]⟩ 0 0 ⟨#[]⟩ 0 4 0 4 he8 (by decide) (by decide) rfl (by kernel_rfl) rfl rfl).mono ?_
  rintro e w9 ⟨rfl, hs⟩
  have he9 := he8.still hs
  have hS9 := hS8.still hs
  clear hs he8 hS8
  go_wp2_with fail
  refine (read_out _ ⟨#[]⟩ 1 he9 (.inr (by decide))).mono ?_
  rintro e w10 ⟨rfl, hs⟩
  go_wp2_with fail
  go_ret
  exact ⟨rfl, hS9.still hs⟩
end Go.Proofs.YtfhnfjfjmjopeaaDoor
