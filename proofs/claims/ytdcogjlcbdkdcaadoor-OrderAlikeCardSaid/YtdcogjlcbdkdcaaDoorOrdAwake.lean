/-
  Package order: the examples.
-/
import Derived.Test.YtdcogjlcbdkdcaaDoorOrder
namespace Go.Proofs.YtdcogjlcbdkdcaaDoor
open Go.RowKit
set_option linter.unusedVariables false
set_option linter.unusedSimpArgs false

set_option maxRecDepth 1000000 in
set_option maxHeartbeats 6400000 in
theorem order_awake (w : World) (hg : Gains w) : Calls Tryd.prog 9 #[] w fun e w' => e = .returned (.bool true) ∧ Still w w' := by
  go_enter Tryd.func9, Tryd.ntmps9
  go_wp2_with fail
  refine (new_live w (n := 3) hg (lim := 50) (rst := 10) ⟨by omega, by omega, by omega, by omega, by omega, by omega⟩ (by decide)).mono ?_
  rintro e wn ⟨g, gb, rfl, h1⟩
  rw [show List.replicate 3 up1 = [⟨100, 0, 0, 0, false, 0, false⟩, ⟨100, 0, 0, 0, false, 0, false⟩, ⟨100, 0, 0, 0, false, 0, false⟩] by kernel_rfl] at h1
  go_wp2_with fail
  have rA := reads_made wn 23 .u64 [0, 0] 2 rfl
  have hx := h1.still (Still.new wn (.cells #[.int .u64 0, .int .u64 0] 23))
  refine (new_any 0 _ 2 2 [0, 0] _ (rA.more (by simp)) (by simp) (by omega) (by omega) (by omega) (by simp)).mono ?_
  rintro e ht1w ⟨t1, rfl, hgt, ht1, hot⟩
  have ht10 : w.heap.size ≤ t1 := by have := h1.st.size; simp at hgt; omega
  have hy := hx.still hot
  clear hx hot hgt rA h1
  have h1 := hy
  clear hy
  go_wp2_with fail
  refine (order_any h1 ht1 ht10 (by omega) (by decide)).mono ?_
  rintro e wo1 ⟨Aa, cc, rfl, hown, hx, ht1', _⟩
  rw [show ordL (draw 0 [0, 0]) 0 [⟨100, 0, 0, 0, false, 0, false⟩, ⟨100, 0, 0, 0, false, 0, false⟩, ⟨100, 0, 0, 0, false, 0, false⟩] = [1, 2, 0] by kernel_rfl] at hown
  rw [show (mayL [⟨100, 0, 0, 0, false, 0, false⟩, ⟨100, 0, 0, 0, false, 0, false⟩, ⟨100, 0, 0, 0, false, 0, false⟩]).length = 3 by kernel_rfl] at hown ht1' ⊢
  clear h1 ht1
  have h1 := hx
  clear hx
  have hrow : Reads wo1 wo1.heap.size 1 Aa 3 (([1, 2, 0] : List Int).map (.int .i64)) := Reads.of_own hown
  clear hown
  have hr1 := hrow.alloc (Nat.le_refl _) (.cells #[.int .i64 1, .int .i64 2, .int .i64 0] 3)
  have hr2 := reads_made wo1 3 .i64 [1, 2, 0] 3 rfl
  have hx := h1.still (Still.new wo1 (.cells #[.int .i64 1, .int .i64 2, .int .i64 0] 3))
  go_wp2_with fail
  refine (ints_any Aa (some ⟨wo1.heap.size, 0, none⟩) 3 cc 3 3 wo1.heap.size (wo1.heap.size + 1) [1, 2, 0] [1, 2, 0] _ hr1 hr2 (by omega) (by omega)).mono ?_
  rintro e wc ⟨rfl, q, rfl⟩
  have hS0 := ((Still.new wo1 (.cells #[.int .i64 1, .int .i64 2, .int .i64 0] 3)).drewN q)
  
  have hy := hx.still ((Only.refl (fun _ => False) _).drewN q)
  generalize (wo1.alloc (.cells #[.int .i64 1, .int .i64 2, .int .i64 0] 3)).drewN q = wp1 at *
  clear hx hr1 hr2 hrow h1 hS0
  have h1 := hy
  clear hy
  go_wp2_with fail
  refine (dissent_live h1 1 5).mono ?_
  rintro e wx ⟨rfl, hx, _⟩
  rw [show dissentL 50 10 3 1 5 ([⟨100, 0, 0, 0, false, 0, false⟩, ⟨100, 0, 0, 0, false, 0, false⟩, ⟨100, 0, 0, 0, false, 0, false⟩]) = [⟨100, 0, 0, 0, false, 0, false⟩, ⟨90, 0, 1, 0, false, 0, false⟩, ⟨100, 0, 0, 0, false, 0, false⟩] by kernel_rfl] at hx
  clear h1
  have h1 := hx
  clear hx
  rw [show (if nowOk 5 ∧ (0 : Int) ≤ 1 ∧ (1 : Int) < (3 : Nat) then (0 : Int) else 1) = 0 by decide]
  go_wp2_with fail
  have rA := reads_made wx 23 .u64 [0, 0] 2 rfl
  have hx := h1.still (Still.new wx (.cells #[.int .u64 0, .int .u64 0] 23))
  refine (new_any 0 _ 2 2 [0, 0] _ (rA.more (by simp)) (by simp) (by omega) (by omega) (by omega) (by simp)).mono ?_
  rintro e ht2w ⟨t2, rfl, hgt, ht2, hot⟩
  have ht20 : w.heap.size ≤ t2 := by have := h1.st.size; simp at hgt; omega
  have hy := hx.still hot
  clear hx hot hgt rA h1
  have h1 := hy
  clear hy
  go_wp2_with fail
  refine (order_any h1 ht2 ht20 (by omega) (by decide)).mono ?_
  rintro e wo2 ⟨Aa, cc, rfl, hown, hx, ht2', _⟩
  rw [show ordL (draw 0 [0, 0]) 0 [⟨100, 0, 0, 0, false, 0, false⟩, ⟨90, 0, 1, 0, false, 0, false⟩, ⟨100, 0, 0, 0, false, 0, false⟩] = [2, 0, 1] by kernel_rfl] at hown
  rw [show (mayL [⟨100, 0, 0, 0, false, 0, false⟩, ⟨90, 0, 1, 0, false, 0, false⟩, ⟨100, 0, 0, 0, false, 0, false⟩]).length = 3 by kernel_rfl] at hown ht2' ⊢
  clear h1 ht2
  have h1 := hx
  clear hx
  have hrow : Reads wo2 wo2.heap.size 1 Aa 3 (([2, 0, 1] : List Int).map (.int .i64)) := Reads.of_own hown
  clear hown
  have hr1 := hrow.alloc (Nat.le_refl _) (.cells #[.int .i64 2, .int .i64 0, .int .i64 1] 3)
  have hr2 := reads_made wo2 3 .i64 [2, 0, 1] 3 rfl
  have hx := h1.still (Still.new wo2 (.cells #[.int .i64 2, .int .i64 0, .int .i64 1] 3))
  go_wp2_with fail
  refine (ints_any Aa (some ⟨wo2.heap.size, 0, none⟩) 3 cc 3 3 wo2.heap.size (wo2.heap.size + 1) [2, 0, 1] [2, 0, 1] _ hr1 hr2 (by omega) (by omega)).mono ?_
  rintro e wc ⟨rfl, q, rfl⟩
  have hS0 := ((Still.new wo2 (.cells #[.int .i64 2, .int .i64 0, .int .i64 1] 3)).drewN q)
  
  have hy := hx.still ((Only.refl (fun _ => False) _).drewN q)
  generalize (wo2.alloc (.cells #[.int .i64 2, .int .i64 0, .int .i64 1] 3)).drewN q = wp2 at *
  clear hx hr1 hr2 hrow h1 hS0
  have h1 := hy
  clear hy
  go_wp2_with fail
  go_ret
  exact ⟨rfl, h1.st⟩
end Go.Proofs.YtdcogjlcbdkdcaaDoor
