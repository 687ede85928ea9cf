/-
  OrderNames: the examples.
-/
import Derived.Test.YtdcogjlcbdkdcaaDoorOrdAwake
namespace Go.Proofs.YtdcogjlcbdkdcaaDoor
open Go.RowKit
set_option linter.unusedVariables false
set_option linter.unusedSimpArgs false

set_option maxRecDepth 1000000 in
theorem order_nil1 (w : World) (v : Option Addr) : Calls Tryd.prog 13 #[.pointer none, .pointer v] w fun e w' => e = .returned (.slice none 0 0) ∧ w = w' := by
  go_enter Tryd.func13, Tryd.ntmps13
  go_wp2_with fail
  go_ret
  exact ⟨rfl, rfl⟩
set_option maxRecDepth 1000000 in
theorem order_nil2 (w : World) (g : Nat) : Calls Tryd.prog 13 #[.pointer (some ⟨g, 0, none⟩), .pointer none] w fun e w' => e = .returned (.slice none 0 0) ∧ w = w' := by
  go_enter Tryd.func13, Tryd.ntmps13
  go_wp2_with fail
  go_ret
  exact ⟨rfl, rfl⟩
set_option maxRecDepth 1000000 in
theorem may_fresh {w : World} {g : Nat} (hB : Blk w g 49 #[.slice none 0 0, .int .i64 0, .int .i64 0]) :
    Calls Tryd.prog 24 #[.pointer (some ⟨g, 0, none⟩)] w fun e w' => e = .returned (.slice none 0 0) ∧ w = w' := by
  have c0 := hB.cell 0
  simp at c0
  go_enter Tryd.func24, Tryd.ntmps24
  go_wp2_with fail
  refine wp_loop_rounds 1 ?_
  iterate 1 (rw [rounds_succ]; go_wp2)
  go_ret
  exact ⟨rfl, rfl⟩
set_option maxRecDepth 1000000 in
theorem inssort_none (w : World) : Calls Tryd.prog 58 #[.slice none 0 0, .int .i64 0, .int .i64 0, .func (.func 40) #[] #[]] w fun e w' => e = .returned (.tuple #[]) ∧ w = w' := by
  go_enter Tryd.func58, Tryd.ntmps58
  go_wp2_with fail
  refine wp_loop_rounds 1 ?_
  iterate 1 (rw [rounds_succ]; go_wp2)
  go_end0
  exact ⟨rfl, rfl⟩
set_option maxRecDepth 1000000 in
theorem stable_none (w : World) : Calls Tryd.prog 53 #[.slice none 0 0, .int .i64 0, .func (.func 40) #[] #[]] w fun e w' => e = .returned (.tuple #[]) ∧ w = w' := by
  go_enter Tryd.func53, Tryd.ntmps53
  go_wp2_with fail
  refine wp_loop_rounds 1 ?_
  iterate 1 (rw [rounds_succ]; go_wp2_with fail)
  refine (inssort_none _).mono ?_
  rintro e w1 ⟨rfl, rfl⟩
  go_wp2_with fail
  refine wp_loop_rounds 1 ?_
  iterate 1 (rw [rounds_succ]; go_wp2_with fail)
  go_end0
  exact ⟨rfl, rfl⟩
set_option maxRecDepth 1000000 in
theorem sort_none (w : World) : Calls Tryd.prog 39 #[.slice none 0 0, .func (.func 40) #[] #[]] w fun e w' => e = .returned (.tuple #[]) ∧ w = w' := by
  go_enter Tryd.func39, Tryd.ntmps39
  go_wp2_with fail
  refine (stable_none _).mono ?_
  rintro e w1 ⟨rfl, rfl⟩
  go_wp2_with fail
  go_end0
  exact ⟨rfl, rfl⟩
set_option maxRecDepth 1000000 in
theorem order_fresh {w : World} {g : Nat} (t : Nat) (hB : Blk w g 49 #[.slice none 0 0, .int .i64 0, .int .i64 0]) :
    Calls Tryd.prog 13 #[.pointer (some ⟨g, 0, none⟩), .pointer (some ⟨t, 0, none⟩)] w fun e w' => e = .returned (.slice none 0 0) ∧ w = w' := by
  go_enter Tryd.func13, Tryd.ntmps13
  go_wp2_with fail
  refine (may_fresh hB).mono ?_
  rintro e w1 ⟨rfl, rfl⟩
  go_wp2_with fail
  refine (shuf_zero t 0 (.inl (by omega))).mono ?_
  rintro e w1 ⟨rfl, rfl⟩
  go_wp2_with fail
  refine wp_loop_rounds 1 ?_
  iterate 1 (rw [rounds_succ]; go_wp2_with fail)
  refine (sort_none _).mono ?_
  rintro e w1 ⟨rfl, rfl⟩
  go_wp2_with fail
  refine wp_loop_rounds 1 ?_
  iterate 1 (rw [rounds_succ]; go_wp2_with fail)
  go_ret
  exact ⟨rfl, rfl⟩

set_option maxRecDepth 1000000 in
set_option maxHeartbeats 6400000 in
theorem onames_walk (w : World) (hg : Gains w) : Calls Tryd.prog 4 #[] w fun e w' => e = .returned (.bool true) ∧ Still w w' := by
  go_enter Tryd.func4, Tryd.ntmps4
  go_wp2_with fail
  refine (order_awake _ hg).mono ?_
  rintro e wa ⟨rfl, hsa⟩
  have hg0 := hg.still hsa
  go_wp2_with fail
  refine (new_live wa (n := 1) hg0 (lim := 1) (rst := 1) ⟨by omega, by omega, by omega, by omega, by omega, by omega⟩ (by decide)).mono ?_
  rintro e wn ⟨g, gb, rfl, h1⟩
  rw [show List.replicate 1 up1 = [⟨100, 0, 0, 0, false, 0, false⟩] by kernel_rfl] at h1
  go_wp2_with fail
  have rA := reads_made wn 23 .u64 [5] 1 rfl
  have hx := h1.still (Still.new wn (.cells #[.int .u64 5] 23))
  refine (new_any 0 _ 1 1 [5] _ (rA.more (by simp)) (by simp) (by omega) (by omega) (by omega) (by simp)).mono ?_
  rintro e ht1w ⟨t1, rfl, hgt, ht1, hot⟩
  have ht10 : wa.heap.size ≤ t1 := by have := h1.st.size; simp at hgt; omega
  have hy := hx.still hot
  clear hx hot hgt rA h1
  have h1 := hy
  clear hy
  go_wp2_with fail
  refine (order_any h1 ht1 ht10 (by omega) (by decide)).mono ?_
  rintro e wo1 ⟨Aa, cc, rfl, hown, hx, ht1', _⟩
  rw [show ordL (draw 0 [5]) 0 [⟨100, 0, 0, 0, false, 0, false⟩] = [0] by kernel_rfl] at hown
  rw [show (mayL [⟨100, 0, 0, 0, false, 0, false⟩]).length = 1 by kernel_rfl] at hown ht1' ⊢
  clear h1 ht1
  have h1 := hx
  clear hx
  have hrow : Reads wo1 wo1.heap.size 1 Aa 1 (([0] : List Int).map (.int .i64)) := Reads.of_own hown
  clear hown
  have hr1 := hrow.alloc (Nat.le_refl _) (.cells #[.int .i64 0] 3)
  have hr2 := reads_made wo1 3 .i64 [0] 1 rfl
  have hx := h1.still (Still.new wo1 (.cells #[.int .i64 0] 3))
  go_wp2_with fail
  refine (ints_any Aa (some ⟨wo1.heap.size, 0, none⟩) 1 cc 1 1 wo1.heap.size (wo1.heap.size + 1) [0] [0] _ hr1 hr2 (by omega) (by omega)).mono ?_
  rintro e wc ⟨rfl, q, rfl⟩
  have hS0 := ((Still.new wo1 (.cells #[.int .i64 0] 3)).drewN q)
  have ht2 := ht1'.still hS0
  clear ht1'
  have hy := hx.still ((Only.refl (fun _ => False) _).drewN q)
  generalize (wo1.alloc (.cells #[.int .i64 0] 3)).drewN q = wp1 at *
  clear hx hr1 hr2 hrow h1 hS0
  have h1 := hy
  clear hy
  go_wp2_with fail
  refine (used_any ht2).mono ?_
  rintro e wu ⟨rfl, rfl⟩
  go_wp2_with fail
  refine (order_nil1 _ _).mono ?_
  rintro e wu ⟨rfl, rfl⟩
  go_wp2_with fail
  refine (order_nil2 _ _).mono ?_
  rintro e wu ⟨rfl, rfl⟩
  have hB := Blk.new wp1 49 #[.slice none 0 0, .int .i64 0, .int .i64 0]
  have ht3 := ht2.still (Still.new wp1 (.cells #[.slice none 0 0, .int .i64 0, .int .i64 0] 49))
  have hst := h1.st.alloc (.cells #[.slice none 0 0, .int .i64 0, .int .i64 0] 49)
  clear h1 ht2
  go_wp2_with fail
  refine (order_fresh _ hB).mono ?_
  rintro e wu ⟨rfl, rfl⟩
  go_wp2_with fail
  refine (used_any ht3).mono ?_
  rintro e wu ⟨rfl, rfl⟩
  have hgq := hg0.still hst
  have hsq := hsa.still hst
  generalize wp1.alloc (.cells #[.slice none 0 0, .int .i64 0, .int .i64 0] 49) = wq at *
  clear hB ht3 hst hg0 hsa
  go_wp2_with fail
  refine (new_live wq (n := 3) hgq (lim := 95) (rst := 10) ⟨by omega, by omega, by omega, by omega, by omega, by omega⟩ (by decide)).mono ?_
  rintro e wn ⟨g2, g2b, rfl, h2⟩
  rw [show List.replicate 3 up1 = [⟨100, 0, 0, 0, false, 0, false⟩, ⟨100, 0, 0, 0, false, 0, false⟩, ⟨100, 0, 0, 0, false, 0, false⟩] by kernel_rfl] at h2
  go_wp2_with fail
  refine (dissent_live h2 0 100).mono ?_
  rintro e wx ⟨rfl, hx, _⟩
  rw [show dissentL 95 10 3 0 100 ([⟨100, 0, 0, 0, false, 0, false⟩, ⟨100, 0, 0, 0, false, 0, false⟩, ⟨100, 0, 0, 0, false, 0, false⟩]) = [⟨90, 0, 1, 0, true, 110, false⟩, ⟨100, 0, 0, 0, false, 0, false⟩, ⟨100, 0, 0, 0, false, 0, false⟩] by kernel_rfl] at hx
  clear h2
  have h2 := hx
  clear hx
  rw [show (if nowOk 100 ∧ (0 : Int) ≤ 0 ∧ (0 : Int) < (3 : Nat) then (0 : Int) else 1) = 0 by decide]
  go_wp2_with fail
  refine (rests_in h2.bk 0 (u := ([⟨90, 0, 1, 0, true, 110, false⟩, ⟨100, 0, 0, 0, false, 0, false⟩, ⟨100, 0, 0, 0, false, 0, false⟩] : List Up)[0]) rfl).mono ?_
  rintro e wx ⟨rfl, rfl⟩
  go_wp2_with fail
  have rA := reads_made wx 23 .u64 [1] 1 rfl
  have hx := h2.still (Still.new wx (.cells #[.int .u64 1] 23))
  refine (new_any 0 _ 1 1 [1] _ (rA.more (by simp)) (by simp) (by omega) (by omega) (by omega) (by simp)).mono ?_
  rintro e ht4w ⟨t3, rfl, hgt, ht4, hot⟩
  have ht40 : wq.heap.size ≤ t3 := by have := h2.st.size; simp at hgt; omega
  have hy := hx.still hot
  clear hx hot hgt rA h2
  have h2 := hy
  clear hy
  go_wp2_with fail
  refine (order_any h2 ht4 ht40 (by omega) (by decide)).mono ?_
  rintro e wo2 ⟨Aa, cc, rfl, hown, hx, ht4', _⟩
  rw [show ordL (draw 0 [1]) 0 [⟨90, 0, 1, 0, true, 110, false⟩, ⟨100, 0, 0, 0, false, 0, false⟩, ⟨100, 0, 0, 0, false, 0, false⟩] = [1, 2] by kernel_rfl] at hown
  rw [show (mayL [⟨90, 0, 1, 0, true, 110, false⟩, ⟨100, 0, 0, 0, false, 0, false⟩, ⟨100, 0, 0, 0, false, 0, false⟩]).length = 2 by kernel_rfl] at hown ht4' ⊢
  clear h2 ht4
  have h2 := hx
  clear hx
  have hrow : Reads wo2 wo2.heap.size 1 Aa 2 (([1, 2] : List Int).map (.int .i64)) := Reads.of_own hown
  clear hown
  have hr1 := hrow.alloc (Nat.le_refl _) (.cells #[.int .i64 1, .int .i64 2] 3)
  have hr2 := reads_made wo2 3 .i64 [1, 2] 2 rfl
  have hx := h2.still (Still.new wo2 (.cells #[.int .i64 1, .int .i64 2] 3))
  go_wp2_with fail
  refine (ints_any Aa (some ⟨wo2.heap.size, 0, none⟩) 2 cc 2 2 wo2.heap.size (wo2.heap.size + 1) [1, 2] [1, 2] _ hr1 hr2 (by omega) (by omega)).mono ?_
  rintro e wc ⟨rfl, q, rfl⟩
  have hS0 := ((Still.new wo2 (.cells #[.int .i64 1, .int .i64 2] 3)).drewN q)
  
  have hy := hx.still ((Only.refl (fun _ => False) _).drewN q)
  generalize (wo2.alloc (.cells #[.int .i64 1, .int .i64 2] 3)).drewN q = wp2 at *
  clear hx hr1 hr2 hrow h2 hS0
  have h2 := hy
  clear hy
  go_wp2_with fail
  have rA := reads_made wp2 23 .u64 [0] 1 rfl
  have hx := h2.still (Still.new wp2 (.cells #[.int .u64 0] 23))
  refine (new_any 0 _ 1 1 [0] _ (rA.more (by simp)) (by simp) (by omega) (by omega) (by omega) (by simp)).mono ?_
  rintro e ht5w ⟨t4, rfl, hgt, ht5, hot⟩
  have ht50 : wq.heap.size ≤ t4 := by have := h2.st.size; simp at hgt; omega
  have hy := hx.still hot
  clear hx hot hgt rA h2
  have h2 := hy
  clear hy
  go_wp2_with fail
  refine (order_any h2 ht5 ht50 (by omega) (by decide)).mono ?_
  rintro e wo3 ⟨Aa, cc, rfl, hown, hx, ht5', _⟩
  rw [show ordL (draw 0 [0]) 0 [⟨90, 0, 1, 0, true, 110, false⟩, ⟨100, 0, 0, 0, false, 0, false⟩, ⟨100, 0, 0, 0, false, 0, false⟩] = [2, 1] by kernel_rfl] at hown
  rw [show (mayL [⟨90, 0, 1, 0, true, 110, false⟩, ⟨100, 0, 0, 0, false, 0, false⟩, ⟨100, 0, 0, 0, false, 0, false⟩]).length = 2 by kernel_rfl] at hown ht5' ⊢
  clear h2 ht5
  have h2 := hx
  clear hx
  have hrow : Reads wo3 wo3.heap.size 1 Aa 2 (([2, 1] : List Int).map (.int .i64)) := Reads.of_own hown
  clear hown
  have hr1 := hrow.alloc (Nat.le_refl _) (.cells #[.int .i64 2, .int .i64 1] 3)
  have hr2 := reads_made wo3 3 .i64 [2, 1] 2 rfl
  have hx := h2.still (Still.new wo3 (.cells #[.int .i64 2, .int .i64 1] 3))
  go_wp2_with fail
  refine (ints_any Aa (some ⟨wo3.heap.size, 0, none⟩) 2 cc 2 2 wo3.heap.size (wo3.heap.size + 1) [2, 1] [2, 1] _ hr1 hr2 (by omega) (by omega)).mono ?_
  rintro e wc ⟨rfl, q, rfl⟩
  have hS0 := ((Still.new wo3 (.cells #[.int .i64 2, .int .i64 1] 3)).drewN q)
  
  have hy := hx.still ((Only.refl (fun _ => False) _).drewN q)
  generalize (wo3.alloc (.cells #[.int .i64 2, .int .i64 1] 3)).drewN q = wp3 at *
  clear hx hr1 hr2 hrow h2 hS0
  have h2 := hy
  clear hy
  go_wp2_with fail
  refine (back_live h2 110).mono ?_
  rintro e wb ⟨Aa, cc, rfl, hown, hx, _⟩
  rw [show ([⟨90, 0, 1, 0, true, 110, false⟩, ⟨100, 0, 0, 0, false, 0, false⟩, ⟨100, 0, 0, 0, false, 0, false⟩] : List Up).map (backOne 95 110) = [⟨95, 0, 1, 0, false, 0, true⟩, ⟨100, 0, 0, 0, false, 0, false⟩, ⟨100, 0, 0, 0, false, 0, false⟩] by kernel_rfl] at hx
  clear h2 hown
  have h2 := hx
  clear hx
  go_wp2_with fail
  refine (dissent_live h2 2 110).mono ?_
  rintro e wy ⟨rfl, hx, _⟩
  rw [show dissentL 95 10 3 2 110 ([⟨95, 0, 1, 0, false, 0, true⟩, ⟨100, 0, 0, 0, false, 0, false⟩, ⟨100, 0, 0, 0, false, 0, false⟩]) = [⟨95, 0, 1, 0, false, 0, true⟩, ⟨100, 0, 0, 0, false, 0, false⟩, ⟨90, 0, 1, 0, true, 120, false⟩] by kernel_rfl] at hx
  clear h2
  have h2 := hx
  clear hx
  rw [show (if nowOk 110 ∧ (0 : Int) ≤ 2 ∧ (2 : Int) < (3 : Nat) then (0 : Int) else 1) = 0 by decide]
  go_wp2_with fail
  refine (dissent_live h2 2 110).mono ?_
  rintro e wz ⟨rfl, hx, _⟩
  rw [show dissentL 95 10 3 2 110 ([⟨95, 0, 1, 0, false, 0, true⟩, ⟨100, 0, 0, 0, false, 0, false⟩, ⟨90, 0, 1, 0, true, 120, false⟩]) = [⟨95, 0, 1, 0, false, 0, true⟩, ⟨100, 0, 0, 0, false, 0, false⟩, ⟨80, 0, 2, 0, true, 120, false⟩] by kernel_rfl] at hx
  clear h2
  have h2 := hx
  clear hx
  rw [show (if nowOk 110 ∧ (0 : Int) ≤ 2 ∧ (2 : Int) < (3 : Nat) then (0 : Int) else 1) = 0 by decide]
  go_wp2_with fail
  refine (trial_in h2.bk 0 (u := ([⟨95, 0, 1, 0, false, 0, true⟩, ⟨100, 0, 0, 0, false, 0, false⟩, ⟨80, 0, 2, 0, true, 120, false⟩] : List Up)[0]) rfl).mono ?_
  rintro e wx ⟨rfl, rfl⟩
  go_wp2_with fail
  refine (score_in h2.bk 0 (u := ([⟨95, 0, 1, 0, false, 0, true⟩, ⟨100, 0, 0, 0, false, 0, false⟩, ⟨80, 0, 2, 0, true, 120, false⟩] : List Up)[0]) rfl).mono ?_
  rintro e wx ⟨rfl, rfl⟩
  go_wp2_with fail
  have rA := reads_made wz 23 .u64 [1, 1] 2 rfl
  have hx := h2.still (Still.new wz (.cells #[.int .u64 1, .int .u64 1] 23))
  refine (new_any 0 _ 2 2 [1, 1] _ (rA.more (by simp)) (by simp) (by omega) (by omega) (by omega) (by simp)).mono ?_
  rintro e ht6w ⟨t5, rfl, hgt, ht6, hot⟩
  have ht60 : wq.heap.size ≤ t5 := by have := h2.st.size; simp at hgt; omega
  have hy := hx.still hot
  clear hx hot hgt rA h2
  have h2 := hy
  clear hy
  go_wp2_with fail
  refine (order_any h2 ht6 ht60 (by omega) (by decide)).mono ?_
  rintro e wo4 ⟨Aa, cc, rfl, hown, hx, ht6', _⟩
  rw [show ordL (draw 0 [1, 1]) 0 [⟨95, 0, 1, 0, false, 0, true⟩, ⟨100, 0, 0, 0, false, 0, false⟩, ⟨80, 0, 2, 0, true, 120, false⟩] = [1, 0] by kernel_rfl] at hown
  rw [show (mayL [⟨95, 0, 1, 0, false, 0, true⟩, ⟨100, 0, 0, 0, false, 0, false⟩, ⟨80, 0, 2, 0, true, 120, false⟩]).length = 2 by kernel_rfl] at hown ht6' ⊢
  clear h2 ht6
  have h2 := hx
  clear hx
  have hrow : Reads wo4 wo4.heap.size 1 Aa 2 (([1, 0] : List Int).map (.int .i64)) := Reads.of_own hown
  clear hown
  go_wp2_with fail
  refine (rests_in h2.bk 2 (u := ([⟨95, 0, 1, 0, false, 0, true⟩, ⟨100, 0, 0, 0, false, 0, false⟩, ⟨80, 0, 2, 0, true, 120, false⟩] : List Up)[2]) rfl).mono ?_
  rintro e wx ⟨rfl, rfl⟩
  go_wp2_with fail
  have hr1 := hrow.alloc (Nat.le_refl _) (.cells #[.int .i64 1, .int .i64 0] 3)
  have hr2 := reads_made wo4 3 .i64 [1, 0] 2 rfl
  have hx := h2.still (Still.new wo4 (.cells #[.int .i64 1, .int .i64 0] 3))
  go_wp2_with fail
  refine (ints_any Aa (some ⟨wo4.heap.size, 0, none⟩) 2 cc 2 2 wo4.heap.size (wo4.heap.size + 1) [1, 0] [1, 0] _ hr1 hr2 (by omega) (by omega)).mono ?_
  rintro e wc ⟨rfl, q, rfl⟩
  have hS0 := ((Still.new wo4 (.cells #[.int .i64 1, .int .i64 0] 3)).drewN q)
  
  have hy := hx.still ((Only.refl (fun _ => False) _).drewN q)
  generalize (wo4.alloc (.cells #[.int .i64 1, .int .i64 0] 3)).drewN q = wp4 at *
  clear hx hr1 hr2 hrow h2 hS0
  have h2 := hy
  clear hy
  go_wp2_with fail
  go_ret
  exact ⟨rfl, hsq.still h2.st⟩
end Go.Proofs.YtdcogjlcbdkdcaaDoor
