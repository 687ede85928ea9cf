/-
  Package lru: Len, Copy, New.
-/
import Derived.Test.YtfbknjboceheaaaLruRow
namespace Go.Proofs.Ytfbknjboceheaaa
open Go.RowKit
set_option linter.unusedVariables false

set_option maxRecDepth 1000000 in
theorem Len_any {w : World} {g n : Nat} {L : List Nat} (hb : Lst w g n L) (hl : LL n L) :
    Calls Try.prog 14 #[.pointer (some ⟨g, 0, none⟩)] w fun e w' => e = .returned (.int .i64 L.length) ∧ Still w w' := by
  go_enter Try.func14, Try.ntmps14
  go_wp2_with fail
  refine (Row_any hb hl).mono ?_
  rintro e w1 ⟨A, c, rfl, hown, hs⟩
  go_wp2_with fail
  go_ret
  exact ⟨rfl, hs⟩

theorem info_list : (Try.prog.info? 35).map (·.size) = some 515 := by kernel_rfl
def zlist : Array Value := (List.replicate 515 (Value.int .i64 0)).toArray
theorem zero_list (w : World) : (zeroValue 35).run Try.prog w = .ok (.agg zlist) w := by kernel_rfl
theorem fc_size (n : Int) (f h : Nat → Nat) : (fcells n f h).size = 515 := by
  unfold fcells
  simp [ring_len]
theorem one_list (n : Int) (f h : Nat → Nat) : (fcells n f h).all (·.oneCell') = true := by
  rw [Array.all_eq_true_iff_forall_mem]
  intro v hv
  simp only [fcells, ring, List.mem_toArray, List.mem_cons, List.mem_append, List.mem_map] at hv
  rcases hv with rfl | ⟨q, _, rfl⟩ | ⟨q, _, rfl⟩ <;> rfl

set_option maxRecDepth 1000000 in
set_option maxHeartbeats 6400000 in
theorem Copy_any {w : World} {g n : Nat} {L : List Nat} (hb : Lst w g n L) :
    Calls Try.prog 18 #[.pointer (some ⟨g, 0, none⟩)] w fun e w' => ∃ g', e = .returned (.pointer (some ⟨g', 0, none⟩)) ∧ w.heap.size ≤ g' ∧ Lst w' g' n L ∧ Still w w' := by
  go_enter Try.func18, Try.ntmps18
  go_wp2_with fail
  obtain ⟨R, hR⟩ : ∃ R, R = fcells (n : Int) (cut n (sc 0 L)) (cut n (pd 0 L)) := ⟨_, rfl⟩
  have hRs : R.size = 515 := by rw [hR]; exact fc_size _ _ _
  have hbR : Blk w g 35 R := by rw [hR]; exact hb
  refine wp_load_row 35 (.tmp 7) rfl g rfl 35 R (0, 0) _ hbR Try.underlying35 rfl (by rw [hRs]; exact info_list) ?_
  have hz := zero_list w
  have hsc : (storeCells ⟨w.heap.size, 0, none⟩ R.toList 0).run Try.prog (w.alloc (.cells zlist 35)) = .ok () (w.alloc (.cells R 35)) :=
    run_storeCells_new w _ zlist R (by rw [hRs]; exact info_list) (by rw [hRs]; rfl) (by rw [hR]; exact one_list _ _ _)
  have HR := Lib.hid hR
  clear hR hb hbR
  go_wp2_with fail
  go_ret
  refine ⟨_, rfl, Nat.le_refl _, ?_, Still.new w _⟩
  have h := Blk.new w 35 R
  have e := HR.out
  rw [e] at h ⊢
  exact h
end Go.Proofs.Ytfbknjboceheaaa
