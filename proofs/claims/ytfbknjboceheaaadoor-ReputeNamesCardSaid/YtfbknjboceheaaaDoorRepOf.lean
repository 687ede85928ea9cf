/-
  Package repute: Counts; hustingslaw19.of.
-/
import Derived.Test.YtfbknjboceheaaaDoorRepLive
import Derived.Test.YtfbknjboceheaaaDoorRowW
namespace Go.Proofs.YtfbknjboceheaaaDoor
open Go.RowKit
set_option linter.unusedVariables false
set_option linter.unusedSimpArgs false

def ofA (u : Up) : Array Value := #[.int .i64 u.score, .int .i64 u.ag, .int .i64 u.ds, .int .i64 u.si, .bool u.rests, .bool u.trial, .int .i64 0]
section
variable {w : World} {g b n c : Nat} {lim rst : Int} {us : List Up}

set_option maxRecDepth 1000000 in
set_option maxHeartbeats 6400000 in
theorem counts_in (h : Bk w g b n c lim rst us) (i : Nat) {u : Up} (hu : us[i]? = some u) :
    Calls Tryd.prog 16 #[.pointer (some ⟨g, 0, none⟩), .int .i64 i] w fun e w' => e = .returned (.tuple #[.int .i64 u.ag, .int .i64 u.ds, .int .i64 u.si]) ∧ Still w w' := by
  have hi : i < n := by rw [← h.len]; exact (List.getElem?_eq_some_iff.1 hu).1
  have c0 := h.blk.cell 0
  simp at c0
  obtain ⟨k0, k1, k2, k3, k4, k5, k6⟩ := h.seven hu
  clear k0 k4 k5 k6 hu
  go_enter Tryd.func16, Tryd.ntmps16
  go_wp2_with fail
  refine (is_in h i hi).mono ?_
  rintro e w' ⟨rfl, rfl⟩
  go_wp2_with fail
  have hB := Blk.new w 23 #[.int .i64 u.ag, .int .i64 u.ds, .int .i64 u.si]
  have hs := Still.new w (.cells #[.int .i64 u.ag, .int .i64 u.ds, .int .i64 u.si] 23)
  generalize w.alloc (.cells #[.int .i64 u.ag, .int .i64 u.ds, .int .i64 u.si] 23) = w1 at *
  generalize w.heap.size = β at *
  have x0 := hB.cell 0
  have x1 := hB.cell 1
  have x2 := hB.cell 2
  simp at x0 x1 x2
  go_region_held3 (fun w' => w'.cell? ⟨β, 0, none⟩ = some (.int .i64 u.ag) ∧ w'.cell? ⟨β, 1, none⟩ = some (.int .i64 u.ds) ∧ w'.cell? ⟨β, 2, none⟩ = some (.int .i64 u.si))
    (first | go_keep | exact ⟨x0, x1, x2⟩)
    (fail)
  go_wp2
  go_ret3
  exact ⟨rfl, hs.drew⟩
set_option maxRecDepth 1000000 in
set_option maxHeartbeats 6400000 in
theorem of_in (h : Bk w g b n c lim rst us) (i : Nat) {u : Up} (hu : us[i]? = some u) :
    Calls Tryd.prog 22 #[.pointer (some ⟨g, 0, none⟩), .int .i64 i] w fun e w' => e = .returned (.agg (ofA u)) ∧ Still w w' := by
  have hs0 := Still.new w (.cells #[.int .i64 0, .int .i64 0, .int .i64 0, .int .i64 0, .bool false, .bool false, .int .i64 0] 45)
  have hb0 := Blk.new w 45 #[.int .i64 0, .int .i64 0, .int .i64 0, .int .i64 0, .bool false, .bool false, .int .i64 0]
  have h0 := h.still hs0
  go_enter Tryd.func22, Tryd.ntmps22
  go_wp2_with fail
  refine (counts_in h0 i hu).mono ?_
  rintro e w1 ⟨rfl, hs1⟩
  have h1 := h0.still hs1
  have hb1 := hb0.only hs1 (fun h => h)
  have hs1 := hs0.still hs1
  clear h0 hb0 hs0
  go_wp2_with fail
  refine (score_in h1 i hu).mono ?_
  rintro e w2 ⟨rfl, rfl⟩
  go_wp2_with fail
  refine (rests_in h1 i hu).mono ?_
  rintro e w2 ⟨rfl, rfl⟩
  go_wp2_with fail
  refine (trial_in h1 i hu).mono ?_
  rintro e w2 ⟨rfl, rfl⟩
  go_wp2_with ((refine wpList_store_blk rfl 45 (.tmp 4) (.tmp 27) rfl w.heap.size rfl (ofA u) rfl 45 _ hb1 (by kernel_rfl) rfl (by kernel_rfl) ?_); intro wa hBa hoa)
  (try simp only [Exit.inBlock, Exit.then])
  refine bodyPost_ret (results_cell_row rfl _ _ w.heap.size 45 (ofA u) (0, 0) _ rfl hBa Tryd.underlying45 rfl (by kernel_rfl)) rfl ?_
  exact ⟨rfl, hs1.trans hoa (fun i hi e => by omega)⟩
end
end Go.Proofs.YtfbknjboceheaaaDoor
