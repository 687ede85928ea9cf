/-
  Package repute: spares.
-/
import Derived.Test.YtdcogjlcbdkdcaaDoorRepMay
namespace Go.Proofs.YtdcogjlcbdkdcaaDoor
open Go.RowKit
set_option linter.unusedVariables false

section
variable {w : World} {g b n c : Nat} {lim rst : Int} {us : List Up}

set_option maxRecDepth 1000000 in
set_option maxHeartbeats 6400000 in
theorem spares_any (h : Bk w g b n c lim rst us) (hn : n ≤ 9) (i : Nat) {u : Up} (hu : us[i]? = some u) :
    Calls Tryd.prog 56 #[.pointer (some ⟨g, 0, none⟩), .int .i64 i] w fun e w' => e = .returned (.bool (spare lim (mayL us).length n u)) ∧ Still w w' := by
  have hi : i < n := by rw [← h.len]; exact (List.getElem?_eq_some_iff.1 hu).1
  have c0 := h.blk.cell 0
  have c1 := h.blk.cell 1
  simp at c0 c1
  obtain ⟨k0, k1, k2, k3, k4, k5, k6⟩ := h.seven hu
  have hg := h.lt
  have hb := h.blt
  have Hu := Lib.hid hu
  clear hu
  have hM := mayK_le us us.length
  rw [h.len] at hM
  obtain ⟨M, hMe⟩ : ∃ M, M = (mayL us).length := ⟨_, rfl⟩
  have hM9 : M ≤ 9 := by rw [hMe]; unfold mayL; rw [h.len]; omega
  rw [← hMe]
  have HM := Lib.hid hMe
  clear hMe hM
  by_cases h1 : u.score < lim
  · rcases hr : u.rests with _ | _
    · rw [hr] at k4
      have hsp : spare lim M n u = decide ((n : Int) / 2 + 1 ≤ (M : Int) - 1) := by simp [spare, h1, hr]
      rw [hsp]
      obtain ⟨H, hH⟩ : ∃ H : Nat, H = n / 2 := ⟨_, rfl⟩
      have hH2 : (n : Int) / 2 = (H : Int) := by omega
      rw [hH2]
      have y1 : (n : Int).tdiv 2 = (H : Int) := by rw [Int.tdiv_eq_ediv_of_nonneg (by omega)]; exact hH2
      have y2 : IntKind.i64.wrap (H : Int) = (H : Int) := IntWalk.i64_in _ (by omega)
      have y3 : IntKind.i64.wrap ((H : Int) + 1) = (H : Int) + 1 := IntWalk.i64_in _ (by omega)
      have y4 : IntKind.i64.wrap ((M : Int) - 1) = (M : Int) - 1 := IntWalk.i64_in _ (by omega)
      clear hH2 hH hsp hr
      obtain ⟨β, hβ⟩ : ∃ β, β = w.heap.size := ⟨_, rfl⟩
      obtain ⟨W, hW⟩ : ∃ W, W = w.alloc (Obj.cells #[.int .i64 u.score, .int .i64 u.ag, .int .i64 u.ds, .int .i64 u.si, .bool false, .int .i64 u.til, .bool u.trial] 81) := ⟨_, rfl⟩
      have hbW : Blk W β 81 #[.int .i64 u.score, .int .i64 u.ag, .int .i64 u.ds, .int .i64 u.si, .bool false, .int .i64 u.til, .bool u.trial] := by rw [hW]; exact Blk.at_ _ _ _ hβ
      have hkW : Bk W g b n c lim rst us := by rw [hW]; exact h.still (Still.new _ _)
      have hsW : Still w W := by rw [hW]; exact Still.new _ _
      have x0 := hbW.cell 0
      have x4 := hbW.cell 4
      simp at x0 x4
      have d0 := hkW.blk.cell 0
      have d1 := hkW.blk.cell 1
      simp at d0 d1
      have HW := Lib.hid hW
      have Hβ := Lib.hid hβ
      have hkd := hkW.drew
      have hd1 : decide (u.score < lim) = true := decide_eq_true h1
      clear hW hβ
      go_enter Tryd.func56, Tryd.ntmps56
      go_wp2_with fail
      rw [← HW.out, ← Hβ.out]
      go_region_held3 (fun w' => w'.cell? ⟨β, 0, none⟩ = some (.int .i64 u.score) ∧ w'.cell? ⟨β, 4, none⟩ = some (.bool false) ∧ w'.cell? ⟨g, 0, none⟩ = some (.slice (some ⟨b, 0, none⟩) n c) ∧ w'.cell? ⟨g, 1, none⟩ = some (.int .i64 lim))
        (first | go_keep | exact ⟨hs6.cell_some (fun h => h) (show W.drew.cell? _ = _ from x0), hs6.cell_some (fun h => h) (show W.drew.cell? _ = _ from x4), hs6.cell_some (fun h => h) (show W.drew.cell? _ = _ from d0), hs6.cell_some (fun h => h) (show W.drew.cell? _ = _ from d1)⟩ | exact ⟨x0, x4, d0, d1⟩)
        ((go_at_call 24; refine (may_any hkd hn).mono ?_; rintro e w6 ⟨A, cc, he, hown6, hs6⟩; rw [← HM.out] at he; subst he))
      go_wp2
      go_ret
      exact ⟨rfl, hsW.drew.still hs6⟩
    · rw [hr] at k4
      have hsp : spare lim M n u = false := by simp [spare, hr]
      rw [hsp]
      have hd1 : decide (u.score < lim) = true := decide_eq_true h1
      clear hsp hr
      go_enter Tryd.func56, Tryd.ntmps56
      go_wp2_with fail
      go_quiet (fail)
      go_wp2
      go_ret
      exact ⟨rfl, (Still.new _ _).drewN _⟩
  · have hsp : spare lim M n u = false := by simp [spare, h1]
    rw [hsp]
    have hd1 : decide (u.score < lim) = false := decide_eq_false h1
    clear hsp
    go_enter Tryd.func56, Tryd.ntmps56
    go_wp2_with fail
    go_quiet (fail)
    go_wp2
    go_ret
    exact ⟨rfl, (Still.new _ _).drewN _⟩
end
end Go.Proofs.YtdcogjlcbdkdcaaDoor
