/-
  Package repute: record, by each deed.
-/
import Derived.Test.YtdcogjlcbdkdcaaDoorRepSpare
import Derived.Test.YtdcogjlcbdkdcaaDoorTake
namespace Go.Proofs.YtdcogjlcbdkdcaaDoor
open Go.RowKit
set_option linter.unusedVariables false
set_option linter.unusedSimpArgs false

theorem get_set {us : List Up} {i : Nat} {u : Up} (h : us[i]? = some u) (u' : Up) : (us.set i u')[i]? = some u' := by
  have := (List.getElem?_eq_some_iff.1 h).1
  simp [this]
theorem set_set (us : List Up) (i : Nat) (u u' : Up) : (us.set i u).set i u' = us.set i u' := List.set_set ..
theorem cl_range (x : Int) : 0 ≤ cl x ∧ cl x ≤ 100 := by
  unfold cl
  split <;> split <;> omega
theorem mn_range {x : Int} (h : 0 ≤ x) : 0 ≤ mn x ∧ mn x ≤ 65535 := by
  unfold mn
  split <;> omega
theorem top_eq (lim : Int) : (if (100 : Int) < lim + 10 then (100 : Int) else lim + 10) = top lim := rfl

theorem mayL_set (us : List Up) (i : Nat) {u : Up} (hu : us[i]? = some u) (v : Up) (h : v.rests = u.rests) : mayL (us.set i v) = mayL us := by
  unfold mayL mayK
  rw [List.length_set]
  congr 1
  refine List.filter_congr fun k hk => ?_
  by_cases e : i = k
  · subst e
    rw [get_set hu v, hu]
    simp [h]
  · rw [List.getElem?_set_ne e]
section
variable {w : World} {g b n c : Nat} {lim rst : Int} {us : List Up}

set_option maxRecDepth 1000000 in
set_option maxHeartbeats 6400000 in
theorem rec_agree (h : Bk w g b n c lim rst us) (ho : BOK n lim rst) (hg : Gains w) (i : Nat) {u : Up} (hu : us[i]? = some u) (huo : UOK u) (now : Int) (hgb : 0 ≠ b) :
    Calls Tryd.prog 46 #[.pointer (some ⟨g, 0, none⟩), .int .i64 i, .int .i64 0, .int .i64 now, .int .i64 0] w fun e w' => e = .returned (.tuple #[]) ∧ Bk w' g b n c lim rst (us.set i (agreeUp lim u)) ∧ Only (· = b) w w' := by
  have hi : i < n := by rw [← h.len]; exact (List.getElem?_eq_some_iff.1 hu).1
  have c0 := h.blk.cell 0
  simp at c0
  obtain ⟨k0, k1, k2, k3, k4, k5, k6⟩ := h.seven hu
  have f1 := h.own.frozenAt (i * 7 + 1)
  have a0 := huo.a0
  have a1 := huo.a1
  have s0 := huo.s0
  have s1 := huo.s1
  have l1 := ho.l1
  have l2 := ho.l2
  have r1 := ho.r1
  have r2 := ho.r2
  have n9 := ho.n9
  have hmn : (if (65535 : Int) < u.ag + 1 then (65535 : Int) else u.ag + 1) = mn u.ag := rfl
  have y1 : IntKind.i64.wrap (u.ag + 1) = u.ag + 1 := IntWalk.i64_in _ (by omega)
  have hne := h.ne
  go_enter Tryd.func46, Tryd.ntmps46
  go_wp2_with fail
  go_still_tail 13, (by kernel_rfl)
  change wpList _ _ _ _ _ w.drew
  have hk1 : Bk ((w.setCell ⟨b, i * 7 + 1, none⟩ (.int .i64 (mn u.ag))).drew) g b n c lim rst (us.set i { u with ag := mn u.ag }) := (h.set_ (u' := { u with ag := mn u.ag }) (v := .int .i64 (mn u.ag)) hu 1 (by omega) rfl).drew
  have ho1 : Only (· = b) w ((w.setCell ⟨b, i * 7 + 1, none⟩ (.int .i64 (mn u.ag))).drew) := ((Only.refl (· = b) _).setCell (p := ⟨b, i * 7 + 1, none⟩) (.inl rfl) _).drew
  have hu1 := get_set hu { u with ag := mn u.ag }
  go_wp2_with fail
  generalize (w.setCell ⟨b, i * 7 + 1, none⟩ (.int .i64 (mn u.ag))).drew = w1 at *
  have hg1 := hg.only ho1 hgb
  obtain ⟨k0, k1, k2, k3, k4, k5, k6⟩ := hk1.seven hu1
  have gg := hg1.g0
  have f1 := hk1.own.frozenAt (i * 7)
  have y2 : IntKind.i64.wrap (u.score + 1) = u.score + 1 := IntWalk.i64_in _ (by omega)
  have hcl : (if (100 : Int) < (if u.score + 1 < (0 : Int) then (0 : Int) else u.score + 1) then (100 : Int) else (if u.score + 1 < (0 : Int) then (0 : Int) else u.score + 1)) = cl (u.score + 1) := rfl
  clear hmn y1
  go_still_tail 13, (by kernel_rfl)
  change wpList _ _ _ _ _ w1.drew
  have hk2 : Bk ((w1.setCell ⟨b, i * 7, none⟩ (.int .i64 (cl (u.score + 1)))).drew) g b n c lim rst ((us.set i { u with ag := mn u.ag }).set i { { u with ag := mn u.ag } with score := cl (u.score + 1) }) := (hk1.set_ (u' := { { u with ag := mn u.ag } with score := cl (u.score + 1) }) (v := .int .i64 (cl (u.score + 1))) hu1 0 (by omega) rfl).drew
  rw [set_set] at hk2
  have ho2 : Only (· = b) w ((w1.setCell ⟨b, i * 7, none⟩ (.int .i64 (cl (u.score + 1)))).drew) := (ho1.setCell (p := ⟨b, i * 7, none⟩) (.inl rfl) _).drew
  have hu2 := get_set hu { { u with ag := mn u.ag } with score := cl (u.score + 1) }
  go_wp2_with fail
  generalize (w1.setCell ⟨b, i * 7, none⟩ (.int .i64 (cl (u.score + 1)))).drew = w2 at *
  obtain ⟨v, hv⟩ : ∃ v : Up, v = { { u with ag := mn u.ag } with score := cl (u.score + 1) } := ⟨_, rfl⟩
  rw [← hv] at hk2 hu2
  have hvs : v.score = cl (u.score + 1) := by rw [hv]
  have hvr : v.rests = u.rests := by rw [hv]
  have hup : agreeUp lim u = endTrial lim v := by rw [hv]; rfl
  have Hup := Lib.hid hup
  have hcr := cl_range (u.score + 1)
  have s0' : 0 ≤ v.score := by omega
  have s1' : v.score ≤ 100 := by omega
  have htop := top_eq lim
  have y3 : IntKind.i64.wrap (lim + 10) = lim + 10 := IntWalk.i64_in _ (by omega)
  clear hcl y2 hv hvs hg1 gg hk1 hu1 ho1 c0 huo hcr k0 k1 k2 k3 k4 k5 k6 f1
  clear hup
  rcases ht : v.trial with _ | _
  · have he : endTrial lim v = { v with trial := false } := by unfold endTrial; simp [ht]
    have He := Lib.hid he
    clear he
    obtain ⟨k0, k1, k2, k3, k4, k5, k6⟩ := hk2.drew.seven hu2
    rw [ht] at k6; have d1 : w2.drew.cell? ⟨g, 1, none⟩ = some (.int .i64 lim) := by have := hk2.drew.blk.cell 1; simpa using this
    have f6 := hk2.drew.own.frozenAt (i * 7 + 6)
    have hgb' : b ≠ g := hk2.ne
    clear k1 k2 k3 k4 k5 ht
    refine wp_region_held_drew (S := fun w' => w'.cell? ⟨b, i * 7, none⟩ = some (.int .i64 v.score) ∧ w'.cell? ⟨g, 1, none⟩ = some (.int .i64 lim)) (by kernel_rfl) ⟨k0, d1⟩ (fun hS => ?_)
    (refine take_p (i := 0) (v := ?_) rfl (by kernel_rfl) (by kernel_rfl) (by kernel_rfl) (fun _ _ _ h => h) (Or.inl ⟨by rfl, ?_⟩) hS ?_; rotate_left; (focus (intro w0 hSw; go_simp; try with_reducible rfl)); try simp only [Act.put, List.setIfInBounds_toArray, List.set_cons_zero, List.set_cons_succ])
    (refine take_p (i := 1) (v := ?_) rfl (by kernel_rfl) (by kernel_rfl) (by kernel_rfl) (fun _ _ _ h => h) (Or.inl ⟨by rfl, ?_⟩) hS ?_; rotate_left; (focus (intro w0 hSw; go_simp; try with_reducible rfl)); try simp only [Act.put, List.setIfInBounds_toArray, List.set_cons_zero, List.set_cons_succ])
    (refine take_p (i := 2) (v := ?_) rfl (by kernel_rfl) (by kernel_rfl) (by kernel_rfl) (fun _ _ _ h => h) (Or.inl ⟨by rfl, ?_⟩) hS ?_; rotate_left; (focus (intro w0 hSw; go_simp; try with_reducible rfl)); try simp only [Act.put, List.setIfInBounds_toArray, List.set_cons_zero, List.set_cons_succ])
    (refine take_p (i := 3) (v := ?_) rfl (by kernel_rfl) (by kernel_rfl) (by kernel_rfl) (fun _ _ _ h => h) (Or.inl ⟨by rfl, ?_⟩) hS ?_; rotate_left; (focus (intro w0 hSw; go_simp; try with_reducible rfl)); try simp only [Act.put, List.setIfInBounds_toArray, List.set_cons_zero, List.set_cons_succ])
    refine wpAnyH_ready (rs := [4]) (by kernel_rfl) (by simp) ?_
    refine cons_p rfl (fun K hK => ?_) AllReadyH.nil
    go_simp
    refine hK.out _ _ hS (fun hHeld => ?_)
    clear hK K hHeld
    try simp only [Act.put, List.setIfInBounds_toArray, List.set_cons_zero, List.set_cons_succ]
    (refine take_p (i := 5) (v := ?_) rfl (by kernel_rfl) (by kernel_rfl) (by kernel_rfl) (fun _ _ _ h => h) (Or.inl ⟨by rfl, ?_⟩) hS ?_; rotate_left; (focus (intro w0 hSw; go_simp; try with_reducible rfl)); try simp only [Act.put, List.setIfInBounds_toArray, List.set_cons_zero, List.set_cons_succ])
    (refine take_p (i := 6) (v := undef) rfl (by kernel_rfl) (by kernel_rfl) (by kernel_rfl) (fun _ _ _ h => h) (Or.inr ⟨by rfl, rfl⟩) hS ?_; try simp only [Act.put, List.setIfInBounds_toArray, List.set_cons_zero, List.set_cons_succ])
    (refine take_p (i := 7) (v := undef) rfl (by kernel_rfl) (by kernel_rfl) (by kernel_rfl) (fun _ _ _ h => h) (Or.inr ⟨by rfl, rfl⟩) hS ?_; try simp only [Act.put, List.setIfInBounds_toArray, List.set_cons_zero, List.set_cons_succ])
    (refine take_p (i := 8) (v := undef) rfl (by kernel_rfl) (by kernel_rfl) (by kernel_rfl) (fun _ _ _ h => h) (Or.inr ⟨by rfl, rfl⟩) hS ?_; try simp only [Act.put, List.setIfInBounds_toArray, List.set_cons_zero, List.set_cons_succ])
    (refine take_p (i := 9) (v := undef) rfl (by kernel_rfl) (by kernel_rfl) (by kernel_rfl) (fun _ _ _ h => h) (Or.inr ⟨by rfl, rfl⟩) hS ?_; try simp only [Act.put, List.setIfInBounds_toArray, List.set_cons_zero, List.set_cons_succ])
    (refine take_p (i := 10) (v := undef) rfl (by kernel_rfl) (by kernel_rfl) (by kernel_rfl) (fun _ _ _ h => h) (Or.inr ⟨by rfl, rfl⟩) hS ?_; try simp only [Act.put, List.setIfInBounds_toArray, List.set_cons_zero, List.set_cons_succ])
    (refine take_p (i := 11) (v := undef) rfl (by kernel_rfl) (by kernel_rfl) (by kernel_rfl) (fun _ _ _ h => h) (Or.inr ⟨by rfl, rfl⟩) hS ?_; try simp only [Act.put, List.setIfInBounds_toArray, List.set_cons_zero, List.set_cons_succ])
    (refine take_p (i := 12) (v := undef) rfl (by kernel_rfl) (by kernel_rfl) (by kernel_rfl) (fun _ _ _ h => h) (Or.inr ⟨by rfl, rfl⟩) hS ?_; try simp only [Act.put, List.setIfInBounds_toArray, List.set_cons_zero, List.set_cons_succ])
    (refine take_p (i := 13) (v := undef) rfl (by kernel_rfl) (by kernel_rfl) (by kernel_rfl) (fun _ _ _ h => h) (Or.inr ⟨by rfl, rfl⟩) hS ?_; try simp only [Act.put, List.setIfInBounds_toArray, List.set_cons_zero, List.set_cons_succ])
    (refine take_p (i := 14) (v := undef) rfl (by kernel_rfl) (by kernel_rfl) (by kernel_rfl) (fun _ _ _ h => h) (Or.inr ⟨by rfl, rfl⟩) hS ?_; try simp only [Act.put, List.setIfInBounds_toArray, List.set_cons_zero, List.set_cons_succ])
    (refine take_p (i := 15) (v := undef) rfl (by kernel_rfl) (by kernel_rfl) (by kernel_rfl) (fun _ _ _ h => h) (Or.inr ⟨by rfl, rfl⟩) hS ?_; try simp only [Act.put, List.setIfInBounds_toArray, List.set_cons_zero, List.set_cons_succ])
    (refine take_p (i := 16) (v := undef) rfl (by kernel_rfl) (by kernel_rfl) (by kernel_rfl) (fun _ _ _ h => h) (Or.inr ⟨by rfl, rfl⟩) hS ?_; try simp only [Act.put, List.setIfInBounds_toArray, List.set_cons_zero, List.set_cons_succ])
    (refine take_p (i := 17) (v := ?_) rfl (by kernel_rfl) (by kernel_rfl) (by kernel_rfl) (fun _ _ _ h => h) (Or.inl ⟨by rfl, ?_⟩) hS ?_; rotate_left; (focus (intro w0 hSw; go_simp; try with_reducible rfl)); try simp only [Act.put, List.setIfInBounds_toArray, List.set_cons_zero, List.set_cons_succ])
    (refine take_p (i := 18) (v := ?_) rfl (by kernel_rfl) (by kernel_rfl) (by kernel_rfl) (fun _ _ _ h => h) (Or.inl ⟨by rfl, ?_⟩) hS ?_; rotate_left; (focus (intro w0 hSw; go_simp; try with_reducible rfl)); try simp only [Act.put, List.setIfInBounds_toArray, List.set_cons_zero, List.set_cons_succ])
    (refine take_p (i := 19) (v := ?_) rfl (by kernel_rfl) (by kernel_rfl) (by kernel_rfl) (fun _ _ _ h => h) (Or.inl ⟨by rfl, ?_⟩) hS ?_; rotate_left; (focus (intro w0 hSw; go_simp; try with_reducible rfl)); try simp only [Act.put, List.setIfInBounds_toArray, List.set_cons_zero, List.set_cons_succ])
    refine wpAnyH_ready (rs := [20]) (by kernel_rfl) (by simp) ?_
    refine cons_p rfl (fun K hK => ?_) AllReadyH.nil
    go_simp
    refine hK.out _ _ ⟨(World.cell?_setCell_other _ _ _ _ (fun e => by injection e; omega)).trans k0, (World.cell?_setCell_other _ _ _ _ (fun e => by injection e; omega)).trans d1⟩ (fun hHeld => ?_)
    clear hK K hHeld
    refine wpAnyH_done (by kernel_rfl) ?_ _
    go_wp2_with fail
    go_end0
    have hk3 := hk2.drew.set_ (u' := { v with trial := false }) (v := .bool (false)) hu2 6 (by omega) rfl
    rw [set_set] at hk3
    rw [Hup.out, He.out]
    exact ⟨rfl, hk3, ho2.drew.setCell (p := ⟨b, i * 7 + 6, none⟩) (.inl rfl) _⟩
  · have he : endTrial lim v = { v with trial := decide (v.score < top lim) } := by unfold endTrial; simp [ht]
    have He := Lib.hid he
    clear he
    obtain ⟨k0, k1, k2, k3, k4, k5, k6⟩ := hk2.drew.seven hu2
    rw [ht] at k6; have d1 : w2.drew.cell? ⟨g, 1, none⟩ = some (.int .i64 lim) := by have := hk2.drew.blk.cell 1; simpa using this
    have f6 := hk2.drew.own.frozenAt (i * 7 + 6)
    have hgb' : b ≠ g := hk2.ne
    clear k1 k2 k3 k4 k5 ht
    refine wp_region_held_drew (S := fun w' => w'.cell? ⟨b, i * 7, none⟩ = some (.int .i64 v.score) ∧ w'.cell? ⟨g, 1, none⟩ = some (.int .i64 lim)) (by kernel_rfl) ⟨k0, d1⟩ (fun hS => ?_)
    (refine take_p (i := 0) (v := ?_) rfl (by kernel_rfl) (by kernel_rfl) (by kernel_rfl) (fun _ _ _ h => h) (Or.inl ⟨by rfl, ?_⟩) hS ?_; rotate_left; (focus (intro w0 hSw; go_simp; try with_reducible rfl)); try simp only [Act.put, List.setIfInBounds_toArray, List.set_cons_zero, List.set_cons_succ])
    (refine take_p (i := 1) (v := ?_) rfl (by kernel_rfl) (by kernel_rfl) (by kernel_rfl) (fun _ _ _ h => h) (Or.inl ⟨by rfl, ?_⟩) hS ?_; rotate_left; (focus (intro w0 hSw; go_simp; try with_reducible rfl)); try simp only [Act.put, List.setIfInBounds_toArray, List.set_cons_zero, List.set_cons_succ])
    (refine take_p (i := 2) (v := ?_) rfl (by kernel_rfl) (by kernel_rfl) (by kernel_rfl) (fun _ _ _ h => h) (Or.inl ⟨by rfl, ?_⟩) hS ?_; rotate_left; (focus (intro w0 hSw; go_simp; try with_reducible rfl)); try simp only [Act.put, List.setIfInBounds_toArray, List.set_cons_zero, List.set_cons_succ])
    (refine take_p (i := 3) (v := ?_) rfl (by kernel_rfl) (by kernel_rfl) (by kernel_rfl) (fun _ _ _ h => h) (Or.inl ⟨by rfl, ?_⟩) hS ?_; rotate_left; (focus (intro w0 hSw; go_simp; try with_reducible rfl)); try simp only [Act.put, List.setIfInBounds_toArray, List.set_cons_zero, List.set_cons_succ])
    refine wpAnyH_ready (rs := [4]) (by kernel_rfl) (by simp) ?_
    refine cons_p rfl (fun K hK => ?_) AllReadyH.nil
    go_simp
    refine hK.out _ _ hS (fun hHeld => ?_)
    clear hK K hHeld
    try simp only [Act.put, List.setIfInBounds_toArray, List.set_cons_zero, List.set_cons_succ]
    (refine take_p (i := 5) (v := ?_) rfl (by kernel_rfl) (by kernel_rfl) (by kernel_rfl) (fun _ _ _ h => h) (Or.inl ⟨by rfl, ?_⟩) hS ?_; rotate_left; (focus (intro w0 hSw; go_simp; try with_reducible rfl)); try simp only [Act.put, List.setIfInBounds_toArray, List.set_cons_zero, List.set_cons_succ])
    (refine take_p (i := 6) (v := ?_) rfl (by kernel_rfl) (by kernel_rfl) (by kernel_rfl) (fun _ _ _ h => h) (Or.inl ⟨by rfl, ?_⟩) hS ?_; rotate_left; (focus (intro w0 hSw; obtain ⟨s1_, s2_⟩ := hSw; go_simp; try with_reducible rfl)); try simp only [Act.put, List.setIfInBounds_toArray, List.set_cons_zero, List.set_cons_succ])
    (refine take_p (i := 7) (v := ?_) rfl (by kernel_rfl) (by kernel_rfl) (by kernel_rfl) (fun _ _ _ h => h) (Or.inl ⟨by rfl, ?_⟩) hS ?_; rotate_left; (focus (intro w0 hSw; obtain ⟨s1_, s2_⟩ := hSw; go_simp; try with_reducible rfl)); try simp only [Act.put, List.setIfInBounds_toArray, List.set_cons_zero, List.set_cons_succ])
    (refine take_p (i := 8) (v := ?_) rfl (by kernel_rfl) (by kernel_rfl) (by kernel_rfl) (fun _ _ _ h => h) (Or.inl ⟨by rfl, ?_⟩) hS ?_; rotate_left; (focus (intro w0 hSw; obtain ⟨s1_, s2_⟩ := hSw; go_simp; try with_reducible rfl)); try simp only [Act.put, List.setIfInBounds_toArray, List.set_cons_zero, List.set_cons_succ])
    (refine take_p (i := 9) (v := ?_) rfl (by kernel_rfl) (by kernel_rfl) (by kernel_rfl) (fun _ _ _ h => h) (Or.inl ⟨by rfl, ?_⟩) hS ?_; rotate_left; (focus (intro w0 hSw; obtain ⟨s1_, s2_⟩ := hSw; go_simp; try with_reducible rfl)); try simp only [Act.put, List.setIfInBounds_toArray, List.set_cons_zero, List.set_cons_succ])
    (refine take_p (i := 10) (v := ?_) rfl (by kernel_rfl) (by kernel_rfl) (by kernel_rfl) (fun _ _ _ h => h) (Or.inl ⟨by rfl, ?_⟩) hS ?_; rotate_left; (focus (intro w0 hSw; obtain ⟨s1_, s2_⟩ := hSw; go_simp; try with_reducible rfl)); try simp only [Act.put, List.setIfInBounds_toArray, List.set_cons_zero, List.set_cons_succ])
    (refine take_p (i := 11) (v := ?_) rfl (by kernel_rfl) (by kernel_rfl) (by kernel_rfl) (fun _ _ _ h => h) (Or.inl ⟨by rfl, ?_⟩) hS ?_; rotate_left; (focus (intro w0 hSw; obtain ⟨s1_, s2_⟩ := hSw; go_simp; try with_reducible rfl)); try simp only [Act.put, List.setIfInBounds_toArray, List.set_cons_zero, List.set_cons_succ])
    (refine take_p (i := 12) (v := ?_) rfl (by kernel_rfl) (by kernel_rfl) (by kernel_rfl) (fun _ _ _ h => h) (Or.inl ⟨by rfl, ?_⟩) hS ?_; rotate_left; (focus (intro w0 hSw; obtain ⟨s1_, s2_⟩ := hSw; go_simp; try with_reducible rfl)); try simp only [Act.put, List.setIfInBounds_toArray, List.set_cons_zero, List.set_cons_succ])
    (refine take_p (i := 13) (v := ?_) rfl (by kernel_rfl) (by kernel_rfl) (by kernel_rfl) (fun _ _ _ h => h) (Or.inl ⟨by rfl, ?_⟩) hS ?_; rotate_left; (focus (intro w0 hSw; obtain ⟨s1_, s2_⟩ := hSw; go_simp; try with_reducible rfl)); try simp only [Act.put, List.setIfInBounds_toArray, List.set_cons_zero, List.set_cons_succ])
    (refine take_p (i := 14) (v := ?_) rfl (by kernel_rfl) (by kernel_rfl) (by kernel_rfl) (fun _ _ _ h => h) (Or.inl ⟨by rfl, ?_⟩) hS ?_; rotate_left; (focus (intro w0 hSw; obtain ⟨s1_, s2_⟩ := hSw; go_simp; try with_reducible rfl)); try simp only [Act.put, List.setIfInBounds_toArray, List.set_cons_zero, List.set_cons_succ])
    (refine take_p (i := 15) (v := ?_) rfl (by kernel_rfl) (by kernel_rfl) (by kernel_rfl) (fun _ _ _ h => h) (Or.inl ⟨by rfl, ?_⟩) hS ?_; rotate_left; (focus (intro w0 hSw; obtain ⟨s1_, s2_⟩ := hSw; go_simp; try with_reducible rfl)); try simp only [Act.put, List.setIfInBounds_toArray, List.set_cons_zero, List.set_cons_succ])
    (refine take_p (i := 16) (v := ?_) rfl (by kernel_rfl) (by kernel_rfl) (by kernel_rfl) (fun _ _ _ h => h) (Or.inl ⟨by rfl, ?_⟩) hS ?_; rotate_left; (focus (intro w0 hSw; obtain ⟨s1_, s2_⟩ := hSw; go_simp; try with_reducible rfl)); try simp only [Act.put, List.setIfInBounds_toArray, List.set_cons_zero, List.set_cons_succ])
    (refine take_p (i := 17) (v := ?_) rfl (by kernel_rfl) (by kernel_rfl) (by kernel_rfl) (fun _ _ _ h => h) (Or.inl ⟨by rfl, ?_⟩) hS ?_; rotate_left; (focus (intro w0 hSw; go_simp; try with_reducible rfl)); try simp only [Act.put, List.setIfInBounds_toArray, List.set_cons_zero, List.set_cons_succ])
    (refine take_p (i := 18) (v := ?_) rfl (by kernel_rfl) (by kernel_rfl) (by kernel_rfl) (fun _ _ _ h => h) (Or.inl ⟨by rfl, ?_⟩) hS ?_; rotate_left; (focus (intro w0 hSw; go_simp; try with_reducible rfl)); try simp only [Act.put, List.setIfInBounds_toArray, List.set_cons_zero, List.set_cons_succ])
    (refine take_p (i := 19) (v := ?_) rfl (by kernel_rfl) (by kernel_rfl) (by kernel_rfl) (fun _ _ _ h => h) (Or.inl ⟨by rfl, ?_⟩) hS ?_; rotate_left; (focus (intro w0 hSw; go_simp; try with_reducible rfl)); try simp only [Act.put, List.setIfInBounds_toArray, List.set_cons_zero, List.set_cons_succ])
    refine wpAnyH_ready (rs := [20]) (by kernel_rfl) (by simp) ?_
    refine cons_p rfl (fun K hK => ?_) AllReadyH.nil
    go_simp
    refine hK.out _ _ ⟨(World.cell?_setCell_other _ _ _ _ (fun e => by injection e; omega)).trans k0, (World.cell?_setCell_other _ _ _ _ (fun e => by injection e; omega)).trans d1⟩ (fun hHeld => ?_)
    clear hK K hHeld
    refine wpAnyH_done (by kernel_rfl) ?_ _
    go_wp2_with fail
    go_end0
    have hk3 := hk2.drew.set_ (u' := { v with trial := decide (v.score < top lim) }) (v := .bool (decide (v.score < top lim))) hu2 6 (by omega) rfl
    rw [set_set] at hk3
    rw [Hup.out, He.out]
    exact ⟨rfl, hk3, ho2.drew.setCell (p := ⟨b, i * 7 + 6, none⟩) (.inl rfl) _⟩
set_option maxRecDepth 1000000 in
set_option maxHeartbeats 6400000 in
theorem rec_silent (h : Bk w g b n c lim rst us) (ho : BOK n lim rst) (hg : Gains w) (i : Nat) {u : Up} (hu : us[i]? = some u) (huo : UOK u) (now : Int) (hgb : 0 ≠ b) :
    Calls Tryd.prog 46 #[.pointer (some ⟨g, 0, none⟩), .int .i64 i, .int .i64 2, .int .i64 now, .int .i64 0] w fun e w' => e = .returned (.tuple #[]) ∧ Bk w' g b n c lim rst (us.set i (silentUp lim u)) ∧ Only (· = b) w w' := by
  have hi : i < n := by rw [← h.len]; exact (List.getElem?_eq_some_iff.1 hu).1
  have c0 := h.blk.cell 0
  simp at c0
  obtain ⟨k0, k1, k2, k3, k4, k5, k6⟩ := h.seven hu
  have f1 := h.own.frozenAt (i * 7 + 3)
  have a0 := huo.i0
  have a1 := huo.i1
  have s0 := huo.s0
  have s1 := huo.s1
  have l1 := ho.l1
  have l2 := ho.l2
  have r1 := ho.r1
  have r2 := ho.r2
  have n9 := ho.n9
  have hmn : (if (65535 : Int) < u.si + 1 then (65535 : Int) else u.si + 1) = mn u.si := rfl
  have y1 : IntKind.i64.wrap (u.si + 1) = u.si + 1 := IntWalk.i64_in _ (by omega)
  have hne := h.ne
  go_enter Tryd.func46, Tryd.ntmps46
  go_wp2_with fail
  go_still_tail 13, (by kernel_rfl)
  change wpList _ _ _ _ _ w.drew
  have hk1 : Bk ((w.setCell ⟨b, i * 7 + 3, none⟩ (.int .i64 (mn u.si))).drew) g b n c lim rst (us.set i { u with si := mn u.si }) := (h.set_ (u' := { u with si := mn u.si }) (v := .int .i64 (mn u.si)) hu 3 (by omega) rfl).drew
  have ho1 : Only (· = b) w ((w.setCell ⟨b, i * 7 + 3, none⟩ (.int .i64 (mn u.si))).drew) := ((Only.refl (· = b) _).setCell (p := ⟨b, i * 7 + 3, none⟩) (.inl rfl) _).drew
  have hu1 := get_set hu { u with si := mn u.si }
  go_wp2_with fail
  generalize (w.setCell ⟨b, i * 7 + 3, none⟩ (.int .i64 (mn u.si))).drew = w1 at *
  have hg1 := hg.only ho1 hgb
  obtain ⟨k0, k1, k2, k3, k4, k5, k6⟩ := hk1.seven hu1
  have gg := hg1.g2
  have f1 := hk1.own.frozenAt (i * 7)
  have y2 : IntKind.i64.wrap (u.score + -2) = u.score + -2 := IntWalk.i64_in _ (by omega)
  have hcl : (if (100 : Int) < (if u.score + -2 < (0 : Int) then (0 : Int) else u.score + -2) then (100 : Int) else (if u.score + -2 < (0 : Int) then (0 : Int) else u.score + -2)) = cl (u.score + -2) := rfl
  clear hmn y1
  go_still_tail 13, (by kernel_rfl)
  change wpList _ _ _ _ _ w1.drew
  have hk2 : Bk ((w1.setCell ⟨b, i * 7, none⟩ (.int .i64 (cl (u.score + -2)))).drew) g b n c lim rst ((us.set i { u with si := mn u.si }).set i { { u with si := mn u.si } with score := cl (u.score + -2) }) := (hk1.set_ (u' := { { u with si := mn u.si } with score := cl (u.score + -2) }) (v := .int .i64 (cl (u.score + -2))) hu1 0 (by omega) rfl).drew
  rw [set_set] at hk2
  have ho2 : Only (· = b) w ((w1.setCell ⟨b, i * 7, none⟩ (.int .i64 (cl (u.score + -2)))).drew) := (ho1.setCell (p := ⟨b, i * 7, none⟩) (.inl rfl) _).drew
  have hu2 := get_set hu { { u with si := mn u.si } with score := cl (u.score + -2) }
  go_wp2_with fail
  all_goals
    generalize (w1.setCell ⟨b, i * 7, none⟩ (.int .i64 (cl (u.score + -2)))).drew = w2 at *
    obtain ⟨v, hv⟩ : ∃ v : Up, v = { { u with si := mn u.si } with score := cl (u.score + -2) } := ⟨_, rfl⟩
    rw [← hv] at hk2 hu2
    have hvs : v.score = cl (u.score + -2) := by rw [hv]
    have hvr : v.rests = u.rests := by rw [hv]
    have hup : silentUp lim u = endTrial lim v := by rw [hv]; rfl
    have Hup := Lib.hid hup
    have hcr := cl_range (u.score + -2)
    have s0' : 0 ≤ v.score := by omega
    have s1' : v.score ≤ 100 := by omega
    have htop := top_eq lim
    have y3 : IntKind.i64.wrap (lim + 10) = lim + 10 := IntWalk.i64_in _ (by omega)
    clear hcl y2 hv hvs hg1 gg hk1 hu1 ho1 c0 huo hcr k0 k1 k2 k3 k4 k5 k6 f1
    clear hup
    rcases ht : v.trial with _ | _
    · have he : endTrial lim v = { v with trial := false } := by unfold endTrial; simp [ht]
      have He := Lib.hid he
      clear he
      obtain ⟨k0, k1, k2, k3, k4, k5, k6⟩ := hk2.drew.seven hu2
      rw [ht] at k6; have d1 : w2.drew.cell? ⟨g, 1, none⟩ = some (.int .i64 lim) := by have := hk2.drew.blk.cell 1; simpa using this
      have f6 := hk2.drew.own.frozenAt (i * 7 + 6)
      have hgb' : b ≠ g := hk2.ne
      clear k1 k2 k3 k4 k5 ht
      refine wp_region_held_drew (S := fun w' => w'.cell? ⟨b, i * 7, none⟩ = some (.int .i64 v.score) ∧ w'.cell? ⟨g, 1, none⟩ = some (.int .i64 lim)) (by kernel_rfl) ⟨k0, d1⟩ (fun hS => ?_)
      (refine take_p (i := 0) (v := ?_) rfl (by kernel_rfl) (by kernel_rfl) (by kernel_rfl) (fun _ _ _ h => h) (Or.inl ⟨by rfl, ?_⟩) hS ?_; rotate_left; (focus (intro w0 hSw; go_simp; try with_reducible rfl)); try simp only [Act.put, List.setIfInBounds_toArray, List.set_cons_zero, List.set_cons_succ])
      (refine take_p (i := 1) (v := ?_) rfl (by kernel_rfl) (by kernel_rfl) (by kernel_rfl) (fun _ _ _ h => h) (Or.inl ⟨by rfl, ?_⟩) hS ?_; rotate_left; (focus (intro w0 hSw; go_simp; try with_reducible rfl)); try simp only [Act.put, List.setIfInBounds_toArray, List.set_cons_zero, List.set_cons_succ])
      (refine take_p (i := 2) (v := ?_) rfl (by kernel_rfl) (by kernel_rfl) (by kernel_rfl) (fun _ _ _ h => h) (Or.inl ⟨by rfl, ?_⟩) hS ?_; rotate_left; (focus (intro w0 hSw; go_simp; try with_reducible rfl)); try simp only [Act.put, List.setIfInBounds_toArray, List.set_cons_zero, List.set_cons_succ])
      (refine take_p (i := 3) (v := ?_) rfl (by kernel_rfl) (by kernel_rfl) (by kernel_rfl) (fun _ _ _ h => h) (Or.inl ⟨by rfl, ?_⟩) hS ?_; rotate_left; (focus (intro w0 hSw; go_simp; try with_reducible rfl)); try simp only [Act.put, List.setIfInBounds_toArray, List.set_cons_zero, List.set_cons_succ])
      refine wpAnyH_ready (rs := [4]) (by kernel_rfl) (by simp) ?_
      refine cons_p rfl (fun K hK => ?_) AllReadyH.nil
      go_simp
      refine hK.out _ _ hS (fun hHeld => ?_)
      clear hK K hHeld
      try simp only [Act.put, List.setIfInBounds_toArray, List.set_cons_zero, List.set_cons_succ]
      (refine take_p (i := 5) (v := ?_) rfl (by kernel_rfl) (by kernel_rfl) (by kernel_rfl) (fun _ _ _ h => h) (Or.inl ⟨by rfl, ?_⟩) hS ?_; rotate_left; (focus (intro w0 hSw; go_simp; try with_reducible rfl)); try simp only [Act.put, List.setIfInBounds_toArray, List.set_cons_zero, List.set_cons_succ])
      (refine take_p (i := 6) (v := undef) rfl (by kernel_rfl) (by kernel_rfl) (by kernel_rfl) (fun _ _ _ h => h) (Or.inr ⟨by rfl, rfl⟩) hS ?_; try simp only [Act.put, List.setIfInBounds_toArray, List.set_cons_zero, List.set_cons_succ])
      (refine take_p (i := 7) (v := undef) rfl (by kernel_rfl) (by kernel_rfl) (by kernel_rfl) (fun _ _ _ h => h) (Or.inr ⟨by rfl, rfl⟩) hS ?_; try simp only [Act.put, List.setIfInBounds_toArray, List.set_cons_zero, List.set_cons_succ])
      (refine take_p (i := 8) (v := undef) rfl (by kernel_rfl) (by kernel_rfl) (by kernel_rfl) (fun _ _ _ h => h) (Or.inr ⟨by rfl, rfl⟩) hS ?_; try simp only [Act.put, List.setIfInBounds_toArray, List.set_cons_zero, List.set_cons_succ])
      (refine take_p (i := 9) (v := undef) rfl (by kernel_rfl) (by kernel_rfl) (by kernel_rfl) (fun _ _ _ h => h) (Or.inr ⟨by rfl, rfl⟩) hS ?_; try simp only [Act.put, List.setIfInBounds_toArray, List.set_cons_zero, List.set_cons_succ])
      (refine take_p (i := 10) (v := undef) rfl (by kernel_rfl) (by kernel_rfl) (by kernel_rfl) (fun _ _ _ h => h) (Or.inr ⟨by rfl, rfl⟩) hS ?_; try simp only [Act.put, List.setIfInBounds_toArray, List.set_cons_zero, List.set_cons_succ])
      (refine take_p (i := 11) (v := undef) rfl (by kernel_rfl) (by kernel_rfl) (by kernel_rfl) (fun _ _ _ h => h) (Or.inr ⟨by rfl, rfl⟩) hS ?_; try simp only [Act.put, List.setIfInBounds_toArray, List.set_cons_zero, List.set_cons_succ])
      (refine take_p (i := 12) (v := undef) rfl (by kernel_rfl) (by kernel_rfl) (by kernel_rfl) (fun _ _ _ h => h) (Or.inr ⟨by rfl, rfl⟩) hS ?_; try simp only [Act.put, List.setIfInBounds_toArray, List.set_cons_zero, List.set_cons_succ])
      (refine take_p (i := 13) (v := undef) rfl (by kernel_rfl) (by kernel_rfl) (by kernel_rfl) (fun _ _ _ h => h) (Or.inr ⟨by rfl, rfl⟩) hS ?_; try simp only [Act.put, List.setIfInBounds_toArray, List.set_cons_zero, List.set_cons_succ])
      (refine take_p (i := 14) (v := undef) rfl (by kernel_rfl) (by kernel_rfl) (by kernel_rfl) (fun _ _ _ h => h) (Or.inr ⟨by rfl, rfl⟩) hS ?_; try simp only [Act.put, List.setIfInBounds_toArray, List.set_cons_zero, List.set_cons_succ])
      (refine take_p (i := 15) (v := undef) rfl (by kernel_rfl) (by kernel_rfl) (by kernel_rfl) (fun _ _ _ h => h) (Or.inr ⟨by rfl, rfl⟩) hS ?_; try simp only [Act.put, List.setIfInBounds_toArray, List.set_cons_zero, List.set_cons_succ])
      (refine take_p (i := 16) (v := undef) rfl (by kernel_rfl) (by kernel_rfl) (by kernel_rfl) (fun _ _ _ h => h) (Or.inr ⟨by rfl, rfl⟩) hS ?_; try simp only [Act.put, List.setIfInBounds_toArray, List.set_cons_zero, List.set_cons_succ])
      (refine take_p (i := 17) (v := ?_) rfl (by kernel_rfl) (by kernel_rfl) (by kernel_rfl) (fun _ _ _ h => h) (Or.inl ⟨by rfl, ?_⟩) hS ?_; rotate_left; (focus (intro w0 hSw; go_simp; try with_reducible rfl)); try simp only [Act.put, List.setIfInBounds_toArray, List.set_cons_zero, List.set_cons_succ])
      (refine take_p (i := 18) (v := ?_) rfl (by kernel_rfl) (by kernel_rfl) (by kernel_rfl) (fun _ _ _ h => h) (Or.inl ⟨by rfl, ?_⟩) hS ?_; rotate_left; (focus (intro w0 hSw; go_simp; try with_reducible rfl)); try simp only [Act.put, List.setIfInBounds_toArray, List.set_cons_zero, List.set_cons_succ])
      (refine take_p (i := 19) (v := ?_) rfl (by kernel_rfl) (by kernel_rfl) (by kernel_rfl) (fun _ _ _ h => h) (Or.inl ⟨by rfl, ?_⟩) hS ?_; rotate_left; (focus (intro w0 hSw; go_simp; try with_reducible rfl)); try simp only [Act.put, List.setIfInBounds_toArray, List.set_cons_zero, List.set_cons_succ])
      refine wpAnyH_ready (rs := [20]) (by kernel_rfl) (by simp) ?_
      refine cons_p rfl (fun K hK => ?_) AllReadyH.nil
      go_simp
      refine hK.out _ _ ⟨(World.cell?_setCell_other _ _ _ _ (fun e => by injection e; omega)).trans k0, (World.cell?_setCell_other _ _ _ _ (fun e => by injection e; omega)).trans d1⟩ (fun hHeld => ?_)
      clear hK K hHeld
      refine wpAnyH_done (by kernel_rfl) ?_ _
      go_wp2_with fail
      go_end0
      have hk3 := hk2.drew.set_ (u' := { v with trial := false }) (v := .bool (false)) hu2 6 (by omega) rfl
      rw [set_set] at hk3
      rw [Hup.out, He.out]
      exact ⟨rfl, hk3, ho2.drew.setCell (p := ⟨b, i * 7 + 6, none⟩) (.inl rfl) _⟩
    · have he : endTrial lim v = { v with trial := decide (v.score < top lim) } := by unfold endTrial; simp [ht]
      have He := Lib.hid he
      clear he
      obtain ⟨k0, k1, k2, k3, k4, k5, k6⟩ := hk2.drew.seven hu2
      rw [ht] at k6; have d1 : w2.drew.cell? ⟨g, 1, none⟩ = some (.int .i64 lim) := by have := hk2.drew.blk.cell 1; simpa using this
      have f6 := hk2.drew.own.frozenAt (i * 7 + 6)
      have hgb' : b ≠ g := hk2.ne
      clear k1 k2 k3 k4 k5 ht
      refine wp_region_held_drew (S := fun w' => w'.cell? ⟨b, i * 7, none⟩ = some (.int .i64 v.score) ∧ w'.cell? ⟨g, 1, none⟩ = some (.int .i64 lim)) (by kernel_rfl) ⟨k0, d1⟩ (fun hS => ?_)
      (refine take_p (i := 0) (v := ?_) rfl (by kernel_rfl) (by kernel_rfl) (by kernel_rfl) (fun _ _ _ h => h) (Or.inl ⟨by rfl, ?_⟩) hS ?_; rotate_left; (focus (intro w0 hSw; go_simp; try with_reducible rfl)); try simp only [Act.put, List.setIfInBounds_toArray, List.set_cons_zero, List.set_cons_succ])
      (refine take_p (i := 1) (v := ?_) rfl (by kernel_rfl) (by kernel_rfl) (by kernel_rfl) (fun _ _ _ h => h) (Or.inl ⟨by rfl, ?_⟩) hS ?_; rotate_left; (focus (intro w0 hSw; go_simp; try with_reducible rfl)); try simp only [Act.put, List.setIfInBounds_toArray, List.set_cons_zero, List.set_cons_succ])
      (refine take_p (i := 2) (v := ?_) rfl (by kernel_rfl) (by kernel_rfl) (by kernel_rfl) (fun _ _ _ h => h) (Or.inl ⟨by rfl, ?_⟩) hS ?_; rotate_left; (focus (intro w0 hSw; go_simp; try with_reducible rfl)); try simp only [Act.put, List.setIfInBounds_toArray, List.set_cons_zero, List.set_cons_succ])
      (refine take_p (i := 3) (v := ?_) rfl (by kernel_rfl) (by kernel_rfl) (by kernel_rfl) (fun _ _ _ h => h) (Or.inl ⟨by rfl, ?_⟩) hS ?_; rotate_left; (focus (intro w0 hSw; go_simp; try with_reducible rfl)); try simp only [Act.put, List.setIfInBounds_toArray, List.set_cons_zero, List.set_cons_succ])
      refine wpAnyH_ready (rs := [4]) (by kernel_rfl) (by simp) ?_
      refine cons_p rfl (fun K hK => ?_) AllReadyH.nil
      go_simp
      refine hK.out _ _ hS (fun hHeld => ?_)
      clear hK K hHeld
      try simp only [Act.put, List.setIfInBounds_toArray, List.set_cons_zero, List.set_cons_succ]
      (refine take_p (i := 5) (v := ?_) rfl (by kernel_rfl) (by kernel_rfl) (by kernel_rfl) (fun _ _ _ h => h) (Or.inl ⟨by rfl, ?_⟩) hS ?_; rotate_left; (focus (intro w0 hSw; go_simp; try with_reducible rfl)); try simp only [Act.put, List.setIfInBounds_toArray, List.set_cons_zero, List.set_cons_succ])
      (refine take_p (i := 6) (v := ?_) rfl (by kernel_rfl) (by kernel_rfl) (by kernel_rfl) (fun _ _ _ h => h) (Or.inl ⟨by rfl, ?_⟩) hS ?_; rotate_left; (focus (intro w0 hSw; obtain ⟨s1_, s2_⟩ := hSw; go_simp; try with_reducible rfl)); try simp only [Act.put, List.setIfInBounds_toArray, List.set_cons_zero, List.set_cons_succ])
      (refine take_p (i := 7) (v := ?_) rfl (by kernel_rfl) (by kernel_rfl) (by kernel_rfl) (fun _ _ _ h => h) (Or.inl ⟨by rfl, ?_⟩) hS ?_; rotate_left; (focus (intro w0 hSw; obtain ⟨s1_, s2_⟩ := hSw; go_simp; try with_reducible rfl)); try simp only [Act.put, List.setIfInBounds_toArray, List.set_cons_zero, List.set_cons_succ])
      (refine take_p (i := 8) (v := ?_) rfl (by kernel_rfl) (by kernel_rfl) (by kernel_rfl) (fun _ _ _ h => h) (Or.inl ⟨by rfl, ?_⟩) hS ?_; rotate_left; (focus (intro w0 hSw; obtain ⟨s1_, s2_⟩ := hSw; go_simp; try with_reducible rfl)); try simp only [Act.put, List.setIfInBounds_toArray, List.set_cons_zero, List.set_cons_succ])
      (refine take_p (i := 9) (v := ?_) rfl (by kernel_rfl) (by kernel_rfl) (by kernel_rfl) (fun _ _ _ h => h) (Or.inl ⟨by rfl, ?_⟩) hS ?_; rotate_left; (focus (intro w0 hSw; obtain ⟨s1_, s2_⟩ := hSw; go_simp; try with_reducible rfl)); try simp only [Act.put, List.setIfInBounds_toArray, List.set_cons_zero, List.set_cons_succ])
      (refine take_p (i := 10) (v := ?_) rfl (by kernel_rfl) (by kernel_rfl) (by kernel_rfl) (fun _ _ _ h => h) (Or.inl ⟨by rfl, ?_⟩) hS ?_; rotate_left; (focus (intro w0 hSw; obtain ⟨s1_, s2_⟩ := hSw; go_simp; try with_reducible rfl)); try simp only [Act.put, List.setIfInBounds_toArray, List.set_cons_zero, List.set_cons_succ])
      (refine take_p (i := 11) (v := ?_) rfl (by kernel_rfl) (by kernel_rfl) (by kernel_rfl) (fun _ _ _ h => h) (Or.inl ⟨by rfl, ?_⟩) hS ?_; rotate_left; (focus (intro w0 hSw; obtain ⟨s1_, s2_⟩ := hSw; go_simp; try with_reducible rfl)); try simp only [Act.put, List.setIfInBounds_toArray, List.set_cons_zero, List.set_cons_succ])
      (refine take_p (i := 12) (v := ?_) rfl (by kernel_rfl) (by kernel_rfl) (by kernel_rfl) (fun _ _ _ h => h) (Or.inl ⟨by rfl, ?_⟩) hS ?_; rotate_left; (focus (intro w0 hSw; obtain ⟨s1_, s2_⟩ := hSw; go_simp; try with_reducible rfl)); try simp only [Act.put, List.setIfInBounds_toArray, List.set_cons_zero, List.set_cons_succ])
      (refine take_p (i := 13) (v := ?_) rfl (by kernel_rfl) (by kernel_rfl) (by kernel_rfl) (fun _ _ _ h => h) (Or.inl ⟨by rfl, ?_⟩) hS ?_; rotate_left; (focus (intro w0 hSw; obtain ⟨s1_, s2_⟩ := hSw; go_simp; try with_reducible rfl)); try simp only [Act.put, List.setIfInBounds_toArray, List.set_cons_zero, List.set_cons_succ])
      (refine take_p (i := 14) (v := ?_) rfl (by kernel_rfl) (by kernel_rfl) (by kernel_rfl) (fun _ _ _ h => h) (Or.inl ⟨by rfl, ?_⟩) hS ?_; rotate_left; (focus (intro w0 hSw; obtain ⟨s1_, s2_⟩ := hSw; go_simp; try with_reducible rfl)); try simp only [Act.put, List.setIfInBounds_toArray, List.set_cons_zero, List.set_cons_succ])
      (refine take_p (i := 15) (v := ?_) rfl (by kernel_rfl) (by kernel_rfl) (by kernel_rfl) (fun _ _ _ h => h) (Or.inl ⟨by rfl, ?_⟩) hS ?_; rotate_left; (focus (intro w0 hSw; obtain ⟨s1_, s2_⟩ := hSw; go_simp; try with_reducible rfl)); try simp only [Act.put, List.setIfInBounds_toArray, List.set_cons_zero, List.set_cons_succ])
      (refine take_p (i := 16) (v := ?_) rfl (by kernel_rfl) (by kernel_rfl) (by kernel_rfl) (fun _ _ _ h => h) (Or.inl ⟨by rfl, ?_⟩) hS ?_; rotate_left; (focus (intro w0 hSw; obtain ⟨s1_, s2_⟩ := hSw; go_simp; try with_reducible rfl)); try simp only [Act.put, List.setIfInBounds_toArray, List.set_cons_zero, List.set_cons_succ])
      (refine take_p (i := 17) (v := ?_) rfl (by kernel_rfl) (by kernel_rfl) (by kernel_rfl) (fun _ _ _ h => h) (Or.inl ⟨by rfl, ?_⟩) hS ?_; rotate_left; (focus (intro w0 hSw; go_simp; try with_reducible rfl)); try simp only [Act.put, List.setIfInBounds_toArray, List.set_cons_zero, List.set_cons_succ])
      (refine take_p (i := 18) (v := ?_) rfl (by kernel_rfl) (by kernel_rfl) (by kernel_rfl) (fun _ _ _ h => h) (Or.inl ⟨by rfl, ?_⟩) hS ?_; rotate_left; (focus (intro w0 hSw; go_simp; try with_reducible rfl)); try simp only [Act.put, List.setIfInBounds_toArray, List.set_cons_zero, List.set_cons_succ])
      (refine take_p (i := 19) (v := ?_) rfl (by kernel_rfl) (by kernel_rfl) (by kernel_rfl) (fun _ _ _ h => h) (Or.inl ⟨by rfl, ?_⟩) hS ?_; rotate_left; (focus (intro w0 hSw; go_simp; try with_reducible rfl)); try simp only [Act.put, List.setIfInBounds_toArray, List.set_cons_zero, List.set_cons_succ])
      refine wpAnyH_ready (rs := [20]) (by kernel_rfl) (by simp) ?_
      refine cons_p rfl (fun K hK => ?_) AllReadyH.nil
      go_simp
      refine hK.out _ _ ⟨(World.cell?_setCell_other _ _ _ _ (fun e => by injection e; omega)).trans k0, (World.cell?_setCell_other _ _ _ _ (fun e => by injection e; omega)).trans d1⟩ (fun hHeld => ?_)
      clear hK K hHeld
      refine wpAnyH_done (by kernel_rfl) ?_ _
      go_wp2_with fail
      go_end0
      have hk3 := hk2.drew.set_ (u' := { v with trial := decide (v.score < top lim) }) (v := .bool (decide (v.score < top lim))) hu2 6 (by omega) rfl
      rw [set_set] at hk3
      rw [Hup.out, He.out]
      exact ⟨rfl, hk3, ho2.drew.setCell (p := ⟨b, i * 7 + 6, none⟩) (.inl rfl) _⟩
set_option maxRecDepth 1000000 in
set_option maxHeartbeats 6400000 in
theorem rec_rest (h : Bk w g b n c lim rst us) (ho : BOK n lim rst) (hg : Gains w) (i : Nat) {u : Up} (hu : us[i]? = some u) (huo : UOK u) (now : Int) (hgb : 0 ≠ b) (hsp : spare lim (mayL us).length n (hitUp u) = true) (hn0 : 0 ≤ now) (hnow : now ≤ 1099511627776) :
    Calls Tryd.prog 46 #[.pointer (some ⟨g, 0, none⟩), .int .i64 i, .int .i64 1, .int .i64 now, .int .i64 0] w fun e w' => e = .returned (.tuple #[]) ∧ Bk w' g b n c lim rst (us.set i ({ hitUp u with rests := true, til := now + rst, trial := false })) ∧ Only (· = b) w w' := by
  have hi : i < n := by rw [← h.len]; exact (List.getElem?_eq_some_iff.1 hu).1
  have c0 := h.blk.cell 0
  simp at c0
  obtain ⟨k0, k1, k2, k3, k4, k5, k6⟩ := h.seven hu
  have f1 := h.own.frozenAt (i * 7 + 2)
  have a0 := huo.d0
  have a1 := huo.d1
  have s0 := huo.s0
  have s1 := huo.s1
  have l1 := ho.l1
  have l2 := ho.l2
  have r1 := ho.r1
  have r2 := ho.r2
  have n9 := ho.n9
  have hmn : (if (65535 : Int) < u.ds + 1 then (65535 : Int) else u.ds + 1) = mn u.ds := rfl
  have y1 : IntKind.i64.wrap (u.ds + 1) = u.ds + 1 := IntWalk.i64_in _ (by omega)
  have hne := h.ne
  go_enter Tryd.func46, Tryd.ntmps46
  go_wp2_with fail
  go_still_tail 13, (by kernel_rfl)
  change wpList _ _ _ _ _ w.drew
  have hk1 : Bk ((w.setCell ⟨b, i * 7 + 2, none⟩ (.int .i64 (mn u.ds))).drew) g b n c lim rst (us.set i { u with ds := mn u.ds }) := (h.set_ (u' := { u with ds := mn u.ds }) (v := .int .i64 (mn u.ds)) hu 2 (by omega) rfl).drew
  have ho1 : Only (· = b) w ((w.setCell ⟨b, i * 7 + 2, none⟩ (.int .i64 (mn u.ds))).drew) := ((Only.refl (· = b) _).setCell (p := ⟨b, i * 7 + 2, none⟩) (.inl rfl) _).drew
  have hu1 := get_set hu { u with ds := mn u.ds }
  go_wp2_with fail
  generalize (w.setCell ⟨b, i * 7 + 2, none⟩ (.int .i64 (mn u.ds))).drew = w1 at *
  have hg1 := hg.only ho1 hgb
  obtain ⟨k0, k1, k2, k3, k4, k5, k6⟩ := hk1.seven hu1
  have gg := hg1.g1
  have f1 := hk1.own.frozenAt (i * 7)
  have y2 : IntKind.i64.wrap (u.score + -10) = u.score + -10 := IntWalk.i64_in _ (by omega)
  have hcl : (if (100 : Int) < (if u.score + -10 < (0 : Int) then (0 : Int) else u.score + -10) then (100 : Int) else (if u.score + -10 < (0 : Int) then (0 : Int) else u.score + -10)) = cl (u.score + -10) := rfl
  clear hmn y1
  go_still_tail 13, (by kernel_rfl)
  change wpList _ _ _ _ _ w1.drew
  have hk2 : Bk ((w1.setCell ⟨b, i * 7, none⟩ (.int .i64 (cl (u.score + -10)))).drew) g b n c lim rst ((us.set i { u with ds := mn u.ds }).set i { { u with ds := mn u.ds } with score := cl (u.score + -10) }) := (hk1.set_ (u' := { { u with ds := mn u.ds } with score := cl (u.score + -10) }) (v := .int .i64 (cl (u.score + -10))) hu1 0 (by omega) rfl).drew
  rw [set_set] at hk2
  have ho2 : Only (· = b) w ((w1.setCell ⟨b, i * 7, none⟩ (.int .i64 (cl (u.score + -10)))).drew) := (ho1.setCell (p := ⟨b, i * 7, none⟩) (.inl rfl) _).drew
  have hu2 := get_set hu { { u with ds := mn u.ds } with score := cl (u.score + -10) }
  go_wp2_with fail
  all_goals
    generalize (w1.setCell ⟨b, i * 7, none⟩ (.int .i64 (cl (u.score + -10)))).drew = w2 at *
    obtain ⟨v, hv⟩ : ∃ v : Up, v = { { u with ds := mn u.ds } with score := cl (u.score + -10) } := ⟨_, rfl⟩
    rw [← hv] at hk2 hu2
    have hvs : v.score = cl (u.score + -10) := by rw [hv]
    have hvr : v.rests = u.rests := by rw [hv]
    have hup : hitUp u = v := by rw [hv]; rfl
    have Hup := Lib.hid hup
    have hcr := cl_range (u.score + -10)
    have s0' : 0 ≤ v.score := by omega
    have s1' : v.score ≤ 100 := by omega
    have htop := top_eq lim
    have y3 : IntKind.i64.wrap (lim + 10) = lim + 10 := IntWalk.i64_in _ (by omega)
    clear hcl y2 hv hvs hg1 gg hk1 hu1 ho1 c0 huo hcr k0 k1 k2 k3 k4 k5 k6 f1
    have hml : mayL (us.set i v) = mayL us := mayL_set us i hu v hvr
    have hq : spare lim (mayL (us.set i v)).length n v = true := by rw [hml, ← hup]; exact hsp
    have hsa := spares_any hk2 n9 i hu2
    rw [hq] at hsa
    have Hsa := Lib.hid hsa
    clear hsa hq hml hsp hup
    refine (Hsa.out).mono ?_
    rintro e w3 ⟨rfl, hs3⟩
    have hk2 := hk2.still hs3
    have ho2 := ho2.still hs3
    clear hs3 Hsa
    obtain ⟨k0, k1, k2, k3, k4, k5, k6⟩ := hk2.seven hu2
    have c2 : w3.cell? ⟨g, 2, none⟩ = some (.int .i64 rst) := by have := hk2.blk.cell 2; simpa using this
    have f4 := hk2.own.frozenAt (i * 7 + 4)
    have f5 := hk2.own.frozenAt (i * 7 + 5)
    have f6 := hk2.own.frozenAt (i * 7 + 6)
    have y4 : IntKind.i64.wrap (now + rst) = now + rst := IntWalk.i64_in _ (by omega)
    have e1 := hk2.set_ (u' := { v with rests := true }) (v := .bool true) hu2 4 (by omega) rfl
    have e2 := e1.set_ (u' := { v with rests := true, til := now + rst }) (v := .int .i64 (now + rst)) (get_set hu2 _) 5 (by omega) rfl
    have e3 := e2.set_ (u' := { v with rests := true, til := now + rst, trial := false }) (v := .bool false) (get_set (get_set hu2 _) _) 6 (by omega) rfl
    simp only [set_set] at e3
    have e4 := ((ho2.setCell (p := ⟨b, i * 7 + 4, none⟩) (.inl rfl) (.bool true)).setCell (p := ⟨b, i * 7 + 5, none⟩) (.inl rfl) (.int .i64 (now + rst))).setCell (p := ⟨b, i * 7 + 6, none⟩) (.inl rfl) (.bool false)
    clear e1 e2
    go_wp2_with fail
    generalize ((w3.setCell ⟨b, i * 7 + 4, none⟩ (.bool true)).setCell ⟨b, i * 7 + 5, none⟩ (.int .i64 (now + rst))).setCell ⟨b, i * 7 + 6, none⟩ (.bool false) = w4 at *
    obtain ⟨x, hx⟩ : ∃ x : Up, x = { v with rests := true, til := now + rst, trial := false } := ⟨_, rfl⟩
    rw [← hx] at e3
    have hu3 := get_set hu x
    have hxt : x.trial = false := by rw [hx]
    have hxx : { x with trial := false } = x := by rw [hx]
    have Hx := Lib.hid hx
    have Hxx := Lib.hid hxx
    clear hx k0 k1 k2 k3 k4 k5 k6 f4 f5 f6 y4 c2 hk2 hu2 hxx ho2
    obtain ⟨k0, k1, k2, k3, k4, k5, k6⟩ := e3.drew.seven hu3
    rw [hxt] at k6; have d1 : w4.drew.cell? ⟨g, 1, none⟩ = some (.int .i64 lim) := by have := e3.drew.blk.cell 1; simpa using this
    have f6 := e3.drew.own.frozenAt (i * 7 + 6)
    have hgb' : b ≠ g := e3.ne
    clear k1 k2 k3 k4 k5
    refine wp_region_held_drew (S := fun w' => w'.cell? ⟨b, i * 7, none⟩ = some (.int .i64 x.score) ∧ w'.cell? ⟨g, 1, none⟩ = some (.int .i64 lim)) (by kernel_rfl) ⟨k0, d1⟩ (fun hS => ?_)
    (refine take_p (i := 0) (v := ?_) rfl (by kernel_rfl) (by kernel_rfl) (by kernel_rfl) (fun _ _ _ h => h) (Or.inl ⟨by rfl, ?_⟩) hS ?_; rotate_left; (focus (intro w0 hSw; go_simp; try with_reducible rfl)); try simp only [Act.put, List.setIfInBounds_toArray, List.set_cons_zero, List.set_cons_succ])
    (refine take_p (i := 1) (v := ?_) rfl (by kernel_rfl) (by kernel_rfl) (by kernel_rfl) (fun _ _ _ h => h) (Or.inl ⟨by rfl, ?_⟩) hS ?_; rotate_left; (focus (intro w0 hSw; go_simp; try with_reducible rfl)); try simp only [Act.put, List.setIfInBounds_toArray, List.set_cons_zero, List.set_cons_succ])
    (refine take_p (i := 2) (v := ?_) rfl (by kernel_rfl) (by kernel_rfl) (by kernel_rfl) (fun _ _ _ h => h) (Or.inl ⟨by rfl, ?_⟩) hS ?_; rotate_left; (focus (intro w0 hSw; go_simp; try with_reducible rfl)); try simp only [Act.put, List.setIfInBounds_toArray, List.set_cons_zero, List.set_cons_succ])
    (refine take_p (i := 3) (v := ?_) rfl (by kernel_rfl) (by kernel_rfl) (by kernel_rfl) (fun _ _ _ h => h) (Or.inl ⟨by rfl, ?_⟩) hS ?_; rotate_left; (focus (intro w0 hSw; go_simp; try with_reducible rfl)); try simp only [Act.put, List.setIfInBounds_toArray, List.set_cons_zero, List.set_cons_succ])
    refine wpAnyH_ready (rs := [4]) (by kernel_rfl) (by simp) ?_
    refine cons_p rfl (fun K hK => ?_) AllReadyH.nil
    go_simp
    refine hK.out _ _ hS (fun hHeld => ?_)
    clear hK K hHeld
    try simp only [Act.put, List.setIfInBounds_toArray, List.set_cons_zero, List.set_cons_succ]
    (refine take_p (i := 5) (v := ?_) rfl (by kernel_rfl) (by kernel_rfl) (by kernel_rfl) (fun _ _ _ h => h) (Or.inl ⟨by rfl, ?_⟩) hS ?_; rotate_left; (focus (intro w0 hSw; go_simp; try with_reducible rfl)); try simp only [Act.put, List.setIfInBounds_toArray, List.set_cons_zero, List.set_cons_succ])
    (refine take_p (i := 6) (v := undef) rfl (by kernel_rfl) (by kernel_rfl) (by kernel_rfl) (fun _ _ _ h => h) (Or.inr ⟨by rfl, rfl⟩) hS ?_; try simp only [Act.put, List.setIfInBounds_toArray, List.set_cons_zero, List.set_cons_succ])
    (refine take_p (i := 7) (v := undef) rfl (by kernel_rfl) (by kernel_rfl) (by kernel_rfl) (fun _ _ _ h => h) (Or.inr ⟨by rfl, rfl⟩) hS ?_; try simp only [Act.put, List.setIfInBounds_toArray, List.set_cons_zero, List.set_cons_succ])
    (refine take_p (i := 8) (v := undef) rfl (by kernel_rfl) (by kernel_rfl) (by kernel_rfl) (fun _ _ _ h => h) (Or.inr ⟨by rfl, rfl⟩) hS ?_; try simp only [Act.put, List.setIfInBounds_toArray, List.set_cons_zero, List.set_cons_succ])
    (refine take_p (i := 9) (v := undef) rfl (by kernel_rfl) (by kernel_rfl) (by kernel_rfl) (fun _ _ _ h => h) (Or.inr ⟨by rfl, rfl⟩) hS ?_; try simp only [Act.put, List.setIfInBounds_toArray, List.set_cons_zero, List.set_cons_succ])
    (refine take_p (i := 10) (v := undef) rfl (by kernel_rfl) (by kernel_rfl) (by kernel_rfl) (fun _ _ _ h => h) (Or.inr ⟨by rfl, rfl⟩) hS ?_; try simp only [Act.put, List.setIfInBounds_toArray, List.set_cons_zero, List.set_cons_succ])
    (refine take_p (i := 11) (v := undef) rfl (by kernel_rfl) (by kernel_rfl) (by kernel_rfl) (fun _ _ _ h => h) (Or.inr ⟨by rfl, rfl⟩) hS ?_; try simp only [Act.put, List.setIfInBounds_toArray, List.set_cons_zero, List.set_cons_succ])
    (refine take_p (i := 12) (v := undef) rfl (by kernel_rfl) (by kernel_rfl) (by kernel_rfl) (fun _ _ _ h => h) (Or.inr ⟨by rfl, rfl⟩) hS ?_; try simp only [Act.put, List.setIfInBounds_toArray, List.set_cons_zero, List.set_cons_succ])
    (refine take_p (i := 13) (v := undef) rfl (by kernel_rfl) (by kernel_rfl) (by kernel_rfl) (fun _ _ _ h => h) (Or.inr ⟨by rfl, rfl⟩) hS ?_; try simp only [Act.put, List.setIfInBounds_toArray, List.set_cons_zero, List.set_cons_succ])
    (refine take_p (i := 14) (v := undef) rfl (by kernel_rfl) (by kernel_rfl) (by kernel_rfl) (fun _ _ _ h => h) (Or.inr ⟨by rfl, rfl⟩) hS ?_; try simp only [Act.put, List.setIfInBounds_toArray, List.set_cons_zero, List.set_cons_succ])
    (refine take_p (i := 15) (v := undef) rfl (by kernel_rfl) (by kernel_rfl) (by kernel_rfl) (fun _ _ _ h => h) (Or.inr ⟨by rfl, rfl⟩) hS ?_; try simp only [Act.put, List.setIfInBounds_toArray, List.set_cons_zero, List.set_cons_succ])
    (refine take_p (i := 16) (v := undef) rfl (by kernel_rfl) (by kernel_rfl) (by kernel_rfl) (fun _ _ _ h => h) (Or.inr ⟨by rfl, rfl⟩) hS ?_; try simp only [Act.put, List.setIfInBounds_toArray, List.set_cons_zero, List.set_cons_succ])
    (refine take_p (i := 17) (v := ?_) rfl (by kernel_rfl) (by kernel_rfl) (by kernel_rfl) (fun _ _ _ h => h) (Or.inl ⟨by rfl, ?_⟩) hS ?_; rotate_left; (focus (intro w0 hSw; go_simp; try with_reducible rfl)); try simp only [Act.put, List.setIfInBounds_toArray, List.set_cons_zero, List.set_cons_succ])
    (refine take_p (i := 18) (v := ?_) rfl (by kernel_rfl) (by kernel_rfl) (by kernel_rfl) (fun _ _ _ h => h) (Or.inl ⟨by rfl, ?_⟩) hS ?_; rotate_left; (focus (intro w0 hSw; go_simp; try with_reducible rfl)); try simp only [Act.put, List.setIfInBounds_toArray, List.set_cons_zero, List.set_cons_succ])
    (refine take_p (i := 19) (v := ?_) rfl (by kernel_rfl) (by kernel_rfl) (by kernel_rfl) (fun _ _ _ h => h) (Or.inl ⟨by rfl, ?_⟩) hS ?_; rotate_left; (focus (intro w0 hSw; go_simp; try with_reducible rfl)); try simp only [Act.put, List.setIfInBounds_toArray, List.set_cons_zero, List.set_cons_succ])
    refine wpAnyH_ready (rs := [20]) (by kernel_rfl) (by simp) ?_
    refine cons_p rfl (fun K hK => ?_) AllReadyH.nil
    go_simp
    refine hK.out _ _ ⟨(World.cell?_setCell_other _ _ _ _ (fun e => by injection e; omega)).trans k0, (World.cell?_setCell_other _ _ _ _ (fun e => by injection e; omega)).trans d1⟩ (fun hHeld => ?_)
    clear hK K hHeld
    refine wpAnyH_done (by kernel_rfl) ?_ _
    go_wp2_with fail
    go_end0
    have hk5 := e3.drew.set_ (u' := { x with trial := false }) (v := .bool false) hu3 6 (by omega) rfl
    rw [set_set, Hxx.out, Hx.out, ← Hup.out] at hk5
    exact ⟨rfl, hk5, e4.drew.setCell (p := ⟨b, i * 7 + 6, none⟩) (.inl rfl) _⟩
set_option maxRecDepth 1000000 in
set_option maxHeartbeats 6400000 in
theorem rec_dissent (h : Bk w g b n c lim rst us) (ho : BOK n lim rst) (hg : Gains w) (i : Nat) {u : Up} (hu : us[i]? = some u) (huo : UOK u) (now : Int) (hgb : 0 ≠ b) (hsp : spare lim (mayL us).length n (hitUp u) = false) (hn0 : 0 ≤ now) (hnow : now ≤ 1099511627776) :
    Calls Tryd.prog 46 #[.pointer (some ⟨g, 0, none⟩), .int .i64 i, .int .i64 1, .int .i64 now, .int .i64 0] w fun e w' => e = .returned (.tuple #[]) ∧ Bk w' g b n c lim rst (us.set i (endTrial lim (hitUp u))) ∧ Only (· = b) w w' := by
  have hi : i < n := by rw [← h.len]; exact (List.getElem?_eq_some_iff.1 hu).1
  have c0 := h.blk.cell 0
  simp at c0
  obtain ⟨k0, k1, k2, k3, k4, k5, k6⟩ := h.seven hu
  have f1 := h.own.frozenAt (i * 7 + 2)
  have a0 := huo.d0
  have a1 := huo.d1
  have s0 := huo.s0
  have s1 := huo.s1
  have l1 := ho.l1
  have l2 := ho.l2
  have r1 := ho.r1
  have r2 := ho.r2
  have n9 := ho.n9
  have hmn : (if (65535 : Int) < u.ds + 1 then (65535 : Int) else u.ds + 1) = mn u.ds := rfl
  have y1 : IntKind.i64.wrap (u.ds + 1) = u.ds + 1 := IntWalk.i64_in _ (by omega)
  have hne := h.ne
  go_enter Tryd.func46, Tryd.ntmps46
  go_wp2_with fail
  go_still_tail 13, (by kernel_rfl)
  change wpList _ _ _ _ _ w.drew
  have hk1 : Bk ((w.setCell ⟨b, i * 7 + 2, none⟩ (.int .i64 (mn u.ds))).drew) g b n c lim rst (us.set i { u with ds := mn u.ds }) := (h.set_ (u' := { u with ds := mn u.ds }) (v := .int .i64 (mn u.ds)) hu 2 (by omega) rfl).drew
  have ho1 : Only (· = b) w ((w.setCell ⟨b, i * 7 + 2, none⟩ (.int .i64 (mn u.ds))).drew) := ((Only.refl (· = b) _).setCell (p := ⟨b, i * 7 + 2, none⟩) (.inl rfl) _).drew
  have hu1 := get_set hu { u with ds := mn u.ds }
  go_wp2_with fail
  generalize (w.setCell ⟨b, i * 7 + 2, none⟩ (.int .i64 (mn u.ds))).drew = w1 at *
  have hg1 := hg.only ho1 hgb
  obtain ⟨k0, k1, k2, k3, k4, k5, k6⟩ := hk1.seven hu1
  have gg := hg1.g1
  have f1 := hk1.own.frozenAt (i * 7)
  have y2 : IntKind.i64.wrap (u.score + -10) = u.score + -10 := IntWalk.i64_in _ (by omega)
  have hcl : (if (100 : Int) < (if u.score + -10 < (0 : Int) then (0 : Int) else u.score + -10) then (100 : Int) else (if u.score + -10 < (0 : Int) then (0 : Int) else u.score + -10)) = cl (u.score + -10) := rfl
  clear hmn y1
  go_still_tail 13, (by kernel_rfl)
  change wpList _ _ _ _ _ w1.drew
  have hk2 : Bk ((w1.setCell ⟨b, i * 7, none⟩ (.int .i64 (cl (u.score + -10)))).drew) g b n c lim rst ((us.set i { u with ds := mn u.ds }).set i { { u with ds := mn u.ds } with score := cl (u.score + -10) }) := (hk1.set_ (u' := { { u with ds := mn u.ds } with score := cl (u.score + -10) }) (v := .int .i64 (cl (u.score + -10))) hu1 0 (by omega) rfl).drew
  rw [set_set] at hk2
  have ho2 : Only (· = b) w ((w1.setCell ⟨b, i * 7, none⟩ (.int .i64 (cl (u.score + -10)))).drew) := (ho1.setCell (p := ⟨b, i * 7, none⟩) (.inl rfl) _).drew
  have hu2 := get_set hu { { u with ds := mn u.ds } with score := cl (u.score + -10) }
  go_wp2_with fail
  all_goals
    generalize (w1.setCell ⟨b, i * 7, none⟩ (.int .i64 (cl (u.score + -10)))).drew = w2 at *
    obtain ⟨v, hv⟩ : ∃ v : Up, v = { { u with ds := mn u.ds } with score := cl (u.score + -10) } := ⟨_, rfl⟩
    rw [← hv] at hk2 hu2
    have hvs : v.score = cl (u.score + -10) := by rw [hv]
    have hvr : v.rests = u.rests := by rw [hv]
    have hup : hitUp u = v := by rw [hv]; rfl
    have Hup := Lib.hid hup
    have hcr := cl_range (u.score + -10)
    have s0' : 0 ≤ v.score := by omega
    have s1' : v.score ≤ 100 := by omega
    have htop := top_eq lim
    have y3 : IntKind.i64.wrap (lim + 10) = lim + 10 := IntWalk.i64_in _ (by omega)
    clear hcl y2 hv hvs hg1 gg hk1 hu1 ho1 c0 huo hcr k0 k1 k2 k3 k4 k5 k6 f1
    have hml : mayL (us.set i v) = mayL us := mayL_set us i hu v hvr
    have hq : spare lim (mayL (us.set i v)).length n v = false := by rw [hml, ← hup]; exact hsp
    have hsa := spares_any hk2 n9 i hu2
    rw [hq] at hsa
    have Hsa := Lib.hid hsa
    clear hsa hq hml hsp hup
    refine (Hsa.out).mono ?_
    rintro e w3 ⟨rfl, hs3⟩
    have hk2 := hk2.still hs3
    have ho2 := ho2.still hs3
    clear hs3 Hsa
    go_wp2_with fail
    rcases ht : v.trial with _ | _
    · have he : endTrial lim v = { v with trial := false } := by unfold endTrial; simp [ht]
      have He := Lib.hid he
      clear he
      obtain ⟨k0, k1, k2, k3, k4, k5, k6⟩ := hk2.drew.seven hu2
      rw [ht] at k6; have d1 : w3.drew.cell? ⟨g, 1, none⟩ = some (.int .i64 lim) := by have := hk2.drew.blk.cell 1; simpa using this
      have f6 := hk2.drew.own.frozenAt (i * 7 + 6)
      have hgb' : b ≠ g := hk2.ne
      clear k1 k2 k3 k4 k5 ht
      refine wp_region_held_drew (S := fun w' => w'.cell? ⟨b, i * 7, none⟩ = some (.int .i64 v.score) ∧ w'.cell? ⟨g, 1, none⟩ = some (.int .i64 lim)) (by kernel_rfl) ⟨k0, d1⟩ (fun hS => ?_)
      (refine take_p (i := 0) (v := ?_) rfl (by kernel_rfl) (by kernel_rfl) (by kernel_rfl) (fun _ _ _ h => h) (Or.inl ⟨by rfl, ?_⟩) hS ?_; rotate_left; (focus (intro w0 hSw; go_simp; try with_reducible rfl)); try simp only [Act.put, List.setIfInBounds_toArray, List.set_cons_zero, List.set_cons_succ])
      (refine take_p (i := 1) (v := ?_) rfl (by kernel_rfl) (by kernel_rfl) (by kernel_rfl) (fun _ _ _ h => h) (Or.inl ⟨by rfl, ?_⟩) hS ?_; rotate_left; (focus (intro w0 hSw; go_simp; try with_reducible rfl)); try simp only [Act.put, List.setIfInBounds_toArray, List.set_cons_zero, List.set_cons_succ])
      (refine take_p (i := 2) (v := ?_) rfl (by kernel_rfl) (by kernel_rfl) (by kernel_rfl) (fun _ _ _ h => h) (Or.inl ⟨by rfl, ?_⟩) hS ?_; rotate_left; (focus (intro w0 hSw; go_simp; try with_reducible rfl)); try simp only [Act.put, List.setIfInBounds_toArray, List.set_cons_zero, List.set_cons_succ])
      (refine take_p (i := 3) (v := ?_) rfl (by kernel_rfl) (by kernel_rfl) (by kernel_rfl) (fun _ _ _ h => h) (Or.inl ⟨by rfl, ?_⟩) hS ?_; rotate_left; (focus (intro w0 hSw; go_simp; try with_reducible rfl)); try simp only [Act.put, List.setIfInBounds_toArray, List.set_cons_zero, List.set_cons_succ])
      refine wpAnyH_ready (rs := [4]) (by kernel_rfl) (by simp) ?_
      refine cons_p rfl (fun K hK => ?_) AllReadyH.nil
      go_simp
      refine hK.out _ _ hS (fun hHeld => ?_)
      clear hK K hHeld
      try simp only [Act.put, List.setIfInBounds_toArray, List.set_cons_zero, List.set_cons_succ]
      (refine take_p (i := 5) (v := ?_) rfl (by kernel_rfl) (by kernel_rfl) (by kernel_rfl) (fun _ _ _ h => h) (Or.inl ⟨by rfl, ?_⟩) hS ?_; rotate_left; (focus (intro w0 hSw; go_simp; try with_reducible rfl)); try simp only [Act.put, List.setIfInBounds_toArray, List.set_cons_zero, List.set_cons_succ])
      (refine take_p (i := 6) (v := undef) rfl (by kernel_rfl) (by kernel_rfl) (by kernel_rfl) (fun _ _ _ h => h) (Or.inr ⟨by rfl, rfl⟩) hS ?_; try simp only [Act.put, List.setIfInBounds_toArray, List.set_cons_zero, List.set_cons_succ])
      (refine take_p (i := 7) (v := undef) rfl (by kernel_rfl) (by kernel_rfl) (by kernel_rfl) (fun _ _ _ h => h) (Or.inr ⟨by rfl, rfl⟩) hS ?_; try simp only [Act.put, List.setIfInBounds_toArray, List.set_cons_zero, List.set_cons_succ])
      (refine take_p (i := 8) (v := undef) rfl (by kernel_rfl) (by kernel_rfl) (by kernel_rfl) (fun _ _ _ h => h) (Or.inr ⟨by rfl, rfl⟩) hS ?_; try simp only [Act.put, List.setIfInBounds_toArray, List.set_cons_zero, List.set_cons_succ])
      (refine take_p (i := 9) (v := undef) rfl (by kernel_rfl) (by kernel_rfl) (by kernel_rfl) (fun _ _ _ h => h) (Or.inr ⟨by rfl, rfl⟩) hS ?_; try simp only [Act.put, List.setIfInBounds_toArray, List.set_cons_zero, List.set_cons_succ])
      (refine take_p (i := 10) (v := undef) rfl (by kernel_rfl) (by kernel_rfl) (by kernel_rfl) (fun _ _ _ h => h) (Or.inr ⟨by rfl, rfl⟩) hS ?_; try simp only [Act.put, List.setIfInBounds_toArray, List.set_cons_zero, List.set_cons_succ])
      (refine take_p (i := 11) (v := undef) rfl (by kernel_rfl) (by kernel_rfl) (by kernel_rfl) (fun _ _ _ h => h) (Or.inr ⟨by rfl, rfl⟩) hS ?_; try simp only [Act.put, List.setIfInBounds_toArray, List.set_cons_zero, List.set_cons_succ])
      (refine take_p (i := 12) (v := undef) rfl (by kernel_rfl) (by kernel_rfl) (by kernel_rfl) (fun _ _ _ h => h) (Or.inr ⟨by rfl, rfl⟩) hS ?_; try simp only [Act.put, List.setIfInBounds_toArray, List.set_cons_zero, List.set_cons_succ])
      (refine take_p (i := 13) (v := undef) rfl (by kernel_rfl) (by kernel_rfl) (by kernel_rfl) (fun _ _ _ h => h) (Or.inr ⟨by rfl, rfl⟩) hS ?_; try simp only [Act.put, List.setIfInBounds_toArray, List.set_cons_zero, List.set_cons_succ])
      (refine take_p (i := 14) (v := undef) rfl (by kernel_rfl) (by kernel_rfl) (by kernel_rfl) (fun _ _ _ h => h) (Or.inr ⟨by rfl, rfl⟩) hS ?_; try simp only [Act.put, List.setIfInBounds_toArray, List.set_cons_zero, List.set_cons_succ])
      (refine take_p (i := 15) (v := undef) rfl (by kernel_rfl) (by kernel_rfl) (by kernel_rfl) (fun _ _ _ h => h) (Or.inr ⟨by rfl, rfl⟩) hS ?_; try simp only [Act.put, List.setIfInBounds_toArray, List.set_cons_zero, List.set_cons_succ])
      (refine take_p (i := 16) (v := undef) rfl (by kernel_rfl) (by kernel_rfl) (by kernel_rfl) (fun _ _ _ h => h) (Or.inr ⟨by rfl, rfl⟩) hS ?_; try simp only [Act.put, List.setIfInBounds_toArray, List.set_cons_zero, List.set_cons_succ])
      (refine take_p (i := 17) (v := ?_) rfl (by kernel_rfl) (by kernel_rfl) (by kernel_rfl) (fun _ _ _ h => h) (Or.inl ⟨by rfl, ?_⟩) hS ?_; rotate_left; (focus (intro w0 hSw; go_simp; try with_reducible rfl)); try simp only [Act.put, List.setIfInBounds_toArray, List.set_cons_zero, List.set_cons_succ])
      (refine take_p (i := 18) (v := ?_) rfl (by kernel_rfl) (by kernel_rfl) (by kernel_rfl) (fun _ _ _ h => h) (Or.inl ⟨by rfl, ?_⟩) hS ?_; rotate_left; (focus (intro w0 hSw; go_simp; try with_reducible rfl)); try simp only [Act.put, List.setIfInBounds_toArray, List.set_cons_zero, List.set_cons_succ])
      (refine take_p (i := 19) (v := ?_) rfl (by kernel_rfl) (by kernel_rfl) (by kernel_rfl) (fun _ _ _ h => h) (Or.inl ⟨by rfl, ?_⟩) hS ?_; rotate_left; (focus (intro w0 hSw; go_simp; try with_reducible rfl)); try simp only [Act.put, List.setIfInBounds_toArray, List.set_cons_zero, List.set_cons_succ])
      refine wpAnyH_ready (rs := [20]) (by kernel_rfl) (by simp) ?_
      refine cons_p rfl (fun K hK => ?_) AllReadyH.nil
      go_simp
      refine hK.out _ _ ⟨(World.cell?_setCell_other _ _ _ _ (fun e => by injection e; omega)).trans k0, (World.cell?_setCell_other _ _ _ _ (fun e => by injection e; omega)).trans d1⟩ (fun hHeld => ?_)
      clear hK K hHeld
      refine wpAnyH_done (by kernel_rfl) ?_ _
      go_wp2_with fail
      go_end0
      have hk3 := hk2.drew.set_ (u' := { v with trial := false }) (v := .bool (false)) hu2 6 (by omega) rfl
      rw [set_set] at hk3
      rw [Hup.out, He.out]
      exact ⟨rfl, hk3, ho2.drew.setCell (p := ⟨b, i * 7 + 6, none⟩) (.inl rfl) _⟩
    · have he : endTrial lim v = { v with trial := decide (v.score < top lim) } := by unfold endTrial; simp [ht]
      have He := Lib.hid he
      clear he
      obtain ⟨k0, k1, k2, k3, k4, k5, k6⟩ := hk2.drew.seven hu2
      rw [ht] at k6; have d1 : w3.drew.cell? ⟨g, 1, none⟩ = some (.int .i64 lim) := by have := hk2.drew.blk.cell 1; simpa using this
      have f6 := hk2.drew.own.frozenAt (i * 7 + 6)
      have hgb' : b ≠ g := hk2.ne
      clear k1 k2 k3 k4 k5 ht
      refine wp_region_held_drew (S := fun w' => w'.cell? ⟨b, i * 7, none⟩ = some (.int .i64 v.score) ∧ w'.cell? ⟨g, 1, none⟩ = some (.int .i64 lim)) (by kernel_rfl) ⟨k0, d1⟩ (fun hS => ?_)
      (refine take_p (i := 0) (v := ?_) rfl (by kernel_rfl) (by kernel_rfl) (by kernel_rfl) (fun _ _ _ h => h) (Or.inl ⟨by rfl, ?_⟩) hS ?_; rotate_left; (focus (intro w0 hSw; go_simp; try with_reducible rfl)); try simp only [Act.put, List.setIfInBounds_toArray, List.set_cons_zero, List.set_cons_succ])
      (refine take_p (i := 1) (v := ?_) rfl (by kernel_rfl) (by kernel_rfl) (by kernel_rfl) (fun _ _ _ h => h) (Or.inl ⟨by rfl, ?_⟩) hS ?_; rotate_left; (focus (intro w0 hSw; go_simp; try with_reducible rfl)); try simp only [Act.put, List.setIfInBounds_toArray, List.set_cons_zero, List.set_cons_succ])
      (refine take_p (i := 2) (v := ?_) rfl (by kernel_rfl) (by kernel_rfl) (by kernel_rfl) (fun _ _ _ h => h) (Or.inl ⟨by rfl, ?_⟩) hS ?_; rotate_left; (focus (intro w0 hSw; go_simp; try with_reducible rfl)); try simp only [Act.put, List.setIfInBounds_toArray, List.set_cons_zero, List.set_cons_succ])
      (refine take_p (i := 3) (v := ?_) rfl (by kernel_rfl) (by kernel_rfl) (by kernel_rfl) (fun _ _ _ h => h) (Or.inl ⟨by rfl, ?_⟩) hS ?_; rotate_left; (focus (intro w0 hSw; go_simp; try with_reducible rfl)); try simp only [Act.put, List.setIfInBounds_toArray, List.set_cons_zero, List.set_cons_succ])
      refine wpAnyH_ready (rs := [4]) (by kernel_rfl) (by simp) ?_
      refine cons_p rfl (fun K hK => ?_) AllReadyH.nil
      go_simp
      refine hK.out _ _ hS (fun hHeld => ?_)
      clear hK K hHeld
      try simp only [Act.put, List.setIfInBounds_toArray, List.set_cons_zero, List.set_cons_succ]
      (refine take_p (i := 5) (v := ?_) rfl (by kernel_rfl) (by kernel_rfl) (by kernel_rfl) (fun _ _ _ h => h) (Or.inl ⟨by rfl, ?_⟩) hS ?_; rotate_left; (focus (intro w0 hSw; go_simp; try with_reducible rfl)); try simp only [Act.put, List.setIfInBounds_toArray, List.set_cons_zero, List.set_cons_succ])
      (refine take_p (i := 6) (v := ?_) rfl (by kernel_rfl) (by kernel_rfl) (by kernel_rfl) (fun _ _ _ h => h) (Or.inl ⟨by rfl, ?_⟩) hS ?_; rotate_left; (focus (intro w0 hSw; obtain ⟨s1_, s2_⟩ := hSw; go_simp; try with_reducible rfl)); try simp only [Act.put, List.setIfInBounds_toArray, List.set_cons_zero, List.set_cons_succ])
      (refine take_p (i := 7) (v := ?_) rfl (by kernel_rfl) (by kernel_rfl) (by kernel_rfl) (fun _ _ _ h => h) (Or.inl ⟨by rfl, ?_⟩) hS ?_; rotate_left; (focus (intro w0 hSw; obtain ⟨s1_, s2_⟩ := hSw; go_simp; try with_reducible rfl)); try simp only [Act.put, List.setIfInBounds_toArray, List.set_cons_zero, List.set_cons_succ])
      (refine take_p (i := 8) (v := ?_) rfl (by kernel_rfl) (by kernel_rfl) (by kernel_rfl) (fun _ _ _ h => h) (Or.inl ⟨by rfl, ?_⟩) hS ?_; rotate_left; (focus (intro w0 hSw; obtain ⟨s1_, s2_⟩ := hSw; go_simp; try with_reducible rfl)); try simp only [Act.put, List.setIfInBounds_toArray, List.set_cons_zero, List.set_cons_succ])
      (refine take_p (i := 9) (v := ?_) rfl (by kernel_rfl) (by kernel_rfl) (by kernel_rfl) (fun _ _ _ h => h) (Or.inl ⟨by rfl, ?_⟩) hS ?_; rotate_left; (focus (intro w0 hSw; obtain ⟨s1_, s2_⟩ := hSw; go_simp; try with_reducible rfl)); try simp only [Act.put, List.setIfInBounds_toArray, List.set_cons_zero, List.set_cons_succ])
      (refine take_p (i := 10) (v := ?_) rfl (by kernel_rfl) (by kernel_rfl) (by kernel_rfl) (fun _ _ _ h => h) (Or.inl ⟨by rfl, ?_⟩) hS ?_; rotate_left; (focus (intro w0 hSw; obtain ⟨s1_, s2_⟩ := hSw; go_simp; try with_reducible rfl)); try simp only [Act.put, List.setIfInBounds_toArray, List.set_cons_zero, List.set_cons_succ])
      (refine take_p (i := 11) (v := ?_) rfl (by kernel_rfl) (by kernel_rfl) (by kernel_rfl) (fun _ _ _ h => h) (Or.inl ⟨by rfl, ?_⟩) hS ?_; rotate_left; (focus (intro w0 hSw; obtain ⟨s1_, s2_⟩ := hSw; go_simp; try with_reducible rfl)); try simp only [Act.put, List.setIfInBounds_toArray, List.set_cons_zero, List.set_cons_succ])
      (refine take_p (i := 12) (v := ?_) rfl (by kernel_rfl) (by kernel_rfl) (by kernel_rfl) (fun _ _ _ h => h) (Or.inl ⟨by rfl, ?_⟩) hS ?_; rotate_left; (focus (intro w0 hSw; obtain ⟨s1_, s2_⟩ := hSw; go_simp; try with_reducible rfl)); try simp only [Act.put, List.setIfInBounds_toArray, List.set_cons_zero, List.set_cons_succ])
      (refine take_p (i := 13) (v := ?_) rfl (by kernel_rfl) (by kernel_rfl) (by kernel_rfl) (fun _ _ _ h => h) (Or.inl ⟨by rfl, ?_⟩) hS ?_; rotate_left; (focus (intro w0 hSw; obtain ⟨s1_, s2_⟩ := hSw; go_simp; try with_reducible rfl)); try simp only [Act.put, List.setIfInBounds_toArray, List.set_cons_zero, List.set_cons_succ])
      (refine take_p (i := 14) (v := ?_) rfl (by kernel_rfl) (by kernel_rfl) (by kernel_rfl) (fun _ _ _ h => h) (Or.inl ⟨by rfl, ?_⟩) hS ?_; rotate_left; (focus (intro w0 hSw; obtain ⟨s1_, s2_⟩ := hSw; go_simp; try with_reducible rfl)); try simp only [Act.put, List.setIfInBounds_toArray, List.set_cons_zero, List.set_cons_succ])
      (refine take_p (i := 15) (v := ?_) rfl (by kernel_rfl) (by kernel_rfl) (by kernel_rfl) (fun _ _ _ h => h) (Or.inl ⟨by rfl, ?_⟩) hS ?_; rotate_left; (focus (intro w0 hSw; obtain ⟨s1_, s2_⟩ := hSw; go_simp; try with_reducible rfl)); try simp only [Act.put, List.setIfInBounds_toArray, List.set_cons_zero, List.set_cons_succ])
      (refine take_p (i := 16) (v := ?_) rfl (by kernel_rfl) (by kernel_rfl) (by kernel_rfl) (fun _ _ _ h => h) (Or.inl ⟨by rfl, ?_⟩) hS ?_; rotate_left; (focus (intro w0 hSw; obtain ⟨s1_, s2_⟩ := hSw; go_simp; try with_reducible rfl)); try simp only [Act.put, List.setIfInBounds_toArray, List.set_cons_zero, List.set_cons_succ])
      (refine take_p (i := 17) (v := ?_) rfl (by kernel_rfl) (by kernel_rfl) (by kernel_rfl) (fun _ _ _ h => h) (Or.inl ⟨by rfl, ?_⟩) hS ?_; rotate_left; (focus (intro w0 hSw; go_simp; try with_reducible rfl)); try simp only [Act.put, List.setIfInBounds_toArray, List.set_cons_zero, List.set_cons_succ])
      (refine take_p (i := 18) (v := ?_) rfl (by kernel_rfl) (by kernel_rfl) (by kernel_rfl) (fun _ _ _ h => h) (Or.inl ⟨by rfl, ?_⟩) hS ?_; rotate_left; (focus (intro w0 hSw; go_simp; try with_reducible rfl)); try simp only [Act.put, List.setIfInBounds_toArray, List.set_cons_zero, List.set_cons_succ])
      (refine take_p (i := 19) (v := ?_) rfl (by kernel_rfl) (by kernel_rfl) (by kernel_rfl) (fun _ _ _ h => h) (Or.inl ⟨by rfl, ?_⟩) hS ?_; rotate_left; (focus (intro w0 hSw; go_simp; try with_reducible rfl)); try simp only [Act.put, List.setIfInBounds_toArray, List.set_cons_zero, List.set_cons_succ])
      refine wpAnyH_ready (rs := [20]) (by kernel_rfl) (by simp) ?_
      refine cons_p rfl (fun K hK => ?_) AllReadyH.nil
      go_simp
      refine hK.out _ _ ⟨(World.cell?_setCell_other _ _ _ _ (fun e => by injection e; omega)).trans k0, (World.cell?_setCell_other _ _ _ _ (fun e => by injection e; omega)).trans d1⟩ (fun hHeld => ?_)
      clear hK K hHeld
      refine wpAnyH_done (by kernel_rfl) ?_ _
      go_wp2_with fail
      go_end0
      have hk3 := hk2.drew.set_ (u' := { v with trial := decide (v.score < top lim) }) (v := .bool (decide (v.score < top lim))) hu2 6 (by omega) rfl
      rw [set_set] at hk3
      rw [Hup.out, He.out]
      exact ⟨rfl, hk3, ho2.drew.setCell (p := ⟨b, i * 7 + 6, none⟩) (.inl rfl) _⟩
end
end Go.Proofs.YtdcogjlcbdkdcaaDoor
