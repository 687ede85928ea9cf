/-
  Package repute: record from its last step, and Back.
-/
import Derived.Test.YtdcogjlcbdkdcaaDoorRepAct
namespace Go.Proofs.YtdcogjlcbdkdcaaDoor
open Go.RowKit
set_option linter.unusedVariables false
set_option linter.unusedSimpArgs false

section
variable {w : World} {g b n c : Nat} {lim rst : Int} {us : List Up}

set_option maxRecDepth 1000000 in
set_option maxHeartbeats 6400000 in
theorem rec_back (h : Bk w g b n c lim rst us) (ho : BOK n lim rst) (i : Nat) {u : Up} (hu : us[i]? = some u) (ht : u.trial = true) (s0' : 0 ≤ u.score) (s1' : u.score ≤ 100) (now : Int) :
    Calls Tryd.prog 46 #[.pointer (some ⟨g, 0, none⟩), .int .i64 i, .int .i64 0, .int .i64 now, .int .i64 3] w fun e w' => e = .returned (.tuple #[]) ∧ Bk w' g b n c lim rst (us.set i (endTrial lim u)) ∧ Only (· = b) w w' := by
  have hi : i < n := by rw [← h.len]; exact (List.getElem?_eq_some_iff.1 hu).1
  have c0 := h.blk.cell 0
  simp at c0
  have l1 := ho.l1
  have l2 := ho.l2
  have htop := top_eq lim
  have y3 : IntKind.i64.wrap (lim + 10) = lim + 10 := IntWalk.i64_in _ (by omega)
  have hne := h.ne
  have he : endTrial lim u = { u with trial := decide (u.score < top lim) } := by unfold endTrial; simp [ht]
  have He := Lib.hid he
  clear he
  have hor := Only.refl (· = b) w
  go_enter Tryd.func46, Tryd.ntmps46
  go_wp2_with fail
  obtain ⟨k0, k1, k2, k3, k4, k5, k6⟩ := h.drew.seven hu
  rw [ht] at k6; have d1 : w.drew.cell? ⟨g, 1, none⟩ = some (.int .i64 lim) := by have := h.drew.blk.cell 1; simpa using this
  have f6 := h.drew.own.frozenAt (i * 7 + 6)
  have hgb' : b ≠ g := h.ne
  clear k1 k2 k3 k4 k5 ht c0
  refine wp_region_held_drew (S := fun w' => w'.cell? ⟨b, i * 7, none⟩ = some (.int .i64 u.score) ∧ w'.cell? ⟨g, 1, none⟩ = some (.int .i64 lim)) (by kernel_rfl) ⟨k0, d1⟩ (fun hS => ?_)
  (refine take_p (i := 0) (v := ?_) rfl (by kernel_rfl) (by kernel_rfl) (by kernel_rfl) (fun _ _ _ h => h) (Or.inl ⟨by rfl, ?_⟩) hS ?_; rotate_left; (focus (intro w0 hSw; go_simp; try with_reducible rfl)); try simp only [Act.put, List.setIfInBounds_toArray, List.set_cons_zero, List.set_cons_succ])
  (refine take_p (i := 1) (v := ?_) rfl (by kernel_rfl) (by kernel_rfl) (by kernel_rfl) (fun _ _ _ h => h) (Or.inl ⟨by rfl, ?_⟩) hS ?_; rotate_left; (focus (intro w0 hSw; go_simp; try with_reducible rfl)); try simp only [Act.put, List.setIfInBounds_toArray, List.set_cons_zero, List.set_cons_succ])
  (refine take_p (i := 2) (v := ?_) rfl (by kernel_rfl) (by kernel_rfl) (by kernel_rfl) (fun _ _ _ h => h) (Or.inl ⟨by rfl, ?_⟩) hS ?_; rotate_left; (focus (intro w0 hSw; go_simp; try with_reducible rfl)); try simp only [Act.put, List.setIfInBounds_toArray, List.set_cons_zero, List.set_cons_succ])
  (refine take_p (i := 3) (v := ?_) rfl (by kernel_rfl) (by kernel_rfl) (by kernel_rfl) (fun _ _ _ h => h) (Or.inl ⟨by rfl, ?_⟩) hS ?_; rotate_left; (focus (intro w0 hSw; go_simp; try with_reducible rfl)); try simp only [Act.put, List.setIfInBounds_toArray, List.set_cons_zero, List.set_cons_succ])
  refine wpAnyH_ready (rs := [4]) (by kernel_rfl) (by simp) ?_
  refine cons_p rfl (fun K hK => ?_) AllReadyH.nil
  go_simp
  refine hK.out _ _ hS (fun hHeld => ?_)
  clear hK K hHeld
  try simp only [Act.put, List.setIfInBounds_toArray, List.set_cons_zero, List.set_cons_succ]
  (refine take_p (i := 5) (v := ?_) rfl (by kernel_rfl) (by kernel_rfl) (by kernel_rfl) (fun _ _ _ h => h) (Or.inl ⟨by rfl, ?_⟩) hS ?_; rotate_left; (focus (intro w0 hSw; go_simp; try with_reducible rfl)); try simp only [Act.put, List.setIfInBounds_toArray, List.set_cons_zero, List.set_cons_succ])
  (refine take_p (i := 6) (v := ?_) rfl (by kernel_rfl) (by kernel_rfl) (by kernel_rfl) (fun _ _ _ h => h) (Or.inl ⟨by rfl, ?_⟩) hS ?_; rotate_left; (focus (intro w0 hSw; obtain ⟨s1_, s2_⟩ := hSw; go_simp; try with_reducible rfl)); try simp only [Act.put, List.setIfInBounds_toArray, List.set_cons_zero, List.set_cons_succ])
  (refine take_p (i := 7) (v := ?_) rfl (by kernel_rfl) (by kernel_rfl) (by kernel_rfl) (fun _ _ _ h => h) (Or.inl ⟨by rfl, ?_⟩) hS ?_; rotate_left; (focus (intro w0 hSw; obtain ⟨s1_, s2_⟩ := hSw; go_simp; try with_reducible rfl)); try simp only [Act.put, List.setIfInBounds_toArray, List.set_cons_zero, List.set_cons_succ])
  (refine take_p (i := 8) (v := ?_) rfl (by kernel_rfl) (by kernel_rfl) (by kernel_rfl) (fun _ _ _ h => h) (Or.inl ⟨by rfl, ?_⟩) hS ?_; rotate_left; (focus (intro w0 hSw; obtain ⟨s1_, s2_⟩ := hSw; go_simp; try with_reducible rfl)); try simp only [Act.put, List.setIfInBounds_toArray, List.set_cons_zero, List.set_cons_succ])
  (refine take_p (i := 9) (v := ?_) rfl (by kernel_rfl) (by kernel_rfl) (by kernel_rfl) (fun _ _ _ h => h) (Or.inl ⟨by rfl, ?_⟩) hS ?_; rotate_left; (focus (intro w0 hSw; obtain ⟨s1_, s2_⟩ := hSw; go_simp; try with_reducible rfl)); try simp only [Act.put, List.setIfInBounds_toArray, List.set_cons_zero, List.set_cons_succ])
  (refine take_p (i := 10) (v := ?_) rfl (by kernel_rfl) (by kernel_rfl) (by kernel_rfl) (fun _ _ _ h => h) (Or.inl ⟨by rfl, ?_⟩) hS ?_; rotate_left; (focus (intro w0 hSw; obtain ⟨s1_, s2_⟩ := hSw; go_simp; try with_reducible rfl)); try simp only [Act.put, List.setIfInBounds_toArray, List.set_cons_zero, List.set_cons_succ])
  (refine take_p (i := 11) (v := ?_) rfl (by kernel_rfl) (by kernel_rfl) (by kernel_rfl) (fun _ _ _ h => h) (Or.inl ⟨by rfl, ?_⟩) hS ?_; rotate_left; (focus (intro w0 hSw; obtain ⟨s1_, s2_⟩ := hSw; go_simp; try with_reducible rfl)); try simp only [Act.put, List.setIfInBounds_toArray, List.set_cons_zero, List.set_cons_succ])
  (refine take_p (i := 12) (v := ?_) rfl (by kernel_rfl) (by kernel_rfl) (by kernel_rfl) (fun _ _ _ h => h) (Or.inl ⟨by rfl, ?_⟩) hS ?_; rotate_left; (focus (intro w0 hSw; obtain ⟨s1_, s2_⟩ := hSw; go_simp; try with_reducible rfl)); try simp only [Act.put, List.setIfInBounds_toArray, List.set_cons_zero, List.set_cons_succ])
  (refine take_p (i := 13) (v := ?_) rfl (by kernel_rfl) (by kernel_rfl) (by kernel_rfl) (fun _ _ _ h => h) (Or.inl ⟨by rfl, ?_⟩) hS ?_; rotate_left; (focus (intro w0 hSw; obtain ⟨s1_, s2_⟩ := hSw; go_simp; try with_reducible rfl)); try simp only [Act.put, List.setIfInBounds_toArray, List.set_cons_zero, List.set_cons_succ])
  (refine take_p (i := 14) (v := ?_) rfl (by kernel_rfl) (by kernel_rfl) (by kernel_rfl) (fun _ _ _ h => h) (Or.inl ⟨by rfl, ?_⟩) hS ?_; rotate_left; (focus (intro w0 hSw; obtain ⟨s1_, s2_⟩ := hSw; go_simp; try with_reducible rfl)); try simp only [Act.put, List.setIfInBounds_toArray, List.set_cons_zero, List.set_cons_succ])
  (refine take_p (i := 15) (v := ?_) rfl (by kernel_rfl) (by kernel_rfl) (by kernel_rfl) (fun _ _ _ h => h) (Or.inl ⟨by rfl, ?_⟩) hS ?_; rotate_left; (focus (intro w0 hSw; obtain ⟨s1_, s2_⟩ := hSw; go_simp; try with_reducible rfl)); try simp only [Act.put, List.setIfInBounds_toArray, List.set_cons_zero, List.set_cons_succ])
  (refine take_p (i := 16) (v := ?_) rfl (by kernel_rfl) (by kernel_rfl) (by kernel_rfl) (fun _ _ _ h => h) (Or.inl ⟨by rfl, ?_⟩) hS ?_; rotate_left; (focus (intro w0 hSw; obtain ⟨s1_, s2_⟩ := hSw; go_simp; try with_reducible rfl)); try simp only [Act.put, List.setIfInBounds_toArray, List.set_cons_zero, List.set_cons_succ])
  (refine take_p (i := 17) (v := ?_) rfl (by kernel_rfl) (by kernel_rfl) (by kernel_rfl) (fun _ _ _ h => h) (Or.inl ⟨by rfl, ?_⟩) hS ?_; rotate_left; (focus (intro w0 hSw; go_simp; try with_reducible rfl)); try simp only [Act.put, List.setIfInBounds_toArray, List.set_cons_zero, List.set_cons_succ])
  (refine take_p (i := 18) (v := ?_) rfl (by kernel_rfl) (by kernel_rfl) (by kernel_rfl) (fun _ _ _ h => h) (Or.inl ⟨by rfl, ?_⟩) hS ?_; rotate_left; (focus (intro w0 hSw; go_simp; try with_reducible rfl)); try simp only [Act.put, List.setIfInBounds_toArray, List.set_cons_zero, List.set_cons_succ])
  (refine take_p (i := 19) (v := ?_) rfl (by kernel_rfl) (by kernel_rfl) (by kernel_rfl) (fun _ _ _ h => h) (Or.inl ⟨by rfl, ?_⟩) hS ?_; rotate_left; (focus (intro w0 hSw; go_simp; try with_reducible rfl)); try simp only [Act.put, List.setIfInBounds_toArray, List.set_cons_zero, List.set_cons_succ])
  refine wpAnyH_ready (rs := [20]) (by kernel_rfl) (by simp) ?_
  refine cons_p rfl (fun K hK => ?_) AllReadyH.nil
  go_simp
  refine hK.out _ _ ⟨(World.cell?_setCell_other _ _ _ _ (fun e => by injection e; omega)).trans k0, (World.cell?_setCell_other _ _ _ _ (fun e => by injection e; omega)).trans d1⟩ (fun hHeld => ?_)
  clear hK K hHeld
  refine wpAnyH_done (by kernel_rfl) ?_ _
  go_wp2_with fail
  go_end0
  have hk3 := h.drew.set_ (u' := { u with trial := decide (u.score < top lim) }) (v := .bool (decide (u.score < top lim))) hu 6 (by omega) rfl
  rw [He.out]
  exact ⟨rfl, hk3, hor.drew.setCell (p := ⟨b, i * 7 + 6, none⟩) (.inl rfl) _⟩

/-- An upstream, once Back passed it. -/
def isBack (now : Int) (u : Up) : Bool := u.rests && decide (u.til ≤ now)
def backOne (lim now : Int) (u : Up) : Up := if isBack now u then backUp lim u else u
def backK (lim now : Int) (us : List Up) (k : Nat) : List Up := us.mapIdx fun j u => if j < k then backOne lim now u else u
def backs (now : Int) (us : List Up) (k : Nat) : List Int := ((List.range k).filter (fun i => isBack now ((us[i]?).getD up0))).map (fun (i : Nat) => (i : Int))
theorem backK_get (lim now : Int) (us : List Up) (k i : Nat) : (backK lim now us k)[i]? = (us[i]?).map fun u => if i < k then backOne lim now u else u := by unfold backK; rw [List.getElem?_mapIdx]
theorem backK_len (lim now : Int) (us : List Up) (k : Nat) : (backK lim now us k).length = us.length := by unfold backK; simp
theorem backK_zero (lim now : Int) (us : List Up) : backK lim now us 0 = us := by
  refine List.ext_getElem? fun k => ?_
  rw [backK_get]
  simp
theorem backK_all (lim now : Int) (us : List Up) : backK lim now us us.length = us.map (backOne lim now) := by
  refine List.ext_getElem? fun k => ?_
  rw [backK_get, List.getElem?_map]
  rcases hk : us[k]? with _ | u
  · rfl
  · have := (List.getElem?_eq_some_iff.1 hk).1
    simp [this]
theorem backK_at {us : List Up} {k : Nat} {u : Up} (h : us[k]? = some u) (lim now : Int) : (backK lim now us k)[k]? = some u := by rw [backK_get, h]; simp
theorem backK_succ {us : List Up} {k : Nat} {u : Up} (h : us[k]? = some u) (lim now : Int) : backK lim now us (k + 1) = (backK lim now us k).set k (backOne lim now u) := by
  refine List.ext_getElem? fun i => ?_
  rw [backK_get]
  by_cases e : k = i
  · subst e
    rw [get_set (backK_at h lim now), h]
    simp
  · rw [List.getElem?_set_ne e, backK_get]
    rcases us[i]? with _ | v
    · rfl
    · have : (i < k + 1) = (i < k) := by apply propext; omega
      simp [this]
theorem backs_in {us : List Up} {k : Nat} {u : Up} {now : Int} (h : us[k]? = some u) (hr : isBack now u = true) : backs now us (k + 1) = backs now us k ++ [(k : Int)] := by
  unfold backs
  rw [List.range_succ, List.filter_append, List.map_append, List.filter_cons, h]
  simp [hr]
theorem backs_out {us : List Up} {k : Nat} {u : Up} {now : Int} (h : us[k]? = some u) (hr : isBack now u = false) : backs now us (k + 1) = backs now us k := by
  unfold backs
  rw [List.range_succ, List.filter_append, List.map_append, List.filter_cons, h]
  simp [hr]
theorem backs_le (now : Int) (us : List Up) (k : Nat) : (backs now us k).length ≤ k := by
  unfold backs
  rw [List.length_map]
  exact Nat.le_trans (List.length_filter_le _ _) (by simp)

set_option maxRecDepth 1000000 in
set_option maxHeartbeats 6400000 in
theorem Back_any (h : Bk w g b n c lim rst us) (ho : BOK n lim rst) (now : Int) :
    Calls Tryd.prog 20 #[.pointer (some ⟨g, 0, none⟩), .int .i64 now] w fun e w' => ∃ A cc, e = .returned (.slice A (backs now us n).length cc) ∧ w'.ownsRow w.heap.size 3 1 (.slice A (backs now us n).length cc) (backs now us n).length ((backs now us n).map (.int .i64)) ∧ Bk w' g b n c lim rst (us.map (backOne lim now)) ∧ Only (· = b) w w' := by
  have c0 := h.blk.cell 0
  simp at c0
  have l1 := ho.l1
  have l2 := ho.l2
  have n9 := ho.n9
  have hbl := h.blt
  have hgl := h.lt
  obtain ⟨i0, hi, hz0, hz1, hz2⟩ := info_parts info_int
  go_enter Tryd.func20, Tryd.ntmps20
  go_wp2_with fail
  go_loopw [5, 15] (fun v i wr => ∃ k : Nat, k ≤ n ∧ i = .int .i64 k ∧ wr.ownsRow w.heap.size 3 1 v (backs now us k).length ((backs now us k).map (.int .i64)) ∧ Bk wr g b n c lim rst (backK lim now us k) ∧ Hid (Only (· = b) w wr)) (fun _ i _ => n - (intOf i).toNat)
  case atStart => exact ⟨0, by omega, rfl, World.ownsRow_nil _ _ _ _, by rw [backK_zero]; exact h, Lib.hid (Only.refl _ _)⟩
  case round =>
    obtain ⟨k, hk, rfl, hown, hbr, hst⟩ := hrel
    clear c0
    have c0 := hbr.blk.cell 0
    have c1 := hbr.blk.cell 1
    simp at c0 c1
    obtain ⟨A, cc, rfl⟩ := own_shape hown
    have hle := backs_le now us k
    have hsz := hst.out.size
    by_cases hlt : k < n
    · obtain ⟨u, hu⟩ := h.get hlt
      have hur := backK_at hu lim now
      obtain ⟨k0, k1, k2, k3, k4, k5, k6⟩ := hbr.seven hur
      rcases hr : isBack now u with _ | _
      · have hsn := backs_out hu hr
        have hbs := backK_succ hu lim now
        have hone : backOne lim now u = u := by unfold backOne; simp [hr]
        rw [hone] at hbs
        have hset : (backK lim now us k).set k u = backK lim now us k := by
          refine List.ext_getElem? fun j => ?_
          by_cases e : k = j
          · subst e; rw [get_set hur u, hur]
          · rw [List.getElem?_set_ne e]
        rw [hset] at hbs
        have Hsn := Lib.hid hsn
        have Hbs := Lib.hid hbs
        clear hsn hbs hone hset
        rcases hrr : u.rests with _ | _
        · rw [hrr] at k4
          clear hr hrr hu hur
          go_wp2_with fail
          go_roundw
          case rel => exact ⟨k + 1, by omega, by go_num, by rw [Hsn.out]; exact hown, by rw [Hbs.out]; exact hbr, hst⟩
          case measure => simp [intOf]; omega
        · have hq : decide (u.til ≤ now) = false := by unfold isBack at hr; simpa [hrr] using hr
          rw [hrr] at k4
          clear hr hrr hu hur
          go_wp2_with fail
          go_roundw
          case rel => exact ⟨k + 1, by omega, by go_num, by rw [Hsn.out]; exact hown, by rw [Hbs.out]; exact hbr, hst⟩
          case measure => simp [intOf]; omega
      · have hsn := backs_in hu hr
        have hbs := backK_succ hu lim now
        have hone : backOne lim now u = backUp lim u := by unfold backOne; simp [hr]
        rw [hone] at hbs
        have hrr : u.rests = true := by unfold isBack at hr; simp at hr; exact hr.1
        have hq : decide (u.til ≤ now) = true := by unfold isBack at hr; simp at hr; exact decide_eq_true hr.2
        rw [hrr] at k4
        have f0 := hbr.own.frozenAt (k * 7)
        have f4 := hbr.own.frozenAt (k * 7 + 4)
        have f5 := hbr.own.frozenAt (k * 7 + 5)
        have f6 := hbr.own.frozenAt (k * 7 + 6)
        have e1 := hbr.set_ (u' := { u with rests := false }) (v := .bool false) hur 4 (by omega) rfl
        have e2 := e1.set_ (u' := { u with rests := false, til := 0 }) (v := .int .i64 0) (get_set hur _) 5 (by omega) rfl
        have e3 := e2.set_ (u' := { u with rests := false, til := 0, score := lim }) (v := .int .i64 lim) (get_set (get_set hur _) _) 0 (by omega) rfl
        have e4 := e3.set_ (u' := { u with rests := false, til := 0, score := lim, trial := true }) (v := .bool true) (get_set (get_set (get_set hur _) _) _) 6 (by omega) rfl
        simp only [set_set] at e4
        have e5 := ((((hst.out.setCell (p := ⟨b, k * 7 + 4, none⟩) (.inl rfl) (.bool false)).setCell (p := ⟨b, k * 7 + 5, none⟩) (.inl rfl) (.int .i64 0)).setCell (p := ⟨b, k * 7, none⟩) (.inl rfl) (.int .i64 lim)).setCell (p := ⟨b, k * 7 + 6, none⟩) (.inl rfl) (.bool true))
        have ex := ((((Only.refl (· = b) wr).setCell (p := ⟨b, k * 7 + 4, none⟩) (.inl rfl) (.bool false)).setCell (p := ⟨b, k * 7 + 5, none⟩) (.inl rfl) (.int .i64 0)).setCell (p := ⟨b, k * 7, none⟩) (.inl rfl) (.int .i64 lim)).setCell (p := ⟨b, k * 7 + 6, none⟩) (.inl rfl) (.bool true)
        have Hsn := Lib.hid hsn
        have Hbs := Lib.hid hbs
        have hne := hbr.ne
        have ho4 := own_only hown ex (fun q hq => by
          have := hown.lt q hq
          intro e
          have e' : q = b := e
          omega)
        clear hsn hbs hone e1 e2 e3 hr hrr
        go_wp2_with fail
        generalize (((wr.setCell ⟨b, k * 7 + 4, none⟩ (.bool false)).setCell ⟨b, k * 7 + 5, none⟩ (.int .i64 0)).setCell ⟨b, k * 7, none⟩ (.int .i64 lim)).setCell ⟨b, k * 7 + 6, none⟩ (.bool true) = w4 at *
        generalize hx : ({ u with rests := false, til := 0, score := lim, trial := true } : Up) = x at *
        have hxg := get_set hur x
        have hxt : x.trial = true := by rw [← hx]
        have hxs : x.score = lim := by rw [← hx]
        have hxe : endTrial lim x = backUp lim u := by rw [← hx]; rfl
        have hrec := rec_back e4 ho k hxg hxt (by omega) (by omega) now
        rw [set_set, hxe, ← Hbs.out] at hrec
        clear hx hxg hxt hxs hxe e4 ex hown hbr hst f0 f4 f5 f6 k0 k1 k2 k3 k4 k5 k6 c0 c1 hu hur
        refine hrec.mono ?_
        rintro e w5 ⟨rfl, hb5, ho5⟩
        have hown5 := own_only ho4 ho5 (fun q hq => by
          have := ho4.lt q hq
          intro e
          have e' : q = b := e
          omega)
        have e6 := e5.trans ho5 (fun _ _ h => h)
        clear ho4 ho5 e5 hrec
        have hp1 := hown5.alloc (.cells #[.int .i64 k] 3)
        have hrd := reads_made w5 3 .i64 [(k : Int)] 1 rfl
        have hsz5 := e6.size
        go_wp2_with (at_builtin; refine wpList_append_any _ rfl (.tmp 56) (.tmp 58) 37 rfl w.heap.size 3 i0 (.int .i64 0) 1 8 Tryd.underlying37 hi hz0 hz1 hz2 rfl (by decide) _ _ _ rfl hp1 _ (some _) 1 1 _ rfl hrd ?c1 ?c2 ?c3 ?c4 ?_)
        case c1 => intro v hv; simp at hv; subst hv; rfl
        case c2 => unfold maxLen; omega
        case c3 => omega
        case c4 => simp; omega
        intro v' w' hown' hgrow hblk
        have hst' := (e6.alloc (.cells #[.int .i64 k] 3)).grown hgrow (fun k hk => .inr (hown5.lt k hk).1)
        have hq : Only (fun q => w.heap.size ≤ q) (w5.alloc (.cells #[.int .i64 k] 3)) w' := (Only.refl _ _).grown hgrow (fun k hk => .inl (hown5.lt k hk).1)
        have hbk' := (hb5.still (Still.new w5 (.cells #[.int .i64 k] 3))).only hq (by omega) (by omega)
        obtain ⟨A', c', hv⟩ := own_shape hown'
        subst hv
        go_wp2_with fail
        go_roundw
        case rel =>
          refine ⟨k + 1, by omega, by go_num, ?_, hbk', Lib.hid hst'⟩
          rw [Hsn.out, List.length_append, List.map_append]
          exact hown'
        case measure => simp [intOf]; omega
    · obtain rfl : k = n := by omega
      have hm : backK lim now us k = us.map (backOne lim now) := by rw [← h.len, backK_all]
      rw [hm] at hbr
      have hM : ∃ M, M = backs now us k := ⟨_, rfl⟩
      obtain ⟨M, hM⟩ := hM
      rw [← hM] at hown
      rw [← hM]
      have HM := Lib.hid hM
      clear hM hm
      go_wp2_with fail
      go_ret
      rw [← HM.out]
      exact ⟨A, cc, rfl, hown, hbr, hst.out⟩
end
end Go.Proofs.YtdcogjlcbdkdcaaDoor
