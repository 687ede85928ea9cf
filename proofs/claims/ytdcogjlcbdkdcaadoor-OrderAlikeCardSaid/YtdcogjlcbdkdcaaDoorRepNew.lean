/-
  Package repute: New, slices.Clone, Copy.
-/
import Derived.Test.YtdcogjlcbdkdcaaDoorRepBack
namespace Go.Proofs.YtdcogjlcbdkdcaaDoor
open Go.RowKit
set_option linter.unusedVariables false
set_option linter.unusedSimpArgs false

def zups : Value := .agg #[.int .i64 0, .int .i64 0, .int .i64 0, .int .i64 0, .bool false, .int .i64 0, .bool false]
theorem info_ups : (Tryd.prog.info? 81).map (fun i => (i.zero, i.size, i.bytes)) = some (some zups, 7, 56) := by kernel_rfl
theorem made_rows : ∀ n, n ≤ 9 → (madeCells zups.cells (n * 7)).toList = rowC (List.replicate n up0)
  | 0, _ => by kernel_rfl
  | 1, _ => by kernel_rfl
  | 2, _ => by kernel_rfl
  | 3, _ => by kernel_rfl
  | 4, _ => by kernel_rfl
  | 5, _ => by kernel_rfl
  | 6, _ => by kernel_rfl
  | 7, _ => by kernel_rfl
  | 8, _ => by kernel_rfl
  | 9, _ => by kernel_rfl
  | n + 10, h => by omega
theorem own_more {w : World} {base base' : Nat} {e : TypeId} {size n : Nat} {v : Value} {xs : List Value} (hb : base' ≤ base) (h : w.ownsRow base e size v n xs) : w.ownsRow base' e size v n xs := by
  refine ⟨h.1, ?_⟩
  rcases h.2 with h1 | ⟨g, cap, cur, h1, h2, h3⟩
  · exact .inl h1
  · exact .inr ⟨g, cap, cur, h1, Nat.le_trans hb h2, h3⟩
def up1 : Up := ⟨100, 0, 0, 0, false, 0, false⟩
def mapK (f : Up → Up) (us : List Up) (k : Nat) : List Up := us.mapIdx fun j u => if j < k then f u else u
theorem mapK_get (f : Up → Up) (us : List Up) (k i : Nat) : (mapK f us k)[i]? = (us[i]?).map fun u => if i < k then f u else u := by unfold mapK; rw [List.getElem?_mapIdx]
theorem mapK_zero (f : Up → Up) (us : List Up) : mapK f us 0 = us := by
  refine List.ext_getElem? fun k => ?_
  rw [mapK_get]
  simp
theorem mapK_all (f : Up → Up) (us : List Up) : mapK f us us.length = us.map f := by
  refine List.ext_getElem? fun k => ?_
  rw [mapK_get, List.getElem?_map]
  rcases hk : us[k]? with _ | u
  · rfl
  · have := (List.getElem?_eq_some_iff.1 hk).1
    simp [this]
theorem mapK_at {us : List Up} {k : Nat} {u : Up} (h : us[k]? = some u) (f : Up → Up) : (mapK f us k)[k]? = some u := by rw [mapK_get, h]; simp
theorem mapK_succ {us : List Up} {k : Nat} {u : Up} (h : us[k]? = some u) (f : Up → Up) : mapK f us (k + 1) = (mapK f us k).set k (f u) := by
  refine List.ext_getElem? fun i => ?_
  rw [mapK_get]
  by_cases e : k = i
  · subst e
    rw [get_set (mapK_at h f), h]
    simp
  · rw [List.getElem?_set_ne e, mapK_get]
    rcases us[i]? with _ | v
    · rfl
    · have : (i < k + 1) = (i < k) := by apply propext; omega
      simp [this]

section
variable {w : World} {g b n c : Nat} {lim rst : Int} {us : List Up}

set_option maxRecDepth 1000000 in
set_option maxHeartbeats 6400000 in
theorem New_in (w : World) {n : Nat} {lim rst : Int} (ho : BOK n lim rst) (hodd : n % 2 = 1) :
    Calls Tryd.prog 17 #[.int .i64 n, .int .i64 lim, .int .i64 rst] w fun e w' => ∃ g b, e = .returned (.tuple #[.pointer (some ⟨g, 0, none⟩), .int .i64 0]) ∧ w.heap.size ≤ g ∧ w.heap.size ≤ b ∧ Bk w' g b n n lim rst (List.replicate n up1) ∧ Still w w' := by
  have n1 := ho.n1
  have n9 := ho.n9
  have l1 := ho.l1
  have l2 := ho.l2
  have r1 := ho.r1
  have r2 := ho.r2
  have d1 : decide ((n : Int) < 1) = false := decide_eq_false (by omega)
  have d2 : decide (9 < (n : Int)) = false := decide_eq_false (by omega)
  have d3 : decide (lim < 1) = false := decide_eq_false (by omega)
  have d4 : decide (100 < lim) = false := decide_eq_false (by omega)
  have d5 : decide (rst < 1) = false := decide_eq_false (by omega)
  have d6 : decide (100000 < rst) = false := decide_eq_false (by omega)
  have d7 : (n : Int).tmod 2 = 1 := by rw [Int.tmod_eq_emod_of_nonneg (by omega)]; omega
  obtain ⟨i0, hi, hz0, hz1, hz2⟩ := info_parts info_ups
  obtain ⟨w1, hmk, hown, hgr⟩ := run_makeSlice_full (P := Tryd.prog) (w := w) w.heap.size 47 81 i0 zups 7 Tryd.underlying47 hi hz0 hz1 .i64 .i64 n (by omega) (by rw [hz2]; omega) (by unfold maxLen; omega) (Nat.le_refl _)
  rw [made_rows n n9] at hown
  have hs1 : Still w w1 := (Only.refl _ w).grown hgr (fun k hk => by cases hk)
  have hlt := (hown.lt _ rfl)
  have hB : Bk (w1.alloc (.cells #[.slice (some ⟨w.heap.size, 0, none⟩) n n, .int .i64 lim, .int .i64 rst] 49)) w1.heap.size w.heap.size n n lim rst (List.replicate n up0) := by
    refine ⟨Blk.new _ _ _, by simp, ?_⟩
    exact own_more (Nat.zero_le _) (hown.alloc _)
  have hs2 : Still w (w1.alloc (.cells #[.slice (some ⟨w.heap.size, 0, none⟩) n n, .int .i64 lim, .int .i64 rst] 49)) := hs1.alloc _
  clear hown hgr hi hz0 hz1 hz2
  go_enter Tryd.func17, Tryd.ntmps17
  go_wp2_with fail
  clear hmk hs1
  obtain ⟨w2, hw2⟩ : ∃ w2, w2 = w1.alloc (.cells #[.slice (some ⟨w.heap.size, 0, none⟩) n n, .int .i64 lim, .int .i64 rst] 49) := ⟨_, rfl⟩
  rw [← hw2] at hB hs2 ⊢
  obtain ⟨G, hG⟩ : ∃ G, G = w1.heap.size := ⟨_, rfl⟩
  rw [← hG] at hB ⊢
  have hGs : w.heap.size ≤ G := by omega
  clear hw2 hG hlt d1 d2 d3 d4 d5 d6 d7
  go_loopw [9, 48] (fun _ i wr => ∃ k : Nat, k ≤ n ∧ i = .int .i64 k ∧ Bk wr G w.heap.size n n lim rst (mapK (fun _ => up1) (List.replicate n up0) k) ∧ Hid (Still w wr)) (fun _ i _ => n - (intOf i).toNat)
  case atStart => exact ⟨0, by omega, rfl, by rw [mapK_zero]; exact hB, Lib.hid hs2⟩
  case round =>
    obtain ⟨k, hk, rfl, hb, hst⟩ := hrel
    clear hB hs2
    have c0 := hb.blk.cell 0
    simp at c0
    have hsz := hst.out.size
    by_cases hlt : k < n
    · have hu : (List.replicate n up0)[k]? = some up0 := by simp [hlt]
      have hur := mapK_at hu (fun _ => up1)
      have f0 := hb.own.frozenAt (k * 7)
      have e1 := hb.set_ (u' := up1) (v := .int .i64 100) hur 0 (by omega) rfl
      have e2 := hst.out.setCell (p := ⟨w.heap.size, k * 7, none⟩) (.inr (Nat.le_refl _)) (.int .i64 100)
      have Hs := Lib.hid (mapK_succ hu (fun _ => up1))
      have k0 := (hb.seven hur).1
      clear hu hur
      go_wp2_with fail
      go_roundw
      case rel => exact ⟨k + 1, by omega, by go_num, by rw [Hs.out]; exact e1, Lib.hid e2⟩
      case measure => simp [intOf]; omega
    · obtain rfl : k = n := by omega
      have hm : mapK (fun _ => up1) (List.replicate k up0) k = List.replicate k up1 := by
        have h := mapK_all (fun _ => up1) (List.replicate k up0)
        rw [List.length_replicate] at h
        rw [h]
        simp
      rw [hm] at hb
      go_wp2_with fail
      go_ret2
      exact ⟨G, w.heap.size, rfl, hGs, Nat.le_refl _, hb, hst.out⟩

theorem ups_not_nil (A : Addr) (n c : Nat) (w : World) : (binOp .eql 47 (.slice (some A) n c) (.slice none 0 0)).run Tryd.prog w = .ok (.bool false) w := by kernel_rfl
theorem upC_one (us : List Up) : ∀ v ∈ rowC us, v.oneCell' = true := by
  intro v hv
  unfold rowC at hv
  rw [List.mem_flatten] at hv
  obtain ⟨r, hr, hv⟩ := hv
  obtain ⟨u, _, rfl⟩ := List.mem_map.1 hr
  simp [upC] at hv
  rcases hv with rfl | rfl | rfl | rfl | rfl | rfl | rfl <;> rfl

set_option maxRecDepth 1000000 in
set_option maxHeartbeats 6400000 in
theorem Clone_any (h : Bk w g b n c lim rst us) (hn : n ≤ 9) (h1 : 1 ≤ n) :
    Calls Tryd.prog 47 #[.slice (some ⟨b, 0, none⟩) n c] w fun e w' => ∃ b' c', e = .returned (.slice (some ⟨b', 0, none⟩) n c') ∧ w.heap.size ≤ b' ∧ w'.ownsRow w.heap.size 81 7 (.slice (some ⟨b', 0, none⟩) n c') n (rowC us) ∧ Still w w' := by
  have hnn := ups_not_nil ⟨b, 0, none⟩ n c w
  obtain ⟨i0, hi, hz0, hz1, hz2⟩ := info_parts info_ups
  go_enter Tryd.func47, Tryd.ntmps47
  have hp : (w.alloc (.cells #[] 81)).ownsRow w.heap.size 81 7 (.slice (some ⟨w.heap.size, 0, none⟩) 0 0) 0 [] := World.ownsRow_made w #[] 0 (Nat.le_refl _) (by unfold maxLen; omega) rfl
  have hrd := (Reads.of_own h.own).alloc (Nat.le_refl _) (.cells #[] 81)
  go_wp2_with (at_builtin; refine wpList_append_any _ rfl (.tmp 5) (.tmp 6) 47 rfl w.heap.size 81 i0 zups 7 56 Tryd.underlying47 hi hz0 hz1 hz2 rfl (by decide) _ _ _ rfl hp _ (some _) n c _ rfl hrd ?c1 ?c2 ?c3 ?c4 ?_)
  case c1 => exact upC_one us
  case c2 => unfold maxLen; omega
  case c3 => omega
  case c4 => simp
  intro v' w' hown' hgrow hblk
  have hst' := (Still.new w (.cells #[] 81)).grown hgrow (fun k hk => .inr (by simp [Value.ownBlock] at hk; omega))
  obtain ⟨A', c', hv⟩ := own_shape hown'
  subst hv
  go_wp2_with fail
  go_ret
  rcases hown'.2 with ⟨_, h0⟩ | ⟨b', cap, cur, h2, h3, h4⟩
  · omega
  · injection h2 with h5 h6 h7
    subst h5
    subst h7
    exact ⟨b', c', rfl, h3, hown', hst'⟩

set_option maxRecDepth 1000000 in
set_option maxHeartbeats 6400000 in
theorem Copy_any (h : Bk w g b n c lim rst us) (hn : n ≤ 9) (h1 : 1 ≤ n) :
    Calls Tryd.prog 23 #[.pointer (some ⟨g, 0, none⟩)] w fun e w' => ∃ g' b' c', e = .returned (.pointer (some ⟨g', 0, none⟩)) ∧ w.heap.size ≤ g' ∧ w.heap.size ≤ b' ∧ Bk w' g' b' n c' lim rst us ∧ Still w w' := by
  have c0 := h.blk.cell 0
  have c1 := h.blk.cell 1
  have c2 := h.blk.cell 2
  simp at c0 c1 c2
  have hd := h.drew
  have hcl := Clone_any hd hn h1
  have Hcl := Lib.hid hcl
  clear hcl
  go_enter Tryd.func23, Tryd.ntmps23
  go_wp2_with fail
  go_region_held3 (fun w' => w'.cell? ⟨g, 0, none⟩ = some (.slice (some ⟨b, 0, none⟩) n c) ∧ w'.cell? ⟨g, 1, none⟩ = some (.int .i64 lim) ∧ w'.cell? ⟨g, 2, none⟩ = some (.int .i64 rst))
    (first | go_keep | exact ⟨hs6.cell_some (fun h => h) (show w.drew.cell? _ = _ from c0), hs6.cell_some (fun h => h) (show w.drew.cell? _ = _ from c1), hs6.cell_some (fun h => h) (show w.drew.cell? _ = _ from c2)⟩ | exact ⟨c0, c1, c2⟩)
    ((go_at_call 47; refine (Hcl.out).mono ?_; rintro e w6 ⟨b', c', rfl, hb6, hown6, hs6⟩))
  go_wp2
  go_ret
  exact ⟨w6.heap.size, b', c', rfl, hs6.size, hb6, ⟨Blk.new _ _ _, h.len, own_more (Nat.zero_le _) (hown6.alloc _)⟩, (((Only.refl (fun _ => False) w).drew).still hs6).alloc _⟩
end
end Go.Proofs.YtdcogjlcbdkdcaaDoor
