/-
  Package repute: Due.
-/
import Derived.Test.YtfbknjboceheaaaDoorRepLive
namespace Go.Proofs.YtfbknjboceheaaaDoor
open Go.RowKit
set_option linter.unusedVariables false
set_option linter.unusedSimpArgs false

def dueStep (d : Int × Bool) (u : Up) : Int × Bool := if u.rests && (!d.2 || decide (u.til < d.1)) then (u.til, true) else d
def dueK (us : List Up) (k : Nat) : Int × Bool := (us.take k).foldl dueStep (0, false)
theorem dueK_succ {us : List Up} {k : Nat} {u : Up} (h : us[k]? = some u) : dueK us (k + 1) = dueStep (dueK us k) u := by
  unfold dueK
  rw [List.take_add_one, h, List.foldl_append]
  rfl

section
variable {w : World} {g b n c : Nat} {lim rst : Int} {us : List Up}
set_option maxRecDepth 1000000 in
set_option maxHeartbeats 6400000 in
theorem due_any (h : Bk w g b n c lim rst us) (n9 : n ≤ 9) :
    Calls Tryd.prog 20 #[.pointer (some ⟨g, 0, none⟩)] w fun e w' => e = .returned (.tuple #[.int .i64 (dueK us n).1, .bool (dueK us n).2]) ∧ Still w w' := by
  have c0 := h.blk.cell 0
  simp at c0
  go_enter Tryd.func20, Tryd.ntmps20
  go_wp2_with fail
  go_loopw [4, 5, 15] (fun d is i wr => ∃ (k : Nat) (D : Int) (B : Bool), k ≤ n ∧ i = .int .i64 k ∧ d = .int .i64 D ∧ is = .bool B ∧ Hid (dueK us k = (D, B)) ∧ Hid (Still w wr)) (fun _ _ i _ => n - (intOf i).toNat)
  case atStart => exact ⟨0, 0, false, by omega, rfl, rfl, rfl, Lib.hid rfl, Lib.hid (Only.refl _ _)⟩
  case round =>
    obtain ⟨k, D, B, hk, rfl, rfl, rfl, hD, hst⟩ := hrel
    have hbr := h.still hst.out
    by_cases hlt : k < n
    · obtain ⟨u, hu⟩ := h.get hlt
      obtain ⟨k0, k1, k2, k3, k4, k5, k6⟩ := hbr.seven hu
      have hs := dueK_succ hu
      rw [hD.out] at hs
      have hst2 := hst.out.alloc (.cells #[.int .i64 u.score, .int .i64 u.ag, .int .i64 u.ds, .int .i64 u.si, .bool u.rests, .int .i64 u.til, .bool u.trial] 62)
      rcases hr : u.rests with _ | _
      · have hs' : dueK us (k + 1) = (D, B) := by rw [hs]; unfold dueStep; simp [hr]
        have Hs := Lib.hid hs'
        rw [hr] at k4 hst2
        clear hs hs' hr hu hD
        go_wp2_with fail
        go_roundw
        case rel => exact ⟨k + 1, D, B, by omega, by go_num, rfl, rfl, Hs, Lib.hid hst2⟩
        case measure => simp [intOf] <;> omega
      · rcases hB : B with _ | _
        · have hs' : dueK us (k + 1) = (u.til, true) := by rw [hs]; unfold dueStep; simp [hr, hB]
          have Hs := Lib.hid hs'
          rw [hr] at k4 hst2
          clear hs hs' hr hu hD
          subst hB
          go_wp2_with fail
          go_roundw
          case rel => exact ⟨k + 1, u.til, true, by omega, by go_num, rfl, rfl, Hs, Lib.hid hst2⟩
          case measure => simp [intOf] <;> omega
        · by_cases ht : u.til < D
          · have hs' : dueK us (k + 1) = (u.til, true) := by rw [hs]; unfold dueStep; simp [hr, hB, ht]
            have Hs := Lib.hid hs'
            have hd := decide_eq_true ht
            rw [hr] at k4 hst2
            clear hs hs' hr hu hD
            subst hB
            go_wp2_with fail
            go_roundw
            case rel => exact ⟨k + 1, u.til, true, by omega, by go_num, rfl, rfl, Hs, Lib.hid hst2⟩
            case measure => simp [intOf] <;> omega
          · have hs' : dueK us (k + 1) = (D, true) := by rw [hs]; unfold dueStep; simp [hr, hB, ht]
            have Hs := Lib.hid hs'
            have hd := decide_eq_false ht
            rw [hr] at k4 hst2
            clear hs hs' hr hu hD
            subst hB
            go_wp2_with fail
            go_roundw
            case rel => exact ⟨k + 1, D, true, by omega, by go_num, rfl, rfl, Hs, Lib.hid hst2⟩
            case measure => simp [intOf] <;> omega
    · obtain rfl : n = k := by omega
      go_wp2_with fail
      go_ret2
      rw [hD.out]
      exact ⟨rfl, hst.out⟩
end

/-- One alone may rest. -/
structure One (us : List Up) (i : Nat) (y : Up) : Prop where
  at_ : us[i]? = some y
  no : ∀ (k : Nat) (v : Up), us[k]? = some v → k ≠ i → v.rests = false
theorem One.due {us : List Up} {i : Nat} {y : Up} (h : One us i y) (hr : y.rests = true) : ∀ k, k ≤ us.length → dueK us k = if i < k then (y.til, true) else (0, false)
  | 0, _ => by simp [dueK]
  | k + 1, hk => by
    have hu : us[k]? = some us[k] := List.getElem?_eq_getElem (by omega)
    rw [dueK_succ hu, One.due h hr k (by omega)]
    unfold dueStep
    by_cases e : k = i
    · subst e
      have hy : us[k] = y := Option.some.inj (hu.symm.trans h.at_)
      rw [hy]
      simp [hr]
    · have hf := h.no k _ hu e
      rw [hf]
      by_cases hik : i < k
      · have h1 : i < k + 1 := by omega
        simp [hik, h1]
      · have h1 : ¬ i < k + 1 := by omega
        simp [hik, h1]
theorem One.backs {us : List Up} {i : Nat} {y : Up} (h : One us i y) (hr : y.rests = true) (now : Int) : ∀ k, k ≤ us.length → backs now us k = if i < k ∧ y.til ≤ now then [(i : Int)] else []
  | 0, _ => by simp [Proofs.YtfbknjboceheaaaDoor.backs]
  | k + 1, hk => by
    have hu : us[k]? = some us[k] := List.getElem?_eq_getElem (by omega)
    have ih := One.backs h hr now k (by omega)
    by_cases e : k = i
    · subst e
      have hy : us[k] = y := Option.some.inj (hu.symm.trans h.at_)
      have n1 : ¬ (k < k ∧ y.til ≤ now) := by omega
      rw [if_neg n1] at ih
      by_cases ht : y.til ≤ now
      · have hb : isBack now us[k] = true := by rw [hy]; unfold isBack; simp [hr, ht]
        rw [backs_in hu hb, ih, if_pos ⟨by omega, ht⟩]
        rfl
      · have hb : isBack now us[k] = false := by rw [hy]; unfold isBack; simp [ht]
        rw [backs_out hu hb, ih, if_neg (fun h => ht h.2)]
    · have hb : isBack now us[k] = false := by unfold isBack; simp [h.no k _ hu e]
      rw [backs_out hu hb, ih]
      by_cases hik : i < k
      · have h1 : i < k + 1 := by omega
        simp [hik, h1]
      · have h1 : ¬ i < k + 1 := by omega
        simp [hik, h1]
theorem One.map {us : List Up} {i : Nat} {y : Up} (h : One us i y) (lim now : Int) : One (us.map (backOne lim now)) i (backOne lim now y) := by
  refine ⟨by rw [List.getElem?_map, h.at_]; rfl, fun k v hv hne => ?_⟩
  rw [List.getElem?_map] at hv
  obtain ⟨v', hv', rfl⟩ := Option.map_eq_some_iff.1 hv
  have hf := h.no k v' hv' hne
  have : isBack now v' = false := by unfold isBack; simp [hf]
  unfold backOne
  rw [this]
  simpa using hf
theorem One.upd {us : List Up} {i : Nat} {y : Up} (h : One us i y) (f : Up → Up) : One (upd us (i : Int) f) i (f y) := by
  refine ⟨by rw [upd_get, h.at_]; simp, fun k v hv hne => ?_⟩
  rw [upd_get] at hv
  obtain ⟨v', hv', rfl⟩ := Option.map_eq_some_iff.1 hv
  have e' : ¬ ((k : Int) = (i : Int)) := by omega
  rw [if_neg e']
  exact h.no k v' hv' hne
end Go.Proofs.YtfbknjboceheaaaDoor
