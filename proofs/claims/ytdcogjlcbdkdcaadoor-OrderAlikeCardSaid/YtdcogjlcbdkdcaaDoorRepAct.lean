/-
  Package repute: did, Agree, Silent, Dissent, whatever the upstream and the reading.
-/
import Derived.Test.YtdcogjlcbdkdcaaDoorRepDo
namespace Go.Proofs.YtdcogjlcbdkdcaaDoor
open Go.RowKit
set_option linter.unusedVariables false

def actUp (lim rst may n now : Int) (d : Nat) (u : Up) : Up := if d = 0 then agreeUp lim u else if d = 1 then dissentUp lim rst may n now u else silentUp lim u
/-- One upstream changed, where it is one. -/
def upd (us : List Up) (i : Int) (f : Up → Up) : List Up := us.mapIdx fun k u => if (k : Int) = i then f u else u
theorem upd_length (us : List Up) (i : Int) (f : Up → Up) : (upd us i f).length = us.length := by unfold upd; simp
theorem upd_get (us : List Up) (i : Int) (f : Up → Up) (k : Nat) : (upd us i f)[k]? = (us[k]?).map fun u => if (k : Int) = i then f u else u := by unfold upd; rw [List.getElem?_mapIdx]
theorem upd_in {us : List Up} {i : Nat} {u : Up} (h : us[i]? = some u) (f : Up → Up) : upd us (i : Int) f = us.set i (f u) := by
  refine List.ext_getElem? fun k => ?_
  rw [upd_get]
  by_cases e : i = k
  · subst e
    rw [get_set h (f u), h]
    simp
  · rw [List.getElem?_set_ne e]
    have e' : ¬ ((k : Int) = (i : Int)) := by omega
    simp only [e', if_false, Option.map_id']
theorem upd_out {us : List Up} {i : Int} (h : ¬ (0 ≤ i ∧ i < us.length)) (f : Up → Up) : upd us i f = us := by
  refine List.ext_getElem? fun k => ?_
  rw [upd_get]
  rcases hk : us[k]? with _ | u
  · rfl
  · have := (List.getElem?_eq_some_iff.1 hk).1
    have e' : ¬ ((k : Int) = i) := by omega
    simp only [e', if_false, Option.map_some]

def UsOK (us : List Up) : Prop := ∀ (k : Nat) (u : Up), us[k]? = some u → UOK u
section
variable {w : World} {g b n c : Nat} {lim rst : Int} {us : List Up}

theorem rec_any (h : Bk w g b n c lim rst us) (ho : BOK n lim rst) (hg : Gains w) (i : Nat) {u : Up} (hu : us[i]? = some u) (huo : UOK u) (now : Int) (hgb : 0 ≠ b) (d : Nat) (hd : d ≤ 2) (hn0 : 0 ≤ now) (hnow : now ≤ 1099511627776) :
    Calls Tryd.prog 46 #[.pointer (some ⟨g, 0, none⟩), .int .i64 i, .int .i64 d, .int .i64 now, .int .i64 0] w fun e w' => e = .returned (.tuple #[]) ∧ Bk w' g b n c lim rst (us.set i (actUp lim rst (mayL us).length n now d u)) ∧ Only (· = b) w w' := by
  match d, hd with
  | 0, _ => exact rec_agree h ho hg i hu huo now hgb
  | 1, _ =>
    unfold actUp dissentUp
    rcases hsp : spare lim (mayL us).length n (hitUp u) with _ | _
    · simpa [hsp] using rec_dissent h ho hg i hu huo now hgb hsp hn0 hnow
    · simpa [hsp] using rec_rest h ho hg i hu huo now hgb hsp hn0 hnow
  | 2, _ => exact rec_silent h ho hg i hu huo now hgb

set_option maxRecDepth 1000000 in
set_option maxHeartbeats 6400000 in
theorem did_any (h : Bk w g b n c lim rst us) (ho : BOK n lim rst) (hg : Gains w) (huo : UsOK us) (i now : Int) (hgb : 0 ≠ b) (d : Nat) (hd : d ≤ 2) (hn0 : 0 ≤ now) (hnow : now ≤ 1099511627776) :
    Calls Tryd.prog 44 #[.pointer (some ⟨g, 0, none⟩), .int .i64 i, .int .i64 d, .int .i64 now] w fun e w' => e = .returned (.int .i64 (if 0 ≤ i ∧ i < n then 0 else 1)) ∧ Bk w' g b n c lim rst (upd us i (actUp lim rst (mayL us).length n now d)) ∧ Only (· = b) w w' := by
  by_cases hi : 0 ≤ i ∧ i < (n : Int)
  · obtain ⟨k, rfl⟩ : ∃ k : Nat, i = (k : Int) := ⟨i.toNat, by omega⟩
    obtain ⟨u, hu⟩ := h.get (i := k) (by omega)
    rw [if_pos hi, upd_in hu]
    generalize hv : us.set k (actUp lim rst (mayL us).length n now d u) = vs
    have hrec := rec_any h ho hg k hu (huo k u hu) now hgb d hd hn0 hnow
    rw [hv] at hrec
    have Hrec := Lib.hid hrec
    clear hrec hv hu huo hg
    go_enter Tryd.func44, Tryd.ntmps44
    go_wp2_with fail
    refine (is_in h k (by omega)).mono ?_
    rintro e w' ⟨rfl, rfl⟩
    go_wp2_with fail
    refine (Hrec.out).mono ?_
    rintro e w' ⟨rfl, h1, h2⟩
    go_wp2_with fail
    go_ret
    exact ⟨rfl, h1, h2⟩
  · rw [if_neg hi, upd_out (by rw [h.len]; exact hi)]
    go_enter Tryd.func44, Tryd.ntmps44
    go_wp2_with fail
    refine (is_out h i hi).mono ?_
    rintro e w' ⟨rfl, rfl⟩
    go_wp2_with fail
    go_ret
    exact ⟨rfl, h, Only.refl _ _⟩

set_option maxRecDepth 1000000 in
theorem did_nil (w : World) (i now d : Int) :
    Calls Tryd.prog 44 #[.pointer none, .int .i64 i, .int .i64 d, .int .i64 now] w fun e w' => e = .returned (.int .i64 2) ∧ w = w' := by
  go_enter Tryd.func44, Tryd.ntmps44
  go_wp2_with fail
  go_ret
  exact ⟨rfl, rfl⟩

set_option maxRecDepth 1000000 in
theorem Agree_any (h : Bk w g b n c lim rst us) (ho : BOK n lim rst) (hg : Gains w) (huo : UsOK us) (i : Int) (hgb : 0 ≠ b) :
    Calls Tryd.prog 31 #[.pointer (some ⟨g, 0, none⟩), .int .i64 i] w fun e w' => e = .returned (.int .i64 (if 0 ≤ i ∧ i < n then 0 else 1)) ∧ Bk w' g b n c lim rst (upd us i (agreeUp lim)) ∧ Only (· = b) w w' := by
  go_enter Tryd.func31, Tryd.ntmps31
  go_wp2_with fail
  refine (did_any h ho hg huo i 0 hgb 0 (by omega) (by omega) (by omega)).mono ?_
  rintro e w' ⟨rfl, h1, h2⟩
  go_wp2_with fail
  all_goals go_ret
  all_goals exact ⟨rfl, h1, h2⟩
set_option maxRecDepth 1000000 in
theorem Agree_nil (w : World) (i : Int) :
    Calls Tryd.prog 31 #[.pointer none, .int .i64 i] w fun e w' => e = .returned (.int .i64 2) ∧ w = w' := by
  go_enter Tryd.func31, Tryd.ntmps31
  go_wp2_with fail
  refine (did_nil w i 0 0).mono ?_
  rintro e w' ⟨rfl, rfl⟩
  go_wp2_with fail
  go_ret
  exact ⟨rfl, rfl⟩

set_option maxRecDepth 1000000 in
theorem Silent_any (h : Bk w g b n c lim rst us) (ho : BOK n lim rst) (hg : Gains w) (huo : UsOK us) (i : Int) (hgb : 0 ≠ b) :
    Calls Tryd.prog 34 #[.pointer (some ⟨g, 0, none⟩), .int .i64 i] w fun e w' => e = .returned (.int .i64 (if 0 ≤ i ∧ i < n then 0 else 1)) ∧ Bk w' g b n c lim rst (upd us i (silentUp lim)) ∧ Only (· = b) w w' := by
  go_enter Tryd.func34, Tryd.ntmps34
  go_wp2_with fail
  refine (did_any h ho hg huo i 0 hgb 2 (by omega) (by omega) (by omega)).mono ?_
  rintro e w' ⟨rfl, h1, h2⟩
  go_wp2_with fail
  all_goals go_ret
  all_goals exact ⟨rfl, h1, h2⟩
set_option maxRecDepth 1000000 in
theorem Silent_nil (w : World) (i : Int) :
    Calls Tryd.prog 34 #[.pointer none, .int .i64 i] w fun e w' => e = .returned (.int .i64 2) ∧ w = w' := by
  go_enter Tryd.func34, Tryd.ntmps34
  go_wp2_with fail
  refine (did_nil w i 0 2).mono ?_
  rintro e w' ⟨rfl, rfl⟩
  go_wp2_with fail
  go_ret
  exact ⟨rfl, rfl⟩

def nowOk (now : Int) : Prop := 0 ≤ now ∧ now ≤ 1099511627776
instance (now : Int) : Decidable (nowOk now) := by unfold nowOk; infer_instance
set_option maxRecDepth 1000000 in
set_option maxHeartbeats 6400000 in
theorem Dissent_any (h : Bk w g b n c lim rst us) (ho : BOK n lim rst) (hg : Gains w) (huo : UsOK us) (i now : Int) (hgb : 0 ≠ b) :
    Calls Tryd.prog 18 #[.pointer (some ⟨g, 0, none⟩), .int .i64 i, .int .i64 now] w fun e w' => e = .returned (.int .i64 (if nowOk now ∧ 0 ≤ i ∧ i < n then 0 else 1)) ∧ Bk w' g b n c lim rst (if nowOk now then upd us i (dissentUp lim rst (mayL us).length n now) else us) ∧ Only (· = b) w w' := by
  by_cases h0 : now < 0
  · have e0 : ¬ nowOk now := by unfold nowOk; omega
    have hd : decide (now < 0) = true := decide_eq_true h0
    simp only [e0, false_and, if_false]
    clear e0
    go_enter Tryd.func18, Tryd.ntmps18
    go_wp2_with fail
    go_ret
    exact ⟨rfl, h, Only.refl _ _⟩
  · by_cases h1 : 1099511627776 < now
    · have e0 : ¬ nowOk now := by unfold nowOk; omega
      have hd : decide (now < 0) = false := decide_eq_false h0
      have hd1 : decide (1099511627776 < now) = true := decide_eq_true h1
      simp only [e0, false_and, if_false]
      clear e0
      go_enter Tryd.func18, Tryd.ntmps18
      go_wp2_with fail
      go_ret
      exact ⟨rfl, h, Only.refl _ _⟩
    · have e0 : nowOk now := by unfold nowOk; omega
      have hd : decide (now < 0) = false := decide_eq_false h0
      have hd1 : decide (1099511627776 < now) = false := decide_eq_false h1
      simp only [e0, true_and, if_true]
      clear e0
      have Hd := Lib.hid (did_any h ho hg huo i now hgb 1 (by omega) (by omega) (by omega))
      go_enter Tryd.func18, Tryd.ntmps18
      go_wp2_with fail
      refine (Hd.out).mono ?_
      rintro e w' ⟨rfl, h1, h2⟩
      go_wp2_with fail
      all_goals go_ret
      all_goals exact ⟨rfl, h1, h2⟩
set_option maxRecDepth 1000000 in
theorem Dissent_nil (w : World) (i now : Int) :
    Calls Tryd.prog 18 #[.pointer none, .int .i64 i, .int .i64 now] w fun e w' => e = .returned (.int .i64 2) ∧ w = w' := by
  go_enter Tryd.func18, Tryd.ntmps18
  go_wp2_with fail
  refine (did_nil w i now 1).mono ?_
  rintro e w' ⟨rfl, rfl⟩
  go_wp2_with fail
  go_ret
  exact ⟨rfl, rfl⟩
end
end Go.Proofs.YtdcogjlcbdkdcaaDoor
