/-
  Package repute: a book as plain data.
-/
import Derived.Test.YtdcogjlcbdkdcaaDoorBase
import Derived.Test.YtdcogjlcbdkdcaaDoorRowsOpen
namespace Go.Proofs.YtdcogjlcbdkdcaaDoor
open Go.RowKit
set_option linter.unusedVariables false

structure Up where
  score : Int
  ag : Int
  ds : Int
  si : Int
  rests : Bool
  til : Int
  trial : Bool

def upC (u : Up) : List Value := [.int .i64 u.score, .int .i64 u.ag, .int .i64 u.ds, .int .i64 u.si, .bool u.rests, .int .i64 u.til, .bool u.trial]
def rowC (us : List Up) : List Value := (us.map upC).flatten
theorem upC_length (u : Up) : (upC u).length = 7 := rfl
theorem rowC_len7 (us : List Up) : ∀ r ∈ us.map upC, r.length = 7 := by
  intro r hr
  obtain ⟨u, _, rfl⟩ := List.mem_map.1 hr
  rfl
theorem rowC_length (us : List Up) : (rowC us).length = us.length * 7 := by
  unfold rowC
  rw [flatten_length _ (rowC_len7 us), List.length_map]
theorem rowC_at {us : List Up} {i : Nat} {u : Up} (h : us[i]? = some u) (j : Nat) (hj : j < 7) : (rowC us)[i * 7 + j]? = (upC u)[j]? := by
  unfold rowC
  rw [flatten_getElem? _ i j (rowC_len7 us) hj, List.getElem?_map, h]
  rfl
theorem set_flatten {α : Type} : ∀ (rows : List (List α)) (s i j : Nat) (r : List α) (v : α), (∀ r ∈ rows, r.length = s) → j < s → rows[i]? = some r →
    rows.flatten.set (i * s + j) v = (rows.set i (r.set j v)).flatten
  | [], s, i, j, r, v, _, _, hr => by simp at hr
  | r0 :: rows, s, 0, j, r, v, h, hj, hr => by
    have h0 := h r0 (by simp)
    simp only [List.getElem?_cons_zero, Option.some.injEq] at hr
    subst hr
    simp only [List.flatten_cons, Nat.zero_mul, Nat.zero_add, List.set_cons_zero]
    rw [List.set_append_left _ _ (by omega)]
  | r0 :: rows, s, i + 1, j, r, v, h, hj, hr => by
    have h0 := h r0 (by simp)
    simp only [List.getElem?_cons_succ] at hr
    simp only [List.flatten_cons, List.set_cons_succ]
    rw [List.set_append_right _ _ (by rw [h0, Nat.succ_mul]; omega), h0, show (i + 1) * s + j - s = i * s + j by rw [Nat.succ_mul]; omega]
    rw [set_flatten rows s i j r v (fun r' h' => h r' (by simp [h'])) hj hr]
theorem rowC_set {us : List Up} {i : Nat} {u u' : Up} {v : Value} {j : Nat} (h : us[i]? = some u) (hj : j < 7) (hu : (upC u).set j v = upC u') : (rowC us).set (i * 7 + j) v = rowC (us.set i u') := by
  unfold rowC
  rw [set_flatten _ 7 i j (upC u) v (rowC_len7 us) hj (by rw [List.getElem?_map, h]; rfl), hu, List.map_set]

def mn (c : Int) : Int := if 65535 < c + 1 then 65535 else c + 1
def cl (x : Int) : Int := if 100 < (if x < 0 then 0 else x) then 100 else (if x < 0 then 0 else x)
def top (lim : Int) : Int := if 100 < lim + 10 then 100 else lim + 10
def endTrial (lim : Int) (u : Up) : Up := { u with trial := u.trial && decide (u.score < top lim) }
def agreeUp (lim : Int) (u : Up) : Up := endTrial lim { u with ag := mn u.ag, score := cl (u.score + 1) }
def silentUp (lim : Int) (u : Up) : Up := endTrial lim { u with si := mn u.si, score := cl (u.score + -2) }
def hitUp (u : Up) : Up := { u with ds := mn u.ds, score := cl (u.score + -10) }
def spare (lim may n : Int) (u : Up) : Bool := decide (u.score < lim) && !u.rests && decide (n / 2 + 1 ≤ may - 1)
def dissentUp (lim rst may n now : Int) (u : Up) : Up :=
  if spare lim may n (hitUp u) then { hitUp u with rests := true, til := now + rst, trial := false } else endTrial lim (hitUp u)
def backUp (lim : Int) (u : Up) : Up := endTrial lim { u with rests := false, til := 0, score := lim, trial := true }
end Go.Proofs.YtdcogjlcbdkdcaaDoor
