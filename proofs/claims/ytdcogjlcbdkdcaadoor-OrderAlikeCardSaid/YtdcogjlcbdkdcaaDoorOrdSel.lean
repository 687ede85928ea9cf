/-
  Package order: taking always the first one ahead of which no other one belongs comes to the stable sort. Lists alone.
-/
import Derived.Test.YtdcogjlcbdkdcaaDoorOrdFacts
namespace Go.Proofs.YtdcogjlcbdkdcaaDoor
open Go.RowKit
set_option linter.unusedVariables false
set_option linter.unusedSimpArgs false

/-- What is taken (O), what is left (R), of C. -/
structure Sel (C O R : List Cnd) : Prop where
  row : ∀ v, (O ++ R).filter (fun c => decide (key c = v)) = C.filter (fun c => decide (key c = v))
  down : O.Pairwise (fun a b => key b ≤ key a)
  low : ∀ o ∈ O, ∀ r ∈ R, key r ≤ key o
/-- The place k is that of the first greatest among the first i. -/
structure First (R : List Cnd) (k i : Nat) : Prop where
  lt : k < i
  ahead : ∀ j, j < k → key (cAt R j) < key (cAt R k)
  rest : ∀ j, j < i → key (cAt R j) ≤ key (cAt R k)
theorem Sel.start (C : List Cnd) : Sel C [] C := ⟨fun _ => rfl, List.Pairwise.nil, fun _ h => by cases h⟩
theorem First.start (R : List Cnd) : First R 0 1 := ⟨by omega, fun _ h => by omega, fun j h => by
    have : j = 0 := by omega
    subst this
    exact Int.le_refl _⟩
theorem First.keep {R : List Cnd} {k i : Nat} (h : First R k i) (hn : ¬ key (cAt R k) < key (cAt R i)) : First R k (i + 1) :=
  ⟨by have := h.lt; omega, h.ahead, fun j hj => by
    rcases Nat.lt_or_ge j i with h1 | h1
    · exact h.rest j h1
    · have : j = i := by omega
      subst this; omega⟩
theorem First.turn {R : List Cnd} {k i : Nat} (h : First R k i) (hn : key (cAt R k) < key (cAt R i)) : First R i (i + 1) :=
  ⟨by omega, fun j hj => by have := h.rest j hj; omega, fun j hj => by
    rcases Nat.lt_or_ge j i with h1 | h1
    · have := h.rest j h1; omega
    · have : j = i := by omega
      subst this; omega⟩
theorem mem_at {R : List Cnd} {c : Cnd} (h : c ∈ R) : ∃ j, j < R.length ∧ cAt R j = c := by
  obtain ⟨j, hj, rfl⟩ := List.getElem_of_mem h
  exact ⟨j, hj, by unfold cAt; rw [List.getD_eq_getElem?_getD, List.getElem?_eq_getElem hj]; rfl⟩
theorem take_drop_at {R : List Cnd} {k : Nat} (hk : k < R.length) : R = R.take k ++ cAt R k :: R.drop (k + 1) := by
  have h1 : R.take k ++ R.drop k = R := List.take_append_drop k R
  rw [List.drop_eq_getElem_cons hk] at h1
  have h2 : cAt R k = R[k] := by unfold cAt; rw [List.getD_eq_getElem?_getD, List.getElem?_eq_getElem hk]; rfl
  rw [h2]
  exact h1.symm
theorem Sel.step {C O R : List Cnd} {k : Nat} (h : Sel C O R) (hf : First R k R.length) : Sel C (O ++ [cAt R k]) (R.take k ++ R.drop (k + 1)) := by
  have hk := hf.lt
  have hR := take_drop_at hk
  have hx : cAt R k ∈ R := by
    have h2 : cAt R k = R[k] := by unfold cAt; rw [List.getD_eq_getElem?_getD, List.getElem?_eq_getElem hk]; rfl
    rw [h2]; exact List.getElem_mem hk
  have hle : ∀ r ∈ R, key r ≤ key (cAt R k) := fun r hr => by
    obtain ⟨j, hj, rfl⟩ := mem_at hr
    exact hf.rest j hj
  have hlt : ∀ r ∈ R.take k, key r < key (cAt R k) := fun r hr => by
    obtain ⟨j, hj, rfl⟩ := List.getElem_of_mem hr
    rw [List.length_take] at hj
    rw [List.getElem_take]
    have := hf.ahead j (by omega)
    unfold cAt at this ⊢
    rw [List.getD_eq_getElem?_getD, List.getElem?_eq_getElem (by omega)] at this
    exact this
  generalize cAt R k = x at *
  refine ⟨fun v => ?_, ?_, ?_⟩
  · rw [← h.row v]
    conv => rhs; rw [hR]
    simp only [List.filter_append, List.filter_cons, List.filter_nil]
    by_cases e : key x = v
    · have : (R.take k).filter (fun c => decide (key c = v)) = [] := by
        rw [List.filter_eq_nil_iff]
        intro r hr
        have := hlt r hr
        simp; omega
      rw [this]
      simp [e]
    · simp [e]
  · rw [List.pairwise_append]
    refine ⟨h.down, List.pairwise_singleton _ _, fun o ho r hr => ?_⟩
    rw [List.mem_singleton] at hr
    subst hr
    exact h.low o ho _ hx
  · intro o ho r hr
    have hrR : r ∈ R := by
      rcases List.mem_append.1 hr with h1 | h1
      · exact List.mem_of_mem_take h1
      · exact List.mem_of_mem_drop h1
    rcases List.mem_append.1 ho with h1 | h1
    · exact h.low o h1 r hrR
    · rw [List.mem_singleton] at h1
      subst h1
      exact hle r hrR
theorem Sel.done {C O : List Cnd} (h : Sel C O []) : O = isrt C := Srt.uniq ⟨h.down, fun v => by have := h.row v; rwa [List.append_nil] at this⟩ (isrt_srt C)
theorem cAt_map {us : List Up} {R : List Int} {k : Nat} {x : Int} (h : R[k]? = some x) : cAt (R.map (cnd us)) k = cnd us x := by
  unfold cAt; rw [List.getD_eq_getElem?_getD, List.getElem?_map, h]; rfl

/-- All of the row are upstreams of the book. -/
def Ups (us : List Up) (R : List Int) : Prop := ∀ x ∈ R, ∃ (J : Nat) (u : Up), x = J ∧ us[J]? = some u
theorem Ups.cut {us : List Up} {R : List Int} (h : Ups us R) (k : Nat) : Ups us (R.take k ++ R.drop (k + 1)) := fun x hx => by
  rcases List.mem_append.1 hx with h1 | h1
  · exact h x (List.mem_of_mem_take h1)
  · exact h x (List.mem_of_mem_drop h1)
theorem row_ups {D : Nat → Int} {k0 : Nat} {us : List Up} (hm : 1 ≤ (mayL us).length) : Ups us (rowL D k0 us) := fun x hx => by
  obtain ⟨J, u, rfl, hu, _⟩ := may_mem (row_mem hm hx)
  exact ⟨J, u, rfl, hu⟩
end Go.Proofs.YtdcogjlcbdkdcaaDoor
