/-
  Package order: those that are alike stand as the shuffle left them; where no two are alike, the order does not hang on the draws. Lists alone.
-/
import Derived.Test.YtdcogjlcbdkdcaaDoorOrdFacts
namespace Go.Proofs.YtdcogjlcbdkdcaaDoor
open Go.RowKit
set_option linter.unusedVariables false
set_option linter.unusedSimpArgs false

theorem pair_sublist {α : Type} {l : List α} {i k : Nat} {a b : α} (hik : i < k) (ha : l[i]? = some a) (hb : l[k]? = some b) : [a, b].Sublist l := by
  obtain ⟨hi, rfl⟩ := List.getElem?_eq_some_iff.1 ha
  obtain ⟨hk, rfl⟩ := List.getElem?_eq_some_iff.1 hb
  have h1 : l.drop i = l[i] :: l.drop (i + 1) := List.drop_eq_getElem_cons hi
  have h2 : l[k] ∈ l.drop (i + 1) := by
    rw [List.mem_iff_getElem?]
    exact ⟨k - (i + 1), by rw [List.getElem?_drop, show i + 1 + (k - (i + 1)) = k by omega, List.getElem?_eq_getElem hk]⟩
  have h3 : [l[i], l[k]].Sublist (l.drop i) := by
    rw [h1]
    exact (List.singleton_sublist.2 h2).cons_cons _
  exact h3.trans (List.drop_sublist i l)
theorem pair_ahead {u v : Int} : ∀ (L : List Int), L.Nodup → [u, v].Sublist L → ∀ (p q : Nat), L[p]? = some u → L[q]? = some v → p < q
  | [], _, h, _, _, _, _ => by cases h
  | x :: l, hn, h, p, q, hp, hq => by
    rw [List.nodup_cons] at hn
    cases h with
    | cons _ h' =>
      have hu : u ∈ l := h'.subset (by simp)
      have hv : v ∈ l := h'.subset (by simp)
      rcases p with _ | p
      · simp at hp; subst hp; exact (hn.1 hu).elim
      · rcases q with _ | q
        · simp at hq; subst hq; exact (hn.1 hv).elim
        · have := pair_ahead l hn.2 h' p q (by simpa using hp) (by simpa using hq)
          omega
    | cons_cons _ h' =>
      have hv : v ∈ l := h'.subset (by simp)
      rcases q with _ | q
      · simp at hq; subst hq; exact (hn.1 hv).elim
      · rcases p with _ | p
        · omega
        · have hu : u ∈ l := List.mem_of_getElem? (by simpa using hp)
          exact (hn.1 hu).elim
section
variable {D : Nat → Int} {k0 : Nat} {us : List Up}
theorem alike_ahead (hm : 1 ≤ (mayL us).length) {i k p q : Nat} {u v : Int} (hik : i < k) (hu : (rowL D k0 us)[i]? = some u) (hv : (rowL D k0 us)[k]? = some v) (hkey : key (cnd us u) = key (cnd us v))
    (hp : (ordL D k0 us)[p]? = some u) (hq : (ordL D k0 us)[q]? = some v) : p < q := by
  refine pair_ahead _ (ord_nodup hm) ?_ p q hp hq
  have h1 : [cnd us u, cnd us v].Sublist ((rowL D k0 us).map (cnd us)) := pair_sublist hik (by rw [List.getElem?_map, hu]; rfl) (by rw [List.getElem?_map, hv]; rfl)
  have h2 := h1.filter (fun c => decide (key c = key (cnd us u)))
  have h3 : [cnd us u, cnd us v].filter (fun c => decide (key c = key (cnd us u))) = [cnd us u, cnd us v] := by simp [hkey]
  rw [h3, ← (isrt_srt _).row] at h2
  have h4 := (h2.trans List.filter_sublist).map (·.1)
  exact h4
end
theorem swp_perm (l : List Int) {i j : Nat} (hi : i < l.length) (hj : j < l.length) : (swp l i j).Perm l := by
  unfold swp
  rw [List.getD_eq_getElem?_getD, List.getD_eq_getElem?_getD, List.getElem?_eq_getElem hi, List.getElem?_eq_getElem hj]
  exact List.set_set_perm hi hj
theorem shufL_perm (D : Nat → Int) : ∀ (i k : Nat) (l : List Int), i < l.length → (shufL D i k l).Perm l
  | 0, _, _, _ => List.Perm.refl _
  | i + 1, k, l, h => by
    unfold shufL
    have hj : (D k % ((i + 2 : Nat) : Int)).toNat < l.length := by
      have h1 := Int.emod_nonneg (D k) (show ((i + 2 : Nat) : Int) ≠ 0 by omega)
      have h2 := Int.emod_lt_of_pos (D k) (show (0 : Int) < ((i + 2 : Nat) : Int) by omega)
      omega
    exact (shufL_perm D i (k + 1) _ (by rw [swp_length]; omega)).trans (swp_perm l h hj)
theorem shuffled_perm (D : Nat → Int) (k n : Nat) (hn : 1 ≤ n) : (shuffled D k n).Perm (iota n) := shufL_perm D (n - 1) k _ (by rw [iota_length]; omega)
theorem iota_map (l : List Int) : (iota l.length).map (fun j => l.getD j.toNat 0) = l := by
  unfold iota
  apply List.ext_getElem?
  intro i
  rw [List.getElem?_map, List.getElem?_map]
  by_cases h : i < l.length
  · rw [List.getElem?_range h]
    simp [List.getD_eq_getElem?_getD, List.getElem?_eq_getElem h]
  · rw [List.getElem?_eq_none (by simp; omega), List.getElem?_eq_none (by omega)]; rfl
theorem row_perm (D : Nat → Int) (k0 : Nat) (us : List Up) (hm : 1 ≤ (mayL us).length) : (rowL D k0 us).Perm (mayL us) := by
  have h := (shuffled_perm D k0 _ hm).map (fun j => (mayL us).getD j.toNat 0)
  rw [iota_map] at h
  exact h
theorem one_filter (v : Int) : ∀ (C : List Cnd), C.Pairwise (fun a b => key a ≠ key b) → (C.filter (fun c => decide (key c = v))).length ≤ 1
  | [], _ => by simp
  | x :: C, h => by
    rw [List.pairwise_cons] at h
    rw [List.filter_cons]
    split
    · rename_i hx
      simp at hx
      have : C.filter (fun c => decide (key c = v)) = [] := by
        rw [List.filter_eq_nil_iff]
        intro c hc
        have := h.1 c hc
        simp; omega
      rw [this]; simp
    · exact one_filter v C h.2
theorem unlike_same (D D' : Nat → Int) (k0 k1 : Nat) (us : List Up) (hm : 1 ≤ (mayL us).length) (h : ∀ (i k : Nat) (u v : Int), i < k → (rowL D k0 us)[i]? = some u → (rowL D k0 us)[k]? = some v → key (cnd us u) ≠ key (cnd us v)) :
    ordL D k0 us = ordL D' k1 us := by
  unfold ordL
  congr 1
  have hp : ((rowL D k0 us).map (cnd us)).Perm ((rowL D' k1 us).map (cnd us)) := ((row_perm D k0 us hm).trans (row_perm D' k1 us hm).symm).map _
  have hpw : ((rowL D k0 us).map (cnd us)).Pairwise (fun a b => key a ≠ key b) := by
    rw [List.pairwise_map, List.pairwise_iff_getElem]
    intro i j hi hj hij
    exact h i j _ _ hij (List.getElem?_eq_getElem hi) (List.getElem?_eq_getElem hj)
  refine srt_eq _ _ (isrt_srt _).down (isrt_srt _).down (fun v => ?_)
  unfold ordC
  rw [(isrt_srt _).row, (isrt_srt _).row]
  have hf := hp.filter (fun c => decide (key c = v))
  have hl := one_filter v _ hpw
  have hl2 := hf.length_eq
  generalize ((rowL D k0 us).map (cnd us)).filter (fun c => decide (key c = v)) = a at *
  generalize ((rowL D' k1 us).map (cnd us)).filter (fun c => decide (key c = v)) = b at *
  match a, b, hl, hl2, hf with
  | [], [], _, _, _ => rfl
  | [x], [y], _, _, hf => rw [List.singleton_perm_singleton.1 hf]
  | x :: y :: l, _, hl, _, _ => simp at hl
end Go.Proofs.YtdcogjlcbdkdcaaDoor
