/-
  Package order: what an order is: those that may be asked, each once, the sorted row.
-/
import Derived.Test.YtdcogjlcbdkdcaaDoorOrder
namespace Go.Proofs.YtdcogjlcbdkdcaaDoor
open Go.RowKit
set_option linter.unusedVariables false
set_option linter.unusedSimpArgs false

section
variable {D : Nat → Int} {k0 n : Nat} {us : List Up}
theorem row_mem {x : Int} (hm : 1 ≤ (mayL us).length) (h : x ∈ rowL D k0 us) : x ∈ mayL us := by
  unfold rowL at h
  obtain ⟨y, hy, rfl⟩ := List.mem_map.1 h
  obtain ⟨i, hi, rfl⟩ := List.getElem_of_mem hy
  have hE := each_shuffled D k0 _ hm
  have := hE.2.1 i (by rw [← hE.1]; exact hi)
  rw [List.getD_eq_getElem?_getD, List.getElem?_eq_getElem hi] at this
  simp only [Option.getD_some] at this
  have hlt : ((shuffled D k0 (mayL us).length)[i]).toNat < (mayL us).length := by omega
  rw [List.getD_eq_getElem?_getD, List.getElem?_eq_getElem hlt]
  exact List.getElem_mem hlt
theorem ord_mem {c : Cnd} (hm : 1 ≤ (mayL us).length) (h : c ∈ ordC D k0 us) : ∃ (J : Nat) (u : Up), c = ((J : Int), u.score, u.trial) ∧ us[J]? = some u ∧ u.rests = false := by
  unfold ordC at h
  rw [(isrt_srt _).mem] at h
  obtain ⟨x, hx, rfl⟩ := List.mem_map.1 h
  obtain ⟨J, u, rfl, hu, hr⟩ := may_mem (row_mem hm hx)
  exact ⟨J, u, cnd_of hu, hu, hr⟩
theorem ord_at (hm : 1 ≤ (mayL us).length) {k : Nat} (hk : k < (mayL us).length) : ∃ (J : Nat) (u : Up), (ordL D k0 us)[k]? = some (J : Int) ∧ cAt (ordC D k0 us) k = ((J : Int), u.score, u.trial) ∧ us[J]? = some u ∧ u.rests = false := by
  have hl := ordC_length D k0 us hm
  have hg := cAt_get (L := ordC D k0 us) (k := k) (by omega)
  obtain ⟨J, u, h1, h2, h3⟩ := ord_mem hm (List.mem_of_getElem? hg)
  refine ⟨J, u, ?_, h1, h2, h3⟩
  unfold ordL
  rw [List.getElem?_map, hg, h1]
  rfl
theorem ord_down (hm : 1 ≤ (mayL us).length) {i j : Nat} (hij : i < j) (hj : j < (mayL us).length) : key (cAt (ordC D k0 us) j) ≤ key (cAt (ordC D k0 us) i) := by
  have hl := ordC_length D k0 us hm
  have hp := (isrt_srt ((rowL D k0 us).map (cnd us))).down
  rw [List.pairwise_iff_getElem] at hp
  have := hp i j (by show i < (ordC D k0 us).length; omega) (by show j < (ordC D k0 us).length; omega) hij
  unfold cAt
  rw [List.getD_eq_getElem?_getD, List.getD_eq_getElem?_getD, List.getElem?_eq_getElem (by omega), List.getElem?_eq_getElem (by omega)]
  exact this
theorem may_nodup (us : List Up) : (mayL us).Nodup := (may_pair us).imp (fun h => by omega)
theorem row_nodup (hm : 1 ≤ (mayL us).length) : (rowL D k0 us).Nodup := by
  have hE := each_shuffled D k0 _ hm
  have hl := rowL_length D k0 us hm
  have hmn := may_nodup us
  rw [List.Nodup, List.pairwise_iff_getElem]
  intro i j hi hj hij e
  have e' : (rowL D k0 us)[i]? = (rowL D k0 us)[j]? := by rw [List.getElem?_eq_getElem hi, List.getElem?_eq_getElem hj, e]
  clear e
  have li : i < (shuffled D k0 (mayL us).length).length := by rw [hE.1]; omega
  have lj : j < (shuffled D k0 (mayL us).length).length := by rw [hE.1]; omega
  unfold rowL at e'
  rw [List.getElem?_map, List.getElem?_map, List.getElem?_eq_getElem li, List.getElem?_eq_getElem lj] at e'
  simp only [Option.map_some, Option.some.injEq] at e'
  have e := e'
  clear e'
  have h1 := hE.2.1 i (by omega)
  have h2 := hE.2.1 j (by omega)
  have h3 := hE.2.2 i j (by omega) (by omega)
  have gi : ∀ q (hq : q < (shuffled D k0 (mayL us).length).length), (shuffled D k0 (mayL us).length).getD q 0 = (shuffled D k0 (mayL us).length)[q] := by
    intro q hq
    rw [List.getD_eq_getElem?_getD, List.getElem?_eq_getElem hq]; rfl
  rw [gi i li] at h1
  rw [gi j lj] at h2
  rw [gi i li, gi j lj] at h3
  generalize (shuffled D k0 (mayL us).length)[i] = a at *
  generalize (shuffled D k0 (mayL us).length)[j] = b at *
  have ha : a.toNat < (mayL us).length := by omega
  have hb : b.toNat < (mayL us).length := by omega
  rw [List.getD_eq_getElem?_getD, List.getD_eq_getElem?_getD, List.getElem?_eq_getElem ha, List.getElem?_eq_getElem hb] at e
  simp only [Option.getD_some] at e
  have hab : a.toNat = b.toNat := (List.getElem_inj hmn).1 e
  have := h3 (by omega)
  omega
theorem map_cnd (us : List Up) (l : List Int) : (l.map (cnd us)).map (·.1) = l := by
  rw [List.map_map]
  conv => rhs; rw [← List.map_id l]
  rfl
theorem ord_perm (D : Nat → Int) (k0 : Nat) (us : List Up) : (ordL D k0 us).Perm (rowL D k0 us) := by
  unfold ordL ordC
  have := (isrt_srt ((rowL D k0 us).map (cnd us))).perm.map (·.1)
  rwa [map_cnd] at this
theorem ord_nodup (hm : 1 ≤ (mayL us).length) : (ordL D k0 us).Nodup := (ord_perm D k0 us).nodup_iff.2 (row_nodup hm)
end

/-- Which numbers below N were seen among the first k. -/
def SeenN (N : Nat) (L : List Int) (k : Nat) (bs : List Bool) : Prop := bs.length = N ∧ ∀ v, v < N → (bs.getD v false = true ↔ ∃ j, j < k ∧ L[j]? = some (v : Int))
theorem seenN_none (N : Nat) (L : List Int) : SeenN N L 0 (List.replicate N false) := by
  refine ⟨List.length_replicate, fun v hv => ?_⟩
  have : (List.replicate N false).getD v false = false := by rw [List.getD_eq_getElem?_getD, List.getElem?_replicate, if_pos hv]; rfl
  rw [this]
  constructor
  · intro h; cases h
  · rintro ⟨j, hj, _⟩; omega
theorem seenN_fresh {N : Nat} {L : List Int} {k : Nat} {bs : List Bool} (h : SeenN N L k bs) (hE : L.Nodup) {X : Nat} (hX : L[k]? = some (X : Int)) (hX2 : X < N) : bs.getD X false = false := by
  rcases hb : bs.getD X false with _ | _
  · rfl
  · obtain ⟨j, hj, he⟩ := (h.2 X hX2).1 hb
    obtain ⟨a1, a2⟩ := List.getElem?_eq_some_iff.1 hX
    obtain ⟨b1, b2⟩ := List.getElem?_eq_some_iff.1 he
    have := (List.getElem_inj hE).1 (b2.trans a2.symm)
    omega
theorem seenN_more {N : Nat} {L : List Int} {k : Nat} {bs : List Bool} (h : SeenN N L k bs) {X : Nat} (hX : L[k]? = some (X : Int)) (hX2 : X < N) : SeenN N L (k + 1) (bs.set X true) := by
  refine ⟨by rw [List.length_set]; exact h.1, fun v hv => ?_⟩
  rw [List.getD_eq_getElem?_getD, List.getElem?_set]
  by_cases e : X = v
  · subst e
    rw [if_pos rfl, if_pos (by rw [h.1]; exact hv)]
    exact ⟨fun _ => ⟨k, by omega, hX⟩, fun _ => rfl⟩
  · rw [if_neg e, ← List.getD_eq_getElem?_getD, h.2 v hv]
    constructor
    · rintro ⟨j, hj, he⟩; exact ⟨j, by omega, he⟩
    · rintro ⟨j, hj, he⟩
      refine ⟨j, ?_, he⟩
      rcases Nat.lt_or_ge j k with h1 | h1
      · exact h1
      · have : j = k := by omega
        subst this
        rw [hX] at he
        injection he with he
        omega
end Go.Proofs.YtdcogjlcbdkdcaaDoor
