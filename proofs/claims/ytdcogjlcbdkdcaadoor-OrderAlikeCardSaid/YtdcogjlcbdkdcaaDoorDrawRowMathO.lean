/-
  Shuffles: each number once; draws that are each its place leave the row; draws that are all 0 turn it round by one. Lists alone.
-/
import Derived.Test.YtdcogjlcbdkdcaaDoorShufO
namespace Go.Proofs.YtdcogjlcbdkdcaaDoor
open Go.RowKit
set_option linter.unusedVariables false

theorem swp_getD (l : List Int) (a b i : Nat) (ha : a < l.length) (hb : b < l.length) (hi : i < l.length) :
    (swp l a b).getD i 0 = if i = b then l.getD a 0 else if i = a then l.getD b 0 else l.getD i 0 := by
  unfold swp
  rw [List.getD_eq_getElem?_getD, List.getElem?_set]
  by_cases h1 : b = i
  · subst h1
    simp [hb]
  · have h3 : ¬ i = b := fun e => h1 e.symm
    rw [if_neg h1, if_neg h3, List.getElem?_set]
    by_cases h2 : a = i
    · subst h2
      rw [if_pos rfl, if_pos rfl, if_pos ha]; rfl
    · have h4 : ¬ i = a := fun e => h2 e.symm
      rw [if_neg h2, if_neg h4, List.getD_eq_getElem?_getD]

/-- Each number below n once. -/
def Each (n : Nat) (l : List Int) : Prop := l.length = n ∧ (∀ i, i < n → 0 ≤ l.getD i 0 ∧ l.getD i 0 < n) ∧ ∀ i j, i < n → j < n → l.getD i 0 = l.getD j 0 → i = j

theorem each_swp {n : Nat} {l : List Int} (h : Each n l) (a b : Nat) (ha : a < n) (hb : b < n) : Each n (swp l a b) := by
  obtain ⟨hl, hr, hinj⟩ := h
  have g : ∀ i, i < n → (swp l a b).getD i 0 = if i = b then l.getD a 0 else if i = a then l.getD b 0 else l.getD i 0 := fun i hi => swp_getD l a b i (by omega) (by omega) (by omega)
  refine ⟨by rw [swp_length, hl], fun i hi => ?_, fun i j hi hj he => ?_⟩
  · rw [g i hi]
    split
    · exact hr a ha
    · split
      · exact hr b hb
      · exact hr i hi
  · have g' : ∀ i, i < n → (swp l a b).getD i 0 = l.getD (if i = b then a else if i = a then b else i) 0 := fun i hi => by
      rw [g i hi]
      split
      · rfl
      · split <;> rfl
    rw [g' i hi, g' j hj] at he
    have hh := hinj _ _ (by split; omega; split <;> omega) (by split; omega; split <;> omega) he
    by_cases i1 : i = b <;> by_cases j1 : j = b <;> by_cases i2 : i = a <;> by_cases j2 : j = a <;> simp only [i1, j1, i2, j2, if_true, if_false] at hh <;> (try split at hh) <;> omega

theorem each_shufL {n : Nat} (D : Nat → Int) : ∀ (i k : Nat) (l : List Int), i < n → Each n l → Each n (shufL D i k l) := by
  intro i
  induction i with
  | zero => intro k l _ h; exact h
  | succ i ih =>
    intro k l hi h
    refine ih (k + 1) _ (by omega) (each_swp h _ _ hi ?_)
    have h1 : 0 ≤ D k % ((i + 2 : Nat) : Int) := Int.emod_nonneg _ (by omega)
    have h2 : D k % ((i + 2 : Nat) : Int) < ((i + 2 : Nat) : Int) := Int.emod_lt_of_pos _ (by omega)
    omega

theorem iota_getD (n i : Nat) (hi : i < n) : (iota n).getD i 0 = i := by
  simp [iota, List.getD_eq_getElem?_getD, hi]

theorem each_iota (n : Nat) : Each n (iota n) := by
  refine ⟨iota_length n, fun i hi => ?_, fun i j hi hj he => ?_⟩
  · rw [iota_getD n i hi]; omega
  · rw [iota_getD n i hi, iota_getD n j hj] at he; omega

theorem each_shuffled (D : Nat → Int) (k n : Nat) (hn : 1 ≤ n) : Each n (shuffled D k n) := each_shufL D (n - 1) k _ (by omega) (each_iota n)

theorem shuf_stays (D : Nat → Int) : ∀ (i k : Nat) (l : List Int), i < l.length → (∀ t, t < i → D (k + t) = ((i - t : Nat) : Int)) → shufL D i k l = l := by
  intro i
  induction i with
  | zero => intro k l _ _; rfl
  | succ i ih =>
    intro k l hi hD
    have h0 := hD 0 (by omega)
    simp only [Nat.add_zero, Nat.sub_zero] at h0
    have hj : (D k % ((i + 2 : Nat) : Int)).toNat = i + 1 := by
      rw [h0, Int.emod_eq_of_lt (by omega) (by omega)]; omega
    have hs : swp l (i + 1) (i + 1) = l := by
      apply List.ext_getElem?
      intro j
      unfold swp
      by_cases e : i + 1 = j
      · subst e
        simp [hi]
      · simp [e]
    rw [shufL, hj, hs]
    exact ih (k + 1) l (by omega) (fun t ht => by
      have := hD (t + 1) (by omega)
      rw [show k + 1 + t = k + (t + 1) by omega, this]
      congr 1; omega)

theorem shuf_round (n : Nat) (D : Nat → Int) (hD : ∀ k, k < n → D k = 0) : ∀ (i k : Nat) (l : List Int), i < n → k + i < n → l.length = n → l.getD 0 0 = (((i + 1) % n : Nat) : Int) → (∀ j, 1 ≤ j → j ≤ i → l.getD j 0 = j) →
    (∀ j, i < j → j < n → l.getD j 0 = (((j + 1) % n : Nat) : Int)) → ∀ j, j < n → (shufL D i k l).getD j 0 = (((j + 1) % n : Nat) : Int) := by
  intro i
  induction i with
  | zero =>
    intro k l hi hk hl h0 _ h2 j hj
    by_cases e : j = 0
    · subst e; exact h0
    · exact h2 j (by omega) hj
  | succ i ih =>
    intro k l hi hk hl h0 h1 h2
    have hj : (D k % ((i + 2 : Nat) : Int)).toNat = 0 := by rw [hD k (by omega)]; simp
    rw [shufL, hj]
    have g : ∀ j, j < n → (swp l (i + 1) 0).getD j 0 = if j = 0 then l.getD (i + 1) 0 else if j = i + 1 then l.getD 0 0 else l.getD j 0 := fun j hj => swp_getD l (i + 1) 0 j (by omega) (by omega) (by omega)
    refine ih (k + 1) _ (by omega) (by omega) (by rw [swp_length, hl]) ?_ (fun j hj1 hj2 => ?_) (fun j hj1 hj2 => ?_)
    · rw [g 0 (by omega), if_pos rfl, h1 (i + 1) (by omega) (by omega), Nat.mod_eq_of_lt (by omega)]
    · rw [g j (by omega), if_neg (by omega), if_neg (by omega), h1 j hj1 (by omega)]
    · rw [g j hj2, if_neg (by omega)]
      by_cases e : j = i + 1
      · rw [if_pos e, h0, e]
      · rw [if_neg e, h2 j (by omega) hj2]

theorem round_getD (n : Nat) (D : Nat → Int) (hD : ∀ k, k < n → D k = 0) (hn : 1 ≤ n) (j : Nat) (hj : j < n) : (shuffled D 0 n).getD j 0 = (((j + 1) % n : Nat) : Int) := by
  refine shuf_round n D hD (n - 1) 0 (iota n) (by omega) (by omega) (iota_length n) ?_ (fun j h1 h2 => iota_getD n j (by omega)) (fun j h1 h2 => by omega) j hj
  rw [iota_getD n 0 (by omega), show n - 1 + 1 = n by omega, Nat.mod_self]
end Go.Proofs.YtdcogjlcbdkdcaaDoor
