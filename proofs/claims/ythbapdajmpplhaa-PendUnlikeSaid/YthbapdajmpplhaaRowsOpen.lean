/-
  An argument that is a slice of structs, opened to its cells.
-/
import Derived.Test.YthbapdajmpplhaaOpen
import Derived.Deep.Slices
import Derived.Deep.Fields
namespace Go.Proofs.Ythbapdajmpplhaa
open Go.RowKit Go.ChangeShapes Go.WideShapes Go.ChangeAt Go.Deep
set_option linter.unusedVariables false

theorem list_of_ex {α : Type} {P : Nat → α → Prop} : ∀ n, (∀ i, i < n → ∃ a, P i a) → ∃ l : List α, l.length = n ∧ ∀ i a, l[i]? = some a → P i a := by
  intro n
  induction n with
  | zero => intro _; exact ⟨[], rfl, fun i a h => by simp at h⟩
  | succ n ih =>
    intro h
    obtain ⟨l, hl, hp⟩ := ih (fun i hi => h i (by omega))
    obtain ⟨a, ha⟩ := h n (by omega)
    refine ⟨l ++ [a], by simp [hl], fun i b hb => ?_⟩
    rw [List.getElem?_append] at hb
    split at hb
    · exact hp i b hb
    · have : i = n := by
        rcases Nat.lt_or_ge i (n + 1) with h1 | h1
        · omega
        · rw [List.getElem?_eq_none (by simp; omega)] at hb; cases hb
      subst this
      simp [hl] at hb
      subst hb
      exact ha

theorem flatten_getElem? {s : Nat} : ∀ (rows : List (List Value)) (i j : Nat), (∀ r ∈ rows, r.length = s) → j < s → rows.flatten[i * s + j]? = (rows[i]?).bind (·[j]?) := by
  intro rows
  induction rows with
  | nil => intro i j _ _; simp
  | cons r rows ih =>
    intro i j h hj
    have hr : r.length = s := h r (by simp)
    rw [List.flatten_cons, List.getElem?_append]
    cases i with
    | zero => simp [hr, hj]
    | succ i =>
      have e : (i + 1) * s + j - r.length = i * s + j := by rw [hr, Nat.succ_mul]; omega
      rw [if_neg (by rw [hr, Nat.succ_mul]; omega), e, ih i j (fun r' h' => h r' (by simp [h'])) hj]
      simp

theorem flatten_length {s : Nat} : ∀ (rows : List (List Value)), (∀ r ∈ rows, r.length = s) → rows.flatten.length = rows.length * s := by
  intro rows
  induction rows with
  | nil => intro _; simp
  | cons r rows ih =>
    intro h
    rw [List.flatten_cons, List.length_append, ih (fun r' h' => h r' (by simp [h'])), h r (by simp), List.length_cons, Nat.succ_mul]
    omega

section
variable {H : Type} {enc : TypeId × Value → H} {P : Program} {W : World} {base : Nat} {t e : TypeId} {v : Value} {d : DataW H} {p : List MemPlace}

theorem open_rows {E : List Value → Prop} {s : Nat} (ht : P.underlying t = some (.slice e)) (hs : P.cellsOf e = s) (hs0 : 0 < s)
    (hE : ∀ fuel cs x, DataW.trod enc P W 0 (fun _ => true) true fuel e cs = some x → cs.length = s → E cs) (hok : Value.okWide P W .any base t v)
    (h : DataW.Trod enc P W 0 (fun _ => true) true t v d p) :
    ∃ (A : Option Addr) (n c : Nat) (rows : List (List Value)), v = .slice A n c ∧ n ≤ c ∧ c ≤ maxLen ∧ (A = none → n = 0 ∧ c = 0) ∧ rows.length = n ∧ (∀ r ∈ rows, r.length = s ∧ E r) ∧ Reads W W.heap.size s A n rows.flatten := by
  obtain ⟨A, n, c, rfl⟩ := okWide_slice ht hok
  obtain ⟨fuel, hf⟩ := h
  rcases open_slice ht hf with ⟨hcs, _⟩ | ⟨a, len, cap, m, fu, D, Pl, hcs, _, hl, hm, hmm, _, hi⟩
  · simp [Value.cells] at hcs
    obtain ⟨rfl, rfl, rfl⟩ := hcs
    exact ⟨none, 0, 0, [], rfl, by omega, by unfold maxLen; omega, fun _ => ⟨rfl, rfl⟩, rfl, by simp, Reads.none_⟩
  · simp [Value.cells] at hcs
    obtain ⟨rfl, rfl, rfl⟩ := hcs
    simp only [if_true] at hmm
    replace hmm := hmm.symm
    subst hmm
    obtain ⟨rows, hrl, hrp⟩ := list_of_ex (P := fun i (r : List Value) => r.length = s ∧ E r ∧ ∀ j, j < s → W.cell? ((a.add (i * s)).add j) = r[j]?) n (fun i hi' => by
      obtain ⟨cs', hc, htr⟩ := hi i (by omega)
      rw [hs] at hc
      obtain ⟨_, hcl, hat⟩ := World.cells?_some hc
      exact ⟨cs', hcl, hE _ _ _ htr hcl, hat⟩)
    have hrs : ∀ r ∈ rows, r.length = s := fun r hr => by
      obtain ⟨i, hi', rfl⟩ := List.getElem_of_mem hr
      exact (hrp i _ (List.getElem?_eq_getElem hi')).1
    refine ⟨some a, n, c, rows, rfl, hl, hm, by simp, hrl, fun r hr => ?_, by rw [flatten_length rows hrs, hrl], fun hn => ⟨a, rfl, ?_, fun j u hu => ?_⟩⟩
    · obtain ⟨i, hi', rfl⟩ := List.getElem_of_mem hr
      exact ⟨(hrp i _ (List.getElem?_eq_getElem hi')).1, (hrp i _ (List.getElem?_eq_getElem hi')).2.1⟩
    · have h0 := hrp 0 _ (List.getElem?_eq_getElem (by omega))
      have hr0 : 0 < (rows[0]'(by omega)).length := by rw [h0.1]; exact hs0
      have := h0.2.2 0 hs0
      rw [List.getElem?_eq_getElem hr0] at this
      have := World.block_lt_of_cell? W _ this
      simpa [block_of_add] using this
    · have e : j = j / s * s + j % s := by rw [Nat.mul_comm]; exact (Nat.div_add_mod j s).symm
      have hjs : j % s < s := Nat.mod_lt _ hs0
      rw [e, flatten_getElem? rows _ _ hrs hjs] at hu
      rcases hrow : rows[j / s]? with _ | r
      · rw [hrow] at hu; cases hu
      · rw [hrow] at hu
        have := (hrp _ _ hrow).2.2 (j % s) hjs
        rw [add_of_add, ← e] at this
        rw [this]
        exact hu
end
end Go.Proofs.Ythbapdajmpplhaa
