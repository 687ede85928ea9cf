/-
  Package order: candidates, how they are sorted (a stable sort has one answer); nothing of the program.
-/
import Derived.WalkKit
namespace Go.Proofs.YtdcogjlcbdkdcaaDoor
open Go.RowKit
set_option linter.unusedVariables false
set_option linter.unusedSimpArgs false

/-- A candidate: who, its score, whether it is on trial. -/
abbrev Cnd := Int × Int × Bool
def key (c : Cnd) : Int := (if c.2.2 then 0 else 1000) + c.2.1
def cC (c : Cnd) : List Value := [.int .i64 c.1, .int .i64 c.2.1, .bool c.2.2]
def cRow (l : List Cnd) : List Value := (l.map cC).flatten
theorem cRow_length (l : List Cnd) : (cRow l).length = l.length * 3 := by
  unfold cRow
  induction l with
  | nil => rfl
  | cons a l ih => rw [List.map_cons, List.flatten_cons, List.length_append, ih, List.length_cons]; show 3 + _ = _; omega
theorem cRow_snoc (l : List Cnd) (c : Cnd) : cRow (l ++ [c]) = cRow l ++ cC c := by unfold cRow; simp

/-- l' is l, sorted, those that are alike in their row. -/
structure Srt (l l' : List Cnd) : Prop where
  down : l'.Pairwise (fun a b => key b ≤ key a)
  row : ∀ v, l'.filter (fun c => decide (key c = v)) = l.filter (fun c => decide (key c = v))

theorem srt_eq : ∀ (a b : List Cnd), a.Pairwise (fun a b => key b ≤ key a) → b.Pairwise (fun a b => key b ≤ key a) → (∀ v, a.filter (fun c => decide (key c = v)) = b.filter (fun c => decide (key c = v))) → a = b
  | [], [], _, _, _ => rfl
  | [], y :: b, _, _, h => by have := h (key y); simp at this
  | x :: a, [], _, _, h => by have := h (key x); simp at this
  | x :: a, y :: b, ha, hb, h => by
    have hin : ∀ {p q : List Cnd} {z : Cnd}, (∀ v, p.filter (fun c => decide (key c = v)) = q.filter (fun c => decide (key c = v))) → z ∈ q → z ∈ p := by
      intro p q z hpq hz
      have : z ∈ q.filter (fun c => decide (key c = key z)) := List.mem_filter.2 ⟨hz, by simp⟩
      rw [← hpq] at this
      exact (List.mem_filter.1 this).1
    have hy := hin h (List.mem_cons_self (a := y) (l := b))
    have hx := hin (fun v => (h v).symm) (List.mem_cons_self (a := x) (l := a))
    rw [List.pairwise_cons] at ha hb
    have h1 : key y ≤ key x := by
      rcases List.mem_cons.1 hy with e | e
      · rw [e]; exact Int.le_refl _
      · exact ha.1 _ e
    have h2 : key x ≤ key y := by
      rcases List.mem_cons.1 hx with e | e
      · rw [e]; exact Int.le_refl _
      · exact hb.1 _ e
    have hk : key x = key y := by omega
    have hh := h (key x)
    simp only [List.filter_cons, hk, decide_true, if_true] at hh
    obtain ⟨rfl, hh⟩ := List.cons.inj hh
    congr 1
    refine srt_eq a b ha.2 hb.2 (fun v => ?_)
    have hv := h v
    simp only [List.filter_cons] at hv
    split at hv
    · exact (List.cons.inj hv).2
    · exact hv
theorem Srt.uniq {l a b : List Cnd} (ha : Srt l a) (hb : Srt l b) : a = b := srt_eq a b ha.down hb.down (fun v => (ha.row v).trans (hb.row v).symm)

/-- One more, behind those that are not behind it. -/
def ins (p : List Cnd) (x : Cnd) : List Cnd := p.filter (fun c => decide (key x ≤ key c)) ++ x :: p.filter (fun c => decide (key c < key x))
def isrt (l : List Cnd) : List Cnd := l.foldl ins []
theorem filter_none (l : List Cnd) : l.filter (fun _ => false) = [] := by simp
theorem ins_srt {l p : List Cnd} (h : Srt l p) (x : Cnd) : Srt (l ++ [x]) (ins p x) := by
  constructor
  · unfold ins
    rw [List.pairwise_append]
    refine ⟨h.down.filter _, ?_, ?_⟩
    · rw [List.pairwise_cons]
      refine ⟨fun c hc => ?_, h.down.filter _⟩
      have := (List.mem_filter.1 hc).2
      simp at this
      omega
    · intro c hc d hd
      have h1 := (List.mem_filter.1 hc).2
      simp at h1
      rcases List.mem_cons.1 hd with rfl | hd
      · exact h1
      · have h2 := (List.mem_filter.1 hd).2
        simp at h2
        omega
  · intro v
    rw [List.filter_append, ← h.row v]
    unfold ins
    rw [List.filter_append, List.filter_cons, List.filter_filter, List.filter_filter]
    by_cases hv : key x = v
    · subst hv
      have e1 : ∀ c : Cnd, (decide (key c = key x) && decide (key x ≤ key c)) = decide (key c = key x) := by
        intro c; by_cases e : key c = key x <;> simp [e]
      have e2 : ∀ c : Cnd, (decide (key c = key x) && decide (key c < key x)) = false := by
        intro c; by_cases e : key c = key x <;> simp [e]
      simp only [e1, e2, filter_none, decide_true, if_true, List.filter_cons, List.filter_nil]
    · have e3 : ([x] : List Cnd).filter (fun c => decide (key c = v)) = [] := by simp [hv]
      rw [e3, List.append_nil]
      simp only [decide_eq_false hv, Bool.false_eq_true, if_false]
      rcases Int.lt_or_lt_of_ne hv with hlt | hlt
      · have e1 : ∀ c : Cnd, (decide (key c = v) && decide (key x ≤ key c)) = decide (key c = v) := by
          intro c; by_cases e : key c = v
          · have : key x ≤ key c := by omega
            simp [e]; omega
          · simp [e]
        have e2 : ∀ c : Cnd, (decide (key c = v) && decide (key c < key x)) = false := by
          intro c; by_cases e : key c = v
          · simp [e]; omega
          · simp [e]
        simp only [e1, e2, filter_none, List.append_nil]
      · have e1 : ∀ c : Cnd, (decide (key c = v) && decide (key x ≤ key c)) = false := by
          intro c; by_cases e : key c = v
          · simp [e]; omega
          · simp [e]
        have e2 : ∀ c : Cnd, (decide (key c = v) && decide (key c < key x)) = decide (key c = v) := by
          intro c; by_cases e : key c = v
          · have : key c < key x := by omega
            simp [e]; omega
          · simp [e]
        simp only [e1, e2, filter_none, List.nil_append]
theorem isrt_aux : ∀ (l p q : List Cnd), Srt p q → Srt (p ++ l) (l.foldl ins q)
  | [], p, q, h => by simpa using h
  | x :: l, p, q, h => by
    have := isrt_aux l (p ++ [x]) (ins q x) (ins_srt h x)
    simpa using this
theorem isrt_srt (l : List Cnd) : Srt l (isrt l) := by
  unfold isrt
  simpa using isrt_aux l [] [] ⟨List.Pairwise.nil, fun _ => rfl⟩

theorem Srt.mem {l l' : List Cnd} (h : Srt l l') (c : Cnd) : c ∈ l' ↔ c ∈ l := by
  have : ∀ {p q : List Cnd}, (∀ v, p.filter (fun c => decide (key c = v)) = q.filter (fun c => decide (key c = v))) → c ∈ q → c ∈ p := by
    intro p q hpq hz
    have : c ∈ q.filter (fun d => decide (key d = key c)) := List.mem_filter.2 ⟨hz, by simp⟩
    rw [← hpq] at this
    exact (List.mem_filter.1 this).1
  exact ⟨this (fun v => (h.row v).symm), this h.row⟩
theorem Srt.perm {l l' : List Cnd} (h : Srt l l') : l'.Perm l := by
  rw [List.perm_iff_count]
  intro c
  have e : ∀ p : List Cnd, p.count c = (p.filter (fun d => decide (key d = key c))).count c := by
    intro p
    rw [List.count_filter (by simp)]
  rw [e l', e l, h.row]
theorem Srt.length {l l' : List Cnd} (h : Srt l l') : l'.length = l.length := h.perm.length_eq

/-! ### sorting by exchanging neighbours -/
def c0 : Cnd := (0, 0, false)
def cAt (L : List Cnd) (k : Nat) : Cnd := L.getD k c0
theorem cAt_get {L : List Cnd} {k : Nat} (h : k < L.length) : L[k]? = some (cAt L k) := by
  unfold cAt; rw [List.getD_eq_getElem?_getD, List.getElem?_eq_getElem h]; rfl
/-- The one at j and the one ahead of it exchanged. -/
def swpC (L : List Cnd) (j : Nat) : List Cnd := (L.set j (cAt L (j - 1))).set (j - 1) (cAt L j)
theorem swpC_length (L : List Cnd) (j : Nat) : (swpC L j).length = L.length := by simp [swpC]
theorem swpC_at {L : List Cnd} {j : Nat} (h : j < L.length) (h1 : 1 ≤ j) (k : Nat) : cAt (swpC L j) k = if k = j then cAt L (j - 1) else if k = j - 1 then cAt L j else cAt L k := by
  unfold swpC
  conv => lhs; unfold cAt
  rw [List.getD_eq_getElem?_getD, List.getElem?_set, List.length_set, List.getElem?_set]
  by_cases e1 : k = j
  · rw [if_neg (by omega), if_pos e1.symm, if_pos (by omega), if_pos e1]; rfl
  · by_cases e2 : k = j - 1
    · rw [if_pos e2.symm, if_pos (by omega), if_neg e1, if_pos e2]; rfl
    · rw [if_neg (by omega), if_neg (by omega), if_neg e1, if_neg e2]
      unfold cAt; rw [List.getD_eq_getElem?_getD]
theorem swpC_parts {L : List Cnd} {j : Nat} (h : j < L.length) (h1 : 1 ≤ j) :
    L = L.take (j - 1) ++ [cAt L (j - 1), cAt L j] ++ L.drop (j + 1) ∧ swpC L j = L.take (j - 1) ++ [cAt L j, cAt L (j - 1)] ++ L.drop (j + 1) := by
  have hl : (L.take (j - 1)).length = j - 1 := by rw [List.length_take]; omega
  have key' : ∀ (a b : Cnd) (k : Nat), (L.take (j - 1) ++ [a, b] ++ L.drop (j + 1))[k]? = if k = j then some b else if k = j - 1 then some a else L[k]? := by
    intro a b k
    rcases Nat.lt_or_ge k (j - 1) with hk | hk
    · rw [List.getElem?_append_left (by simp; omega), List.getElem?_append_left (by omega), if_neg (by omega), if_neg (by omega), List.getElem?_take, if_pos hk]
    · rcases Nat.lt_or_ge k (j + 1) with hk2 | hk2
      · rw [List.getElem?_append_left (by simp; omega), List.getElem?_append_right (by omega), hl]
        rcases Nat.lt_or_ge k j with hk3 | hk3
        · have : k = j - 1 := by omega
          subst this
          rw [if_neg (by omega), if_pos rfl, Nat.sub_self]; rfl
        · have : k = j := by omega
          subst this
          rw [if_pos rfl, show k - (k - 1) = 1 by omega]; rfl
      · rw [List.getElem?_append_right (by simp; omega), if_neg (by omega), if_neg (by omega), List.getElem?_drop]
        congr 1
        simp; omega
  constructor
  · apply List.ext_getElem?
    intro k
    rw [key']
    split
    · subst_vars; exact cAt_get h
    · split
      · subst_vars; exact cAt_get (by omega)
      · rfl
  · apply List.ext_getElem?
    intro k
    rw [key']
    by_cases hk : k < L.length
    · rw [cAt_get (by rw [swpC_length]; exact hk), swpC_at h h1]
      split
      · rfl
      · split
        · rfl
        · exact (cAt_get hk).symm
    · rw [List.getElem?_eq_none (by rw [swpC_length]; omega), if_neg (by omega), if_neg (by omega), List.getElem?_eq_none (by omega)]
theorem swpC_row {L : List Cnd} {j : Nat} (h : j < L.length) (h1 : 1 ≤ j) (hk : key (cAt L (j - 1)) < key (cAt L j)) (v : Int) :
    (swpC L j).filter (fun c => decide (key c = v)) = L.filter (fun c => decide (key c = v)) := by
  obtain ⟨e1, e2⟩ := swpC_parts h h1
  rw [e2]
  conv => rhs; rw [e1]
  simp only [List.filter_append]
  congr 2
  simp only [List.filter_cons, List.filter_nil]
  by_cases a : key (cAt L (j - 1)) = v
  · have b : ¬ key (cAt L j) = v := by omega
    simp [a, b]
  · simp [a]

/-- The row up to i is sorted, but for what is under way at j. -/
def Under (L : List Cnd) (i j : Nat) : Prop := ∀ a b, a < b → b ≤ i → b ≠ j → key (cAt L b) ≤ key (cAt L a)
theorem under_next {L : List Cnd} {i j : Nat} (h : Under L i j) (hj : j < L.length) (h1 : 1 ≤ j) (hk : key (cAt L (j - 1)) < key (cAt L j)) : Under (swpC L j) i (j - 1) := by
  intro a b hab hb hne
  rw [swpC_at hj h1, swpC_at hj h1]
  by_cases b1 : b = j
  · subst b1
    rw [if_pos rfl, if_neg (by omega)]
    split
    · omega
    · exact h _ _ (by omega) (by omega) (by omega)
  · rw [if_neg b1, if_neg hne]
    by_cases a1 : a = j
    · rw [if_pos a1]; exact h _ _ (by omega) hb b1
    · rw [if_neg a1]
      by_cases a2 : a = j - 1
      · rw [if_pos a2]; exact h _ _ (by omega) hb b1
      · rw [if_neg a2]; exact h _ _ hab hb b1
theorem under_up {L : List Cnd} {i : Nat} (h : ∀ a b, a < b → b < i → key (cAt L b) ≤ key (cAt L a)) : Under L i i := fun a b hab hb hne => h a b hab (by omega)
theorem under_zero {L : List Cnd} {i : Nat} (h : Under L i 0) : ∀ a b, a < b → b < i + 1 → key (cAt L b) ≤ key (cAt L a) := fun a b hab hb => h a b hab (by omega) (by omega)
theorem under_end {L : List Cnd} {i j : Nat} (h : Under L i j) (h1 : 1 ≤ j) (hk : ¬ key (cAt L (j - 1)) < key (cAt L j)) : ∀ a b, a < b → b < i + 1 → key (cAt L b) ≤ key (cAt L a) := by
  intro a b hab hb
  by_cases e : b = j
  · subst e
    by_cases a1 : a = b - 1
    · subst a1; omega
    · have := h a (b - 1) (by omega) (by omega) (by omega)
      omega
  · exact h a b hab (by omega) e
theorem down_of {L : List Cnd} (h : ∀ a b, a < b → b < L.length → key (cAt L b) ≤ key (cAt L a)) : L.Pairwise (fun a b => key b ≤ key a) := by
  rw [List.pairwise_iff_getElem]
  intro i j hi hj hij
  have := h i j hij hj
  unfold cAt at this
  rw [List.getD_eq_getElem?_getD, List.getD_eq_getElem?_getD, List.getElem?_eq_getElem hi, List.getElem?_eq_getElem hj] at this
  exact this
/-- What is done is the sorted row. -/
theorem done_eq {l L : List Cnd} (hrow : ∀ v, L.filter (fun c => decide (key c = v)) = l.filter (fun c => decide (key c = v))) (h : ∀ a b, a < b → b < L.length → key (cAt L b) ≤ key (cAt L a)) : L = isrt l :=
  Srt.uniq ⟨down_of h, hrow⟩ (isrt_srt l)
end Go.Proofs.YtdcogjlcbdkdcaaDoor
