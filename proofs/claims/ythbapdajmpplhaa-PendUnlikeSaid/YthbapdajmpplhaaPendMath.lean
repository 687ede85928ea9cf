/-
  Package pend: a table as the row of what is out; what a draw, and freeing, make of it.
-/
import Derived.Test.YthbapdajmpplhaaKMap
import Derived.Maps.RangeWalk
import Derived.Maps.Views
namespace Go.Proofs.Ythbapdajmpplhaa
open Go.RowKit
set_option linter.unusedVariables false
set_option linter.unusedSimpArgs false

theorem nodup_le : ∀ (n : Nat) (l : List Nat), l.Nodup → (∀ x ∈ l, x < n) → l.length ≤ n
  | 0, l, _, h => by
    cases l with
    | nil => simp
    | cons a r => exact absurd (h a (by simp)) (by omega)
  | n + 1, l, hn, h => by
    by_cases hm : n ∈ l
    · have h1 := nodup_le n (l.erase n) (hn.erase n) (fun x hx => by
        have := (List.Nodup.mem_erase_iff hn).1 hx
        have := h x this.2
        omega)
      rw [List.length_erase_of_mem hm] at h1
      have : 0 < l.length := List.length_pos_of_mem hm
      omega
    · have h1 := nodup_le n l hn (fun x hx => by
        have := h x hx
        have : x ≠ n := fun e => hm (e ▸ hx)
        omega)
      omega

/-- What is out. -/
structure Out where
  u : Nat
  slot : Int
  id : Nat
deriving DecidableEq

def isAt (u id : Nat) (o : Out) : Bool := decide (o.u = u) && decide (o.id = id)
def findO (L : List Out) (u id : Nat) : Option Int := (L.find? (isAt u id)).map (·.slot)
def isO (L : List Out) (u id : Nat) : Bool := L.any (isAt u id)
def onU (u : Nat) (o : Out) : Bool := decide (o.u = u)
def lenO (L : List Out) (u : Nat) : Nat := (L.filter (onU u)).length
def freeO (slot : Int) (L : List Out) : List Out := L.filter (fun o => !decide (o.slot = slot))
def freeAtO (slot : Int) (u : Nat) (L : List Out) : List Out := L.filter (fun o => !(decide (o.slot = slot) && decide (o.u = u)))
def stepsO (L : List Out) (u s : Nat) : Nat := ((List.range 65536).find? (fun d => !isO L u ((s + d) % 65536))).getD 0
def nextO (L : List Out) (u s : Nat) : Nat := (s + stepsO L u s) % 65536
/-- What the map of upstream u holds. -/
def atU (L : List Out) (u : Nat) : Lit → Option Value
  | .int .u16 (.ofNat i) => (findO L u i).map (.int .i64)
  | _ => none
theorem atU_nat (L : List Out) (u i : Nat) : atU L u (.int .u16 (i : Int)) = (findO L u i).map (.int .i64) := rfl

structure Inv (ups : Nat) (L : List Out) : Prop where
  ids : ∀ o ∈ L, o.id < 65536
  us : ∀ o ∈ L, o.u < ups
  slots : ∀ o ∈ L, 0 ≤ o.slot ∧ o.slot < 32
  one : L.Pairwise (fun a b => ¬ (a.u = b.u ∧ a.id = b.id))

theorem Inv.nil (ups : Nat) : Inv ups [] := ⟨by simp, by simp, by simp, .nil⟩
theorem Inv.filter {ups : Nat} {L : List Out} (h : Inv ups L) (p : Out → Bool) : Inv ups (L.filter p) :=
  ⟨fun o ho => h.ids o (List.mem_filter.1 ho).1, fun o ho => h.us o (List.mem_filter.1 ho).1, fun o ho => h.slots o (List.mem_filter.1 ho).1, h.one.filter p⟩
theorem isAt_iff {u id : Nat} {o : Out} : isAt u id o = true ↔ o.u = u ∧ o.id = id := by unfold isAt; simp
theorem findO_isO (L : List Out) (u id : Nat) : (findO L u id).isSome = isO L u id := by
  unfold findO isO
  rw [Option.isSome_map, Bool.eq_iff_iff, List.find?_isSome, List.any_eq_true]
theorem findO_none {L : List Out} {u id : Nat} (h : isO L u id = false) : findO L u id = none := by
  rw [← findO_isO] at h
  cases e : findO L u id with
  | none => rfl
  | some x => rw [e] at h; cases h
theorem isO_iff {L : List Out} {u id : Nat} : isO L u id = true ↔ ∃ o ∈ L, o.u = u ∧ o.id = id := by
  unfold isO
  rw [List.any_eq_true]
  exact ⟨fun ⟨o, h1, h2⟩ => ⟨o, h1, isAt_iff.1 h2⟩, fun ⟨o, h1, h2⟩ => ⟨o, h1, isAt_iff.2 h2⟩⟩
theorem isO_no {L : List Out} {u id : Nat} : isO L u id = false ↔ ∀ o ∈ L, ¬ (o.u = u ∧ o.id = id) := by
  rw [← Bool.not_eq_true, isO_iff]
  exact ⟨fun h o ho e => h ⟨o, ho, e⟩, fun h ⟨o, ho, e⟩ => h o ho e⟩
theorem findO_some {L : List Out} {u id : Nat} {s : Int} (h : findO L u id = some s) : ∃ o ∈ L, o.u = u ∧ o.id = id ∧ o.slot = s := by
  unfold findO at h
  obtain ⟨o, ho, rfl⟩ := Option.map_eq_some_iff.1 h
  obtain ⟨h1, h2⟩ := isAt_iff.1 (List.find?_some ho)
  exact ⟨o, List.mem_of_find?_eq_some ho, h1, h2, rfl⟩
theorem Inv.find {ups : Nat} {L : List Out} (h : Inv ups L) {o : Out} (ho : o ∈ L) : findO L o.u o.id = some o.slot := by
  have h1 := h.one
  clear h
  induction L with
  | nil => cases ho
  | cons x r ih =>
    rw [List.pairwise_cons] at h1
    unfold findO
    rw [List.find?_cons]
    rcases List.mem_cons.1 ho with rfl | hr
    · rw [isAt_iff.2 ⟨rfl, rfl⟩]; rfl
    · have : isAt o.u o.id x = false := by
        rw [← Bool.not_eq_true, isAt_iff]
        exact h1.1 o hr
      rw [this]
      exact ih hr h1.2
theorem Inv.find_iff {ups : Nat} {L : List Out} (h : Inv ups L) {u id : Nat} {s : Int} : findO L u id = some s ↔ (⟨u, s, id⟩ : Out) ∈ L := by
  refine ⟨fun e => ?_, fun e => h.find e⟩
  obtain ⟨o, ho, rfl, rfl, rfl⟩ := findO_some e
  exact ho
theorem findO_app (L : List Out) (o : Out) (u id : Nat) : findO (L ++ [o]) u id = (findO L u id).or (if isAt u id o = true then some o.slot else none) := by
  unfold findO
  rw [List.find?_append]
  cases L.find? (isAt u id) with
  | some x => rfl
  | none =>
    by_cases h : isAt u id o = true
    · simp [h]
    · simp [h]
theorem isO_app (L : List Out) (o : Out) (u id : Nat) : isO (L ++ [o]) u id = (isO L u id || isAt u id o) := by
  unfold isO
  simp
theorem lenO_app (L : List Out) (o : Out) (u : Nat) : lenO (L ++ [o]) u = lenO L u + if o.u = u then 1 else 0 := by
  unfold lenO
  rw [List.filter_append, List.length_append]
  by_cases h : o.u = u <;> simp [h, onU]
theorem lenO_le (L : List Out) (u : Nat) : lenO L u ≤ L.length := List.length_filter_le _ _
theorem onU_ids_nodup {ups : Nat} {L : List Out} (h : Inv ups L) (u : Nat) : ((L.filter (onU u)).map (·.id)).Nodup := by
  have h2 := (h.filter (onU u)).one
  rw [List.Nodup, List.pairwise_map]
  refine List.Pairwise.imp_of_mem (fun {a b} ha hb hab e => hab ⟨?_, e⟩) h2
  have := (List.mem_filter.1 ha).2
  have := (List.mem_filter.1 hb).2
  unfold onU at *
  simp_all
theorem Inv.len_max {ups : Nat} {L : List Out} (h : Inv ups L) (u : Nat) : lenO L u ≤ 65536 := by
  have := nodup_le 65536 _ (onU_ids_nodup h u) (fun x hx => by
    obtain ⟨o, ho, rfl⟩ := List.mem_map.1 hx
    exact h.ids o (List.mem_filter.1 ho).1)
  rwa [List.length_map] at this
/-- Of d numbers in a row, counted round, all of which are out, there are d at most. -/
theorem row_out {ups : Nat} {L : List Out} (h : Inv ups L) (u s d : Nat) (hd : d ≤ 65536) (ha : ∀ j, j < d → isO L u ((s + j) % 65536) = true) : d ≤ lenO L u := by
  have hn : ((List.range d).map (fun j => (s + j) % 65536)).Nodup := by
    rw [List.Nodup, List.pairwise_map]
    refine List.Pairwise.imp_of_mem (fun {a b} ha hb hab e => ?_) (List.pairwise_lt_range (n := d))
    have := List.mem_range.1 ha
    have := List.mem_range.1 hb
    omega
  have hs : ∀ x ∈ (List.range d).map (fun j => (s + j) % 65536), x ∈ (L.filter (onU u)).map (·.id) := by
    intro x hx
    obtain ⟨j, hj, rfl⟩ := List.mem_map.1 hx
    obtain ⟨o, ho, h1, h2⟩ := isO_iff.1 (ha j (List.mem_range.1 hj))
    exact List.mem_map.2 ⟨o, List.mem_filter.2 ⟨ho, by unfold onU; simp [h1]⟩, h2⟩
  have := sub_le _ _ hn hs
  simpa [lenO] using this
where
  sub_le : ∀ (a b : List Nat), a.Nodup → (∀ x ∈ a, x ∈ b) → a.length ≤ b.length
    | [], b, _, _ => by simp
    | x :: a, b, hn, hs => by
      rw [List.nodup_cons] at hn
      have := sub_le a (b.erase x) hn.2 (fun y hy => by
        have hyx : y ≠ x := fun e => hn.1 (e ▸ hy)
        exact (List.mem_erase_of_ne hyx).2 (hs y (by simp [hy])))
      have hx := hs x (by simp)
      rw [List.length_erase_of_mem hx] at this
      have := List.length_pos_of_mem hx
      simp
      omega
theorem stepsO_spec {ups : Nat} {L : List Out} (h : Inv ups L) (u s : Nat) (hl : lenO L u < 65536) :
    stepsO L u s ≤ lenO L u ∧ isO L u ((s + stepsO L u s) % 65536) = false ∧ ∀ j, j < stepsO L u s → isO L u ((s + j) % 65536) = true := by
  unfold stepsO
  cases e : (List.range 65536).find? (fun d => !isO L u ((s + d) % 65536)) with
  | none =>
    rw [List.find?_eq_none] at e
    have := row_out h u s 65536 (Nat.le_refl _) (fun j hj => by
      have := e j (List.mem_range.2 hj)
      simpa using this)
    omega
  | some d =>
    rw [List.find?_range_eq_some] at e
    obtain ⟨e1, e2, e3⟩ := e
    have e2 := List.mem_range.1 e2
    have hj : ∀ j, j < d → isO L u ((s + j) % 65536) = true := fun j hj => by simpa using e3 j hj
    exact ⟨row_out h u s d (by omega) hj, by simpa using e1, hj⟩
theorem nextO_of {L : List Out} {u s : Nat} (d : Nat) (hd : d < 65536) (h1 : isO L u ((s + d) % 65536) = false) (h2 : ∀ j, j < d → isO L u ((s + j) % 65536) = true) : stepsO L u s = d ∧ nextO L u s = (s + d) % 65536 := by
  have : stepsO L u s = d := by
    unfold stepsO
    have : (List.range 65536).find? (fun d => !isO L u ((s + d) % 65536)) = some d := by
      rw [List.find?_range_eq_some]
      exact ⟨by simp [h1], List.mem_range.2 hd, fun j hj => by simp [h2 j hj]⟩
    rw [this]; rfl
  exact ⟨this, by unfold nextO; rw [this]⟩
theorem Inv.put {ups : Nat} {L : List Out} (h : Inv ups L) {o : Out} (hu : o.u < ups) (hi : o.id < 65536) (hs : 0 ≤ o.slot ∧ o.slot < 32) (hn : isO L o.u o.id = false) : Inv ups (L ++ [o]) := by
  refine ⟨fun x hx => ?_, fun x hx => ?_, fun x hx => ?_, ?_⟩
  · rcases List.mem_append.1 hx with hx | hx
    · exact h.ids x hx
    · rw [List.mem_singleton.1 hx]; exact hi
  · rcases List.mem_append.1 hx with hx | hx
    · exact h.us x hx
    · rw [List.mem_singleton.1 hx]; exact hu
  · rcases List.mem_append.1 hx with hx | hx
    · exact h.slots x hx
    · rw [List.mem_singleton.1 hx]; exact hs
  · rw [List.pairwise_append]
    refine ⟨h.one, by simp, fun a ha b hb => ?_⟩
    rw [List.mem_singleton.1 hb]
    exact isO_no.1 hn a ha
theorem sameKey_u16 (a b : Int) : (Lit.int .u16 a).sameKey (.int .u16 b) = decide (a = b) := by
  by_cases h : a = b
  · subst h
    rw [decide_eq_true rfl]
    exact WideAt.sameKey_self (by trivial)
  · rw [decide_eq_false h]
    exact Maps.sameKey_ne (fun e => h (by cases e; rfl))
theorem atU_put {L : List Out} {o : Out} (hn : isO L o.u o.id = false) (kl : Lit) : upd (atU L o.u) (.int .u16 (o.id : Int)) (.int .i64 o.slot) kl = atU (L ++ [o]) o.u kl := by
  unfold upd
  by_cases hk : kl.sameKey (.int .u16 (o.id : Int)) = true
  · obtain rfl := WideAt.sameKey_eq hk
    rw [if_pos hk, atU_nat, findO_app, findO_none hn, if_pos (isAt_iff.2 ⟨rfl, rfl⟩)]; rfl
  · rw [if_neg hk]
    unfold atU
    split
    · rename_i i
      rw [findO_app]
      have : ¬ isAt o.u i o = true := fun e => hk (by
        rw [← (isAt_iff.1 e).2]
        exact WideAt.sameKey_self (by trivial))
      rw [if_neg this]
      simp
    · rfl
theorem atU_keep (L : List Out) {o : Out} {u : Nat} (h : o.u ≠ u) (kl : Lit) : atU L u kl = atU (L ++ [o]) u kl := by
  unfold atU
  split
  · rename_i i
    rw [findO_app]
    have : ¬ isAt u i o = true := fun e => h (isAt_iff.1 e).1
    rw [if_neg this]
    simp
  · rfl
theorem lenO_filter (L : List Out) (u : Nat) (p : Out → Bool) (h : ∀ o ∈ L, o.u = u → p o = true) : lenO (L.filter p) u = lenO L u := by
  unfold lenO
  rw [List.filter_filter]
  congr 1
  refine List.filter_congr (fun o ho => ?_)
  unfold onU
  by_cases e : o.u = u
  · simp [e, h o ho e]
  · simp [e]
theorem findO_filter {ups : Nat} {L : List Out} (h : Inv ups L) (u id : Nat) (p : Out → Bool) (hp : ∀ o ∈ L, o.u = u → o.id = id → p o = true) : findO (L.filter p) u id = findO L u id := by
  cases e : findO L u id with
  | none =>
    refine findO_none (isO_no.2 (fun o ho x => ?_))
    have := h.find (List.mem_filter.1 ho).1
    rw [x.1, x.2, e] at this
    cases this
  | some s =>
    have hm := h.find_iff.1 e
    exact (h.filter p).find_iff.2 (List.mem_filter.2 ⟨hm, hp _ hm rfl rfl⟩)
theorem findO_gone {ups : Nat} {L : List Out} (h : Inv ups L) (u id : Nat) (p : Out → Bool) (hp : ∀ o ∈ L, o.u = u → o.id = id → p o = false) : findO (L.filter p) u id = none := by
  refine findO_none (isO_no.2 (fun o ho x => ?_))
  obtain ⟨h1, h2⟩ := List.mem_filter.1 ho
  rw [hp o h1 x.1 x.2] at h2
  cases h2
end Go.Proofs.Ythbapdajmpplhaa
