/-
  A map told as a function: an entry struck while it is gone over; how many there are; a clone.
-/
import Derived.Test.YthbapdajmpplhaaKMap
import Derived.Maps.RangeWalk
import Derived.Maps.Views
import Derived.Shelf.SlMaps.Clone
namespace Go.Proofs.Ythbapdajmpplhaa
open Go.RowKit Go.WideShapes
open Go.Maps (Keyed)
set_option linter.unusedVariables false
set_option linter.unusedSimpArgs false

def del1 (M : Lit → Option Value) (kl : Lit) : Lit → Option Value := fun x => if x.sameKey kl = true then none else M x

section
variable {P : Program} {k : TypeId} {b r n : Nat} {M : Lit → Option Value} {left : Lit → Bool} {cnt : Nat} {w w' : World}
theorem MapOn.drop {t e : TypeId} (h : MapOn w P k b r n M left cnt) (K : Keyed P k) (ht : P.underlying t = some (.map k e)) {key : Value} {kl : Lit} (hkey : keyOf P k key = some kl) (ty : TypeId) :
    ∃ w' cnt', (Builtin.delete_ #[t, k] ty #[.map (some b), key]).run P w = .ok (.tuple #[]) w' ∧ MapOn w' P k b r n (del1 M kl) (fun x => left x && !x.sameKey kl) cnt' ∧ cnt' ≤ cnt ∧ Only (· = b) w w' ∧ w'.heap.size = w.heap.size := by
  obtain ⟨D, h, hM⟩ := h
  obtain ⟨w', cnt', hrun, h2, hle, hturn⟩ := h.drop K ht hkey ty
  refine ⟨w', cnt', hrun, ⟨D.del kl, h2, fun x => ?_⟩, hle, (Only.refl _ w).grown hturn.grown (fun i hi => .inl (Option.some.inj hi).symm), ?_⟩
  · unfold del1
    by_cases hx : x.sameKey kl = true
    · obtain rfl := WideAt.sameKey_eq hx
      simp only [hx, if_true]
      exact fun z => Maps.atKey_del_same z
    · have hne : x ≠ kl := fun e => hx (by rw [e]; exact WideAt.sameKey_self (K.key hkey))
      simp only [if_neg hx]
      have := hM x
      cases hMx : M x <;> rw [hMx] at this <;> simp only [] <;> intro z <;> rw [Maps.atKey_del_other hne] <;> exact this z
  · obtain ⟨es, clock, es', clock', hb, rfl⟩ := hturn
    simp [ChangeMaps.setBlock]
theorem MapOn.only {S : Nat → Prop} (h : MapOn w P k b r n M left cnt) (o : Only S w w') (hb : ¬ S b) (hr : ¬ S r) : MapOn w' P k b r n M left cnt := by
  have hlt := h.lt
  obtain ⟨D, h, hM⟩ := h
  refine ⟨D, ?_, hM⟩
  obtain ⟨es, clock, since, seen, c0, hb', F, hs, e1, hr', rest⟩ := h
  exact ⟨es, clock, since, seen, c0, (o.block b hlt.1 hb).trans hb', F, hs, e1, (o.block r hlt.2.1 hr).trans hr', rest⟩

def KeyLits {H : Type} (D : DataW H) : Prop := ∀ es, D = .map es → ∀ p ∈ es, WideAt.IsKeyLit p.1
theorem KeyLits.del {H : Type} {D : DataW H} (h : KeyLits D) (hT : Maps.Tidy D) (kl : Lit) : KeyLits (D.del kl) := by
  obtain ⟨es, rfl, _⟩ := hT
  intro es' e p hp
  rw [DataW.del_eq] at e
  cases e
  exact h es rfl p (List.mem_filter.1 hp).1
theorem own_keys {H : Type} {R : Value → Option (DataW H × List MemPlace)} {D : DataW H} (h : w.ownsMap P k R b n D) (K : Keyed P k) : KeyLits D := by
  obtain ⟨es, clock, hb, F, hs, rfl⟩ := h
  intro es' e p hp
  cases e
  obtain ⟨x, hx, rfl⟩ := List.mem_map.1 ((sorted_perm _).mem_iff.1 hp)
  obtain ⟨y, hy⟩ := F.reads x (by simpa using hx)
  have h1 := WideElems.rd_key hy
  rw [← WideElems.rg_of hy] at h1
  exact K.key h1
theorem size_keys {H : Type} : ∀ (ks : List Lit) (D : DataW H), Maps.Tidy D → KeyLits D → ks.Nodup → (∀ kl, Maps.has D kl = ks.any (fun y => y.sameKey kl)) → (∀ x ∈ ks, x.sameKey x = true) → Maps.size D = ks.length
  | [], D, hT, hK, _, hh, _ => by
    obtain ⟨es, rfl, hp⟩ := hT
    cases es with
    | nil => rfl
    | cons p rest =>
      have h1 := hh p.1
      rw [Maps.has_eq, List.any_cons, WideAt.sameKey_self (hK _ rfl p (by simp))] at h1
      simp at h1
  | x :: ks, D, hT, hK, hn, hh, hs => by
    rw [List.nodup_cons] at hn
    have hx : Maps.has D x = true := by rw [hh]; simp [hs x (by simp)]
    have h1 := size_keys ks (D.del x) (hT.del x) (hK.del hT x) hn.2 (fun kl => by
      by_cases e : kl = x
      · subst e
        rw [Maps.has_del_same]
        symm
        rw [List.any_eq_false]
        intro y hy e
        exact hn.1 (WideAt.sameKey_eq e ▸ hy)
      · rw [Maps.has_del_other e, hh, List.any_cons, Maps.sameKey_ne (fun e' => e e'.symm), Bool.false_or]) (fun y hy => hs y (by simp [hy]))
    have h2 := Maps.size_del (k := x) hT
    rw [hx] at h2
    simp at h2 ⊢
    omega
/-- The loop is over: how many are left. -/
theorem MapOn.back (h : MapOn w P k b r n M left cnt) (K : Keyed P k) (ks : List Lit) (hn : ks.Nodup) (hs : ∀ x ∈ ks, x.sameKey x = true) (hM : ∀ kl, (M kl).isSome = ks.any (fun y => y.sameKey kl)) : MapIs w P k b ks.length M := by
  obtain ⟨D, h, hD⟩ := h
  have ho := h.owns
  have hsz := size_keys ks D (ho.tidy K) (own_keys ho K) hn (fun kl => by rw [MapIs.has hD, hM]) hs
  obtain ⟨es, clock, hb, F, hle, e⟩ := ho
  refine ⟨D, ⟨es, clock, hb, F, ?_, e⟩, hsz, hD⟩
  rw [← hsz, e]
  simp [Maps.size, length_sorted]
theorem MapIs.clone (h : MapIs w P k b n M) : ∃ es clock, w.heap[b]? = some (.map es clock) ∧ MapIs (w.alloc (.map es clock)) P k w.heap.size n M := by
  obtain ⟨D, ⟨es, clock, hb, F, hs, hD⟩, h2⟩ := h
  exact ⟨es, clock, hb, D, ⟨es, clock, (MapKept.heap_alloc w _).1, F, hs, hD⟩, h2⟩
theorem MapIs.is_map (h : MapIs w P k b n M) : ∃ es clock, w.heap[b]? = some (.map es clock) := by
  obtain ⟨D, ⟨es, clock, hb, _⟩, _⟩ := h
  exact ⟨es, clock, hb⟩
end

section
variable {P : Program} (w : World) {ops : Array Oper} {rest : List Oper} {o : Oper} {a : Act} {Q : Exit → Act → World → Prop}
theorem wpList_mapRange (hg : o.guard = none) (m : Operand) (t : TypeId) (hop : o.op = Op.range t m) (k e : TypeId) (K : Keyed P k) (ht : P.underlying t = some (.map k e)) (b n : Nat) (M : Lit → Option Value)
    (hm : a.eval m = .map (some b)) (h : MapIs w P k b n M)
    (hK : ∀ w', MapOn w' P k b w.heap.size n M (fun kl => (M kl).isSome) n → Still w w' → w'.heap.size = w.heap.size + 1 → wpList P ops Q rest (a.put o.dst (.pointer (some ⟨w.heap.size, 0, none⟩))) w') :
    wpList P ops Q (o :: rest) a w := by
  refine wpList_plain hg fun K' hK' => ?_
  obtain ⟨w', hrun, r1, r2, r3⟩ := h.range K ht
  unfold Oper.wp
  simp [execOp, hop, hm, hrun, Result.andThen]
  exact hK' _ _ (hK w' r1 r2 r3)
theorem wpList_mapDel (hg : o.guard = none) (m x : Operand) (t k : TypeId) (hop : o.op = Op.call { callee := Callee.builtin Builtin.delete, args := #[m, x], argTypes := #[t, k] })
    (e : TypeId) (K : Keyed P k) (ht : P.underlying t = some (.map k e)) (b r n : Nat) (M : Lit → Option Value) (left : Lit → Bool) (cnt : Nat)
    (hm : a.eval m = .map (some b)) (h : MapOn w P k b r n M left cnt) (key : Value) (kl : Lit) (hx : a.eval x = key) (hkey : keyOf P k key = some kl)
    (hK : ∀ w' cnt', MapOn w' P k b r n (del1 M kl) (fun z => left z && !z.sameKey kl) cnt' → cnt' ≤ cnt → Only (· = b) w w' → w'.heap.size = w.heap.size → wpList P ops Q rest (a.put o.dst (.tuple #[])) w') :
    wpList P ops Q (o :: rest) a w := by
  refine wpList_plain hg fun K' hK' => ?_
  obtain ⟨w', cnt', hrun, r1, r2, r3, r4⟩ := h.drop K ht hkey o.type
  unfold Oper.wp
  simp [execOp, hop, resolve, invoke, builtin, hm, hx, hrun, Result.andThen]
  exact hK' _ _ (hK w' cnt' r1 r2 r3 r4)
end
end Go.Proofs.Ythbapdajmpplhaa
