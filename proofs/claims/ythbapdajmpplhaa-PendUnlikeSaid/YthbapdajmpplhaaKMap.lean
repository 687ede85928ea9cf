/-
  A map whose elements are any values, told as a function from keys to values: made, looked up, stored into, counted, gone over.
-/
import Derived.Test.YthbapdajmpplhaaBase
import Derived.Maps.RangeWalk
import Derived.StringKeys
namespace Go.Proofs.Ythbapdajmpplhaa
open Go.RowKit Go.WideShapes
open Go.Maps (Keyed)
set_option linter.unusedVariables false
set_option linter.unusedSimpArgs false

/-- An element, as it lies. -/
def hv (v : Value) : Option (DataW Value × List MemPlace) := some (.held v, [])

/-- A map with an entry put. -/
def upd (M : Lit → Option Value) (kl : Lit) (v : Value) : Lit → Option Value := fun x => if x.sameKey kl = true then some v else M x

/-- Block b is a map of n entries; M says what lies at a key. -/
def MapIs (w : World) (P : Program) (k : TypeId) (b n : Nat) (M : Lit → Option Value) : Prop :=
  ∃ D, w.ownsMap P k hv b n D ∧ Maps.size D = n ∧ ∀ kl, match M kl with
    | some v => ∀ z, D.atKey kl z = .held v
    | none => ∀ z, D.atKey kl z = z

section
variable {P : Program} {k : TypeId} {b n : Nat} {M : Lit → Option Value} {w w' : World}

theorem MapIs.has {D : DataW Value} (h : ∀ kl, match M kl with | some v => ∀ z, D.atKey kl z = .held v | none => ∀ z, D.atKey kl z = z) (kl : Lit) : Maps.has D kl = (M kl).isSome := by
  have := h kl
  cases hM : M kl <;> rw [hM] at this
  · exact Maps.has_false_of_atKey this
  · exact Maps.has_true_of_atKey this

theorem MapIs.lt (h : MapIs w P k b n M) : b < w.heap.size := by
  obtain ⟨D, h, _⟩ := h
  exact h.lt
theorem MapIs.of_block (h : MapIs w P k b n M) (e : w'.heap[b]? = w.heap[b]?) : MapIs w' P k b n M := by
  obtain ⟨D, ⟨es, clock, hb, r⟩, h2⟩ := h
  exact ⟨D, ⟨es, clock, e.trans hb, r⟩, h2⟩
theorem MapIs.only {S : Nat → Prop} (h : MapIs w P k b n M) (o : Only S w w') (hS : ¬ S b) : MapIs w' P k b n M := h.of_block (o.block b h.lt hS)
theorem MapIs.still (h : MapIs w P k b n M) (o : Still w w') : MapIs w' P k b n M := h.only o (fun h => h)
theorem MapIs.turn (h : MapIs w P k b n M) {M' : Lit → Option Value} (e : ∀ kl, M kl = M' kl) : MapIs w P k b n M' := by
  obtain rfl : M = M' := funext e
  exact h
theorem MapIs.made (w : World) (P : Program) (k : TypeId) : MapIs (w.alloc (.map #[] 0)) P k w.heap.size 0 (fun _ => none) :=
  ⟨_, World.ownsMap_made w P k hv, rfl, fun kl z => rfl⟩

theorem MapIs.look {t e : TypeId} (h : MapIs w P k b n M) (K : Keyed P k) (ht : P.underlying t = some (.map k e)) {z : Value} (hz : (zeroValue e).run P w = .ok z w) {key : Value} {kl : Lit} (hkey : keyOf P k key = some kl) (c : Bool) :
    (Instr.lookup t (.map (some b)) key c).run P w = .ok (if c then .tuple #[(M kl).getD z, .bool (M kl).isSome] else (M kl).getD z) w := by
  obtain ⟨D, ⟨es, clock, hb, F, _, rfl⟩, _, hM⟩ := h
  have hk := hM kl
  rcases Maps.fit_look c K ht hz hb F hkey with ⟨hrun, _, hat⟩ | ⟨e0, y, _, _, hrun, hRv, hat, _⟩
  · cases hMk : M kl <;> rw [hMk] at hk
    · exact hrun
    · have h1 := hk (.held z)
      have h2 := hk .nil
      rw [hat] at h2
      cases h2
  · cases hMk : M kl <;> rw [hMk] at hk
    · have h1 := hat .nil
      rw [hk] at h1
      have : y = (.held e0.val, []) := (Option.some.inj hRv).symm
      rw [this] at h1
      cases h1
    · have h1 := hat .nil
      rw [hk] at h1
      have : y = (.held e0.val, []) := (Option.some.inj hRv).symm
      rw [this] at h1
      cases h1
      exact hrun

theorem MapIs.len {t e : TypeId} (h : MapIs w P k b n M) (ht : P.underlying t = some (.map k e)) (ty : TypeId) : (Builtin.len_ #[t] ty #[.map (some b)]).run P w = .ok (.int .i64 n) w := by
  obtain ⟨D, h, hs, _⟩ := h
  rw [h.len ht ty, hs]

theorem MapIs.store {t e : TypeId} (h : MapIs w P k b n M) (K : Keyed P k) (ht : P.underlying t = some (.map k e)) (hn : n < maxLen) {key : Value} (val : Value) {kl : Lit} (hkey : keyOf P k key = some kl) :
    ∃ w', (Instr.mapUpdate t (.map (some b)) key val).run P w = .ok () w' ∧ MapIs w' P k b (if (M kl).isSome then n else n + 1) (upd M kl val) ∧ Only (· = b) w w' ∧ w'.heap.size = w.heap.size := by
  obtain ⟨D, h, hs, hM⟩ := h
  have hT := h.tidy K
  obtain ⟨w', hrun, hown, hturn⟩ := h.store K ht hn hkey (val := val) (d := .held val) (ps := []) rfl
  have hsz : Maps.size (D.put kl (.held val)) = if (M kl).isSome then n else n + 1 := by rw [Maps.size_put hT, MapIs.has hM, hs]
  refine ⟨w', hrun, ⟨D.put kl (.held val), ?_, hsz, fun x => ?_⟩, ?_, ?_⟩
  · obtain ⟨es, clock, hb, F, hle, hD⟩ := hown
    refine ⟨es, clock, hb, F, ?_, hD⟩
    rw [← hsz, hD]
    simp [Maps.size, length_sorted]
  · unfold upd
    by_cases hx' : x.sameKey kl = true
    · obtain rfl := WideAt.sameKey_eq hx'
      simp only [hx', if_true]
      exact fun z => Maps.atKey_put_same hT.isMap (K.key hkey) _ z
    · have hx : x ≠ kl := fun e => hx' (by rw [e]; exact WideAt.sameKey_self (K.key hkey))
      simp only [if_neg hx']
      have := hM x
      cases hMx : M x <;> rw [hMx] at this <;> simp only [] <;> intro z <;> rw [Maps.atKey_put_other hx] <;> exact this z
  · exact (Only.refl _ w).grown hturn.grown (fun i hi => .inl (Option.some.inj hi).symm)
  · obtain ⟨es, clock, es', clock', hb, rfl⟩ := hturn
    simp [ChangeMaps.setBlock]

/-- A map under way: left says which keys are still to come. -/
def MapOn (w : World) (P : Program) (k : TypeId) (b r n : Nat) (M : Lit → Option Value) (left : Lit → Bool) (cnt : Nat) : Prop :=
  ∃ D, w.ranges P k hv b r n D left cnt ∧ ∀ kl, match M kl with
    | some v => ∀ z, D.atKey kl z = .held v
    | none => ∀ z, D.atKey kl z = z

theorem MapIs.range {t e : TypeId} (h : MapIs w P k b n M) (K : Keyed P k) (ht : P.underlying t = some (.map k e)) :
    ∃ w', (Instr.range t (.map (some b))).run P w = .ok (.pointer (some ⟨w.heap.size, 0, none⟩)) w' ∧ MapOn w' P k b w.heap.size n M (fun kl => (M kl).isSome) n ∧ Still w w' ∧ w'.heap.size = w.heap.size + 1 := by
  obtain ⟨D, h, hs, hM⟩ := h
  obtain ⟨w', hrun, hr, hg, hz⟩ := h.range K ht
  refine ⟨w', hrun, ⟨D, ?_, hM⟩, (Only.refl _ w).grown hg (fun i hi => by cases hi), hz⟩
  rw [hs] at hr
  have : Maps.has D = fun kl => (M kl).isSome := funext (MapIs.has hM)
  rw [this] at hr
  exact hr

theorem MapOn.next {r cnt : Nat} {left : Lit → Bool} (h : MapOn w P k b r n M left cnt) (K : Keyed P k) (ty : TypeId) :
    (cnt = 0 ∧ (∀ kl, left kl = false) ∧ (Instr.next (.pointer (some ⟨r, 0, none⟩)) false ty).run P w = .ok (.tuple #[.bool false]) w) ∨
    ∃ key v kl w' cnt', keyOf P k key = some kl ∧ left kl = true ∧ M kl = some v ∧ (Instr.next (.pointer (some ⟨r, 0, none⟩)) false ty).run P w = .ok (.tuple #[.bool true, key, v]) w' ∧
      MapOn w' P k b r n M (fun x => left x && !x.sameKey kl) cnt' ∧ cnt' < cnt ∧ Only (· = r) w w' ∧ w'.heap.size = w.heap.size ∧ (Instr.entry (.pointer (some ⟨r, 0, none⟩))).run P w' = .ok (.tuple #[key, v]) w' := by
  obtain ⟨D, h, hM⟩ := h
  rcases h.next K ty with ⟨h0, hl, hrun⟩ | ⟨key, v, kl, y, w', cnt', hkey, hlk, hv', hat, hrun, hrg, hlt, hgr, hsz, hen⟩
  · exact .inl ⟨h0, hl, hrun⟩
  · have hy : y = (.held v, []) := (Option.some.inj hv').symm
    have hMk : M kl = some v := by
      have := hM kl
      cases hMk : M kl <;> rw [hMk] at this
      · have h1 := hat .nil
        rw [this, hy] at h1
        cases h1
      · have h1 := hat .nil
        rw [this, hy] at h1
        cases h1
        rfl
    exact .inr ⟨key, v, kl, w', cnt', hkey, hlk, hMk, hrun, ⟨D, hrg, hM⟩, hlt, (Only.refl _ w).grown hgr (fun i hi => .inl (Option.some.inj hi).symm), hsz, hen⟩
theorem MapOn.lt {r cnt : Nat} {left : Lit → Bool} (h : MapOn w P k b r n M left cnt) : b < w.heap.size ∧ r < w.heap.size ∧ r ≠ b := by
  obtain ⟨D, h, _⟩ := h
  exact ⟨h.owns.lt, h.lt, h.ne⟩
theorem MapOn.left_eq {r cnt : Nat} {left : Lit → Bool} (h : MapOn w P k b r n M left cnt) : w.rangeLeft b r = cnt := by
  obtain ⟨D, h, _⟩ := h
  exact h.left_eq
end

/-! ### keys -/
section
variable {P : Program} {k : TypeId}
theorem key_int (hk : P.underlying k = some (.int .i64)) {n : Nat} (hn : n ≤ maxLen) : keyOf P k (.int .i64 n) = some (.int .i64 n) :=
  Maps.keyOf_int_mk hk (by unfold maxLen at hn; simp [Lit.wf, IntKind.min, IntKind.max, IntKind.signed, IntKind.bits]; omega)
theorem key_str (hk : P.underlying k = some .string) {s : ByteArray} (hs : s.size ≤ maxLen) : keyOf P k (.string s) = some (.string s.data.toList) := by
  exact WideMaps.keyOf_string_mk hk hs
end

/-! ### at the operation -/
section
variable {P : Program} (w : World) {ops : Array Oper} {rest : List Oper} {o : Oper} {a : Act} {Q : Exit → Act → World → Prop}
theorem wpList_mapPut (hg : o.guard = none) (m x v : Operand) (t : TypeId) (hop : o.op = Op.mapUpdate t m x v)
    (k e : TypeId) (K : Keyed P k) (ht : P.underlying t = some (.map k e)) (b n : Nat) (M : Lit → Option Value)
    (hm : a.eval m = .map (some b)) (h : MapIs w P k b n M) (hn : n < maxLen) (key val : Value) (kl : Lit) (hx : a.eval x = key) (hv : a.eval v = val) (hkey : keyOf P k key = some kl)
    (hK : ∀ w', MapIs w' P k b (if (M kl).isSome then n else n + 1) (upd M kl val) → Only (· = b) w w' → w'.heap.size = w.heap.size → wpList P ops Q rest (a.put o.dst undef) w') :
    wpList P ops Q (o :: rest) a w := by
  refine wpList_plain hg fun K' hK' => ?_
  obtain ⟨w', hrun, r1, r2, r3⟩ := h.store K ht hn val hkey
  unfold Oper.wp
  simp [execOp, hop, hm, hx, hv, hrun, Result.andThen]
  exact hK' _ _ (hK w' r1 r2 r3)
theorem wpList_mapNext {α γ : Type} (hg : o.guard = none) (it : Operand) (hop : o.op = Op.next it false) (k : TypeId) (K : Keyed P k) (M : Lit → Option Value) (mkK : α → Value) (mkV : α → γ → Value)
    (b r n : Nat) (left : Lit → Bool) (cnt : Nat) (inv : ∀ key kl v, keyOf P k key = some kl → M kl = some v → ∃ x c, key = mkK x ∧ v = mkV x c)
    (hit : a.eval it = .pointer (some ⟨r, 0, none⟩)) (h : MapOn w P k b r n M left cnt)
    (hDone : cnt = 0 → (∀ kl, left kl = false) → wpList P ops Q rest (a.put o.dst (.tuple #[.bool false])) w)
    (hMore : ∀ (x : α) (c : γ) (kl : Lit) (w' : World) (cnt' : Nat), keyOf P k (mkK x) = some kl → left kl = true → M kl = some (mkV x c) → MapOn w' P k b r n M (fun z => left z && !z.sameKey kl) cnt' → cnt' < cnt →
      Only (· = r) w w' → w'.heap.size = w.heap.size → (Instr.entry (.pointer (some ⟨r, 0, none⟩))).run P w' = .ok (.tuple #[mkK x, mkV x c]) w' → wpList P ops Q rest (a.put o.dst (.tuple #[.bool true, mkK x, mkV x c])) w') :
    wpList P ops Q (o :: rest) a w := by
  refine wpList_plain hg fun K' hK' => ?_
  unfold Oper.wp
  rcases h.next K o.type with ⟨h0, hl, hrun⟩ | ⟨key, v, kl, w', cnt', hkey, hlk, hM, hrun, hrg, hlt, hgr, hsz, hen⟩
  · simp [execOp, hop, hit, hrun, Result.andThen]
    exact hK' _ _ (hDone h0 hl)
  · obtain ⟨x, c, rfl, rfl⟩ := inv key kl v hkey hM
    simp [execOp, hop, hit, hrun, Result.andThen]
    exact hK' _ _ (hMore x c kl w' cnt' hkey hlk hM hrg hlt hgr hsz hen)
theorem step_mapPut {K_ : Act → World → Prop} {E : Prop} (hg : o.guard = none) (m x v : Operand) (t : TypeId) (hop : o.op = Op.mapUpdate t m x v)
    (k e : TypeId) (K : Keyed P k) (ht : P.underlying t = some (.map k e)) (b n : Nat) (M : Lit → Option Value)
    (hm : a.eval m = .map (some b)) (h : MapIs w P k b n M) (hn : n < maxLen) (key val : Value) (kl : Lit) (hx : a.eval x = key) (hv : a.eval v = val) (hkey : keyOf P k key = some kl)
    (hK : ∀ w', MapIs w' P k b (if (M kl).isSome then n else n + 1) (upd M kl val) → Only (· = b) w w' → w'.heap.size = w.heap.size → K_ (a.put o.dst undef) w') :
    if Region.wanted o (yielded ops a.tmps) = true then Oper.wp P o a w K_ Q else E := by
  have hw : Region.wanted o (yielded ops a.tmps) = true := by simp [Region.wanted, hg]
  rw [if_pos hw]
  obtain ⟨w', hrun, r1, r2, r3⟩ := h.store K ht hn val hkey
  unfold Oper.wp
  simp [execOp, hop, hm, hx, hv, hrun, Result.andThen]
  exact hK w' r1 r2 r3
end
end Go.Proofs.Ythbapdajmpplhaa
