/-
  Three rows of the call's own that grow in one statement, in whatever order their literals are built.
-/
import Derived.Test.YthbapdajmpplhaaTake
import Derived.Test.YthbapdajmpplhaaStepApp
import Derived.Deep.RegionHeld3
import Derived.Great.BuildSlice
namespace Go.Proofs.Ythbapdajmpplhaa
open Go.RowKit
set_option linter.unusedVariables false
set_option linter.unusedSimpArgs false

def Sep (v v' : Value) : Prop := ∀ k, v.ownBlock = some k → v'.ownBlock ≠ some k
theorem Sep.symm {v v' : Value} (h : Sep v v') : Sep v' v := fun k h1 h2 => h k h2 h1
theorem Sep.grow {v v' u : Value} {K : Nat} (h : Sep v u) (hv : v'.ownBlock = v.ownBlock ∨ v'.ownBlock = some K) (hu : ∀ k, u.ownBlock = some k → k < K) : Sep v' u := fun k h1 h2 => by
  rcases hv with e | e
  · exact h k (by rw [← e]; exact h1) h2
  · rw [e] at h1
    cases h1
    exact Nat.lt_irrefl _ (hu _ h2)
theorem own_beside {w w' : World} {base : Nat} {e : TypeId} {size n : Nat} {u v : Value} {xs : List Value} (h : w.ownsRow base e size u n xs) (hg : w.grownBy w' v.ownBlock) (hs : Sep u v) : w'.ownsRow base e size u n xs :=
  own_only h ((Only.refl (fun k => v.ownBlock = some k) w).grown hg (fun k hk => .inl hk)) (fun k hk e => hs k hk e)

theorem fill1 (z : Value) (k : IntKind) (n : Int) (s : Nat) (hs : s = 1) : Instr.fill (fun i => some (i * s, s)) ((Array.range (1 * s)).map (z.cells[· % z.cells.size]!)) [(0, Value.int k n)] = some #[.int k n] := by
  subst hs
  simp [Instr.fill, Value.cells, Array.range]
  refine Array.ext (by simp) (fun i h1 h2 => ?_)
  have : i = 0 := by simp at h2; omega
  subst this
  simp
theorem step_build1 {P : Program} {w : World} {ops : Array Oper} {o : Oper} {a : Act} {K : Act → World → Prop} {Q : Exit → Act → World → Prop} {E : Prop} (hgd : o.guard = none) (t e : TypeId) (x : Operand)
    (ho : o.op = .buildSlice t 1 #[(0, x)]) (k : IntKind) (n : Int) (hx : a.eval x = .int k n) (ie : TypeInfo) (z : Value) (hu : P.underlying t = some (.slice e)) (hie : P.info? e = some ie) (hz : ie.zero = some z) (hsz : ie.size = 1)
    (h : K (a.put o.dst (.slice (some ⟨w.heap.size, 0, none⟩) 1 1)) (w.alloc (.cells #[.int k n] e))) : if Region.wanted o (yielded ops a.tmps) = true then Oper.wp P o a w K Q else E := by
  have hw : Region.wanted o (yielded ops a.tmps) = true := by simp [Region.wanted, hgd]
  rw [if_pos hw]
  refine wp_buildSlice t e 1 _ ho #[.int k n] ie z hu hie hz (by rw [hsz]; decide) (by rw [hsz]; decide) ?_ h
  have := fill1 z k n ie.size hsz
  simpa [hx] using this

structure Three (wd w : World) (q : Nat) (u0 v0 i0 u v i : Value) (xu xv xi : List Value) (arrs : List (Nat × Value)) : Prop where
  ru : w.ownsRow q 3 1 u xu.length xu
  rv : w.ownsRow q 3 1 v xv.length xv
  ri : w.ownsRow q 32 1 i xi.length xi
  suv : Sep u v
  sui : Sep u i
  svi : Sep v i
  fu : ∀ k, u.ownBlock = some k → u0.ownBlock = some k ∨ wd.heap.size ≤ k
  fv : ∀ k, v.ownBlock = some k → v0.ownBlock = some k ∨ wd.heap.size ≤ k
  fi : ∀ k, i.ownBlock = some k → i0.ownBlock = some k ∨ wd.heap.size ≤ k
  arr : ∀ p ∈ arrs, p.1 < w.heap.size ∧ w.cell? ⟨p.1, 0, none⟩ = some p.2 ∧ u.ownBlock ≠ some p.1 ∧ v.ownBlock ≠ some p.1 ∧ i.ownBlock ≠ some p.1
  only : Only (fun k => u0.ownBlock = some k ∨ v0.ownBlock = some k ∨ i0.ownBlock = some k) wd w
section
variable {wd w w' : World} {q : Nat} {u0 v0 i0 u v i u' : Value} {xu xv xi : List Value} {arrs : List (Nat × Value)}
theorem Three.start (ru : w.ownsRow q 3 1 u xu.length xu) (rv : w.ownsRow q 3 1 v xv.length xv) (ri : w.ownsRow q 32 1 i xi.length xi) (suv : Sep u v) (sui : Sep u i) (svi : Sep v i) : Three w w q u v i u v i xu xv xi [] :=
  ⟨ru, rv, ri, suv, sui, svi, fun _ h => .inl h, fun _ h => .inl h, fun _ h => .inl h, by simp, Only.refl _ _⟩
theorem Three.build (h : Three wd w q u0 v0 i0 u v i xu xv xi arrs) (x : Value) (T : TypeId) : Three wd (w.alloc (.cells #[x] T)) q u0 v0 i0 u v i xu xv xi ((w.heap.size, x) :: arrs) := by
  have hs := Still.new w (.cells #[x] T)
  refine ⟨own_only h.ru hs (fun _ _ h => h), own_only h.rv hs (fun _ _ h => h), own_only h.ri hs (fun _ _ h => h), h.suv, h.sui, h.svi, h.fu, h.fv, h.fi, fun p hp => ?_, h.only.still hs⟩
  rcases List.mem_cons.1 hp with rfl | hp
  · refine ⟨by simp, (Blk.new w T #[x]).cell 0, fun e => ?_, fun e => ?_, fun e => ?_⟩
    · have := (h.ru.lt _ e).2; simp at this
    · have := (h.rv.lt _ e).2; simp at this
    · have := (h.ri.lt _ e).2; simp at this
  · obtain ⟨a, b, c⟩ := h.arr p hp
    exact ⟨by have := hs.size; omega, hs.cell_some (fun h => h) b, c⟩
theorem Three.reads (h : Three wd w q u0 v0 i0 u v i xu xv xi arrs) {g : Nat} {x : Value} (hm : (g, x) ∈ arrs) : Reads w w.heap.size 1 (some ⟨g, 0, none⟩) 1 [x] :=
  ⟨by simp, fun _ => ⟨_, rfl, (h.arr _ hm).1, fun j y hy => by
    have : j = 0 := by
      rcases Nat.lt_or_ge j 1 with h1 | h1
      · omega
      · rw [List.getElem?_eq_none (by simpa using h1)] at hy; cases hy
    subst this
    simp at hy
    subst hy
    simpa [Addr.add] using (h.arr _ hm).2.1⟩⟩
theorem arr_keep {p : Nat × Value} {row : Option Nat} (hp : p.1 < w.heap.size ∧ w.cell? ⟨p.1, 0, none⟩ = some p.2) (hg : w.grownBy w' row) (hn : row ≠ some p.1) : p.1 < w'.heap.size ∧ w'.cell? ⟨p.1, 0, none⟩ = some p.2 :=
  ⟨by have := hg.size; omega, (World.cell?_of_block (w := w) (hg.block p.1 hp.1 (fun e => hn e.symm))).trans hp.2⟩
theorem grow_ne {K g : Nat} (hv : u'.ownBlock = u.ownBlock ∨ u'.ownBlock = some K) (hn : u.ownBlock ≠ some g) (hg : g < K) : u'.ownBlock ≠ some g := fun e => by
  rcases hv with h | h
  · exact hn (by rw [← h]; exact e)
  · rw [h] at e
    cases e
    omega
theorem grow_from {K B : Nat} {z : Value} (hv : u'.ownBlock = u.ownBlock ∨ u'.ownBlock = some K) (hf : ∀ k, u.ownBlock = some k → z.ownBlock = some k ∨ B ≤ k) (hK : B ≤ K) : ∀ k, u'.ownBlock = some k → z.ownBlock = some k ∨ B ≤ k := fun k e => by
  rcases hv with h | h
  · exact hf k (by rw [← h]; exact e)
  · rw [h] at e
    cases e
    exact .inr hK
theorem Three.grow_u (h : Three wd w q u0 v0 i0 u v i xu xv xi arrs) {x : Value} (ho : w'.ownsRow q 3 1 u' (xu.length + 1) (xu ++ [x])) (hg : w.grownBy w' u.ownBlock) (hb : u'.ownBlock = u.ownBlock ∨ u'.ownBlock = some w.heap.size) :
    Three wd w' q u0 v0 i0 u' v i (xu ++ [x]) xv xi arrs :=
  ⟨by simpa using ho, own_beside h.rv hg h.suv.symm, own_beside h.ri hg h.sui.symm, h.suv.grow hb (fun k e => (h.rv.lt k e).2), h.sui.grow hb (fun k e => (h.ri.lt k e).2), h.svi, grow_from hb h.fu h.only.size, h.fv, h.fi,
    fun p hp => by
      obtain ⟨a, b, c, d, e⟩ := h.arr p hp
      obtain ⟨a', b'⟩ := arr_keep ⟨a, b⟩ hg c
      exact ⟨a', b', grow_ne hb c a, d, e⟩,
    h.only.grown hg (fun k e => (h.fu k e).elim (fun e => .inl (.inl e)) .inr)⟩
theorem Three.grow_v (h : Three wd w q u0 v0 i0 u v i xu xv xi arrs) {x : Value} (ho : w'.ownsRow q 3 1 u' (xv.length + 1) (xv ++ [x])) (hg : w.grownBy w' v.ownBlock) (hb : u'.ownBlock = v.ownBlock ∨ u'.ownBlock = some w.heap.size) :
    Three wd w' q u0 v0 i0 u u' i xu (xv ++ [x]) xi arrs :=
  ⟨own_beside h.ru hg h.suv, by simpa using ho, own_beside h.ri hg h.svi.symm, (h.suv.symm.grow hb (fun k e => (h.ru.lt k e).2)).symm, h.sui, h.svi.grow hb (fun k e => (h.ri.lt k e).2), h.fu, grow_from hb h.fv h.only.size, h.fi,
    fun p hp => by
      obtain ⟨a, b, c, d, e⟩ := h.arr p hp
      obtain ⟨a', b'⟩ := arr_keep ⟨a, b⟩ hg d
      exact ⟨a', b', c, grow_ne hb d a, e⟩,
    h.only.grown hg (fun k e => (h.fv k e).elim (fun e => .inl (.inr (.inl e))) .inr)⟩
theorem Three.grow_i (h : Three wd w q u0 v0 i0 u v i xu xv xi arrs) {x : Value} (ho : w'.ownsRow q 32 1 u' (xi.length + 1) (xi ++ [x])) (hg : w.grownBy w' i.ownBlock) (hb : u'.ownBlock = i.ownBlock ∨ u'.ownBlock = some w.heap.size) :
    Three wd w' q u0 v0 i0 u v u' xu xv (xi ++ [x]) arrs :=
  ⟨own_beside h.ru hg h.sui, own_beside h.rv hg h.svi, by simpa using ho, h.suv, (h.sui.symm.grow hb (fun k e => (h.ru.lt k e).2)).symm, (h.svi.symm.grow hb (fun k e => (h.rv.lt k e).2)).symm, h.fu, h.fv, grow_from hb h.fi h.only.size,
    fun p hp => by
      obtain ⟨a, b, c, d, e⟩ := h.arr p hp
      obtain ⟨a', b'⟩ := arr_keep ⟨a, b⟩ hg e
      exact ⟨a', b', c, d, grow_ne hb e a⟩,
    h.only.grown hg (fun k e => (h.fi k e).elim (fun e => .inl (.inr (.inr e))) .inr)⟩
theorem Three.still {w'' : World} (h : Three wd w q u0 v0 i0 u v i xu xv xi []) (o : Still w w') : Three w' w' q u v i u v i xu xv xi [] :=
  .start (own_only h.ru o (fun _ _ h => h)) (own_only h.rv o (fun _ _ h => h)) (own_only h.ri o (fun _ _ h => h)) h.suv h.sui h.svi
end
theorem sep_type {w : World} {b b' s s' n n' : Nat} {e e' : TypeId} {u v : Value} {xs xs' : List Value} (h : w.ownsRow b e s u n xs) (h' : w.ownsRow b' e' s' v n' xs') (hne : e ≠ e') : Sep u v := fun k h1 h2 => by
  rcases h.2 with ⟨rfl, _⟩ | ⟨g, cap, cur, rfl, _, hh, _⟩
  · simp [Value.ownBlock] at h1
  · rcases h'.2 with ⟨rfl, _⟩ | ⟨g', cap', cur', rfl, _, hh', _⟩
    · simp [Value.ownBlock] at h2
    · simp [Value.ownBlock] at h1 h2
      subst h1
      subst h2
      rw [hh] at hh'
      cases hh'
      exact hne rfl
end Go.Proofs.Ythbapdajmpplhaa
