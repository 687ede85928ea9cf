/-
  The acts of cursor, opened to cells.
-/
import Derived.Test.YtkpogngbajkgmaaDoorRows
import Derived.Test.YtkpogngbajkgmaaDoorRowsOpen
namespace Go.Proofs.YtkpogngbajkgmaaDoor
open Go.RowKit Go.ChangeShapes Go.WideShapes Go.ChangeAt Go.Deep
set_option linter.unusedVariables false

def actCells (l : List (Int × Int)) : List Value := l.flatMap fun p => [.int .u8 p.1, .int .i64 p.2]

theorem actCells_at (l : List (Int × Int)) (k : Nat) (p : Int × Int) (h : l[k]? = some p) : (actCells l)[k * 2]? = some (.int .u8 p.1) ∧ (actCells l)[k * 2 + 1]? = some (.int .i64 p.2) := by
  have hs : ∀ r ∈ (l.map fun p => [Value.int .u8 p.1, Value.int .i64 p.2]), r.length = 2 := by
    intro r hr; simp only [List.mem_map] at hr; obtain ⟨_, _, rfl⟩ := hr; rfl
  have e : actCells l = (l.map fun p => [Value.int .u8 p.1, Value.int .i64 p.2]).flatten := by simp [actCells, List.flatMap]
  have h0 := flatten_getElem? _ k 0 hs (by omega)
  have h1 := flatten_getElem? _ k 1 hs (by omega)
  rw [← e] at h0 h1
  simp [h] at h0 h1
  exact ⟨h0, h1⟩

theorem acts_of_rows : ∀ (rows : List (List Value)), (∀ r ∈ rows, ∃ a b : Int, r = [.int .u8 a, .int .i64 b] ∧ (Lit.int .u8 a).wf = true ∧ (Lit.int .i64 b).wf = true) →
    ∃ l : List (Int × Int), l.length = rows.length ∧ rows.flatten = actCells l ∧ ∀ p ∈ l, (Lit.int .u8 p.1).wf = true ∧ (Lit.int .i64 p.2).wf = true := by
  intro rows
  induction rows with
  | nil => intro _; exact ⟨[], rfl, rfl, by simp⟩
  | cons r rows ih =>
    intro h
    obtain ⟨a, b, rfl, ha, hb⟩ := h r (by simp)
    obtain ⟨l, hl, hf, hw⟩ := ih (fun r' h' => h r' (by simp [h']))
    refine ⟨(a, b) :: l, by simp [hl], by simp [actCells, hf], fun p hp => ?_⟩
    rcases List.mem_cons.1 hp with rfl | hp
    · exact ⟨ha, hb⟩
    · exact hw p hp

set_option maxRecDepth 100000 in
theorem open_acts {H : Type} {enc : TypeId × Value → H} {W : World} {base : Nat} {v : Value} {d : DataW H} {p : List MemPlace} (hok : Value.okWide Tryd.prog W .any base 22 v)
    (h : DataW.Trod enc Tryd.prog W 0 (fun _ => true) true 22 v d p) :
    ∃ (A : Option Addr) (n c : Nat) (l : List (Int × Int)), v = .slice A n c ∧ n ≤ c ∧ c ≤ maxLen ∧ l.length = n ∧ Reads W W.heap.size 2 A n (actCells l) ∧ ∀ p ∈ l, (Lit.int .u8 p.1).wf = true ∧ (Lit.int .i64 p.2).wf = true := by
  obtain ⟨A, n, c, rows, rfl, hnc, hcm, _, hn, hr, hrd⟩ := open_rows (E := fun r => ∃ a b : Int, r = [.int .u8 a, .int .i64 b] ∧ (Lit.int .u8 a).wf = true ∧ (Lit.int .i64 b).wf = true) (s := 2)
    Tryd.underlying22 (by kernel_rfl) (by omega) (fun fuel cs x htr hl => by
      obtain ⟨xs, m, _, _, _, hx, hf⟩ := DataW.trod_struct Tryd.underlying31 htr
      have z0 : Tryd.prog.cellsOf 5 = 1 := by kernel_rfl
      have z1 : Tryd.prog.cellsOf 3 = 1 := by kernel_rfl
      match cs, hl, xs, hx with
      | [c0, c1], _, [x0, x1], _ =>
        have h0 : DataW.trod enc Tryd.prog W 0 (fun _ => true) true m 5 (List.take (Tryd.prog.cellsOf 5) (List.drop 0 [c0, c1])) = some x0 := hf 0 _ rfl
        have h1 : DataW.trod enc Tryd.prog W 0 (fun _ => true) true m 3 (List.take (Tryd.prog.cellsOf 3) (List.drop 1 [c0, c1])) = some x1 := hf 1 _ rfl
        rw [z0] at h0
        rw [z1] at h1
        obtain ⟨a, ea, _, wa⟩ := DataW.trod_int Tryd.underlying5 h0
        obtain ⟨b, eb, _, wb⟩ := DataW.trod_int Tryd.underlying3 h1
        simp at ea eb
        subst ea; subst eb
        exact ⟨a, b, rfl, wa, wb⟩) hok h
  obtain ⟨l, hl, hfl, hw⟩ := acts_of_rows rows (fun r hr' => (hr r hr').2)
  exact ⟨A, n, c, l, rfl, hnc, hcm, by omega, by rw [← hfl]; exact hrd, hw⟩
theorem add_none (b off n : Nat) : (⟨b, off, none⟩ : Addr).add n = ⟨b, off + n, none⟩ := by
  unfold Addr.add; split <;> simp_all
theorem act_cells {w : World} {B m : Nat} {C : Option Addr} {l : List (Int × Int)} (h : Reads w B 2 C m (actCells l)) (hl : l.length = m) {k : Nat} (hk : k < m) :
    ∃ bl off a b, C = some ⟨bl, off, none⟩ ∧ bl < B ∧ l[k]? = some (a, b) ∧ w.cell? ⟨bl, off + k * 2, none⟩ = some (.int .u8 a) ∧ w.cell? ⟨bl, off + k * 2 + 1, none⟩ = some (.int .i64 b) := by
  obtain ⟨ad, e, hb, hc⟩ := h.2 (by omega)
  have hk' : k < l.length := by omega
  have hx := actCells_at l k l[k] (List.getElem?_eq_getElem hk')
  have c0 := hc _ _ hx.1
  have c1 := hc _ _ hx.2
  obtain ⟨bl, off, spot⟩ := ad
  have hspot : spot = none := by
    have h0 := actCells_at l 0 (l[0]'(by omega)) (List.getElem?_eq_getElem (by omega))
    have := World.cell?_spot (hc _ _ h0.1)
    simpa [Addr.add] using this
  subst hspot
  rw [add_none] at c0 c1
  exact ⟨bl, off, l[k].1, l[k].2, e, hb, List.getElem?_eq_getElem hk', c0, c1⟩

end Go.Proofs.YtkpogngbajkgmaaDoor
