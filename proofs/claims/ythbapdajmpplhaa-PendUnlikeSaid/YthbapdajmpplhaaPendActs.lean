/-
  The acts of pend, opened to cells.
-/
import Derived.Test.YthbapdajmpplhaaRows
import Derived.Test.YthbapdajmpplhaaRowsOpen
namespace Go.Proofs.Ythbapdajmpplhaa
open Go.RowKit Go.ChangeShapes Go.WideShapes Go.ChangeAt Go.Deep
set_option linter.unusedVariables false

abbrev A3 := Int × Int × Int
def a3C (p : A3) : List Value := [.int .u8 p.1, .int .i64 p.2.1, .int .i64 p.2.2]
def a3Cells (l : List A3) : List Value := (l.map a3C).flatten
def A3ok (p : A3) : Prop := (Lit.int .u8 p.1).wf = true ∧ (Lit.int .i64 p.2.1).wf = true ∧ (Lit.int .i64 p.2.2).wf = true
theorem a3Cells_at (l : List A3) (k : Nat) (p : A3) (h : l[k]? = some p) : (a3Cells l)[k * 3]? = some (.int .u8 p.1) ∧ (a3Cells l)[k * 3 + 1]? = some (.int .i64 p.2.1) ∧ (a3Cells l)[k * 3 + 2]? = some (.int .i64 p.2.2) := by
  have hs : ∀ r ∈ (l.map a3C), r.length = 3 := by
    intro r hr; simp only [List.mem_map] at hr; obtain ⟨_, _, rfl⟩ := hr; rfl
  have h0 := flatten_getElem? _ k 0 hs (by omega)
  have h1 := flatten_getElem? _ k 1 hs (by omega)
  have h2 := flatten_getElem? _ k 2 hs (by omega)
  simp [h, a3C] at h0 h1 h2
  exact ⟨h0, h1, h2⟩

theorem a3_of_rows : ∀ (rows : List (List Value)), (∀ r ∈ rows, ∃ p : A3, r = a3C p ∧ A3ok p) →
    ∃ l : List A3, l.length = rows.length ∧ rows.flatten = a3Cells l ∧ ∀ p ∈ l, A3ok p := by
  intro rows
  induction rows with
  | nil => intro _; exact ⟨[], rfl, rfl, by simp⟩
  | cons r rows ih =>
    intro h
    obtain ⟨p, rfl, hp⟩ := h r (by simp)
    obtain ⟨l, hl, hf, hw⟩ := ih (fun r' h' => h r' (by simp [h']))
    refine ⟨p :: l, by simp [hl], by simp [a3Cells, hf], fun q hq => ?_⟩
    rcases List.mem_cons.1 hq with rfl | hq
    · exact hp
    · exact hw q hq

theorem open_a3 {H : Type} {enc : TypeId × Value → H} {W : World} {base : Nat} {v : Value} {d : DataW H} {p : List MemPlace} (hok : Value.okWide Try.prog W .any base 45 v)
    (h : DataW.Trod enc Try.prog W 0 (fun _ => true) true 45 v d p) :
    ∃ (A : Option Addr) (n c : Nat) (l : List A3), v = .slice A n c ∧ n ≤ c ∧ c ≤ maxLen ∧ l.length = n ∧ Reads W W.heap.size 3 A n (a3Cells l) ∧ ∀ p ∈ l, A3ok p := by
  obtain ⟨A, n, c, rows, rfl, hnc, hcm, _, hn, hr, hrd⟩ := open_rows (E := fun r => ∃ p : A3, r = a3C p ∧ A3ok p) (s := 3)
    Try.underlying45 (by kernel_rfl) (by omega) (fun fuel cs x htr hl => by
      obtain ⟨xs, m, _, _, _, hx, hf⟩ := DataW.trod_struct Try.underlying52 htr
      have z0 : Try.prog.cellsOf 5 = 1 := by kernel_rfl
      have z1 : Try.prog.cellsOf 3 = 1 := by kernel_rfl
      have z2 : Try.prog.cellsOf 3 = 1 := by kernel_rfl
      match cs, hl, xs, hx with
      | [c0, c1, c2], _, [x0, x1, x2], _ =>
        have h0 : DataW.trod enc Try.prog W 0 (fun _ => true) true m 5 (List.take (Try.prog.cellsOf 5) (List.drop 0 [c0, c1, c2])) = some x0 := hf 0 _ rfl
        have h1 : DataW.trod enc Try.prog W 0 (fun _ => true) true m 3 (List.take (Try.prog.cellsOf 3) (List.drop 1 [c0, c1, c2])) = some x1 := hf 1 _ rfl
        have h2 : DataW.trod enc Try.prog W 0 (fun _ => true) true m 3 (List.take (Try.prog.cellsOf 3) (List.drop 2 [c0, c1, c2])) = some x2 := hf 2 _ rfl
        rw [z0] at h0
        rw [z1] at h1
        rw [z2] at h2
        obtain ⟨a, ea, _, wa⟩ := DataW.trod_int Try.underlying5 h0
        obtain ⟨b, eb, _, wb⟩ := DataW.trod_int Try.underlying3 h1
        obtain ⟨c, ec, _, wc⟩ := DataW.trod_int Try.underlying3 h2
        simp at ea eb ec
        subst ea; subst eb; subst ec
        exact ⟨(a, b, c), rfl, wa, wb, wc⟩) hok h
  obtain ⟨l, hl, hfl, hw⟩ := a3_of_rows rows (fun r hr' => (hr r hr').2)
  exact ⟨A, n, c, l, rfl, hnc, hcm, by omega, by rw [← hfl]; exact hrd, hw⟩

theorem add_none (b off n : Nat) : (⟨b, off, none⟩ : Addr).add n = ⟨b, off + n, none⟩ := by
  unfold Addr.add; split <;> simp_all
theorem a3_cells {w : World} {B m : Nat} {C : Option Addr} {l : List A3} (h : Reads w B 3 C m (a3Cells l)) (hl : l.length = m) {k : Nat} (hk : k < m) :
    ∃ bl off a b c, C = some ⟨bl, off, none⟩ ∧ bl < B ∧ l[k]? = some (a, b, c) ∧ w.cell? ⟨bl, off + k * 3, none⟩ = some (.int .u8 a) ∧ w.cell? ⟨bl, off + k * 3 + 1, none⟩ = some (.int .i64 b) ∧ w.cell? ⟨bl, off + k * 3 + 2, none⟩ = some (.int .i64 c) := by
  obtain ⟨ad, e, hb, hc⟩ := h.2 (by omega)
  have hk' : k < l.length := by omega
  have hx := a3Cells_at l k l[k] (List.getElem?_eq_getElem hk')
  have c0 := hc _ _ hx.1
  have c1 := hc _ _ hx.2.1
  have c2 := hc _ _ hx.2.2
  obtain ⟨bl, off, spot⟩ := ad
  have hspot : spot = none := by
    have h0 := a3Cells_at l 0 (l[0]'(by omega)) (List.getElem?_eq_getElem (by omega))
    have := World.cell?_spot (hc _ _ h0.1)
    simpa [Addr.add] using this
  subst hspot
  rw [add_none] at c0 c1 c2
  exact ⟨bl, off, l[k].1, l[k].2.1, l[k].2.2, e, hb, List.getElem?_eq_getElem hk', c0, c1, c2⟩
end Go.Proofs.Ythbapdajmpplhaa
