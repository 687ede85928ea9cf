/-
  An EDNS, opened to its cells: numbers, a slice of options.
-/
import Derived.Test.YtbapnlgddekakaaDoorEdnsLong
import Derived.Test.YtbapnlgddekakaaDoorOpen
import Derived.Test.YtbapnlgddekakaaDoorRowsOpen
namespace Go.Proofs.YtbapnlgddekakaaDoor
open Go.RowKit Go.ChangeShapes Go.WideShapes Go.ChangeAt Go.Deep
set_option linter.unusedVariables false

section
variable {H : Type} {enc : TypeId × Value → H} {P : Program} {W : World} {base : Nat} {t e : TypeId}
theorem rows_of_cells {E : List Value → Prop} {s fuel : Nat} {cs0 : List Value} {x : DataW H × List MemPlace} (ht : P.underlying t = some (.slice e)) (hs : P.cellsOf e = s) (hs0 : 0 < s)
    (hE : ∀ fuel cs x, DataW.trod enc P W 0 (fun _ => true) true fuel e cs = some x → cs.length = s → E cs)
    (hf : DataW.trod enc P W 0 (fun _ => true) true fuel t cs0 = some x) :
    ∃ (A : Option Addr) (n c : Nat) (rows : List (List Value)), cs0 = [.slice A n c] ∧ n ≤ c ∧ c ≤ maxLen ∧ (A = none → n = 0 ∧ c = 0) ∧ rows.length = n ∧ (∀ r ∈ rows, r.length = s ∧ E r) ∧ Reads W W.heap.size s A n rows.flatten := by
  rcases open_slice ht hf with ⟨hcs, _⟩ | ⟨a, len, cap, m, fu, D, Pl, hcs, _, hl, hm, hmm, _, hi⟩
  · exact ⟨none, 0, 0, [], hcs, by omega, by unfold maxLen; omega, fun _ => ⟨rfl, rfl⟩, rfl, by simp, Reads.none_⟩
  · simp only [if_true] at hmm
    replace hmm := hmm.symm
    subst hmm
    obtain ⟨rows, hrl, hrp⟩ := list_of_ex (P := fun i (r : List Value) => r.length = s ∧ E r ∧ ∀ j, j < s → W.cell? ((a.add (i * s)).add j) = r[j]?) len (fun i hi' => by
      obtain ⟨cs', hc, htr⟩ := hi i (by omega)
      rw [hs] at hc
      obtain ⟨_, hcl, hat⟩ := World.cells?_some hc
      exact ⟨cs', hcl, hE _ _ _ htr hcl, hat⟩)
    have hrs : ∀ r ∈ rows, r.length = s := fun r hr => by
      obtain ⟨i, hi', rfl⟩ := List.getElem_of_mem hr
      exact (hrp i _ (List.getElem?_eq_getElem hi')).1
    refine ⟨some a, len, cap, rows, hcs, hl, hm, by simp, hrl, fun r hr => ?_, by rw [flatten_length rows hrs, hrl], fun hn => ⟨a, rfl, ?_, fun j u hu => ?_⟩⟩
    · obtain ⟨i, hi', rfl⟩ := List.getElem_of_mem hr
      exact ⟨(hrp i _ (List.getElem?_eq_getElem hi')).1, (hrp i _ (List.getElem?_eq_getElem hi')).2.1⟩
    · have h0 := hrp 0 _ (List.getElem?_eq_getElem (by omega))
      have hr0 : 0 < (rows[0]'(by omega)).length := by rw [h0.1]; exact hs0
      have := h0.2.2 0 hs0
      rw [List.getElem?_eq_getElem hr0] at this
      have := World.block_lt_of_cell? W _ this
      simpa [block_of_add] using this
    · have e : j = j / s * s + j % s := by rw [Nat.mul_comm]; exact (Nat.div_add_mod j s).symm
      have hjs : j % s < s := Nat.mod_lt _ hs0
      rw [e, flatten_getElem? rows _ _ hrs hjs] at hu
      rcases hrow : rows[j / s]? with _ | r
      · rw [hrow] at hu; cases hu
      · rw [hrow] at hu
        have := (hrp _ _ hrow).2.2 (j % s) hjs
        rw [add_of_add, ← e] at this
        rw [this]
        exact hu
end
theorem list2_opt {α : Type} {l : List α} (h : l.length = 2) : ∃ x0 x1, l = [x0, x1] := by
  match l, h with
  | [x0, x1], _ => exact ⟨x0, x1, rfl⟩
set_option maxRecDepth 100000 in
theorem cells_opt {H : Type} {enc : TypeId × Value → H} {W : World} {base : Nat} {sp : Nat → Bool} {held : Bool} {fuel : Nat} {cs : List Value} {x : DataW H × List MemPlace} (h : DataW.trod enc Tryd.prog W base sp held fuel 40 cs = some x) (hl : cs.length = 2) :
    ∃ (a0 : Int) (a1 : ByteArray), cs = [.int .u16 a0, .string a1] ∧ (Lit.int .u16 a0).wf = true ∧ a1.size ≤ maxLen := by
  obtain ⟨xs, m, _, _, _, hx, hf⟩ := DataW.trod_struct Tryd.underlying40 h
  obtain ⟨c0, c1, rfl⟩ := list2_opt hl
  obtain ⟨x0, x1, rfl⟩ := list2_opt (hx.trans rfl)
  have z0 : Tryd.prog.cellsOf 22 = 1 := by kernel_rfl
  have z1 : Tryd.prog.cellsOf 9 = 1 := by kernel_rfl
  have h0 : DataW.trod enc Tryd.prog W base sp held m 22 (List.take (Tryd.prog.cellsOf 22) (List.drop 0 [c0, c1])) = some x0 := hf 0 _ rfl
  rw [z0] at h0
  obtain ⟨a0, e0, _, w0⟩ := DataW.trod_int Tryd.underlying22 h0
  have h1 : DataW.trod enc Tryd.prog W base sp held m 9 (List.take (Tryd.prog.cellsOf 9) (List.drop 1 [c0, c1])) = some x1 := hf 1 _ rfl
  rw [z1] at h1
  obtain ⟨a1, e1, _, w1⟩ := DataW.trod_string Tryd.underlying9 h1
  simp at e0 e1
  subst e0
  subst e1
  exact ⟨a0, a1, rfl, w0, w1⟩
set_option maxRecDepth 100000 in
theorem open_opt {H : Type} {enc : TypeId × Value → H} {W : World} {base : Nat} {v : Value} {d : DataW H} {p : List MemPlace} (hok : Value.okWide Tryd.prog W .any base 40 v)
    (h : DataW.Trod enc Tryd.prog W 0 (fun _ => true) true 40 v d p) : ∃ (a0 : Int) (a1 : ByteArray), v = .agg #[.int .u16 a0, .string a1] ∧ (Lit.int .u16 a0).wf = true ∧ a1.size ≤ maxLen := by
  obtain ⟨⟨cs⟩, rfl, hsz⟩ := okWide_struct Tryd.underlying40 hok
  obtain ⟨fuel, hf⟩ := h
  obtain ⟨a0, a1, e, w0, w1⟩ := cells_opt (show DataW.trod enc Tryd.prog W 0 (fun _ => true) true fuel 40 cs = some (d, p) by simpa [Value.cells] using hf) (hsz.trans (by kernel_rfl))
  exact ⟨a0, a1, by rw [← e], w0, w1⟩

theorem opts_of_rows : ∀ (rows : List (List Value)), (∀ r ∈ rows, ∃ o : Opt, r = oC o ∧ o.1 < 65536) →
    ∃ l : List Opt, l.length = rows.length ∧ rows.flatten = oRow l ∧ ∀ o ∈ l, o.1 < 65536 := by
  intro rows
  induction rows with
  | nil => intro _; exact ⟨[], rfl, rfl, by simp⟩
  | cons r rows ih =>
    intro h
    obtain ⟨p, rfl, hp⟩ := h r (by simp)
    obtain ⟨l, hl, hf, hw⟩ := ih (fun r' h' => h r' (by simp [h']))
    refine ⟨p :: l, by simp [hl], ?_, fun q hq => ?_⟩
    · rw [List.flatten_cons, hf]; unfold oRow; rw [List.map_cons, List.flatten_cons]
    · rcases List.mem_cons.1 hq with rfl | hq
      · exact hp
      · exact hw q hq
section
variable {H : Type} {enc : TypeId × Value → H} {W : World} {base : Nat}
theorem opts_of_cells {fuel : Nat} {cs0 : List Value} {x : DataW H × List MemPlace} (hf : DataW.trod enc Tryd.prog W 0 (fun _ => true) true fuel 23 cs0 = some x) :
    ∃ (A : Option Addr) (n c : Nat) (l : List Opt), cs0 = [.slice A n c] ∧ n ≤ c ∧ c ≤ maxLen ∧ l.length = n ∧ Reads W W.heap.size 2 A n (oRow l) ∧ ∀ o ∈ l, o.1 < 65536 := by
  obtain ⟨A, n, c, rows, rfl, hnc, hcm, _, hn, hr, hrd⟩ := rows_of_cells (E := fun r => ∃ o : Opt, r = oC o ∧ o.1 < 65536) (s := 2)
    Tryd.underlying23 (by kernel_rfl) (by omega) (fun fuel cs x htr hl => by
      obtain ⟨a0, a1, rfl, w0, _⟩ := cells_opt htr hl
      have := wf_u16 w0
      refine ⟨(a0.toNat, a1), ?_, by show a0.toNat < _; omega⟩
      unfold oC
      rw [show ((a0.toNat : Nat) : Int) = a0 by omega]) hf
  obtain ⟨l, hl, hfl, hw⟩ := opts_of_rows rows (fun r hr' => (hr r hr').2)
  exact ⟨A, n, c, l, rfl, hnc, hcm, by omega, by rw [← hfl]; exact hrd, hw⟩

set_option maxRecDepth 100000 in
theorem open_edns {v : Value} {d : DataW H} {p : List MemPlace} (hok : Value.okWide Tryd.prog W .any base 25 v)
    (h : DataW.Trod enc Tryd.prog W 0 (fun _ => true) true 25 v d p) :
    ∃ (cl x v' f : Nat) (A : Option Addr) (n c : Nat) (l : List Opt),
      v = .agg (eA cl x v' f A n c) ∧ cl < 65536 ∧ x < 256 ∧ v' < 256 ∧ f < 65536 ∧ n ≤ maxLen ∧ l.length = n ∧ Reads W W.heap.size 2 A n (oRow l) ∧ ∀ o ∈ l, o.1 < 65536 := by
  obtain ⟨⟨cs⟩, rfl, hsz⟩ := okWide_struct Tryd.underlying25 hok
  obtain ⟨fuel, hf⟩ := h
  have hl : cs.length = 5 := hsz.trans (by kernel_rfl)
  obtain ⟨xs, m, _, _, _, hx, hff⟩ := DataW.trod_struct Tryd.underlying25 (show DataW.trod enc Tryd.prog W 0 (fun _ => true) true fuel 25 cs = some (d, p) by simpa [Value.cells] using hf)
  have z0 : Tryd.prog.cellsOf 22 = 1 := by kernel_rfl
  have z1 : Tryd.prog.cellsOf 5 = 1 := by kernel_rfl
  have z4 : Tryd.prog.cellsOf 23 = 1 := by kernel_rfl
  match cs, hl, xs, hx with
  | [c0, c1, c2, c3, c4], _, [x0, x1, x2, x3, x4], _ =>
    have h0 : DataW.trod enc Tryd.prog W 0 (fun _ => true) true m 22 (List.take (Tryd.prog.cellsOf 22) (List.drop 0 [c0, c1, c2, c3, c4])) = some x0 := hff 0 _ rfl
    have h1 : DataW.trod enc Tryd.prog W 0 (fun _ => true) true m 5 (List.take (Tryd.prog.cellsOf 5) (List.drop 1 [c0, c1, c2, c3, c4])) = some x1 := hff 1 _ rfl
    have h2 : DataW.trod enc Tryd.prog W 0 (fun _ => true) true m 5 (List.take (Tryd.prog.cellsOf 5) (List.drop 2 [c0, c1, c2, c3, c4])) = some x2 := hff 2 _ rfl
    have h3 : DataW.trod enc Tryd.prog W 0 (fun _ => true) true m 22 (List.take (Tryd.prog.cellsOf 22) (List.drop 3 [c0, c1, c2, c3, c4])) = some x3 := hff 3 _ rfl
    have h4 : DataW.trod enc Tryd.prog W 0 (fun _ => true) true m 23 (List.take (Tryd.prog.cellsOf 23) (List.drop 4 [c0, c1, c2, c3, c4])) = some x4 := hff 4 _ rfl
    rw [z0] at h0 h3
    rw [z1] at h1 h2
    rw [z4] at h4
    obtain ⟨a0, e0, _, w0⟩ := DataW.trod_int Tryd.underlying22 h0
    obtain ⟨a1, e1, _, w1⟩ := DataW.trod_int Tryd.underlying5 h1
    obtain ⟨a2, e2, _, w2⟩ := DataW.trod_int Tryd.underlying5 h2
    obtain ⟨a3, e3, _, w3⟩ := DataW.trod_int Tryd.underlying22 h3
    obtain ⟨A, n, c, l, e4, hnc, hcm, hln, hrd, hw⟩ := opts_of_cells h4
    simp at e0 e1 e2 e3 e4
    subst e0; subst e1; subst e2; subst e3; subst e4
    have b0 := wf_u16 w0
    have b1 := wf_u8 w1
    have b2 := wf_u8 w2
    have b3 := wf_u16 w3
    refine ⟨a0.toNat, a1.toNat, a2.toNat, a3.toNat, A, n, c, l, ?_, by omega, by omega, by omega, by omega, Nat.le_trans hnc hcm, hln, hrd, hw⟩
    unfold eA
    rw [show ((a0.toNat : Nat) : Int) = a0 by omega, show ((a1.toNat : Nat) : Int) = a1 by omega, show ((a2.toNat : Nat) : Int) = a2 by omega, show ((a3.toNat : Nat) : Int) = a3 by omega]
end
end Go.Proofs.YtbapnlgddekakaaDoor
