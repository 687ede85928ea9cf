/-
  A case of hustingslaw20, opened to its cells: numbers, a slice of acts, a slice of numbers.
-/
import Derived.Test.YtdcogjlcbdkdcaaDoorOrdActs
namespace Go.Proofs.YtdcogjlcbdkdcaaDoor
open Go.RowKit Go.ChangeShapes Go.WideShapes Go.ChangeAt Go.Deep
set_option linter.unusedVariables false

section
variable {H : Type} {enc : TypeId × Value → H} {P : Program} {W : World} {base : Nat} {t e : TypeId}
theorem rows_of_cells {E : List Value → Prop} {s fuel : Nat} {cs0 : List Value} {x : DataW H × List MemPlace} (ht : P.underlying t = some (.slice e)) (hs : P.cellsOf e = s) (hs0 : 0 < s)
    (hE : ∀ fuel cs x, DataW.trod enc P W 0 (fun _ => true) true fuel e cs = some x → cs.length = s → E cs)
    (hf : DataW.trod enc P W 0 (fun _ => true) true fuel t cs0 = some x) :
    ∃ (A : Option Addr) (n c : Nat) (rows : List (List Value)), cs0 = [.slice A n c] ∧ n ≤ c ∧ c ≤ maxLen ∧ (A = none → n = 0 ∧ c = 0) ∧ rows.length = n ∧ (∀ r ∈ rows, r.length = s ∧ E r) ∧ Reads W W.heap.size s A n rows.flatten := by
  rcases open_slice ht hf with ⟨hcs, _⟩ | ⟨a, len, cap, m, fu, D, Pl, hcs, _, hl, hm, hmm, _, hi⟩
  · exact ⟨none, 0, 0, [], hcs, by omega, by unfold maxLen; omega, fun _ => ⟨rfl, rfl⟩, rfl, by simp, Reads.none_⟩
  · simp only [if_true] at hmm
    replace hmm := hmm.symm
    subst hmm
    obtain ⟨rows, hrl, hrp⟩ := list_of_ex (P := fun i (r : List Value) => r.length = s ∧ E r ∧ ∀ j, j < s → W.cell? ((a.add (i * s)).add j) = r[j]?) len (fun i hi' => by
      obtain ⟨cs', hc, htr⟩ := hi i (by omega)
      rw [hs] at hc
      obtain ⟨_, hcl, hat⟩ := World.cells?_some hc
      exact ⟨cs', hcl, hE _ _ _ htr hcl, hat⟩)
    have hrs : ∀ r ∈ rows, r.length = s := fun r hr => by
      obtain ⟨i, hi', rfl⟩ := List.getElem_of_mem hr
      exact (hrp i _ (List.getElem?_eq_getElem hi')).1
    refine ⟨some a, len, cap, rows, hcs, hl, hm, by simp, hrl, fun r hr => ?_, by rw [flatten_length rows hrs, hrl], fun hn => ⟨a, rfl, ?_, fun j u hu => ?_⟩⟩
    · obtain ⟨i, hi', rfl⟩ := List.getElem_of_mem hr
      exact ⟨(hrp i _ (List.getElem?_eq_getElem hi')).1, (hrp i _ (List.getElem?_eq_getElem hi')).2.1⟩
    · have h0 := hrp 0 _ (List.getElem?_eq_getElem (by omega))
      have hr0 : 0 < (rows[0]'(by omega)).length := by rw [h0.1]; exact hs0
      have := h0.2.2 0 hs0
      rw [List.getElem?_eq_getElem hr0] at this
      have := World.block_lt_of_cell? W _ this
      simpa [block_of_add] using this
    · have e : j = j / s * s + j % s := by rw [Nat.mul_comm]; exact (Nat.div_add_mod j s).symm
      have hjs : j % s < s := Nat.mod_lt _ hs0
      rw [e, flatten_getElem? rows _ _ hrs hjs] at hu
      rcases hrow : rows[j / s]? with _ | r
      · rw [hrow] at hu; cases hu
      · rw [hrow] at hu
        have := (hrp _ _ hrow).2.2 (j % s) hjs
        rw [add_of_add, ← e] at this
        rw [this]
        exact hu
theorem ints_of_rows {k : IntKind} : ∀ (rows : List (List Value)), (∀ r ∈ rows, ∃ z : Int, r = [.int k z] ∧ (Lit.int k z).wf = true) →
    ∃ l : List Int, l.length = rows.length ∧ rows.flatten = l.map (.int k) ∧ ∀ z ∈ l, (Lit.int k z).wf = true := by
  intro rows
  induction rows with
  | nil => intro _; exact ⟨[], rfl, rfl, by simp⟩
  | cons r rows ih =>
    intro h
    obtain ⟨p, rfl, hp⟩ := h r (by simp)
    obtain ⟨l, hl, hf, hw⟩ := ih (fun r' h' => h r' (by simp [h']))
    refine ⟨p :: l, by simp [hl], by simp [hf], fun q hq => ?_⟩
    rcases List.mem_cons.1 hq with rfl | hq
    · exact hp
    · exact hw q hq
end

section
variable {H : Type} {enc : TypeId × Value → H} {W : World} {base : Nat}
theorem acts_of_cells {fuel : Nat} {cs0 : List Value} {x : DataW H × List MemPlace} (hf : DataW.trod enc Tryd.prog W 0 (fun _ => true) true fuel 22 cs0 = some x) :
    ∃ (A : Option Addr) (n c : Nat) (l : List A3), cs0 = [.slice A n c] ∧ n ≤ c ∧ c ≤ maxLen ∧ l.length = n ∧ Reads W W.heap.size 3 A n (a3Cells l) ∧ ∀ p ∈ l, A3ok p := by
  obtain ⟨A, n, c, rows, rfl, hnc, hcm, _, hn, hr, hrd⟩ := rows_of_cells (E := fun r => ∃ p : A3, r = a3C p ∧ A3ok p) (s := 3)
    Tryd.underlying22 (by kernel_rfl) (by omega) (fun fuel cs x htr hl => by
      obtain ⟨xs, m, _, _, _, hx, hf⟩ := DataW.trod_struct Tryd.underlying65 htr
      have z0 : Tryd.prog.cellsOf 5 = 1 := by kernel_rfl
      have z1 : Tryd.prog.cellsOf 3 = 1 := by kernel_rfl
      have z2 : Tryd.prog.cellsOf 2 = 1 := by kernel_rfl
      match cs, hl, xs, hx with
      | [c0, c1, c2], _, [x0, x1, x2], _ =>
        have h0 : DataW.trod enc Tryd.prog W 0 (fun _ => true) true m 5 (List.take (Tryd.prog.cellsOf 5) (List.drop 0 [c0, c1, c2])) = some x0 := hf 0 _ rfl
        have h1 : DataW.trod enc Tryd.prog W 0 (fun _ => true) true m 3 (List.take (Tryd.prog.cellsOf 3) (List.drop 1 [c0, c1, c2])) = some x1 := hf 1 _ rfl
        have h2 : DataW.trod enc Tryd.prog W 0 (fun _ => true) true m 2 (List.take (Tryd.prog.cellsOf 2) (List.drop 2 [c0, c1, c2])) = some x2 := hf 2 _ rfl
        rw [z0] at h0
        rw [z1] at h1
        rw [z2] at h2
        obtain ⟨a, ea, _, wa⟩ := DataW.trod_int Tryd.underlying5 h0
        obtain ⟨b, eb, _, wb⟩ := DataW.trod_int Tryd.underlying3 h1
        obtain ⟨c, ec, _, wc⟩ := DataW.trod_int Tryd.underlying2 h2
        simp at ea eb ec
        subst ea; subst eb; subst ec
        exact ⟨(a, b, c), rfl, wa, wb, wc⟩) hf
  obtain ⟨l, hl, hfl, hw⟩ := a3_of_rows rows (fun r hr' => (hr r hr').2)
  exact ⟨A, n, c, l, rfl, hnc, hcm, by omega, by rw [← hfl]; exact hrd, hw⟩
theorem u64s_of_cells {fuel : Nat} {cs0 : List Value} {x : DataW H × List MemPlace} (hf : DataW.trod enc Tryd.prog W 0 (fun _ => true) true fuel 24 cs0 = some x) :
    ∃ (A : Option Addr) (n c : Nat) (l : List Int), cs0 = [.slice A n c] ∧ n ≤ c ∧ c ≤ maxLen ∧ (A = none → n = 0 ∧ c = 0) ∧ l.length = n ∧ Reads W W.heap.size 1 A n (l.map (.int .u64)) ∧ ∀ z ∈ l, 0 ≤ z ∧ z < 18446744073709551616 := by
  obtain ⟨A, n, c, rows, rfl, hnc, hcm, hnn, hn, hr, hrd⟩ := rows_of_cells (E := fun r => ∃ z : Int, r = [.int .u64 z] ∧ (Lit.int .u64 z).wf = true) (s := 1)
    Tryd.underlying24 (by kernel_rfl) (by omega) (fun fuel cs x htr hl => by
      obtain ⟨a, ea, _, wa⟩ := DataW.trod_int Tryd.underlying23 htr
      exact ⟨a, ea, wa⟩) hf
  obtain ⟨l, hl, hfl, hw⟩ := ints_of_rows rows (fun r hr' => (hr r hr').2)
  exact ⟨A, n, c, l, rfl, hnc, hcm, hnn, by omega, by rw [← hfl]; exact hrd, fun z hz => wf_u64 (hw z hz)⟩

set_option maxRecDepth 100000 in
theorem open_case {v : Value} {d : DataW H} {p : List MemPlace} (hok : Value.okWide Tryd.prog W .any base 26 v)
    (h : DataW.Trod enc Tryd.prog W 0 (fun _ => true) true 26 v d p) :
    ∃ (u lim rst : Int) (A : Option Addr) (m cc : Nat) (l : List A3) (seed : Int) (F : Option Addr) (kf fc : Nat) (xs : List Int),
      v = .agg #[.int .i64 u, .int .i64 lim, .int .i64 rst, .slice A m cc, .int .u64 seed, .slice F kf fc] ∧ (Lit.int .i64 u).wf = true ∧ m ≤ maxLen ∧ l.length = m ∧ Reads W W.heap.size 3 A m (a3Cells l) ∧ (Lit.int .u64 seed).wf = true ∧
      kf ≤ maxLen ∧ (F = none → kf = 0 ∧ fc = 0) ∧ xs.length = kf ∧ Reads W W.heap.size 1 F kf (xs.map (.int .u64)) ∧ ∀ z ∈ xs, 0 ≤ z ∧ z < 18446744073709551616 := by
  obtain ⟨⟨cs⟩, rfl, hsz⟩ := okWide_struct Tryd.underlying26 hok
  obtain ⟨fuel, hf⟩ := h
  have hl : cs.length = 6 := hsz.trans (by kernel_rfl)
  obtain ⟨xs, m, _, _, _, hx, hff⟩ := DataW.trod_struct Tryd.underlying26 (show DataW.trod enc Tryd.prog W 0 (fun _ => true) true fuel 26 cs = some (d, p) by simpa [Value.cells] using hf)
  have z0 : Tryd.prog.cellsOf 3 = 1 := by kernel_rfl
  have z1 : Tryd.prog.cellsOf 22 = 1 := by kernel_rfl
  have z2 : Tryd.prog.cellsOf 23 = 1 := by kernel_rfl
  have z3 : Tryd.prog.cellsOf 24 = 1 := by kernel_rfl
  match cs, hl, xs, hx with
  | [c0, c1, c2, c3, c4, c5], _, [x0, x1, x2, x3, x4, x5], _ =>
    have h0 : DataW.trod enc Tryd.prog W 0 (fun _ => true) true m 3 (List.take (Tryd.prog.cellsOf 3) (List.drop 0 [c0, c1, c2, c3, c4, c5])) = some x0 := hff 0 _ rfl
    have h1 : DataW.trod enc Tryd.prog W 0 (fun _ => true) true m 3 (List.take (Tryd.prog.cellsOf 3) (List.drop 1 [c0, c1, c2, c3, c4, c5])) = some x1 := hff 1 _ rfl
    have h2 : DataW.trod enc Tryd.prog W 0 (fun _ => true) true m 3 (List.take (Tryd.prog.cellsOf 3) (List.drop 2 [c0, c1, c2, c3, c4, c5])) = some x2 := hff 2 _ rfl
    have h3 : DataW.trod enc Tryd.prog W 0 (fun _ => true) true m 22 (List.take (Tryd.prog.cellsOf 22) (List.drop 3 [c0, c1, c2, c3, c4, c5])) = some x3 := hff 3 _ rfl
    have h4 : DataW.trod enc Tryd.prog W 0 (fun _ => true) true m 23 (List.take (Tryd.prog.cellsOf 23) (List.drop 4 [c0, c1, c2, c3, c4, c5])) = some x4 := hff 4 _ rfl
    have h5 : DataW.trod enc Tryd.prog W 0 (fun _ => true) true m 24 (List.take (Tryd.prog.cellsOf 24) (List.drop 5 [c0, c1, c2, c3, c4, c5])) = some x5 := hff 5 _ rfl
    rw [z0] at h0 h1 h2
    rw [z1] at h3
    rw [z2] at h4
    rw [z3] at h5
    obtain ⟨u, e0, _, w0⟩ := DataW.trod_int Tryd.underlying3 h0
    obtain ⟨lim, e1, _, w1⟩ := DataW.trod_int Tryd.underlying3 h1
    obtain ⟨rst, e2, _, w2⟩ := DataW.trod_int Tryd.underlying3 h2
    obtain ⟨A, n, c, l, e3, hnc, hcm, hln, hrd, _⟩ := acts_of_cells h3
    obtain ⟨seed, e4, _, w4⟩ := DataW.trod_int Tryd.underlying23 h4
    obtain ⟨F, k, fc, zs, e5, hkc, hcm', hF, hlz, hrz, hz⟩ := u64s_of_cells h5
    simp at e0 e1 e2 e3 e4 e5
    subst e0; subst e1; subst e2; subst e3; subst e4; subst e5
    exact ⟨u, lim, rst, A, n, c, l, seed, F, k, fc, zs, rfl, w0, Nat.le_trans hnc hcm, hln, hrd, w4, Nat.le_trans hkc hcm', hF, hlz, hrz, hz⟩
end
end Go.Proofs.YtdcogjlcbdkdcaaDoor
