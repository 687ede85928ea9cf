/-
  Headers and counts that come in, opened.
-/
import Derived.Test.YtkoejogmcoigoaaDoorOpen
import Derived.Test.YtkoejogmcoigoaaDoorRows
import Derived.OpenShut
namespace Go.Proofs.YtkoejogmcoigoaaDoor
open Go.RowKit Go.ChangeShapes Go.WideShapes Go.ChangeAt
set_option linter.unusedVariables false
set_option linter.unusedSimpArgs false

theorem list11_head {α : Type} {l : List α} (h : l.length = 11) : ∃ x0 x1 x2 x3 x4 x5 x6 x7 x8 x9 x10, l = [x0, x1, x2, x3, x4, x5, x6, x7, x8, x9, x10] := by
  match l, h with
  | [x0, x1, x2, x3, x4, x5, x6, x7, x8, x9, x10], _ => exact ⟨x0, x1, x2, x3, x4, x5, x6, x7, x8, x9, x10, rfl⟩
set_option maxRecDepth 100000 in
theorem cells_head {H : Type} {enc : TypeId × Value → H} {W : World} {base : Nat} {sp : Nat → Bool} {held : Bool} {fuel : Nat} {cs : List Value} {x : DataW H × List MemPlace} (h : DataW.trod enc Tryd.prog W base sp held fuel 25 cs = some x) (hl : cs.length = 11) :
    ∃ (a0 : Int) (a1 : Bool) (a2 : Int) (a3 : Bool) (a4 : Bool) (a5 : Bool) (a6 : Bool) (a7 : Bool) (a8 : Bool) (a9 : Bool) (a10 : Int), cs = [.int .u16 a0, .bool a1, .int .u8 a2, .bool a3, .bool a4, .bool a5, .bool a6, .bool a7, .bool a8, .bool a9, .int .u8 a10] ∧ (Lit.int .u16 a0).wf = true ∧ (Lit.int .u8 a2).wf = true ∧ (Lit.int .u8 a10).wf = true := by
  obtain ⟨xs, m, _, _, _, hx, hf⟩ := DataW.trod_struct Tryd.underlying25 h
  obtain ⟨c0, c1, c2, c3, c4, c5, c6, c7, c8, c9, c10, rfl⟩ := list11_head hl
  obtain ⟨x0, x1, x2, x3, x4, x5, x6, x7, x8, x9, x10, rfl⟩ := list11_head (hx.trans rfl)
  have z0 : Tryd.prog.cellsOf 23 = 1 := by kernel_rfl
  have z1 : Tryd.prog.cellsOf 4 = 1 := by kernel_rfl
  have z2 : Tryd.prog.cellsOf 5 = 1 := by kernel_rfl
  have h0 : DataW.trod enc Tryd.prog W base sp held m 23 (List.take (Tryd.prog.cellsOf 23) (List.drop 0 [c0, c1, c2, c3, c4, c5, c6, c7, c8, c9, c10])) = some x0 := hf 0 _ rfl
  rw [z0] at h0
  obtain ⟨a0, e0, _, w0⟩ := DataW.trod_int Tryd.underlying23 h0
  have h1 : DataW.trod enc Tryd.prog W base sp held m 4 (List.take (Tryd.prog.cellsOf 4) (List.drop 1 [c0, c1, c2, c3, c4, c5, c6, c7, c8, c9, c10])) = some x1 := hf 1 _ rfl
  rw [z1] at h1
  obtain ⟨a1, e1, _⟩ := DataW.trod_bool Tryd.underlying4 h1
  have h2 : DataW.trod enc Tryd.prog W base sp held m 5 (List.take (Tryd.prog.cellsOf 5) (List.drop 2 [c0, c1, c2, c3, c4, c5, c6, c7, c8, c9, c10])) = some x2 := hf 2 _ rfl
  rw [z2] at h2
  obtain ⟨a2, e2, _, w2⟩ := DataW.trod_int Tryd.underlying5 h2
  have h3 : DataW.trod enc Tryd.prog W base sp held m 4 (List.take (Tryd.prog.cellsOf 4) (List.drop 3 [c0, c1, c2, c3, c4, c5, c6, c7, c8, c9, c10])) = some x3 := hf 3 _ rfl
  rw [z1] at h3
  obtain ⟨a3, e3, _⟩ := DataW.trod_bool Tryd.underlying4 h3
  have h4 : DataW.trod enc Tryd.prog W base sp held m 4 (List.take (Tryd.prog.cellsOf 4) (List.drop 4 [c0, c1, c2, c3, c4, c5, c6, c7, c8, c9, c10])) = some x4 := hf 4 _ rfl
  rw [z1] at h4
  obtain ⟨a4, e4, _⟩ := DataW.trod_bool Tryd.underlying4 h4
  have h5 : DataW.trod enc Tryd.prog W base sp held m 4 (List.take (Tryd.prog.cellsOf 4) (List.drop 5 [c0, c1, c2, c3, c4, c5, c6, c7, c8, c9, c10])) = some x5 := hf 5 _ rfl
  rw [z1] at h5
  obtain ⟨a5, e5, _⟩ := DataW.trod_bool Tryd.underlying4 h5
  have h6 : DataW.trod enc Tryd.prog W base sp held m 4 (List.take (Tryd.prog.cellsOf 4) (List.drop 6 [c0, c1, c2, c3, c4, c5, c6, c7, c8, c9, c10])) = some x6 := hf 6 _ rfl
  rw [z1] at h6
  obtain ⟨a6, e6, _⟩ := DataW.trod_bool Tryd.underlying4 h6
  have h7 : DataW.trod enc Tryd.prog W base sp held m 4 (List.take (Tryd.prog.cellsOf 4) (List.drop 7 [c0, c1, c2, c3, c4, c5, c6, c7, c8, c9, c10])) = some x7 := hf 7 _ rfl
  rw [z1] at h7
  obtain ⟨a7, e7, _⟩ := DataW.trod_bool Tryd.underlying4 h7
  have h8 : DataW.trod enc Tryd.prog W base sp held m 4 (List.take (Tryd.prog.cellsOf 4) (List.drop 8 [c0, c1, c2, c3, c4, c5, c6, c7, c8, c9, c10])) = some x8 := hf 8 _ rfl
  rw [z1] at h8
  obtain ⟨a8, e8, _⟩ := DataW.trod_bool Tryd.underlying4 h8
  have h9 : DataW.trod enc Tryd.prog W base sp held m 4 (List.take (Tryd.prog.cellsOf 4) (List.drop 9 [c0, c1, c2, c3, c4, c5, c6, c7, c8, c9, c10])) = some x9 := hf 9 _ rfl
  rw [z1] at h9
  obtain ⟨a9, e9, _⟩ := DataW.trod_bool Tryd.underlying4 h9
  have h10 : DataW.trod enc Tryd.prog W base sp held m 5 (List.take (Tryd.prog.cellsOf 5) (List.drop 10 [c0, c1, c2, c3, c4, c5, c6, c7, c8, c9, c10])) = some x10 := hf 10 _ rfl
  rw [z2] at h10
  obtain ⟨a10, e10, _, w10⟩ := DataW.trod_int Tryd.underlying5 h10
  simp at e0 e1 e2 e3 e4 e5 e6 e7 e8 e9 e10
  subst e0
  subst e1
  subst e2
  subst e3
  subst e4
  subst e5
  subst e6
  subst e7
  subst e8
  subst e9
  subst e10
  exact ⟨a0, a1, a2, a3, a4, a5, a6, a7, a8, a9, a10, rfl, w0, w2, w10⟩
set_option maxRecDepth 100000 in
theorem open_head {H : Type} {enc : TypeId × Value → H} {W : World} {base : Nat} {v : Value} {d : DataW H} {p : List MemPlace} (hok : Value.okWide Tryd.prog W .any base 25 v)
    (h : DataW.Trod enc Tryd.prog W 0 (fun _ => true) true 25 v d p) : ∃ (a0 : Int) (a1 : Bool) (a2 : Int) (a3 : Bool) (a4 : Bool) (a5 : Bool) (a6 : Bool) (a7 : Bool) (a8 : Bool) (a9 : Bool) (a10 : Int), v = .agg #[.int .u16 a0, .bool a1, .int .u8 a2, .bool a3, .bool a4, .bool a5, .bool a6, .bool a7, .bool a8, .bool a9, .int .u8 a10] ∧ (Lit.int .u16 a0).wf = true ∧ (Lit.int .u8 a2).wf = true ∧ (Lit.int .u8 a10).wf = true := by
  obtain ⟨⟨cs⟩, rfl, hsz⟩ := okWide_struct Tryd.underlying25 hok
  obtain ⟨fuel, hf⟩ := h
  obtain ⟨a0, a1, a2, a3, a4, a5, a6, a7, a8, a9, a10, e, w0, w2, w10⟩ := cells_head (show DataW.trod enc Tryd.prog W 0 (fun _ => true) true fuel 25 cs = some (d, p) by simpa [Value.cells] using hf) (hsz.trans (by kernel_rfl))
  exact ⟨a0, a1, a2, a3, a4, a5, a6, a7, a8, a9, a10, by rw [← e], w0, w2, w10⟩
theorem list4_four {α : Type} {l : List α} (h : l.length = 4) : ∃ x0 x1 x2 x3, l = [x0, x1, x2, x3] := by
  match l, h with
  | [x0, x1, x2, x3], _ => exact ⟨x0, x1, x2, x3, rfl⟩
set_option maxRecDepth 100000 in
theorem open_four {H : Type} {enc : TypeId × Value → H} {W : World} {base : Nat} {v : Value} {d : DataW H} {p : List MemPlace} (hok : Value.okWide Tryd.prog W .any base 33 v)
    (h : DataW.Trod enc Tryd.prog W 0 (fun _ => true) true 33 v d p) : ∃ (a0 : Int) (a1 : Int) (a2 : Int) (a3 : Int), v = .agg #[.int .i64 a0, .int .i64 a1, .int .i64 a2, .int .i64 a3] ∧ (Lit.int .i64 a0).wf = true ∧ (Lit.int .i64 a1).wf = true ∧ (Lit.int .i64 a2).wf = true ∧ (Lit.int .i64 a3).wf = true := by
  obtain ⟨⟨cs⟩, rfl, hsz⟩ : ∃ cs, v = .agg cs ∧ cs.size = Tryd.prog.cellsOf 33 := by
    simp only [Value.okWide, Tryd.underlying33] at hok
    obtain ⟨cs, h1, h2, _⟩ := hok
    exact ⟨cs, h1, h2⟩
  obtain ⟨fuel, hf⟩ := h
  have hf' : DataW.trod enc Tryd.prog W 0 (fun _ => true) true fuel 33 cs = some (d, p) := by simpa [Value.cells] using hf
  have hl : cs.length = 4 := hsz.trans (by kernel_rfl)
  obtain ⟨xs, m, _, _, _, hx, hF⟩ := DataW.trod_array Tryd.underlying33 hf'
  obtain ⟨c0, c1, c2, c3, rfl⟩ := list4_four hl
  obtain ⟨x0, x1, x2, x3, rfl⟩ := list4_four (hx.trans rfl)
  have z : Tryd.prog.cellsOf 3 = 1 := by kernel_rfl
  have h0 := hF 0 (by decide)
  rw [z] at h0
  obtain ⟨a0, e0, _, w0⟩ := DataW.trod_int (x := x0) Tryd.underlying3 h0
  have h1 := hF 1 (by decide)
  rw [z] at h1
  obtain ⟨a1, e1, _, w1⟩ := DataW.trod_int (x := x1) Tryd.underlying3 h1
  have h2 := hF 2 (by decide)
  rw [z] at h2
  obtain ⟨a2, e2, _, w2⟩ := DataW.trod_int (x := x2) Tryd.underlying3 h2
  have h3 := hF 3 (by decide)
  rw [z] at h3
  obtain ⟨a3, e3, _, w3⟩ := DataW.trod_int (x := x3) Tryd.underlying3 h3
  simp at e0 e1 e2 e3
  subst e0
  subst e1
  subst e2
  subst e3
  exact ⟨a0, a1, a2, a3, rfl, w0, w1, w2, w3⟩
end Go.Proofs.YtkoejogmcoigoaaDoor
