/-
  An act that comes in by value, opened.
-/
import Derived.Test.YtfbknjboceheaaaDoorOpen
import Derived.Test.YtfbknjboceheaaaDoorRows
import Derived.OpenShut
namespace Go.Proofs.YtfbknjboceheaaaDoor
open Go.RowKit Go.ChangeShapes Go.WideShapes Go.ChangeAt
set_option linter.unusedVariables false
set_option linter.unusedSimpArgs false

theorem list3_act1 {α : Type} {l : List α} (h : l.length = 3) : ∃ x0 x1 x2, l = [x0, x1, x2] := by
  match l, h with
  | [x0, x1, x2], _ => exact ⟨x0, x1, x2, rfl⟩
set_option maxRecDepth 100000 in
theorem cells_act1 {H : Type} {enc : TypeId × Value → H} {W : World} {base : Nat} {sp : Nat → Bool} {held : Bool} {fuel : Nat} {cs : List Value} {x : DataW H × List MemPlace} (h : DataW.trod enc Tryd.prog W base sp held fuel 54 cs = some x) (hl : cs.length = 3) :
    ∃ (a0 : Int) (a1 : Int) (a2 : Int), cs = [.int .u8 a0, .int .i64 a1, .int .i64 a2] ∧ (Lit.int .u8 a0).wf = true ∧ (Lit.int .i64 a1).wf = true ∧ (Lit.int .i64 a2).wf = true := by
  obtain ⟨xs, m, _, _, _, hx, hf⟩ := DataW.trod_struct Tryd.underlying54 h
  obtain ⟨c0, c1, c2, rfl⟩ := list3_act1 hl
  obtain ⟨x0, x1, x2, rfl⟩ := list3_act1 (hx.trans rfl)
  have z0 : Tryd.prog.cellsOf 5 = 1 := by kernel_rfl
  have z1 : Tryd.prog.cellsOf 3 = 1 := by kernel_rfl
  have z2 : Tryd.prog.cellsOf 2 = 1 := by kernel_rfl
  have h0 : DataW.trod enc Tryd.prog W base sp held m 5 (List.take (Tryd.prog.cellsOf 5) (List.drop 0 [c0, c1, c2])) = some x0 := hf 0 _ rfl
  rw [z0] at h0
  obtain ⟨a0, e0, _, w0⟩ := DataW.trod_int Tryd.underlying5 h0
  have h1 : DataW.trod enc Tryd.prog W base sp held m 3 (List.take (Tryd.prog.cellsOf 3) (List.drop 1 [c0, c1, c2])) = some x1 := hf 1 _ rfl
  rw [z1] at h1
  obtain ⟨a1, e1, _, w1⟩ := DataW.trod_int Tryd.underlying3 h1
  have h2 : DataW.trod enc Tryd.prog W base sp held m 2 (List.take (Tryd.prog.cellsOf 2) (List.drop 2 [c0, c1, c2])) = some x2 := hf 2 _ rfl
  rw [z2] at h2
  obtain ⟨a2, e2, _, w2⟩ := DataW.trod_int Tryd.underlying2 h2
  simp at e0 e1 e2
  subst e0
  subst e1
  subst e2
  exact ⟨a0, a1, a2, rfl, w0, w1, w2⟩
set_option maxRecDepth 100000 in
theorem open_act1 {H : Type} {enc : TypeId × Value → H} {W : World} {base : Nat} {v : Value} {d : DataW H} {p : List MemPlace} (hok : Value.okWide Tryd.prog W .any base 54 v)
    (h : DataW.Trod enc Tryd.prog W 0 (fun _ => true) true 54 v d p) : ∃ (a0 : Int) (a1 : Int) (a2 : Int), v = .agg #[.int .u8 a0, .int .i64 a1, .int .i64 a2] ∧ (Lit.int .u8 a0).wf = true ∧ (Lit.int .i64 a1).wf = true ∧ (Lit.int .i64 a2).wf = true := by
  obtain ⟨⟨cs⟩, rfl, hsz⟩ := okWide_struct Tryd.underlying54 hok
  obtain ⟨fuel, hf⟩ := h
  obtain ⟨a0, a1, a2, e, w0, w1, w2⟩ := cells_act1 (show DataW.trod enc Tryd.prog W 0 (fun _ => true) true fuel 54 cs = some (d, p) by simpa [Value.cells] using hf) (hsz.trans (by kernel_rfl))
  exact ⟨a0, a1, a2, by rw [← e], w0, w1, w2⟩
end Go.Proofs.YtfbknjboceheaaaDoor
