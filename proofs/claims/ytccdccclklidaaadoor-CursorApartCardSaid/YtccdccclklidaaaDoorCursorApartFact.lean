/-
  CursorApart: the closed facts of the row that the kernel reckons: the function's place, the row's computed cells.
-/
import Derived.Test.YtccdccclklidaaaDoorRows
import Derived.JoinedOf
namespace Go.Proofs.YtccdccclklidaaaDoor.cursorApart
set_option linter.unusedVariables false
theorem fact_name : Tryd.pinned.checked.prog.funcNamed Rows.cursorApartRow.func = some 9 := by kernel_rfl
theorem fact_closed : joinedFacts Tryd.pinned.checked.prog 9 Tryd.f9 Rows.cursorApartSpec Rows.cursorApartRow = true := by kernel_rfl
theorem fact_instance : Func.isInstance Tryd.pinned.checked.prog Tryd.f9 Rows.cursorApartRow.origin Rows.cursorApartRow.targs := of_decide_eq_true (by kernel_rfl)
theorem fact_wrapper : Func.isWrapper Tryd.pinned.checked.prog Tryd.f9 Rows.cursorApartRow.wrapper Rows.cursorApartRow.mainSum := by
  unfold Func.isWrapper; first | (rw [if_pos (by decide +kernel)]; kernel_rfl) | (rw [if_neg (by decide +kernel)]; exact ⟨rfl, rfl⟩)
end Go.Proofs.YtccdccclklidaaaDoor.cursorApart
