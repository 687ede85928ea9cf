/-
  EdnsBehind: the closed facts of the row that the kernel reckons: the function's place, the row's computed cells.
-/
import Derived.Test.YtbapnlgddekakaaDoorRows
import Derived.JoinedOf
namespace Go.Proofs.YtbapnlgddekakaaDoor.ednsBehind
set_option linter.unusedVariables false
theorem fact_name : Tryd.pinned.checked.prog.funcNamed Rows.ednsBehindRow.func = some 6 := by kernel_rfl
theorem fact_closed : joinedFacts Tryd.pinned.checked.prog 6 Tryd.f6 Rows.ednsBehindSpec Rows.ednsBehindRow = true := by kernel_rfl
theorem fact_instance : Func.isInstance Tryd.pinned.checked.prog Tryd.f6 Rows.ednsBehindRow.origin Rows.ednsBehindRow.targs := of_decide_eq_true (by kernel_rfl)
theorem fact_wrapper : Func.isWrapper Tryd.pinned.checked.prog Tryd.f6 Rows.ednsBehindRow.wrapper Rows.ednsBehindRow.mainSum := by
  unfold Func.isWrapper; first | (rw [if_pos (by decide +kernel)]; kernel_rfl) | (rw [if_neg (by decide +kernel)]; exact ⟨rfl, rfl⟩)
end Go.Proofs.YtbapnlgddekakaaDoor.ednsBehind
