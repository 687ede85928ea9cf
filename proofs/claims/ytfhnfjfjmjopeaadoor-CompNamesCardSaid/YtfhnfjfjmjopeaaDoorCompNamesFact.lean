/-
  CompNames: the closed facts of the row that the kernel reckons: the function's place, the row's computed cells.
-/
import Derived.Test.YtfhnfjfjmjopeaaDoorRows
import Derived.JoinedOf
namespace Go.Proofs.YtfhnfjfjmjopeaaDoor.compNames
set_option linter.unusedVariables false
theorem fact_name : Tryd.pinned.checked.prog.funcNamed Rows.compNamesRow.func = some 3 := by kernel_rfl
theorem fact_closed : joinedFacts Tryd.pinned.checked.prog 3 Tryd.f3 Rows.compNamesSpec Rows.compNamesRow = true := by kernel_rfl
theorem fact_instance : Func.isInstance Tryd.pinned.checked.prog Tryd.f3 Rows.compNamesRow.origin Rows.compNamesRow.targs := of_decide_eq_true (by kernel_rfl)
theorem fact_wrapper : Func.isWrapper Tryd.pinned.checked.prog Tryd.f3 Rows.compNamesRow.wrapper Rows.compNamesRow.mainSum := by
  unfold Func.isWrapper; first | (rw [if_pos (by decide +kernel)]; kernel_rfl) | (rw [if_neg (by decide +kernel)]; exact ⟨rfl, rfl⟩)
end Go.Proofs.YtfhnfjfjmjopeaaDoor.compNames
