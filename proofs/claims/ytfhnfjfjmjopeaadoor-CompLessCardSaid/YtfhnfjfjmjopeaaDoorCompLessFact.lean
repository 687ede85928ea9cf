/-
  CompLess: the closed facts of the row that the kernel reckons: the function's place, the row's computed cells.
-/
import Derived.Test.YtfhnfjfjmjopeaaDoorRows
import Derived.JoinedOf
namespace Go.Proofs.YtfhnfjfjmjopeaaDoor.compLess
set_option linter.unusedVariables false
theorem fact_name : Tryd.pinned.checked.prog.funcNamed Rows.compLessRow.func = some 5 := by kernel_rfl
theorem fact_closed : joinedFacts Tryd.pinned.checked.prog 5 Tryd.f5 Rows.compLessSpec Rows.compLessRow = true := by kernel_rfl
theorem fact_instance : Func.isInstance Tryd.pinned.checked.prog Tryd.f5 Rows.compLessRow.origin Rows.compLessRow.targs := of_decide_eq_true (by kernel_rfl)
theorem fact_wrapper : Func.isWrapper Tryd.pinned.checked.prog Tryd.f5 Rows.compLessRow.wrapper Rows.compLessRow.mainSum := by
  unfold Func.isWrapper; first | (rw [if_pos (by decide +kernel)]; kernel_rfl) | (rw [if_neg (by decide +kernel)]; exact ⟨rfl, rfl⟩)
end Go.Proofs.YtfhnfjfjmjopeaaDoor.compLess
