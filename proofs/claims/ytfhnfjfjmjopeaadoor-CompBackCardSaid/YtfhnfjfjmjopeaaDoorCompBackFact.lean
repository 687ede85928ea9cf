/-
  CompBack: the closed facts of the row that the kernel reckons: the function's place, the row's computed cells.
-/
import Derived.Test.YtfhnfjfjmjopeaaDoorRows
import Derived.JoinedOf
namespace Go.Proofs.YtfhnfjfjmjopeaaDoor.compBack
set_option linter.unusedVariables false
theorem fact_name : Tryd.pinned.checked.prog.funcNamed Rows.compBackRow.func = some 4 := by kernel_rfl
theorem fact_closed : joinedFacts Tryd.pinned.checked.prog 4 Tryd.f4 Rows.compBackSpec Rows.compBackRow = true := by kernel_rfl
theorem fact_instance : Func.isInstance Tryd.pinned.checked.prog Tryd.f4 Rows.compBackRow.origin Rows.compBackRow.targs := of_decide_eq_true (by kernel_rfl)
theorem fact_wrapper : Func.isWrapper Tryd.pinned.checked.prog Tryd.f4 Rows.compBackRow.wrapper Rows.compBackRow.mainSum := by
  unfold Func.isWrapper; first | (rw [if_pos (by decide +kernel)]; kernel_rfl) | (rw [if_neg (by decide +kernel)]; exact ⟨rfl, rfl⟩)
end Go.Proofs.YtfhnfjfjmjopeaaDoor.compBack
