/-
  ReputeBounds: the closed facts of the row that the kernel reckons: the function's place, the row's computed cells.
-/
import Derived.Test.YtfbknjboceheaaaDoorRows
import Derived.JoinedOf
namespace Go.Proofs.YtfbknjboceheaaaDoor.reputeBounds
set_option linter.unusedVariables false
theorem fact_name : Tryd.pinned.checked.prog.funcNamed Rows.reputeBoundsRow.func = some 5 := by kernel_rfl
theorem fact_closed : joinedFacts Tryd.pinned.checked.prog 5 Tryd.f5 Rows.reputeBoundsSpec Rows.reputeBoundsRow = true := by kernel_rfl
theorem fact_instance : Func.isInstance Tryd.pinned.checked.prog Tryd.f5 Rows.reputeBoundsRow.origin Rows.reputeBoundsRow.targs := of_decide_eq_true (by kernel_rfl)
theorem fact_wrapper : Func.isWrapper Tryd.pinned.checked.prog Tryd.f5 Rows.reputeBoundsRow.wrapper Rows.reputeBoundsRow.mainSum := by
  unfold Func.isWrapper; first | (rw [if_pos (by decide +kernel)]; kernel_rfl) | (rw [if_neg (by decide +kernel)]; exact ⟨rfl, rfl⟩)
end Go.Proofs.YtfbknjboceheaaaDoor.reputeBounds
