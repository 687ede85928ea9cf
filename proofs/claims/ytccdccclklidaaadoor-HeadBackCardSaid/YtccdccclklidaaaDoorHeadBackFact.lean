/-
  HeadBack: the closed facts of the row that the kernel reckons: the function's place, the row's computed cells.
-/
import Derived.Test.YtccdccclklidaaaDoorRows
import Derived.JoinedOf
namespace Go.Proofs.YtccdccclklidaaaDoor.headBack
set_option linter.unusedVariables false
theorem fact_name : Tryd.pinned.checked.prog.funcNamed Rows.headBackRow.func = some 13 := by kernel_rfl
theorem fact_closed : joinedFacts Tryd.pinned.checked.prog 13 Tryd.f13 Rows.headBackSpec Rows.headBackRow = true := by kernel_rfl
theorem fact_instance : Func.isInstance Tryd.pinned.checked.prog Tryd.f13 Rows.headBackRow.origin Rows.headBackRow.targs := of_decide_eq_true (by kernel_rfl)
theorem fact_wrapper : Func.isWrapper Tryd.pinned.checked.prog Tryd.f13 Rows.headBackRow.wrapper Rows.headBackRow.mainSum := by
  unfold Func.isWrapper; first | (rw [if_pos (by decide +kernel)]; kernel_rfl) | (rw [if_neg (by decide +kernel)]; exact ⟨rfl, rfl⟩)
end Go.Proofs.YtccdccclklidaaaDoor.headBack
