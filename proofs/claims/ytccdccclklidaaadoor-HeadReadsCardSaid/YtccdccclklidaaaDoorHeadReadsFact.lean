/-
  HeadReads: the closed facts of the row that the kernel reckons: the function's place, the row's computed cells.
-/
import Derived.Test.YtccdccclklidaaaDoorRows
import Derived.JoinedOf
namespace Go.Proofs.YtccdccclklidaaaDoor.headReads
set_option linter.unusedVariables false
theorem fact_name : Tryd.pinned.checked.prog.funcNamed Rows.headReadsRow.func = some 11 := by kernel_rfl
theorem fact_closed : joinedFacts Tryd.pinned.checked.prog 11 Tryd.f11 Rows.headReadsSpec Rows.headReadsRow = true := by kernel_rfl
theorem fact_instance : Func.isInstance Tryd.pinned.checked.prog Tryd.f11 Rows.headReadsRow.origin Rows.headReadsRow.targs := of_decide_eq_true (by kernel_rfl)
theorem fact_wrapper : Func.isWrapper Tryd.pinned.checked.prog Tryd.f11 Rows.headReadsRow.wrapper Rows.headReadsRow.mainSum := by
  unfold Func.isWrapper; first | (rw [if_pos (by decide +kernel)]; kernel_rfl) | (rw [if_neg (by decide +kernel)]; exact ⟨rfl, rfl⟩)
end Go.Proofs.YtccdccclklidaaaDoor.headReads
