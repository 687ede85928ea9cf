/-
  What the listed variable holds when the call begins: repute.gains; and a world that meets the condition.
-/
import Derived.Test.YtdcogjlcbdkdcaaDoorRep
import Derived.Test.YtdcogjlcbdkdcaaDoorRows
import Derived.LaidLaws
import Derived.LaidHandle
import Derived.LaidMore
import Derived.Lib.LaidTab
namespace Go.Proofs.YtdcogjlcbdkdcaaDoor
open Go.RowKit
set_option linter.unusedVariables false

theorem x_gains : Tryd.prog.globalNamed "hustings/repute.gains" = some 0 := by kernel_rfl
theorem gains_of_one {W : World} (h : laidMetH Tryd.prog [("hustings/repute.gains", Rows.laid_hustings_repute_gains)] W) : Gains W := by
  have h' : laidMet Tryd.prog [("hustings/repute.gains", Rows.laid_hustings_repute_gains)] W := h
  have hT := Lib.tabIs_of_head (P := Tryd.prog) (W := W) (name := "hustings/repute.gains") (k := .i64) (zs := [1, -10, -2]) (rest := []) (t := 79) (e := 3) (n := 3) x_gains (by kernel_rfl) Tryd.underlying79 Tryd.underlying3 (by kernel_rfl) (by kernel_rfl) h'
  exact ⟨hT.cell x_gains 0 (by decide), hT.cell x_gains 1 (by decide), hT.cell x_gains 2 (by decide)⟩
theorem met_gains (os : Os) (args : Array Value) : laidMetH Tryd.prog [("hustings/repute.gains", Rows.laid_hustings_repute_gains)] ((World.doorLaid Tryd.prog 400 os).forCall (fun _ _ => 0) ⟨#[], args, []⟩).memory :=
  laidMetH_of_parts3 (fuel := 8) (laidMet_of_run' 8 (by kernel_rfl) (by kernel_rfl)) (by kernel_rfl) (by kernel_rfl)
theorem door_shaped (os : Os) (args : Array Value) : ((World.doorLaid Tryd.prog 400 os).forCall (fun _ _ => 0) ⟨#[], args, []⟩).Shaped Tryd.prog := World.shaped_of_RefB (by kernel_rfl) (by kernel_rfl)
end Go.Proofs.YtdcogjlcbdkdcaaDoor
