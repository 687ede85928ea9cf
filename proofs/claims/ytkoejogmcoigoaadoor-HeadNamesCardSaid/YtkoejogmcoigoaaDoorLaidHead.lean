/-
  What the listed variables hold when the call begins: errors.errorType, head.bits; and a world that meets the condition.
-/
import Derived.Test.YtkoejogmcoigoaaDoorLaidErr
import Derived.Test.YtkoejogmcoigoaaDoorHead
import Derived.Lib.LaidTab
namespace Go.Proofs.YtkoejogmcoigoaaDoor
open Go.RowKit
set_option linter.unusedVariables false

def laidTwo : List (String × DataW Unit) := [("errors.errorType", Rows.laid_errors_errorType), ("hustings/head.bits", Rows.laid_hustings_head_bits)]
theorem x_bits : Tryd.prog.globalNamed "hustings/head.bits" = some 0 := by kernel_rfl
theorem two_parts {W : World} (h : laidMetH Tryd.prog laidTwo W) : ErrT W ∧ BitsT W := by
  have h' : laidMet Tryd.prog [("hustings/head.bits", Rows.laid_hustings_head_bits)] W ∧ handlesMet Tryd.prog [("errors.errorType", Rows.laid_errors_errorType)] W := h
  refine ⟨errT_of_handles h'.2 (List.mem_singleton.2 rfl), ?_⟩
  have hT := Lib.tabIs_of_head (P := Tryd.prog) (W := W) (name := "hustings/head.bits") (k := .u16) (zs := [32768, 1024, 512, 256, 128, 64, 32, 16]) (rest := []) (t := 50) (e := 23) (n := 8) x_bits (by kernel_rfl) Tryd.underlying50 Tryd.underlying23 (by kernel_rfl) (by kernel_rfl) h'.1
  exact ⟨hT.cell x_bits 0 (by decide), hT.cell x_bits 1 (by decide), hT.cell x_bits 2 (by decide), hT.cell x_bits 3 (by decide), hT.cell x_bits 4 (by decide), hT.cell x_bits 5 (by decide), hT.cell x_bits 6 (by decide), hT.cell x_bits 7 (by decide)⟩
theorem bits_of_two {W : World} (h : laidMetH Tryd.prog [("errors.errorType", Rows.laid_errors_errorType), ("hustings/head.bits", Rows.laid_hustings_head_bits)] W) : BitsT W := (two_parts h).2
theorem met_two (os : Os) (args : Array Value) : laidMetH Tryd.prog [("errors.errorType", Rows.laid_errors_errorType), ("hustings/head.bits", Rows.laid_hustings_head_bits)] ((World.doorLaid Tryd.prog 400 os).forCall (fun _ _ => 0) ⟨#[], args, []⟩).memory :=
  laidMetH_of_parts3 (fuel := 8) (laidMet_of_run' 8 (by kernel_rfl) (by kernel_rfl)) (by kernel_rfl) (by kernel_rfl)
end Go.Proofs.YtkoejogmcoigoaaDoor
