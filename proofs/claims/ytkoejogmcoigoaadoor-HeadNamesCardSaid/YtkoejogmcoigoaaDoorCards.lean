/-
  DERIVED. GIVEN WITH THE SEED: THE CARDS: each row of YtkoejogmcoigoaaDoorRows.lean that lists a variable, with what it lists TIED to the program's text (the seventh form; the later family's looks); each row that meets fmt, with fmt's text TOLD by the authors' own Lean function (tested against real Go, not proved from fmt's source: count such statements apart). THE CARD IS WHAT COUNTS. Prove the row's statement (the work); the ties are given (YtkoejogmcoigoaaDoorTie.lean); close each card by the builder's one call (the guide's Derived/Test/ToyasCard.lean, 'card_holds'). Laid BY PROGRAM, IN A SANDBOX (cutbox-door.mjs). By AI agents, Wed Nov 11 2026. No macro, syntax, notation, axiom, sorry.
-/
import Derived.Test.YtkoejogmcoigoaaDoorRows
import GoSem.ClaimSeven
namespace Go.Proofs.YtkoejogmcoigoaaDoor
namespace Rows

/-- THE TIED CARD OF 'hustingslaw03.HeadNames'. -/
def headNamesCard : Claim7 := { stood := { row := headNamesRow, standIns := [], harness := (true, "478b1ba0eff4263432fc931e636bfaf2d58cb41fedf9202d403e0393a744063b"), looks := true }, kinds := [], alts := [], laidByText := true, laidKinds := [.handle, .data], laidTests := true, laidLooks := .later }
def HeadNamesCardSaid : Prop := Claim7.holds Tryd.pinned (.plain (OpenSpec.ofChange headNamesSpec)) headNamesCard

/-- THE TIED CARD OF 'hustingslaw03.HeadReads'. -/
def headReadsCard : Claim7 := { stood := { row := headReadsRow, standIns := [], harness := (true, "478b1ba0eff4263432fc931e636bfaf2d58cb41fedf9202d403e0393a744063b"), looks := true }, kinds := [], alts := [], laidByText := true, laidKinds := [.handle, .data], laidTests := true, laidLooks := .later }
def HeadReadsCardSaid : Prop := Claim7.holds Tryd.pinned (.plain (OpenSpec.ofChange headReadsSpec)) headReadsCard

/-- THE TIED CARD OF 'hustingslaw03.HeadWrites'. -/
def headWritesCard : Claim7 := { stood := { row := headWritesRow, standIns := [], harness := (true, "478b1ba0eff4263432fc931e636bfaf2d58cb41fedf9202d403e0393a744063b"), looks := true }, kinds := [], alts := [], laidByText := true, laidKinds := [.handle, .data], laidTests := true, laidLooks := .later }
def HeadWritesCardSaid : Prop := Claim7.holds Tryd.pinned (.plain (OpenSpec.ofChange headWritesSpec)) headWritesCard

/-- THE TIED CARD OF 'hustingslaw03.HeadBack'. -/
def headBackCard : Claim7 := { stood := { row := headBackRow, standIns := [], harness := (true, "478b1ba0eff4263432fc931e636bfaf2d58cb41fedf9202d403e0393a744063b"), looks := true }, kinds := [], alts := [], laidByText := true, laidKinds := [.handle, .data], laidTests := true, laidLooks := .later }
def HeadBackCardSaid : Prop := Claim7.holds Tryd.pinned (.plain (OpenSpec.ofChange headBackSpec)) headBackCard

/-- THE TIED CARD OF 'hustingslaw03.HeadBits'. -/
def headBitsCard : Claim7 := { stood := { row := headBitsRow, standIns := [], harness := (true, "478b1ba0eff4263432fc931e636bfaf2d58cb41fedf9202d403e0393a744063b"), looks := true }, kinds := [], alts := [], laidByText := true, laidKinds := [.handle, .data], laidTests := true, laidLooks := .later }
def HeadBitsCardSaid : Prop := Claim7.holds Tryd.pinned (.plain (OpenSpec.ofChange headBitsSpec)) headBitsCard

/-- THE TIED CARD OF 'hustingslaw03.HeadCut'. -/
def headCutCard : Claim7 := { stood := { row := headCutRow, standIns := [], harness := (true, "478b1ba0eff4263432fc931e636bfaf2d58cb41fedf9202d403e0393a744063b"), looks := true }, kinds := [], alts := [], laidByText := true, laidKinds := [.handle, .data], laidTests := true, laidLooks := .later }
def HeadCutCardSaid : Prop := Claim7.holds Tryd.pinned (.plain (OpenSpec.ofChange headCutSpec)) headCutCard

/-- THE SECOND FORM's CARD OF 'hustingslaw03.HeadNames'. -/
def headNamesUptoCard : Claim7 := { stood := { row := headNamesUptoRow, standIns := [], harness := (true, "478b1ba0eff4263432fc931e636bfaf2d58cb41fedf9202d403e0393a744063b"), looks := true }, kinds := [], alts := [], laidByText := true, laidKinds := [.handle, .data], laidTests := true, laidLooks := .later }
def HeadNamesUptoCardSaid : Prop := Claim7.holds Tryd.pinned (.plain (OpenSpec.upto headNamesSpec)) headNamesUptoCard

/-- THE SECOND FORM's CARD OF 'hustingslaw03.HeadReads'. -/
def headReadsUptoCard : Claim7 := { stood := { row := headReadsUptoRow, standIns := [], harness := (true, "478b1ba0eff4263432fc931e636bfaf2d58cb41fedf9202d403e0393a744063b"), looks := true }, kinds := [], alts := [], laidByText := true, laidKinds := [.handle, .data], laidTests := true, laidLooks := .later }
def HeadReadsUptoCardSaid : Prop := Claim7.holds Tryd.pinned (.plain (OpenSpec.upto headReadsSpec)) headReadsUptoCard

/-- THE SECOND FORM's CARD OF 'hustingslaw03.HeadWrites'. -/
def headWritesUptoCard : Claim7 := { stood := { row := headWritesUptoRow, standIns := [], harness := (true, "478b1ba0eff4263432fc931e636bfaf2d58cb41fedf9202d403e0393a744063b"), looks := true }, kinds := [], alts := [], laidByText := true, laidKinds := [.handle, .data], laidTests := true, laidLooks := .later }
def HeadWritesUptoCardSaid : Prop := Claim7.holds Tryd.pinned (.plain (OpenSpec.upto headWritesSpec)) headWritesUptoCard

/-- THE SECOND FORM's CARD OF 'hustingslaw03.HeadBack'. -/
def headBackUptoCard : Claim7 := { stood := { row := headBackUptoRow, standIns := [], harness := (true, "478b1ba0eff4263432fc931e636bfaf2d58cb41fedf9202d403e0393a744063b"), looks := true }, kinds := [], alts := [], laidByText := true, laidKinds := [.handle, .data], laidTests := true, laidLooks := .later }
def HeadBackUptoCardSaid : Prop := Claim7.holds Tryd.pinned (.plain (OpenSpec.upto headBackSpec)) headBackUptoCard

/-- THE SECOND FORM's CARD OF 'hustingslaw03.HeadBits'. -/
def headBitsUptoCard : Claim7 := { stood := { row := headBitsUptoRow, standIns := [], harness := (true, "478b1ba0eff4263432fc931e636bfaf2d58cb41fedf9202d403e0393a744063b"), looks := true }, kinds := [], alts := [], laidByText := true, laidKinds := [.handle, .data], laidTests := true, laidLooks := .later }
def HeadBitsUptoCardSaid : Prop := Claim7.holds Tryd.pinned (.plain (OpenSpec.upto headBitsSpec)) headBitsUptoCard

/-- THE SECOND FORM's CARD OF 'hustingslaw03.HeadCut'. -/
def headCutUptoCard : Claim7 := { stood := { row := headCutUptoRow, standIns := [], harness := (true, "478b1ba0eff4263432fc931e636bfaf2d58cb41fedf9202d403e0393a744063b"), looks := true }, kinds := [], alts := [], laidByText := true, laidKinds := [.handle, .data], laidTests := true, laidLooks := .later }
def HeadCutUptoCardSaid : Prop := Claim7.holds Tryd.pinned (.plain (OpenSpec.upto headCutSpec)) headCutUptoCard
end Rows
end Go.Proofs.YtkoejogmcoigoaaDoor
