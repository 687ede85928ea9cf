/-
  DERIVED. GIVEN WITH THE SEED: THE CARDS: each row of YtfhnfjfjmjopeaaDoorRows.lean that lists a variable, with what it lists TIED to the program's text (the seventh form; the later family's looks); each row that meets fmt, with fmt's text TOLD by the authors' own Lean function (tested against real Go, not proved from fmt's source: count such statements apart). THE CARD IS WHAT COUNTS. Prove the row's statement (the work); the ties are given (YtfhnfjfjmjopeaaDoorTie.lean); close each card by the builder's one call (the guide's Derived/Test/ToyasCard.lean, 'card_holds'). Laid BY PROGRAM, IN A SANDBOX (cutbox-door.mjs). By AI agents, Wed Nov 11 2026. No macro, syntax, notation, axiom, sorry.
-/
import Derived.Test.YtfhnfjfjmjopeaaDoorRows
import GoSem.ClaimSeven
namespace Go.Proofs.YtfhnfjfjmjopeaaDoor
namespace Rows

/-- THE TIED CARD OF 'hustingslaw04.CompNames'. -/
def compNamesCard : Claim7 := { stood := { row := compNamesRow, standIns := [], harness := (true, "c4fc0f41cbd906a084c69e8a24f12410854c8ede97780fe63f9e73afed035e77"), looks := true }, kinds := [], alts := [], laidByText := true, laidKinds := [.handle], laidTests := true, laidLooks := .later }
def CompNamesCardSaid : Prop := Claim7.holds Tryd.pinned (.plain (OpenSpec.ofChange compNamesSpec)) compNamesCard

/-- THE TIED CARD OF 'hustingslaw04.CompBack'. -/
def compBackCard : Claim7 := { stood := { row := compBackRow, standIns := [], harness := (true, "c4fc0f41cbd906a084c69e8a24f12410854c8ede97780fe63f9e73afed035e77"), looks := true }, kinds := [], alts := [], laidByText := true, laidKinds := [.handle], laidTests := true, laidLooks := .later }
def CompBackCardSaid : Prop := Claim7.holds Tryd.pinned (.plain (OpenSpec.ofChange compBackSpec)) compBackCard

/-- THE TIED CARD OF 'hustingslaw04.CompLess'. -/
def compLessCard : Claim7 := { stood := { row := compLessRow, standIns := [], harness := (true, "c4fc0f41cbd906a084c69e8a24f12410854c8ede97780fe63f9e73afed035e77"), looks := true }, kinds := [], alts := [], laidByText := true, laidKinds := [.handle], laidTests := true, laidLooks := .later }
def CompLessCardSaid : Prop := Claim7.holds Tryd.pinned (.plain (OpenSpec.ofChange compLessSpec)) compLessCard

/-- THE TIED CARD OF 'hustingslaw04.CompBehind'. -/
def compBehindCard : Claim7 := { stood := { row := compBehindRow, standIns := [], harness := (true, "c4fc0f41cbd906a084c69e8a24f12410854c8ede97780fe63f9e73afed035e77"), looks := true }, kinds := [], alts := [], laidByText := true, laidKinds := [.handle], laidTests := true, laidLooks := .later }
def CompBehindCardSaid : Prop := Claim7.holds Tryd.pinned (.plain (OpenSpec.ofChange compBehindSpec)) compBehindCard

/-- THE TIED CARD OF 'hustingslaw04.CompAs'. -/
def compAsCard : Claim7 := { stood := { row := compAsRow, standIns := [], harness := (true, "c4fc0f41cbd906a084c69e8a24f12410854c8ede97780fe63f9e73afed035e77"), looks := true }, kinds := [], alts := [], laidByText := true, laidKinds := [.handle], laidTests := true, laidLooks := .later }
def CompAsCardSaid : Prop := Claim7.holds Tryd.pinned (.plain (OpenSpec.ofChange compAsSpec)) compAsCard

/-- THE SECOND FORM's CARD OF 'hustingslaw04.CompNames'. -/
def compNamesUptoCard : Claim7 := { stood := { row := compNamesUptoRow, standIns := [], harness := (true, "c4fc0f41cbd906a084c69e8a24f12410854c8ede97780fe63f9e73afed035e77"), looks := true }, kinds := [], alts := [], laidByText := true, laidKinds := [.handle], laidTests := true, laidLooks := .later }
def CompNamesUptoCardSaid : Prop := Claim7.holds Tryd.pinned (.plain (OpenSpec.upto compNamesSpec)) compNamesUptoCard

/-- THE SECOND FORM's CARD OF 'hustingslaw04.CompBack'. -/
def compBackUptoCard : Claim7 := { stood := { row := compBackUptoRow, standIns := [], harness := (true, "c4fc0f41cbd906a084c69e8a24f12410854c8ede97780fe63f9e73afed035e77"), looks := true }, kinds := [], alts := [], laidByText := true, laidKinds := [.handle], laidTests := true, laidLooks := .later }
def CompBackUptoCardSaid : Prop := Claim7.holds Tryd.pinned (.plain (OpenSpec.upto compBackSpec)) compBackUptoCard

/-- THE SECOND FORM's CARD OF 'hustingslaw04.CompLess'. -/
def compLessUptoCard : Claim7 := { stood := { row := compLessUptoRow, standIns := [], harness := (true, "c4fc0f41cbd906a084c69e8a24f12410854c8ede97780fe63f9e73afed035e77"), looks := true }, kinds := [], alts := [], laidByText := true, laidKinds := [.handle], laidTests := true, laidLooks := .later }
def CompLessUptoCardSaid : Prop := Claim7.holds Tryd.pinned (.plain (OpenSpec.upto compLessSpec)) compLessUptoCard

/-- THE SECOND FORM's CARD OF 'hustingslaw04.CompBehind'. -/
def compBehindUptoCard : Claim7 := { stood := { row := compBehindUptoRow, standIns := [], harness := (true, "c4fc0f41cbd906a084c69e8a24f12410854c8ede97780fe63f9e73afed035e77"), looks := true }, kinds := [], alts := [], laidByText := true, laidKinds := [.handle], laidTests := true, laidLooks := .later }
def CompBehindUptoCardSaid : Prop := Claim7.holds Tryd.pinned (.plain (OpenSpec.upto compBehindSpec)) compBehindUptoCard

/-- THE SECOND FORM's CARD OF 'hustingslaw04.CompAs'. -/
def compAsUptoCard : Claim7 := { stood := { row := compAsUptoRow, standIns := [], harness := (true, "c4fc0f41cbd906a084c69e8a24f12410854c8ede97780fe63f9e73afed035e77"), looks := true }, kinds := [], alts := [], laidByText := true, laidKinds := [.handle], laidTests := true, laidLooks := .later }
def CompAsUptoCardSaid : Prop := Claim7.holds Tryd.pinned (.plain (OpenSpec.upto compAsSpec)) compAsUptoCard
end Rows
end Go.Proofs.YtfhnfjfjmjopeaaDoor
