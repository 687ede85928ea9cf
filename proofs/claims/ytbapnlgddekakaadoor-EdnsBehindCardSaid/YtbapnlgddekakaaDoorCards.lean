/-
  DERIVED. GIVEN WITH THE SEED: THE CARDS: each row of YtbapnlgddekakaaDoorRows.lean that lists a variable, with what it lists TIED to the program's text (the seventh form; the later family's looks); each row that meets fmt, with fmt's text TOLD by the authors' own Lean function (tested against real Go, not proved from fmt's source: count such statements apart). THE CARD IS WHAT COUNTS. Prove the row's statement (the work); the ties are given (YtbapnlgddekakaaDoorTie.lean); close each card by the builder's one call (the guide's Derived/Test/ToyasCard.lean, 'card_holds'). Laid BY PROGRAM, IN A SANDBOX (cutbox-door.mjs). By AI agents, Wed Nov 11 2026. No macro, syntax, notation, axiom, sorry.
-/
import Derived.Test.YtbapnlgddekakaaDoorRows
import GoSem.ClaimSeven
namespace Go.Proofs.YtbapnlgddekakaaDoor
namespace Rows

/-- THE TIED CARD OF 'hustingslaw06.EdnsWrites'. -/
def ednsWritesCard : Claim7 := { stood := { row := ednsWritesRow, standIns := [], harness := (true, "b5493bc4f6ad993852d86f27574624ca1f3bbe7e79586d99698f952b813d4e54"), looks := true }, kinds := [], alts := [], laidByText := true, laidKinds := [.handle], laidTests := true, laidLooks := .later }
def EdnsWritesCardSaid : Prop := Claim7.holds Tryd.pinned (.plain (OpenSpec.ofChange ednsWritesSpec)) ednsWritesCard

/-- THE TIED CARD OF 'hustingslaw06.EdnsNames'. -/
def ednsNamesCard : Claim7 := { stood := { row := ednsNamesRow, standIns := [], harness := (true, "b5493bc4f6ad993852d86f27574624ca1f3bbe7e79586d99698f952b813d4e54"), looks := true }, kinds := [], alts := [], laidByText := true, laidKinds := [.handle], laidTests := true, laidLooks := .later }
def EdnsNamesCardSaid : Prop := Claim7.holds Tryd.pinned (.plain (OpenSpec.ofChange ednsNamesSpec)) ednsNamesCard

/-- THE TIED CARD OF 'hustingslaw06.EdnsBack'. -/
def ednsBackCard : Claim7 := { stood := { row := ednsBackRow, standIns := [], harness := (true, "b5493bc4f6ad993852d86f27574624ca1f3bbe7e79586d99698f952b813d4e54"), looks := true }, kinds := [], alts := [], laidByText := true, laidKinds := [.handle], laidTests := true, laidLooks := .later }
def EdnsBackCardSaid : Prop := Claim7.holds Tryd.pinned (.plain (OpenSpec.ofChange ednsBackSpec)) ednsBackCard

/-- THE TIED CARD OF 'hustingslaw06.EdnsBehind'. -/
def ednsBehindCard : Claim7 := { stood := { row := ednsBehindRow, standIns := [], harness := (true, "b5493bc4f6ad993852d86f27574624ca1f3bbe7e79586d99698f952b813d4e54"), looks := true }, kinds := [], alts := [], laidByText := true, laidKinds := [.handle], laidTests := true, laidLooks := .later }
def EdnsBehindCardSaid : Prop := Claim7.holds Tryd.pinned (.plain (OpenSpec.ofChange ednsBehindSpec)) ednsBehindCard

/-- THE TIED CARD OF 'hustingslaw06.EdnsCodes'. -/
def ednsCodesCard : Claim7 := { stood := { row := ednsCodesRow, standIns := [], harness := (true, "b5493bc4f6ad993852d86f27574624ca1f3bbe7e79586d99698f952b813d4e54"), looks := true }, kinds := [], alts := [], laidByText := true, laidKinds := [.handle], laidTests := true, laidLooks := .later }
def EdnsCodesCardSaid : Prop := Claim7.holds Tryd.pinned (.plain (OpenSpec.ofChange ednsCodesSpec)) ednsCodesCard

/-- THE TIED CARD OF 'hustingslaw06.EdnsParts'. -/
def ednsPartsCard : Claim7 := { stood := { row := ednsPartsRow, standIns := [], harness := (true, "b5493bc4f6ad993852d86f27574624ca1f3bbe7e79586d99698f952b813d4e54"), looks := true }, kinds := [], alts := [], laidByText := true, laidKinds := [.handle], laidTests := true, laidLooks := .later }
def EdnsPartsCardSaid : Prop := Claim7.holds Tryd.pinned (.plain (OpenSpec.ofChange ednsPartsSpec)) ednsPartsCard

/-- THE SECOND FORM's CARD OF 'hustingslaw06.EdnsWrites'. -/
def ednsWritesUptoCard : Claim7 := { stood := { row := ednsWritesUptoRow, standIns := [], harness := (true, "b5493bc4f6ad993852d86f27574624ca1f3bbe7e79586d99698f952b813d4e54"), looks := true }, kinds := [], alts := [], laidByText := true, laidKinds := [.handle], laidTests := true, laidLooks := .later }
def EdnsWritesUptoCardSaid : Prop := Claim7.holds Tryd.pinned (.plain (OpenSpec.upto ednsWritesSpec)) ednsWritesUptoCard

/-- THE SECOND FORM's CARD OF 'hustingslaw06.EdnsNames'. -/
def ednsNamesUptoCard : Claim7 := { stood := { row := ednsNamesUptoRow, standIns := [], harness := (true, "b5493bc4f6ad993852d86f27574624ca1f3bbe7e79586d99698f952b813d4e54"), looks := true }, kinds := [], alts := [], laidByText := true, laidKinds := [.handle], laidTests := true, laidLooks := .later }
def EdnsNamesUptoCardSaid : Prop := Claim7.holds Tryd.pinned (.plain (OpenSpec.upto ednsNamesSpec)) ednsNamesUptoCard

/-- THE SECOND FORM's CARD OF 'hustingslaw06.EdnsBack'. -/
def ednsBackUptoCard : Claim7 := { stood := { row := ednsBackUptoRow, standIns := [], harness := (true, "b5493bc4f6ad993852d86f27574624ca1f3bbe7e79586d99698f952b813d4e54"), looks := true }, kinds := [], alts := [], laidByText := true, laidKinds := [.handle], laidTests := true, laidLooks := .later }
def EdnsBackUptoCardSaid : Prop := Claim7.holds Tryd.pinned (.plain (OpenSpec.upto ednsBackSpec)) ednsBackUptoCard

/-- THE SECOND FORM's CARD OF 'hustingslaw06.EdnsBehind'. -/
def ednsBehindUptoCard : Claim7 := { stood := { row := ednsBehindUptoRow, standIns := [], harness := (true, "b5493bc4f6ad993852d86f27574624ca1f3bbe7e79586d99698f952b813d4e54"), looks := true }, kinds := [], alts := [], laidByText := true, laidKinds := [.handle], laidTests := true, laidLooks := .later }
def EdnsBehindUptoCardSaid : Prop := Claim7.holds Tryd.pinned (.plain (OpenSpec.upto ednsBehindSpec)) ednsBehindUptoCard

/-- THE SECOND FORM's CARD OF 'hustingslaw06.EdnsCodes'. -/
def ednsCodesUptoCard : Claim7 := { stood := { row := ednsCodesUptoRow, standIns := [], harness := (true, "b5493bc4f6ad993852d86f27574624ca1f3bbe7e79586d99698f952b813d4e54"), looks := true }, kinds := [], alts := [], laidByText := true, laidKinds := [.handle], laidTests := true, laidLooks := .later }
def EdnsCodesUptoCardSaid : Prop := Claim7.holds Tryd.pinned (.plain (OpenSpec.upto ednsCodesSpec)) ednsCodesUptoCard

/-- THE SECOND FORM's CARD OF 'hustingslaw06.EdnsParts'. -/
def ednsPartsUptoCard : Claim7 := { stood := { row := ednsPartsUptoRow, standIns := [], harness := (true, "b5493bc4f6ad993852d86f27574624ca1f3bbe7e79586d99698f952b813d4e54"), looks := true }, kinds := [], alts := [], laidByText := true, laidKinds := [.handle], laidTests := true, laidLooks := .later }
def EdnsPartsUptoCardSaid : Prop := Claim7.holds Tryd.pinned (.plain (OpenSpec.upto ednsPartsSpec)) ednsPartsUptoCard
end Rows
end Go.Proofs.YtbapnlgddekakaaDoor
