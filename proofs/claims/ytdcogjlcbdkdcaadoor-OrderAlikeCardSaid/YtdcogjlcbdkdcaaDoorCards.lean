/-
  DERIVED. GIVEN WITH THE SEED: THE CARDS: each row of YtdcogjlcbdkdcaaDoorRows.lean that lists a variable, with what it lists TIED to the program's text (the seventh form; the later family's looks); each row that meets fmt, with fmt's text TOLD by the authors' own Lean function (tested against real Go, not proved from fmt's source: count such statements apart). THE CARD IS WHAT COUNTS. Prove the row's statement (the work); the ties are given (YtdcogjlcbdkdcaaDoorTie.lean); close each card by the builder's one call (the guide's Derived/Test/ToyasCard.lean, 'card_holds'). Laid BY PROGRAM, IN A SANDBOX (cutbox-door.mjs). By AI agents, Wed Nov 11 2026. No macro, syntax, notation, axiom, sorry.
-/
import Derived.Test.YtdcogjlcbdkdcaaDoorRows
import GoSem.ClaimSeven
namespace Go.Proofs.YtdcogjlcbdkdcaaDoor
namespace Rows

/-- THE TIED CARD OF 'hustingslaw20.OrderTells'. -/
def orderTellsCard : Claim7 := { stood := { row := orderTellsRow, standIns := [], harness := (true, "f23732c7b4625d020ebc43f6c6eca1e4b54dad047af9e6014e3833ab7cedc5f1"), looks := false }, kinds := [], alts := [], laidByText := true, laidKinds := [.data], laidTests := true, laidLooks := .later }
def OrderTellsCardSaid : Prop := Claim7.holds Tryd.pinned (.plain (OpenSpec.ofChange orderTellsSpec)) orderTellsCard

/-- THE TIED CARD OF 'hustingslaw20.OrderNames'. -/
def orderNamesCard : Claim7 := { stood := { row := orderNamesRow, standIns := [], harness := (true, "f23732c7b4625d020ebc43f6c6eca1e4b54dad047af9e6014e3833ab7cedc5f1"), looks := false }, kinds := [], alts := [], laidByText := true, laidKinds := [.data], laidTests := true, laidLooks := .later }
def OrderNamesCardSaid : Prop := Claim7.holds Tryd.pinned (.plain (OpenSpec.ofChange orderNamesSpec)) orderNamesCard

/-- THE TIED CARD OF 'hustingslaw20.OrderEach'. -/
def orderEachCard : Claim7 := { stood := { row := orderEachRow, standIns := [], harness := (true, "f23732c7b4625d020ebc43f6c6eca1e4b54dad047af9e6014e3833ab7cedc5f1"), looks := false }, kinds := [], alts := [], laidByText := true, laidKinds := [.data], laidTests := true, laidLooks := .later }
def OrderEachCardSaid : Prop := Claim7.holds Tryd.pinned (.plain (OpenSpec.ofChange orderEachSpec)) orderEachCard

/-- THE TIED CARD OF 'hustingslaw20.OrderAlike'. -/
def orderAlikeCard : Claim7 := { stood := { row := orderAlikeRow, standIns := [], harness := (true, "f23732c7b4625d020ebc43f6c6eca1e4b54dad047af9e6014e3833ab7cedc5f1"), looks := false }, kinds := [], alts := [], laidByText := true, laidKinds := [.data], laidTests := true, laidLooks := .later }
def OrderAlikeCardSaid : Prop := Claim7.holds Tryd.pinned (.plain (OpenSpec.ofChange orderAlikeSpec)) orderAlikeCard

/-- THE TIED CARD OF 'hustingslaw20.OrderAgain'. -/
def orderAgainCard : Claim7 := { stood := { row := orderAgainRow, standIns := [], harness := (true, "f23732c7b4625d020ebc43f6c6eca1e4b54dad047af9e6014e3833ab7cedc5f1"), looks := false }, kinds := [], alts := [], laidByText := true, laidKinds := [.data], laidTests := true, laidLooks := .later }
def OrderAgainCardSaid : Prop := Claim7.holds Tryd.pinned (.plain (OpenSpec.ofChange orderAgainSpec)) orderAgainCard

/-- THE SECOND FORM's CARD OF 'hustingslaw20.OrderTells'. -/
def orderTellsUptoCard : Claim7 := { stood := { row := orderTellsUptoRow, standIns := [], harness := (true, "f23732c7b4625d020ebc43f6c6eca1e4b54dad047af9e6014e3833ab7cedc5f1"), looks := false }, kinds := [], alts := [], laidByText := true, laidKinds := [.data], laidTests := true, laidLooks := .later }
def OrderTellsUptoCardSaid : Prop := Claim7.holds Tryd.pinned (.plain (OpenSpec.upto orderTellsSpec)) orderTellsUptoCard

/-- THE SECOND FORM's CARD OF 'hustingslaw20.OrderNames'. -/
def orderNamesUptoCard : Claim7 := { stood := { row := orderNamesUptoRow, standIns := [], harness := (true, "f23732c7b4625d020ebc43f6c6eca1e4b54dad047af9e6014e3833ab7cedc5f1"), looks := false }, kinds := [], alts := [], laidByText := true, laidKinds := [.data], laidTests := true, laidLooks := .later }
def OrderNamesUptoCardSaid : Prop := Claim7.holds Tryd.pinned (.plain (OpenSpec.upto orderNamesSpec)) orderNamesUptoCard

/-- THE SECOND FORM's CARD OF 'hustingslaw20.OrderEach'. -/
def orderEachUptoCard : Claim7 := { stood := { row := orderEachUptoRow, standIns := [], harness := (true, "f23732c7b4625d020ebc43f6c6eca1e4b54dad047af9e6014e3833ab7cedc5f1"), looks := false }, kinds := [], alts := [], laidByText := true, laidKinds := [.data], laidTests := true, laidLooks := .later }
def OrderEachUptoCardSaid : Prop := Claim7.holds Tryd.pinned (.plain (OpenSpec.upto orderEachSpec)) orderEachUptoCard

/-- THE SECOND FORM's CARD OF 'hustingslaw20.OrderAlike'. -/
def orderAlikeUptoCard : Claim7 := { stood := { row := orderAlikeUptoRow, standIns := [], harness := (true, "f23732c7b4625d020ebc43f6c6eca1e4b54dad047af9e6014e3833ab7cedc5f1"), looks := false }, kinds := [], alts := [], laidByText := true, laidKinds := [.data], laidTests := true, laidLooks := .later }
def OrderAlikeUptoCardSaid : Prop := Claim7.holds Tryd.pinned (.plain (OpenSpec.upto orderAlikeSpec)) orderAlikeUptoCard

/-- THE SECOND FORM's CARD OF 'hustingslaw20.OrderAgain'. -/
def orderAgainUptoCard : Claim7 := { stood := { row := orderAgainUptoRow, standIns := [], harness := (true, "f23732c7b4625d020ebc43f6c6eca1e4b54dad047af9e6014e3833ab7cedc5f1"), looks := false }, kinds := [], alts := [], laidByText := true, laidKinds := [.data], laidTests := true, laidLooks := .later }
def OrderAgainUptoCardSaid : Prop := Claim7.holds Tryd.pinned (.plain (OpenSpec.upto orderAgainSpec)) orderAgainUptoCard
end Rows
end Go.Proofs.YtdcogjlcbdkdcaaDoor
