/-
  DERIVED. GIVEN WITH THE SEED: THE CARDS: each row of YtfbknjboceheaaaDoorRows.lean that lists a variable, with what it lists TIED to the program's text (the seventh form; the later family's looks); each row that meets fmt, with fmt's text TOLD by the authors' own Lean function (tested against real Go, not proved from fmt's source: count such statements apart). THE CARD IS WHAT COUNTS. Prove the row's statement (the work); the ties are given (YtfbknjboceheaaaDoorTie.lean); close each card by the builder's one call (the guide's Derived/Test/ToyasCard.lean, 'card_holds'). Laid BY PROGRAM, IN A SANDBOX (cutbox-door.mjs). By AI agents, Wed Nov 11 2026. No macro, syntax, notation, axiom, sorry.
-/
import Derived.Test.YtfbknjboceheaaaDoorRows
import GoSem.ClaimSeven
namespace Go.Proofs.YtfbknjboceheaaaDoor
namespace Rows

/-- THE TIED CARD OF 'hustingslaw19.ReputeNames'. -/
def reputeNamesCard : Claim7 := { stood := { row := reputeNamesRow, standIns := [], harness := (true, "7ff1dc655ff23ef4bc7852c96c2481fdbbccdecdc4f1e4485873086b8d20e632"), looks := false }, kinds := [], alts := [], laidByText := true, laidKinds := [.data], laidTests := true, laidLooks := .later }
def ReputeNamesCardSaid : Prop := Claim7.holds Tryd.pinned (.plain (OpenSpec.ofChange reputeNamesSpec)) reputeNamesCard

/-- THE TIED CARD OF 'hustingslaw19.ReputeEnough'. -/
def reputeEnoughCard : Claim7 := { stood := { row := reputeEnoughRow, standIns := [], harness := (true, "7ff1dc655ff23ef4bc7852c96c2481fdbbccdecdc4f1e4485873086b8d20e632"), looks := false }, kinds := [], alts := [], laidByText := true, laidKinds := [.data], laidTests := true, laidLooks := .later }
def ReputeEnoughCardSaid : Prop := Claim7.holds Tryd.pinned (.plain (OpenSpec.ofChange reputeEnoughSpec)) reputeEnoughCard

/-- THE TIED CARD OF 'hustingslaw19.ReputeBounds'. -/
def reputeBoundsCard : Claim7 := { stood := { row := reputeBoundsRow, standIns := [], harness := (true, "7ff1dc655ff23ef4bc7852c96c2481fdbbccdecdc4f1e4485873086b8d20e632"), looks := false }, kinds := [], alts := [], laidByText := true, laidKinds := [.data], laidTests := true, laidLooks := .later }
def ReputeBoundsCardSaid : Prop := Claim7.holds Tryd.pinned (.plain (OpenSpec.ofChange reputeBoundsSpec)) reputeBoundsCard

/-- THE TIED CARD OF 'hustingslaw19.ReputeRest'. -/
def reputeRestCard : Claim7 := { stood := { row := reputeRestRow, standIns := [], harness := (true, "7ff1dc655ff23ef4bc7852c96c2481fdbbccdecdc4f1e4485873086b8d20e632"), looks := false }, kinds := [], alts := [], laidByText := true, laidKinds := [.data], laidTests := true, laidLooks := .later }
def ReputeRestCardSaid : Prop := Claim7.holds Tryd.pinned (.plain (OpenSpec.ofChange reputeRestSpec)) reputeRestCard

/-- THE TIED CARD OF 'hustingslaw19.ReputeTrial'. -/
def reputeTrialCard : Claim7 := { stood := { row := reputeTrialRow, standIns := [], harness := (true, "7ff1dc655ff23ef4bc7852c96c2481fdbbccdecdc4f1e4485873086b8d20e632"), looks := false }, kinds := [], alts := [], laidByText := true, laidKinds := [.data], laidTests := true, laidLooks := .later }
def ReputeTrialCardSaid : Prop := Claim7.holds Tryd.pinned (.plain (OpenSpec.ofChange reputeTrialSpec)) reputeTrialCard

/-- THE TIED CARD OF 'hustingslaw19.ReputeApart'. -/
def reputeApartCard : Claim7 := { stood := { row := reputeApartRow, standIns := [], harness := (true, "7ff1dc655ff23ef4bc7852c96c2481fdbbccdecdc4f1e4485873086b8d20e632"), looks := false }, kinds := [], alts := [], laidByText := true, laidKinds := [.data], laidTests := true, laidLooks := .later }
def ReputeApartCardSaid : Prop := Claim7.holds Tryd.pinned (.plain (OpenSpec.ofChange reputeApartSpec)) reputeApartCard

/-- THE SECOND FORM's CARD OF 'hustingslaw19.ReputeNames'. -/
def reputeNamesUptoCard : Claim7 := { stood := { row := reputeNamesUptoRow, standIns := [], harness := (true, "7ff1dc655ff23ef4bc7852c96c2481fdbbccdecdc4f1e4485873086b8d20e632"), looks := false }, kinds := [], alts := [], laidByText := true, laidKinds := [.data], laidTests := true, laidLooks := .later }
def ReputeNamesUptoCardSaid : Prop := Claim7.holds Tryd.pinned (.plain (OpenSpec.upto reputeNamesSpec)) reputeNamesUptoCard

/-- THE SECOND FORM's CARD OF 'hustingslaw19.ReputeEnough'. -/
def reputeEnoughUptoCard : Claim7 := { stood := { row := reputeEnoughUptoRow, standIns := [], harness := (true, "7ff1dc655ff23ef4bc7852c96c2481fdbbccdecdc4f1e4485873086b8d20e632"), looks := false }, kinds := [], alts := [], laidByText := true, laidKinds := [.data], laidTests := true, laidLooks := .later }
def ReputeEnoughUptoCardSaid : Prop := Claim7.holds Tryd.pinned (.plain (OpenSpec.upto reputeEnoughSpec)) reputeEnoughUptoCard

/-- THE SECOND FORM's CARD OF 'hustingslaw19.ReputeBounds'. -/
def reputeBoundsUptoCard : Claim7 := { stood := { row := reputeBoundsUptoRow, standIns := [], harness := (true, "7ff1dc655ff23ef4bc7852c96c2481fdbbccdecdc4f1e4485873086b8d20e632"), looks := false }, kinds := [], alts := [], laidByText := true, laidKinds := [.data], laidTests := true, laidLooks := .later }
def ReputeBoundsUptoCardSaid : Prop := Claim7.holds Tryd.pinned (.plain (OpenSpec.upto reputeBoundsSpec)) reputeBoundsUptoCard

/-- THE SECOND FORM's CARD OF 'hustingslaw19.ReputeRest'. -/
def reputeRestUptoCard : Claim7 := { stood := { row := reputeRestUptoRow, standIns := [], harness := (true, "7ff1dc655ff23ef4bc7852c96c2481fdbbccdecdc4f1e4485873086b8d20e632"), looks := false }, kinds := [], alts := [], laidByText := true, laidKinds := [.data], laidTests := true, laidLooks := .later }
def ReputeRestUptoCardSaid : Prop := Claim7.holds Tryd.pinned (.plain (OpenSpec.upto reputeRestSpec)) reputeRestUptoCard

/-- THE SECOND FORM's CARD OF 'hustingslaw19.ReputeTrial'. -/
def reputeTrialUptoCard : Claim7 := { stood := { row := reputeTrialUptoRow, standIns := [], harness := (true, "7ff1dc655ff23ef4bc7852c96c2481fdbbccdecdc4f1e4485873086b8d20e632"), looks := false }, kinds := [], alts := [], laidByText := true, laidKinds := [.data], laidTests := true, laidLooks := .later }
def ReputeTrialUptoCardSaid : Prop := Claim7.holds Tryd.pinned (.plain (OpenSpec.upto reputeTrialSpec)) reputeTrialUptoCard

/-- THE SECOND FORM's CARD OF 'hustingslaw19.ReputeApart'. -/
def reputeApartUptoCard : Claim7 := { stood := { row := reputeApartUptoRow, standIns := [], harness := (true, "7ff1dc655ff23ef4bc7852c96c2481fdbbccdecdc4f1e4485873086b8d20e632"), looks := false }, kinds := [], alts := [], laidByText := true, laidKinds := [.data], laidTests := true, laidLooks := .later }
def ReputeApartUptoCardSaid : Prop := Claim7.holds Tryd.pinned (.plain (OpenSpec.upto reputeApartSpec)) reputeApartUptoCard
end Rows
end Go.Proofs.YtfbknjboceheaaaDoor
