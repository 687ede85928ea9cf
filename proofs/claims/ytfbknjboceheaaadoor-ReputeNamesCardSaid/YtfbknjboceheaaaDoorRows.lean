/-
  NARROWER THAN 'FOR EVERY INPUT', by the rows' own cells (each row's printed sentence says how): ReputeNames: laid · ReputeEnough: laid · ReputeBounds: laid · ReputeRest: laid · ReputeTrial: laid · ReputeApart: laid.
  DERIVED. THE GIVEN ROWS OF THIS SEAT. 6 by the template 'for every input the law returns true; each argument reads behind the call as it read before'; 0 by the template 'total and deterministic' (their statements: YtfbknjboceheaaaDoorTotals.lean).
  GIVEN WITH THE SEED: the statements are not yours to turn. If you find one false, say at which input.
  Laid BY PROGRAM, IN A SANDBOX (cutbox-rows.mjs): the forced cells as the released guide's own fill.sh prints them over the translation dcd58f43775d9dc2… (all of the seat's roots in one cut). By AI agents, Wed Nov 11 2026. No macro, syntax, notation, axiom, sorry.
-/
import Derived.Test.YtfbknjboceheaaaDoorChecked
import GoSem.Claim
import GoSem.ClaimJoined
import GoSem.ClaimMapViews
import Derived.JoinedTies
import Derived.KernelRfl
namespace Go.Proofs.YtfbknjboceheaaaDoor
/- THE CELL 'sum', in the pinned program and in every row, IS THE sha256 OF THE DUMP (.gsa) THAT YtfbknjboceheaaaDoorProg.lean LOADS. Nothing in Lean hashes anything: it is a label: what it is worth is what the hold of that sum in a sandbox is worth. -/
noncomputable def Tryd.pinned : Pinned := { name := "ytfbknjboceheaaadoor", sum := "dcd58f43775d9dc2af882ac7f0b38c577d6b1f752b271fe8e90859f805a2b7ea", checked := Tryd.checked }
namespace Rows
def none {H : Type} : Left H := { results := [], args := [] }

/- WHAT THE LISTED PACKAGE-LEVEL VARIABLES READ AS WHEN THE CALL BEGINS. Each datum BY PROGRAM (the guide's laid-datum.mjs) off the statement by which the dump's own 'gosem.cut.vars' lays the variable. In a bare row this is a premise. The card (YtfbknjboceheaaaDoorCards.lean) ties it to the program's text. -/
def laid_hustings_repute_gains {H : Type} : DataW H := .agg [.lit (.int .i64 1), .lit (.int .i64 (-10)), .lit (.int .i64 (-2))]

/-- 'hustingslaw19.ReputeNames': WHATEVER THE INPUT: true; the input reads as it did. -/
def reputeNamesSpec : ChangeSpec := { name := "reputeNames", fn := fun _ => fun
  | [] => { results := [.lit (.bool true)], args := [] }
  | _ => none }
def reputeNamesRow : OpenClaim := { program := "ytfbknjboceheaaadoor", sum := "dcd58f43775d9dc2af882ac7f0b38c577d6b1f752b271fe8e90859f805a2b7ea", func := "hustings/hustingslaw19.ReputeNames", spec := "reputeNames", named := ["hustings/repute.gains"], apart := false, laid := [("hustings/repute.gains", laid_hustings_repute_gains)] }
def ReputeNamesSaid : Prop := reputeNamesRow.holds Tryd.pinned (OpenSpec.ofChange reputeNamesSpec)

/-- ITS FALSE NEIGHBOUR: 'it returns false'. Refute it at one input. -/
def reputeNamesWrong : ChangeSpec := { name := "reputeNames", fn := fun _ => fun
  | [] => { results := [.lit (.bool false)], args := [] }
  | _ => none }
def ReputeNamesWrongFalsely : Prop := reputeNamesRow.holds Tryd.pinned (OpenSpec.ofChange reputeNamesWrong)

/-- 'hustingslaw19.ReputeEnough': WHATEVER THE INPUT: true; the input reads as it did. -/
def reputeEnoughSpec : ChangeSpec := { name := "reputeEnough", fn := fun _ => fun
  | [d1, d2, d3, d4] => { results := [.lit (.bool true)], args := [d1, d2, d3, d4] }
  | _ => none }
def reputeEnoughRow : OpenClaim := { program := "ytfbknjboceheaaadoor", sum := "dcd58f43775d9dc2af882ac7f0b38c577d6b1f752b271fe8e90859f805a2b7ea", func := "hustings/hustingslaw19.ReputeEnough", spec := "reputeEnough", named := ["hustings/repute.gains"], apart := false, laid := [("hustings/repute.gains", laid_hustings_repute_gains)] }
def ReputeEnoughSaid : Prop := reputeEnoughRow.holds Tryd.pinned (OpenSpec.ofChange reputeEnoughSpec)

/-- ITS FALSE NEIGHBOUR: 'it returns false'. Refute it at one input. -/
def reputeEnoughWrong : ChangeSpec := { name := "reputeEnough", fn := fun _ => fun
  | [d1, d2, d3, d4] => { results := [.lit (.bool false)], args := [d1, d2, d3, d4] }
  | _ => none }
def ReputeEnoughWrongFalsely : Prop := reputeEnoughRow.holds Tryd.pinned (OpenSpec.ofChange reputeEnoughWrong)

/-- 'hustingslaw19.ReputeBounds': WHATEVER THE INPUT: true; the input reads as it did. -/
def reputeBoundsSpec : ChangeSpec := { name := "reputeBounds", fn := fun _ => fun
  | [d1, d2, d3, d4, d5] => { results := [.lit (.bool true)], args := [d1, d2, d3, d4, d5] }
  | _ => none }
def reputeBoundsRow : OpenClaim := { program := "ytfbknjboceheaaadoor", sum := "dcd58f43775d9dc2af882ac7f0b38c577d6b1f752b271fe8e90859f805a2b7ea", func := "hustings/hustingslaw19.ReputeBounds", spec := "reputeBounds", named := ["hustings/repute.gains"], apart := false, laid := [("hustings/repute.gains", laid_hustings_repute_gains)] }
def ReputeBoundsSaid : Prop := reputeBoundsRow.holds Tryd.pinned (OpenSpec.ofChange reputeBoundsSpec)

/-- ITS FALSE NEIGHBOUR: 'it returns false'. Refute it at one input. -/
def reputeBoundsWrong : ChangeSpec := { name := "reputeBounds", fn := fun _ => fun
  | [d1, d2, d3, d4, d5] => { results := [.lit (.bool false)], args := [d1, d2, d3, d4, d5] }
  | _ => none }
def ReputeBoundsWrongFalsely : Prop := reputeBoundsRow.holds Tryd.pinned (OpenSpec.ofChange reputeBoundsWrong)

/-- 'hustingslaw19.ReputeRest': WHATEVER THE INPUT: true; the input reads as it did. -/
def reputeRestSpec : ChangeSpec := { name := "reputeRest", fn := fun _ => fun
  | [d1, d2, d3, d4, d5, d6, d7] => { results := [.lit (.bool true)], args := [d1, d2, d3, d4, d5, d6, d7] }
  | _ => none }
def reputeRestRow : OpenClaim := { program := "ytfbknjboceheaaadoor", sum := "dcd58f43775d9dc2af882ac7f0b38c577d6b1f752b271fe8e90859f805a2b7ea", func := "hustings/hustingslaw19.ReputeRest", spec := "reputeRest", named := ["hustings/repute.gains"], apart := false, laid := [("hustings/repute.gains", laid_hustings_repute_gains)] }
def ReputeRestSaid : Prop := reputeRestRow.holds Tryd.pinned (OpenSpec.ofChange reputeRestSpec)

/-- ITS FALSE NEIGHBOUR: 'it returns false'. Refute it at one input. -/
def reputeRestWrong : ChangeSpec := { name := "reputeRest", fn := fun _ => fun
  | [d1, d2, d3, d4, d5, d6, d7] => { results := [.lit (.bool false)], args := [d1, d2, d3, d4, d5, d6, d7] }
  | _ => none }
def ReputeRestWrongFalsely : Prop := reputeRestRow.holds Tryd.pinned (OpenSpec.ofChange reputeRestWrong)

/-- 'hustingslaw19.ReputeTrial': WHATEVER THE INPUT: true; the input reads as it did. -/
def reputeTrialSpec : ChangeSpec := { name := "reputeTrial", fn := fun _ => fun
  | [d1, d2, d3, d4] => { results := [.lit (.bool true)], args := [d1, d2, d3, d4] }
  | _ => none }
def reputeTrialRow : OpenClaim := { program := "ytfbknjboceheaaadoor", sum := "dcd58f43775d9dc2af882ac7f0b38c577d6b1f752b271fe8e90859f805a2b7ea", func := "hustings/hustingslaw19.ReputeTrial", spec := "reputeTrial", named := ["hustings/repute.gains"], apart := false, laid := [("hustings/repute.gains", laid_hustings_repute_gains)] }
def ReputeTrialSaid : Prop := reputeTrialRow.holds Tryd.pinned (OpenSpec.ofChange reputeTrialSpec)

/-- ITS FALSE NEIGHBOUR: 'it returns false'. Refute it at one input. -/
def reputeTrialWrong : ChangeSpec := { name := "reputeTrial", fn := fun _ => fun
  | [d1, d2, d3, d4] => { results := [.lit (.bool false)], args := [d1, d2, d3, d4] }
  | _ => none }
def ReputeTrialWrongFalsely : Prop := reputeTrialRow.holds Tryd.pinned (OpenSpec.ofChange reputeTrialWrong)

/-- 'hustingslaw19.ReputeApart': WHATEVER THE INPUT: true; the input reads as it did. -/
def reputeApartSpec : ChangeSpec := { name := "reputeApart", fn := fun _ => fun
  | [d1, d2, d3, d4, d5] => { results := [.lit (.bool true)], args := [d1, d2, d3, d4, d5] }
  | _ => none }
def reputeApartRow : OpenClaim := { program := "ytfbknjboceheaaadoor", sum := "dcd58f43775d9dc2af882ac7f0b38c577d6b1f752b271fe8e90859f805a2b7ea", func := "hustings/hustingslaw19.ReputeApart", spec := "reputeApart", named := ["hustings/repute.gains"], apart := false, laid := [("hustings/repute.gains", laid_hustings_repute_gains)] }
def ReputeApartSaid : Prop := reputeApartRow.holds Tryd.pinned (OpenSpec.ofChange reputeApartSpec)

/-- ITS FALSE NEIGHBOUR: 'it returns false'. Refute it at one input. -/
def reputeApartWrong : ChangeSpec := { name := "reputeApart", fn := fun _ => fun
  | [d1, d2, d3, d4, d5] => { results := [.lit (.bool false)], args := [d1, d2, d3, d4, d5] }
  | _ => none }
def ReputeApartWrongFalsely : Prop := reputeApartRow.holds Tryd.pinned (OpenSpec.ofChange reputeApartWrong)

/- THE SECOND FORM. 'bulk': how many values and letters a reading holds, each counted each time it is reached (what is shared counts as often as it is met; a slice's spare places count too). A statement '..UptoSaid' is the law's where the arguments, and the package variables that the reading takes, are together of bulk at most 1048576: NARROWER than '..Said'. Prove '..Said' where nothing that the law and all that it calls make is longer than what came in: it says more and counts as full. Else prove '..UptoSaid'. A law counts once. -/
mutual
def uptoBulk {H : Type} : DataW H → Nat
  | .lit (.string bytes) => bytes.length + 1
  | .lit _ => 1
  | .nil => 1
  | .ptr d => uptoBulk d + 1
  | .slice elems spare => uptoBulkAll elems + uptoBulkAll spare + 1
  | .agg parts => uptoBulkAll parts + 1
  | .iface _ d => uptoBulk d + 1
  | .map entries => uptoBulkEntries entries + 1
  | .held _ => 1
def uptoBulkAll {H : Type} : List (DataW H) → Nat
  | [] => 0
  | d :: r => uptoBulk d + uptoBulkAll r
def uptoBulkEntries {H : Type} : List (Lit × DataW H) → Nat
  | [] => 0
  | x :: r => uptoBulkEntry x + uptoBulkEntries r
def uptoBulkEntry {H : Type} : Lit × DataW H → Nat
  | (.string bytes, d) => bytes.length + uptoBulk d + 1
  | (_, d) => uptoBulk d + 1
 end
def uptoSmall : (H : Type) → List (DataW H) → Bool := fun _ ds => decide (uptoBulkAll ds ≤ 1048576)
def OpenSpec.upto (s : _root_.Go.ChangeSpec) : _root_.Go.OpenSpec := { _root_.Go.OpenSpec.ofChange s with cond := some uptoSmall }

/-- 'hustingslaw19.ReputeNames', WHERE WHAT IT READS IS OF BULK AT MOST 1048576: true; the input reads as it did. -/
def reputeNamesUptoRow : OpenClaim := { program := "ytfbknjboceheaaadoor", sum := "dcd58f43775d9dc2af882ac7f0b38c577d6b1f752b271fe8e90859f805a2b7ea", func := "hustings/hustingslaw19.ReputeNames", spec := "reputeNames", named := ["hustings/repute.gains"], apart := false, laid := [("hustings/repute.gains", laid_hustings_repute_gains)], narrowed := true }
def ReputeNamesUptoSaid : Prop := reputeNamesUptoRow.holds Tryd.pinned (OpenSpec.upto reputeNamesSpec)

/-- 'hustingslaw19.ReputeEnough', WHERE WHAT IT READS IS OF BULK AT MOST 1048576: true; the input reads as it did. -/
def reputeEnoughUptoRow : OpenClaim := { program := "ytfbknjboceheaaadoor", sum := "dcd58f43775d9dc2af882ac7f0b38c577d6b1f752b271fe8e90859f805a2b7ea", func := "hustings/hustingslaw19.ReputeEnough", spec := "reputeEnough", named := ["hustings/repute.gains"], apart := false, laid := [("hustings/repute.gains", laid_hustings_repute_gains)], narrowed := true }
def ReputeEnoughUptoSaid : Prop := reputeEnoughUptoRow.holds Tryd.pinned (OpenSpec.upto reputeEnoughSpec)

/-- 'hustingslaw19.ReputeBounds', WHERE WHAT IT READS IS OF BULK AT MOST 1048576: true; the input reads as it did. -/
def reputeBoundsUptoRow : OpenClaim := { program := "ytfbknjboceheaaadoor", sum := "dcd58f43775d9dc2af882ac7f0b38c577d6b1f752b271fe8e90859f805a2b7ea", func := "hustings/hustingslaw19.ReputeBounds", spec := "reputeBounds", named := ["hustings/repute.gains"], apart := false, laid := [("hustings/repute.gains", laid_hustings_repute_gains)], narrowed := true }
def ReputeBoundsUptoSaid : Prop := reputeBoundsUptoRow.holds Tryd.pinned (OpenSpec.upto reputeBoundsSpec)

/-- 'hustingslaw19.ReputeRest', WHERE WHAT IT READS IS OF BULK AT MOST 1048576: true; the input reads as it did. -/
def reputeRestUptoRow : OpenClaim := { program := "ytfbknjboceheaaadoor", sum := "dcd58f43775d9dc2af882ac7f0b38c577d6b1f752b271fe8e90859f805a2b7ea", func := "hustings/hustingslaw19.ReputeRest", spec := "reputeRest", named := ["hustings/repute.gains"], apart := false, laid := [("hustings/repute.gains", laid_hustings_repute_gains)], narrowed := true }
def ReputeRestUptoSaid : Prop := reputeRestUptoRow.holds Tryd.pinned (OpenSpec.upto reputeRestSpec)

/-- 'hustingslaw19.ReputeTrial', WHERE WHAT IT READS IS OF BULK AT MOST 1048576: true; the input reads as it did. -/
def reputeTrialUptoRow : OpenClaim := { program := "ytfbknjboceheaaadoor", sum := "dcd58f43775d9dc2af882ac7f0b38c577d6b1f752b271fe8e90859f805a2b7ea", func := "hustings/hustingslaw19.ReputeTrial", spec := "reputeTrial", named := ["hustings/repute.gains"], apart := false, laid := [("hustings/repute.gains", laid_hustings_repute_gains)], narrowed := true }
def ReputeTrialUptoSaid : Prop := reputeTrialUptoRow.holds Tryd.pinned (OpenSpec.upto reputeTrialSpec)

/-- 'hustingslaw19.ReputeApart', WHERE WHAT IT READS IS OF BULK AT MOST 1048576: true; the input reads as it did. -/
def reputeApartUptoRow : OpenClaim := { program := "ytfbknjboceheaaadoor", sum := "dcd58f43775d9dc2af882ac7f0b38c577d6b1f752b271fe8e90859f805a2b7ea", func := "hustings/hustingslaw19.ReputeApart", spec := "reputeApart", named := ["hustings/repute.gains"], apart := false, laid := [("hustings/repute.gains", laid_hustings_repute_gains)], narrowed := true }
def ReputeApartUptoSaid : Prop := reputeApartUptoRow.holds Tryd.pinned (OpenSpec.upto reputeApartSpec)

end Rows
end Go.Proofs.YtfbknjboceheaaaDoor
