/-
  NARROWER THAN 'FOR EVERY INPUT', by the rows' own cells (each row's printed sentence says how): OrderTells: laid · OrderNames: laid · OrderEach: laid · OrderAlike: laid · OrderAgain: laid.
  DERIVED. THE GIVEN ROWS OF THIS SEAT. 5 by the template 'for every input the law returns true; each argument reads behind the call as it read before'; 0 by the template 'total and deterministic' (their statements: YtdcogjlcbdkdcaaDoorTotals.lean).
  GIVEN WITH THE SEED: the statements are not yours to turn. If you find one false, say at which input.
  Laid BY PROGRAM, IN A SANDBOX (cutbox-rows.mjs): the forced cells as the released guide's own fill.sh prints them over the translation 0537cdff54943146… (all of the seat's roots in one cut). By AI agents, Wed Nov 11 2026. No macro, syntax, notation, axiom, sorry.
-/
import Derived.Test.YtdcogjlcbdkdcaaDoorChecked
import GoSem.Claim
import GoSem.ClaimJoined
import GoSem.ClaimMapViews
import Derived.JoinedTies
import Derived.KernelRfl
namespace Go.Proofs.YtdcogjlcbdkdcaaDoor
/- THE CELL 'sum', in the pinned program and in every row, IS THE sha256 OF THE DUMP (.gsa) THAT YtdcogjlcbdkdcaaDoorProg.lean LOADS. Nothing in Lean hashes anything: it is a label: what it is worth is what the hold of that sum in a sandbox is worth. -/
noncomputable def Tryd.pinned : Pinned := { name := "ytdcogjlcbdkdcaadoor", sum := "0537cdff54943146b391e70e634065be6a86a60ef3ec3ec8b89c61eb21328844", checked := Tryd.checked }
namespace Rows
def none {H : Type} : Left H := { results := [], args := [] }

/- WHAT THE LISTED PACKAGE-LEVEL VARIABLES READ AS WHEN THE CALL BEGINS. Each datum BY PROGRAM (the guide's laid-datum.mjs) off the statement by which the dump's own 'gosem.cut.vars' lays the variable. In a bare row this is a premise. The card (YtdcogjlcbdkdcaaDoorCards.lean) ties it to the program's text. -/
def laid_hustings_repute_gains {H : Type} : DataW H := .agg [.lit (.int .i64 1), .lit (.int .i64 (-10)), .lit (.int .i64 (-2))]

/-- 'hustingslaw20.OrderTells': WHATEVER THE INPUT: true; the input reads as it did. -/
def orderTellsSpec : ChangeSpec := { name := "orderTells", fn := fun _ => fun
  | [d] => { results := [.lit (.bool true)], args := [d] }
  | _ => none }
def orderTellsRow : OpenClaim := { program := "ytdcogjlcbdkdcaadoor", sum := "0537cdff54943146b391e70e634065be6a86a60ef3ec3ec8b89c61eb21328844", func := "hustings/hustingslaw20.OrderTells", spec := "orderTells", unfollowed := true, recurses := true, named := ["hustings/repute.gains"], apart := false, laid := [("hustings/repute.gains", laid_hustings_repute_gains)] }
def OrderTellsSaid : Prop := orderTellsRow.holds Tryd.pinned (OpenSpec.ofChange orderTellsSpec)

/-- ITS FALSE NEIGHBOUR: 'it returns false'. Refute it at one input. -/
def orderTellsWrong : ChangeSpec := { name := "orderTells", fn := fun _ => fun
  | [d] => { results := [.lit (.bool false)], args := [d] }
  | _ => none }
def OrderTellsWrongFalsely : Prop := orderTellsRow.holds Tryd.pinned (OpenSpec.ofChange orderTellsWrong)

/-- 'hustingslaw20.OrderNames': WHATEVER THE INPUT: true; the input reads as it did. -/
def orderNamesSpec : ChangeSpec := { name := "orderNames", fn := fun _ => fun
  | [] => { results := [.lit (.bool true)], args := [] }
  | _ => none }
def orderNamesRow : OpenClaim := { program := "ytdcogjlcbdkdcaadoor", sum := "0537cdff54943146b391e70e634065be6a86a60ef3ec3ec8b89c61eb21328844", func := "hustings/hustingslaw20.OrderNames", spec := "orderNames", unfollowed := true, recurses := true, named := ["hustings/repute.gains"], apart := false, laid := [("hustings/repute.gains", laid_hustings_repute_gains)] }
def OrderNamesSaid : Prop := orderNamesRow.holds Tryd.pinned (OpenSpec.ofChange orderNamesSpec)

/-- ITS FALSE NEIGHBOUR: 'it returns false'. Refute it at one input. -/
def orderNamesWrong : ChangeSpec := { name := "orderNames", fn := fun _ => fun
  | [] => { results := [.lit (.bool false)], args := [] }
  | _ => none }
def OrderNamesWrongFalsely : Prop := orderNamesRow.holds Tryd.pinned (OpenSpec.ofChange orderNamesWrong)

/-- 'hustingslaw20.OrderEach': WHATEVER THE INPUT: true; the input reads as it did. -/
def orderEachSpec : ChangeSpec := { name := "orderEach", fn := fun _ => fun
  | [d] => { results := [.lit (.bool true)], args := [d] }
  | _ => none }
def orderEachRow : OpenClaim := { program := "ytdcogjlcbdkdcaadoor", sum := "0537cdff54943146b391e70e634065be6a86a60ef3ec3ec8b89c61eb21328844", func := "hustings/hustingslaw20.OrderEach", spec := "orderEach", unfollowed := true, recurses := true, named := ["hustings/repute.gains"], apart := false, laid := [("hustings/repute.gains", laid_hustings_repute_gains)] }
def OrderEachSaid : Prop := orderEachRow.holds Tryd.pinned (OpenSpec.ofChange orderEachSpec)

/-- ITS FALSE NEIGHBOUR: 'it returns false'. Refute it at one input. -/
def orderEachWrong : ChangeSpec := { name := "orderEach", fn := fun _ => fun
  | [d] => { results := [.lit (.bool false)], args := [d] }
  | _ => none }
def OrderEachWrongFalsely : Prop := orderEachRow.holds Tryd.pinned (OpenSpec.ofChange orderEachWrong)

/-- 'hustingslaw20.OrderAlike': WHATEVER THE INPUT: true; the input reads as it did. -/
def orderAlikeSpec : ChangeSpec := { name := "orderAlike", fn := fun _ => fun
  | [d1, d2] => { results := [.lit (.bool true)], args := [d1, d2] }
  | _ => none }
def orderAlikeRow : OpenClaim := { program := "ytdcogjlcbdkdcaadoor", sum := "0537cdff54943146b391e70e634065be6a86a60ef3ec3ec8b89c61eb21328844", func := "hustings/hustingslaw20.OrderAlike", spec := "orderAlike", unfollowed := true, recurses := true, named := ["hustings/repute.gains"], apart := false, laid := [("hustings/repute.gains", laid_hustings_repute_gains)] }
def OrderAlikeSaid : Prop := orderAlikeRow.holds Tryd.pinned (OpenSpec.ofChange orderAlikeSpec)

/-- ITS FALSE NEIGHBOUR: 'it returns false'. Refute it at one input. -/
def orderAlikeWrong : ChangeSpec := { name := "orderAlike", fn := fun _ => fun
  | [d1, d2] => { results := [.lit (.bool false)], args := [d1, d2] }
  | _ => none }
def OrderAlikeWrongFalsely : Prop := orderAlikeRow.holds Tryd.pinned (OpenSpec.ofChange orderAlikeWrong)

/-- 'hustingslaw20.OrderAgain': WHATEVER THE INPUT: true; the input reads as it did. -/
def orderAgainSpec : ChangeSpec := { name := "orderAgain", fn := fun _ => fun
  | [d] => { results := [.lit (.bool true)], args := [d] }
  | _ => none }
def orderAgainRow : OpenClaim := { program := "ytdcogjlcbdkdcaadoor", sum := "0537cdff54943146b391e70e634065be6a86a60ef3ec3ec8b89c61eb21328844", func := "hustings/hustingslaw20.OrderAgain", spec := "orderAgain", unfollowed := true, recurses := true, named := ["hustings/repute.gains"], apart := false, laid := [("hustings/repute.gains", laid_hustings_repute_gains)] }
def OrderAgainSaid : Prop := orderAgainRow.holds Tryd.pinned (OpenSpec.ofChange orderAgainSpec)

/-- ITS FALSE NEIGHBOUR: 'it returns false'. Refute it at one input. -/
def orderAgainWrong : ChangeSpec := { name := "orderAgain", fn := fun _ => fun
  | [d] => { results := [.lit (.bool false)], args := [d] }
  | _ => none }
def OrderAgainWrongFalsely : Prop := orderAgainRow.holds Tryd.pinned (OpenSpec.ofChange orderAgainWrong)

/- THE SECOND FORM. 'bulk': how many values and letters a reading holds, each counted each time it is reached (what is shared counts as often as it is met; a slice's spare places count too). A statement '..UptoSaid' is the law's where the arguments, and the package variables that the reading takes, are together of bulk at most 1048576: NARROWER than '..Said'. Prove '..Said' where nothing that the law and all that it calls make is longer than what came in: it says more and counts as full. Else prove '..UptoSaid'. A law counts once. -/
mutual
def uptoBulk {H : Type} : DataW H → Nat
  | .lit (.string bytes) => bytes.length + 1
  | .lit _ => 1
  | .nil => 1
  | .ptr d => uptoBulk d + 1
  | .slice elems spare => uptoBulkAll elems + uptoBulkAll spare + 1
  | .agg parts => uptoBulkAll parts + 1
  | .iface _ d => uptoBulk d + 1
  | .map entries => uptoBulkEntries entries + 1
  | .held _ => 1
def uptoBulkAll {H : Type} : List (DataW H) → Nat
  | [] => 0
  | d :: r => uptoBulk d + uptoBulkAll r
def uptoBulkEntries {H : Type} : List (Lit × DataW H) → Nat
  | [] => 0
  | x :: r => uptoBulkEntry x + uptoBulkEntries r
def uptoBulkEntry {H : Type} : Lit × DataW H → Nat
  | (.string bytes, d) => bytes.length + uptoBulk d + 1
  | (_, d) => uptoBulk d + 1
 end
def uptoSmall : (H : Type) → List (DataW H) → Bool := fun _ ds => decide (uptoBulkAll ds ≤ 1048576)
def OpenSpec.upto (s : _root_.Go.ChangeSpec) : _root_.Go.OpenSpec := { _root_.Go.OpenSpec.ofChange s with cond := some uptoSmall }

/-- 'hustingslaw20.OrderTells', WHERE WHAT IT READS IS OF BULK AT MOST 1048576: true; the input reads as it did. -/
def orderTellsUptoRow : OpenClaim := { program := "ytdcogjlcbdkdcaadoor", sum := "0537cdff54943146b391e70e634065be6a86a60ef3ec3ec8b89c61eb21328844", func := "hustings/hustingslaw20.OrderTells", spec := "orderTells", unfollowed := true, recurses := true, named := ["hustings/repute.gains"], apart := false, laid := [("hustings/repute.gains", laid_hustings_repute_gains)], narrowed := true }
def OrderTellsUptoSaid : Prop := orderTellsUptoRow.holds Tryd.pinned (OpenSpec.upto orderTellsSpec)

/-- 'hustingslaw20.OrderNames', WHERE WHAT IT READS IS OF BULK AT MOST 1048576: true; the input reads as it did. -/
def orderNamesUptoRow : OpenClaim := { program := "ytdcogjlcbdkdcaadoor", sum := "0537cdff54943146b391e70e634065be6a86a60ef3ec3ec8b89c61eb21328844", func := "hustings/hustingslaw20.OrderNames", spec := "orderNames", unfollowed := true, recurses := true, named := ["hustings/repute.gains"], apart := false, laid := [("hustings/repute.gains", laid_hustings_repute_gains)], narrowed := true }
def OrderNamesUptoSaid : Prop := orderNamesUptoRow.holds Tryd.pinned (OpenSpec.upto orderNamesSpec)

/-- 'hustingslaw20.OrderEach', WHERE WHAT IT READS IS OF BULK AT MOST 1048576: true; the input reads as it did. -/
def orderEachUptoRow : OpenClaim := { program := "ytdcogjlcbdkdcaadoor", sum := "0537cdff54943146b391e70e634065be6a86a60ef3ec3ec8b89c61eb21328844", func := "hustings/hustingslaw20.OrderEach", spec := "orderEach", unfollowed := true, recurses := true, named := ["hustings/repute.gains"], apart := false, laid := [("hustings/repute.gains", laid_hustings_repute_gains)], narrowed := true }
def OrderEachUptoSaid : Prop := orderEachUptoRow.holds Tryd.pinned (OpenSpec.upto orderEachSpec)

/-- 'hustingslaw20.OrderAlike', WHERE WHAT IT READS IS OF BULK AT MOST 1048576: true; the input reads as it did. -/
def orderAlikeUptoRow : OpenClaim := { program := "ytdcogjlcbdkdcaadoor", sum := "0537cdff54943146b391e70e634065be6a86a60ef3ec3ec8b89c61eb21328844", func := "hustings/hustingslaw20.OrderAlike", spec := "orderAlike", unfollowed := true, recurses := true, named := ["hustings/repute.gains"], apart := false, laid := [("hustings/repute.gains", laid_hustings_repute_gains)], narrowed := true }
def OrderAlikeUptoSaid : Prop := orderAlikeUptoRow.holds Tryd.pinned (OpenSpec.upto orderAlikeSpec)

/-- 'hustingslaw20.OrderAgain', WHERE WHAT IT READS IS OF BULK AT MOST 1048576: true; the input reads as it did. -/
def orderAgainUptoRow : OpenClaim := { program := "ytdcogjlcbdkdcaadoor", sum := "0537cdff54943146b391e70e634065be6a86a60ef3ec3ec8b89c61eb21328844", func := "hustings/hustingslaw20.OrderAgain", spec := "orderAgain", unfollowed := true, recurses := true, named := ["hustings/repute.gains"], apart := false, laid := [("hustings/repute.gains", laid_hustings_repute_gains)], narrowed := true }
def OrderAgainUptoSaid : Prop := orderAgainUptoRow.holds Tryd.pinned (OpenSpec.upto orderAgainSpec)

end Rows
end Go.Proofs.YtdcogjlcbdkdcaaDoor
