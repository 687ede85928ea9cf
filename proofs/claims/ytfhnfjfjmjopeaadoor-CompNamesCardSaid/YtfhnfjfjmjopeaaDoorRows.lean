/-
  NARROWER THAN 'FOR EVERY INPUT', by the rows' own cells (each row's printed sentence says how): CompNames: laid · CompBack: laid · CompLess: laid · CompBehind: laid · CompAs: laid.
  DERIVED. THE GIVEN ROWS OF THIS SEAT. 5 by the template 'for every input the law returns true; each argument reads behind the call as it read before'; 0 by the template 'total and deterministic' (their statements: YtfhnfjfjmjopeaaDoorTotals.lean).
  GIVEN WITH THE SEED: the statements are not yours to turn. If you find one false, say at which input.
  Laid BY PROGRAM, IN A SANDBOX (cutbox-rows.mjs): the forced cells as the released guide's own fill.sh prints them over the translation 1dbb4ef145019447… (all of the seat's roots in one cut). By AI agents, Wed Nov 11 2026. No macro, syntax, notation, axiom, sorry.
-/
import Derived.Test.YtfhnfjfjmjopeaaDoorChecked
import GoSem.Claim
import GoSem.ClaimJoined
import GoSem.ClaimMapViews
import Derived.JoinedTies
import Derived.KernelRfl
namespace Go.Proofs.YtfhnfjfjmjopeaaDoor
/- THE CELL 'sum', in the pinned program and in every row, IS THE sha256 OF THE DUMP (.gsa) THAT YtfhnfjfjmjopeaaDoorProg.lean LOADS. Nothing in Lean hashes anything: it is a label: what it is worth is what the hold of that sum in a sandbox is worth. -/
noncomputable def Tryd.pinned : Pinned := { name := "ytfhnfjfjmjopeaadoor", sum := "1dbb4ef1450194470aa80e186fe42f3906d297ab27dff0dc1fe03dc204e48d9d", checked := Tryd.checked }
namespace Rows
def none {H : Type} : Left H := { results := [], args := [] }

/- WHAT THE LISTED PACKAGE-LEVEL VARIABLES READ AS WHEN THE CALL BEGINS. Each datum BY PROGRAM (the guide's laid-datum.mjs) off the statement by which the dump's own 'gosem.cut.vars' lays the variable. In a bare row this is a premise. The card (YtfhnfjfjmjopeaaDoorCards.lean) ties it to the program's text. -/
def laid_errors_errorType {H : Type} : DataW H := .iface "internal/reflectlite.rtype" (.agg [.ptr (.lit (.string [101, 114, 114, 111, 114]))])

/-- 'hustingslaw04.CompNames': WHATEVER THE INPUT: true; the input reads as it did. -/
def compNamesSpec : ChangeSpec := { name := "compNames", fn := fun _ => fun
  | [] => { results := [.lit (.bool true)], args := [] }
  | _ => none }
def compNamesRow : OpenClaim := { program := "ytfhnfjfjmjopeaadoor", sum := "1dbb4ef1450194470aa80e186fe42f3906d297ab27dff0dc1fe03dc204e48d9d", func := "hustings/hustingslaw04.CompNames", spec := "compNames", inPlace := ["internal/reflectlite.ValueOf", "(internal/reflectlite.Value).Type", "(internal/reflectlite.Value).IsNil", "internal/reflectlite.TypeOf", "(internal/reflectlite.Value).Elem", "(internal/reflectlite.Value).Set"], unfollowed := true, recurses := true, named := ["errors.errorType"], apart := false, laid := [("errors.errorType", laid_errors_errorType)] }
def CompNamesSaid : Prop := compNamesRow.holds Tryd.pinned (OpenSpec.ofChange compNamesSpec)

/-- ITS FALSE NEIGHBOUR: 'it returns false'. Refute it at one input. -/
def compNamesWrong : ChangeSpec := { name := "compNames", fn := fun _ => fun
  | [] => { results := [.lit (.bool false)], args := [] }
  | _ => none }
def CompNamesWrongFalsely : Prop := compNamesRow.holds Tryd.pinned (OpenSpec.ofChange compNamesWrong)

/-- 'hustingslaw04.CompBack': WHATEVER THE INPUT: true; the input reads as it did. -/
def compBackSpec : ChangeSpec := { name := "compBack", fn := fun _ => fun
  | [d] => { results := [.lit (.bool true)], args := [d] }
  | _ => none }
def compBackRow : OpenClaim := { program := "ytfhnfjfjmjopeaadoor", sum := "1dbb4ef1450194470aa80e186fe42f3906d297ab27dff0dc1fe03dc204e48d9d", func := "hustings/hustingslaw04.CompBack", spec := "compBack", inPlace := ["internal/reflectlite.ValueOf", "(internal/reflectlite.Value).Type", "(internal/reflectlite.Value).IsNil", "internal/reflectlite.TypeOf", "(internal/reflectlite.Value).Elem", "(internal/reflectlite.Value).Set"], unfollowed := true, recurses := true, named := ["errors.errorType"], apart := false, laid := [("errors.errorType", laid_errors_errorType)] }
def CompBackSaid : Prop := compBackRow.holds Tryd.pinned (OpenSpec.ofChange compBackSpec)

/-- ITS FALSE NEIGHBOUR: 'it returns false'. Refute it at one input. -/
def compBackWrong : ChangeSpec := { name := "compBack", fn := fun _ => fun
  | [d] => { results := [.lit (.bool false)], args := [d] }
  | _ => none }
def CompBackWrongFalsely : Prop := compBackRow.holds Tryd.pinned (OpenSpec.ofChange compBackWrong)

/-- 'hustingslaw04.CompLess': WHATEVER THE INPUT: true; the input reads as it did. -/
def compLessSpec : ChangeSpec := { name := "compLess", fn := fun _ => fun
  | [d] => { results := [.lit (.bool true)], args := [d] }
  | _ => none }
def compLessRow : OpenClaim := { program := "ytfhnfjfjmjopeaadoor", sum := "1dbb4ef1450194470aa80e186fe42f3906d297ab27dff0dc1fe03dc204e48d9d", func := "hustings/hustingslaw04.CompLess", spec := "compLess", inPlace := ["internal/reflectlite.ValueOf", "(internal/reflectlite.Value).Type", "(internal/reflectlite.Value).IsNil", "internal/reflectlite.TypeOf", "(internal/reflectlite.Value).Elem", "(internal/reflectlite.Value).Set"], unfollowed := true, recurses := true, named := ["errors.errorType"], apart := false, laid := [("errors.errorType", laid_errors_errorType)] }
def CompLessSaid : Prop := compLessRow.holds Tryd.pinned (OpenSpec.ofChange compLessSpec)

/-- ITS FALSE NEIGHBOUR: 'it returns false'. Refute it at one input. -/
def compLessWrong : ChangeSpec := { name := "compLess", fn := fun _ => fun
  | [d] => { results := [.lit (.bool false)], args := [d] }
  | _ => none }
def CompLessWrongFalsely : Prop := compLessRow.holds Tryd.pinned (OpenSpec.ofChange compLessWrong)

/-- 'hustingslaw04.CompBehind': WHATEVER THE INPUT: true; the input reads as it did. -/
def compBehindSpec : ChangeSpec := { name := "compBehind", fn := fun _ => fun
  | [d1, d2, d3, d4] => { results := [.lit (.bool true)], args := [d1, d2, d3, d4] }
  | _ => none }
def compBehindRow : OpenClaim := { program := "ytfhnfjfjmjopeaadoor", sum := "1dbb4ef1450194470aa80e186fe42f3906d297ab27dff0dc1fe03dc204e48d9d", func := "hustings/hustingslaw04.CompBehind", spec := "compBehind", inPlace := ["internal/reflectlite.ValueOf", "(internal/reflectlite.Value).Type", "(internal/reflectlite.Value).IsNil", "internal/reflectlite.TypeOf", "(internal/reflectlite.Value).Elem", "(internal/reflectlite.Value).Set"], unfollowed := true, recurses := true, named := ["errors.errorType"], apart := false, laid := [("errors.errorType", laid_errors_errorType)] }
def CompBehindSaid : Prop := compBehindRow.holds Tryd.pinned (OpenSpec.ofChange compBehindSpec)

/-- ITS FALSE NEIGHBOUR: 'it returns false'. Refute it at one input. -/
def compBehindWrong : ChangeSpec := { name := "compBehind", fn := fun _ => fun
  | [d1, d2, d3, d4] => { results := [.lit (.bool false)], args := [d1, d2, d3, d4] }
  | _ => none }
def CompBehindWrongFalsely : Prop := compBehindRow.holds Tryd.pinned (OpenSpec.ofChange compBehindWrong)

/-- 'hustingslaw04.CompAs': WHATEVER THE INPUT: true; the input reads as it did. -/
def compAsSpec : ChangeSpec := { name := "compAs", fn := fun _ => fun
  | [d1, d2, d3, d4] => { results := [.lit (.bool true)], args := [d1, d2, d3, d4] }
  | _ => none }
def compAsRow : OpenClaim := { program := "ytfhnfjfjmjopeaadoor", sum := "1dbb4ef1450194470aa80e186fe42f3906d297ab27dff0dc1fe03dc204e48d9d", func := "hustings/hustingslaw04.CompAs", spec := "compAs", inPlace := ["internal/reflectlite.ValueOf", "(internal/reflectlite.Value).Type", "(internal/reflectlite.Value).IsNil", "internal/reflectlite.TypeOf", "(internal/reflectlite.Value).Elem", "(internal/reflectlite.Value).Set"], unfollowed := true, recurses := true, named := ["errors.errorType"], apart := false, laid := [("errors.errorType", laid_errors_errorType)] }
def CompAsSaid : Prop := compAsRow.holds Tryd.pinned (OpenSpec.ofChange compAsSpec)

/-- ITS FALSE NEIGHBOUR: 'it returns false'. Refute it at one input. -/
def compAsWrong : ChangeSpec := { name := "compAs", fn := fun _ => fun
  | [d1, d2, d3, d4] => { results := [.lit (.bool false)], args := [d1, d2, d3, d4] }
  | _ => none }
def CompAsWrongFalsely : Prop := compAsRow.holds Tryd.pinned (OpenSpec.ofChange compAsWrong)

/- THE SECOND FORM. 'bulk': how many values and letters a reading holds, each counted each time it is reached (what is shared counts as often as it is met; a slice's spare places count too). A statement '..UptoSaid' is the law's where the arguments, and the package variables that the reading takes, are together of bulk at most 1048576: NARROWER than '..Said'. Prove '..Said' where nothing that the law and all that it calls make is longer than what came in: it says more and counts as full. Else prove '..UptoSaid'. A law counts once. -/
mutual
def uptoBulk {H : Type} : DataW H → Nat
  | .lit (.string bytes) => bytes.length + 1
  | .lit _ => 1
  | .nil => 1
  | .ptr d => uptoBulk d + 1
  | .slice elems spare => uptoBulkAll elems + uptoBulkAll spare + 1
  | .agg parts => uptoBulkAll parts + 1
  | .iface _ d => uptoBulk d + 1
  | .map entries => uptoBulkEntries entries + 1
  | .held _ => 1
def uptoBulkAll {H : Type} : List (DataW H) → Nat
  | [] => 0
  | d :: r => uptoBulk d + uptoBulkAll r
def uptoBulkEntries {H : Type} : List (Lit × DataW H) → Nat
  | [] => 0
  | x :: r => uptoBulkEntry x + uptoBulkEntries r
def uptoBulkEntry {H : Type} : Lit × DataW H → Nat
  | (.string bytes, d) => bytes.length + uptoBulk d + 1
  | (_, d) => uptoBulk d + 1
 end
def uptoSmall : (H : Type) → List (DataW H) → Bool := fun _ ds => decide (uptoBulkAll ds ≤ 1048576)
def OpenSpec.upto (s : _root_.Go.ChangeSpec) : _root_.Go.OpenSpec := { _root_.Go.OpenSpec.ofChange s with cond := some uptoSmall }

/-- 'hustingslaw04.CompNames', WHERE WHAT IT READS IS OF BULK AT MOST 1048576: true; the input reads as it did. -/
def compNamesUptoRow : OpenClaim := { program := "ytfhnfjfjmjopeaadoor", sum := "1dbb4ef1450194470aa80e186fe42f3906d297ab27dff0dc1fe03dc204e48d9d", func := "hustings/hustingslaw04.CompNames", spec := "compNames", inPlace := ["internal/reflectlite.ValueOf", "(internal/reflectlite.Value).Type", "(internal/reflectlite.Value).IsNil", "internal/reflectlite.TypeOf", "(internal/reflectlite.Value).Elem", "(internal/reflectlite.Value).Set"], unfollowed := true, recurses := true, named := ["errors.errorType"], apart := false, laid := [("errors.errorType", laid_errors_errorType)], narrowed := true }
def CompNamesUptoSaid : Prop := compNamesUptoRow.holds Tryd.pinned (OpenSpec.upto compNamesSpec)

/-- 'hustingslaw04.CompBack', WHERE WHAT IT READS IS OF BULK AT MOST 1048576: true; the input reads as it did. -/
def compBackUptoRow : OpenClaim := { program := "ytfhnfjfjmjopeaadoor", sum := "1dbb4ef1450194470aa80e186fe42f3906d297ab27dff0dc1fe03dc204e48d9d", func := "hustings/hustingslaw04.CompBack", spec := "compBack", inPlace := ["internal/reflectlite.ValueOf", "(internal/reflectlite.Value).Type", "(internal/reflectlite.Value).IsNil", "internal/reflectlite.TypeOf", "(internal/reflectlite.Value).Elem", "(internal/reflectlite.Value).Set"], unfollowed := true, recurses := true, named := ["errors.errorType"], apart := false, laid := [("errors.errorType", laid_errors_errorType)], narrowed := true }
def CompBackUptoSaid : Prop := compBackUptoRow.holds Tryd.pinned (OpenSpec.upto compBackSpec)

/-- 'hustingslaw04.CompLess', WHERE WHAT IT READS IS OF BULK AT MOST 1048576: true; the input reads as it did. -/
def compLessUptoRow : OpenClaim := { program := "ytfhnfjfjmjopeaadoor", sum := "1dbb4ef1450194470aa80e186fe42f3906d297ab27dff0dc1fe03dc204e48d9d", func := "hustings/hustingslaw04.CompLess", spec := "compLess", inPlace := ["internal/reflectlite.ValueOf", "(internal/reflectlite.Value).Type", "(internal/reflectlite.Value).IsNil", "internal/reflectlite.TypeOf", "(internal/reflectlite.Value).Elem", "(internal/reflectlite.Value).Set"], unfollowed := true, recurses := true, named := ["errors.errorType"], apart := false, laid := [("errors.errorType", laid_errors_errorType)], narrowed := true }
def CompLessUptoSaid : Prop := compLessUptoRow.holds Tryd.pinned (OpenSpec.upto compLessSpec)

/-- 'hustingslaw04.CompBehind', WHERE WHAT IT READS IS OF BULK AT MOST 1048576: true; the input reads as it did. -/
def compBehindUptoRow : OpenClaim := { program := "ytfhnfjfjmjopeaadoor", sum := "1dbb4ef1450194470aa80e186fe42f3906d297ab27dff0dc1fe03dc204e48d9d", func := "hustings/hustingslaw04.CompBehind", spec := "compBehind", inPlace := ["internal/reflectlite.ValueOf", "(internal/reflectlite.Value).Type", "(internal/reflectlite.Value).IsNil", "internal/reflectlite.TypeOf", "(internal/reflectlite.Value).Elem", "(internal/reflectlite.Value).Set"], unfollowed := true, recurses := true, named := ["errors.errorType"], apart := false, laid := [("errors.errorType", laid_errors_errorType)], narrowed := true }
def CompBehindUptoSaid : Prop := compBehindUptoRow.holds Tryd.pinned (OpenSpec.upto compBehindSpec)

/-- 'hustingslaw04.CompAs', WHERE WHAT IT READS IS OF BULK AT MOST 1048576: true; the input reads as it did. -/
def compAsUptoRow : OpenClaim := { program := "ytfhnfjfjmjopeaadoor", sum := "1dbb4ef1450194470aa80e186fe42f3906d297ab27dff0dc1fe03dc204e48d9d", func := "hustings/hustingslaw04.CompAs", spec := "compAs", inPlace := ["internal/reflectlite.ValueOf", "(internal/reflectlite.Value).Type", "(internal/reflectlite.Value).IsNil", "internal/reflectlite.TypeOf", "(internal/reflectlite.Value).Elem", "(internal/reflectlite.Value).Set"], unfollowed := true, recurses := true, named := ["errors.errorType"], apart := false, laid := [("errors.errorType", laid_errors_errorType)], narrowed := true }
def CompAsUptoSaid : Prop := compAsUptoRow.holds Tryd.pinned (OpenSpec.upto compAsSpec)

end Rows
end Go.Proofs.YtfhnfjfjmjopeaaDoor
