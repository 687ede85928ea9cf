/-
  NARROWER THAN 'FOR EVERY INPUT', by the rows' own cells (each row's printed sentence says how): EdnsWrites: laid · EdnsNames: laid · EdnsBack: laid · EdnsBehind: laid · EdnsCodes: laid · EdnsParts: laid.
  DERIVED. THE GIVEN ROWS OF THIS SEAT. 6 by the template 'for every input the law returns true; each argument reads behind the call as it read before'; 0 by the template 'total and deterministic' (their statements: YtbapnlgddekakaaDoorTotals.lean).
  GIVEN WITH THE SEED: the statements are not yours to turn. If you find one false, say at which input.
  Laid BY PROGRAM, IN A SANDBOX (cutbox-rows.mjs): the forced cells as the released guide's own fill.sh prints them over the translation bfbd53cb47eb7483… (all of the seat's roots in one cut). By AI agents, Wed Nov 11 2026. No macro, syntax, notation, axiom, sorry.
-/
import Derived.Test.YtbapnlgddekakaaDoorChecked
import GoSem.Claim
import GoSem.ClaimJoined
import GoSem.ClaimMapViews
import Derived.JoinedTies
import Derived.KernelRfl
namespace Go.Proofs.YtbapnlgddekakaaDoor
/- THE CELL 'sum', in the pinned program and in every row, IS THE sha256 OF THE DUMP (.gsa) THAT YtbapnlgddekakaaDoorProg.lean LOADS. Nothing in Lean hashes anything: it is a label: what it is worth is what the hold of that sum in a sandbox is worth. -/
noncomputable def Tryd.pinned : Pinned := { name := "ytbapnlgddekakaadoor", sum := "bfbd53cb47eb74835f4e3fde6f23bb5cf687dc86ef8a7e0f1f803bba00368cc4", checked := Tryd.checked }
namespace Rows
def none {H : Type} : Left H := { results := [], args := [] }

/- WHAT THE LISTED PACKAGE-LEVEL VARIABLES READ AS WHEN THE CALL BEGINS. Each datum BY PROGRAM (the guide's laid-datum.mjs) off the statement by which the dump's own 'gosem.cut.vars' lays the variable. In a bare row this is a premise. The card (YtbapnlgddekakaaDoorCards.lean) ties it to the program's text. -/
def laid_errors_errorType {H : Type} : DataW H := .iface "internal/reflectlite.rtype" (.agg [.ptr (.lit (.string [101, 114, 114, 111, 114]))])

/-- 'hustingslaw06.EdnsWrites': WHATEVER THE INPUT: true; the input reads as it did. -/
def ednsWritesSpec : ChangeSpec := { name := "ednsWrites", fn := fun _ => fun
  | [d1, d2, d3, d4, d5] => { results := [.lit (.bool true)], args := [d1, d2, d3, d4, d5] }
  | _ => none }
def ednsWritesRow : OpenClaim := { program := "ytbapnlgddekakaadoor", sum := "bfbd53cb47eb74835f4e3fde6f23bb5cf687dc86ef8a7e0f1f803bba00368cc4", func := "hustings/hustingslaw06.EdnsWrites", spec := "ednsWrites", inPlace := ["internal/reflectlite.ValueOf", "(internal/reflectlite.Value).Type", "(internal/reflectlite.Value).IsNil", "internal/reflectlite.TypeOf", "(internal/reflectlite.Value).Elem", "(internal/reflectlite.Value).Set"], unfollowed := true, recurses := true, named := ["errors.errorType"], apart := false, laid := [("errors.errorType", laid_errors_errorType)] }
def EdnsWritesSaid : Prop := ednsWritesRow.holds Tryd.pinned (OpenSpec.ofChange ednsWritesSpec)

/-- ITS FALSE NEIGHBOUR: 'it returns false'. Refute it at one input. -/
def ednsWritesWrong : ChangeSpec := { name := "ednsWrites", fn := fun _ => fun
  | [d1, d2, d3, d4, d5] => { results := [.lit (.bool false)], args := [d1, d2, d3, d4, d5] }
  | _ => none }
def EdnsWritesWrongFalsely : Prop := ednsWritesRow.holds Tryd.pinned (OpenSpec.ofChange ednsWritesWrong)

/-- 'hustingslaw06.EdnsNames': WHATEVER THE INPUT: true; the input reads as it did. -/
def ednsNamesSpec : ChangeSpec := { name := "ednsNames", fn := fun _ => fun
  | [] => { results := [.lit (.bool true)], args := [] }
  | _ => none }
def ednsNamesRow : OpenClaim := { program := "ytbapnlgddekakaadoor", sum := "bfbd53cb47eb74835f4e3fde6f23bb5cf687dc86ef8a7e0f1f803bba00368cc4", func := "hustings/hustingslaw06.EdnsNames", spec := "ednsNames", inPlace := ["internal/reflectlite.ValueOf", "(internal/reflectlite.Value).Type", "(internal/reflectlite.Value).IsNil", "internal/reflectlite.TypeOf", "(internal/reflectlite.Value).Elem", "(internal/reflectlite.Value).Set"], unfollowed := true, recurses := true, named := ["errors.errorType"], apart := false, laid := [("errors.errorType", laid_errors_errorType)] }
def EdnsNamesSaid : Prop := ednsNamesRow.holds Tryd.pinned (OpenSpec.ofChange ednsNamesSpec)

/-- ITS FALSE NEIGHBOUR: 'it returns false'. Refute it at one input. -/
def ednsNamesWrong : ChangeSpec := { name := "ednsNames", fn := fun _ => fun
  | [] => { results := [.lit (.bool false)], args := [] }
  | _ => none }
def EdnsNamesWrongFalsely : Prop := ednsNamesRow.holds Tryd.pinned (OpenSpec.ofChange ednsNamesWrong)

/-- 'hustingslaw06.EdnsBack': WHATEVER THE INPUT: true; the input reads as it did. -/
def ednsBackSpec : ChangeSpec := { name := "ednsBack", fn := fun _ => fun
  | [d1, d2, d3, d4] => { results := [.lit (.bool true)], args := [d1, d2, d3, d4] }
  | _ => none }
def ednsBackRow : OpenClaim := { program := "ytbapnlgddekakaadoor", sum := "bfbd53cb47eb74835f4e3fde6f23bb5cf687dc86ef8a7e0f1f803bba00368cc4", func := "hustings/hustingslaw06.EdnsBack", spec := "ednsBack", inPlace := ["internal/reflectlite.ValueOf", "(internal/reflectlite.Value).Type", "(internal/reflectlite.Value).IsNil", "internal/reflectlite.TypeOf", "(internal/reflectlite.Value).Elem", "(internal/reflectlite.Value).Set"], unfollowed := true, recurses := true, named := ["errors.errorType"], apart := false, laid := [("errors.errorType", laid_errors_errorType)] }
def EdnsBackSaid : Prop := ednsBackRow.holds Tryd.pinned (OpenSpec.ofChange ednsBackSpec)

/-- ITS FALSE NEIGHBOUR: 'it returns false'. Refute it at one input. -/
def ednsBackWrong : ChangeSpec := { name := "ednsBack", fn := fun _ => fun
  | [d1, d2, d3, d4] => { results := [.lit (.bool false)], args := [d1, d2, d3, d4] }
  | _ => none }
def EdnsBackWrongFalsely : Prop := ednsBackRow.holds Tryd.pinned (OpenSpec.ofChange ednsBackWrong)

/-- 'hustingslaw06.EdnsBehind': WHATEVER THE INPUT: true; the input reads as it did. -/
def ednsBehindSpec : ChangeSpec := { name := "ednsBehind", fn := fun _ => fun
  | [d1, d2, d3] => { results := [.lit (.bool true)], args := [d1, d2, d3] }
  | _ => none }
def ednsBehindRow : OpenClaim := { program := "ytbapnlgddekakaadoor", sum := "bfbd53cb47eb74835f4e3fde6f23bb5cf687dc86ef8a7e0f1f803bba00368cc4", func := "hustings/hustingslaw06.EdnsBehind", spec := "ednsBehind", inPlace := ["internal/reflectlite.ValueOf", "(internal/reflectlite.Value).Type", "(internal/reflectlite.Value).IsNil", "internal/reflectlite.TypeOf", "(internal/reflectlite.Value).Elem", "(internal/reflectlite.Value).Set"], unfollowed := true, recurses := true, named := ["errors.errorType"], apart := false, laid := [("errors.errorType", laid_errors_errorType)] }
def EdnsBehindSaid : Prop := ednsBehindRow.holds Tryd.pinned (OpenSpec.ofChange ednsBehindSpec)

/-- ITS FALSE NEIGHBOUR: 'it returns false'. Refute it at one input. -/
def ednsBehindWrong : ChangeSpec := { name := "ednsBehind", fn := fun _ => fun
  | [d1, d2, d3] => { results := [.lit (.bool false)], args := [d1, d2, d3] }
  | _ => none }
def EdnsBehindWrongFalsely : Prop := ednsBehindRow.holds Tryd.pinned (OpenSpec.ofChange ednsBehindWrong)

/-- 'hustingslaw06.EdnsCodes': WHATEVER THE INPUT: true; the input reads as it did. -/
def ednsCodesSpec : ChangeSpec := { name := "ednsCodes", fn := fun _ => fun
  | [d1, d2, d3] => { results := [.lit (.bool true)], args := [d1, d2, d3] }
  | _ => none }
def ednsCodesRow : OpenClaim := { program := "ytbapnlgddekakaadoor", sum := "bfbd53cb47eb74835f4e3fde6f23bb5cf687dc86ef8a7e0f1f803bba00368cc4", func := "hustings/hustingslaw06.EdnsCodes", spec := "ednsCodes", inPlace := ["internal/reflectlite.ValueOf", "(internal/reflectlite.Value).Type", "(internal/reflectlite.Value).IsNil", "internal/reflectlite.TypeOf", "(internal/reflectlite.Value).Elem", "(internal/reflectlite.Value).Set"], unfollowed := true, recurses := true, named := ["errors.errorType"], apart := false, laid := [("errors.errorType", laid_errors_errorType)] }
def EdnsCodesSaid : Prop := ednsCodesRow.holds Tryd.pinned (OpenSpec.ofChange ednsCodesSpec)

/-- ITS FALSE NEIGHBOUR: 'it returns false'. Refute it at one input. -/
def ednsCodesWrong : ChangeSpec := { name := "ednsCodes", fn := fun _ => fun
  | [d1, d2, d3] => { results := [.lit (.bool false)], args := [d1, d2, d3] }
  | _ => none }
def EdnsCodesWrongFalsely : Prop := ednsCodesRow.holds Tryd.pinned (OpenSpec.ofChange ednsCodesWrong)

/-- 'hustingslaw06.EdnsParts': WHATEVER THE INPUT: true; the input reads as it did. -/
def ednsPartsSpec : ChangeSpec := { name := "ednsParts", fn := fun _ => fun
  | [d1, d2, d3, d4, d5] => { results := [.lit (.bool true)], args := [d1, d2, d3, d4, d5] }
  | _ => none }
def ednsPartsRow : OpenClaim := { program := "ytbapnlgddekakaadoor", sum := "bfbd53cb47eb74835f4e3fde6f23bb5cf687dc86ef8a7e0f1f803bba00368cc4", func := "hustings/hustingslaw06.EdnsParts", spec := "ednsParts", inPlace := ["internal/reflectlite.ValueOf", "(internal/reflectlite.Value).Type", "(internal/reflectlite.Value).IsNil", "internal/reflectlite.TypeOf", "(internal/reflectlite.Value).Elem", "(internal/reflectlite.Value).Set"], unfollowed := true, recurses := true, named := ["errors.errorType"], apart := false, laid := [("errors.errorType", laid_errors_errorType)] }
def EdnsPartsSaid : Prop := ednsPartsRow.holds Tryd.pinned (OpenSpec.ofChange ednsPartsSpec)

/-- ITS FALSE NEIGHBOUR: 'it returns false'. Refute it at one input. -/
def ednsPartsWrong : ChangeSpec := { name := "ednsParts", fn := fun _ => fun
  | [d1, d2, d3, d4, d5] => { results := [.lit (.bool false)], args := [d1, d2, d3, d4, d5] }
  | _ => none }
def EdnsPartsWrongFalsely : Prop := ednsPartsRow.holds Tryd.pinned (OpenSpec.ofChange ednsPartsWrong)

/- THE SECOND FORM. 'bulk': how many values and letters a reading holds, each counted each time it is reached (what is shared counts as often as it is met; a slice's spare places count too). A statement '..UptoSaid' is the law's where the arguments, and the package variables that the reading takes, are together of bulk at most 1048576: NARROWER than '..Said'. Prove '..Said' where nothing that the law and all that it calls make is longer than what came in: it says more and counts as full. Else prove '..UptoSaid'. A law counts once. -/
mutual
def uptoBulk {H : Type} : DataW H → Nat
  | .lit (.string bytes) => bytes.length + 1
  | .lit _ => 1
  | .nil => 1
  | .ptr d => uptoBulk d + 1
  | .slice elems spare => uptoBulkAll elems + uptoBulkAll spare + 1
  | .agg parts => uptoBulkAll parts + 1
  | .iface _ d => uptoBulk d + 1
  | .map entries => uptoBulkEntries entries + 1
  | .held _ => 1
def uptoBulkAll {H : Type} : List (DataW H) → Nat
  | [] => 0
  | d :: r => uptoBulk d + uptoBulkAll r
def uptoBulkEntries {H : Type} : List (Lit × DataW H) → Nat
  | [] => 0
  | x :: r => uptoBulkEntry x + uptoBulkEntries r
def uptoBulkEntry {H : Type} : Lit × DataW H → Nat
  | (.string bytes, d) => bytes.length + uptoBulk d + 1
  | (_, d) => uptoBulk d + 1
 end
def uptoSmall : (H : Type) → List (DataW H) → Bool := fun _ ds => decide (uptoBulkAll ds ≤ 1048576)
def OpenSpec.upto (s : _root_.Go.ChangeSpec) : _root_.Go.OpenSpec := { _root_.Go.OpenSpec.ofChange s with cond := some uptoSmall }

/-- 'hustingslaw06.EdnsWrites', WHERE WHAT IT READS IS OF BULK AT MOST 1048576: true; the input reads as it did. -/
def ednsWritesUptoRow : OpenClaim := { program := "ytbapnlgddekakaadoor", sum := "bfbd53cb47eb74835f4e3fde6f23bb5cf687dc86ef8a7e0f1f803bba00368cc4", func := "hustings/hustingslaw06.EdnsWrites", spec := "ednsWrites", inPlace := ["internal/reflectlite.ValueOf", "(internal/reflectlite.Value).Type", "(internal/reflectlite.Value).IsNil", "internal/reflectlite.TypeOf", "(internal/reflectlite.Value).Elem", "(internal/reflectlite.Value).Set"], unfollowed := true, recurses := true, named := ["errors.errorType"], apart := false, laid := [("errors.errorType", laid_errors_errorType)], narrowed := true }
def EdnsWritesUptoSaid : Prop := ednsWritesUptoRow.holds Tryd.pinned (OpenSpec.upto ednsWritesSpec)

/-- 'hustingslaw06.EdnsNames', WHERE WHAT IT READS IS OF BULK AT MOST 1048576: true; the input reads as it did. -/
def ednsNamesUptoRow : OpenClaim := { program := "ytbapnlgddekakaadoor", sum := "bfbd53cb47eb74835f4e3fde6f23bb5cf687dc86ef8a7e0f1f803bba00368cc4", func := "hustings/hustingslaw06.EdnsNames", spec := "ednsNames", inPlace := ["internal/reflectlite.ValueOf", "(internal/reflectlite.Value).Type", "(internal/reflectlite.Value).IsNil", "internal/reflectlite.TypeOf", "(internal/reflectlite.Value).Elem", "(internal/reflectlite.Value).Set"], unfollowed := true, recurses := true, named := ["errors.errorType"], apart := false, laid := [("errors.errorType", laid_errors_errorType)], narrowed := true }
def EdnsNamesUptoSaid : Prop := ednsNamesUptoRow.holds Tryd.pinned (OpenSpec.upto ednsNamesSpec)

/-- 'hustingslaw06.EdnsBack', WHERE WHAT IT READS IS OF BULK AT MOST 1048576: true; the input reads as it did. -/
def ednsBackUptoRow : OpenClaim := { program := "ytbapnlgddekakaadoor", sum := "bfbd53cb47eb74835f4e3fde6f23bb5cf687dc86ef8a7e0f1f803bba00368cc4", func := "hustings/hustingslaw06.EdnsBack", spec := "ednsBack", inPlace := ["internal/reflectlite.ValueOf", "(internal/reflectlite.Value).Type", "(internal/reflectlite.Value).IsNil", "internal/reflectlite.TypeOf", "(internal/reflectlite.Value).Elem", "(internal/reflectlite.Value).Set"], unfollowed := true, recurses := true, named := ["errors.errorType"], apart := false, laid := [("errors.errorType", laid_errors_errorType)], narrowed := true }
def EdnsBackUptoSaid : Prop := ednsBackUptoRow.holds Tryd.pinned (OpenSpec.upto ednsBackSpec)

/-- 'hustingslaw06.EdnsBehind', WHERE WHAT IT READS IS OF BULK AT MOST 1048576: true; the input reads as it did. -/
def ednsBehindUptoRow : OpenClaim := { program := "ytbapnlgddekakaadoor", sum := "bfbd53cb47eb74835f4e3fde6f23bb5cf687dc86ef8a7e0f1f803bba00368cc4", func := "hustings/hustingslaw06.EdnsBehind", spec := "ednsBehind", inPlace := ["internal/reflectlite.ValueOf", "(internal/reflectlite.Value).Type", "(internal/reflectlite.Value).IsNil", "internal/reflectlite.TypeOf", "(internal/reflectlite.Value).Elem", "(internal/reflectlite.Value).Set"], unfollowed := true, recurses := true, named := ["errors.errorType"], apart := false, laid := [("errors.errorType", laid_errors_errorType)], narrowed := true }
def EdnsBehindUptoSaid : Prop := ednsBehindUptoRow.holds Tryd.pinned (OpenSpec.upto ednsBehindSpec)

/-- 'hustingslaw06.EdnsCodes', WHERE WHAT IT READS IS OF BULK AT MOST 1048576: true; the input reads as it did. -/
def ednsCodesUptoRow : OpenClaim := { program := "ytbapnlgddekakaadoor", sum := "bfbd53cb47eb74835f4e3fde6f23bb5cf687dc86ef8a7e0f1f803bba00368cc4", func := "hustings/hustingslaw06.EdnsCodes", spec := "ednsCodes", inPlace := ["internal/reflectlite.ValueOf", "(internal/reflectlite.Value).Type", "(internal/reflectlite.Value).IsNil", "internal/reflectlite.TypeOf", "(internal/reflectlite.Value).Elem", "(internal/reflectlite.Value).Set"], unfollowed := true, recurses := true, named := ["errors.errorType"], apart := false, laid := [("errors.errorType", laid_errors_errorType)], narrowed := true }
def EdnsCodesUptoSaid : Prop := ednsCodesUptoRow.holds Tryd.pinned (OpenSpec.upto ednsCodesSpec)

/-- 'hustingslaw06.EdnsParts', WHERE WHAT IT READS IS OF BULK AT MOST 1048576: true; the input reads as it did. -/
def ednsPartsUptoRow : OpenClaim := { program := "ytbapnlgddekakaadoor", sum := "bfbd53cb47eb74835f4e3fde6f23bb5cf687dc86ef8a7e0f1f803bba00368cc4", func := "hustings/hustingslaw06.EdnsParts", spec := "ednsParts", inPlace := ["internal/reflectlite.ValueOf", "(internal/reflectlite.Value).Type", "(internal/reflectlite.Value).IsNil", "internal/reflectlite.TypeOf", "(internal/reflectlite.Value).Elem", "(internal/reflectlite.Value).Set"], unfollowed := true, recurses := true, named := ["errors.errorType"], apart := false, laid := [("errors.errorType", laid_errors_errorType)], narrowed := true }
def EdnsPartsUptoSaid : Prop := ednsPartsUptoRow.holds Tryd.pinned (OpenSpec.upto ednsPartsSpec)

end Rows
end Go.Proofs.YtbapnlgddekakaaDoor
