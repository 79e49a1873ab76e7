/-
  NARROWER THAN 'FOR EVERY INPUT', by the rows' own cells (each row's printed sentence says how): FnExactJudgeOrder: laid · FnExactJudgeOnce: laid · FnExactJudgeQueue: laid · FnExactJudgeAll: laid · FnExactPrints: laid · FnExactWhereIs: laid.
  DERIVED. THE GIVEN ROWS OF THIS SEAT. 6 by the template 'for every input the law returns true; each argument reads behind the call as it read before'; 0 by the template 'total and deterministic' (their statements: YtfmafkebddojjaaGreatDoorTotals.lean).
  GIVEN WITH THE SEED: the statements are not yours to turn. If you find one false, say at which input.
  Laid BY PROGRAM, IN A SANDBOX (cutbox-rows.mjs): the forced cells as the released guide's own fill.sh prints them over the translation a537f9b41e46bfaf… (all of the seat's roots in one cut). By AI agents, Wed Nov 11 2026. No macro, syntax, notation, axiom, sorry.
-/
import Derived.Test.YtfmafkebddojjaaGreatDoorChecked
import GoSem.Claim
import GoSem.ClaimJoined
import GoSem.ClaimMapViews
import Derived.JoinedTies
import Derived.KernelRfl
namespace Go.Proofs.YtfmafkebddojjaaGreatDoor
/- THE CELL 'sum', in the pinned program and in every row, IS THE sha256 OF THE DUMP (.gsa) THAT YtfmafkebddojjaaGreatDoorProg.lean LOADS. Nothing in Lean hashes anything: it is a label: what it is worth is what the hold of that sum in a sandbox is worth. -/
noncomputable def Tryz.pinned : Pinned := { name := "ytfmafkebddojjaagreatdoor", sum := "a537f9b41e46bfafb85da1bbb421d6175cb28e06004e9e2c9d282f9d443bf549", checked := Tryz.checked }
namespace Rows
def none {H : Type} : Left H := { results := [], args := [] }

/- WHAT THE LISTED PACKAGE-LEVEL VARIABLES READ AS WHEN THE CALL BEGINS. Each datum BY PROGRAM (the guide's laid-datum.mjs) off the statement by which the dump's own 'gosem.cut.vars' lays the variable. In a bare row this is a premise. The card (YtfmafkebddojjaaGreatDoorCards.lean) ties it to the program's text. -/
def laid_errors_errorType {H : Type} : DataW H := .iface "internal/reflectlite.rtype" (.agg [.ptr (.lit (.string [101, 114, 114, 111, 114]))])

/-- 'laws.FnExactJudgeOrder': WHATEVER THE INPUT: true; the input reads as it did. -/
def fnExactJudgeOrderSpec : ChangeSpec := { name := "fnExactJudgeOrder", fn := fun _ => fun
  | [d] => { results := [.lit (.bool true)], args := [d] }
  | _ => none }
def fnExactJudgeOrderRow : OpenClaim := { program := "ytfmafkebddojjaagreatdoor", sum := "a537f9b41e46bfafb85da1bbb421d6175cb28e06004e9e2c9d282f9d443bf549", func := "loop.example/g00189/laws.FnExactJudgeOrder", spec := "fnExactJudgeOrder", inPlace := ["internal/reflectlite.ValueOf", "(internal/reflectlite.Value).Type", "(internal/reflectlite.Value).IsNil", "internal/reflectlite.TypeOf", "(internal/reflectlite.Value).Elem", "(internal/reflectlite.Value).Set"], unfollowed := true, recurses := true, named := ["errors.errorType"], apart := false, laid := [("errors.errorType", laid_errors_errorType)] }
def FnExactJudgeOrderSaid : Prop := fnExactJudgeOrderRow.holds Tryz.pinned (OpenSpec.ofChange fnExactJudgeOrderSpec)

/-- ITS FALSE NEIGHBOUR: 'it returns false'. Refute it at one input. -/
def fnExactJudgeOrderWrong : ChangeSpec := { name := "fnExactJudgeOrder", fn := fun _ => fun
  | [d] => { results := [.lit (.bool false)], args := [d] }
  | _ => none }
def FnExactJudgeOrderWrongFalsely : Prop := fnExactJudgeOrderRow.holds Tryz.pinned (OpenSpec.ofChange fnExactJudgeOrderWrong)

/-- 'laws.FnExactJudgeOnce': WHATEVER THE INPUT: true; the input reads as it did. -/
def fnExactJudgeOnceSpec : ChangeSpec := { name := "fnExactJudgeOnce", fn := fun _ => fun
  | [d] => { results := [.lit (.bool true)], args := [d] }
  | _ => none }
def fnExactJudgeOnceRow : OpenClaim := { program := "ytfmafkebddojjaagreatdoor", sum := "a537f9b41e46bfafb85da1bbb421d6175cb28e06004e9e2c9d282f9d443bf549", func := "loop.example/g00189/laws.FnExactJudgeOnce", spec := "fnExactJudgeOnce", inPlace := ["internal/reflectlite.ValueOf", "(internal/reflectlite.Value).Type", "(internal/reflectlite.Value).IsNil", "internal/reflectlite.TypeOf", "(internal/reflectlite.Value).Elem", "(internal/reflectlite.Value).Set"], unfollowed := true, recurses := true, named := ["errors.errorType"], apart := false, laid := [("errors.errorType", laid_errors_errorType)] }
def FnExactJudgeOnceSaid : Prop := fnExactJudgeOnceRow.holds Tryz.pinned (OpenSpec.ofChange fnExactJudgeOnceSpec)

/-- ITS FALSE NEIGHBOUR: 'it returns false'. Refute it at one input. -/
def fnExactJudgeOnceWrong : ChangeSpec := { name := "fnExactJudgeOnce", fn := fun _ => fun
  | [d] => { results := [.lit (.bool false)], args := [d] }
  | _ => none }
def FnExactJudgeOnceWrongFalsely : Prop := fnExactJudgeOnceRow.holds Tryz.pinned (OpenSpec.ofChange fnExactJudgeOnceWrong)

/-- 'laws.FnExactJudgeQueue': WHATEVER THE INPUT: true; the input reads as it did. -/
def fnExactJudgeQueueSpec : ChangeSpec := { name := "fnExactJudgeQueue", fn := fun _ => fun
  | [d] => { results := [.lit (.bool true)], args := [d] }
  | _ => none }
def fnExactJudgeQueueRow : OpenClaim := { program := "ytfmafkebddojjaagreatdoor", sum := "a537f9b41e46bfafb85da1bbb421d6175cb28e06004e9e2c9d282f9d443bf549", func := "loop.example/g00189/laws.FnExactJudgeQueue", spec := "fnExactJudgeQueue", inPlace := ["internal/reflectlite.ValueOf", "(internal/reflectlite.Value).Type", "(internal/reflectlite.Value).IsNil", "internal/reflectlite.TypeOf", "(internal/reflectlite.Value).Elem", "(internal/reflectlite.Value).Set"], unfollowed := true, recurses := true, named := ["errors.errorType"], apart := false, laid := [("errors.errorType", laid_errors_errorType)] }
def FnExactJudgeQueueSaid : Prop := fnExactJudgeQueueRow.holds Tryz.pinned (OpenSpec.ofChange fnExactJudgeQueueSpec)

/-- ITS FALSE NEIGHBOUR: 'it returns false'. Refute it at one input. -/
def fnExactJudgeQueueWrong : ChangeSpec := { name := "fnExactJudgeQueue", fn := fun _ => fun
  | [d] => { results := [.lit (.bool false)], args := [d] }
  | _ => none }
def FnExactJudgeQueueWrongFalsely : Prop := fnExactJudgeQueueRow.holds Tryz.pinned (OpenSpec.ofChange fnExactJudgeQueueWrong)

/-- 'laws.FnExactJudgeAll': WHATEVER THE INPUT: true; the input reads as it did. -/
def fnExactJudgeAllSpec : ChangeSpec := { name := "fnExactJudgeAll", fn := fun _ => fun
  | [d] => { results := [.lit (.bool true)], args := [d] }
  | _ => none }
def fnExactJudgeAllRow : OpenClaim := { program := "ytfmafkebddojjaagreatdoor", sum := "a537f9b41e46bfafb85da1bbb421d6175cb28e06004e9e2c9d282f9d443bf549", func := "loop.example/g00189/laws.FnExactJudgeAll", spec := "fnExactJudgeAll", inPlace := ["internal/reflectlite.ValueOf", "(internal/reflectlite.Value).Type", "(internal/reflectlite.Value).IsNil", "internal/reflectlite.TypeOf", "(internal/reflectlite.Value).Elem", "(internal/reflectlite.Value).Set"], unfollowed := true, recurses := true, named := ["errors.errorType"], apart := false, laid := [("errors.errorType", laid_errors_errorType)] }
def FnExactJudgeAllSaid : Prop := fnExactJudgeAllRow.holds Tryz.pinned (OpenSpec.ofChange fnExactJudgeAllSpec)

/-- ITS FALSE NEIGHBOUR: 'it returns false'. Refute it at one input. -/
def fnExactJudgeAllWrong : ChangeSpec := { name := "fnExactJudgeAll", fn := fun _ => fun
  | [d] => { results := [.lit (.bool false)], args := [d] }
  | _ => none }
def FnExactJudgeAllWrongFalsely : Prop := fnExactJudgeAllRow.holds Tryz.pinned (OpenSpec.ofChange fnExactJudgeAllWrong)

/-- 'laws.FnExactPrints': WHATEVER THE INPUT: true; the input reads as it did. -/
def fnExactPrintsSpec : ChangeSpec := { name := "fnExactPrints", fn := fun _ => fun
  | [d1, d2] => { results := [.lit (.bool true)], args := [d1, d2] }
  | _ => none }
def fnExactPrintsRow : OpenClaim := { program := "ytfmafkebddojjaagreatdoor", sum := "a537f9b41e46bfafb85da1bbb421d6175cb28e06004e9e2c9d282f9d443bf549", func := "loop.example/g00189/laws.FnExactPrints", spec := "fnExactPrints", inPlace := ["internal/reflectlite.ValueOf", "(internal/reflectlite.Value).Type", "(internal/reflectlite.Value).IsNil", "internal/reflectlite.TypeOf", "(internal/reflectlite.Value).Elem", "(internal/reflectlite.Value).Set"], unfollowed := true, recurses := true, named := ["errors.errorType"], apart := false, laid := [("errors.errorType", laid_errors_errorType)] }
def FnExactPrintsSaid : Prop := fnExactPrintsRow.holds Tryz.pinned (OpenSpec.ofChange fnExactPrintsSpec)

/-- ITS FALSE NEIGHBOUR: 'it returns false'. Refute it at one input. -/
def fnExactPrintsWrong : ChangeSpec := { name := "fnExactPrints", fn := fun _ => fun
  | [d1, d2] => { results := [.lit (.bool false)], args := [d1, d2] }
  | _ => none }
def FnExactPrintsWrongFalsely : Prop := fnExactPrintsRow.holds Tryz.pinned (OpenSpec.ofChange fnExactPrintsWrong)

/-- 'laws.FnExactWhereIs': WHATEVER THE INPUT: true; the input reads as it did. -/
def fnExactWhereIsSpec : ChangeSpec := { name := "fnExactWhereIs", fn := fun _ => fun
  | [d1, d2] => { results := [.lit (.bool true)], args := [d1, d2] }
  | _ => none }
def fnExactWhereIsRow : OpenClaim := { program := "ytfmafkebddojjaagreatdoor", sum := "a537f9b41e46bfafb85da1bbb421d6175cb28e06004e9e2c9d282f9d443bf549", func := "loop.example/g00189/laws.FnExactWhereIs", spec := "fnExactWhereIs", inPlace := ["internal/reflectlite.ValueOf", "(internal/reflectlite.Value).Type", "(internal/reflectlite.Value).IsNil", "internal/reflectlite.TypeOf", "(internal/reflectlite.Value).Elem", "(internal/reflectlite.Value).Set"], unfollowed := true, recurses := true, named := ["errors.errorType"], apart := false, laid := [("errors.errorType", laid_errors_errorType)] }
def FnExactWhereIsSaid : Prop := fnExactWhereIsRow.holds Tryz.pinned (OpenSpec.ofChange fnExactWhereIsSpec)

/-- ITS FALSE NEIGHBOUR: 'it returns false'. Refute it at one input. -/
def fnExactWhereIsWrong : ChangeSpec := { name := "fnExactWhereIs", fn := fun _ => fun
  | [d1, d2] => { results := [.lit (.bool false)], args := [d1, d2] }
  | _ => none }
def FnExactWhereIsWrongFalsely : Prop := fnExactWhereIsRow.holds Tryz.pinned (OpenSpec.ofChange fnExactWhereIsWrong)

/- THE SECOND FORM. 'bulk': how many values and letters a reading holds, each counted each time it is reached (what is shared counts as often as it is met; a slice's spare places count too). A statement '..UptoSaid' is the law's where the arguments, and the package variables that the reading takes, are together of bulk at most 1048576: NARROWER than '..Said'. Prove '..Said' where nothing that the law and all that it calls make is longer than what came in: it says more and counts as full. Else prove '..UptoSaid'. A law counts once. -/
mutual
def uptoBulk {H : Type} : DataW H → Nat
  | .lit (.string bytes) => bytes.length + 1
  | .lit _ => 1
  | .nil => 1
  | .ptr d => uptoBulk d + 1
  | .slice elems spare => uptoBulkAll elems + uptoBulkAll spare + 1
  | .agg parts => uptoBulkAll parts + 1
  | .iface _ d => uptoBulk d + 1
  | .map entries => uptoBulkEntries entries + 1
  | .held _ => 1
def uptoBulkAll {H : Type} : List (DataW H) → Nat
  | [] => 0
  | d :: r => uptoBulk d + uptoBulkAll r
def uptoBulkEntries {H : Type} : List (Lit × DataW H) → Nat
  | [] => 0
  | x :: r => uptoBulkEntry x + uptoBulkEntries r
def uptoBulkEntry {H : Type} : Lit × DataW H → Nat
  | (.string bytes, d) => bytes.length + uptoBulk d + 1
  | (_, d) => uptoBulk d + 1
 end
def uptoSmall : (H : Type) → List (DataW H) → Bool := fun _ ds => decide (uptoBulkAll ds ≤ 1048576)
def OpenSpec.upto (s : _root_.Go.ChangeSpec) : _root_.Go.OpenSpec := { _root_.Go.OpenSpec.ofChange s with cond := some uptoSmall }

/-- 'laws.FnExactJudgeOrder', WHERE WHAT IT READS IS OF BULK AT MOST 1048576: true; the input reads as it did. -/
def fnExactJudgeOrderUptoRow : OpenClaim := { program := "ytfmafkebddojjaagreatdoor", sum := "a537f9b41e46bfafb85da1bbb421d6175cb28e06004e9e2c9d282f9d443bf549", func := "loop.example/g00189/laws.FnExactJudgeOrder", spec := "fnExactJudgeOrder", inPlace := ["internal/reflectlite.ValueOf", "(internal/reflectlite.Value).Type", "(internal/reflectlite.Value).IsNil", "internal/reflectlite.TypeOf", "(internal/reflectlite.Value).Elem", "(internal/reflectlite.Value).Set"], unfollowed := true, recurses := true, named := ["errors.errorType"], apart := false, laid := [("errors.errorType", laid_errors_errorType)], narrowed := true }
def FnExactJudgeOrderUptoSaid : Prop := fnExactJudgeOrderUptoRow.holds Tryz.pinned (OpenSpec.upto fnExactJudgeOrderSpec)

/-- 'laws.FnExactJudgeOnce', WHERE WHAT IT READS IS OF BULK AT MOST 1048576: true; the input reads as it did. -/
def fnExactJudgeOnceUptoRow : OpenClaim := { program := "ytfmafkebddojjaagreatdoor", sum := "a537f9b41e46bfafb85da1bbb421d6175cb28e06004e9e2c9d282f9d443bf549", func := "loop.example/g00189/laws.FnExactJudgeOnce", spec := "fnExactJudgeOnce", inPlace := ["internal/reflectlite.ValueOf", "(internal/reflectlite.Value).Type", "(internal/reflectlite.Value).IsNil", "internal/reflectlite.TypeOf", "(internal/reflectlite.Value).Elem", "(internal/reflectlite.Value).Set"], unfollowed := true, recurses := true, named := ["errors.errorType"], apart := false, laid := [("errors.errorType", laid_errors_errorType)], narrowed := true }
def FnExactJudgeOnceUptoSaid : Prop := fnExactJudgeOnceUptoRow.holds Tryz.pinned (OpenSpec.upto fnExactJudgeOnceSpec)

/-- 'laws.FnExactJudgeQueue', WHERE WHAT IT READS IS OF BULK AT MOST 1048576: true; the input reads as it did. -/
def fnExactJudgeQueueUptoRow : OpenClaim := { program := "ytfmafkebddojjaagreatdoor", sum := "a537f9b41e46bfafb85da1bbb421d6175cb28e06004e9e2c9d282f9d443bf549", func := "loop.example/g00189/laws.FnExactJudgeQueue", spec := "fnExactJudgeQueue", inPlace := ["internal/reflectlite.ValueOf", "(internal/reflectlite.Value).Type", "(internal/reflectlite.Value).IsNil", "internal/reflectlite.TypeOf", "(internal/reflectlite.Value).Elem", "(internal/reflectlite.Value).Set"], unfollowed := true, recurses := true, named := ["errors.errorType"], apart := false, laid := [("errors.errorType", laid_errors_errorType)], narrowed := true }
def FnExactJudgeQueueUptoSaid : Prop := fnExactJudgeQueueUptoRow.holds Tryz.pinned (OpenSpec.upto fnExactJudgeQueueSpec)

/-- 'laws.FnExactJudgeAll', WHERE WHAT IT READS IS OF BULK AT MOST 1048576: true; the input reads as it did. -/
def fnExactJudgeAllUptoRow : OpenClaim := { program := "ytfmafkebddojjaagreatdoor", sum := "a537f9b41e46bfafb85da1bbb421d6175cb28e06004e9e2c9d282f9d443bf549", func := "loop.example/g00189/laws.FnExactJudgeAll", spec := "fnExactJudgeAll", inPlace := ["internal/reflectlite.ValueOf", "(internal/reflectlite.Value).Type", "(internal/reflectlite.Value).IsNil", "internal/reflectlite.TypeOf", "(internal/reflectlite.Value).Elem", "(internal/reflectlite.Value).Set"], unfollowed := true, recurses := true, named := ["errors.errorType"], apart := false, laid := [("errors.errorType", laid_errors_errorType)], narrowed := true }
def FnExactJudgeAllUptoSaid : Prop := fnExactJudgeAllUptoRow.holds Tryz.pinned (OpenSpec.upto fnExactJudgeAllSpec)

/-- 'laws.FnExactPrints', WHERE WHAT IT READS IS OF BULK AT MOST 1048576: true; the input reads as it did. -/
def fnExactPrintsUptoRow : OpenClaim := { program := "ytfmafkebddojjaagreatdoor", sum := "a537f9b41e46bfafb85da1bbb421d6175cb28e06004e9e2c9d282f9d443bf549", func := "loop.example/g00189/laws.FnExactPrints", spec := "fnExactPrints", inPlace := ["internal/reflectlite.ValueOf", "(internal/reflectlite.Value).Type", "(internal/reflectlite.Value).IsNil", "internal/reflectlite.TypeOf", "(internal/reflectlite.Value).Elem", "(internal/reflectlite.Value).Set"], unfollowed := true, recurses := true, named := ["errors.errorType"], apart := false, laid := [("errors.errorType", laid_errors_errorType)], narrowed := true }
def FnExactPrintsUptoSaid : Prop := fnExactPrintsUptoRow.holds Tryz.pinned (OpenSpec.upto fnExactPrintsSpec)

/-- 'laws.FnExactWhereIs', WHERE WHAT IT READS IS OF BULK AT MOST 1048576: true; the input reads as it did. -/
def fnExactWhereIsUptoRow : OpenClaim := { program := "ytfmafkebddojjaagreatdoor", sum := "a537f9b41e46bfafb85da1bbb421d6175cb28e06004e9e2c9d282f9d443bf549", func := "loop.example/g00189/laws.FnExactWhereIs", spec := "fnExactWhereIs", inPlace := ["internal/reflectlite.ValueOf", "(internal/reflectlite.Value).Type", "(internal/reflectlite.Value).IsNil", "internal/reflectlite.TypeOf", "(internal/reflectlite.Value).Elem", "(internal/reflectlite.Value).Set"], unfollowed := true, recurses := true, named := ["errors.errorType"], apart := false, laid := [("errors.errorType", laid_errors_errorType)], narrowed := true }
def FnExactWhereIsUptoSaid : Prop := fnExactWhereIsUptoRow.holds Tryz.pinned (OpenSpec.upto fnExactWhereIsSpec)

end Rows
end Go.Proofs.YtfmafkebddojjaaGreatDoor
