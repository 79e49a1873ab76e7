/-
  No cell of these rows narrows 'for every input' (looked for: loops, veiled, ifaces, maps, wideKeys, modest, calm, conditions, laid).
  DERIVED. THE GIVEN ROWS OF THIS SEAT. 3 by the template 'for every input the law returns true; each argument reads behind the call as it read before'; 0 by the template 'total and deterministic' (their statements: YtllfojddaobpmaaTotals.lean).
  GIVEN WITH THE SEED: the statements are not yours to turn. If you find one false, say at which input.
  Laid BY PROGRAM, IN A SANDBOX (cutbox-rows.mjs): the forced cells as the released guide's own fill.sh prints them over the translation 1bd7a40b51135dd8… (all of the seat's roots in one cut). By AI agents, Wed Nov 11 2026. No macro, syntax, notation, axiom, sorry.
-/
import Derived.Test.YtllfojddaobpmaaChecked
import GoSem.Claim
import GoSem.ClaimJoined
import GoSem.ClaimMapViews
import Derived.JoinedTies
import Derived.KernelRfl
namespace Go.Proofs.Ytllfojddaobpmaa
/- THE CELL 'sum', in the pinned program and in every row, IS THE sha256 OF THE DUMP (.gsa) THAT YtllfojddaobpmaaProg.lean LOADS. Nothing in Lean hashes anything: it is a label: what it is worth is what the hold of that sum in a sandbox is worth. -/
noncomputable def Try.pinned : Pinned := { name := "ytllfojddaobpmaa", sum := "1bd7a40b51135dd81ccb1dfaefffbea19709ff169a9b1a00810f50bfa72c9b0d", checked := Try.checked }
namespace Rows
def none {H : Type} : Left H := { results := [], args := [] }

/-- 'laws.FnExactMailWord': WHATEVER THE INPUT: true; the input reads as it did. -/
def fnExactMailWordSpec : ChangeSpec := { name := "fnExactMailWord", fn := fun _ => fun
  | [d1, d2] => { results := [.lit (.bool true)], args := [d1, d2] }
  | _ => none }
def fnExactMailWordRow : OpenClaim := { program := "ytllfojddaobpmaa", sum := "1bd7a40b51135dd81ccb1dfaefffbea19709ff169a9b1a00810f50bfa72c9b0d", func := "loop.example/g00189/laws.FnExactMailWord", spec := "fnExactMailWord", apart := false }
def FnExactMailWordSaid : Prop := fnExactMailWordRow.holds Try.pinned (OpenSpec.ofChange fnExactMailWordSpec)

/-- ITS FALSE NEIGHBOUR: 'it returns false'. Refute it at one input. -/
def fnExactMailWordWrong : ChangeSpec := { name := "fnExactMailWord", fn := fun _ => fun
  | [d1, d2] => { results := [.lit (.bool false)], args := [d1, d2] }
  | _ => none }
def FnExactMailWordWrongFalsely : Prop := fnExactMailWordRow.holds Try.pinned (OpenSpec.ofChange fnExactMailWordWrong)

/-- 'laws.FnExactMailMove': WHATEVER THE INPUT: true; the input reads as it did. -/
def fnExactMailMoveSpec : ChangeSpec := { name := "fnExactMailMove", fn := fun _ => fun
  | [d] => { results := [.lit (.bool true)], args := [d] }
  | _ => none }
def fnExactMailMoveRow : OpenClaim := { program := "ytllfojddaobpmaa", sum := "1bd7a40b51135dd81ccb1dfaefffbea19709ff169a9b1a00810f50bfa72c9b0d", func := "loop.example/g00189/laws.FnExactMailMove", spec := "fnExactMailMove", apart := false }
def FnExactMailMoveSaid : Prop := fnExactMailMoveRow.holds Try.pinned (OpenSpec.ofChange fnExactMailMoveSpec)

/-- ITS FALSE NEIGHBOUR: 'it returns false'. Refute it at one input. -/
def fnExactMailMoveWrong : ChangeSpec := { name := "fnExactMailMove", fn := fun _ => fun
  | [d] => { results := [.lit (.bool false)], args := [d] }
  | _ => none }
def FnExactMailMoveWrongFalsely : Prop := fnExactMailMoveRow.holds Try.pinned (OpenSpec.ofChange fnExactMailMoveWrong)

/-- 'laws.FnExactHomeOf': WHATEVER THE INPUT: true; the input reads as it did. -/
def fnExactHomeOfSpec : ChangeSpec := { name := "fnExactHomeOf", fn := fun _ => fun
  | [d1, d2] => { results := [.lit (.bool true)], args := [d1, d2] }
  | _ => none }
def fnExactHomeOfRow : OpenClaim := { program := "ytllfojddaobpmaa", sum := "1bd7a40b51135dd81ccb1dfaefffbea19709ff169a9b1a00810f50bfa72c9b0d", func := "loop.example/g00189/laws.FnExactHomeOf", spec := "fnExactHomeOf", unfollowed := true, recurses := true, apart := false }
def FnExactHomeOfSaid : Prop := fnExactHomeOfRow.holds Try.pinned (OpenSpec.ofChange fnExactHomeOfSpec)

/-- ITS FALSE NEIGHBOUR: 'it returns false'. Refute it at one input. -/
def fnExactHomeOfWrong : ChangeSpec := { name := "fnExactHomeOf", fn := fun _ => fun
  | [d1, d2] => { results := [.lit (.bool false)], args := [d1, d2] }
  | _ => none }
def FnExactHomeOfWrongFalsely : Prop := fnExactHomeOfRow.holds Try.pinned (OpenSpec.ofChange fnExactHomeOfWrong)

/- THE SECOND FORM. 'bulk': how many values and letters a reading holds, each counted each time it is reached (what is shared counts as often as it is met; a slice's spare places count too). A statement '..UptoSaid' is the law's where the arguments, and the package variables that the reading takes, are together of bulk at most 1048576: NARROWER than '..Said'. Prove '..Said' where nothing that the law and all that it calls make is longer than what came in: it says more and counts as full. Else prove '..UptoSaid'. A law counts once. -/
mutual
def uptoBulk {H : Type} : DataW H → Nat
  | .lit (.string bytes) => bytes.length + 1
  | .lit _ => 1
  | .nil => 1
  | .ptr d => uptoBulk d + 1
  | .slice elems spare => uptoBulkAll elems + uptoBulkAll spare + 1
  | .agg parts => uptoBulkAll parts + 1
  | .iface _ d => uptoBulk d + 1
  | .map entries => uptoBulkEntries entries + 1
  | .held _ => 1
def uptoBulkAll {H : Type} : List (DataW H) → Nat
  | [] => 0
  | d :: r => uptoBulk d + uptoBulkAll r
def uptoBulkEntries {H : Type} : List (Lit × DataW H) → Nat
  | [] => 0
  | x :: r => uptoBulkEntry x + uptoBulkEntries r
def uptoBulkEntry {H : Type} : Lit × DataW H → Nat
  | (.string bytes, d) => bytes.length + uptoBulk d + 1
  | (_, d) => uptoBulk d + 1
 end
def uptoSmall : (H : Type) → List (DataW H) → Bool := fun _ ds => decide (uptoBulkAll ds ≤ 1048576)
def OpenSpec.upto (s : _root_.Go.ChangeSpec) : _root_.Go.OpenSpec := { _root_.Go.OpenSpec.ofChange s with cond := some uptoSmall }

/-- 'laws.FnExactMailWord', WHERE WHAT IT READS IS OF BULK AT MOST 1048576: true; the input reads as it did. -/
def fnExactMailWordUptoRow : OpenClaim := { program := "ytllfojddaobpmaa", sum := "1bd7a40b51135dd81ccb1dfaefffbea19709ff169a9b1a00810f50bfa72c9b0d", func := "loop.example/g00189/laws.FnExactMailWord", spec := "fnExactMailWord", apart := false, narrowed := true }
def FnExactMailWordUptoSaid : Prop := fnExactMailWordUptoRow.holds Try.pinned (OpenSpec.upto fnExactMailWordSpec)

/-- 'laws.FnExactMailMove', WHERE WHAT IT READS IS OF BULK AT MOST 1048576: true; the input reads as it did. -/
def fnExactMailMoveUptoRow : OpenClaim := { program := "ytllfojddaobpmaa", sum := "1bd7a40b51135dd81ccb1dfaefffbea19709ff169a9b1a00810f50bfa72c9b0d", func := "loop.example/g00189/laws.FnExactMailMove", spec := "fnExactMailMove", apart := false, narrowed := true }
def FnExactMailMoveUptoSaid : Prop := fnExactMailMoveUptoRow.holds Try.pinned (OpenSpec.upto fnExactMailMoveSpec)

/-- 'laws.FnExactHomeOf', WHERE WHAT IT READS IS OF BULK AT MOST 1048576: true; the input reads as it did. -/
def fnExactHomeOfUptoRow : OpenClaim := { program := "ytllfojddaobpmaa", sum := "1bd7a40b51135dd81ccb1dfaefffbea19709ff169a9b1a00810f50bfa72c9b0d", func := "loop.example/g00189/laws.FnExactHomeOf", spec := "fnExactHomeOf", unfollowed := true, recurses := true, apart := false, narrowed := true }
def FnExactHomeOfUptoSaid : Prop := fnExactHomeOfUptoRow.holds Try.pinned (OpenSpec.upto fnExactHomeOfSpec)

end Rows
end Go.Proofs.Ytllfojddaobpmaa
