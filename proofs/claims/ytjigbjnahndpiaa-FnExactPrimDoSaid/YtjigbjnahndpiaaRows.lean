/-
  No cell of these rows narrows 'for every input' (looked for: loops, veiled, ifaces, maps, wideKeys, modest, calm, conditions, laid).
  DERIVED. THE GIVEN ROWS OF THIS SEAT. 4 by the template 'for every input the law returns true; each argument reads behind the call as it read before'; 0 by the template 'total and deterministic' (their statements: YtjigbjnahndpiaaTotals.lean).
  GIVEN WITH THE SEED: the statements are not yours to turn. If you find one false, say at which input.
  Laid BY PROGRAM, IN A SANDBOX (cutbox-rows.mjs): the forced cells as the released guide's own fill.sh prints them over the translation 6bba680cf6d10af4… (all of the seat's roots in one cut). By AI agents, Wed Nov 11 2026. No macro, syntax, notation, axiom, sorry.
-/
import Derived.Test.YtjigbjnahndpiaaChecked
import GoSem.Claim
import GoSem.ClaimJoined
import GoSem.ClaimMapViews
import Derived.JoinedTies
import Derived.KernelRfl
namespace Go.Proofs.Ytjigbjnahndpiaa
/- THE CELL 'sum', in the pinned program and in every row, IS THE sha256 OF THE DUMP (.gsa) THAT YtjigbjnahndpiaaProg.lean LOADS. Nothing in Lean hashes anything: it is a label: what it is worth is what the hold of that sum in a sandbox is worth. -/
noncomputable def Try.pinned : Pinned := { name := "ytjigbjnahndpiaa", sum := "6bba680cf6d10af41a4ee3e3933f6459afd898e20de0518f7fa09f485df3be8b", checked := Try.checked }
namespace Rows
def none {H : Type} : Left H := { results := [], args := [] }

/-- 'laws.FnPrims': WHATEVER THE INPUT: true; the input reads as it did. -/
def fnPrimsSpec : ChangeSpec := { name := "fnPrims", fn := fun _ => fun
  | [d] => { results := [.lit (.bool true)], args := [d] }
  | _ => none }
def fnPrimsRow : OpenClaim := { program := "ytjigbjnahndpiaa", sum := "6bba680cf6d10af41a4ee3e3933f6459afd898e20de0518f7fa09f485df3be8b", func := "loop.example/g00189/laws.FnPrims", spec := "fnPrims", plainKeys := false, apart := false }
def FnPrimsSaid : Prop := fnPrimsRow.holds Try.pinned (OpenSpec.ofChange fnPrimsSpec)

/-- ITS FALSE NEIGHBOUR: 'it returns false'. Refute it at one input. -/
def fnPrimsWrong : ChangeSpec := { name := "fnPrims", fn := fun _ => fun
  | [d] => { results := [.lit (.bool false)], args := [d] }
  | _ => none }
def FnPrimsWrongFalsely : Prop := fnPrimsRow.holds Try.pinned (OpenSpec.ofChange fnPrimsWrong)

/-- 'laws.FnExactPrimOf': WHATEVER THE INPUT: true; the input reads as it did. -/
def fnExactPrimOfSpec : ChangeSpec := { name := "fnExactPrimOf", fn := fun _ => fun
  | [d] => { results := [.lit (.bool true)], args := [d] }
  | _ => none }
def fnExactPrimOfRow : OpenClaim := { program := "ytjigbjnahndpiaa", sum := "6bba680cf6d10af41a4ee3e3933f6459afd898e20de0518f7fa09f485df3be8b", func := "loop.example/g00189/laws.FnExactPrimOf", spec := "fnExactPrimOf", plainKeys := false, apart := false }
def FnExactPrimOfSaid : Prop := fnExactPrimOfRow.holds Try.pinned (OpenSpec.ofChange fnExactPrimOfSpec)

/-- ITS FALSE NEIGHBOUR: 'it returns false'. Refute it at one input. -/
def fnExactPrimOfWrong : ChangeSpec := { name := "fnExactPrimOf", fn := fun _ => fun
  | [d] => { results := [.lit (.bool false)], args := [d] }
  | _ => none }
def FnExactPrimOfWrongFalsely : Prop := fnExactPrimOfRow.holds Try.pinned (OpenSpec.ofChange fnExactPrimOfWrong)

/-- 'laws.FnExactPrimArgs': WHATEVER THE INPUT: true; the input reads as it did. -/
def fnExactPrimArgsSpec : ChangeSpec := { name := "fnExactPrimArgs", fn := fun _ => fun
  | [d] => { results := [.lit (.bool true)], args := [d] }
  | _ => none }
def fnExactPrimArgsRow : OpenClaim := { program := "ytjigbjnahndpiaa", sum := "6bba680cf6d10af41a4ee3e3933f6459afd898e20de0518f7fa09f485df3be8b", func := "loop.example/g00189/laws.FnExactPrimArgs", spec := "fnExactPrimArgs", plainKeys := false, apart := false }
def FnExactPrimArgsSaid : Prop := fnExactPrimArgsRow.holds Try.pinned (OpenSpec.ofChange fnExactPrimArgsSpec)

/-- ITS FALSE NEIGHBOUR: 'it returns false'. Refute it at one input. -/
def fnExactPrimArgsWrong : ChangeSpec := { name := "fnExactPrimArgs", fn := fun _ => fun
  | [d] => { results := [.lit (.bool false)], args := [d] }
  | _ => none }
def FnExactPrimArgsWrongFalsely : Prop := fnExactPrimArgsRow.holds Try.pinned (OpenSpec.ofChange fnExactPrimArgsWrong)

/-- 'laws.FnExactPrimDo': WHATEVER THE INPUT: true; the input reads as it did. -/
def fnExactPrimDoSpec : ChangeSpec := { name := "fnExactPrimDo", fn := fun _ => fun
  | [d1, d2, d3] => { results := [.lit (.bool true)], args := [d1, d2, d3] }
  | _ => none }
def fnExactPrimDoRow : OpenClaim := { program := "ytjigbjnahndpiaa", sum := "6bba680cf6d10af41a4ee3e3933f6459afd898e20de0518f7fa09f485df3be8b", func := "loop.example/g00189/laws.FnExactPrimDo", spec := "fnExactPrimDo", plainKeys := false, apart := false }
def FnExactPrimDoSaid : Prop := fnExactPrimDoRow.holds Try.pinned (OpenSpec.ofChange fnExactPrimDoSpec)

/-- ITS FALSE NEIGHBOUR: 'it returns false'. Refute it at one input. -/
def fnExactPrimDoWrong : ChangeSpec := { name := "fnExactPrimDo", fn := fun _ => fun
  | [d1, d2, d3] => { results := [.lit (.bool false)], args := [d1, d2, d3] }
  | _ => none }
def FnExactPrimDoWrongFalsely : Prop := fnExactPrimDoRow.holds Try.pinned (OpenSpec.ofChange fnExactPrimDoWrong)

/- THE SECOND FORM. 'bulk': how many values and letters a reading holds, each counted each time it is reached (what is shared counts as often as it is met; a slice's spare places count too). A statement '..UptoSaid' is the law's where the arguments, and the package variables that the reading takes, are together of bulk at most 1048576: NARROWER than '..Said'. Prove '..Said' where nothing that the law and all that it calls make is longer than what came in: it says more and counts as full. Else prove '..UptoSaid'. A law counts once. -/
mutual
def uptoBulk {H : Type} : DataW H → Nat
  | .lit (.string bytes) => bytes.length + 1
  | .lit _ => 1
  | .nil => 1
  | .ptr d => uptoBulk d + 1
  | .slice elems spare => uptoBulkAll elems + uptoBulkAll spare + 1
  | .agg parts => uptoBulkAll parts + 1
  | .iface _ d => uptoBulk d + 1
  | .map entries => uptoBulkEntries entries + 1
  | .held _ => 1
def uptoBulkAll {H : Type} : List (DataW H) → Nat
  | [] => 0
  | d :: r => uptoBulk d + uptoBulkAll r
def uptoBulkEntries {H : Type} : List (Lit × DataW H) → Nat
  | [] => 0
  | x :: r => uptoBulkEntry x + uptoBulkEntries r
def uptoBulkEntry {H : Type} : Lit × DataW H → Nat
  | (.string bytes, d) => bytes.length + uptoBulk d + 1
  | (_, d) => uptoBulk d + 1
 end
def uptoSmall : (H : Type) → List (DataW H) → Bool := fun _ ds => decide (uptoBulkAll ds ≤ 1048576)
def OpenSpec.upto (s : _root_.Go.ChangeSpec) : _root_.Go.OpenSpec := { _root_.Go.OpenSpec.ofChange s with cond := some uptoSmall }

/-- 'laws.FnPrims', WHERE WHAT IT READS IS OF BULK AT MOST 1048576: true; the input reads as it did. -/
def fnPrimsUptoRow : OpenClaim := { program := "ytjigbjnahndpiaa", sum := "6bba680cf6d10af41a4ee3e3933f6459afd898e20de0518f7fa09f485df3be8b", func := "loop.example/g00189/laws.FnPrims", spec := "fnPrims", plainKeys := false, apart := false, narrowed := true }
def FnPrimsUptoSaid : Prop := fnPrimsUptoRow.holds Try.pinned (OpenSpec.upto fnPrimsSpec)

/-- 'laws.FnExactPrimOf', WHERE WHAT IT READS IS OF BULK AT MOST 1048576: true; the input reads as it did. -/
def fnExactPrimOfUptoRow : OpenClaim := { program := "ytjigbjnahndpiaa", sum := "6bba680cf6d10af41a4ee3e3933f6459afd898e20de0518f7fa09f485df3be8b", func := "loop.example/g00189/laws.FnExactPrimOf", spec := "fnExactPrimOf", plainKeys := false, apart := false, narrowed := true }
def FnExactPrimOfUptoSaid : Prop := fnExactPrimOfUptoRow.holds Try.pinned (OpenSpec.upto fnExactPrimOfSpec)

/-- 'laws.FnExactPrimArgs', WHERE WHAT IT READS IS OF BULK AT MOST 1048576: true; the input reads as it did. -/
def fnExactPrimArgsUptoRow : OpenClaim := { program := "ytjigbjnahndpiaa", sum := "6bba680cf6d10af41a4ee3e3933f6459afd898e20de0518f7fa09f485df3be8b", func := "loop.example/g00189/laws.FnExactPrimArgs", spec := "fnExactPrimArgs", plainKeys := false, apart := false, narrowed := true }
def FnExactPrimArgsUptoSaid : Prop := fnExactPrimArgsUptoRow.holds Try.pinned (OpenSpec.upto fnExactPrimArgsSpec)

/-- 'laws.FnExactPrimDo', WHERE WHAT IT READS IS OF BULK AT MOST 1048576: true; the input reads as it did. -/
def fnExactPrimDoUptoRow : OpenClaim := { program := "ytjigbjnahndpiaa", sum := "6bba680cf6d10af41a4ee3e3933f6459afd898e20de0518f7fa09f485df3be8b", func := "loop.example/g00189/laws.FnExactPrimDo", spec := "fnExactPrimDo", plainKeys := false, apart := false, narrowed := true }
def FnExactPrimDoUptoSaid : Prop := fnExactPrimDoUptoRow.holds Try.pinned (OpenSpec.upto fnExactPrimDoSpec)

end Rows
end Go.Proofs.Ytjigbjnahndpiaa
