/-
  Marks told cell by cell: what a row holds where so many of its cells are marked, and the exact contracts of markInstrS, heldInstrS, markDefS, heldDefS, markCode, heldCode. No condition.
-/
import Derived.Test.YtkchakcebdenjaaGreatPrRegM
import Derived.Test.YtkchakcebdenjaaGreatStore2M
namespace Go.Proofs.YtkchakcebdenjaaGreat
open Go.RowKit
structure TnS (P : Nat → Prop) (w w' : World) : Prop where
  os : w'.os = w.os
  tape : w'.tape = w.tape
  output : w'.output = w.output
  size : w.heap.size ≤ w'.heap.size
  block : ∀ k, k < w.heap.size → ¬ P k → w'.heap[k]? = w.heap[k]?
def mpre (m : Nat → Value) (cs : List Value) (c : Nat) : List Value := (List.range c).map m ++ cs.drop c
def inM (k : Int) (c : Nat) : Value := if c % 4 = 3 then .string (mt (k + (c : Int))) else .int .i64 (k + (c : Int))
def dfM (k : Int) (c : Nat) : Value := if c % 3 = 0 then .string (mt (k + (c : Int))) else .int .i64 (k + (c : Int))
end Go.Proofs.YtkchakcebdenjaaGreat
