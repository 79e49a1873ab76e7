/-
  The law FnExactMake, walked: at every argument the law returns true.
-/
import Derived.Test.YtkchakcebdenjaaGreatIntsM
import Derived.Test.YtkchakcebdenjaaGreatInM
import Derived.Test.YtkchakcebdenjaaGreatFoM
import Derived.Deep.CutRange
import Derived.Deep.DeepCutAuto
import Derived.Deep.RegionHeld
namespace Go.Proofs.YtkchakcebdenjaaGreat
open Go.RowKit
def Var (w : World) (b lo hi : Nat) (v : Value) (xs : List Nd) : Prop :=
  w.heap[b]? = some (.cells #[v] 29 (0, 0)) ∧ w.ownsRow lo 92 5 v xs.length (ncs xs) ∧ (∀ k, v.ownBlock = some k → k < hi) ∧ hi ≤ w.heap.size
theorem boxes {w1 : World} {B : Nat} {v : Value} {x : Nd} (hx : w1.heap[B]? = some (.cells #[v] 24 (0, 0))) (hn : w1.heap[B + 1]? = some (.cells #[.int .i64 x.k, .int .i64 x.n, .string x.s, .int .i64 x.a, .int .i64 x.b] 98 (0, 0))) :
    w1.cell? ⟨B, 0, none⟩ = some v ∧ w1.cell? ⟨B + 1, 0, none⟩ = some (.int .i64 x.k) ∧ w1.cell? ⟨B + 1, 1, none⟩ = some (.int .i64 x.n) ∧ w1.cell? ⟨B + 1, 2, none⟩ = some (.string x.s) ∧ w1.cell? ⟨B + 1, 3, none⟩ = some (.int .i64 x.a) ∧ w1.cell? ⟨B + 1, 4, none⟩ = some (.int .i64 x.b) :=
  ⟨cell_of_row w1 _ 0 _ _ _ hx, cell_of_row w1 _ 0 _ _ _ hn, cell_of_row w1 _ 1 _ _ _ hn, cell_of_row w1 _ 2 _ _ _ hn, cell_of_row w1 _ 3 _ _ _ hn, cell_of_row w1 _ 4 _ _ _ hn⟩
theorem step_drew {w2 w3 : World} (h : Below w2.drew.heap.size w2.drew w3) : Below w2.heap.size w2 w3 := (Below.refl _ _).drew.trans h
end Go.Proofs.YtkchakcebdenjaaGreat
