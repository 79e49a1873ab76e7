/-
  What is reached: plain mathematics. From behind: what hangs on a node stands behind it. No condition.
-/
import Derived.Test.YtbdgdeoecnhcdabNd
namespace Go.Proofs.Ytbdgdeoecnhcdab
open Go.RowKit

def setB (bs : List Bool) (i : Int) : List Bool := bs.set i.toNat true
/-- Marks of n nodes: those of the roots. -/
def rootsB (n : Nat) (rs : List Int) : List Bool := rs.foldl setB (List.replicate n false)
/-- The marks when a node x, marked by b, has marked what it has. -/
def hungStep (x : Nd) (b : Bool) (bs : List Bool) : List Bool :=
  if b && hasB x.k then setB (if b && hasA x.k then setB bs x.a else bs) x.b else (if b && hasA x.k then setB bs x.a else bs)
/-- The marks when the nodes below k, from behind, have marked what they have. -/
def down (xs : List Nd) : Nat → List Bool → List Bool
  | 0, bs => bs
  | k + 1, bs => down xs k (hungStep (xs.getD k ⟨0, 0, ByteArray.empty, 0, 0⟩) (bs.getD k false) bs)
/-- Which nodes are reached from the roots rs. -/
def reachL (xs : List Nd) (rs : List Int) : List Bool := down xs xs.length (rootsB xs.length rs)
theorem setB_length (bs : List Bool) (i : Int) : (setB bs i).length = bs.length := by simp [setB]
theorem foldB_length (rs : List Int) (bs : List Bool) : (rs.foldl setB bs).length = bs.length := by
  induction rs generalizing bs with
  | nil => rfl
  | cons r rs ih => rw [List.foldl_cons, ih, setB_length]
theorem rootsB_length (n : Nat) (rs : List Int) : (rootsB n rs).length = n := by unfold rootsB; rw [foldB_length]; simp
theorem hungStep_length (x : Nd) (b : Bool) (bs : List Bool) : (hungStep x b bs).length = bs.length := by
  unfold hungStep
  split <;> (split <;> simp [setB_length])
theorem down_length (xs : List Nd) (k : Nat) (bs : List Bool) : (down xs k bs).length = bs.length := by
  induction k generalizing bs with
  | zero => rfl
  | succ k ih => simp only [down]; rw [ih, hungStep_length]
theorem reachL_length (xs : List Nd) (rs : List Int) : (reachL xs rs).length = xs.length := by unfold reachL; rw [down_length, rootsB_length]
theorem fold_drop (rs : List Int) (bs : List Bool) (k : Nat) (h : k < rs.length) : (rs.drop k).foldl setB bs = (rs.drop (k + 1)).foldl setB (setB bs (rs.getD k 0)) := by
  rw [List.drop_eq_getElem_cons h, List.foldl_cons, List.getD_eq_getElem?_getD, List.getElem?_eq_getElem h]
  rfl
theorem down_at (xs : List Nd) (bs : List Bool) (k : Nat) (x : Nd) (h : xs[k]? = some x) : down xs (k + 1) bs = down xs k (hungStep x (bs.getD k false) bs) := by
  simp only [down, List.getD_eq_getElem?_getD, h, Option.getD_some]

end Go.Proofs.Ytbdgdeoecnhcdab
