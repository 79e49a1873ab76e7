/-
  Contracts of the laws' own helpers markNodeS, heldNodeS, markPool, heldPool: what is marked in a slice of the call's own is found there.
-/
import Derived.Test.YtkoiccocgejmcaaDoorBs
import Derived.Test.YtkoiccocgejmcaaDoorShape
import Derived.Test.YtkoiccocgejmcaaDoorGrow
import Derived.Deep.RegionWith
namespace Go.Proofs.YtkoiccocgejmcaaDoor
open Go.RowKit

/-- The node that is laid from the number k on. -/
def mk (k : Int) : Nd := ⟨k, k + 1, mt (k + 1 + 1), k + 1 + 1 + 1, k + 1 + 1 + 1 + 1⟩
/-- What lies in a slice of nodes behind markNodeS from k on, when i of them are written and xs stood there. -/
def nmarked (k : Int) (xs : List Nd) (i : Nat) : List Nd := (List.range i).map (fun (j : Nat) => mk (k + 5 * (j : Int))) ++ xs.drop i
theorem nmarked_zero (k : Int) (xs : List Nd) : nmarked k xs 0 = xs := by simp [nmarked]
theorem nmarked_length (k : Int) (xs : List Nd) (i : Nat) (h : i ≤ xs.length) : (nmarked k xs i).length = xs.length := by simp [nmarked]; omega
theorem nmarked_at (k : Int) (xs : List Nd) (i : Nat) (h : i < xs.length) : (nmarked k xs i)[i]? = some xs[i] := by
  unfold nmarked
  rw [List.getElem?_append_right (by simp)]
  simp [h]
theorem nmarked_set (k : Int) (xs : List Nd) (i : Nat) (h : i < xs.length) : (nmarked k xs i).set i (mk (k + 5 * (i : Int))) = nmarked k xs (i + 1) := by
  unfold nmarked
  rw [List.range_succ, List.map_append, List.set_append_right _ _ (by simp), List.drop_eq_getElem_cons h, List.append_assoc]
  have e : i - (List.map (fun (j : Nat) => mk (k + 5 * (j : Int))) (List.range i)).length = 0 := by simp
  rw [e]
  rfl
theorem nmarked_get (k : Int) (xs : List Nd) (i : Nat) (h : i < xs.length) : (nmarked k xs xs.length)[i]? = some (mk (k + 5 * (i : Int))) := by
  simp [nmarked, h]

theorem mtGo_size (f k : Nat) (out : ByteArray) : (mtGo f k out).size ≤ out.size + k := by
  induction f generalizing k out with
  | zero => simp [mtGo]
  | succ f ih =>
    simp only [mtGo]
    split
    · omega
    · have := ih (k / 10) (strOfNums [48 + (k : Int) % 10] ++ out)
      rw [ByteArray.size_append, digit_size] at this
      omega
theorem mt_size (k : Int) (h : k ≤ 4611686018427387904) : (mt k).size ≤ maxLen := by
  unfold mt maxLen
  split
  · decide
  · rw [ByteArray.size_append]
    have := mtGo_size k.toNat k.toNat ⟨#[]⟩
    have e : (⟨#[109]⟩ : ByteArray).size = 1 := rfl
    have e' : (⟨#[]⟩ : ByteArray).size = 0 := rfl
    rw [e'] at this
    rw [e]
    omega


end Go.Proofs.YtkoiccocgejmcaaDoor
