/-
  Contract of the laws' own helper toByteS: a new slice of its own that reads as the slice that was handed in (at most 2^21 bytes).
-/
import Derived.Test.YtllfojddaobpmaaOwn
namespace Go.Proofs.Ytllfojddaobpmaa
open Go.RowKit

/-- The first j of zs, and noughts behind them. -/
def copied (zs : List Int) (j : Nat) : List Int := zs.take j ++ List.replicate (zs.length - j) 0
theorem copied_length (zs : List Int) (j : Nat) (h : j ≤ zs.length) : (copied zs j).length = zs.length := by simp [copied]; omega
theorem copied_full (zs : List Int) : copied zs zs.length = zs := by simp [copied]
theorem copied_zero (zs : List Int) : bv (copied zs 0) = (madeCells #[Value.int .u8 0] zs.length).toList := by
  rw [toList_madeCells_one]
  simp [copied, bv]
theorem copied_set (zs : List Int) (j : Nat) (h : j < zs.length) : (bv (copied zs j)).set j (.int .u8 zs[j]) = bv (copied zs (j + 1)) := by
  unfold copied bv
  rw [show zs.length - j = zs.length - (j + 1) + 1 by omega, List.replicate_succ, List.take_succ_eq_append_getElem h]
  simp only [List.map_append, List.map_cons, List.map_nil]
  rw [List.set_append_right _ _ (by simp; omega)]
  have e : j - (List.map (Value.int IntKind.u8) (List.take j zs)).length = 0 := by simp; omega
  rw [e]
  simp

end Go.Proofs.Ytllfojddaobpmaa
