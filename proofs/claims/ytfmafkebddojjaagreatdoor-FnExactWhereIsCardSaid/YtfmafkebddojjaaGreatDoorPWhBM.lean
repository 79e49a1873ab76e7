/-
  For every world and number, FnExactWhereIs returns true: impl.WhereIs answers as spec.WhereIs and writes into no argument. The variable errors.errorType reads as the program lays it; the card ties that to the program's text (over a pruned copy of the project: the packages that these roots load, no test file).
-/
import Derived.Test.YtfmafkebddojjaaGreatDoorPWhAM
set_option maxRecDepth 100000
namespace Go.Proofs.YtfmafkebddojjaaGreatDoor
namespace WhRow
open Go.ChangeShapes Go.WideShapes Go.ChangeAt Go.RowKit
open Go.ChangeMaps (open_string shut_string)
theorem c1 : (Rows.fnExactWhereIsRow.wf (OpenSpec.ofChange Rows.fnExactWhereIsSpec) && laidOutB Tryz.pinned.checked.prog && mapsRowed Tryz.pinned.checked.prog) = true := by kernel_rfl
theorem c2 : (Rows.fnExactWhereIsRow.inPlace == (Tryz.pinned.checked.prog).inPlace 8) = true := by kernel_rfl
theorem c3 : (Rows.fnExactWhereIsRow.unfollowed == (Tryz.pinned.checked.prog).unfollowed 8) = true := by kernel_rfl
theorem c4 : (Rows.fnExactWhereIsRow.recurses == (Tryz.pinned.checked.prog).recurses 8) = true := by kernel_rfl
theorem c5 : (Rows.fnExactWhereIsRow.named == (Tryz.pinned.checked.prog).varsNamed 8) = true := by kernel_rfl
theorem c6 : ((Tryz.pinned.checked.prog).stopsHeard) = true := by kernel_rfl
theorem c7 : ((Tryz.pinned.checked.prog).mayEnter) = true := by kernel_rfl
theorem c8 : (Rows.fnExactWhereIsRow.lifted == (Tryz.pinned.checked.prog).liftsFinal) = true := by kernel_rfl
theorem c9 : ((Tryz.pinned.checked.prog).make == some Rows.fnExactWhereIsRow.make) = true := by kernel_rfl
theorem c10 : (Rows.fnExactWhereIsRow.pinned == Rows.fnExactWhereIsRow.pinnedBy) = true := by kernel_rfl
theorem c11 : (Rows.fnExactWhereIsRow.plainKeys == (Tryz.pinned.checked.prog).plainKeys) = true := by kernel_rfl
theorem Zlt : joinedFacts Tryz.pinned.checked.prog 8 Tryz.f8 Rows.fnExactWhereIsSpec Rows.fnExactWhereIsRow = true := by
 unfold joinedFacts
 rw [c1, c2, c3, c4, c5, c6, c7, c8, c9, c10, c11]
 kernel_rfl
theorem over : Rows.fnExactWhereIsRow.holds Tryz.pinned (OpenSpec.ofChange Rows.fnExactWhereIsSpec) :=
 OpenClaim.holds_of_wide 8 Tryz.f8 rfl rfl rfl rfl rfl rfl rfl ⟨rfl, rfl, rfl, rfl, rfl⟩ rfl rfl rfl rfl rfl (by kernel_rfl) Tryz.func8 Zlt
  (of_decide_eq_true (by kernel_rfl)) (by unfold Func.isWrapper; first | (rw [if_pos (by decide +kernel)]; kernel_rfl) | (rw [if_neg (by decide +kernel)]; exact ⟨rfl, rfl⟩))
  (fun os started H enc _ => lifted os started H enc)
end WhRow
end Go.Proofs.YtfmafkebddojjaaGreatDoor
