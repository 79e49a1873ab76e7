/-
  For every world, FnExactJudgeQueue returns true: impl.JudgeQueue answers as spec.JudgeQueue and writes into no argument. The variable errors.errorType reads as the program lays it; the card ties that to the program's text (over a pruned copy of the project: the packages that these roots load, no test file).
-/
import Derived.Test.YtfmafkebddojjaaGreatDoorPJqAM
namespace Go.Proofs.YtfmafkebddojjaaGreatDoor
namespace JqRow
open Go.ChangeShapes Go.WideShapes Go.ChangeAt Go.RowKit
open Go.ChangeMaps (open_string shut_string)
theorem c1 : (Rows.fnExactJudgeQueueRow.wf (OpenSpec.ofChange Rows.fnExactJudgeQueueSpec) && laidOutB Tryz.pinned.checked.prog && mapsRowed Tryz.pinned.checked.prog) = true := by kernel_rfl
theorem c2 : (Rows.fnExactJudgeQueueRow.inPlace == (Tryz.pinned.checked.prog).inPlace 5) = true := by kernel_rfl
theorem c3 : (Rows.fnExactJudgeQueueRow.unfollowed == (Tryz.pinned.checked.prog).unfollowed 5) = true := by kernel_rfl
theorem c4 : (Rows.fnExactJudgeQueueRow.recurses == (Tryz.pinned.checked.prog).recurses 5) = true := by kernel_rfl
theorem c5 : (Rows.fnExactJudgeQueueRow.named == (Tryz.pinned.checked.prog).varsNamed 5) = true := by kernel_rfl
theorem c6 : ((Tryz.pinned.checked.prog).stopsHeard) = true := by kernel_rfl
theorem c7 : ((Tryz.pinned.checked.prog).mayEnter) = true := by kernel_rfl
theorem c8 : (Rows.fnExactJudgeQueueRow.lifted == (Tryz.pinned.checked.prog).liftsFinal) = true := by kernel_rfl
theorem c9 : ((Tryz.pinned.checked.prog).make == some Rows.fnExactJudgeQueueRow.make) = true := by kernel_rfl
theorem c10 : (Rows.fnExactJudgeQueueRow.pinned == Rows.fnExactJudgeQueueRow.pinnedBy) = true := by kernel_rfl
theorem c11 : (Rows.fnExactJudgeQueueRow.plainKeys == (Tryz.pinned.checked.prog).plainKeys) = true := by kernel_rfl
set_option maxRecDepth 100000 in
theorem closed : joinedFacts Tryz.pinned.checked.prog 5 Tryz.f5 Rows.fnExactJudgeQueueSpec Rows.fnExactJudgeQueueRow = true := by
 unfold joinedFacts
 rw [c1, c2, c3, c4, c5, c6, c7, c8, c9, c10, c11]
 kernel_rfl
theorem over : Rows.fnExactJudgeQueueRow.holds Tryz.pinned (OpenSpec.ofChange Rows.fnExactJudgeQueueSpec) :=
 OpenClaim.holds_of_wide 5 Tryz.f5 rfl rfl rfl rfl rfl rfl rfl ⟨rfl, rfl, rfl, rfl, rfl⟩ rfl rfl rfl rfl rfl (by kernel_rfl) Tryz.func5 closed
  (of_decide_eq_true (by kernel_rfl)) (by unfold Func.isWrapper; first | (rw [if_pos (by decide +kernel)]; kernel_rfl) | (rw [if_neg (by decide +kernel)]; exact ⟨rfl, rfl⟩))
  (fun os started H enc _ => lifted os started H enc)
end JqRow
end Go.Proofs.YtfmafkebddojjaaGreatDoor
