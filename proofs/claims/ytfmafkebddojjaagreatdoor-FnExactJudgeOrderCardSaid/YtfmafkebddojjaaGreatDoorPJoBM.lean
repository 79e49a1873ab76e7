/-
  For every world, FnExactJudgeOrder returns true: impl.JudgeOrder answers as spec.JudgeOrder and writes into no argument. The variable errors.errorType reads as the program lays it; the card ties that to the program's text (over a pruned copy of the project: the packages that these roots load, no test file).
-/
import Derived.Test.YtfmafkebddojjaaGreatDoorPJoAM
namespace Go.Proofs.YtfmafkebddojjaaGreatDoor
namespace JoRow
open Go.ChangeShapes Go.WideShapes Go.ChangeAt Go.RowKit
open Go.ChangeMaps (open_string shut_string)
theorem c1 : (Rows.fnExactJudgeOrderRow.wf (OpenSpec.ofChange Rows.fnExactJudgeOrderSpec) && laidOutB Tryz.pinned.checked.prog && mapsRowed Tryz.pinned.checked.prog) = true := by kernel_rfl
theorem c2 : (Rows.fnExactJudgeOrderRow.inPlace == (Tryz.pinned.checked.prog).inPlace 3) = true := by kernel_rfl
theorem c3 : (Rows.fnExactJudgeOrderRow.unfollowed == (Tryz.pinned.checked.prog).unfollowed 3) = true := by kernel_rfl
theorem c4 : (Rows.fnExactJudgeOrderRow.recurses == (Tryz.pinned.checked.prog).recurses 3) = true := by kernel_rfl
theorem c5 : (Rows.fnExactJudgeOrderRow.named == (Tryz.pinned.checked.prog).varsNamed 3) = true := by kernel_rfl
theorem c6 : ((Tryz.pinned.checked.prog).stopsHeard) = true := by kernel_rfl
theorem c7 : ((Tryz.pinned.checked.prog).mayEnter) = true := by kernel_rfl
theorem c8 : (Rows.fnExactJudgeOrderRow.lifted == (Tryz.pinned.checked.prog).liftsFinal) = true := by kernel_rfl
theorem c9 : ((Tryz.pinned.checked.prog).make == some Rows.fnExactJudgeOrderRow.make) = true := by kernel_rfl
theorem c10 : (Rows.fnExactJudgeOrderRow.pinned == Rows.fnExactJudgeOrderRow.pinnedBy) = true := by kernel_rfl
theorem c11 : (Rows.fnExactJudgeOrderRow.plainKeys == (Tryz.pinned.checked.prog).plainKeys) = true := by kernel_rfl
set_option maxRecDepth 100000 in
theorem closed : joinedFacts Tryz.pinned.checked.prog 3 Tryz.f3 Rows.fnExactJudgeOrderSpec Rows.fnExactJudgeOrderRow = true := by
 unfold joinedFacts
 rw [c1, c2, c3, c4, c5, c6, c7, c8, c9, c10, c11]
 kernel_rfl
theorem over : Rows.fnExactJudgeOrderRow.holds Tryz.pinned (OpenSpec.ofChange Rows.fnExactJudgeOrderSpec) :=
 OpenClaim.holds_of_wide 3 Tryz.f3 rfl rfl rfl rfl rfl rfl rfl ⟨rfl, rfl, rfl, rfl, rfl⟩ rfl rfl rfl rfl rfl (by kernel_rfl) Tryz.func3 closed
  (of_decide_eq_true (by kernel_rfl)) (by unfold Func.isWrapper; first | (rw [if_pos (by decide +kernel)]; kernel_rfl) | (rw [if_neg (by decide +kernel)]; exact ⟨rfl, rfl⟩))
  (fun os started H enc _ => lifted os started H enc)
end JoRow
end Go.Proofs.YtfmafkebddojjaaGreatDoor
