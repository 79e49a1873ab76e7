/-
  For every world, FnExactJudgeAll returns true: impl.JudgeAll answers as spec.JudgeAll and writes into no argument. The variable errors.errorType reads as the program lays it; the card ties that to the program's text (over a pruned copy of the project: the packages that these roots load, no test file).
-/
import Derived.Test.YtkpfangkfknhoaaGreatDoorPJaAM
set_option maxRecDepth 100000
namespace Go.Proofs.YtkpfangkfknhoaaGreatDoor
open Go.Proofs.Tryz
namespace JaRow
open Go.ChangeShapes Go.WideShapes Go.ChangeAt Go.RowKit
open Go.ChangeMaps (open_string shut_string)
theorem c1:(Rows.fnExactJudgeAllRow.wf (OpenSpec.ofChange Rows.fnExactJudgeAllSpec) && laidOutB Tryz.pinned.checked.prog && mapsRowed Tryz.pinned.checked.prog)=true:=by kernel_rfl
theorem c2:(Rows.fnExactJudgeAllRow.inPlace == (Tryz.pinned.checked.prog).inPlace 3)=true:=by kernel_rfl
theorem c3:(Rows.fnExactJudgeAllRow.unfollowed == (Tryz.pinned.checked.prog).unfollowed 3)=true:=by kernel_rfl
theorem c4:(Rows.fnExactJudgeAllRow.recurses == (Tryz.pinned.checked.prog).recurses 3)=true:=by kernel_rfl
theorem c5:(Rows.fnExactJudgeAllRow.named == (Tryz.pinned.checked.prog).varsNamed 3)=true:=by kernel_rfl
theorem c6:((Tryz.pinned.checked.prog).stopsHeard)=true:=by kernel_rfl
theorem c7:((Tryz.pinned.checked.prog).mayEnter)=true:=by kernel_rfl
theorem c8:(Rows.fnExactJudgeAllRow.lifted == (Tryz.pinned.checked.prog).liftsFinal)=true:=by kernel_rfl
theorem c9:((Tryz.pinned.checked.prog).make == some Rows.fnExactJudgeAllRow.make)=true:=by kernel_rfl
theorem c10:(Rows.fnExactJudgeAllRow.pinned == Rows.fnExactJudgeAllRow.pinnedBy)=true:=by kernel_rfl
theorem c11:(Rows.fnExactJudgeAllRow.plainKeys == (Tryz.pinned.checked.prog).plainKeys)=true:=by kernel_rfl
theorem Zmx:joinedFacts Tryz.pinned.checked.prog 3 Tryz.f3 Rows.fnExactJudgeAllSpec Rows.fnExactJudgeAllRow=true:=by
 unfold joinedFacts;rw [c1,c2,c3,c4,c5,c6,c7,c8,c9,c10,c11]
 kernel_rfl
theorem over:Rows.fnExactJudgeAllRow.holds Tryz.pinned (OpenSpec.ofChange Rows.fnExactJudgeAllSpec) :=
 OpenClaim.holds_of_wide 3 Tryz.f3 rfl rfl rfl rfl rfl rfl rfl ⟨rfl,rfl,rfl,rfl,rfl⟩ rfl rfl rfl rfl rfl (by kernel_rfl) func3 Zmx
  (of_decide_eq_true (by kernel_rfl)) (by unfold Func.isWrapper;first | (rw [if_pos (by decide +kernel)];kernel_rfl) | (rw [if_neg (by decide +kernel)];exact ⟨rfl,rfl⟩))
  (fun os a H enc _=>lifted os a H enc)
end JaRow
end Go.Proofs.YtkpfangkfknhoaaGreatDoor
