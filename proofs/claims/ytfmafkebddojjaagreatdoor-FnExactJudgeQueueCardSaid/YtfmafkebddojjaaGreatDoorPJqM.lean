/-
  For every world, FnExactJudgeQueue returns true: impl.JudgeQueue answers as spec.JudgeQueue and writes into no argument. The variable errors.errorType reads as the program lays it; the card ties that to the program's text (over a pruned copy of the project: the packages that these roots load, no test file).
-/
import Derived.Test.YtfmafkebddojjaaGreatDoorPJqBM
namespace Go.Proofs.YtfmafkebddojjaaGreatDoor
namespace JqRow
open Go.ChangeShapes Go.WideShapes Go.ChangeAt Go.RowKit
open Go.ChangeMaps (open_string shut_string)
theorem looks : true = Tryz.pinned.checked.prog.looks [] := by kernel_rfl
theorem goes : false = Rows.fnExactJudgeQueueRow.goesBy Tryz.pinned.checked.prog := by kernel_rfl
theorem card : Claim7.holds Tryz.pinned (.plain (OpenSpec.ofChange Rows.fnExactJudgeQueueSpec)) Rows.fnExactJudgeQueueCard :=
 Claim7.holds_tied_plain_at .later [] [.handle] true Rows.fnExactJudgeQueueCard.stood.harness true
  over (fun _ h => by cases h) (by kernel_rfl) (fun _ h => by cases h) fnExactJudgeQueue_row_tie rfl ⟨rfl, rfl⟩ (by kernel_rfl) rfl
  (fun f fn hf hfn => by
   obtain rfl : f = 5 := Option.some.inj ((show Tryz.prog.funcNamed Rows.fnExactJudgeQueueRow.func = some 5 by kernel_rfl).symm.trans hf) |>.symm
   obtain rfl : fn = Tryz.f5 := (Option.some.inj (Tryz.func5.symm.trans hfn)).symm
   exact ⟨looks, fun j t ht => by
    rw [Tryz.params5] at ht
    have hm : t ∈ [35] := by simpa using Array.mem_of_getElem? ht
    have hall : ([35].all fun u => !Tryz.prog.wantsStandIn u) = true := by kernel_rfl
    exact (show Tryz.prog.wantsStandIn t = false by simpa using List.all_eq_true.1 hall t hm)⟩)
  goes
end JqRow
theorem jq_holds : Rows.FnExactJudgeQueueCardSaid := JqRow.card
#print axioms jq_holds
end Go.Proofs.YtfmafkebddojjaaGreatDoor
