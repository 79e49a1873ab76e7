/-
  For every world, FnExactJudgeAll returns true: impl.JudgeAll answers as spec.JudgeAll and writes into no argument. The variable errors.errorType reads as the program lays it; the card ties that to the program's text (over a pruned copy of the project: the packages that these roots load, no test file).
-/
import Derived.Test.YtkpfangkfknhoaaGreatDoorPJaBM
namespace Go.Proofs.YtkpfangkfknhoaaGreatDoor
open Go.Proofs.Tryz
namespace JaRow
open Go.ChangeShapes Go.WideShapes Go.ChangeAt Go.RowKit
open Go.ChangeMaps (open_string shut_string)
theorem card:Claim7.holds Tryz.pinned (.plain (OpenSpec.ofChange Rows.fnExactJudgeAllSpec)) Rows.fnExactJudgeAllCard :=
 Claim7.holds_tied_plain_at .later [] [.handle] true Rows.fnExactJudgeAllCard.stood.harness true
  over (fun _ h=>by cases h) (by kernel_rfl) (fun _ h=>by cases h) fnExactJudgeAll_row_tie rfl ⟨rfl,rfl⟩ (by kernel_rfl) rfl
  (fun f e g b=>by
   obtain rfl:f=3:=Option.some.inj ((show prog.funcNamed Rows.fnExactJudgeAllRow.func=some 3 by kernel_rfl).symm.trans g) |>.symm;obtain rfl:e=Tryz.f3:=(Option.some.inj (func3.symm.trans b)).symm
   exact ⟨by kernel_rfl,fun j t c=>by
    rw [Tryz.params3] at c;have d:t ∈ [35]:=by simpa using Array.mem_of_getElem? c
    have a:([35].all fun u=>!prog.wantsStandIn u)=true:=by kernel_rfl
    exact (show prog.wantsStandIn t=false by simpa using List.all_eq_true.1 a t d)⟩)
  (by kernel_rfl)
end JaRow
theorem ja_holds:Rows.FnExactJudgeAllCardSaid:=JaRow.card
#print axioms ja_holds
end Go.Proofs.YtkpfangkfknhoaaGreatDoor
