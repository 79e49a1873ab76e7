/-
  For every world, FnExactJudgeOnce returns true: impl.JudgeOnce answers as spec.JudgeOnce and writes into no argument. The variable errors.errorType reads as the program lays it; the card ties that to the program's text (over a pruned copy of the project: the packages that these roots load, no test file).
-/
import Derived.Test.YtfeodlbpnghakaaGreatDoorPJnBM
namespace Go.Proofs.YtfeodlbpnghakaaGreatDoor
namespace JnRow
open Go.ChangeShapes Go.WideShapes Go.ChangeAt Go.RowKit
open Go.ChangeMaps (open_string shut_string)
theorem card:Claim7.holds Tryz.pinned (.plain (OpenSpec.ofChange Rows.fnExactJudgeOnceSpec)) Rows.fnExactJudgeOnceCard :=
 Claim7.holds_tied_plain_at .later [] [.handle] true Rows.fnExactJudgeOnceCard.stood.harness true
  over (fun _ h=>by cases h) (by kernel_rfl) (fun _ h=>by cases h) fnExactJudgeOnce_row_tie rfl ⟨rfl,rfl⟩ (by kernel_rfl) rfl
  (fun f g d b=>by
   obtain rfl:f=3:=Option.some.inj ((show Tryz.prog.funcNamed Rows.fnExactJudgeOnceRow.func=some 3 by kernel_rfl).symm.trans d) |>.symm
   obtain rfl:g=Tryz.f3:=(Option.some.inj (Tryz.func3.symm.trans b)).symm
   exact ⟨by kernel_rfl,fun j t c=>by
    rw [Tryz.params3] at c
    have e:t ∈ [35]:=by simpa using Array.mem_of_getElem? c
    have a:([35].all fun u=>!Tryz.prog.wantsStandIn u)=true:=by kernel_rfl
    exact (show Tryz.prog.wantsStandIn t=false by simpa using List.all_eq_true.1 a t e)⟩)
  (by kernel_rfl)
end JnRow
theorem jn_holds:Rows.FnExactJudgeOnceCardSaid:=JnRow.card
#print axioms jn_holds
end Go.Proofs.YtfeodlbpnghakaaGreatDoor
