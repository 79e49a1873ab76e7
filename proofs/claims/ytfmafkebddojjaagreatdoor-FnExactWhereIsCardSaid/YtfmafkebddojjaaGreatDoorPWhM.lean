/-
  For every world and number, FnExactWhereIs returns true: impl.WhereIs answers as spec.WhereIs and writes into no argument. The variable errors.errorType reads as the program lays it; the card ties that to the program's text (over a pruned copy of the project: the packages that these roots load, no test file).
-/
import Derived.Test.YtfmafkebddojjaaGreatDoorPWhBM
namespace Go.Proofs.YtfmafkebddojjaaGreatDoor
namespace WhRow
open Go.ChangeShapes Go.WideShapes Go.ChangeAt Go.RowKit
open Go.ChangeMaps (open_string shut_string)
theorem looks : true = Tryz.pinned.checked.prog.looks [] := by kernel_rfl
theorem goes : false = Rows.fnExactWhereIsRow.goesBy Tryz.pinned.checked.prog := by kernel_rfl
theorem card : Claim7.holds Tryz.pinned (.plain (OpenSpec.ofChange Rows.fnExactWhereIsSpec)) Rows.fnExactWhereIsCard :=
 Claim7.holds_tied_plain_at .later [] [.handle] true Rows.fnExactWhereIsCard.stood.harness true
  over (fun _ h => by cases h) (by kernel_rfl) (fun _ h => by cases h) fnExactWhereIs_row_tie rfl ⟨rfl, rfl⟩ (by kernel_rfl) rfl
  (fun f fn hf hfn => by
   obtain rfl : f = 8 := Option.some.inj ((show Tryz.prog.funcNamed Rows.fnExactWhereIsRow.func = some 8 by kernel_rfl).symm.trans hf) |>.symm
   obtain rfl : fn = Tryz.f8 := (Option.some.inj (Tryz.func8.symm.trans hfn)).symm
   exact ⟨looks, fun j t ht => by
    rw [Tryz.params8] at ht
    have hm : t ∈ [35, 3] := by simpa using Array.mem_of_getElem? ht
    have hall : ([35, 3].all fun u => !Tryz.prog.wantsStandIn u) = true := by kernel_rfl
    exact (show Tryz.prog.wantsStandIn t = false by simpa using List.all_eq_true.1 hall t hm)⟩)
  goes
end WhRow
theorem wh_holds : Rows.FnExactWhereIsCardSaid := WhRow.card
#print axioms wh_holds
end Go.Proofs.YtfmafkebddojjaaGreatDoor
