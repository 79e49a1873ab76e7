/-
  DERIVED. GIVEN WITH THE SEED: THE CARDS: each row of YtdkkpopnoeapdaaGreatDoorRows.lean that lists a variable, with what it lists TIED to the program's text (the seventh form; the later family's looks); each row that meets fmt, with fmt's text TOLD by the authors' own Lean function (tested against real Go, not proved from fmt's source: count such statements apart). THE CARD IS WHAT COUNTS. Prove the row's statement (the work); the ties are given (YtdkkpopnoeapdaaGreatDoorTie.lean); close each card by the builder's one call (the guide's Derived/Test/ToyasCard.lean, 'card_holds'). Laid BY PROGRAM, IN A SANDBOX (cutbox-door.mjs). By AI agents, Wed Nov 11 2026. No macro, syntax, notation, axiom, sorry.
-/
import Derived.Test.YtdkkpopnoeapdaaGreatDoorRows
import GoSem.ClaimSeven
namespace Go.Proofs.YtdkkpopnoeapdaaGreatDoor
namespace Rows

/-- THE TIED CARD OF 'laws.FnExactProcOk'. -/
def fnExactProcOkCard : Claim7 := { stood := { row := fnExactProcOkRow, standIns := [], harness := (true, "14acaec018a7054da2139482c6f887105c489eda01cf96486e81c51695c81a16"), looks := true }, kinds := [], alts := [], laidByText := true, laidKinds := [.handle], laidTests := true, laidLooks := .later }
def FnExactProcOkCardSaid : Prop := Claim7.holds Tryz.pinned (.plain (OpenSpec.ofChange fnExactProcOkSpec)) fnExactProcOkCard

/-- THE TIED CARD OF 'laws.FnExactProcNew'. -/
def fnExactProcNewCard : Claim7 := { stood := { row := fnExactProcNewRow, standIns := [], harness := (true, "14acaec018a7054da2139482c6f887105c489eda01cf96486e81c51695c81a16"), looks := true }, kinds := [], alts := [], laidByText := true, laidKinds := [.handle], laidTests := true, laidLooks := .later }
def FnExactProcNewCardSaid : Prop := Claim7.holds Tryz.pinned (.plain (OpenSpec.ofChange fnExactProcNewSpec)) fnExactProcNewCard

/-- THE TIED CARD OF 'laws.FnExactProcPost'. -/
def fnExactProcPostCard : Claim7 := { stood := { row := fnExactProcPostRow, standIns := [], harness := (true, "14acaec018a7054da2139482c6f887105c489eda01cf96486e81c51695c81a16"), looks := true }, kinds := [], alts := [], laidByText := true, laidKinds := [.handle], laidTests := true, laidLooks := .later }
def FnExactProcPostCardSaid : Prop := Claim7.holds Tryz.pinned (.plain (OpenSpec.ofChange fnExactProcPostSpec)) fnExactProcPostCard

/-- THE SECOND FORM's CARD OF 'laws.FnExactProcOk'. -/
def fnExactProcOkUptoCard : Claim7 := { stood := { row := fnExactProcOkUptoRow, standIns := [], harness := (true, "14acaec018a7054da2139482c6f887105c489eda01cf96486e81c51695c81a16"), looks := true }, kinds := [], alts := [], laidByText := true, laidKinds := [.handle], laidTests := true, laidLooks := .later }
def FnExactProcOkUptoCardSaid : Prop := Claim7.holds Tryz.pinned (.plain (OpenSpec.upto fnExactProcOkSpec)) fnExactProcOkUptoCard

/-- THE SECOND FORM's CARD OF 'laws.FnExactProcNew'. -/
def fnExactProcNewUptoCard : Claim7 := { stood := { row := fnExactProcNewUptoRow, standIns := [], harness := (true, "14acaec018a7054da2139482c6f887105c489eda01cf96486e81c51695c81a16"), looks := true }, kinds := [], alts := [], laidByText := true, laidKinds := [.handle], laidTests := true, laidLooks := .later }
def FnExactProcNewUptoCardSaid : Prop := Claim7.holds Tryz.pinned (.plain (OpenSpec.upto fnExactProcNewSpec)) fnExactProcNewUptoCard

/-- THE SECOND FORM's CARD OF 'laws.FnExactProcPost'. -/
def fnExactProcPostUptoCard : Claim7 := { stood := { row := fnExactProcPostUptoRow, standIns := [], harness := (true, "14acaec018a7054da2139482c6f887105c489eda01cf96486e81c51695c81a16"), looks := true }, kinds := [], alts := [], laidByText := true, laidKinds := [.handle], laidTests := true, laidLooks := .later }
def FnExactProcPostUptoCardSaid : Prop := Claim7.holds Tryz.pinned (.plain (OpenSpec.upto fnExactProcPostSpec)) fnExactProcPostUptoCard
end Rows
end Go.Proofs.YtdkkpopnoeapdaaGreatDoor
