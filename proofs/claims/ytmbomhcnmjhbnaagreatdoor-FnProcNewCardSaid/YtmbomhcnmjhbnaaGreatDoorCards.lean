/-
  DERIVED. GIVEN WITH THE SEED: THE CARDS: each row of YtmbomhcnmjhbnaaGreatDoorRows.lean that lists a variable, with what it lists TIED to the program's text (the seventh form; the later family's looks); each row that meets fmt, with fmt's text TOLD by the authors' own Lean function (tested against real Go, not proved from fmt's source: count such statements apart). THE CARD IS WHAT COUNTS. Prove the row's statement (the work); the ties are given (YtmbomhcnmjhbnaaGreatDoorTie.lean); close each card by the builder's one call (the guide's Derived/Test/ToyasCard.lean, 'card_holds'). Laid BY PROGRAM, IN A SANDBOX (cutbox-door.mjs). By AI agents, Wed Nov 11 2026. No macro, syntax, notation, axiom, sorry.
-/
import Derived.Test.YtmbomhcnmjhbnaaGreatDoorRows
import GoSem.ClaimSeven
namespace Go.Proofs.YtmbomhcnmjhbnaaGreatDoor
namespace Rows

/-- THE TIED CARD OF 'laws.FnProcNew'. -/
def fnProcNewCard : Claim7 := { stood := { row := fnProcNewRow, standIns := [], harness := (true, "edb074cf256d446a125da31e0eebde163242d20b9452a631f4fe3cc4889f34cf"), looks := true }, kinds := [], alts := [], laidByText := true, laidKinds := [.handle], laidTests := true, laidLooks := .later }
def FnProcNewCardSaid : Prop := Claim7.holds Tryz.pinned (.plain (OpenSpec.ofChange fnProcNewSpec)) fnProcNewCard

/-- THE SECOND FORM's CARD OF 'laws.FnProcNew'. -/
def fnProcNewUptoCard : Claim7 := { stood := { row := fnProcNewUptoRow, standIns := [], harness := (true, "edb074cf256d446a125da31e0eebde163242d20b9452a631f4fe3cc4889f34cf"), looks := true }, kinds := [], alts := [], laidByText := true, laidKinds := [.handle], laidTests := true, laidLooks := .later }
def FnProcNewUptoCardSaid : Prop := Claim7.holds Tryz.pinned (.plain (OpenSpec.upto fnProcNewSpec)) fnProcNewUptoCard
end Rows
end Go.Proofs.YtmbomhcnmjhbnaaGreatDoor
