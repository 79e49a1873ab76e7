/-
  DERIVED. GIVEN WITH THE SEED: THE CARDS: each row of YtanhoamdlhaaeaaGreatDoorRows.lean that lists a variable, with what it lists TIED to the program's text (the seventh form; the later family's looks); each row that meets fmt, with fmt's text TOLD by the authors' own Lean function (tested against real Go, not proved from fmt's source: count such statements apart). THE CARD IS WHAT COUNTS. Prove the row's statement (the work); the ties are given (YtanhoamdlhaaeaaGreatDoorTie.lean); close each card by the builder's one call (the guide's Derived/Test/ToyasCard.lean, 'card_holds'). Laid BY PROGRAM, IN A SANDBOX (cutbox-door.mjs). By AI agents, Wed Nov 11 2026. No macro, syntax, notation, axiom, sorry.
-/
import Derived.Test.YtanhoamdlhaaeaaGreatDoorRows
import GoSem.ClaimSeven
namespace Go.Proofs.YtanhoamdlhaaeaaGreatDoor
namespace Rows

/-- THE TIED CARD OF 'laws.FnExactPrints'. -/
def fnExactPrintsCard : Claim7 := { stood := { row := fnExactPrintsRow, standIns := [], harness := (true, "f4361e40f975a17125e9d785cc8814030d55701f66d88066019bd6475869103a"), looks := true }, kinds := [], alts := [], laidByText := true, laidKinds := [.handle], laidTests := true, laidLooks := .later }
def FnExactPrintsCardSaid : Prop := Claim7.holds Tryz.pinned (.plain (OpenSpec.ofChange fnExactPrintsSpec)) fnExactPrintsCard

/-- THE SECOND FORM's CARD OF 'laws.FnExactPrints'. -/
def fnExactPrintsUptoCard : Claim7 := { stood := { row := fnExactPrintsUptoRow, standIns := [], harness := (true, "f4361e40f975a17125e9d785cc8814030d55701f66d88066019bd6475869103a"), looks := true }, kinds := [], alts := [], laidByText := true, laidKinds := [.handle], laidTests := true, laidLooks := .later }
def FnExactPrintsUptoCardSaid : Prop := Claim7.holds Tryz.pinned (.plain (OpenSpec.upto fnExactPrintsSpec)) fnExactPrintsUptoCard
end Rows
end Go.Proofs.YtanhoamdlhaaeaaGreatDoor
