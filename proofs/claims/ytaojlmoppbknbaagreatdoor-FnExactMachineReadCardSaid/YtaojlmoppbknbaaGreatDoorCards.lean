/-
  DERIVED. GIVEN WITH THE SEED: THE CARDS: each row of YtaojlmoppbknbaaGreatDoorRows.lean that lists a variable, with what it lists TIED to the program's text (the seventh form; the later family's looks); each row that meets fmt, with fmt's text TOLD by the authors' own Lean function (tested against real Go, not proved from fmt's source: count such statements apart). THE CARD IS WHAT COUNTS. Prove the row's statement (the work); the ties are given (YtaojlmoppbknbaaGreatDoorTie.lean); close each card by the builder's one call (the guide's Derived/Test/ToyasCard.lean, 'card_holds'). Laid BY PROGRAM, IN A SANDBOX (cutbox-door.mjs). By AI agents, Wed Nov 11 2026. No macro, syntax, notation, axiom, sorry.
-/
import Derived.Test.YtaojlmoppbknbaaGreatDoorRows
import GoSem.ClaimSeven
namespace Go.Proofs.YtaojlmoppbknbaaGreatDoor
namespace Rows

/-- THE TIED CARD OF 'laws.FnExactMachineRead'. -/
def fnExactMachineReadCard : Claim7 := { stood := { row := fnExactMachineReadRow, standIns := [], harness := (true, "3ce5955d79a39f5b343a7a101920762e5a46e7a566e6e459ff8bf32771cc9ee9"), looks := true }, kinds := [], alts := [], laidByText := true, laidKinds := [.handle], laidTests := true, laidLooks := .later }
def FnExactMachineReadCardSaid : Prop := Claim7.holds Tryz.pinned (.plain (OpenSpec.ofChange fnExactMachineReadSpec)) fnExactMachineReadCard

/-- THE SECOND FORM's CARD OF 'laws.FnExactMachineRead'. -/
def fnExactMachineReadUptoCard : Claim7 := { stood := { row := fnExactMachineReadUptoRow, standIns := [], harness := (true, "3ce5955d79a39f5b343a7a101920762e5a46e7a566e6e459ff8bf32771cc9ee9"), looks := true }, kinds := [], alts := [], laidByText := true, laidKinds := [.handle], laidTests := true, laidLooks := .later }
def FnExactMachineReadUptoCardSaid : Prop := Claim7.holds Tryz.pinned (.plain (OpenSpec.upto fnExactMachineReadSpec)) fnExactMachineReadUptoCard
end Rows
end Go.Proofs.YtaojlmoppbknbaaGreatDoor
