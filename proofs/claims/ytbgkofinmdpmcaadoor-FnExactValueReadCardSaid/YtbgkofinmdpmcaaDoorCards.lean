/-
  DERIVED. GIVEN WITH THE SEED: THE CARDS: each row of YtbgkofinmdpmcaaDoorRows.lean that lists a variable, with what it lists TIED to the program's text (the seventh form; the later family's looks); each row that meets fmt, with fmt's text TOLD by the authors' own Lean function (tested against real Go, not proved from fmt's source: count such statements apart). THE CARD IS WHAT COUNTS. Prove the row's statement (the work); the ties are given (YtbgkofinmdpmcaaDoorTie.lean); close each card by the builder's one call (the guide's Derived/Test/ToyasCard.lean, 'card_holds'). Laid BY PROGRAM, IN A SANDBOX (cutbox-door.mjs). By AI agents, Wed Nov 11 2026. No macro, syntax, notation, axiom, sorry.
-/
import Derived.Test.YtbgkofinmdpmcaaDoorRows
import GoSem.ClaimSeven
namespace Go.Proofs.YtbgkofinmdpmcaaDoor
namespace Rows

/-- THE TIED CARD OF 'laws.FnExactValueRead'. -/
def fnExactValueReadCard : Claim7 := { stood := { row := fnExactValueReadRow, standIns := [], harness := (true, "35fec8d13d2a033894ef4e3482e6e4ce2c6d72fd3efd3d9062e0c8e01e40456b"), looks := true }, kinds := [], alts := [], laidByText := true, laidKinds := [.handle], laidTests := true, laidLooks := .later }
def FnExactValueReadCardSaid : Prop := Claim7.holds Tryd.pinned (.plain (OpenSpec.ofChange fnExactValueReadSpec)) fnExactValueReadCard

/-- THE SECOND FORM's CARD OF 'laws.FnExactValueRead'. -/
def fnExactValueReadUptoCard : Claim7 := { stood := { row := fnExactValueReadUptoRow, standIns := [], harness := (true, "35fec8d13d2a033894ef4e3482e6e4ce2c6d72fd3efd3d9062e0c8e01e40456b"), looks := true }, kinds := [], alts := [], laidByText := true, laidKinds := [.handle], laidTests := true, laidLooks := .later }
def FnExactValueReadUptoCardSaid : Prop := Claim7.holds Tryd.pinned (.plain (OpenSpec.upto fnExactValueReadSpec)) fnExactValueReadUptoCard
end Rows
end Go.Proofs.YtbgkofinmdpmcaaDoor
