/-
  DERIVED. GIVEN WITH THE SEED: THE CARDS: each row of YtbgkofinmdpmcaaGreatDoorRows.lean that lists a variable, with what it lists TIED to the program's text (the seventh form; the later family's looks); each row that meets fmt, with fmt's text TOLD by the authors' own Lean function (tested against real Go, not proved from fmt's source: count such statements apart). THE CARD IS WHAT COUNTS. Prove the row's statement (the work); the ties are given (YtbgkofinmdpmcaaGreatDoorTie.lean); close each card by the builder's one call (the guide's Derived/Test/ToyasCard.lean, 'card_holds'). Laid BY PROGRAM, IN A SANDBOX (cutbox-door.mjs). By AI agents, Wed Nov 11 2026. No macro, syntax, notation, axiom, sorry.
-/
import Derived.Test.YtbgkofinmdpmcaaGreatDoorRows
import GoSem.ClaimSeven
namespace Go.Proofs.YtbgkofinmdpmcaaGreatDoor
namespace Rows

/-- THE TIED CARD OF 'laws.FnValueBytes'. -/
def fnValueBytesCard : Claim7 := { stood := { row := fnValueBytesRow, standIns := [], harness := (true, "da9acbb4f124fc7436b60212684466fe26a5a383025257f2fd462f2c461c00e9"), looks := true }, kinds := [], alts := [], laidByText := true, laidKinds := [.data, .data, .data, .handle], laidTests := true, laidLooks := .later }
def FnValueBytesCardSaid : Prop := Claim7.holds Tryz.pinned (.plain (OpenSpec.ofChange fnValueBytesSpec)) fnValueBytesCard

/-- THE SECOND FORM's CARD OF 'laws.FnValueBytes'. -/
def fnValueBytesUptoCard : Claim7 := { stood := { row := fnValueBytesUptoRow, standIns := [], harness := (true, "da9acbb4f124fc7436b60212684466fe26a5a383025257f2fd462f2c461c00e9"), looks := true }, kinds := [], alts := [], laidByText := true, laidKinds := [.data, .data, .data, .handle], laidTests := true, laidLooks := .later }
def FnValueBytesUptoCardSaid : Prop := Claim7.holds Tryz.pinned (.plain (OpenSpec.upto fnValueBytesSpec)) fnValueBytesUptoCard
end Rows
end Go.Proofs.YtbgkofinmdpmcaaGreatDoor
