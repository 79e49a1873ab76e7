/-
  DERIVED. GIVEN WITH THE SEED: THE CARDS: each row of YtjnhocefnfmhmaaGreatDoorRows.lean that lists a variable, with what it lists TIED to the program's text (the seventh form; the later family's looks); each row that meets fmt, with fmt's text TOLD by the authors' own Lean function (tested against real Go, not proved from fmt's source: count such statements apart). THE CARD IS WHAT COUNTS. Prove the row's statement (the work); the ties are given (YtjnhocefnfmhmaaGreatDoorTie.lean); close each card by the builder's one call (the guide's Derived/Test/ToyasCard.lean, 'card_holds'). Laid BY PROGRAM, IN A SANDBOX (cutbox-door.mjs). By AI agents, Wed Nov 11 2026. No macro, syntax, notation, axiom, sorry.
-/
import Derived.Test.YtjnhocefnfmhmaaGreatDoorRows
import GoSem.ClaimSeven
namespace Go.Proofs.YtjnhocefnfmhmaaGreatDoor
namespace Rows

/-- THE TIED CARD OF 'laws.FnExactProcPack'. -/
def fnExactProcPackCard : Claim7 := { stood := { row := fnExactProcPackRow, standIns := [], harness := (true, "fbe532acc7ddd4ddca0e2e31ffbda34e7ba2c3f4e173c20712c9d6f3dc7731b0"), looks := true }, kinds := [], alts := [], laidByText := true, laidKinds := [.handle], laidTests := true, laidLooks := .later }
def FnExactProcPackCardSaid : Prop := Claim7.holds Tryz.pinned (.plain (OpenSpec.ofChange fnExactProcPackSpec)) fnExactProcPackCard

/-- THE TIED CARD OF 'laws.FnExactProcRead'. -/
def fnExactProcReadCard : Claim7 := { stood := { row := fnExactProcReadRow, standIns := [], harness := (true, "fbe532acc7ddd4ddca0e2e31ffbda34e7ba2c3f4e173c20712c9d6f3dc7731b0"), looks := true }, kinds := [], alts := [], laidByText := true, laidKinds := [.handle], laidTests := true, laidLooks := .later }
def FnExactProcReadCardSaid : Prop := Claim7.holds Tryz.pinned (.plain (OpenSpec.ofChange fnExactProcReadSpec)) fnExactProcReadCard

/-- THE SECOND FORM's CARD OF 'laws.FnExactProcPack'. -/
def fnExactProcPackUptoCard : Claim7 := { stood := { row := fnExactProcPackUptoRow, standIns := [], harness := (true, "fbe532acc7ddd4ddca0e2e31ffbda34e7ba2c3f4e173c20712c9d6f3dc7731b0"), looks := true }, kinds := [], alts := [], laidByText := true, laidKinds := [.handle], laidTests := true, laidLooks := .later }
def FnExactProcPackUptoCardSaid : Prop := Claim7.holds Tryz.pinned (.plain (OpenSpec.upto fnExactProcPackSpec)) fnExactProcPackUptoCard

/-- THE SECOND FORM's CARD OF 'laws.FnExactProcRead'. -/
def fnExactProcReadUptoCard : Claim7 := { stood := { row := fnExactProcReadUptoRow, standIns := [], harness := (true, "fbe532acc7ddd4ddca0e2e31ffbda34e7ba2c3f4e173c20712c9d6f3dc7731b0"), looks := true }, kinds := [], alts := [], laidByText := true, laidKinds := [.handle], laidTests := true, laidLooks := .later }
def FnExactProcReadUptoCardSaid : Prop := Claim7.holds Tryz.pinned (.plain (OpenSpec.upto fnExactProcReadSpec)) fnExactProcReadUptoCard
end Rows
end Go.Proofs.YtjnhocefnfmhmaaGreatDoor
