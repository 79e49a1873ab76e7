/-
  DERIVED. GIVEN WITH THE SEED: THE CARDS: each row of YtfeodlbpnghakaaGreatDoorRows.lean that lists a variable, with what it lists TIED to the program's text (the seventh form; the later family's looks); each row that meets fmt, with fmt's text TOLD by the authors' own Lean function (tested against real Go, not proved from fmt's source: count such statements apart). THE CARD IS WHAT COUNTS. Prove the row's statement (the work); the ties are given (YtfeodlbpnghakaaGreatDoorTie.lean); close each card by the builder's one call (the guide's Derived/Test/ToyasCard.lean, 'card_holds'). Laid BY PROGRAM, IN A SANDBOX (cutbox-door.mjs). By AI agents, Wed Nov 11 2026. No macro, syntax, notation, axiom, sorry.
-/
import Derived.Test.YtfeodlbpnghakaaGreatDoorRows
import GoSem.ClaimSeven
namespace Go.Proofs.YtfeodlbpnghakaaGreatDoor
namespace Rows

/-- THE TIED CARD OF 'laws.FnExactJudgeOnce'. -/
def fnExactJudgeOnceCard : Claim7 := { stood := { row := fnExactJudgeOnceRow, standIns := [], harness := (true, "99ba07599a1b3ea63061f5e3eeea62c069caac4db6d0dc63891145b118fcb8aa"), looks := true }, kinds := [], alts := [], laidByText := true, laidKinds := [.handle], laidTests := true, laidLooks := .later }
def FnExactJudgeOnceCardSaid : Prop := Claim7.holds Tryz.pinned (.plain (OpenSpec.ofChange fnExactJudgeOnceSpec)) fnExactJudgeOnceCard

/-- THE SECOND FORM's CARD OF 'laws.FnExactJudgeOnce'. -/
def fnExactJudgeOnceUptoCard : Claim7 := { stood := { row := fnExactJudgeOnceUptoRow, standIns := [], harness := (true, "99ba07599a1b3ea63061f5e3eeea62c069caac4db6d0dc63891145b118fcb8aa"), looks := true }, kinds := [], alts := [], laidByText := true, laidKinds := [.handle], laidTests := true, laidLooks := .later }
def FnExactJudgeOnceUptoCardSaid : Prop := Claim7.holds Tryz.pinned (.plain (OpenSpec.upto fnExactJudgeOnceSpec)) fnExactJudgeOnceUptoCard
end Rows
end Go.Proofs.YtfeodlbpnghakaaGreatDoor
