/-
  DERIVED. GIVEN WITH THE SEED: THE CARDS: each row of YtbljoclnaeimoaaGreatDoorRows.lean that lists a variable, with what it lists TIED to the program's text (the seventh form; the later family's looks); each row that meets fmt, with fmt's text TOLD by the authors' own Lean function (tested against real Go, not proved from fmt's source: count such statements apart). THE CARD IS WHAT COUNTS. Prove the row's statement (the work); the ties are given (YtbljoclnaeimoaaGreatDoorTie.lean); close each card by the builder's one call (the guide's Derived/Test/ToyasCard.lean, 'card_holds'). Laid BY PROGRAM, IN A SANDBOX (cutbox-door.mjs). By AI agents, Wed Nov 11 2026. No macro, syntax, notation, axiom, sorry.
-/
import Derived.Test.YtbljoclnaeimoaaGreatDoorRows
import GoSem.ClaimSeven
namespace Go.Proofs.YtbljoclnaeimoaaGreatDoor
namespace Rows

/-- THE TIED CARD OF 'laws.FnExactWhereIs'. -/
def fnExactWhereIsCard : Claim7 := { stood := { row := fnExactWhereIsRow, standIns := [], harness := (true, "67d332762b6ea3c0b8356298a0f628f2ed1590db771831a419a4b04959b0d437"), looks := true }, kinds := [], alts := [], laidByText := true, laidKinds := [.handle], laidTests := true, laidLooks := .later }
def FnExactWhereIsCardSaid : Prop := Claim7.holds Tryz.pinned (.plain (OpenSpec.ofChange fnExactWhereIsSpec)) fnExactWhereIsCard

/-- THE TIED CARD OF 'laws.FnExactWorldNew'. -/
def fnExactWorldNewCard : Claim7 := { stood := { row := fnExactWorldNewRow, standIns := [], harness := (true, "67d332762b6ea3c0b8356298a0f628f2ed1590db771831a419a4b04959b0d437"), looks := true }, kinds := [], alts := [], laidByText := true, laidKinds := [.handle], laidTests := true, laidLooks := .later }
def FnExactWorldNewCardSaid : Prop := Claim7.holds Tryz.pinned (.plain (OpenSpec.ofChange fnExactWorldNewSpec)) fnExactWorldNewCard

/-- THE SECOND FORM's CARD OF 'laws.FnExactWhereIs'. -/
def fnExactWhereIsUptoCard : Claim7 := { stood := { row := fnExactWhereIsUptoRow, standIns := [], harness := (true, "67d332762b6ea3c0b8356298a0f628f2ed1590db771831a419a4b04959b0d437"), looks := true }, kinds := [], alts := [], laidByText := true, laidKinds := [.handle], laidTests := true, laidLooks := .later }
def FnExactWhereIsUptoCardSaid : Prop := Claim7.holds Tryz.pinned (.plain (OpenSpec.upto fnExactWhereIsSpec)) fnExactWhereIsUptoCard

/-- THE SECOND FORM's CARD OF 'laws.FnExactWorldNew'. -/
def fnExactWorldNewUptoCard : Claim7 := { stood := { row := fnExactWorldNewUptoRow, standIns := [], harness := (true, "67d332762b6ea3c0b8356298a0f628f2ed1590db771831a419a4b04959b0d437"), looks := true }, kinds := [], alts := [], laidByText := true, laidKinds := [.handle], laidTests := true, laidLooks := .later }
def FnExactWorldNewUptoCardSaid : Prop := Claim7.holds Tryz.pinned (.plain (OpenSpec.upto fnExactWorldNewSpec)) fnExactWorldNewUptoCard
end Rows
end Go.Proofs.YtbljoclnaeimoaaGreatDoor
