/-
  DERIVED. GIVEN WITH THE SEED: THE CARDS: each row of YtfmafkebddojjaaGreatDoorRows.lean that lists a variable, with what it lists TIED to the program's text (the seventh form; the later family's looks); each row that meets fmt, with fmt's text TOLD by the authors' own Lean function (tested against real Go, not proved from fmt's source: count such statements apart). THE CARD IS WHAT COUNTS. Prove the row's statement (the work); the ties are given (YtfmafkebddojjaaGreatDoorTie.lean); close each card by the builder's one call (the guide's Derived/Test/ToyasCard.lean, 'card_holds'). Laid BY PROGRAM, IN A SANDBOX (cutbox-door.mjs). By AI agents, Wed Nov 11 2026. No macro, syntax, notation, axiom, sorry.
-/
import Derived.Test.YtfmafkebddojjaaGreatDoorRows
import GoSem.ClaimSeven
namespace Go.Proofs.YtfmafkebddojjaaGreatDoor
namespace Rows

/-- THE TIED CARD OF 'laws.FnExactJudgeOrder'. -/
def fnExactJudgeOrderCard : Claim7 := { stood := { row := fnExactJudgeOrderRow, standIns := [], harness := (true, "5457700152eabf48011e3ca87fd1bbc6935165e0d2e736cf3efbfda738e23001"), looks := true }, kinds := [], alts := [], laidByText := true, laidKinds := [.handle], laidTests := true, laidLooks := .later }
def FnExactJudgeOrderCardSaid : Prop := Claim7.holds Tryz.pinned (.plain (OpenSpec.ofChange fnExactJudgeOrderSpec)) fnExactJudgeOrderCard

/-- THE TIED CARD OF 'laws.FnExactJudgeOnce'. -/
def fnExactJudgeOnceCard : Claim7 := { stood := { row := fnExactJudgeOnceRow, standIns := [], harness := (true, "5457700152eabf48011e3ca87fd1bbc6935165e0d2e736cf3efbfda738e23001"), looks := true }, kinds := [], alts := [], laidByText := true, laidKinds := [.handle], laidTests := true, laidLooks := .later }
def FnExactJudgeOnceCardSaid : Prop := Claim7.holds Tryz.pinned (.plain (OpenSpec.ofChange fnExactJudgeOnceSpec)) fnExactJudgeOnceCard

/-- THE TIED CARD OF 'laws.FnExactJudgeQueue'. -/
def fnExactJudgeQueueCard : Claim7 := { stood := { row := fnExactJudgeQueueRow, standIns := [], harness := (true, "5457700152eabf48011e3ca87fd1bbc6935165e0d2e736cf3efbfda738e23001"), looks := true }, kinds := [], alts := [], laidByText := true, laidKinds := [.handle], laidTests := true, laidLooks := .later }
def FnExactJudgeQueueCardSaid : Prop := Claim7.holds Tryz.pinned (.plain (OpenSpec.ofChange fnExactJudgeQueueSpec)) fnExactJudgeQueueCard

/-- THE TIED CARD OF 'laws.FnExactJudgeAll'. -/
def fnExactJudgeAllCard : Claim7 := { stood := { row := fnExactJudgeAllRow, standIns := [], harness := (true, "5457700152eabf48011e3ca87fd1bbc6935165e0d2e736cf3efbfda738e23001"), looks := true }, kinds := [], alts := [], laidByText := true, laidKinds := [.handle], laidTests := true, laidLooks := .later }
def FnExactJudgeAllCardSaid : Prop := Claim7.holds Tryz.pinned (.plain (OpenSpec.ofChange fnExactJudgeAllSpec)) fnExactJudgeAllCard

/-- THE TIED CARD OF 'laws.FnExactPrints'. -/
def fnExactPrintsCard : Claim7 := { stood := { row := fnExactPrintsRow, standIns := [], harness := (true, "5457700152eabf48011e3ca87fd1bbc6935165e0d2e736cf3efbfda738e23001"), looks := true }, kinds := [], alts := [], laidByText := true, laidKinds := [.handle], laidTests := true, laidLooks := .later }
def FnExactPrintsCardSaid : Prop := Claim7.holds Tryz.pinned (.plain (OpenSpec.ofChange fnExactPrintsSpec)) fnExactPrintsCard

/-- THE TIED CARD OF 'laws.FnExactWhereIs'. -/
def fnExactWhereIsCard : Claim7 := { stood := { row := fnExactWhereIsRow, standIns := [], harness := (true, "5457700152eabf48011e3ca87fd1bbc6935165e0d2e736cf3efbfda738e23001"), looks := true }, kinds := [], alts := [], laidByText := true, laidKinds := [.handle], laidTests := true, laidLooks := .later }
def FnExactWhereIsCardSaid : Prop := Claim7.holds Tryz.pinned (.plain (OpenSpec.ofChange fnExactWhereIsSpec)) fnExactWhereIsCard

/-- THE SECOND FORM's CARD OF 'laws.FnExactJudgeOrder'. -/
def fnExactJudgeOrderUptoCard : Claim7 := { stood := { row := fnExactJudgeOrderUptoRow, standIns := [], harness := (true, "5457700152eabf48011e3ca87fd1bbc6935165e0d2e736cf3efbfda738e23001"), looks := true }, kinds := [], alts := [], laidByText := true, laidKinds := [.handle], laidTests := true, laidLooks := .later }
def FnExactJudgeOrderUptoCardSaid : Prop := Claim7.holds Tryz.pinned (.plain (OpenSpec.upto fnExactJudgeOrderSpec)) fnExactJudgeOrderUptoCard

/-- THE SECOND FORM's CARD OF 'laws.FnExactJudgeOnce'. -/
def fnExactJudgeOnceUptoCard : Claim7 := { stood := { row := fnExactJudgeOnceUptoRow, standIns := [], harness := (true, "5457700152eabf48011e3ca87fd1bbc6935165e0d2e736cf3efbfda738e23001"), looks := true }, kinds := [], alts := [], laidByText := true, laidKinds := [.handle], laidTests := true, laidLooks := .later }
def FnExactJudgeOnceUptoCardSaid : Prop := Claim7.holds Tryz.pinned (.plain (OpenSpec.upto fnExactJudgeOnceSpec)) fnExactJudgeOnceUptoCard

/-- THE SECOND FORM's CARD OF 'laws.FnExactJudgeQueue'. -/
def fnExactJudgeQueueUptoCard : Claim7 := { stood := { row := fnExactJudgeQueueUptoRow, standIns := [], harness := (true, "5457700152eabf48011e3ca87fd1bbc6935165e0d2e736cf3efbfda738e23001"), looks := true }, kinds := [], alts := [], laidByText := true, laidKinds := [.handle], laidTests := true, laidLooks := .later }
def FnExactJudgeQueueUptoCardSaid : Prop := Claim7.holds Tryz.pinned (.plain (OpenSpec.upto fnExactJudgeQueueSpec)) fnExactJudgeQueueUptoCard

/-- THE SECOND FORM's CARD OF 'laws.FnExactJudgeAll'. -/
def fnExactJudgeAllUptoCard : Claim7 := { stood := { row := fnExactJudgeAllUptoRow, standIns := [], harness := (true, "5457700152eabf48011e3ca87fd1bbc6935165e0d2e736cf3efbfda738e23001"), looks := true }, kinds := [], alts := [], laidByText := true, laidKinds := [.handle], laidTests := true, laidLooks := .later }
def FnExactJudgeAllUptoCardSaid : Prop := Claim7.holds Tryz.pinned (.plain (OpenSpec.upto fnExactJudgeAllSpec)) fnExactJudgeAllUptoCard

/-- THE SECOND FORM's CARD OF 'laws.FnExactPrints'. -/
def fnExactPrintsUptoCard : Claim7 := { stood := { row := fnExactPrintsUptoRow, standIns := [], harness := (true, "5457700152eabf48011e3ca87fd1bbc6935165e0d2e736cf3efbfda738e23001"), looks := true }, kinds := [], alts := [], laidByText := true, laidKinds := [.handle], laidTests := true, laidLooks := .later }
def FnExactPrintsUptoCardSaid : Prop := Claim7.holds Tryz.pinned (.plain (OpenSpec.upto fnExactPrintsSpec)) fnExactPrintsUptoCard

/-- THE SECOND FORM's CARD OF 'laws.FnExactWhereIs'. -/
def fnExactWhereIsUptoCard : Claim7 := { stood := { row := fnExactWhereIsUptoRow, standIns := [], harness := (true, "5457700152eabf48011e3ca87fd1bbc6935165e0d2e736cf3efbfda738e23001"), looks := true }, kinds := [], alts := [], laidByText := true, laidKinds := [.handle], laidTests := true, laidLooks := .later }
def FnExactWhereIsUptoCardSaid : Prop := Claim7.holds Tryz.pinned (.plain (OpenSpec.upto fnExactWhereIsSpec)) fnExactWhereIsUptoCard
end Rows
end Go.Proofs.YtfmafkebddojjaaGreatDoor
