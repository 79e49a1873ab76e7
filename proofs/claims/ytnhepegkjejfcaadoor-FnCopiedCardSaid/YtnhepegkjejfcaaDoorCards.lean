/-
  DERIVED. GIVEN WITH THE SEED: THE CARDS: each row of YtnhepegkjejfcaaDoorRows.lean that lists a variable, with what it lists TIED to the program's text (the seventh form; the later family's looks); each row that meets fmt, with fmt's text TOLD by the authors' own Lean function (tested against real Go, not proved from fmt's source: count such statements apart). THE CARD IS WHAT COUNTS. Prove the row's statement (the work); the ties are given (YtnhepegkjejfcaaDoorTie.lean); close each card by the builder's one call (the guide's Derived/Test/ToyasCard.lean, 'card_holds'). Laid BY PROGRAM, IN A SANDBOX (cutbox-door.mjs). By AI agents, Wed Nov 11 2026. No macro, syntax, notation, axiom, sorry.
-/
import Derived.Test.YtnhepegkjejfcaaDoorRows
import GoSem.ClaimSeven
namespace Go.Proofs.YtnhepegkjejfcaaDoor
namespace Rows

/-- THE TIED CARD OF 'laws.FnKeep'. -/
def fnKeepCard : Claim7 := { stood := { row := fnKeepRow, standIns := [], harness := (true, "ea05dfc188d5dffc652aa867109dd96437afc3f3be22038c459316bd0a5aed02"), looks := false }, kinds := [], alts := [], laidByText := true, laidKinds := [.data, .data, .data], laidTests := true, laidLooks := .later }
def FnKeepCardSaid : Prop := Claim7.holds Tryd.pinned (.plain (OpenSpec.ofChange fnKeepSpec)) fnKeepCard

/-- THE TIED CARD OF 'laws.FnCopied'. -/
def fnCopiedCard : Claim7 := { stood := { row := fnCopiedRow, standIns := [], harness := (true, "ea05dfc188d5dffc652aa867109dd96437afc3f3be22038c459316bd0a5aed02"), looks := false }, kinds := [], alts := [], laidByText := true, laidKinds := [.data, .data, .data], laidTests := true, laidLooks := .later }
def FnCopiedCardSaid : Prop := Claim7.holds Tryd.pinned (.plain (OpenSpec.ofChange fnCopiedSpec)) fnCopiedCard

/-- THE SECOND FORM's CARD OF 'laws.FnKeep'. -/
def fnKeepUptoCard : Claim7 := { stood := { row := fnKeepUptoRow, standIns := [], harness := (true, "ea05dfc188d5dffc652aa867109dd96437afc3f3be22038c459316bd0a5aed02"), looks := false }, kinds := [], alts := [], laidByText := true, laidKinds := [.data, .data, .data], laidTests := true, laidLooks := .later }
def FnKeepUptoCardSaid : Prop := Claim7.holds Tryd.pinned (.plain (OpenSpec.upto fnKeepSpec)) fnKeepUptoCard

/-- THE SECOND FORM's CARD OF 'laws.FnCopied'. -/
def fnCopiedUptoCard : Claim7 := { stood := { row := fnCopiedUptoRow, standIns := [], harness := (true, "ea05dfc188d5dffc652aa867109dd96437afc3f3be22038c459316bd0a5aed02"), looks := false }, kinds := [], alts := [], laidByText := true, laidKinds := [.data, .data, .data], laidTests := true, laidLooks := .later }
def FnCopiedUptoCardSaid : Prop := Claim7.holds Tryd.pinned (.plain (OpenSpec.upto fnCopiedSpec)) fnCopiedUptoCard
end Rows
end Go.Proofs.YtnhepegkjejfcaaDoor
