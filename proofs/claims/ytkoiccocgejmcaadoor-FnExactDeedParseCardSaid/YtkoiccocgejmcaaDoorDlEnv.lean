/-
  What the listed variables hold: the table of tens, the two errors of numbers, the words of deeds, the error of what is no line.
-/
import Derived.Test.YtkoiccocgejmcaaDoorSDl
import Derived.Test.YtkoiccocgejmcaaDoorWord
import Derived.Test.YtkoiccocgejmcaaDoorShelfA
namespace Go.Proofs.YtkoiccocgejmcaaDoor
open Go.RowKit

/-- The words of deeds stand in their variable. -/
def wordsV : List Value := [.string ⟨#[]⟩, .string ⟨#[115, 116, 101, 112]⟩, .string ⟨#[115, 104, 111, 119]⟩, .string ⟨#[103, 105, 118, 101]⟩, .string ⟨#[99, 111, 112, 121]⟩, .string ⟨#[108, 111, 115, 101]⟩]
def Wds (w : World) : Prop := 0 < w.heap.size ∧ ∀ i v, wordsV[i]? = some v → w.cell? ⟨0, i, none⟩ = some v
theorem Wds.on {w w' : World} (h : Wds w) (hb : Below w.heap.size w w') : Wds w' := ⟨Nat.lt_of_lt_of_le h.1 hb.size, fun i v e => (hb.cell (p := ⟨0, i, none⟩) h.1).trans (h.2 i v e)⟩
end Go.Proofs.YtkoiccocgejmcaaDoor
