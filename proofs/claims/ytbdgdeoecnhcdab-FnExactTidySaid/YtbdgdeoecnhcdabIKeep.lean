/-
  Contract of impl's Keep. No condition but that the roots are no more than a row bears.
-/
import Derived.Test.YtbdgdeoecnhcdabMv2
namespace Go.Proofs.Ytbdgdeoecnhcdab
open Go.RowKit

/-- What Keep leaves, and where the roots are then. -/
def keepL (xs : List Nd) (rs : List Int) : List Nd := if poolB xs && allI xs rs then mvN 0 xs rs else []
def keepR (xs : List Nd) (rs : List Int) : List Int := if poolB xs && allI xs rs then mvR 0 xs rs rs else []
theorem keepL_len (xs : List Nd) (rs : List Int) : (keepL xs rs).length ≤ xs.length := by
  unfold keepL
  split
  · exact mvN_len 0 xs rs
  · simp
theorem keepR_len (xs : List Nd) (rs : List Int) : (keepR xs rs).length ≤ rs.length := by
  unfold keepR
  split
  · simp [mvR]
  · simp

theorem none_pair {w w2 : World} {B : Nat} (hy : w2.heap[B]? = some (.cells #[.slice none 0 0] 28 (0, 0))) (hB : Below w.heap.size w w2) (h1 : w.heap.size ≤ B) :
    ((w2.setCell ⟨B, 0, none⟩ (.slice none 0 0)).alloc (Obj.cells #[] 3)).heap[B]? = some (.cells #[.slice none 0 0] 28 (0, 0)) ∧ ((w2.setCell ⟨B, 0, none⟩ (.slice none 0 0)).alloc (Obj.cells #[] 3)).ownsRow w.heap.size 70 5 (.slice none 0 0) 0 [] ∧ ((w2.setCell ⟨B, 0, none⟩ (.slice none 0 0)).alloc (Obj.cells #[] 3)).ownsRow w.heap.size 3 1 (.slice (some ⟨w2.heap.size, 0, none⟩) 0 0) 0 [] ∧ Below w.heap.size w ((w2.setCell ⟨B, 0, none⟩ (.slice none 0 0)).alloc (Obj.cells #[] 3)) := by
  have hs : (w2.setCell ⟨B, 0, none⟩ (.slice none 0 0)).heap.size = w2.heap.size := by simp [World.setCell]
  have hB' := hB.setCell (p := ⟨B, 0, none⟩) h1 (.slice none 0 0)
  have h0 := own_none0 (w2.setCell ⟨B, 0, none⟩ (.slice none 0 0)) 3 1 w.heap.size hB'.size
  rw [hs] at h0
  have hy' := heap_setCell_same w2 B 0 _ _ (.slice none 0 0) hy
  exact ⟨(Below.heap_alloc _ _ _ (Array.getElem?_eq_some_iff.1 hy').1).trans hy', World.ownsRow_nil _ _ _ _, h0, hB'.alloc hB'.size _⟩

end Go.Proofs.Ytbdgdeoecnhcdab
