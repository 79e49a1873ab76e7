/-
  The contract of impl.phrases: nine of them, in a row of their own. The words of deeds read as they are laid.
-/
import Derived.Test.YtkoiccocgejmcaaDoorIDp5
import Derived.Test.YtkoiccocgejmcaaDoorDlM2
namespace Go.Proofs.YtkoiccocgejmcaaDoor
open Go.RowKit

theorem Tryd.sizePhrase : (Tryd.prog.info? 51).map (·.size) = some 3 := by kernel_rfl
/-- A function value. -/
@[reducible] def fnV (f : Nat) : Value := .func (.func f) #[] #[]
/-- The nine phrases' cells. -/
def phrC : List Value := [.string (tx (dwL 1)), .int .i64 1, fnV 31, .string (tx (dwL 2)), .int .i64 2, fnV 31, .string (tx (dwL 3)), .int .i64 3, fnV 32, .string (tx (dwL 4)), .int .i64 4, fnV 32, .string (tx (dwL 5)), .int .i64 5, fnV 32,
  .string (tx [106, 117, 100, 103, 101]), .int .i64 6, fnV 33, .string (tx [114, 111, 117, 110, 100]), .int .i64 7, fnV 33, .string (tx [111, 117, 116]), .int .i64 8, fnV 32, .string (tx [119, 104, 101, 114, 101]), .int .i64 9, fnV 32]

set_option maxRecDepth 100000 in
set_option maxHeartbeats 1600000 in
theorem phrases_any (w : World) (hW : Wds w) :
    Calls Tryd.prog 24 #[] w fun e w' => ∃ g, e = .returned (.slice (some ⟨g, 0, none⟩) 9 9) ∧ w.heap.size ≤ g ∧ w'.heap[g]? = some (.cells phrC.toArray 51 (0, 0)) ∧ Below w.heap.size w w' := by
  have c1 := hW.at 1 (by omega)
  have c2 := hW.at 2 (by omega)
  have c3 := hW.at 3 (by omega)
  have c4 := hW.at 4 (by omega)
  have c5 := hW.at 5 (by omega)
  go_enter Tryd.func24, Tryd.ntmps24
  go_wp2_with fail
  go_ret
  exact ⟨w.heap.size, rfl, Nat.le_refl _, heap_alloc_new _ _, (Below.refl _ _).alloc (Nat.le_refl _) _⟩
end Go.Proofs.YtkoiccocgejmcaaDoor
