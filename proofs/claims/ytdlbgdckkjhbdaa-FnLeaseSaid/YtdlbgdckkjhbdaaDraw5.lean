/-
  Contracts of the draws: l1Once tells yes or no; l1Pick gives one of its texts.
-/
import Derived.Test.YtdlbgdckkjhbdaaPick
namespace Go.Proofs.Ytdlbgdckkjhbdaa
open Go.RowKit

set_option maxHeartbeats 800000 in
theorem once_any (w0 : World) (v : Value) (zs : List Int) (w : World) (P : Nat) (n : Int) (c : Cur w0 v zs w P) (hn : n ≤ 9223372036854775807) :
    Calls Try.prog 49 #[.pointer (some ⟨P, 0, none⟩), .int .i64 n] w fun e w' => ∃ b : Bool, e = .returned (.bool b) ∧ Cur w0 v zs w' P ∧ w.grownBy w' (some P) := by
  go_enter Try.func49, Try.ntmps49
  go_wp2_with fail
  refine (below_any w0 v zs w P n c hn).mono ?_
  rintro e w1 ⟨x, rfl, hx0, hx1, c1, g1⟩
  go_wp2_with fail
  go_ret
  exact ⟨_, rfl, c1, g1⟩

theorem strs_new (w : World) (xs : List ByteArray) (t : TypeId) (i : Nat) (hi : i < xs.length) : (w.alloc (.cells (xs.map Value.string).toArray t)).cell? ⟨w.heap.size, i, none⟩ = some (.string (xs.getD i ByteArray.empty)) := by
  rw [cell_of_row _ w.heap.size i _ t (0, 0) (heap_alloc_new w _)]
  simp [hi]

end Go.Proofs.Ytdlbgdckkjhbdaa
