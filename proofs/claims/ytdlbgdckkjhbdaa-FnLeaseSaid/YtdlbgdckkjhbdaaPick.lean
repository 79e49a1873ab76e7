/-
  Contracts of the draws: l1PickInt gives one of its numbers; at gives a byte of the code.
-/
import Derived.Test.YtdlbgdckkjhbdaaDraw2
namespace Go.Proofs.Ytdlbgdckkjhbdaa
open Go.RowKit

set_option maxHeartbeats 800000 in
theorem pick_any (w0 : World) (v : Value) (zs : List Int) (w : World) (P g cap : Nat) (xs : List Int) (c : Cur w0 v zs w P) (hg : g ≠ P) (h1 : 1 ≤ xs.length) (h2 : xs.length ≤ 1048576) (hr : ∀ x ∈ xs, -9223372036854775808 ≤ x ∧ x ≤ 9223372036854775807)
    (hc : ∀ i, i < xs.length → w.cell? ⟨g, i, none⟩ = some (.int .i64 (xs.getD i 0))) :
    Calls Try.prog 53 #[.pointer (some ⟨P, 0, none⟩), .slice (some ⟨g, 0, none⟩) xs.length cap] w fun e w' => ∃ x : Int, e = .returned (.int .i64 x) ∧ -9223372036854775808 ≤ x ∧ x ≤ 9223372036854775807 ∧ Cur w0 v zs w' P ∧ w.grownBy w' (some P) := by
  have hgl := World.block_lt_of_cell? _ _ (hc 0 (by omega))
  simp only at hgl
  go_enter Try.func53, Try.ntmps53
  go_wp2_with fail
  refine (below_any w0 v zs w P xs.length c (by omega)).mono ?_
  rintro e w1 ⟨x, rfl, hx0, hx1, c1, g1⟩
  have hx := hx1 (by omega)
  obtain ⟨k, rfl⟩ := Int.eq_ofNat_of_zero_le hx0
  have hk : k < xs.length := by omega
  have hck : w1.cell? ⟨g, k, none⟩ = some (.int .i64 (xs.getD k 0)) := by
    rw [World.cell?_of_block (w := w) (g1.block g hgl (by simpa using hg))]; exact hc k hk
  have hrk := hr xs[k] (List.getElem_mem _)
  clear hc hr hx1
  go_wp2_with fail
  go_ret
  exact ⟨_, rfl, hrk.1, hrk.2, c1, g1⟩

theorem ints_new (w : World) (xs : List Int) (t : TypeId) (i : Nat) (hi : i < xs.length) : (w.alloc (.cells (xs.map (Value.int .i64)).toArray t)).cell? ⟨w.heap.size, i, none⟩ = some (.int .i64 (xs.getD i 0)) := by
  rw [cell_of_row _ w.heap.size i _ t (0, 0) (heap_alloc_new w _)]
  simp [hi]

end Go.Proofs.Ytdlbgdckkjhbdaa
