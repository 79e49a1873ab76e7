/-
  Contracts of the draws: l1Once tells yes or no; l1Pick gives one of its texts.
-/
import Derived.Test.YtkhokfkcicaojaaPick
namespace Go.Proofs.Ytkhokfkcicaojaa
open Go.RowKit

set_option maxHeartbeats 800000 in
theorem picks_any (w0 : World) (v : Value) (zs : List Int) (w : World) (P g cap : Nat) (xs : List ByteArray) (c : Cur w0 v zs w P) (hg : g ≠ P) (h1 : 1 ≤ xs.length) (h2 : xs.length ≤ 1048576)
    (hc : ∀ i, i < xs.length → w.cell? ⟨g, i, none⟩ = some (.string (xs.getD i ByteArray.empty))) :
    Calls Try.prog 20 #[.pointer (some ⟨P, 0, none⟩), .slice (some ⟨g, 0, none⟩) xs.length cap] w fun e w' => ∃ s ∈ xs, e = .returned (.string s) ∧ Cur w0 v zs w' P ∧ w.grownBy w' (some P) := by
  have hgl := World.block_lt_of_cell? _ _ (hc 0 (by omega))
  simp only at hgl
  go_enter Try.func20, Try.ntmps20
  go_wp2_with fail
  refine (below_any w0 v zs w P xs.length c (by omega)).mono ?_
  rintro e w1 ⟨x, rfl, hx0, hx1, c1, g1⟩
  have hx := hx1 (by omega)
  obtain ⟨k, rfl⟩ := Int.eq_ofNat_of_zero_le hx0
  have hk : k < xs.length := by omega
  have hck : w1.cell? ⟨g, k, none⟩ = some (.string (xs.getD k ByteArray.empty)) := by
    rw [World.cell?_of_block (w := w) (g1.block g hgl (by simpa using hg))]; exact hc k hk
  rw [show xs.getD k ByteArray.empty = xs[k] by simp [hk]] at hck
  have hmem : xs[k] ∈ xs := List.getElem_mem _
  generalize xs[k] = s at hck hmem
  clear hc hx1
  go_wp2_with fail
  go_ret
  exact ⟨s, hmem, rfl, c1, g1⟩

theorem strs_new (w : World) (xs : List ByteArray) (t : TypeId) (i : Nat) (hi : i < xs.length) : (w.alloc (.cells (xs.map Value.string).toArray t)).cell? ⟨w.heap.size, i, none⟩ = some (.string (xs.getD i ByteArray.empty)) := by
  rw [cell_of_row _ w.heap.size i _ t (0, 0) (heap_alloc_new w _)]
  simp [hi]

end Go.Proofs.Ytkhokfkcicaojaa
