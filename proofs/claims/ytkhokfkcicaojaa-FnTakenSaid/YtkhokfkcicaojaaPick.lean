/-
  Contracts of the draws: l1PickInt gives one of its numbers; at gives a byte of the code.
-/
import Derived.Test.YtkhokfkcicaojaaDraw2
namespace Go.Proofs.Ytkhokfkcicaojaa
open Go.RowKit

set_option maxHeartbeats 800000 in
theorem pick_any (w0 : World) (v : Value) (zs : List Int) (w : World) (P g cap : Nat) (xs : List Int) (c : Cur w0 v zs w P) (hg : g ≠ P) (h1 : 1 ≤ xs.length) (h2 : xs.length ≤ 1048576) (hr : ∀ x ∈ xs, -9223372036854775808 ≤ x ∧ x ≤ 9223372036854775807)
    (hc : ∀ i, i < xs.length → w.cell? ⟨g, i, none⟩ = some (.int .i64 (xs.getD i 0))) :
    Calls Try.prog 32 #[.pointer (some ⟨P, 0, none⟩), .slice (some ⟨g, 0, none⟩) xs.length cap] w fun e w' => ∃ x : Int, e = .returned (.int .i64 x) ∧ -9223372036854775808 ≤ x ∧ x ≤ 9223372036854775807 ∧ Cur w0 v zs w' P ∧ w.grownBy w' (some P) := by
  have hgl := World.block_lt_of_cell? _ _ (hc 0 (by omega))
  simp only at hgl
  go_enter Try.func32, Try.ntmps32
  go_wp2_with fail
  refine (below_any w0 v zs w P xs.length c (by omega)).mono ?_
  rintro e w1 ⟨x, rfl, hx0, hx1, c1, g1⟩
  have hx := hx1 (by omega)
  obtain ⟨k, rfl⟩ := Int.eq_ofNat_of_zero_le hx0
  have hk : k < xs.length := by omega
  have hck : w1.cell? ⟨g, k, none⟩ = some (.int .i64 (xs.getD k 0)) := by
    rw [World.cell?_of_block (w := w) (g1.block g hgl (by simpa using hg))]; exact hc k hk
  have hrk := hr xs[k] (List.getElem_mem _)
  clear hc hr hx1
  go_wp2_with fail
  go_ret
  exact ⟨_, rfl, hrk.1, hrk.2, c1, g1⟩

theorem ints_new (w : World) (xs : List Int) (t : TypeId) (i : Nat) (hi : i < xs.length) : (w.alloc (.cells (xs.map (Value.int .i64)).toArray t)).cell? ⟨w.heap.size, i, none⟩ = some (.int .i64 (xs.getD i 0)) := by
  rw [cell_of_row _ w.heap.size i _ t (0, 0) (heap_alloc_new w _)]
  simp [hi]

set_option maxHeartbeats 400000 in
theorem at_any (v : Value) (zs : List Int) (w : World) (i : Int) (R : Row w v zs) (hl : zs.length ≤ 1048576) (h0 : 0 ≤ i) (h1 : i ≤ 1000) :
    Calls Try.prog 13 #[v, .int .i64 i] w fun e w' => ∃ x : Int, e = .returned (.int .i64 x) ∧ 0 ≤ x ∧ x ≤ 255 ∧ w' = w := by
  obtain ⟨ao, cap, rfl, hcap, hm, hz, hcell⟩ := R
  obtain ⟨k, rfl⟩ := Int.eq_ofNat_of_zero_le h0
  by_cases hlt : k < zs.length
  · obtain ⟨g, o, hao, hg, hcell2⟩ := hcell (by intro e; subst e; simp at hlt)
    subst hao
    have hc := hcell2 k hlt
    have hzb := hz zs[k] (List.getElem_mem _)
    clear hcell hcell2 hz
    go_enter Try.func13, Try.ntmps13
    go_wp2
    go_ret
    exact ⟨_, rfl, hzb.1, hzb.2, rfl⟩
  · clear hcell hz
    go_enter Try.func13, Try.ntmps13
    go_wp2
    go_ret
    exact ⟨_, rfl, by omega, by omega, rfl⟩

end Go.Proofs.Ytkhokfkcicaojaa
