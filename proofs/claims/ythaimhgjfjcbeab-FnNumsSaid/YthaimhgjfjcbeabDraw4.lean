/-
  Contracts of what the law FnNums draws: l1PickInt one of its list; DrawPutNum an int; DrawPutText a text of at most 40 bytes; at a byte; big whether it is long.
-/
import Derived.Test.YthaimhgjfjcbeabDraw3
namespace Go.Proofs.Ythaimhgjfjcbeab
open Go.RowKit

set_option maxHeartbeats 800000 in
theorem pick_any (w0 : World) (v : Value) (zs : List Int) (w : World) (P g cap : Nat) (xs : List Int) (c : Cur w0 v zs w P) (hg : g ≠ P) (h1 : 1 ≤ xs.length) (h2 : xs.length ≤ 1048576) (hr : ∀ x ∈ xs, -9223372036854775808 ≤ x ∧ x ≤ 9223372036854775807)
    (hc : ∀ i, i < xs.length → w.cell? ⟨g, i, none⟩ = some (.int .i64 (xs.getD i 0))) :
    Calls Try.prog 13 #[.pointer (some ⟨P, 0, none⟩), .slice (some ⟨g, 0, none⟩) xs.length cap] w fun e w' => ∃ x : Int, e = .returned (.int .i64 x) ∧ -9223372036854775808 ≤ x ∧ x ≤ 9223372036854775807 ∧ Cur w0 v zs w' P ∧ w.grownBy w' (some P) := by
  have hgl := World.block_lt_of_cell? _ _ (hc 0 (by omega))
  simp only at hgl
  go_enter Try.func13, Try.ntmps13
  go_wp2_with fail
  refine (below_any w0 v zs w P xs.length c (by omega)).mono ?_
  rintro e w1 ⟨x, rfl, hx0, hx1, c1, g1⟩
  have hx := hx1 (by omega)
  obtain ⟨k, rfl⟩ := Int.eq_ofNat_of_zero_le hx0
  have hk : k < xs.length := by omega
  have hck : w1.cell? ⟨g, k, none⟩ = some (.int .i64 (xs.getD k 0)) := by
    rw [World.cell?_of_block (w := w) (g1.block g hgl (by simpa using hg))]; exact hc k hk
  have hrk := hr xs[k] (List.getElem_mem _)
  clear hc hr hx1
  go_wp2_with fail
  go_ret
  exact ⟨_, rfl, hrk.1, hrk.2, c1, g1⟩

theorem ints_new (w : World) (xs : List Int) (t : TypeId) (i : Nat) (hi : i < xs.length) : (w.alloc (.cells (xs.map (Value.int .i64)).toArray t)).cell? ⟨w.heap.size, i, none⟩ = some (.int .i64 (xs.getD i 0)) := by
  rw [cell_of_row _ w.heap.size i _ t (0, 0) (heap_alloc_new w _)]
  simp [hi]

set_option maxHeartbeats 800000 in
theorem drawNum_any (v : Value) (zs : List Int) (w : World) (R : Row w v zs) (hl : zs.length ≤ 1048576) :
    Calls Try.prog 5 #[v] w fun e w' => ∃ x : Int, e = .returned (.int .i64 x) ∧ -9223372036854775808 ≤ x ∧ x ≤ 9223372036854775807 ∧ Below w.heap.size w w' := by
  go_enter Try.func5, Try.ntmps5
  go_wp2_with fail
  refine (new_any v zs w R hl).mono ?_
  rintro e w1 ⟨rfl, c1, b1⟩
  go_wp2_with fail
  refine (below_any w v zs w1 w.heap.size 100000 c1 (by omega)).mono ?_
  rintro e w2 ⟨x, rfl, hx0, hx1, c2, g2⟩
  have hx := hx1 (by omega)
  have b2 : Below w.heap.size w w2 := b1.grown g2 b1.size (fun k hk => by simp at hk; omega)
  have hlt := c2.lt
  go_wp2_with fail
  have hr : ∀ y ∈ [(0 : Int), 1, 127, 128, 16383, 16384, -1, 9223372036854775807, x], -9223372036854775808 ≤ y ∧ y ≤ 9223372036854775807 := by
    intro y hy
    simp only [List.mem_cons, List.not_mem_nil, or_false] at hy
    omega
  refine (pick_any w v zs _ w.heap.size w2.heap.size 9 [0, 1, 127, 128, 16383, 16384, -1, 9223372036854775807, x] (c2.kept ((Below.refl _ _).alloc (by omega) _)) (by omega) (by simp) (by simp) hr (fun i hi => ints_new w2 [0, 1, 127, 128, 16383, 16384, -1, 9223372036854775807, x] 3 i hi)).mono ?_
  rintro e w3 ⟨y, rfl, hy0, hy1, c3, g3⟩
  have b3 : Below w.heap.size w w3 := (b2.alloc b2.size _).grown g3 (by simp; omega) (fun k hk => by simp at hk; omega)
  clear hr c1 c2 c3 g2 g3 b1 b2
  go_wp2_with fail
  go_ret
  exact ⟨y, rfl, hy0, hy1, b3⟩

set_option maxHeartbeats 800000 in
theorem drawText_any (v : Value) (zs : List Int) (w : World) (R : Row w v zs) (hl : zs.length ≤ 1048576) :
    Calls Try.prog 9 #[v] w fun e w' => ∃ s : ByteArray, e = .returned (.string s) ∧ s.size ≤ 40 ∧ Below w.heap.size w w' := by
  have R' := R
  obtain ⟨ao, cap, rfl, _⟩ := R'
  go_enter Try.func9, Try.ntmps9
  go_wp2_with fail
  refine (new_any _ zs w R hl).mono ?_
  rintro e w1 ⟨rfl, c1, b1⟩
  go_wp2_with fail
  refine (size_any ao zs.length cap 40 w1 hl (by omega) (by omega)).mono ?_
  rintro e w1' ⟨x, rfl, hx0, hx1, rfl⟩
  go_wp2_with fail
  refine (draw_any w _ zs _ w.heap.size x c1 hx0 (by omega)).mono ?_
  rintro e w2 ⟨v2, acc, rfl, hacc, hz, own, c2, g2⟩
  have b2 : Below w.heap.size w w2 := b1.grown g2 b1.size (fun k hk => by simp at hk; omega)
  have hlen : acc.length ≤ 40 := by omega
  have R2 := Row.of_own own (by omega) hz
  obtain ⟨ao2, cap2, rfl, _, _, _, hcell⟩ := R2
  have hc : acc.length ≠ 0 → ∃ g o', ao2 = some ⟨g, o', none⟩ ∧ ∀ i, i < acc.length → w2.cell? ⟨g, o' + i, none⟩ = some (.int .u8 (acc.getD i 0)) := by
    intro h0
    obtain ⟨g, o, h1, _, h2⟩ := hcell (by intro e; subst e; simp at h0)
    exact ⟨g, o, h1, h2⟩
  clear own c1 c2 g2 hz hcell b1
  go_wp2_with (refine wpList_bytes_string _ rfl _ 22 9 5 rfl Try.underlying22 Try.underlying9 Try.underlying5 _ _ _ acc rfl rfl hc ?_)
  go_ret
  exact ⟨_, rfl, by rw [strOfNums_size]; exact hlen, b2⟩

set_option maxHeartbeats 400000 in
theorem at_any (v : Value) (zs : List Int) (w : World) (i : Int) (R : Row w v zs) (hl : zs.length ≤ 1048576) (h0 : 0 ≤ i) (h1 : i ≤ 1000) :
    Calls Try.prog 8 #[v, .int .i64 i] w fun e w' => ∃ x : Int, e = .returned (.int .i64 x) ∧ 0 ≤ x ∧ x ≤ 255 ∧ w' = w := by
  obtain ⟨ao, cap, rfl, hcap, hm, hz, hcell⟩ := R
  obtain ⟨k, rfl⟩ := Int.eq_ofNat_of_zero_le h0
  by_cases hlt : k < zs.length
  · obtain ⟨g, o, hao, hg, hcell2⟩ := hcell (by intro e; subst e; simp at hlt)
    subst hao
    have hc := hcell2 k hlt
    have hzb := hz zs[k] (List.getElem_mem _)
    clear hcell hcell2 hz
    go_enter Try.func8, Try.ntmps8
    go_wp2
    go_ret
    exact ⟨_, rfl, hzb.1, hzb.2, rfl⟩
  · clear hcell hz
    go_enter Try.func8, Try.ntmps8
    go_wp2
    go_ret
    exact ⟨_, rfl, by omega, by omega, rfl⟩

end Go.Proofs.Ythaimhgjfjcbeab
