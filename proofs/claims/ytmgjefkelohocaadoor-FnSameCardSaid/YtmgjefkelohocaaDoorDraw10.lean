/-
  Contracts of the draws' l2DrawAt and DrawSizeOf.
-/
import Derived.Test.YtmgjefkelohocaaDoorDraw9
namespace Go.Proofs.YtmgjefkelohocaaDoor
open Go.RowKit

theorem wrapB (x : Int) : -9223372036854775808 ≤ IntKind.i64.wrap x ∧ IntKind.i64.wrap x ≤ 9223372036854775807 := by rw [IntKind.wrap_i64]; omega

set_option maxRecDepth 100000 in
set_option maxHeartbeats 1600000 in
theorem ddrawat_any (w0 : World) (v : Value) (zs : List Int) (w : World) (P : Nat) (ao : Option Addr) (n cap : Nat) (c : Cur w0 v zs w P) (hn : n ≤ 100000) :
    Calls Tryd.prog 34 #[.pointer (some ⟨P, 0, none⟩), .agg #[.slice ao n cap]] w fun e w' => ∃ x : Int, e = .returned (.int .i64 x) ∧ -9223372036854775808 ≤ x ∧ x ≤ 9223372036854775807 ∧ Cur w0 v zs w' P ∧ w.grownBy w' (some P) := by
  have hP := c.lt
  have hB0 : Below w.heap.size w (w.alloc (.cells #[.slice ao n cap] 26)) := (Below.refl _ _).alloc (Nat.le_refl _) _
  have c0 := c.kept (hB0.mono (show P + 1 ≤ w.heap.size by omega))
  have g0' : w.grownBy (w.alloc (.cells #[.slice ao n cap] 26)) (some P) := World.grownBy_alloc w _ _
  have hb0 : (w.alloc (.cells #[.slice ao n cap] 26)).heap[w.heap.size]? = some (.cells #[.slice ao n cap] 26 (0, 0)) := heap_alloc_new _ _
  have hpick : ∀ (w1 : World) (B : Nat) (nn : Int), B = w1.heap.size → 0 ≤ nn → nn ≤ 100000 → Cur w0 v zs w1 P → w.grownBy w1 (some P) → Calls Tryd.prog 63 #[.pointer (some ⟨P, 0, none⟩), .slice (some ⟨B, 0, none⟩) 3 3] (w1.alloc (Obj.cells #[.int .i64 (-1), .int .i64 0, .int .i64 nn] 3)) fun e w' => ∃ x : Int, e = .returned (.int .i64 x) ∧ -9223372036854775808 ≤ x ∧ x ≤ 9223372036854775807 ∧ Cur w0 v zs w' P ∧ w.grownBy w' (some P) := by
    intro w1 B nn hBe hnn0 hnn1 c1 g1
    subst hBe
    have hlt := c1.lt
    have hB1 : Below w1.heap.size w1 (w1.alloc (Obj.cells #[.int .i64 (-1), .int .i64 0, .int .i64 nn] 3)) := (Below.refl _ _).alloc (Nat.le_refl _) _
    have hr : ∀ y ∈ [(-1 : Int), 0, nn], -9223372036854775808 ≤ y ∧ y ≤ 9223372036854775807 := by
      intro y hy
      simp only [List.mem_cons, List.not_mem_nil, or_false] at hy
      omega
    refine (pick_any w0 v zs _ P w1.heap.size 3 [-1, 0, nn] (c1.kept (hB1.mono (by omega))) (by omega) (by simp) (by simp) hr (fun i hi => ints_new w1 [-1, 0, nn] 3 i hi)).mono ?_
    rintro e w2 ⟨q, rfl, hq0, hq1, c2, g2⟩
    exact ⟨q, rfl, hq0, hq1, c2, grown_trans g1 (draw_step hB1 g2)⟩
  by_cases h0 : n = 0
  · subst h0
    go_enter Tryd.func34, Tryd.ntmps34
    go_wp2_with fail
    refine (hpick (w.alloc (.cells #[.slice ao 0 cap] 26)) (w.heap.size + 1) 0 (by simp) (by omega) (by omega) c0 g0').mono ?_
    rintro e w2 ⟨q, rfl, hq0, hq1, c2, g2⟩
    go_wp2_with fail
    go_ret
    exact ⟨q, rfl, hq0, hq1, c2, g2⟩
  · have h0' : ¬ (n : Int) = 0 := by omega
    have h1 : 0 < n := by omega
    go_enter Tryd.func34, Tryd.ntmps34
    go_wp2_with fail
    refine (once_any w0 v zs _ P 20 c0 (by omega)).mono ?_
    rintro e w1 ⟨b, rfl, c1, g1⟩
    have g1' := grown_trans g0' g1
    have hb1 : w1.heap[w.heap.size]? = some (.cells #[.slice ao n cap] 26 (0, 0)) := (g1.block _ (by simp) (by simp; omega)).trans hb0
    have hc1 : w1.cell? ⟨w.heap.size, 0, none⟩ = some (.slice ao n cap) := by rw [cell_of_row w1 _ 0 _ _ _ hb1]; rfl
    have hsz1 := (Array.getElem?_eq_some_iff.1 hb1).1
    clear c0 g0' hb0 hB0 g1
    cases b with
    | true =>
      go_wp2_with fail
      refine (hpick w1 w1.heap.size n rfl (by omega) (by omega) c1 g1').mono ?_
      rintro e w2 ⟨q, rfl, hq0, hq1, c2, g2⟩
      go_wp2_with fail
      go_ret
      exact ⟨q, rfl, hq0, hq1, c2, g2⟩
    | false =>
      clear hpick
      go_wp2_with fail
      go_region_with (first
        | (go_at_call 64; refine (lmin_any _ _ _).mono ?_; rintro e w2 ⟨rfl, rfl⟩)
        | (go_at_call 32; refine (below_any w0 v zs _ P (min (n : Int) 9) ?_ (by omega)).mono ?_; exact c1.kept ⟨rfl, rfl, rfl, Nat.le_refl _, fun _ _ => rfl⟩; rintro e w3 ⟨x, rfl, hx0, hx1, c3, g3⟩; have g3' : w1.grownBy w3 (some P) := ⟨g3.os, g3.tape, g3.output, g3.size, g3.block⟩; have hb3 := (g3'.block _ hsz1 (by simp; omega)).trans hb1; have hc3 : w3.cell? ⟨w.heap.size, 0, none⟩ = some (.slice ao n cap) := cell_of_row w3 _ 0 _ _ _ hb3; have hx := hx1 (by omega)))
      all_goals
        clear hx1
        go_wp2_with fail
        go_ret
        refine ⟨_, rfl, (wrapB _).1, (wrapB _).2, ?_⟩
        exact ⟨c3.kept ⟨rfl, rfl, rfl, Nat.le_refl _, fun _ _ => rfl⟩, grown_trans g1' ⟨g3'.os, g3'.tape, g3'.output, g3'.size, g3'.block⟩⟩
end Go.Proofs.YtmgjefkelohocaaDoor
