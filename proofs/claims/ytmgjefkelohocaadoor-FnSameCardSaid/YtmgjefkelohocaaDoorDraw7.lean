/-
  Contract of the draws' l2Spoil: some node, and nothing turned but the cursor.
-/
import Derived.Test.YtmgjefkelohocaaDoorDraw6
namespace Go.Proofs.YtmgjefkelohocaaDoor
open Go.RowKit

def picksI : List Int := [-1, 2, 99, 100, 1000000000, 1000000001, -1000000000, -1000000001]
def picksS : List ByteArray := [⟨#[]⟩, ⟨#[97]⟩, ⟨#[65, 98]⟩, ⟨#[97, 98, 99, 100, 101, 102, 103, 104, 105, 106, 107, 108]⟩, ⟨#[97, 98, 99, 100, 101, 102, 103, 104, 105, 106, 107, 108, 109]⟩, ⟨#[97, 49]⟩]
theorem picksS_size : ∀ s ∈ picksS, s.size ≤ 40 := by decide
theorem nd_cells {w : World} {B : Nat} {y : Nd} (h : w.heap[B]? = some (ndO y)) : w.cell? ⟨B, 0, none⟩ = some (.int .i64 y.k) ∧ w.cell? ⟨B, 1, none⟩ = some (.int .i64 y.n) ∧ w.cell? ⟨B, 2, none⟩ = some (.string y.s) ∧ w.cell? ⟨B, 3, none⟩ = some (.int .i64 y.a) ∧ w.cell? ⟨B, 4, none⟩ = some (.int .i64 y.b) := by
  have hc : ∀ j, w.cell? ⟨B, j, none⟩ = #[Value.int .i64 y.k, .int .i64 y.n, .string y.s, .int .i64 y.a, .int .i64 y.b][j]? := fun j => cell_of_row w _ j _ _ _ h
  exact ⟨hc 0, hc 1, hc 2, hc 3, hc 4⟩
theorem nd_free {w : World} {B : Nat} {y : Nd} (h : w.heap[B]? = some (ndO y)) (j : Nat) : w.frozen? ⟨B, j, none⟩ = false := frozen_of_row w _ j _ _ h
theorem blk_ne {w : World} {B : Nat} {o : Obj} {v : Value} {j : Nat} {D : Nat} (h : w.heap[B]? = some o) (hne : D ≠ B) : (w.setCell ⟨D, j, none⟩ v).heap[B]? = some o := (heap_setCell_other w ⟨D, j, none⟩ B v (fun e => hne e.symm)).trans h

set_option maxHeartbeats 1600000 in
theorem dspoil_any (w0 : World) (v : Value) (zs : List Int) (w : World) (P : Nat) (x : Nd) (c : Cur w0 v zs w P) (hx : x.s.size ≤ 40) :
    Calls Tryd.prog 60 #[.pointer (some ⟨P, 0, none⟩), ndV x] w fun e w' => ∃ y : Nd, e = .returned (ndV y) ∧ y.s.size ≤ 40 ∧ Cur w0 v zs w' P ∧ w.grownBy w' (some P) := by
  have hP := c.lt
  have hB0 : Below w.heap.size w ((w.alloc (ndO x)).alloc (ndO zeroN)) := ((Below.refl _ _).alloc (Nat.le_refl _) _).alloc (by simp) _
  have c0 := c.kept (hB0.mono (show P + 1 ≤ w.heap.size by omega))
  rw [ndV]
  go_enter Tryd.func60, Tryd.ntmps60
  go_wp2_with fail
  refine (below_any w0 v zs _ P 8 c0 (by omega)).mono ?_
  rintro e w1 ⟨r, rfl, hr0, hr1, c1, g1⟩
  have hr := hr1 (by omega)
  have hb1 : w1.heap[w.heap.size]? = some (ndO x) := (g1.block _ (by simp; omega) (by simp; omega)).trans ((heap_alloc_old _ _ (by simp)).trans (heap_alloc_new _ _))
  have hd1 : w1.heap[w.heap.size + 1]? = some (ndO zeroN) := (g1.block _ (by simp) (by simp; omega)).trans (heap_alloc2_new _ _ _)
  have g1' := draw_step hB0 g1
  have hs1 := (Array.getElem?_eq_some_iff.1 hd1).1
  clear hB0 g1 hr1 c0
  by_cases h0 : r = 0
  · subst h0
    go_wp2_with fail
    refine (below_any w0 v zs _ P 11 c1 (by omega)).mono ?_
    rintro e w2 ⟨q, rfl, hq0, hq1, c2, g2⟩
    have hq := hq1 (by omega)
    have hb2 := (g2.block _ (Array.getElem?_eq_some_iff.1 hb1).1 (by simp; omega)).trans hb1
    have hd2 := (g2.block _ hs1 (by simp; omega)).trans hd1
    have g2' := grown_trans g1' g2
    obtain ⟨d0, d1, d2, d3, d4⟩ := nd_cells hb2
    have f0 := nd_free hb2 0
    clear g2 hq1
    go_wp2_with (refine wpList_store_nd rfl _ _ rfl (w.heap.size + 1) (⟨q, x.n, x.s, x.a, x.b⟩) rfl rfl zeroN (blk_ne (j := 0) (v := .int .i64 (q)) hd2 (by omega : w.heap.size ≠ w.heap.size + 1)) ?_)
    intro w5 h5 b5 hs5
    obtain ⟨c6, g6⟩ := draw_done c2 g2' (((Below.refl _ _).setCell (p := ⟨w.heap.size, 0, none⟩) (Nat.le_refl _) _).trans (b5.mono (Nat.le_succ _))) hP
    go_wp2_with fail
    exact bodyPost_ret (results_cell_row rfl _ _ (w.heap.size + 1) 55 _ (0, 0) _ rfl h5 Tryd.underlying55 rfl Tryd.sizeN) rfl ⟨_, rfl, hx, c6, g6⟩
  by_cases h1 : r = 1
  · subst h1
    go_wp2_with fail
    refine (below_any w0 v zs _ P 20 c1 (by omega)).mono ?_
    rintro e w2 ⟨q, rfl, hq0, hq1, c2, g2⟩
    have hq := hq1 (by omega)
    have hb2 := (g2.block _ (Array.getElem?_eq_some_iff.1 hb1).1 (by simp; omega)).trans hb1
    have hd2 := (g2.block _ hs1 (by simp; omega)).trans hd1
    have g2' := grown_trans g1' g2
    obtain ⟨d0, d1, d2, d3, d4⟩ := nd_cells hb2
    have f0 := nd_free hb2 3
    clear g2 hq1
    go_wp2_with (refine wpList_store_nd rfl _ _ rfl (w.heap.size + 1) (⟨x.k, x.n, x.s, q - 1, x.b⟩) rfl rfl zeroN (blk_ne (j := 3) (v := .int .i64 (q - 1)) hd2 (by omega : w.heap.size ≠ w.heap.size + 1)) ?_)
    intro w5 h5 b5 hs5
    obtain ⟨c6, g6⟩ := draw_done c2 g2' (((Below.refl _ _).setCell (p := ⟨w.heap.size, 3, none⟩) (Nat.le_refl _) _).trans (b5.mono (Nat.le_succ _))) hP
    go_wp2_with fail
    exact bodyPost_ret (results_cell_row rfl _ _ (w.heap.size + 1) 55 _ (0, 0) _ rfl h5 Tryd.underlying55 rfl Tryd.sizeN) rfl ⟨_, rfl, hx, c6, g6⟩
  by_cases h2 : r = 2
  · subst h2
    go_wp2_with fail
    refine (below_any w0 v zs _ P 20 c1 (by omega)).mono ?_
    rintro e w2 ⟨q, rfl, hq0, hq1, c2, g2⟩
    have hq := hq1 (by omega)
    have hb2 := (g2.block _ (Array.getElem?_eq_some_iff.1 hb1).1 (by simp; omega)).trans hb1
    have hd2 := (g2.block _ hs1 (by simp; omega)).trans hd1
    have g2' := grown_trans g1' g2
    obtain ⟨d0, d1, d2, d3, d4⟩ := nd_cells hb2
    have f0 := nd_free hb2 4
    clear g2 hq1
    go_wp2_with (refine wpList_store_nd rfl _ _ rfl (w.heap.size + 1) (⟨x.k, x.n, x.s, x.a, q - 1⟩) rfl rfl zeroN (blk_ne (j := 4) (v := .int .i64 (q - 1)) hd2 (by omega : w.heap.size ≠ w.heap.size + 1)) ?_)
    intro w5 h5 b5 hs5
    obtain ⟨c6, g6⟩ := draw_done c2 g2' (((Below.refl _ _).setCell (p := ⟨w.heap.size, 4, none⟩) (Nat.le_refl _) _).trans (b5.mono (Nat.le_succ _))) hP
    go_wp2_with fail
    exact bodyPost_ret (results_cell_row rfl _ _ (w.heap.size + 1) 55 _ (0, 0) _ rfl h5 Tryd.underlying55 rfl Tryd.sizeN) rfl ⟨_, rfl, hx, c6, g6⟩
  by_cases h3 : r = 3
  · subst h3
    have hB1 : Below w1.heap.size w1 (w1.alloc (Obj.cells (picksI.map (Value.int .i64)).toArray 3)) := (Below.refl _ _).alloc (Nat.le_refl _) _
    have hc1 := c1.lt
    go_wp2_with fail
    refine (pick_any w0 v zs _ P w1.heap.size 8 picksI (c1.kept (hB1.mono (by omega))) (by omega) (by decide) (by decide) (by decide) (fun i hi => ints_new w1 picksI 3 i hi)).mono ?_
    rintro e w2 ⟨q, rfl, hq0, hq1, c2, g2⟩
    have hb2 := (g2.block _ (by have := (Array.getElem?_eq_some_iff.1 hb1).1; simp; omega) (by simp; omega)).trans ((heap_alloc_old _ _ (Array.getElem?_eq_some_iff.1 hb1).1).trans hb1)
    have hd2 := (g2.block _ (by simp; omega) (by simp; omega)).trans ((heap_alloc_old _ _ hs1).trans hd1)
    have g2' := grown_trans g1' (draw_step hB1 g2)
    obtain ⟨d0, d1, d2, d3, d4⟩ := nd_cells hb2
    have f0 := nd_free hb2 1
    clear g2 hB1
    go_wp2_with (refine wpList_store_nd rfl _ _ rfl (w.heap.size + 1) (⟨x.k, q, x.s, x.a, x.b⟩) rfl rfl zeroN (blk_ne (j := 1) (v := .int .i64 q) hd2 (by omega : w.heap.size ≠ w.heap.size + 1)) ?_)
    intro w5 h5 b5 hs5
    obtain ⟨c6, g6⟩ := draw_done c2 g2' (((Below.refl _ _).setCell (p := ⟨w.heap.size, 1, none⟩) (Nat.le_refl _) _).trans (b5.mono (Nat.le_succ _))) hP
    go_wp2_with fail
    exact bodyPost_ret (results_cell_row rfl _ _ (w.heap.size + 1) 55 _ (0, 0) _ rfl h5 Tryd.underlying55 rfl Tryd.sizeN) rfl ⟨_, rfl, hx, c6, g6⟩
  by_cases h4 : r = 4
  · subst h4
    have hB1 : Below w1.heap.size w1 (w1.alloc (Obj.cells (picksS.map Value.string).toArray 9)) := (Below.refl _ _).alloc (Nat.le_refl _) _
    have hc1 := c1.lt
    go_wp2_with fail
    refine (picks_any w0 v zs _ P w1.heap.size 6 picksS (c1.kept (hB1.mono (by omega))) (by omega) (by decide) (by decide) (fun i hi => strs_new w1 picksS 9 i hi)).mono ?_
    rintro e w2 ⟨q, hq, rfl, c2, g2⟩
    have hb2 := (g2.block _ (by have := (Array.getElem?_eq_some_iff.1 hb1).1; simp; omega) (by simp; omega)).trans ((heap_alloc_old _ _ (Array.getElem?_eq_some_iff.1 hb1).1).trans hb1)
    have hd2 := (g2.block _ (by simp; omega) (by simp; omega)).trans ((heap_alloc_old _ _ hs1).trans hd1)
    have g2' := grown_trans g1' (draw_step hB1 g2)
    obtain ⟨d0, d1, d2, d3, d4⟩ := nd_cells hb2
    have f0 := nd_free hb2 2
    have hq40 := picksS_size q hq
    clear g2 hB1 hq
    go_wp2_with (refine wpList_store_nd rfl _ _ rfl (w.heap.size + 1) (⟨x.k, x.n, q, x.a, x.b⟩) rfl rfl zeroN (blk_ne (j := 2) (v := .string q) hd2 (by omega : w.heap.size ≠ w.heap.size + 1)) ?_)
    intro w5 h5 b5 hs5
    obtain ⟨c6, g6⟩ := draw_done c2 g2' (((Below.refl _ _).setCell (p := ⟨w.heap.size, 2, none⟩) (Nat.le_refl _) _).trans (b5.mono (Nat.le_succ _))) hP
    go_wp2_with fail
    exact bodyPost_ret (results_cell_row rfl _ _ (w.heap.size + 1) 55 _ (0, 0) _ rfl h5 Tryd.underlying55 rfl Tryd.sizeN) rfl ⟨_, rfl, hq40, c6, g6⟩
  · obtain ⟨d0, d1, d2, d3, d4⟩ := nd_cells hb1
    go_wp2_with (refine wpList_store_nd rfl _ _ rfl (w.heap.size + 1) (x) rfl rfl zeroN (hd1) ?_)
    intro w5 h5 b5 hs5
    obtain ⟨c6, g6⟩ := draw_done c1 g1' ((b5.mono (Nat.le_succ _))) hP
    go_wp2_with fail
    exact bodyPost_ret (results_cell_row rfl _ _ (w.heap.size + 1) 55 _ (0, 0) _ rfl h5 Tryd.underlying55 rfl Tryd.sizeN) rfl ⟨_, rfl, hx, c6, g6⟩
end Go.Proofs.YtmgjefkelohocaaDoor
