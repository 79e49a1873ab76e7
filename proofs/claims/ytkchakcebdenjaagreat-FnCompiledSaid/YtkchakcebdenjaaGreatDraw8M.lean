/-
  Texts that stood by themselves, laid into one.
-/
import Derived.Test.YtkchakcebdenjaaGreatDExprM
import Derived.Test.YtkchakcebdenjaaGreatDraw6M
import Derived.Test.YtkchakcebdenjaaGreatSList2M
import Derived.Deep.CutRange
/-
  The contracts of spec.l4Texts and spec.l4DrawProgram: a text that is not blank. No condition.
-/
namespace Go.Proofs.YtkchakcebdenjaaGreat
open Go.RowKit
def texts18 : List ByteArray := [⟨#[40, 100, 101, 102, 105, 110, 101, 32, 40, 102, 32, 110, 41, 32, 40, 105, 102, 32, 40, 60, 32, 110, 32, 50, 41, 32, 110, 32, 40, 43, 32, 40, 102, 32, 40, 45, 32, 110, 32, 49, 41, 41, 32, 40, 102, 32, 40, 45, 32, 110, 32, 50, 41, 41, 41, 41, 41, 32, 40, 102, 32, 54, 41]⟩, ⟨#[40, 100, 101, 102, 105, 110, 101, 32, 40, 117, 112, 32, 110, 41, 32, 40, 105, 102, 32, 40, 60, 32, 110, 32, 51, 41, 32, 40, 100, 111, 32, 40, 112, 114, 105, 110, 116, 32, 110, 41, 32, 40, 117, 112, 32, 40, 43, 32, 110, 32, 49, 41, 41, 41, 32, 110, 41, 41, 32, 40, 117, 112, 32, 48, 41]⟩, ⟨#[40, 108, 101, 116, 32, 120, 32, 53, 32, 40, 108, 101, 116, 32, 102, 32, 40, 102, 110, 32, 40, 121, 41, 32, 40, 43, 32, 120, 32, 121, 41, 41, 32, 40, 112, 114, 105, 110, 116, 32, 40, 102, 32, 52, 41, 41, 41, 41]⟩, ⟨#[40, 112, 114, 105, 110, 116, 32, 40, 99, 97, 108, 108, 99, 99, 32, 40, 102, 110, 32, 40, 107, 41, 32, 40, 100, 111, 32, 40, 107, 32, 55, 41, 32, 56, 41, 41, 41, 41]⟩, ⟨#[40, 100, 101, 102, 105, 110, 101, 32, 40, 109, 97, 112, 32, 102, 32, 108, 41, 32, 40, 105, 102, 32, 40, 110, 117, 108, 108, 63, 32, 108, 41, 32, 40, 41, 32, 40, 99, 111, 110, 115, 32, 40, 102, 32, 40, 99, 97, 114, 32, 108, 41, 41, 32, 40, 109, 97, 112, 32, 102, 32, 40, 99, 100, 114, 32, 108, 41, 41, 41, 41, 41, 32, 40, 112, 114, 105, 110, 116, 32, 40, 109, 97, 112, 32, 40, 102, 110, 32, 40, 120, 41, 32, 40, 42, 32, 120, 32, 120, 41, 41, 32, 40, 113, 117, 111, 116, 101, 32, 40, 49, 32, 50, 32, 51, 41, 41, 41, 41]⟩, ⟨#[40, 100, 111, 32, 40, 115, 112, 97, 119, 110, 32, 40, 102, 110, 32, 40, 41, 32, 40, 100, 111, 32, 40, 112, 114, 105, 110, 116, 32, 49, 41, 32, 40, 112, 114, 105, 110, 116, 32, 50, 41, 41, 41, 41, 32, 40, 112, 114, 105, 110, 116, 32, 51, 41, 41]⟩, ⟨#[40, 108, 101, 116, 32, 112, 32, 40, 115, 112, 97, 119, 110, 32, 40, 102, 110, 32, 40, 41, 32, 40, 112, 114, 105, 110, 116, 32, 40, 114, 101, 99, 118, 41, 41, 41, 41, 32, 40, 100, 111, 32, 40, 115, 101, 110, 100, 32, 112, 32, 40, 113, 117, 111, 116, 101, 32, 40, 97, 32, 98, 41, 41, 41, 32, 48, 41, 41]⟩, ⟨#[40, 108, 101, 116, 32, 112, 32, 40, 115, 112, 97, 119, 110, 32, 40, 102, 110, 32, 40, 41, 32, 40, 108, 101, 116, 32, 102, 32, 40, 114, 101, 99, 118, 41, 32, 40, 112, 114, 105, 110, 116, 32, 40, 102, 32, 53, 41, 41, 41, 41, 41, 32, 40, 108, 101, 116, 32, 122, 32, 57, 32, 40, 115, 101, 110, 100, 32, 112, 32, 40, 102, 110, 32, 40, 120, 41, 32, 40, 43, 32, 120, 32, 122, 41, 41, 41, 41, 41]⟩, ⟨#[40, 100, 111, 32, 40, 112, 114, 105, 110, 116, 32, 49, 41, 32, 40, 103, 111, 32, 49, 41, 32, 40, 112, 114, 105, 110, 116, 32, 50, 41, 32, 40, 103, 111, 32, 48, 41, 32, 40, 112, 114, 105, 110, 116, 32, 51, 41, 41]⟩, ⟨#[40, 108, 101, 116, 32, 109, 101, 32, 40, 115, 101, 108, 102, 41, 32, 40, 100, 111, 32, 40, 115, 112, 97, 119, 110, 32, 40, 102, 110, 32, 40, 41, 32, 40, 100, 111, 32, 40, 103, 111, 32, 49, 41, 32, 40, 115, 101, 110, 100, 32, 109, 101, 32, 52, 50, 41, 41, 41, 41, 32, 40, 112, 114, 105, 110, 116, 32, 40, 114, 101, 99, 118, 41, 41, 41, 41]⟩, ⟨#[40, 100, 101, 102, 105, 110, 101, 32, 40, 108, 111, 111, 112, 32, 110, 41, 32, 40, 105, 102, 32, 40, 61, 32, 110, 32, 48, 41, 32, 40, 112, 114, 105, 110, 116, 32, 40, 113, 117, 111, 116, 101, 32, 101, 110, 100, 41, 41, 32, 40, 108, 111, 111, 112, 32, 40, 45, 32, 110, 32, 49, 41, 41, 41, 41, 32, 40, 108, 111, 111, 112, 32, 57, 41]⟩, ⟨#[40, 112, 114, 105, 110, 116, 32, 40, 99, 97, 114, 32, 40, 113, 117, 111, 116, 101, 32, 40, 41, 41, 41, 41]⟩, ⟨#[40, 112, 114, 105, 110, 116, 32, 40, 102, 32, 49, 41, 41]⟩, ⟨#[40, 43, 32, 49, 32, 35, 116, 41]⟩, ⟨#[40, 112, 114, 105, 110, 116, 32, 40, 99, 111, 110, 115, 32, 49, 32, 40, 99, 111, 110, 115, 32, 50, 32, 40, 41, 41, 41, 41]⟩, ⟨#[40, 100, 101, 102, 105, 110, 101, 32, 40, 112, 105, 110, 103, 32, 112, 32, 110, 41, 32, 40, 105, 102, 32, 40, 60, 32, 110, 32, 49, 41, 32, 48, 32, 40, 100, 111, 32, 40, 115, 101, 110, 100, 32, 112, 32, 110, 41, 32, 40, 112, 114, 105, 110, 116, 32, 40, 114, 101, 99, 118, 41, 41, 32, 40, 112, 105, 110, 103, 32, 112, 32, 40, 45, 32, 110, 32, 49, 41, 41, 41, 41, 41, 32, 40, 108, 101, 116, 32, 109, 101, 32, 40, 115, 101, 108, 102, 41, 32, 40, 112, 105, 110, 103, 32, 40, 115, 112, 97, 119, 110, 32, 40, 102, 110, 32, 40, 41, 32, 40, 100, 111, 32, 40, 103, 111, 32, 49, 41, 32, 40, 115, 101, 110, 100, 32, 109, 101, 32, 40, 43, 32, 49, 48, 32, 40, 114, 101, 99, 118, 41, 41, 41, 32, 40, 115, 101, 110, 100, 32, 109, 101, 32, 40, 43, 32, 49, 48, 32, 40, 114, 101, 99, 118, 41, 41, 41, 41, 41, 41, 32, 50, 41, 41]⟩, ⟨#[40, 108, 101, 116, 32, 107, 32, 40, 99, 97, 108, 108, 99, 99, 32, 40, 102, 110, 32, 40, 99, 41, 32, 99, 41, 41, 32, 40, 105, 102, 32, 40, 112, 97, 105, 114, 63, 32, 107, 41, 32, 40, 112, 114, 105, 110, 116, 32, 40, 99, 97, 114, 32, 107, 41, 41, 32, 40, 107, 32, 40, 113, 117, 111, 116, 101, 32, 40, 53, 41, 41, 41, 41, 41]⟩, ⟨#[40, 108, 101, 116, 32, 112, 32, 40, 115, 112, 97, 119, 110, 32, 40, 102, 110, 32, 40, 41, 32, 40, 100, 111, 32, 40, 103, 111, 32, 49, 41, 32, 40, 108, 101, 116, 32, 107, 32, 40, 114, 101, 99, 118, 41, 32, 40, 107, 32, 56, 41, 41, 41, 41, 41, 32, 40, 112, 114, 105, 110, 116, 32, 40, 99, 97, 108, 108, 99, 99, 32, 40, 102, 110, 32, 40, 107, 41, 32, 40, 100, 111, 32, 40, 115, 101, 110, 100, 32, 112, 32, 107, 41, 32, 51, 41, 41, 41, 41, 41]⟩]
set_option maxRecDepth 100000 in
theorem texts18_ok : ∀ s ∈ texts18, s.size ≤ 300 ∧ Hd s := by
  intro s hs
  simp only [texts18, List.mem_cons, List.not_mem_nil, or_false] at hs
  rcases hs with rfl | rfl | rfl | rfl | rfl | rfl | rfl | rfl | rfl | rfl | rfl | rfl | rfl | rfl | rfl | rfl | rfl | rfl <;> exact ⟨by decide, _, _, rfl, by decide⟩
set_option maxRecDepth 100000 in
set_option maxHeartbeats 3200000 in
theorem dtexts_any (w : World) : Calls Tryz.prog 77 #[] w fun e w' => e = .returned (.slice (some ⟨w.heap.size, 0, none⟩) 18 18) ∧ w' = w.alloc (Obj.cells (texts18.map Value.string).toArray 9) := by
  go_enter Tryz.func77, Tryz.ntmps77
  go_wp2_with fail
  go_ret
  exact ⟨rfl, rfl⟩
set_option maxRecDepth 100000 in
set_option maxHeartbeats 3200000 in
theorem dprog_any (w0 : World) (v : Value) (zs : List Int) (P : Nat) (w : World) (c : Cur w0 v zs w P) :
    Calls Tryz.prog 43 #[.pointer (some ⟨P, 0, none⟩)] w fun e w' => ∃ s : ByteArray, e = .returned (.string s) ∧ s.size ≤ 1500 ∧ Hd s ∧ Cur w0 v zs w' P ∧ w.grownBy w' (some P) := by
  go_enter Tryz.func43, Tryz.ntmps43
  go_wp2_with fail
  refine (once_any w0 v zs _ P 4 c (by omega)).mono ?_
  rintro e w1 ⟨b, rfl, c1, g1⟩
  have hP := c1.lt
  cases b with
  | false =>
    have hB1 : Below w1.heap.size w1 (w1.alloc (Obj.cells (texts18.map Value.string).toArray 9)) := (Below.refl _ _).alloc (Nat.le_refl _) _
    go_wp2_with fail
    refine (dtexts_any w1).mono ?_
    rintro e w2 ⟨rfl, hw2⟩
    have hst : ∀ i, i < texts18.length → w2.cell? ⟨w1.heap.size, i, none⟩ = some (.string (texts18.getD i ByteArray.empty)) := fun i hi => by rw [hw2]; exact strs_new w1 texts18 9 i hi
    have hb2 : Below w1.heap.size w1 w2 := by rw [hw2]; exact hB1
    have HST : Hid (∀ i, i < texts18.length → w2.cell? ⟨w1.heap.size, i, none⟩ = some (.string (texts18.getD i ByteArray.empty))) := hst
    clear hw2 hB1 hst
    go_wp2_with fail
    refine (picks_any w0 v zs _ P w1.heap.size 18 texts18 (c1.kept (hb2.mono (by omega))) (by omega) (by decide) (by decide) HST.out).mono ?_
    rintro e w3 ⟨s, hs, rfl, c3, g3⟩
    have hs10 := texts18_ok s hs
    have g3' := grown_trans g1 (draw_step hb2 g3)
    clear hs
    go_wp2_with fail
    go_ret
    exact ⟨s, rfl, by omega, hs10.2, c3, g3'⟩
  | true =>
    go_wp2_with fail
    refine (dexpr_any w0 v zs P 3 (by omega) 3 rfl (by omega) _ c1).mono ?_
    rintro e w3 ⟨s, rfl, hs, hh, c3, g3⟩
    have hB := eB_le (show 3 ≤ 3 by omega)
    have g3' := grown_trans g1 g3
    go_wp2_with fail
    go_ret
    exact ⟨s, rfl, by omega, hh, c3, g3'⟩
end Go.Proofs.YtkchakcebdenjaaGreat
/-
  Contract of the draws' l2Spoil: some node, and nothing turned but the cursor.
-/
namespace Go.Proofs.YtkchakcebdenjaaGreat
open Go.RowKit
def picksI : List Int := [-1, 2, 99, 100, 1000000000, 1000000001, -1000000000, -1000000001]
def picksS : List ByteArray := [⟨#[]⟩, ⟨#[97]⟩, ⟨#[65, 98]⟩, ⟨#[97, 98, 99, 100, 101, 102, 103, 104, 105, 106, 107, 108]⟩, ⟨#[97, 98, 99, 100, 101, 102, 103, 104, 105, 106, 107, 108, 109]⟩, ⟨#[97, 49]⟩]
theorem picksS_size : ∀ s ∈ picksS, s.size ≤ 40 := by decide
theorem nd_cells {w : World} {B : Nat} {y : Nd} (h : w.heap[B]? = some (ndO y)) : w.cell? ⟨B, 0, none⟩ = some (.int .i64 y.k) ∧ w.cell? ⟨B, 1, none⟩ = some (.int .i64 y.n) ∧ w.cell? ⟨B, 2, none⟩ = some (.string y.s) ∧ w.cell? ⟨B, 3, none⟩ = some (.int .i64 y.a) ∧ w.cell? ⟨B, 4, none⟩ = some (.int .i64 y.b) := by
  have hc : ∀ j, w.cell? ⟨B, j, none⟩ = #[Value.int .i64 y.k, .int .i64 y.n, .string y.s, .int .i64 y.a, .int .i64 y.b][j]? := fun j => cell_of_row w _ j _ _ _ h
  exact ⟨hc 0, hc 1, hc 2, hc 3, hc 4⟩
theorem nd_free {w : World} {B : Nat} {y : Nd} (h : w.heap[B]? = some (ndO y)) (j : Nat) : w.frozen? ⟨B, j, none⟩ = false := frozen_of_row w _ j _ _ h
theorem blk_ne {w : World} {B : Nat} {o : Obj} {v : Value} {j : Nat} {D : Nat} (h : w.heap[B]? = some o) (hne : D ≠ B) : (w.setCell ⟨D, j, none⟩ v).heap[B]? = some o := (heap_setCell_other w ⟨D, j, none⟩ B v (fun e => hne e.symm)).trans h
set_option maxHeartbeats 1600000 in
theorem dspoil_any (w0 : World) (v : Value) (zs : List Int) (w : World) (P : Nat) (x : Nd) (c : Cur w0 v zs w P) (hx : x.s.size ≤ 40) :
    Calls Tryz.prog 85 #[.pointer (some ⟨P, 0, none⟩), ndV x] w fun e w' => ∃ y : Nd, e = .returned (ndV y) ∧ y.s.size ≤ 40 ∧ Cur w0 v zs w' P ∧ w.grownBy w' (some P) := by
  have hP := c.lt
  have hB0 : Below w.heap.size w ((w.alloc (ndO x)).alloc (ndO zeroN)) := ((Below.refl _ _).alloc (Nat.le_refl _) _).alloc (by simp) _
  have c0 := c.kept (hB0.mono (show P + 1 ≤ w.heap.size by omega))
  rw [ndV]
  go_enter Tryz.func85, Tryz.ntmps85
  go_wp2_with fail
  refine (below_any w0 v zs _ P 8 c0 (by omega)).mono ?_
  rintro e w1 ⟨r, rfl, hr0, hr1, c1, g1⟩
  have hr := hr1 (by omega)
  have hb1 : w1.heap[w.heap.size]? = some (ndO x) := (g1.block _ (by simp; omega) (by simp; omega)).trans ((heap_alloc_old _ _ (by simp)).trans (heap_alloc_new _ _))
  have hd1 : w1.heap[w.heap.size + 1]? = some (ndO zeroN) := (g1.block _ (by simp) (by simp; omega)).trans (heap_alloc2_new _ _ _)
  have g1' := draw_step hB0 g1
  have hs1 := (Array.getElem?_eq_some_iff.1 hd1).1
  clear hB0 g1 hr1 c0
  by_cases h0 : r = 0
  · subst h0
    go_wp2_with fail
    refine (below_any w0 v zs _ P 11 c1 (by omega)).mono ?_
    rintro e w2 ⟨q, rfl, hq0, hq1, c2, g2⟩
    have hq := hq1 (by omega)
    have hb2 := (g2.block _ (Array.getElem?_eq_some_iff.1 hb1).1 (by simp; omega)).trans hb1
    have hd2 := (g2.block _ hs1 (by simp; omega)).trans hd1
    have g2' := grown_trans g1' g2
    obtain ⟨d0, d1, d2, d3, d4⟩ := nd_cells hb2
    have f0 := nd_free hb2 0
    clear g2 hq1
    go_wp2_with (refine wpList_store_nd rfl _ _ rfl (w.heap.size + 1) (⟨q, x.n, x.s, x.a, x.b⟩) rfl rfl zeroN (blk_ne (j := 0) (v := .int .i64 (q)) hd2 (by omega : w.heap.size ≠ w.heap.size + 1)) ?_)
    intro w5 h5 b5 hs5
    obtain ⟨c6, g6⟩ := draw_done c2 g2' (((Below.refl _ _).setCell (p := ⟨w.heap.size, 0, none⟩) (Nat.le_refl _) _).trans (b5.mono (Nat.le_succ _))) hP
    go_wp2_with fail
    exact bodyPost_ret (results_cell_row rfl _ _ (w.heap.size + 1) 92 _ (0, 0) _ rfl h5 Tryz.underlying92 rfl Tryz.sizeN) rfl ⟨_, rfl, hx, c6, g6⟩
  by_cases h1 : r = 1
  · subst h1
    go_wp2_with fail
    refine (below_any w0 v zs _ P 20 c1 (by omega)).mono ?_
    rintro e w2 ⟨q, rfl, hq0, hq1, c2, g2⟩
    have hq := hq1 (by omega)
    have hb2 := (g2.block _ (Array.getElem?_eq_some_iff.1 hb1).1 (by simp; omega)).trans hb1
    have hd2 := (g2.block _ hs1 (by simp; omega)).trans hd1
    have g2' := grown_trans g1' g2
    obtain ⟨d0, d1, d2, d3, d4⟩ := nd_cells hb2
    have f0 := nd_free hb2 3
    clear g2 hq1
    go_wp2_with (refine wpList_store_nd rfl _ _ rfl (w.heap.size + 1) (⟨x.k, x.n, x.s, q - 1, x.b⟩) rfl rfl zeroN (blk_ne (j := 3) (v := .int .i64 (q - 1)) hd2 (by omega : w.heap.size ≠ w.heap.size + 1)) ?_)
    intro w5 h5 b5 hs5
    obtain ⟨c6, g6⟩ := draw_done c2 g2' (((Below.refl _ _).setCell (p := ⟨w.heap.size, 3, none⟩) (Nat.le_refl _) _).trans (b5.mono (Nat.le_succ _))) hP
    go_wp2_with fail
    exact bodyPost_ret (results_cell_row rfl _ _ (w.heap.size + 1) 92 _ (0, 0) _ rfl h5 Tryz.underlying92 rfl Tryz.sizeN) rfl ⟨_, rfl, hx, c6, g6⟩
  by_cases h2 : r = 2
  · subst h2
    go_wp2_with fail
    refine (below_any w0 v zs _ P 20 c1 (by omega)).mono ?_
    rintro e w2 ⟨q, rfl, hq0, hq1, c2, g2⟩
    have hq := hq1 (by omega)
    have hb2 := (g2.block _ (Array.getElem?_eq_some_iff.1 hb1).1 (by simp; omega)).trans hb1
    have hd2 := (g2.block _ hs1 (by simp; omega)).trans hd1
    have g2' := grown_trans g1' g2
    obtain ⟨d0, d1, d2, d3, d4⟩ := nd_cells hb2
    have f0 := nd_free hb2 4
    clear g2 hq1
    go_wp2_with (refine wpList_store_nd rfl _ _ rfl (w.heap.size + 1) (⟨x.k, x.n, x.s, x.a, q - 1⟩) rfl rfl zeroN (blk_ne (j := 4) (v := .int .i64 (q - 1)) hd2 (by omega : w.heap.size ≠ w.heap.size + 1)) ?_)
    intro w5 h5 b5 hs5
    obtain ⟨c6, g6⟩ := draw_done c2 g2' (((Below.refl _ _).setCell (p := ⟨w.heap.size, 4, none⟩) (Nat.le_refl _) _).trans (b5.mono (Nat.le_succ _))) hP
    go_wp2_with fail
    exact bodyPost_ret (results_cell_row rfl _ _ (w.heap.size + 1) 92 _ (0, 0) _ rfl h5 Tryz.underlying92 rfl Tryz.sizeN) rfl ⟨_, rfl, hx, c6, g6⟩
  by_cases h3 : r = 3
  · subst h3
    have hB1 : Below w1.heap.size w1 (w1.alloc (Obj.cells (picksI.map (Value.int .i64)).toArray 3)) := (Below.refl _ _).alloc (Nat.le_refl _) _
    have hc1 := c1.lt
    go_wp2_with fail
    refine (pick_any w0 v zs _ P w1.heap.size 8 picksI (c1.kept (hB1.mono (by omega))) (by omega) (by decide) (by decide) (by decide) (fun i hi => ints_new w1 picksI 3 i hi)).mono ?_
    rintro e w2 ⟨q, rfl, hq0, hq1, c2, g2⟩
    have hb2 := (g2.block _ (by have := (Array.getElem?_eq_some_iff.1 hb1).1; simp; omega) (by simp; omega)).trans ((heap_alloc_old _ _ (Array.getElem?_eq_some_iff.1 hb1).1).trans hb1)
    have hd2 := (g2.block _ (by simp; omega) (by simp; omega)).trans ((heap_alloc_old _ _ hs1).trans hd1)
    have g2' := grown_trans g1' (draw_step hB1 g2)
    obtain ⟨d0, d1, d2, d3, d4⟩ := nd_cells hb2
    have f0 := nd_free hb2 1
    clear g2 hB1
    go_wp2_with (refine wpList_store_nd rfl _ _ rfl (w.heap.size + 1) (⟨x.k, q, x.s, x.a, x.b⟩) rfl rfl zeroN (blk_ne (j := 1) (v := .int .i64 q) hd2 (by omega : w.heap.size ≠ w.heap.size + 1)) ?_)
    intro w5 h5 b5 hs5
    obtain ⟨c6, g6⟩ := draw_done c2 g2' (((Below.refl _ _).setCell (p := ⟨w.heap.size, 1, none⟩) (Nat.le_refl _) _).trans (b5.mono (Nat.le_succ _))) hP
    go_wp2_with fail
    exact bodyPost_ret (results_cell_row rfl _ _ (w.heap.size + 1) 92 _ (0, 0) _ rfl h5 Tryz.underlying92 rfl Tryz.sizeN) rfl ⟨_, rfl, hx, c6, g6⟩
  by_cases h4 : r = 4
  · subst h4
    have hB1 : Below w1.heap.size w1 (w1.alloc (Obj.cells (picksS.map Value.string).toArray 9)) := (Below.refl _ _).alloc (Nat.le_refl _) _
    have hc1 := c1.lt
    go_wp2_with fail
    refine (picks_any w0 v zs _ P w1.heap.size 6 picksS (c1.kept (hB1.mono (by omega))) (by omega) (by decide) (by decide) (fun i hi => strs_new w1 picksS 9 i hi)).mono ?_
    rintro e w2 ⟨q, hq, rfl, c2, g2⟩
    have hb2 := (g2.block _ (by have := (Array.getElem?_eq_some_iff.1 hb1).1; simp; omega) (by simp; omega)).trans ((heap_alloc_old _ _ (Array.getElem?_eq_some_iff.1 hb1).1).trans hb1)
    have hd2 := (g2.block _ (by simp; omega) (by simp; omega)).trans ((heap_alloc_old _ _ hs1).trans hd1)
    have g2' := grown_trans g1' (draw_step hB1 g2)
    obtain ⟨d0, d1, d2, d3, d4⟩ := nd_cells hb2
    have f0 := nd_free hb2 2
    have hq40 := picksS_size q hq
    clear g2 hB1 hq
    go_wp2_with (refine wpList_store_nd rfl _ _ rfl (w.heap.size + 1) (⟨x.k, x.n, q, x.a, x.b⟩) rfl rfl zeroN (blk_ne (j := 2) (v := .string q) hd2 (by omega : w.heap.size ≠ w.heap.size + 1)) ?_)
    intro w5 h5 b5 hs5
    obtain ⟨c6, g6⟩ := draw_done c2 g2' (((Below.refl _ _).setCell (p := ⟨w.heap.size, 2, none⟩) (Nat.le_refl _) _).trans (b5.mono (Nat.le_succ _))) hP
    go_wp2_with fail
    exact bodyPost_ret (results_cell_row rfl _ _ (w.heap.size + 1) 92 _ (0, 0) _ rfl h5 Tryz.underlying92 rfl Tryz.sizeN) rfl ⟨_, rfl, hq40, c6, g6⟩
  · obtain ⟨d0, d1, d2, d3, d4⟩ := nd_cells hb1
    go_wp2_with (refine wpList_store_nd rfl _ _ rfl (w.heap.size + 1) (x) rfl rfl zeroN (hd1) ?_)
    intro w5 h5 b5 hs5
    obtain ⟨c6, g6⟩ := draw_done c1 g1' ((b5.mono (Nat.le_succ _))) hP
    go_wp2_with fail
    exact bodyPost_ret (results_cell_row rfl _ _ (w.heap.size + 1) 92 _ (0, 0) _ rfl h5 Tryz.underlying92 rfl Tryz.sizeN) rfl ⟨_, rfl, hx, c6, g6⟩
end Go.Proofs.YtkchakcebdenjaaGreat
/-
  Contracts of the draws of pools: l2DrawRight, l2Draw: some pool of the call's own, and nothing turned but the cursor.
-/
namespace Go.Proofs.YtkchakcebdenjaaGreat
open Go.RowKit
theorem own_not {w : World} {base k : Nat} {e : TypeId} {v : Value} {n : Nat} {xs : List Value} (h : w.ownsRow base e k v n xs) {P : Nat} (hP : P < base) : v.ownBlock = none ∨ v.ownBlock ≠ some P := by
  cases hv : v.ownBlock with
  | none => exact Or.inl rfl
  | some k => right; intro e; have := (h.lt k hv).1; simp at e; omega
def PV (w : World) (b base : Nat) (xs : List Nd) : Prop := ∃ v', w.heap[b]? = some (.cells #[v'] 29 (0, 0)) ∧ w.ownsRow base 92 5 v' xs.length (ncs xs)
theorem PV.kept {w w' : World} {b base P : Nat} {xs : List Nd} (h : PV w b base xs) (hg : w.grownBy w' (some P)) (hP : P < base) (hb : P ≠ b) : PV w' b base xs := by
  obtain ⟨v', h1, h2⟩ := h
  exact ⟨v', (hg.block b (Array.getElem?_eq_some_iff.1 h1).1 (by simpa using fun e => hb e.symm)).trans h1, h2.kept hg (own_not h2 hP)⟩
set_option maxHeartbeats 1600000 in
theorem dright_any (w0 : World) (v : Value) (zs : List Int) (w : World) (P : Nat) (c : Cur w0 v zs w P) :
    Calls Tryz.prog 84 #[.pointer (some ⟨P, 0, none⟩)] w fun e w' => ∃ (v' : Value) (xs : List Nd), e = .returned (.agg #[v']) ∧ xs.length ≤ 15 ∧ (∀ x ∈ xs, x.s.size ≤ 40) ∧ w'.ownsRow w.heap.size 92 5 v' xs.length (ncs xs) ∧ Cur w0 v zs w' P ∧ w.grownBy w' (some P) := by
  have hP := c.lt
  have hB0 : Below w.heap.size w ((w.alloc (.cells #[.slice none 0 0] 29)).alloc (.cells #[.slice none 0 0] 29)) := ((Below.refl _ _).alloc (Nat.le_refl _) _).alloc (by simp) _
  have c0 := c.kept (hB0.mono (show P + 1 ≤ w.heap.size by omega))
  go_enter Tryz.func84, Tryz.ntmps84
  go_wp2_with fail
  refine (below_any w0 v zs _ P 16 c0 (by omega)).mono ?_
  rintro e w1 ⟨n, rfl, hn0, hn1, c1, g1⟩
  have hn := hn1 (by omega)
  obtain ⟨n, rfl⟩ := Int.eq_ofNat_of_zero_le hn0
  have hr1 : w1.heap[w.heap.size]? = some (.cells #[.slice none 0 0] 29 (0, 0)) := (g1.block _ (by simp; omega) (by simp; omega)).trans ((heap_alloc_old _ _ (by simp)).trans (heap_alloc_new _ _))
  have hb1 : w1.heap[w.heap.size + 1]? = some (.cells #[.slice none 0 0] 29 (0, 0)) := (g1.block _ (by simp) (by simp; omega)).trans (heap_alloc2_new _ _ _)
  have g1' := draw_step hB0 g1
  clear hB0 g1 hn1 c0
  go_wp2_with fail
  go_loopw [5] (fun i wr => ∃ (xs : List Nd), xs.length ≤ n ∧ i = .int .i64 xs.length ∧ Hid (∀ x ∈ xs, x.s.size ≤ 40) ∧ wr.heap[w.heap.size]? = some (.cells #[.slice none 0 0] 29 (0, 0)) ∧ PV wr (w.heap.size + 1) (w.heap.size + 1) xs ∧ Cur w0 v zs wr P ∧ w.grownBy wr (some P)) (fun i _ => n - (intOf i).toNat)
  case atStart => exact ⟨[], by simp, rfl, by simp [Hid], hr1, ⟨_, hb1, World.ownsRow_nil w1 _ 92 5⟩, c1, g1'⟩
  case round =>
    clear hr1 hb1 c1 g1'
    obtain ⟨xs, hx, rfl, HZ, hr, hpv, cc, gg⟩ := hrel
    by_cases hlt : xs.length < n
    · go_wp2_with fail
      refine (dnode_any w0 v zs wr P xs.length cc (by omega)).mono ?_
      rintro e w3 ⟨x, rfl, hx40, c3, g3⟩
      have hpv3 := hpv.kept g3 (by omega) (by omega)
      have hr3 := (g3.block _ (Array.getElem?_eq_some_iff.1 hr).1 (by simp; omega)).trans hr
      have gg3 := grown_trans gg g3
      obtain ⟨v3, hb3, ho3⟩ := hpv3
      obtain ⟨a3, q3, rfl⟩ := own_form ho3
      clear hpv g3 gg cc hr
      rw [ndV]
      go_wp2_with fail
      refine (sadd_any (w.heap.size + 1) (w.heap.size + 1) a3 q3 xs x w3 hb3 ho3 (by omega) (Nat.le_refl _)).mono ?_
      rintro e w4 ⟨v4, rfl, hb4, ho4, hB4⟩
      obtain ⟨c5, g5⟩ := draw_done c3 gg3 (hB4.mono (Nat.le_succ _)) hP
      have hr5 := (hB4.block w.heap.size (by omega)).trans hr3
      clear hb3 ho3 hB4 c3 gg3 hr3
      go_wp2_with fail
      go_roundw
      case rel =>
        refine ⟨xs ++ [x], by simp; omega, by simp, ?_, hr5, ⟨_, hb4, ho4⟩, c5, g5⟩
        intro z hz
        simp only [List.mem_append, List.mem_singleton] at hz
        rcases hz with hz | rfl
        · exact HZ.out z hz
        · exact hx40
      case measure => simp [intOf]; omega
    · obtain ⟨v3, hb3, ho3⟩ := hpv
      obtain ⟨a3, q3, rfl⟩ := own_form ho3
      have hc3 : wr.cell? ⟨w.heap.size + 1, 0, none⟩ = some (.slice a3 xs.length q3) := by rw [cell_of_row wr _ 0 _ _ _ hb3]; rfl
      have hd3 : wr.cell? ⟨w.heap.size, 0, none⟩ = some (.slice none 0 0) := by rw [cell_of_row wr _ 0 _ _ _ hr]; rfl
      have hf3 : wr.frozen? ⟨w.heap.size, 0, none⟩ = false := frozen_of_row wr _ 0 _ _ hr
      obtain ⟨p1, p2, p3⟩ := put_pool hr ho3 (Below.refl w.heap.size wr) (by omega) (Nat.le_refl _)
      obtain ⟨c5, g5⟩ := draw_done cc gg p3 hP
      go_wp2_with fail
      refine bodyPost_ret (results_cell_row rfl _ _ w.heap.size 29 _ (0, 0) _ rfl p1 Tryz.underlying29 rfl Tryz.sizeP) rfl ⟨_, xs, rfl, by omega, HZ.out, p2, c5, g5⟩
end Go.Proofs.YtkchakcebdenjaaGreat
