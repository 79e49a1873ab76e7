/-
  Texts that stood by themselves, laid into one.
-/
import Derived.Test.YtbgkofinmdpmcaaGreatDoorDraw5M
import Derived.Test.YtbgkofinmdpmcaaGreatDoorTo2M
/-
  Contracts of the draws of nodes: l2DrawAtom, l2DrawNode, l2Spoil: each gives some node, and turns nothing but the cursor.
-/
namespace Go.Proofs.YtbgkofinmdpmcaaGreatDoor
open Go.RowKit

/-- A node as a value. -/
def ndV (y : Nd) : Value := .agg #[.int .i64 y.k, .int .i64 y.n, .string y.s, .int .i64 y.a, .int .i64 y.b]
def ndO (y : Nd) : Obj := .cells #[.int .i64 y.k, .int .i64 y.n, .string y.s, .int .i64 y.a, .int .i64 y.b] 64 (0, 0)
theorem draw_done {w0 w w3 w4 : World} {v : Value} {zs : List Int} {P : Nat} (c3 : Cur w0 v zs w3 P) (hg : w.grownBy w3 (some P)) (b4 : Below w.heap.size w3 w4) (hP : P < w.heap.size) : Cur w0 v zs w4 P ∧ w.grownBy w4 (some P) :=
  ⟨c3.kept (b4.mono (by omega)), ⟨b4.os.trans hg.os, b4.tape.trans hg.tape, b4.output.trans hg.output, Nat.le_trans hg.size b4.size, fun k hk hne => (b4.block k hk).trans (hg.block k hk hne)⟩⟩
theorem draw_step {w w1 w2 : World} {P : Nat} (hb : Below w.heap.size w w1) (hg : w1.grownBy w2 (some P)) : w.grownBy w2 (some P) :=
  ⟨hg.os.trans hb.os, hg.tape.trans hb.tape, hg.output.trans hb.output, Nat.le_trans hb.size hg.size, fun k hk hne => (hg.block k (Nat.lt_of_lt_of_le hk hb.size) hne).trans (hb.block k hk)⟩
/-- A node stored whole into a variable. -/
theorem wpList_store_nd {ops : Array Oper} {rest : List Oper} {o : Oper} {a : Act} {w : World} {Q : Exit → Act → World → Prop} (hgd : o.guard = none) (x y : Operand) (ho : o.op = .store 64 x y)
    (g : Nat) (nd : Nd) (hx : a.eval x = .pointer (some ⟨g, 0, none⟩)) (hy : a.eval y = ndV nd) (old : Nd) (hg : w.heap[g]? = some (ndO old))
    (h : ∀ w2 : World, w2.heap[g]? = some (ndO nd) → Below g w w2 → w2.heap.size = w.heap.size → wpList Tryz.prog ops Q rest (a.put o.dst undef) w2) : wpList Tryz.prog ops Q (o :: rest) a w :=
  wpList_store_own hgd 64 x y ho g _ hx hy 64 _ hg Tryz.sizeN rfl (all_oneCell_toArray nd.one) h
theorem empty40 : ByteArray.empty.size ≤ 40 := by decide

def picks6 : List ByteArray := [⟨#[97]⟩, ⟨#[98, 99]⟩, ⟨#[120]⟩, ⟨#[102]⟩, ⟨#[43]⟩, ⟨#[108, 105, 115, 116]⟩]
theorem picks6_size : ∀ s ∈ picks6, s.size ≤ 40 := by decide
set_option maxHeartbeats 1600000 in
theorem datom_any (w0 : World) (v : Value) (zs : List Int) (w : World) (P : Nat) (c : Cur w0 v zs w P) :
    Calls Tryz.prog 91 #[.pointer (some ⟨P, 0, none⟩)] w fun e w' => ∃ x : Nd, e = .returned (ndV x) ∧ x.s.size ≤ 40 ∧ Cur w0 v zs w' P ∧ w.grownBy w' (some P) := by
  have hP := c.lt
  go_enter Tryz.func91, Tryz.ntmps91
  go_wp2_with fail
  have hB0 : Below w.heap.size w (w.alloc (ndO zeroN)) := (Below.refl _ _).alloc (Nat.le_refl _) _
  refine (below_any w0 v zs _ P 8 (c.kept (hB0.mono (by omega))) (by omega)).mono ?_
  rintro e w1 ⟨r, rfl, hr0, hr1, c1, g1⟩
  have hr := hr1 (by omega)
  have hb1 : w1.heap[w.heap.size]? = some (ndO zeroN) := (g1.block _ (by simp) (by simp; omega)).trans (heap_alloc_new _ _)
  have g1' := draw_step hB0 g1
  have hs1 := g1'.size
  clear hB0 g1 hr1
  by_cases h0 : r = 0
  · subst h0
    go_wp2_with (refine wpList_store_nd rfl _ _ rfl w.heap.size (⟨1, 0, ByteArray.empty, 0, 0⟩) rfl rfl zeroN hb1 ?_)
    intro w5 h5 b5 hs5
    obtain ⟨c6, g6⟩ := draw_done c1 g1' b5 hP
    go_wp2_with fail
    exact bodyPost_ret (results_cell_row rfl _ _ w.heap.size 64 _ (0, 0) _ rfl h5 Tryz.underlying64 rfl Tryz.sizeN) rfl ⟨_, rfl, empty40, c6, g6⟩
  by_cases h1 : r = 1
  · subst h1
    go_wp2_with fail
    refine (below_any w0 v zs _ P 2 c1 (by omega)).mono ?_
    rintro e w2 ⟨x, rfl, hx0, hx1, c2, g2⟩
    have hx := hx1 (by omega)
    have hb2 : w2.heap[w.heap.size]? = some (ndO zeroN) := (g2.block _ (Array.getElem?_eq_some_iff.1 hb1).1 (by simp; omega)).trans hb1
    have g2' := grown_trans g1' g2
    clear hx1 g2
    go_wp2_with (refine wpList_store_nd rfl _ _ rfl w.heap.size (⟨2, x, ByteArray.empty, 0, 0⟩) rfl rfl zeroN hb2 ?_)
    intro w5 h5 b5 hs5
    obtain ⟨c6, g6⟩ := draw_done c2 g2' b5 hP
    go_wp2_with fail
    exact bodyPost_ret (results_cell_row rfl _ _ w.heap.size 64 _ (0, 0) _ rfl h5 Tryz.underlying64 rfl Tryz.sizeN) rfl ⟨_, rfl, empty40, c6, g6⟩
  by_cases h2 : r = 2
  · subst h2
    go_wp2_with fail
    have hB1 : Below w1.heap.size w1 (w1.alloc (Obj.cells (picks6.map Value.string).toArray 9)) := (Below.refl _ _).alloc (Nat.le_refl _) _
    have hc1 := c1.lt
    refine (picks_any w0 v zs _ P w1.heap.size 6 picks6 (c1.kept (hB1.mono (by omega))) (by omega) (by decide) (by decide) (fun i hi => strs_new w1 picks6 9 i hi)).mono ?_
    rintro e w2 ⟨s, hs, rfl, c2, g2⟩
    have hb2 : w2.heap[w.heap.size]? = some (ndO zeroN) := (g2.block _ (by have := (Array.getElem?_eq_some_iff.1 hb1).1; simp; omega) (by simp; omega)).trans ((heap_alloc_old _ _ (Array.getElem?_eq_some_iff.1 hb1).1).trans hb1)
    have g2' := grown_trans g1' (draw_step hB1 g2)
    have hs40 := picks6_size s hs
    clear hs g2 hB1
    go_wp2_with (refine wpList_store_nd rfl _ _ rfl w.heap.size (⟨4, 0, s, 0, 0⟩) rfl rfl zeroN hb2 ?_)
    intro w5 h5 b5 hs5
    obtain ⟨c6, g6⟩ := draw_done c2 g2' b5 hP
    go_wp2_with fail
    exact bodyPost_ret (results_cell_row rfl _ _ w.heap.size 64 _ (0, 0) _ rfl h5 Tryz.underlying64 rfl Tryz.sizeN) rfl ⟨_, rfl, hs40, c6, g6⟩
  by_cases h3 : r = 3
  · subst h3
    go_wp2_with fail
    refine (below_any w0 v zs _ P 5 c1 (by omega)).mono ?_
    rintro e w2 ⟨x, rfl, hx0, hx1, c2, g2⟩
    have hx := hx1 (by omega)
    have hb2 : w2.heap[w.heap.size]? = some (ndO zeroN) := (g2.block _ (Array.getElem?_eq_some_iff.1 hb1).1 (by simp; omega)).trans hb1
    have g2' := grown_trans g1' g2
    clear hx1 g2
    go_wp2_with (refine wpList_store_nd rfl _ _ rfl w.heap.size (⟨9, x, ByteArray.empty, 0, 0⟩) rfl rfl zeroN hb2 ?_)
    intro w5 h5 b5 hs5
    obtain ⟨c6, g6⟩ := draw_done c2 g2' b5 hP
    go_wp2_with fail
    exact bodyPost_ret (results_cell_row rfl _ _ w.heap.size 64 _ (0, 0) _ rfl h5 Tryz.underlying64 rfl Tryz.sizeN) rfl ⟨_, rfl, empty40, c6, g6⟩
  by_cases h4 : r = 4
  · subst h4
    go_wp2_with fail
    refine (below_any w0 v zs _ P 5 c1 (by omega)).mono ?_
    rintro e w2 ⟨x, rfl, hx0, hx1, c2, g2⟩
    have hx := hx1 (by omega)
    have hb2 : w2.heap[w.heap.size]? = some (ndO zeroN) := (g2.block _ (Array.getElem?_eq_some_iff.1 hb1).1 (by simp; omega)).trans hb1
    have g2' := grown_trans g1' g2
    clear hx1 g2
    go_wp2_with (refine wpList_store_nd rfl _ _ rfl w.heap.size (⟨8, x, ByteArray.empty, 0, 0⟩) rfl rfl zeroN hb2 ?_)
    intro w5 h5 b5 hs5
    obtain ⟨c6, g6⟩ := draw_done c2 g2' b5 hP
    go_wp2_with fail
    exact bodyPost_ret (results_cell_row rfl _ _ w.heap.size 64 _ (0, 0) _ rfl h5 Tryz.underlying64 rfl Tryz.sizeN) rfl ⟨_, rfl, empty40, c6, g6⟩
  · skip
    go_wp2_with fail
    refine (below_any w0 v zs _ P 12 c1 (by omega)).mono ?_
    rintro e w2 ⟨x, rfl, hx0, hx1, c2, g2⟩
    have hx := hx1 (by omega)
    have hb2 : w2.heap[w.heap.size]? = some (ndO zeroN) := (g2.block _ (Array.getElem?_eq_some_iff.1 hb1).1 (by simp; omega)).trans hb1
    have g2' := grown_trans g1' g2
    clear hx1 g2
    go_wp2_with (refine wpList_store_nd rfl _ _ rfl w.heap.size (⟨3, x - 3, ByteArray.empty, 0, 0⟩) rfl rfl zeroN hb2 ?_)
    intro w5 h5 b5 hs5
    obtain ⟨c6, g6⟩ := draw_done c2 g2' b5 hP
    go_wp2_with fail
    exact bodyPost_ret (results_cell_row rfl _ _ w.heap.size 64 _ (0, 0) _ rfl h5 Tryz.underlying64 rfl Tryz.sizeN) rfl ⟨_, rfl, empty40, c6, g6⟩

set_option maxHeartbeats 1600000 in
theorem dnode_any (w0 : World) (v : Value) (zs : List Int) (w : World) (P : Nat) (m : Nat) (c : Cur w0 v zs w P) (hm : m ≤ 100000) :
    Calls Tryz.prog 57 #[.pointer (some ⟨P, 0, none⟩), .int .i64 m] w fun e w' => ∃ x : Nd, e = .returned (ndV x) ∧ x.s.size ≤ 40 ∧ Cur w0 v zs w' P ∧ w.grownBy w' (some P) := by
  have hP := c.lt
  have hB0 : Below w.heap.size w (w.alloc (ndO zeroN)) := (Below.refl _ _).alloc (Nat.le_refl _) _
  have c0 := c.kept (hB0.mono (show P + 1 ≤ w.heap.size by omega))
  have g0' : w.grownBy (w.alloc (ndO zeroN)) (some P) := World.grownBy_alloc w _ _
  have hb0 : (w.alloc (ndO zeroN)).heap[w.heap.size]? = some (ndO zeroN) := heap_alloc_new _ _
  by_cases h0 : m = 0
  · subst h0
    go_enter Tryz.func57, Tryz.ntmps57
    go_wp2_with fail
    refine (datom_any w0 v zs _ P c0).mono ?_
    rintro e w3 ⟨x, rfl, hx40, c3, g3⟩
    have hb3 : w3.heap[w.heap.size]? = some (ndO zeroN) := (g3.block _ (Array.getElem?_eq_some_iff.1 hb0).1 (by simp; omega)).trans hb0
    have g3' := grown_trans g0' g3
    clear g3
    rw [ndV]
    go_wp2_with (refine wpList_store_nd rfl _ _ rfl w.heap.size (x) rfl rfl zeroN hb3 ?_)
    intro w5 h5 b5 hs5
    obtain ⟨c6, g6⟩ := draw_done c3 g3' b5 hP
    go_wp2_with fail
    exact bodyPost_ret (results_cell_row rfl _ _ w.heap.size 64 _ (0, 0) _ rfl h5 Tryz.underlying64 rfl Tryz.sizeN) rfl ⟨_, rfl, hx40, c6, g6⟩
  · have h0' : ¬ (m : Int) = 0 := by omega
    have hm0 : 0 < m := by omega
    go_enter Tryz.func57, Tryz.ntmps57
    go_wp2_with fail
    refine (once_any w0 v zs _ P 2 c0 (by omega)).mono ?_
    rintro e w1 ⟨b, rfl, c1, g1⟩
    have hb1 : w1.heap[w.heap.size]? = some (ndO zeroN) := (g1.block _ (by simp) (by simp; omega)).trans hb0
    have g1' := grown_trans g0' g1
    clear g1 g0' hb0 c0 hB0
    cases b with
    | true =>
      go_wp2_with fail
      refine (datom_any w0 v zs _ P c1).mono ?_
      rintro e w3 ⟨x, rfl, hx40, c3, g3⟩
      have hb3 : w3.heap[w.heap.size]? = some (ndO zeroN) := (g3.block _ (Array.getElem?_eq_some_iff.1 hb1).1 (by simp; omega)).trans hb1
      have g3' := grown_trans g1' g3
      clear g3
      rw [ndV]
      go_wp2_with (refine wpList_store_nd rfl _ _ rfl w.heap.size (x) rfl rfl zeroN hb3 ?_)
      intro w5 h5 b5 hs5
      obtain ⟨c6, g6⟩ := draw_done c3 g3' b5 hP
      go_wp2_with fail
      exact bodyPost_ret (results_cell_row rfl _ _ w.heap.size 64 _ (0, 0) _ rfl h5 Tryz.underlying64 rfl Tryz.sizeN) rfl ⟨_, rfl, hx40, c6, g6⟩
    | false =>
      go_wp2_with fail
      refine (lmin_any _ _ _).mono ?_
      rintro e w2 ⟨rfl, rfl⟩
      go_wp2_with fail
      refine (below_any w0 v zs _ P (min (m : Int) 5) c1 (by omega)).mono ?_
      rintro e w3 ⟨x, rfl, hx0, hx1, c3, g3⟩
      have hb3 : w3.heap[w.heap.size]? = some (ndO zeroN) := (g3.block _ (Array.getElem?_eq_some_iff.1 hb1).1 (by simp; omega)).trans hb1
      have g3' := grown_trans g1' g3
      have hx := hx1 (by omega)
      clear hx1 g3
      go_wp2_with fail
      refine (below_any w0 v zs _ P 8 c3 (by omega)).mono ?_
      rintro e w4 ⟨r, rfl, hr0, hr1, c4, g4⟩
      have hb4 : w4.heap[w.heap.size]? = some (ndO zeroN) := (g4.block _ (Array.getElem?_eq_some_iff.1 hb3).1 (by simp; omega)).trans hb3
      have g4' := grown_trans g3' g4
      have hr := hr1 (by omega)
      clear hr1 g4 c3 c1
      by_cases h1 : r = 0
      · subst h1
        go_wp2_with fail
        refine (below_any w0 v zs _ P 9 c4 (by omega)).mono ?_
        rintro e w7 ⟨y, rfl, hy0, hy1, c7, g7⟩
        have hb7 : w7.heap[w.heap.size]? = some (ndO zeroN) := (g7.block _ (Array.getElem?_eq_some_iff.1 hb4).1 (by simp; omega)).trans hb4
        have g7' := grown_trans g4' g7
        clear hy1 g7
        go_wp2_with (refine wpList_store_nd rfl _ _ rfl w.heap.size (⟨6, y, ByteArray.empty, (m : Int) - 1 - x, 0⟩) rfl rfl zeroN hb7 ?_)
        intro w5 h5 b5 hs5
        obtain ⟨c6, g6⟩ := draw_done c7 g7' b5 hP
        go_wp2_with fail
        exact bodyPost_ret (results_cell_row rfl _ _ w.heap.size 64 _ (0, 0) _ rfl h5 Tryz.underlying64 rfl Tryz.sizeN) rfl ⟨_, rfl, empty40, c6, g6⟩
      by_cases h2 : r = 1
      · subst h2
        go_wp2_with (refine wpList_store_nd rfl _ _ rfl w.heap.size (⟨7, 0, ByteArray.empty, (m : Int) - 1 - x, 0⟩) rfl rfl zeroN hb4 ?_)
        intro w5 h5 b5 hs5
        obtain ⟨c6, g6⟩ := draw_done c4 g4' b5 hP
        go_wp2_with fail
        exact bodyPost_ret (results_cell_row rfl _ _ w.heap.size 64 _ (0, 0) _ rfl h5 Tryz.underlying64 rfl Tryz.sizeN) rfl ⟨_, rfl, empty40, c6, g6⟩
      · go_wp2_with fail
        refine (lmin_any _ _ _).mono ?_
        rintro e w6 ⟨rfl, rfl⟩
        go_wp2_with fail
        refine (below_any w0 v zs _ P (min (m : Int) 4) c4 (by omega)).mono ?_
        rintro e w7 ⟨y, rfl, hy0, hy1, c7, g7⟩
        have hb7 : w7.heap[w.heap.size]? = some (ndO zeroN) := (g7.block _ (Array.getElem?_eq_some_iff.1 hb4).1 (by simp; omega)).trans hb4
        have g7' := grown_trans g4' g7
        have hy := hy1 (by omega)
        clear hy1 g7
        go_wp2_with (refine wpList_store_nd rfl _ _ rfl w.heap.size (⟨5, 0, ByteArray.empty, (m : Int) - 1 - x, (m : Int) - 1 - y⟩) rfl rfl zeroN hb7 ?_)
        intro w5 h5 b5 hs5
        obtain ⟨c6, g6⟩ := draw_done c7 g7' b5 hP
        go_wp2_with fail
        exact bodyPost_ret (results_cell_row rfl _ _ w.heap.size 64 _ (0, 0) _ rfl h5 Tryz.underlying64 rfl Tryz.sizeN) rfl ⟨_, rfl, empty40, c6, g6⟩
end Go.Proofs.YtbgkofinmdpmcaaGreatDoor

/-
  Contract of the draws' l2Spoil: some node, and nothing turned but the cursor.
-/
namespace Go.Proofs.YtbgkofinmdpmcaaGreatDoor
open Go.RowKit

def picksI : List Int := [-1, 2, 99, 100, 1000000000, 1000000001, -1000000000, -1000000001]
def picksS : List ByteArray := [⟨#[]⟩, ⟨#[97]⟩, ⟨#[65, 98]⟩, ⟨#[97, 98, 99, 100, 101, 102, 103, 104, 105, 106, 107, 108]⟩, ⟨#[97, 98, 99, 100, 101, 102, 103, 104, 105, 106, 107, 108, 109]⟩, ⟨#[97, 49]⟩]
theorem picksS_size : ∀ s ∈ picksS, s.size ≤ 40 := by decide
theorem nd_cells {w : World} {B : Nat} {y : Nd} (h : w.heap[B]? = some (ndO y)) : w.cell? ⟨B, 0, none⟩ = some (.int .i64 y.k) ∧ w.cell? ⟨B, 1, none⟩ = some (.int .i64 y.n) ∧ w.cell? ⟨B, 2, none⟩ = some (.string y.s) ∧ w.cell? ⟨B, 3, none⟩ = some (.int .i64 y.a) ∧ w.cell? ⟨B, 4, none⟩ = some (.int .i64 y.b) := by
  have hc : ∀ j, w.cell? ⟨B, j, none⟩ = #[Value.int .i64 y.k, .int .i64 y.n, .string y.s, .int .i64 y.a, .int .i64 y.b][j]? := fun j => cell_of_row w _ j _ _ _ h
  exact ⟨hc 0, hc 1, hc 2, hc 3, hc 4⟩
theorem nd_free {w : World} {B : Nat} {y : Nd} (h : w.heap[B]? = some (ndO y)) (j : Nat) : w.frozen? ⟨B, j, none⟩ = false := frozen_of_row w _ j _ _ h
theorem blk_ne {w : World} {B : Nat} {o : Obj} {v : Value} {j : Nat} {D : Nat} (h : w.heap[B]? = some o) (hne : D ≠ B) : (w.setCell ⟨D, j, none⟩ v).heap[B]? = some o := (heap_setCell_other w ⟨D, j, none⟩ B v (fun e => hne e.symm)).trans h

set_option maxHeartbeats 1600000 in
theorem dspoil_any (w0 : World) (v : Value) (zs : List Int) (w : World) (P : Nat) (x : Nd) (c : Cur w0 v zs w P) (hx : x.s.size ≤ 40) :
    Calls Tryz.prog 35 #[.pointer (some ⟨P, 0, none⟩), ndV x] w fun e w' => ∃ y : Nd, e = .returned (ndV y) ∧ y.s.size ≤ 40 ∧ Cur w0 v zs w' P ∧ w.grownBy w' (some P) := by
  have hP := c.lt
  have hB0 : Below w.heap.size w ((w.alloc (ndO x)).alloc (ndO zeroN)) := ((Below.refl _ _).alloc (Nat.le_refl _) _).alloc (by simp) _
  have c0 := c.kept (hB0.mono (show P + 1 ≤ w.heap.size by omega))
  rw [ndV]
  go_enter Tryz.func35, Tryz.ntmps35
  go_wp2_with fail
  refine (below_any w0 v zs _ P 8 c0 (by omega)).mono ?_
  rintro e w1 ⟨r, rfl, hr0, hr1, c1, g1⟩
  have hr := hr1 (by omega)
  have hb1 : w1.heap[w.heap.size]? = some (ndO x) := (g1.block _ (by simp; omega) (by simp; omega)).trans ((heap_alloc_old _ _ (by simp)).trans (heap_alloc_new _ _))
  have hd1 : w1.heap[w.heap.size + 1]? = some (ndO zeroN) := (g1.block _ (by simp) (by simp; omega)).trans (heap_alloc2_new _ _ _)
  have g1' := draw_step hB0 g1
  have hs1 := (Array.getElem?_eq_some_iff.1 hd1).1
  clear hB0 g1 hr1 c0
  by_cases h0 : r = 0
  · subst h0
    go_wp2_with fail
    refine (below_any w0 v zs _ P 11 c1 (by omega)).mono ?_
    rintro e w2 ⟨q, rfl, hq0, hq1, c2, g2⟩
    have hq := hq1 (by omega)
    have hb2 := (g2.block _ (Array.getElem?_eq_some_iff.1 hb1).1 (by simp; omega)).trans hb1
    have hd2 := (g2.block _ hs1 (by simp; omega)).trans hd1
    have g2' := grown_trans g1' g2
    obtain ⟨d0, d1, d2, d3, d4⟩ := nd_cells hb2
    have f0 := nd_free hb2 0
    clear g2 hq1
    go_wp2_with (refine wpList_store_nd rfl _ _ rfl (w.heap.size + 1) (⟨q, x.n, x.s, x.a, x.b⟩) rfl rfl zeroN (blk_ne (j := 0) (v := .int .i64 (q)) hd2 (by omega : w.heap.size ≠ w.heap.size + 1)) ?_)
    intro w5 h5 b5 hs5
    obtain ⟨c6, g6⟩ := draw_done c2 g2' (((Below.refl _ _).setCell (p := ⟨w.heap.size, 0, none⟩) (Nat.le_refl _) _).trans (b5.mono (Nat.le_succ _))) hP
    go_wp2_with fail
    exact bodyPost_ret (results_cell_row rfl _ _ (w.heap.size + 1) 64 _ (0, 0) _ rfl h5 Tryz.underlying64 rfl Tryz.sizeN) rfl ⟨_, rfl, hx, c6, g6⟩
  by_cases h1 : r = 1
  · subst h1
    go_wp2_with fail
    refine (below_any w0 v zs _ P 20 c1 (by omega)).mono ?_
    rintro e w2 ⟨q, rfl, hq0, hq1, c2, g2⟩
    have hq := hq1 (by omega)
    have hb2 := (g2.block _ (Array.getElem?_eq_some_iff.1 hb1).1 (by simp; omega)).trans hb1
    have hd2 := (g2.block _ hs1 (by simp; omega)).trans hd1
    have g2' := grown_trans g1' g2
    obtain ⟨d0, d1, d2, d3, d4⟩ := nd_cells hb2
    have f0 := nd_free hb2 3
    clear g2 hq1
    go_wp2_with (refine wpList_store_nd rfl _ _ rfl (w.heap.size + 1) (⟨x.k, x.n, x.s, q - 1, x.b⟩) rfl rfl zeroN (blk_ne (j := 3) (v := .int .i64 (q - 1)) hd2 (by omega : w.heap.size ≠ w.heap.size + 1)) ?_)
    intro w5 h5 b5 hs5
    obtain ⟨c6, g6⟩ := draw_done c2 g2' (((Below.refl _ _).setCell (p := ⟨w.heap.size, 3, none⟩) (Nat.le_refl _) _).trans (b5.mono (Nat.le_succ _))) hP
    go_wp2_with fail
    exact bodyPost_ret (results_cell_row rfl _ _ (w.heap.size + 1) 64 _ (0, 0) _ rfl h5 Tryz.underlying64 rfl Tryz.sizeN) rfl ⟨_, rfl, hx, c6, g6⟩
  by_cases h2 : r = 2
  · subst h2
    go_wp2_with fail
    refine (below_any w0 v zs _ P 20 c1 (by omega)).mono ?_
    rintro e w2 ⟨q, rfl, hq0, hq1, c2, g2⟩
    have hq := hq1 (by omega)
    have hb2 := (g2.block _ (Array.getElem?_eq_some_iff.1 hb1).1 (by simp; omega)).trans hb1
    have hd2 := (g2.block _ hs1 (by simp; omega)).trans hd1
    have g2' := grown_trans g1' g2
    obtain ⟨d0, d1, d2, d3, d4⟩ := nd_cells hb2
    have f0 := nd_free hb2 4
    clear g2 hq1
    go_wp2_with (refine wpList_store_nd rfl _ _ rfl (w.heap.size + 1) (⟨x.k, x.n, x.s, x.a, q - 1⟩) rfl rfl zeroN (blk_ne (j := 4) (v := .int .i64 (q - 1)) hd2 (by omega : w.heap.size ≠ w.heap.size + 1)) ?_)
    intro w5 h5 b5 hs5
    obtain ⟨c6, g6⟩ := draw_done c2 g2' (((Below.refl _ _).setCell (p := ⟨w.heap.size, 4, none⟩) (Nat.le_refl _) _).trans (b5.mono (Nat.le_succ _))) hP
    go_wp2_with fail
    exact bodyPost_ret (results_cell_row rfl _ _ (w.heap.size + 1) 64 _ (0, 0) _ rfl h5 Tryz.underlying64 rfl Tryz.sizeN) rfl ⟨_, rfl, hx, c6, g6⟩
  by_cases h3 : r = 3
  · subst h3
    have hB1 : Below w1.heap.size w1 (w1.alloc (Obj.cells (picksI.map (Value.int .i64)).toArray 3)) := (Below.refl _ _).alloc (Nat.le_refl _) _
    have hc1 := c1.lt
    go_wp2_with fail
    refine (pick_any w0 v zs _ P w1.heap.size 8 picksI (c1.kept (hB1.mono (by omega))) (by omega) (by decide) (by decide) (by decide) (fun i hi => ints_new w1 picksI 3 i hi)).mono ?_
    rintro e w2 ⟨q, rfl, hq0, hq1, c2, g2⟩
    have hb2 := (g2.block _ (by have := (Array.getElem?_eq_some_iff.1 hb1).1; simp; omega) (by simp; omega)).trans ((heap_alloc_old _ _ (Array.getElem?_eq_some_iff.1 hb1).1).trans hb1)
    have hd2 := (g2.block _ (by simp; omega) (by simp; omega)).trans ((heap_alloc_old _ _ hs1).trans hd1)
    have g2' := grown_trans g1' (draw_step hB1 g2)
    obtain ⟨d0, d1, d2, d3, d4⟩ := nd_cells hb2
    have f0 := nd_free hb2 1
    clear g2 hB1
    go_wp2_with (refine wpList_store_nd rfl _ _ rfl (w.heap.size + 1) (⟨x.k, q, x.s, x.a, x.b⟩) rfl rfl zeroN (blk_ne (j := 1) (v := .int .i64 q) hd2 (by omega : w.heap.size ≠ w.heap.size + 1)) ?_)
    intro w5 h5 b5 hs5
    obtain ⟨c6, g6⟩ := draw_done c2 g2' (((Below.refl _ _).setCell (p := ⟨w.heap.size, 1, none⟩) (Nat.le_refl _) _).trans (b5.mono (Nat.le_succ _))) hP
    go_wp2_with fail
    exact bodyPost_ret (results_cell_row rfl _ _ (w.heap.size + 1) 64 _ (0, 0) _ rfl h5 Tryz.underlying64 rfl Tryz.sizeN) rfl ⟨_, rfl, hx, c6, g6⟩
  by_cases h4 : r = 4
  · subst h4
    have hB1 : Below w1.heap.size w1 (w1.alloc (Obj.cells (picksS.map Value.string).toArray 9)) := (Below.refl _ _).alloc (Nat.le_refl _) _
    have hc1 := c1.lt
    go_wp2_with fail
    refine (picks_any w0 v zs _ P w1.heap.size 6 picksS (c1.kept (hB1.mono (by omega))) (by omega) (by decide) (by decide) (fun i hi => strs_new w1 picksS 9 i hi)).mono ?_
    rintro e w2 ⟨q, hq, rfl, c2, g2⟩
    have hb2 := (g2.block _ (by have := (Array.getElem?_eq_some_iff.1 hb1).1; simp; omega) (by simp; omega)).trans ((heap_alloc_old _ _ (Array.getElem?_eq_some_iff.1 hb1).1).trans hb1)
    have hd2 := (g2.block _ (by simp; omega) (by simp; omega)).trans ((heap_alloc_old _ _ hs1).trans hd1)
    have g2' := grown_trans g1' (draw_step hB1 g2)
    obtain ⟨d0, d1, d2, d3, d4⟩ := nd_cells hb2
    have f0 := nd_free hb2 2
    have hq40 := picksS_size q hq
    clear g2 hB1 hq
    go_wp2_with (refine wpList_store_nd rfl _ _ rfl (w.heap.size + 1) (⟨x.k, x.n, q, x.a, x.b⟩) rfl rfl zeroN (blk_ne (j := 2) (v := .string q) hd2 (by omega : w.heap.size ≠ w.heap.size + 1)) ?_)
    intro w5 h5 b5 hs5
    obtain ⟨c6, g6⟩ := draw_done c2 g2' (((Below.refl _ _).setCell (p := ⟨w.heap.size, 2, none⟩) (Nat.le_refl _) _).trans (b5.mono (Nat.le_succ _))) hP
    go_wp2_with fail
    exact bodyPost_ret (results_cell_row rfl _ _ (w.heap.size + 1) 64 _ (0, 0) _ rfl h5 Tryz.underlying64 rfl Tryz.sizeN) rfl ⟨_, rfl, hq40, c6, g6⟩
  · obtain ⟨d0, d1, d2, d3, d4⟩ := nd_cells hb1
    go_wp2_with (refine wpList_store_nd rfl _ _ rfl (w.heap.size + 1) (x) rfl rfl zeroN (hd1) ?_)
    intro w5 h5 b5 hs5
    obtain ⟨c6, g6⟩ := draw_done c1 g1' ((b5.mono (Nat.le_succ _))) hP
    go_wp2_with fail
    exact bodyPost_ret (results_cell_row rfl _ _ (w.heap.size + 1) 64 _ (0, 0) _ rfl h5 Tryz.underlying64 rfl Tryz.sizeN) rfl ⟨_, rfl, hx, c6, g6⟩
end Go.Proofs.YtbgkofinmdpmcaaGreatDoor
