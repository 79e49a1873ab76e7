/-
  Texts that stood by themselves, laid into one.
-/
import Derived.Test.YtmbomhcnmjhbnaaGreatDoorNameM
import Derived.Test.YtmbomhcnmjhbnaaGreatDoorTo2M
import Derived.Lib.ItoaNum
import Derived.Laws.BytesArg
import Derived.Lib.AppendStr
import Derived.Laws.IdiomStrings
/-
  Contracts of the draws of nodes: l2DrawAtom, l2DrawNode, l2Spoil: each gives some node, and turns nothing but the cursor.
-/
namespace Go.Proofs.YtmbomhcnmjhbnaaGreatDoor
open Go.RowKit

/-- A node as a value. -/
def ndV (y : Nd) : Value := .agg #[.int .i64 y.k, .int .i64 y.n, .string y.s, .int .i64 y.a, .int .i64 y.b]
def ndO (y : Nd) : Obj := .cells #[.int .i64 y.k, .int .i64 y.n, .string y.s, .int .i64 y.a, .int .i64 y.b] 64 (0, 0)
theorem draw_done {w0 w w3 w4 : World} {v : Value} {zs : List Int} {P : Nat} (c3 : Cur w0 v zs w3 P) (hg : w.grownBy w3 (some P)) (b4 : Below w.heap.size w3 w4) (hP : P < w.heap.size) : Cur w0 v zs w4 P ∧ w.grownBy w4 (some P) :=
  ⟨c3.kept (b4.mono (by omega)), ⟨b4.os.trans hg.os, b4.tape.trans hg.tape, b4.output.trans hg.output, Nat.le_trans hg.size b4.size, fun k hk hne => (b4.block k hk).trans (hg.block k hk hne)⟩⟩
theorem draw_step {w w1 w2 : World} {P : Nat} (hb : Below w.heap.size w w1) (hg : w1.grownBy w2 (some P)) : w.grownBy w2 (some P) :=
  ⟨hg.os.trans hb.os, hg.tape.trans hb.tape, hg.output.trans hb.output, Nat.le_trans hb.size hg.size, fun k hk hne => (hg.block k (Nat.lt_of_lt_of_le hk hb.size) hne).trans (hb.block k hk)⟩
/-- A node stored whole into a variable. -/
theorem wpList_store_nd {ops : Array Oper} {rest : List Oper} {o : Oper} {a : Act} {w : World} {Q : Exit → Act → World → Prop} (hgd : o.guard = none) (x y : Operand) (ho : o.op = .store 64 x y)
    (g : Nat) (nd : Nd) (hx : a.eval x = .pointer (some ⟨g, 0, none⟩)) (hy : a.eval y = ndV nd) (old : Nd) (hg : w.heap[g]? = some (ndO old))
    (h : ∀ w2 : World, w2.heap[g]? = some (ndO nd) → Below g w w2 → w2.heap.size = w.heap.size → wpList Tryz.prog ops Q rest (a.put o.dst undef) w2) : wpList Tryz.prog ops Q (o :: rest) a w :=
  wpList_store_own hgd 64 x y ho g _ hx hy 64 _ hg Tryz.sizeN rfl (all_oneCell_toArray nd.one) h
theorem empty40 : ByteArray.empty.size ≤ 40 := by decide

def picks6 : List ByteArray := [⟨#[97]⟩, ⟨#[98, 99]⟩, ⟨#[120]⟩, ⟨#[102]⟩, ⟨#[43]⟩, ⟨#[108, 105, 115, 116]⟩]
theorem picks6_size : ∀ s ∈ picks6, s.size ≤ 40 := by decide
set_option maxHeartbeats 1600000 in
theorem datom_any (w0 : World) (v : Value) (zs : List Int) (w : World) (P : Nat) (c : Cur w0 v zs w P) :
    Calls Tryz.prog 89 #[.pointer (some ⟨P, 0, none⟩)] w fun e w' => ∃ x : Nd, e = .returned (ndV x) ∧ x.s.size ≤ 40 ∧ Cur w0 v zs w' P ∧ w.grownBy w' (some P) := by
  have hP := c.lt
  go_enter Tryz.func89, Tryz.ntmps89
  go_wp2_with fail
  have hB0 : Below w.heap.size w (w.alloc (ndO zeroN)) := (Below.refl _ _).alloc (Nat.le_refl _) _
  refine (below_any w0 v zs _ P 8 (c.kept (hB0.mono (by omega))) (by omega)).mono ?_
  rintro e w1 ⟨r, rfl, hr0, hr1, c1, g1⟩
  have hr := hr1 (by omega)
  have hb1 : w1.heap[w.heap.size]? = some (ndO zeroN) := (g1.block _ (by simp) (by simp; omega)).trans (heap_alloc_new _ _)
  have g1' := draw_step hB0 g1
  have hs1 := g1'.size
  clear hB0 g1 hr1
  by_cases h0 : r = 0
  · subst h0
    go_wp2_with (refine wpList_store_nd rfl _ _ rfl w.heap.size (⟨1, 0, ByteArray.empty, 0, 0⟩) rfl rfl zeroN hb1 ?_)
    intro w5 h5 b5 hs5
    obtain ⟨c6, g6⟩ := draw_done c1 g1' b5 hP
    go_wp2_with fail
    exact bodyPost_ret (results_cell_row rfl _ _ w.heap.size 64 _ (0, 0) _ rfl h5 Tryz.underlying64 rfl Tryz.sizeN) rfl ⟨_, rfl, empty40, c6, g6⟩
  by_cases h1 : r = 1
  · subst h1
    go_wp2_with fail
    refine (below_any w0 v zs _ P 2 c1 (by omega)).mono ?_
    rintro e w2 ⟨x, rfl, hx0, hx1, c2, g2⟩
    have hx := hx1 (by omega)
    have hb2 : w2.heap[w.heap.size]? = some (ndO zeroN) := (g2.block _ (Array.getElem?_eq_some_iff.1 hb1).1 (by simp; omega)).trans hb1
    have g2' := grown_trans g1' g2
    clear hx1 g2
    go_wp2_with (refine wpList_store_nd rfl _ _ rfl w.heap.size (⟨2, x, ByteArray.empty, 0, 0⟩) rfl rfl zeroN hb2 ?_)
    intro w5 h5 b5 hs5
    obtain ⟨c6, g6⟩ := draw_done c2 g2' b5 hP
    go_wp2_with fail
    exact bodyPost_ret (results_cell_row rfl _ _ w.heap.size 64 _ (0, 0) _ rfl h5 Tryz.underlying64 rfl Tryz.sizeN) rfl ⟨_, rfl, empty40, c6, g6⟩
  by_cases h2 : r = 2
  · subst h2
    go_wp2_with fail
    have hB1 : Below w1.heap.size w1 (w1.alloc (Obj.cells (picks6.map Value.string).toArray 9)) := (Below.refl _ _).alloc (Nat.le_refl _) _
    have hc1 := c1.lt
    refine (picks_any w0 v zs _ P w1.heap.size 6 picks6 (c1.kept (hB1.mono (by omega))) (by omega) (by decide) (by decide) (fun i hi => strs_new w1 picks6 9 i hi)).mono ?_
    rintro e w2 ⟨s, hs, rfl, c2, g2⟩
    have hb2 : w2.heap[w.heap.size]? = some (ndO zeroN) := (g2.block _ (by have := (Array.getElem?_eq_some_iff.1 hb1).1; simp; omega) (by simp; omega)).trans ((heap_alloc_old _ _ (Array.getElem?_eq_some_iff.1 hb1).1).trans hb1)
    have g2' := grown_trans g1' (draw_step hB1 g2)
    have hs40 := picks6_size s hs
    clear hs g2 hB1
    go_wp2_with (refine wpList_store_nd rfl _ _ rfl w.heap.size (⟨4, 0, s, 0, 0⟩) rfl rfl zeroN hb2 ?_)
    intro w5 h5 b5 hs5
    obtain ⟨c6, g6⟩ := draw_done c2 g2' b5 hP
    go_wp2_with fail
    exact bodyPost_ret (results_cell_row rfl _ _ w.heap.size 64 _ (0, 0) _ rfl h5 Tryz.underlying64 rfl Tryz.sizeN) rfl ⟨_, rfl, hs40, c6, g6⟩
  by_cases h3 : r = 3
  · subst h3
    go_wp2_with fail
    refine (below_any w0 v zs _ P 5 c1 (by omega)).mono ?_
    rintro e w2 ⟨x, rfl, hx0, hx1, c2, g2⟩
    have hx := hx1 (by omega)
    have hb2 : w2.heap[w.heap.size]? = some (ndO zeroN) := (g2.block _ (Array.getElem?_eq_some_iff.1 hb1).1 (by simp; omega)).trans hb1
    have g2' := grown_trans g1' g2
    clear hx1 g2
    go_wp2_with (refine wpList_store_nd rfl _ _ rfl w.heap.size (⟨9, x, ByteArray.empty, 0, 0⟩) rfl rfl zeroN hb2 ?_)
    intro w5 h5 b5 hs5
    obtain ⟨c6, g6⟩ := draw_done c2 g2' b5 hP
    go_wp2_with fail
    exact bodyPost_ret (results_cell_row rfl _ _ w.heap.size 64 _ (0, 0) _ rfl h5 Tryz.underlying64 rfl Tryz.sizeN) rfl ⟨_, rfl, empty40, c6, g6⟩
  by_cases h4 : r = 4
  · subst h4
    go_wp2_with fail
    refine (below_any w0 v zs _ P 5 c1 (by omega)).mono ?_
    rintro e w2 ⟨x, rfl, hx0, hx1, c2, g2⟩
    have hx := hx1 (by omega)
    have hb2 : w2.heap[w.heap.size]? = some (ndO zeroN) := (g2.block _ (Array.getElem?_eq_some_iff.1 hb1).1 (by simp; omega)).trans hb1
    have g2' := grown_trans g1' g2
    clear hx1 g2
    go_wp2_with (refine wpList_store_nd rfl _ _ rfl w.heap.size (⟨8, x, ByteArray.empty, 0, 0⟩) rfl rfl zeroN hb2 ?_)
    intro w5 h5 b5 hs5
    obtain ⟨c6, g6⟩ := draw_done c2 g2' b5 hP
    go_wp2_with fail
    exact bodyPost_ret (results_cell_row rfl _ _ w.heap.size 64 _ (0, 0) _ rfl h5 Tryz.underlying64 rfl Tryz.sizeN) rfl ⟨_, rfl, empty40, c6, g6⟩
  · skip
    go_wp2_with fail
    refine (below_any w0 v zs _ P 12 c1 (by omega)).mono ?_
    rintro e w2 ⟨x, rfl, hx0, hx1, c2, g2⟩
    have hx := hx1 (by omega)
    have hb2 : w2.heap[w.heap.size]? = some (ndO zeroN) := (g2.block _ (Array.getElem?_eq_some_iff.1 hb1).1 (by simp; omega)).trans hb1
    have g2' := grown_trans g1' g2
    clear hx1 g2
    go_wp2_with (refine wpList_store_nd rfl _ _ rfl w.heap.size (⟨3, x - 3, ByteArray.empty, 0, 0⟩) rfl rfl zeroN hb2 ?_)
    intro w5 h5 b5 hs5
    obtain ⟨c6, g6⟩ := draw_done c2 g2' b5 hP
    go_wp2_with fail
    exact bodyPost_ret (results_cell_row rfl _ _ w.heap.size 64 _ (0, 0) _ rfl h5 Tryz.underlying64 rfl Tryz.sizeN) rfl ⟨_, rfl, empty40, c6, g6⟩

set_option maxHeartbeats 1600000 in
theorem dnode_any (w0 : World) (v : Value) (zs : List Int) (w : World) (P : Nat) (m : Nat) (c : Cur w0 v zs w P) (hm : m ≤ 100000) :
    Calls Tryz.prog 66 #[.pointer (some ⟨P, 0, none⟩), .int .i64 m] w fun e w' => ∃ x : Nd, e = .returned (ndV x) ∧ x.s.size ≤ 40 ∧ Cur w0 v zs w' P ∧ w.grownBy w' (some P) := by
  have hP := c.lt
  have hB0 : Below w.heap.size w (w.alloc (ndO zeroN)) := (Below.refl _ _).alloc (Nat.le_refl _) _
  have c0 := c.kept (hB0.mono (show P + 1 ≤ w.heap.size by omega))
  have g0' : w.grownBy (w.alloc (ndO zeroN)) (some P) := World.grownBy_alloc w _ _
  have hb0 : (w.alloc (ndO zeroN)).heap[w.heap.size]? = some (ndO zeroN) := heap_alloc_new _ _
  by_cases h0 : m = 0
  · subst h0
    go_enter Tryz.func66, Tryz.ntmps66
    go_wp2_with fail
    refine (datom_any w0 v zs _ P c0).mono ?_
    rintro e w3 ⟨x, rfl, hx40, c3, g3⟩
    have hb3 : w3.heap[w.heap.size]? = some (ndO zeroN) := (g3.block _ (Array.getElem?_eq_some_iff.1 hb0).1 (by simp; omega)).trans hb0
    have g3' := grown_trans g0' g3
    clear g3
    rw [ndV]
    go_wp2_with (refine wpList_store_nd rfl _ _ rfl w.heap.size (x) rfl rfl zeroN hb3 ?_)
    intro w5 h5 b5 hs5
    obtain ⟨c6, g6⟩ := draw_done c3 g3' b5 hP
    go_wp2_with fail
    exact bodyPost_ret (results_cell_row rfl _ _ w.heap.size 64 _ (0, 0) _ rfl h5 Tryz.underlying64 rfl Tryz.sizeN) rfl ⟨_, rfl, hx40, c6, g6⟩
  · have h0' : ¬ (m : Int) = 0 := by omega
    have hm0 : 0 < m := by omega
    go_enter Tryz.func66, Tryz.ntmps66
    go_wp2_with fail
    refine (once_any w0 v zs _ P 2 c0 (by omega)).mono ?_
    rintro e w1 ⟨b, rfl, c1, g1⟩
    have hb1 : w1.heap[w.heap.size]? = some (ndO zeroN) := (g1.block _ (by simp) (by simp; omega)).trans hb0
    have g1' := grown_trans g0' g1
    clear g1 g0' hb0 c0 hB0
    cases b with
    | true =>
      go_wp2_with fail
      refine (datom_any w0 v zs _ P c1).mono ?_
      rintro e w3 ⟨x, rfl, hx40, c3, g3⟩
      have hb3 : w3.heap[w.heap.size]? = some (ndO zeroN) := (g3.block _ (Array.getElem?_eq_some_iff.1 hb1).1 (by simp; omega)).trans hb1
      have g3' := grown_trans g1' g3
      clear g3
      rw [ndV]
      go_wp2_with (refine wpList_store_nd rfl _ _ rfl w.heap.size (x) rfl rfl zeroN hb3 ?_)
      intro w5 h5 b5 hs5
      obtain ⟨c6, g6⟩ := draw_done c3 g3' b5 hP
      go_wp2_with fail
      exact bodyPost_ret (results_cell_row rfl _ _ w.heap.size 64 _ (0, 0) _ rfl h5 Tryz.underlying64 rfl Tryz.sizeN) rfl ⟨_, rfl, hx40, c6, g6⟩
    | false =>
      go_wp2_with fail
      refine (lmin_any _ _ _).mono ?_
      rintro e w2 ⟨rfl, rfl⟩
      go_wp2_with fail
      refine (below_any w0 v zs _ P (min (m : Int) 5) c1 (by omega)).mono ?_
      rintro e w3 ⟨x, rfl, hx0, hx1, c3, g3⟩
      have hb3 : w3.heap[w.heap.size]? = some (ndO zeroN) := (g3.block _ (Array.getElem?_eq_some_iff.1 hb1).1 (by simp; omega)).trans hb1
      have g3' := grown_trans g1' g3
      have hx := hx1 (by omega)
      clear hx1 g3
      go_wp2_with fail
      refine (below_any w0 v zs _ P 8 c3 (by omega)).mono ?_
      rintro e w4 ⟨r, rfl, hr0, hr1, c4, g4⟩
      have hb4 : w4.heap[w.heap.size]? = some (ndO zeroN) := (g4.block _ (Array.getElem?_eq_some_iff.1 hb3).1 (by simp; omega)).trans hb3
      have g4' := grown_trans g3' g4
      have hr := hr1 (by omega)
      clear hr1 g4 c3 c1
      by_cases h1 : r = 0
      · subst h1
        go_wp2_with fail
        refine (below_any w0 v zs _ P 9 c4 (by omega)).mono ?_
        rintro e w7 ⟨y, rfl, hy0, hy1, c7, g7⟩
        have hb7 : w7.heap[w.heap.size]? = some (ndO zeroN) := (g7.block _ (Array.getElem?_eq_some_iff.1 hb4).1 (by simp; omega)).trans hb4
        have g7' := grown_trans g4' g7
        clear hy1 g7
        go_wp2_with (refine wpList_store_nd rfl _ _ rfl w.heap.size (⟨6, y, ByteArray.empty, (m : Int) - 1 - x, 0⟩) rfl rfl zeroN hb7 ?_)
        intro w5 h5 b5 hs5
        obtain ⟨c6, g6⟩ := draw_done c7 g7' b5 hP
        go_wp2_with fail
        exact bodyPost_ret (results_cell_row rfl _ _ w.heap.size 64 _ (0, 0) _ rfl h5 Tryz.underlying64 rfl Tryz.sizeN) rfl ⟨_, rfl, empty40, c6, g6⟩
      by_cases h2 : r = 1
      · subst h2
        go_wp2_with (refine wpList_store_nd rfl _ _ rfl w.heap.size (⟨7, 0, ByteArray.empty, (m : Int) - 1 - x, 0⟩) rfl rfl zeroN hb4 ?_)
        intro w5 h5 b5 hs5
        obtain ⟨c6, g6⟩ := draw_done c4 g4' b5 hP
        go_wp2_with fail
        exact bodyPost_ret (results_cell_row rfl _ _ w.heap.size 64 _ (0, 0) _ rfl h5 Tryz.underlying64 rfl Tryz.sizeN) rfl ⟨_, rfl, empty40, c6, g6⟩
      · go_wp2_with fail
        refine (lmin_any _ _ _).mono ?_
        rintro e w6 ⟨rfl, rfl⟩
        go_wp2_with fail
        refine (below_any w0 v zs _ P (min (m : Int) 4) c4 (by omega)).mono ?_
        rintro e w7 ⟨y, rfl, hy0, hy1, c7, g7⟩
        have hb7 : w7.heap[w.heap.size]? = some (ndO zeroN) := (g7.block _ (Array.getElem?_eq_some_iff.1 hb4).1 (by simp; omega)).trans hb4
        have g7' := grown_trans g4' g7
        have hy := hy1 (by omega)
        clear hy1 g7
        go_wp2_with (refine wpList_store_nd rfl _ _ rfl w.heap.size (⟨5, 0, ByteArray.empty, (m : Int) - 1 - x, (m : Int) - 1 - y⟩) rfl rfl zeroN hb7 ?_)
        intro w5 h5 b5 hs5
        obtain ⟨c6, g6⟩ := draw_done c7 g7' b5 hP
        go_wp2_with fail
        exact bodyPost_ret (results_cell_row rfl _ _ w.heap.size 64 _ (0, 0) _ rfl h5 Tryz.underlying64 rfl Tryz.sizeN) rfl ⟨_, rfl, empty40, c6, g6⟩
end Go.Proofs.YtmbomhcnmjhbnaaGreatDoor

/-
  How values are written, as lists of bytes. Nothing of the program; no condition.
-/
namespace Go.Proofs.YtmbomhcnmjhbnaaGreatDoor
open Go.RowKit

theorem dec_len : ∀ (k u : Nat), u < 10 ^ (k + 1) → (Lib.decDigits u).length ≤ k + 1 := by
  intro k
  induction k with
  | zero => intro u h; rw [Lib.decDigits, dif_pos (by simpa using h)]; simp
  | succ k ih =>
    intro u h
    rw [Lib.decDigits]
    split
    · simp
    · have := ih (u / 10) (by rw [Nat.pow_succ] at h; omega)
      simp
      omega
theorem itoa_len {n : Int} (h : -1000000000 ≤ n ∧ n ≤ 1000000000) : (Lib.itoa n).length ≤ 11 := by
  unfold Lib.itoa
  split
  · have := dec_len 9 n.natAbs (by omega)
    simp; omega
  · have := dec_len 9 n.toNat (by omega)
    omega

/-- A node that is no pair, as it is written. -/
def wordL (x : Nd) : List UInt8 :=
  if x.k = 1 then [40, 41] else if x.k = 2 then (if x.n = 0 then [35, 102] else [35, 116]) else if x.k = 3 then Lib.itoa x.n
  else if x.k = 4 then x.s.data.toList else if x.k = 6 then [35, 102, 117, 110] ++ Lib.itoa x.n else if x.k = 7 then [35, 107, 111, 110, 116] ++ Lib.itoa x.n
  else if x.k = 8 then [35, 112, 114, 105, 109] ++ Lib.itoa x.n else if x.k = 9 then [35, 112, 105, 100] ++ Lib.itoa x.n else []

theorem wordL_len {x : Nd} (h : -1000000000 ≤ x.n ∧ x.n ≤ 1000000000) (hs : x.s.size ≤ 1000) : (wordL x).length ≤ 1100 := by
  have := itoa_len h
  have e : x.s.data.toList.length = x.s.size := by rw [Array.length_toList]; rfl
  unfold wordL
  split
  · simp
  · split
    · split <;> simp
    · split
      · omega
      · split
        · omega
        · split
          · simp; omega
          · split
            · simp; omega
            · split
              · simp; omega
              · split
                · simp; omega
                · simp

/-- The node v as it is written, and as it is written as the rest of a list. -/
def ft (xs : List Nd) : Nat → Nat → List UInt8 × List UInt8
  | 0, _ => ([], [])
  | f + 1, v => match xs[v]? with
    | none => ([], [])
    | some x => if x.k = 5 then ([40] ++ (ft xs f x.a.toNat).1 ++ (ft xs f x.b.toNat).2 ++ [41], [32] ++ (ft xs f x.a.toNat).1 ++ (ft xs f x.b.toNat).2)
      else (wordL x, if x.k = 1 then [] else [32, 46, 32] ++ wordL x)
def fullT (xs : List Nd) (v : Nat) : List UInt8 := (ft xs (v + 1) v).1
def restT (xs : List Nd) (v : Nat) : List UInt8 := (ft xs (v + 1) v).2

theorem nodesB_at {xs : List Nd} : ∀ {k i : Nat} {x : Nd}, nodesB xs k = true → xs[i]? = some x → nodeB x ((k + i : Nat) : Int) = true := by
  induction xs with
  | nil => intro k i x _ h; simp at h
  | cons y ys ih =>
    intro k i x h hx
    rw [nodesB, Bool.and_eq_true] at h
    cases i with
    | zero => simp at hx; subst hx; simpa using h.1
    | succ i =>
      have := ih (k := k + 1) (i := i) h.2 (by simpa using hx)
      rw [show k + (i + 1) = k + 1 + i by omega]
      exact this
theorem pool_at {xs : List Nd} (hp : poolB xs = true) {i : Nat} {x : Nd} (hx : xs[i]? = some x) : nodeB x (i : Int) = true := by
  simp only [poolB, Bool.and_eq_true] at hp
  have := nodesB_at hp.2 hx
  simpa using this
theorem pool_pair {xs : List Nd} (hp : poolB xs = true) {i : Nat} {x : Nd} (hx : xs[i]? = some x) (h5 : x.k = 5) : ∃ a b : Nat, x.a = a ∧ x.b = b ∧ a < i ∧ b < i := by
  have h := pool_at hp hx
  simp only [nodeB, Bool.and_eq_true, partB, hasA, hasB, h5] at h
  obtain ⟨_, ⟨_, hA⟩, hB⟩ := h
  simp only [true_or, decide_true, if_true, Bool.and_eq_true, decide_eq_true_eq] at hA hB
  exact ⟨x.a.toNat, x.b.toNat, by omega, by omega, by omega, by omega⟩
theorem lo_ge (k : Int) : -1000000000 ≤ lo k := by unfold lo; split <;> decide
theorem hi_le (k : Int) : hi k ≤ 1000000000 := by
  unfold hi
  split
  · decide
  · split
    · decide
    · split <;> decide
theorem pool_num {xs : List Nd} (hp : poolB xs = true) {i : Nat} {x : Nd} (hx : xs[i]? = some x) : (1 ≤ x.k ∧ x.k ≤ 9) ∧ (-1000000000 ≤ x.n ∧ x.n ≤ 1000000000) := by
  have h := pool_at hp hx
  simp only [nodeB, Bool.and_eq_true, decide_eq_true_eq] at h
  obtain ⟨⟨⟨⟨h1, h2⟩, h3⟩, h4⟩, _⟩ := h
  exact ⟨⟨h1, h2⟩, Int.le_trans (lo_ge _) h3, Int.le_trans h4 (hi_le _)⟩

theorem ft_fuel {xs : List Nd} (hp : poolB xs = true) : ∀ (v f : Nat), v < f → ft xs f v = ft xs (v + 1) v := by
  intro v
  induction v using Nat.strongRecOn with
  | _ v ih =>
    intro f hf
    cases f with
    | zero => omega
    | succ f =>
      rw [ft, ft]
      cases hx : xs[v]? with
      | none => rfl
      | some x =>
        dsimp only
        by_cases h5 : x.k = 5
        · obtain ⟨a, b, ha, hb, hal, hbl⟩ := pool_pair hp hx h5
          rw [if_pos h5, if_pos h5, ha, hb, Int.toNat_natCast, Int.toNat_natCast, ih a hal f (by omega), ih b hbl f (by omega), ih a hal v hal, ih b hbl v hbl]
        · rw [if_neg h5, if_neg h5]
theorem fullT_pair {xs : List Nd} (hp : poolB xs = true) {v : Nat} {x : Nd} (hx : xs[v]? = some x) (h5 : x.k = 5) {a b : Nat} (ha : x.a = a) (hb : x.b = b) (hal : a < v) (hbl : b < v) : fullT xs v = [40] ++ fullT xs a ++ restT xs b ++ [41] := by
  rw [fullT, ft, hx]
  dsimp only
  rw [if_pos h5, ha, hb, Int.toNat_natCast, Int.toNat_natCast, ft_fuel hp a v hal, ft_fuel hp b v hbl]
  rfl
theorem restT_pair {xs : List Nd} (hp : poolB xs = true) {v : Nat} {x : Nd} (hx : xs[v]? = some x) (h5 : x.k = 5) {a b : Nat} (ha : x.a = a) (hb : x.b = b) (hal : a < v) (hbl : b < v) : restT xs v = [32] ++ fullT xs a ++ restT xs b := by
  rw [restT, ft, hx]
  dsimp only
  rw [if_pos h5, ha, hb, Int.toNat_natCast, Int.toNat_natCast, ft_fuel hp a v hal, ft_fuel hp b v hbl]
  rfl
theorem fullT_word {xs : List Nd} {v : Nat} {x : Nd} (hx : xs[v]? = some x) (h5 : ¬ x.k = 5) : fullT xs v = wordL x := by
  rw [fullT, ft, hx]
  dsimp only
  rw [if_neg h5]
theorem restT_nil {xs : List Nd} {v : Nat} {x : Nd} (hx : xs[v]? = some x) (h1 : x.k = 1) : restT xs v = [] := by
  rw [restT, ft, hx]
  dsimp only
  rw [if_neg (by omega), if_pos h1]
theorem restT_word {xs : List Nd} {v : Nat} {x : Nd} (hx : xs[v]? = some x) (h5 : ¬ x.k = 5) (h1 : ¬ x.k = 1) : restT xs v = [32, 46, 32] ++ wordL x := by
  rw [restT, ft, hx]
  dsimp only
  rw [if_neg h5, if_neg h1]
end Go.Proofs.YtmbomhcnmjhbnaaGreatDoor

/-
  The law of a slice of bytes turned into a text, and the laws' own markText: the same text at the same number, in whatever world. Nothing else of the program; no condition.
-/
namespace Go.Proofs.YtmbomhcnmjhbnaaGreatDoor
open Go.RowKit

/-- A slice of bytes turned into a text. -/
theorem wpList_bytes_text {P : Program} (w : World) {ops : Array Oper} {rest : List Oper} {o : Oper} {a : Act} {Q : Exit → Act → World → Prop} (hg : o.guard = none) (x : Operand) (src dst e : TypeId) (ho : o.op = .convert src dst x)
    (hs : P.underlying src = some (.slice e)) (hd : P.underlying dst = some .string) (he : P.underlying e = some (.int .u8)) (ao : Option Addr) (n c : Nat) (xs : List Int) (hx : a.eval x = .slice ao n c) (hl : xs.length = n)
    (hc : n ≠ 0 → ∃ g o', ao = some ⟨g, o', none⟩ ∧ ∀ i, i < n → w.cell? ⟨g, o' + i, none⟩ = some (.int .u8 (xs.getD i 0)))
    (h : wpList P ops Q rest (a.put o.dst (.string (strOfNums xs))) w) : wpList P ops Q (o :: rest) a w := by
  refine wpList_plain hg fun K hK => ?_
  have hrun : (convert src dst (.slice ao n c)).run P w = .ok (.string (strOfNums xs)) w := by
    by_cases h0 : n = 0
    · subst h0
      have : xs = [] := List.eq_nil_of_length_eq_zero hl
      subst this
      cases ao with
      | none => exact run_convert_bytes_nil w src e hs he 0 c dst hd
      | some ad => exact run_convert_bytes_back w src dst e ad c [] hs he hd (fun j hj => absurd hj (by simp))
    · obtain ⟨g, o', rfl, hcell⟩ := hc h0
      exact run_convert_bytes_arg w src e hs he g o' n c xs hl hcell dst hd
  unfold Oper.wp
  simp [execOp, ho, hx, hrun, Result.andThen]
  exact hK _ _ h

/-- The digits of k ahead of out. -/
def mtGo : Nat → Nat → ByteArray → ByteArray
  | 0, _, out => out
  | f + 1, k, out => if k = 0 then out else mtGo f (k / 10) (strOfNums [48 + (k : Int) % 10] ++ out)
/-- What markText tells of a number. -/
def mt (k : Int) : ByteArray := if k ≤ 0 then ⟨#[109, 48]⟩ else ⟨#[109]⟩ ++ mtGo k.toNat k.toNat ⟨#[]⟩
theorem mtGo_step (f k : Nat) (out : ByteArray) (h : 0 < k) (hf : k ≤ f) : mtGo f k out = mtGo (f - 1) (k / 10) (strOfNums [48 + (k : Int) % 10] ++ out) := by
  cases f with
  | zero => omega
  | succ f => simp only [mtGo, if_neg (by omega : ¬ k = 0)]; rfl
theorem mtGo_end (f : Nat) (out : ByteArray) : mtGo f 0 out = out := by
  cases f <;> simp [mtGo]

theorem digit_size (x : Int) : (strOfNums [x]).size = 1 := rfl

end Go.Proofs.YtmbomhcnmjhbnaaGreatDoor
