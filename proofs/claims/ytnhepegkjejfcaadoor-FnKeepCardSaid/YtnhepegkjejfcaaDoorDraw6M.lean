/-
  Texts that stood by themselves, laid into one.
-/
import Derived.Test.YtnhepegkjejfcaaDoorDraw2M
import Derived.Test.YtnhepegkjejfcaaDoorISizeM
import Derived.Test.YtnhepegkjejfcaaDoorIntsM
import Derived.Test.YtnhepegkjejfcaaDoorTo2M
/-
  Contracts of the draws: l1PickInt gives one of its numbers; at gives a byte of the code.
-/
namespace Go.Proofs.YtnhepegkjejfcaaDoor
open Go.RowKit

set_option maxHeartbeats 800000 in
theorem pick_any (w0 : World) (v : Value) (zs : List Int) (w : World) (P g cap : Nat) (xs : List Int) (c : Cur w0 v zs w P) (hg : g ≠ P) (h1 : 1 ≤ xs.length) (h2 : xs.length ≤ 1048576) (hr : ∀ x ∈ xs, -9223372036854775808 ≤ x ∧ x ≤ 9223372036854775807)
    (hc : ∀ i, i < xs.length → w.cell? ⟨g, i, none⟩ = some (.int .i64 (xs.getD i 0))) :
    Calls Tryd.prog 48 #[.pointer (some ⟨P, 0, none⟩), .slice (some ⟨g, 0, none⟩) xs.length cap] w fun e w' => ∃ x : Int, e = .returned (.int .i64 x) ∧ -9223372036854775808 ≤ x ∧ x ≤ 9223372036854775807 ∧ Cur w0 v zs w' P ∧ w.grownBy w' (some P) := by
  have hgl := World.block_lt_of_cell? _ _ (hc 0 (by omega))
  simp only at hgl
  go_enter Tryd.func48, Tryd.ntmps48
  go_wp2_with fail
  refine (below_any w0 v zs w P xs.length c (by omega)).mono ?_
  rintro e w1 ⟨x, rfl, hx0, hx1, c1, g1⟩
  have hx := hx1 (by omega)
  obtain ⟨k, rfl⟩ := Int.eq_ofNat_of_zero_le hx0
  have hk : k < xs.length := by omega
  have hck : w1.cell? ⟨g, k, none⟩ = some (.int .i64 (xs.getD k 0)) := by
    rw [World.cell?_of_block (w := w) (g1.block g hgl (by simpa using hg))]; exact hc k hk
  have hrk := hr xs[k] (List.getElem_mem _)
  clear hc hr hx1
  go_wp2_with fail
  go_ret
  exact ⟨_, rfl, hrk.1, hrk.2, c1, g1⟩

theorem ints_new (w : World) (xs : List Int) (t : TypeId) (i : Nat) (hi : i < xs.length) : (w.alloc (.cells (xs.map (Value.int .i64)).toArray t)).cell? ⟨w.heap.size, i, none⟩ = some (.int .i64 (xs.getD i 0)) := by
  rw [cell_of_row _ w.heap.size i _ t (0, 0) (heap_alloc_new w _)]
  simp [hi]

end Go.Proofs.YtnhepegkjejfcaaDoor

/-
  Contracts of the draws: l1Once tells yes or no; l1Pick gives one of its texts.
-/
namespace Go.Proofs.YtnhepegkjejfcaaDoor
open Go.RowKit

set_option maxHeartbeats 800000 in
theorem once_any (w0 : World) (v : Value) (zs : List Int) (w : World) (P : Nat) (n : Int) (c : Cur w0 v zs w P) (hn : n ≤ 9223372036854775807) :
    Calls Tryd.prog 36 #[.pointer (some ⟨P, 0, none⟩), .int .i64 n] w fun e w' => ∃ b : Bool, e = .returned (.bool b) ∧ Cur w0 v zs w' P ∧ w.grownBy w' (some P) := by
  go_enter Tryd.func36, Tryd.ntmps36
  go_wp2_with fail
  refine (below_any w0 v zs w P n c hn).mono ?_
  rintro e w1 ⟨x, rfl, hx0, hx1, c1, g1⟩
  go_wp2_with fail
  go_ret
  exact ⟨_, rfl, c1, g1⟩

set_option maxHeartbeats 800000 in
theorem picks_any (w0 : World) (v : Value) (zs : List Int) (w : World) (P g cap : Nat) (xs : List ByteArray) (c : Cur w0 v zs w P) (hg : g ≠ P) (h1 : 1 ≤ xs.length) (h2 : xs.length ≤ 1048576)
    (hc : ∀ i, i < xs.length → w.cell? ⟨g, i, none⟩ = some (.string (xs.getD i ByteArray.empty))) :
    Calls Tryd.prog 55 #[.pointer (some ⟨P, 0, none⟩), .slice (some ⟨g, 0, none⟩) xs.length cap] w fun e w' => ∃ s ∈ xs, e = .returned (.string s) ∧ Cur w0 v zs w' P ∧ w.grownBy w' (some P) := by
  have hgl := World.block_lt_of_cell? _ _ (hc 0 (by omega))
  simp only at hgl
  go_enter Tryd.func55, Tryd.ntmps55
  go_wp2_with fail
  refine (below_any w0 v zs w P xs.length c (by omega)).mono ?_
  rintro e w1 ⟨x, rfl, hx0, hx1, c1, g1⟩
  have hx := hx1 (by omega)
  obtain ⟨k, rfl⟩ := Int.eq_ofNat_of_zero_le hx0
  have hk : k < xs.length := by omega
  have hck : w1.cell? ⟨g, k, none⟩ = some (.string (xs.getD k ByteArray.empty)) := by
    rw [World.cell?_of_block (w := w) (g1.block g hgl (by simpa using hg))]; exact hc k hk
  rw [show xs.getD k ByteArray.empty = xs[k] by simp [hk]] at hck
  have hmem : xs[k] ∈ xs := List.getElem_mem _
  generalize xs[k] = s at hck hmem
  clear hc hx1
  go_wp2_with fail
  go_ret
  exact ⟨s, hmem, rfl, c1, g1⟩

theorem strs_new (w : World) (xs : List ByteArray) (t : TypeId) (i : Nat) (hi : i < xs.length) : (w.alloc (.cells (xs.map Value.string).toArray t)).cell? ⟨w.heap.size, i, none⟩ = some (.string (xs.getD i ByteArray.empty)) := by
  rw [cell_of_row _ w.heap.size i _ t (0, 0) (heap_alloc_new w _)]
  simp [hi]

end Go.Proofs.YtnhepegkjejfcaaDoor

/-
  Contracts of spec's l2Has, l1Min and SizeOf.
-/
namespace Go.Proofs.YtnhepegkjejfcaaDoor
open Go.RowKit

set_option maxHeartbeats 400000 in
theorem shas_any (v : Value) (xs : List Nd) (a : Int) (w : World) (R : NRow w v xs) :
    Calls Tryd.prog 32 #[.agg #[v], .int .i64 a] w fun e w' => e = .returned (.bool (hasI xs a)) ∧ Below w.heap.size w w' := by
  obtain ⟨ao, cap, rfl, _, hm, _⟩ := R
  go_enter Tryd.func32, Tryd.ntmps32
  go_wp2_with fail
  refine (lin_any _ _ _ _).mono ?_
  rintro e w1 ⟨rfl, rfl⟩
  go_wp2
  go_ret
  refine ⟨retB ?_, (Below.refl _ _).alloc (Nat.le_refl _) _⟩
  rw [Bool.eq_iff_iff]
  simp [hasI]
  omega

set_option maxHeartbeats 400000 in
theorem lmin_any (x y : Int) (w : World) : Calls Tryd.prog 49 #[.int .i64 x, .int .i64 y] w fun e w' => e = .returned (.int .i64 (min x y)) ∧ w' = w := by
  by_cases h : x < y
  · have HM : Hid (min x y = x) := by unfold Hid; omega
    go_enter Tryd.func49, Tryd.ntmps49
    go_wp2
    go_ret
    exact ⟨by rw [HM.out]; rfl, rfl⟩
  · have HM : Hid (min x y = y) := by unfold Hid; omega
    go_enter Tryd.func49, Tryd.ntmps49
    go_wp2
    go_ret
    exact ⟨by rw [HM.out]; rfl, rfl⟩

theorem own_of_eq {W w5 : World} {base k n : Nat} {e : TypeId} {v : Value} {xs : List Value} (e5 : w5 = W) (h : W.ownsRow base e k v n xs) : w5.ownsRow base e k v n xs := by rw [e5]; exact h
theorem own_of_eqN {W w5 : World} {base k n m : Nat} {e : TypeId} {v : Value} {xs : List Value} (e5 : w5 = W.drewN m) (h : W.ownsRow base e k v n xs) : w5.ownsRow base e k v n xs := by rw [e5]; exact h
theorem belowN {B : Nat} {w w' : World} (h : Below B w w') (n : Nat) : Below B w (w'.drewN n) := ⟨h.os, h.tape, h.output, h.size, h.block⟩

end Go.Proofs.YtnhepegkjejfcaaDoor

/-
  Contracts of the draws of nodes: l2DrawAtom, l2DrawNode, l2Spoil: each gives some node, and turns nothing but the cursor.
-/
namespace Go.Proofs.YtnhepegkjejfcaaDoor
open Go.RowKit

/-- A node as a value. -/
def ndV (y : Nd) : Value := .agg #[.int .i64 y.k, .int .i64 y.n, .string y.s, .int .i64 y.a, .int .i64 y.b]
def ndO (y : Nd) : Obj := .cells #[.int .i64 y.k, .int .i64 y.n, .string y.s, .int .i64 y.a, .int .i64 y.b] 40 (0, 0)
theorem draw_done {w0 w w3 w4 : World} {v : Value} {zs : List Int} {P : Nat} (c3 : Cur w0 v zs w3 P) (hg : w.grownBy w3 (some P)) (b4 : Below w.heap.size w3 w4) (hP : P < w.heap.size) : Cur w0 v zs w4 P ∧ w.grownBy w4 (some P) :=
  ⟨c3.kept (b4.mono (by omega)), ⟨b4.os.trans hg.os, b4.tape.trans hg.tape, b4.output.trans hg.output, Nat.le_trans hg.size b4.size, fun k hk hne => (b4.block k hk).trans (hg.block k hk hne)⟩⟩
theorem draw_step {w w1 w2 : World} {P : Nat} (hb : Below w.heap.size w w1) (hg : w1.grownBy w2 (some P)) : w.grownBy w2 (some P) :=
  ⟨hg.os.trans hb.os, hg.tape.trans hb.tape, hg.output.trans hb.output, Nat.le_trans hb.size hg.size, fun k hk hne => (hg.block k (Nat.lt_of_lt_of_le hk hb.size) hne).trans (hb.block k hk)⟩
/-- A node stored whole into a variable. -/
theorem wpList_store_nd {ops : Array Oper} {rest : List Oper} {o : Oper} {a : Act} {w : World} {Q : Exit → Act → World → Prop} (hgd : o.guard = none) (x y : Operand) (ho : o.op = .store 40 x y)
    (g : Nat) (nd : Nd) (hx : a.eval x = .pointer (some ⟨g, 0, none⟩)) (hy : a.eval y = ndV nd) (old : Nd) (hg : w.heap[g]? = some (ndO old))
    (h : ∀ w2 : World, w2.heap[g]? = some (ndO nd) → Below g w w2 → w2.heap.size = w.heap.size → wpList Tryd.prog ops Q rest (a.put o.dst undef) w2) : wpList Tryd.prog ops Q (o :: rest) a w :=
  wpList_store_own hgd 40 x y ho g _ hx hy 40 _ hg Tryd.sizeN rfl (all_oneCell_toArray nd.one) h
theorem empty40 : ByteArray.empty.size ≤ 40 := by decide

def picks6 : List ByteArray := [⟨#[97]⟩, ⟨#[98, 99]⟩, ⟨#[120]⟩, ⟨#[102]⟩, ⟨#[43]⟩, ⟨#[108, 105, 115, 116]⟩]
theorem picks6_size : ∀ s ∈ picks6, s.size ≤ 40 := by decide
set_option maxHeartbeats 1600000 in
theorem datom_any (w0 : World) (v : Value) (zs : List Int) (w : World) (P : Nat) (c : Cur w0 v zs w P) :
    Calls Tryd.prog 62 #[.pointer (some ⟨P, 0, none⟩)] w fun e w' => ∃ x : Nd, e = .returned (ndV x) ∧ x.s.size ≤ 40 ∧ Cur w0 v zs w' P ∧ w.grownBy w' (some P) := by
  have hP := c.lt
  go_enter Tryd.func62, Tryd.ntmps62
  go_wp2_with fail
  have hB0 : Below w.heap.size w (w.alloc (ndO zeroN)) := (Below.refl _ _).alloc (Nat.le_refl _) _
  refine (below_any w0 v zs _ P 8 (c.kept (hB0.mono (by omega))) (by omega)).mono ?_
  rintro e w1 ⟨r, rfl, hr0, hr1, c1, g1⟩
  have hr := hr1 (by omega)
  have hb1 : w1.heap[w.heap.size]? = some (ndO zeroN) := (g1.block _ (by simp) (by simp; omega)).trans (heap_alloc_new _ _)
  have g1' := draw_step hB0 g1
  have hs1 := g1'.size
  clear hB0 g1 hr1
  by_cases h0 : r = 0
  · subst h0
    go_wp2_with (refine wpList_store_nd rfl _ _ rfl w.heap.size (⟨1, 0, ByteArray.empty, 0, 0⟩) rfl rfl zeroN hb1 ?_)
    intro w5 h5 b5 hs5
    obtain ⟨c6, g6⟩ := draw_done c1 g1' b5 hP
    go_wp2_with fail
    exact bodyPost_ret (results_cell_row rfl _ _ w.heap.size 40 _ (0, 0) _ rfl h5 Tryd.underlying40 rfl Tryd.sizeN) rfl ⟨_, rfl, empty40, c6, g6⟩
  by_cases h1 : r = 1
  · subst h1
    go_wp2_with fail
    refine (below_any w0 v zs _ P 2 c1 (by omega)).mono ?_
    rintro e w2 ⟨x, rfl, hx0, hx1, c2, g2⟩
    have hx := hx1 (by omega)
    have hb2 : w2.heap[w.heap.size]? = some (ndO zeroN) := (g2.block _ (Array.getElem?_eq_some_iff.1 hb1).1 (by simp; omega)).trans hb1
    have g2' := grown_trans g1' g2
    clear hx1 g2
    go_wp2_with (refine wpList_store_nd rfl _ _ rfl w.heap.size (⟨2, x, ByteArray.empty, 0, 0⟩) rfl rfl zeroN hb2 ?_)
    intro w5 h5 b5 hs5
    obtain ⟨c6, g6⟩ := draw_done c2 g2' b5 hP
    go_wp2_with fail
    exact bodyPost_ret (results_cell_row rfl _ _ w.heap.size 40 _ (0, 0) _ rfl h5 Tryd.underlying40 rfl Tryd.sizeN) rfl ⟨_, rfl, empty40, c6, g6⟩
  by_cases h2 : r = 2
  · subst h2
    go_wp2_with fail
    have hB1 : Below w1.heap.size w1 (w1.alloc (Obj.cells (picks6.map Value.string).toArray 9)) := (Below.refl _ _).alloc (Nat.le_refl _) _
    have hc1 := c1.lt
    refine (picks_any w0 v zs _ P w1.heap.size 6 picks6 (c1.kept (hB1.mono (by omega))) (by omega) (by decide) (by decide) (fun i hi => strs_new w1 picks6 9 i hi)).mono ?_
    rintro e w2 ⟨s, hs, rfl, c2, g2⟩
    have hb2 : w2.heap[w.heap.size]? = some (ndO zeroN) := (g2.block _ (by have := (Array.getElem?_eq_some_iff.1 hb1).1; simp; omega) (by simp; omega)).trans ((heap_alloc_old _ _ (Array.getElem?_eq_some_iff.1 hb1).1).trans hb1)
    have g2' := grown_trans g1' (draw_step hB1 g2)
    have hs40 := picks6_size s hs
    clear hs g2 hB1
    go_wp2_with (refine wpList_store_nd rfl _ _ rfl w.heap.size (⟨4, 0, s, 0, 0⟩) rfl rfl zeroN hb2 ?_)
    intro w5 h5 b5 hs5
    obtain ⟨c6, g6⟩ := draw_done c2 g2' b5 hP
    go_wp2_with fail
    exact bodyPost_ret (results_cell_row rfl _ _ w.heap.size 40 _ (0, 0) _ rfl h5 Tryd.underlying40 rfl Tryd.sizeN) rfl ⟨_, rfl, hs40, c6, g6⟩
  by_cases h3 : r = 3
  · subst h3
    go_wp2_with fail
    refine (below_any w0 v zs _ P 5 c1 (by omega)).mono ?_
    rintro e w2 ⟨x, rfl, hx0, hx1, c2, g2⟩
    have hx := hx1 (by omega)
    have hb2 : w2.heap[w.heap.size]? = some (ndO zeroN) := (g2.block _ (Array.getElem?_eq_some_iff.1 hb1).1 (by simp; omega)).trans hb1
    have g2' := grown_trans g1' g2
    clear hx1 g2
    go_wp2_with (refine wpList_store_nd rfl _ _ rfl w.heap.size (⟨9, x, ByteArray.empty, 0, 0⟩) rfl rfl zeroN hb2 ?_)
    intro w5 h5 b5 hs5
    obtain ⟨c6, g6⟩ := draw_done c2 g2' b5 hP
    go_wp2_with fail
    exact bodyPost_ret (results_cell_row rfl _ _ w.heap.size 40 _ (0, 0) _ rfl h5 Tryd.underlying40 rfl Tryd.sizeN) rfl ⟨_, rfl, empty40, c6, g6⟩
  by_cases h4 : r = 4
  · subst h4
    go_wp2_with fail
    refine (below_any w0 v zs _ P 5 c1 (by omega)).mono ?_
    rintro e w2 ⟨x, rfl, hx0, hx1, c2, g2⟩
    have hx := hx1 (by omega)
    have hb2 : w2.heap[w.heap.size]? = some (ndO zeroN) := (g2.block _ (Array.getElem?_eq_some_iff.1 hb1).1 (by simp; omega)).trans hb1
    have g2' := grown_trans g1' g2
    clear hx1 g2
    go_wp2_with (refine wpList_store_nd rfl _ _ rfl w.heap.size (⟨8, x, ByteArray.empty, 0, 0⟩) rfl rfl zeroN hb2 ?_)
    intro w5 h5 b5 hs5
    obtain ⟨c6, g6⟩ := draw_done c2 g2' b5 hP
    go_wp2_with fail
    exact bodyPost_ret (results_cell_row rfl _ _ w.heap.size 40 _ (0, 0) _ rfl h5 Tryd.underlying40 rfl Tryd.sizeN) rfl ⟨_, rfl, empty40, c6, g6⟩
  · skip
    go_wp2_with fail
    refine (below_any w0 v zs _ P 12 c1 (by omega)).mono ?_
    rintro e w2 ⟨x, rfl, hx0, hx1, c2, g2⟩
    have hx := hx1 (by omega)
    have hb2 : w2.heap[w.heap.size]? = some (ndO zeroN) := (g2.block _ (Array.getElem?_eq_some_iff.1 hb1).1 (by simp; omega)).trans hb1
    have g2' := grown_trans g1' g2
    clear hx1 g2
    go_wp2_with (refine wpList_store_nd rfl _ _ rfl w.heap.size (⟨3, x - 3, ByteArray.empty, 0, 0⟩) rfl rfl zeroN hb2 ?_)
    intro w5 h5 b5 hs5
    obtain ⟨c6, g6⟩ := draw_done c2 g2' b5 hP
    go_wp2_with fail
    exact bodyPost_ret (results_cell_row rfl _ _ w.heap.size 40 _ (0, 0) _ rfl h5 Tryd.underlying40 rfl Tryd.sizeN) rfl ⟨_, rfl, empty40, c6, g6⟩

set_option maxHeartbeats 1600000 in
theorem dnode_any (w0 : World) (v : Value) (zs : List Int) (w : World) (P : Nat) (m : Nat) (c : Cur w0 v zs w P) (hm : m ≤ 100000) :
    Calls Tryd.prog 53 #[.pointer (some ⟨P, 0, none⟩), .int .i64 m] w fun e w' => ∃ x : Nd, e = .returned (ndV x) ∧ x.s.size ≤ 40 ∧ Cur w0 v zs w' P ∧ w.grownBy w' (some P) := by
  have hP := c.lt
  have hB0 : Below w.heap.size w (w.alloc (ndO zeroN)) := (Below.refl _ _).alloc (Nat.le_refl _) _
  have c0 := c.kept (hB0.mono (show P + 1 ≤ w.heap.size by omega))
  have g0' : w.grownBy (w.alloc (ndO zeroN)) (some P) := World.grownBy_alloc w _ _
  have hb0 : (w.alloc (ndO zeroN)).heap[w.heap.size]? = some (ndO zeroN) := heap_alloc_new _ _
  by_cases h0 : m = 0
  · subst h0
    go_enter Tryd.func53, Tryd.ntmps53
    go_wp2_with fail
    refine (datom_any w0 v zs _ P c0).mono ?_
    rintro e w3 ⟨x, rfl, hx40, c3, g3⟩
    have hb3 : w3.heap[w.heap.size]? = some (ndO zeroN) := (g3.block _ (Array.getElem?_eq_some_iff.1 hb0).1 (by simp; omega)).trans hb0
    have g3' := grown_trans g0' g3
    clear g3
    rw [ndV]
    go_wp2_with (refine wpList_store_nd rfl _ _ rfl w.heap.size (x) rfl rfl zeroN hb3 ?_)
    intro w5 h5 b5 hs5
    obtain ⟨c6, g6⟩ := draw_done c3 g3' b5 hP
    go_wp2_with fail
    exact bodyPost_ret (results_cell_row rfl _ _ w.heap.size 40 _ (0, 0) _ rfl h5 Tryd.underlying40 rfl Tryd.sizeN) rfl ⟨_, rfl, hx40, c6, g6⟩
  · have h0' : ¬ (m : Int) = 0 := by omega
    have hm0 : 0 < m := by omega
    go_enter Tryd.func53, Tryd.ntmps53
    go_wp2_with fail
    refine (once_any w0 v zs _ P 2 c0 (by omega)).mono ?_
    rintro e w1 ⟨b, rfl, c1, g1⟩
    have hb1 : w1.heap[w.heap.size]? = some (ndO zeroN) := (g1.block _ (by simp) (by simp; omega)).trans hb0
    have g1' := grown_trans g0' g1
    clear g1 g0' hb0 c0 hB0
    cases b with
    | true =>
      go_wp2_with fail
      refine (datom_any w0 v zs _ P c1).mono ?_
      rintro e w3 ⟨x, rfl, hx40, c3, g3⟩
      have hb3 : w3.heap[w.heap.size]? = some (ndO zeroN) := (g3.block _ (Array.getElem?_eq_some_iff.1 hb1).1 (by simp; omega)).trans hb1
      have g3' := grown_trans g1' g3
      clear g3
      rw [ndV]
      go_wp2_with (refine wpList_store_nd rfl _ _ rfl w.heap.size (x) rfl rfl zeroN hb3 ?_)
      intro w5 h5 b5 hs5
      obtain ⟨c6, g6⟩ := draw_done c3 g3' b5 hP
      go_wp2_with fail
      exact bodyPost_ret (results_cell_row rfl _ _ w.heap.size 40 _ (0, 0) _ rfl h5 Tryd.underlying40 rfl Tryd.sizeN) rfl ⟨_, rfl, hx40, c6, g6⟩
    | false =>
      go_wp2_with fail
      refine (lmin_any _ _ _).mono ?_
      rintro e w2 ⟨rfl, rfl⟩
      go_wp2_with fail
      refine (below_any w0 v zs _ P (min (m : Int) 5) c1 (by omega)).mono ?_
      rintro e w3 ⟨x, rfl, hx0, hx1, c3, g3⟩
      have hb3 : w3.heap[w.heap.size]? = some (ndO zeroN) := (g3.block _ (Array.getElem?_eq_some_iff.1 hb1).1 (by simp; omega)).trans hb1
      have g3' := grown_trans g1' g3
      have hx := hx1 (by omega)
      clear hx1 g3
      go_wp2_with fail
      refine (below_any w0 v zs _ P 8 c3 (by omega)).mono ?_
      rintro e w4 ⟨r, rfl, hr0, hr1, c4, g4⟩
      have hb4 : w4.heap[w.heap.size]? = some (ndO zeroN) := (g4.block _ (Array.getElem?_eq_some_iff.1 hb3).1 (by simp; omega)).trans hb3
      have g4' := grown_trans g3' g4
      have hr := hr1 (by omega)
      clear hr1 g4 c3 c1
      by_cases h1 : r = 0
      · subst h1
        go_wp2_with fail
        refine (below_any w0 v zs _ P 9 c4 (by omega)).mono ?_
        rintro e w7 ⟨y, rfl, hy0, hy1, c7, g7⟩
        have hb7 : w7.heap[w.heap.size]? = some (ndO zeroN) := (g7.block _ (Array.getElem?_eq_some_iff.1 hb4).1 (by simp; omega)).trans hb4
        have g7' := grown_trans g4' g7
        clear hy1 g7
        go_wp2_with (refine wpList_store_nd rfl _ _ rfl w.heap.size (⟨6, y, ByteArray.empty, (m : Int) - 1 - x, 0⟩) rfl rfl zeroN hb7 ?_)
        intro w5 h5 b5 hs5
        obtain ⟨c6, g6⟩ := draw_done c7 g7' b5 hP
        go_wp2_with fail
        exact bodyPost_ret (results_cell_row rfl _ _ w.heap.size 40 _ (0, 0) _ rfl h5 Tryd.underlying40 rfl Tryd.sizeN) rfl ⟨_, rfl, empty40, c6, g6⟩
      by_cases h2 : r = 1
      · subst h2
        go_wp2_with (refine wpList_store_nd rfl _ _ rfl w.heap.size (⟨7, 0, ByteArray.empty, (m : Int) - 1 - x, 0⟩) rfl rfl zeroN hb4 ?_)
        intro w5 h5 b5 hs5
        obtain ⟨c6, g6⟩ := draw_done c4 g4' b5 hP
        go_wp2_with fail
        exact bodyPost_ret (results_cell_row rfl _ _ w.heap.size 40 _ (0, 0) _ rfl h5 Tryd.underlying40 rfl Tryd.sizeN) rfl ⟨_, rfl, empty40, c6, g6⟩
      · go_wp2_with fail
        refine (lmin_any _ _ _).mono ?_
        rintro e w6 ⟨rfl, rfl⟩
        go_wp2_with fail
        refine (below_any w0 v zs _ P (min (m : Int) 4) c4 (by omega)).mono ?_
        rintro e w7 ⟨y, rfl, hy0, hy1, c7, g7⟩
        have hb7 : w7.heap[w.heap.size]? = some (ndO zeroN) := (g7.block _ (Array.getElem?_eq_some_iff.1 hb4).1 (by simp; omega)).trans hb4
        have g7' := grown_trans g4' g7
        have hy := hy1 (by omega)
        clear hy1 g7
        go_wp2_with (refine wpList_store_nd rfl _ _ rfl w.heap.size (⟨5, 0, ByteArray.empty, (m : Int) - 1 - x, (m : Int) - 1 - y⟩) rfl rfl zeroN hb7 ?_)
        intro w5 h5 b5 hs5
        obtain ⟨c6, g6⟩ := draw_done c7 g7' b5 hP
        go_wp2_with fail
        exact bodyPost_ret (results_cell_row rfl _ _ w.heap.size 40 _ (0, 0) _ rfl h5 Tryd.underlying40 rfl Tryd.sizeN) rfl ⟨_, rfl, empty40, c6, g6⟩
end Go.Proofs.YtnhepegkjejfcaaDoor
