/-
  Contract of the draws' DrawMake.
-/
import Derived.Test.YtlnfhcfdcocepaaDraw11
namespace Go.Proofs.Ytlnfhcfdcocepaa
open Go.RowKit

theorem results_row_row {P : Program} {fn : Func} {p q : Tmp} {ty ty' : TypeId} (h : fn.results = #[.cell p ty, .cell q ty']) (tmps : Array Value) (w : World) (g : Nat) (t : TypeId) (cs : Array Value) (fr : Nat × Nat) (d : TypeDesc)
    (hp : tmps.getD p undef = .pointer (some ⟨g, 0, none⟩)) (hg : w.heap[g]? = some (.cells cs t fr)) (hu : P.underlying ty = some d) (hd : (match d with | .struct _ | .array _ _ => true | _ => false) = true) (hi : (P.info? ty).map (·.size) = some cs.size)
    (g' : Nat) (t' : TypeId) (cs' : Array Value) (fr' : Nat × Nat) (d' : TypeDesc) (hp' : tmps.getD q undef = .pointer (some ⟨g', 0, none⟩)) (hg' : w.heap[g']? = some (.cells cs' t' fr')) (hu' : P.underlying ty' = some d') (hd' : (match d' with | .struct _ | .array _ _ => true | _ => false) = true) (hi' : (P.info? ty').map (·.size) = some cs'.size) :
    (results fn tmps).run P w = .ok (.tuple #[.agg cs, .agg cs']) w := by
  have e : tmps[p]?.getD undef = .pointer (some ⟨g, 0, none⟩) := by simpa using hp
  have e' : tmps[q]?.getD undef = .pointer (some ⟨g', 0, none⟩) := by simpa using hp'
  simp [results, h, e, e', asAddr, run_loadVar_row w g t ty cs fr d hg hu hd hi, run_loadVar_row w g' t' ty' cs' fr' d' hg' hu' hd' hi']
theorem blk_drew {w : World} {g : Nat} {o : Obj} (h : w.heap[g]? = some o) : w.drew.heap[g]? = some o := h
theorem own_drew {w : World} {B k n : Nat} {e : TypeId} {v : Value} {l : List Value} (h : w.ownsRow B e k v n l) : w.drew.ownsRow B e k v n l := h
abbrev S5 (W : World) (r : Nat) (y : Nd) : World := ((((W.setCell ⟨r, 0, none⟩ (.int .i64 y.k)).setCell ⟨r, 1, none⟩ (.int .i64 y.n)).setCell ⟨r, 2, none⟩ (.string y.s)).setCell ⟨r, 3, none⟩ (.int .i64 y.a)).setCell ⟨r, 4, none⟩ (.int .i64 y.b)
theorem s5_same {W : World} {r : Nat} {z : Nd} (y : Nd) (h : W.heap[r]? = some (ndO z)) : (S5 W r y).heap[r]? = some (ndO y) :=
  heap_setCell_same _ r 4 _ _ _ (heap_setCell_same _ r 3 _ _ _ (heap_setCell_same _ r 2 _ _ _ (heap_setCell_same _ r 1 _ _ _ (heap_setCell_same _ r 0 _ _ _ h))))
theorem s5_other {W : World} {r B : Nat} {o : Obj} (y : Nd) (h : W.heap[B]? = some o) (hne : r ≠ B) : (S5 W r y).heap[B]? = some o := blk_ne (blk_ne (blk_ne (blk_ne (blk_ne h hne) hne) hne) hne) hne
theorem s5_below {W : World} {r B : Nat} (y : Nd) (h : B ≤ r) : Below B W (S5 W r y) :=
  ((((((Below.refl _ _).setCell (p := ⟨r, 0, none⟩) h _).setCell (p := ⟨r, 1, none⟩) h _).setCell (p := ⟨r, 2, none⟩) h _).setCell (p := ⟨r, 3, none⟩) h _).setCell (p := ⟨r, 4, none⟩) h _)
theorem s5_own {W : World} {r base k n : Nat} {e : TypeId} {v : Value} {l : List Value} (y : Nd) (h : W.ownsRow base e k v n l) (hr : r < base) : (S5 W r y).ownsRow base e k v n l :=
  ownsRow_setCell_below (a := ⟨r, 4, none⟩) (ownsRow_setCell_below (a := ⟨r, 3, none⟩) (ownsRow_setCell_below (a := ⟨r, 2, none⟩) (ownsRow_setCell_below (a := ⟨r, 1, none⟩) (ownsRow_setCell_below h (a := ⟨r, 0, none⟩) hr _) hr _) hr _) hr _) hr _
theorem own_upto {w w' : World} {B k n x : Nat} {e : TypeId} {v : Value} {l : List Value} (h : w.ownsRow B e k v n l) (hb : Below x w w') (hx : ∀ j, v.ownBlock = some j → j < x) : w'.ownsRow B e k v n l := by
  refine ⟨h.1, ?_⟩
  rcases h.2 with ⟨rfl, h0⟩ | ⟨g, cap, cur, rfl, hB, hg, hr⟩
  · exact Or.inl ⟨rfl, h0⟩
  · exact Or.inr ⟨g, cap, cur, rfl, hB, (hb.block g (hx g rfl)).trans hg, hr⟩
/-- A pool and a node, each into its result's variable. -/
theorem two_put {W : World} {r1 r2 base n : Nat} {u V : Value} {z : Nd} {l : List Value} (y : Nd) (h1 : W.heap[r1]? = some (.cells #[u] 26 (0, 0))) (h2 : W.heap[r2]? = some (ndO z)) (ho : W.ownsRow base 28 5 V n l) (hne : r1 < r2) (hb : r2 < base) :
    ((S5 (W.setCell ⟨r1, 0, none⟩ V) r2 y).heap[r1]? = some (.cells #[V] 26 (0, 0)) ∧ (S5 (W.setCell ⟨r1, 0, none⟩ V) r2 y).heap[r2]? = some (ndO y) ∧ (S5 (W.setCell ⟨r1, 0, none⟩ V) r2 y).ownsRow base 28 5 V n l ∧ Below r1 W (S5 (W.setCell ⟨r1, 0, none⟩ V) r2 y)) ∧
    (((S5 W r2 y).setCell ⟨r1, 0, none⟩ V).heap[r1]? = some (.cells #[V] 26 (0, 0)) ∧ ((S5 W r2 y).setCell ⟨r1, 0, none⟩ V).heap[r2]? = some (ndO y) ∧ ((S5 W r2 y).setCell ⟨r1, 0, none⟩ V).ownsRow base 28 5 V n l ∧ Below r1 W ((S5 W r2 y).setCell ⟨r1, 0, none⟩ V)) :=
  ⟨⟨s5_other y (heap_setCell_same W r1 0 _ _ V h1) (by omega), s5_same y (blk_ne h2 (by omega)), s5_own y (ownsRow_setCell_below ho (a := ⟨r1, 0, none⟩) (by show r1 < base; omega) _) hb, ((Below.refl r1 W).setCell (p := ⟨r1, 0, none⟩) (Nat.le_refl _) V).trans (s5_below y (by omega))⟩,
   ⟨heap_setCell_same _ r1 0 _ _ V (s5_other y h1 (by omega)), blk_ne (s5_same y h2) (by omega), ownsRow_setCell_below (s5_own y ho hb) (a := ⟨r1, 0, none⟩) (by show r1 < base; omega) _, (s5_below (B := r1) y (by omega)).setCell (p := ⟨r1, 0, none⟩) (Nat.le_refl _) V⟩⟩

set_option maxRecDepth 100000 in
set_option maxHeartbeats 3200000 in
theorem dmake_any (v : Value) (zs : List Int) (w : World) (R : Row w v zs) (hl : zs.length ≤ 1048576) :
    Calls Try.prog 6 #[v] w fun e w' => ∃ (v' : Value) (xs : List Nd) (x : Nd), e = .returned (.tuple #[.agg #[v'], ndV x]) ∧ xs.length ≤ 3001 ∧ (∀ x ∈ xs, x.s.size ≤ 40) ∧ x.s.size ≤ 40 ∧ w'.ownsRow w.heap.size 28 5 v' xs.length (ncs xs) ∧ Below w.heap.size w w' := by
  have hB0 : Below w.heap.size w ((w.alloc (.cells #[.slice none 0 0] 26)).alloc (ndO zeroN)) := ((Below.refl _ _).alloc (Nat.le_refl _) _).alloc (by simp) _
  have hr0 : ((w.alloc (.cells #[.slice none 0 0] 26)).alloc (ndO zeroN)).heap[w.heap.size]? = some (.cells #[.slice none 0 0] 26 (0, 0)) := (heap_alloc_old _ _ (by simp)).trans (heap_alloc_new _ _)
  have hq0 : ((w.alloc (.cells #[.slice none 0 0] 26)).alloc (ndO zeroN)).heap[w.heap.size + 1]? = some (ndO zeroN) := heap_alloc2_new _ _ _
  have R0 := R.below hB0
  have hlrA : w.heap.size + 1 < ((w.alloc (.cells #[.slice none 0 0] 26)).alloc (ndO zeroN)).heap.size := by simp
  go_enter Try.func6, Try.ntmps6
  go_wp2_with fail
  generalize hA : (w.alloc (Obj.cells #[Value.slice none 0 0] 26)).alloc (ndO zeroN) = wA at hB0 hr0 hq0 R0 hlrA
  refine (new_any v zs _ ?_ hl).mono ?_
  · exact hA ▸ R0
  rw [show (w.alloc (Obj.cells #[Value.slice none 0 0] 26)).alloc (Obj.cells #[.int .i64 0, .int .i64 0, .string ⟨#[]⟩, .int .i64 0, .int .i64 0] 28) = wA from hA]
  rintro e w1 ⟨rfl, c1, b1⟩
  have hP1 := c1.lt
  have hlr : w.heap.size + 1 < wA.heap.size := hlrA
  generalize wA.heap.size = P at c1 hlr hP1 ⊢
  clear b1 hA
  go_wp2_with fail
  refine (ddraw_any wA v zs w1 P c1).mono ?_
  rintro e w2 ⟨v2, xs, rfl, hxl, hz, ho2, c2, g2⟩
  obtain ⟨a2, q2, rfl⟩ := own_form ho2
  have hb2 := c2.lt
  have ho3 := own_mono (B' := P + 1) (ho2.alloc (.cells #[.slice a2 xs.length q2] 26)) (by omega)
  have hb3 := heap_alloc_new w2 (.cells #[.slice a2 xs.length q2] 26)
  have c3 := c2.kept ((Below.refl (P + 1) w2).alloc (by omega) (.cells #[.slice a2 xs.length q2] 26))
  have HZ : Hid (∀ x ∈ xs, x.s.size ≤ 40) := hz
  clear ho2 c2 g2 c1 hz
  go_wp2_with fail
  generalize w2.alloc (Obj.cells #[Value.slice a2 xs.length q2] 26) = w3 at ho3 hb3 c3 ⊢
  generalize w2.heap.size = b at hb3 hb2 ⊢
  have hlt3 := (Array.getElem?_eq_some_iff.1 hb3).1
  refine (dnode_any wA v zs w3 P xs.length c3 (by omega)).mono ?_
  rintro e w4 ⟨x, rfl, hx40, c4, g4⟩
  have hb4 := (g4.block b hlt3 (by simp; omega)).trans hb3
  have ho4 := ho3.kept g4 (own_not ho3 (by omega))
  have hlt4 := (Array.getElem?_eq_some_iff.1 hb4).1
  have ho5 := ho4.alloc (ndO x)
  have hb5 := (heap_alloc_old w4 (ndO x) hlt4).trans hb4
  have hx5 := heap_alloc_new w4 (ndO x)
  have c5 := c4.kept ((Below.refl (P + 1) w4).alloc (by omega) (ndO x))
  clear ho3 hb3 c3 c4 g4 hlt3
  rw [ndV]
  go_wp2_with fail
  rw [show (w4.alloc (Obj.cells #[.int .i64 x.k, .int .i64 x.n, .string x.s, .int .i64 x.a, .int .i64 x.b] 28)) = w4.alloc (ndO x) from rfl]
  generalize w4.alloc (ndO x) = w5 at ho5 hb5 hx5 c5 ⊢
  have hbx2 : ∀ j, (Value.slice a2 xs.length q2).ownBlock = some j → j < w4.heap.size := fun j hj => (ho4.lt j hj).2
  generalize w4.heap.size = bx at hx5 hlt4 hbx2 ⊢
  have hltb := (Array.getElem?_eq_some_iff.1 hb5).1
  have hltx := (Array.getElem?_eq_some_iff.1 hx5).1
  clear hb4 ho4
  refine (once_any wA v zs w5 P 5 c5 (by omega)).mono ?_
  rintro e w6 ⟨bb, rfl, c6, g6⟩
  have hb6 := (g6.block b hltb (by simp; omega)).trans hb5
  have hx6 := (g6.block bx hltx (by simp; omega)).trans hx5
  have ho6 := ho5.kept g6 (own_not ho5 (by omega))
  clear hb5 hx5 ho5 c5 g6 hltb hltx
  cases bb with
  | false =>
    have hr6 := (c6.2.1.block w.heap.size (by omega)).trans hr0
    have hq6 := (c6.2.1.block (w.heap.size + 1) (by omega)).trans hq0
    have hB6 := hB0.trans (c6.2.1.mono hB0.size)
    obtain ⟨TA, TB⟩ := two_put x hr6 hq6 ho6 (by omega) (by omega)
    have k0 : w6.cell? ⟨b, 0, none⟩ = some (.slice a2 xs.length q2) := cell_of_row w6 b 0 _ _ _ hb6
    obtain ⟨d0, d1, d2, d3, d4⟩ := nd_cells hx6
    have k1 : w6.cell? ⟨w.heap.size, 0, none⟩ = some (.slice none 0 0) := cell_of_row w6 _ 0 _ _ _ hr6
    have k2 : w6.frozen? ⟨w.heap.size, 0, none⟩ = false := frozen_of_row w6 _ 0 _ _ hr6
    obtain ⟨t0, t1, t2, t3, t4⟩ := nd_cells hq6
    have f0 := nd_free hq6 0
    have f1 := nd_free hq6 1
    have f2 := nd_free hq6 2
    have f3 := nd_free hq6 3
    have f4 := nd_free hq6 4
    have n1 : w.heap.size ≠ b := by omega
    have n2 : w.heap.size ≠ bx := by omega
    have n3 : w.heap.size + 1 ≠ b := by omega
    have n4 : w.heap.size + 1 ≠ bx := by omega
    go_wp2_with fail
    go_region
    all_goals
      go_wp2_with fail
      refine bodyPost_ret (results_row_row rfl _ _ w.heap.size 26 #[.slice a2 xs.length q2] (0, 0) _ rfl (blk_drew TA.1) Try.underlying26 rfl Try.sizeP (w.heap.size + 1) 28 #[.int .i64 x.k, .int .i64 x.n, .string x.s, .int .i64 x.a, .int .i64 x.b] (0, 0) _ rfl (blk_drew TA.2.1) Try.underlying28 rfl Try.sizeN) rfl ⟨_, xs, x, rfl, hxl, HZ.out, hx40, own_mono (own_drew TA.2.2.1) (by omega), ?_⟩
      exact (hB6.trans (TA.2.2.2.mono (Nat.le_refl _))).drew
  | true =>
    obtain ⟨d0, d1, d2, d3, d4⟩ := nd_cells hx6
    go_wp2_with fail
    refine (dspoil_any wA v zs w6 P x c6 hx40).mono ?_
    rintro e w7 ⟨y, rfl, hy40, c7, g7⟩
    have hb7 := (g7.block b (Array.getElem?_eq_some_iff.1 hb6).1 (by simp; omega)).trans hb6
    have hx7 := (g7.block bx (Array.getElem?_eq_some_iff.1 hx6).1 (by simp; omega)).trans hx6
    have ho7 := ho6.kept g7 (own_not ho6 (by omega))
    clear d0 d1 d2 d3 d4 hb6 hx6 ho6 c6 g7
    rw [ndV]
    go_wp2_with (refine wpList_store_nd rfl _ _ rfl bx y rfl rfl x hx7 ?_)
    intro w9 hx9 b9 hs9
    have hb9 : w9.heap[b]? = some (.cells #[.slice a2 xs.length q2] 26 (0, 0)) := (b9.block b (by omega)).trans hb7
    have ho9 : w9.ownsRow (P + 1) 28 5 (.slice a2 xs.length q2) xs.length (ncs xs) := own_upto ho7 b9 hbx2
    have c9 := c7.kept (b9.mono (by omega))
    clear b9 hs9 hx7 hb7 ho7 c7
    have hr6 := (c9.2.1.block w.heap.size (by omega)).trans hr0
    have hq6 := (c9.2.1.block (w.heap.size + 1) (by omega)).trans hq0
    have hB6 := hB0.trans (c9.2.1.mono hB0.size)
    obtain ⟨TA, TB⟩ := two_put y hr6 hq6 ho9 (by omega) (by omega)
    have k0 : w9.cell? ⟨b, 0, none⟩ = some (.slice a2 xs.length q2) := cell_of_row w9 b 0 _ _ _ hb9
    obtain ⟨d0, d1, d2, d3, d4⟩ := nd_cells hx9
    have k1 : w9.cell? ⟨w.heap.size, 0, none⟩ = some (.slice none 0 0) := cell_of_row w9 _ 0 _ _ _ hr6
    have k2 : w9.frozen? ⟨w.heap.size, 0, none⟩ = false := frozen_of_row w9 _ 0 _ _ hr6
    obtain ⟨t0, t1, t2, t3, t4⟩ := nd_cells hq6
    have f0 := nd_free hq6 0
    have f1 := nd_free hq6 1
    have f2 := nd_free hq6 2
    have f3 := nd_free hq6 3
    have f4 := nd_free hq6 4
    have n1 : w.heap.size ≠ b := by omega
    have n2 : w.heap.size ≠ bx := by omega
    have n3 : w.heap.size + 1 ≠ b := by omega
    have n4 : w.heap.size + 1 ≠ bx := by omega
    go_wp2_with fail
    go_region
    all_goals
      go_wp2_with fail
      refine bodyPost_ret (results_row_row rfl _ _ w.heap.size 26 #[.slice a2 xs.length q2] (0, 0) _ rfl (blk_drew TA.1) Try.underlying26 rfl Try.sizeP (w.heap.size + 1) 28 #[.int .i64 y.k, .int .i64 y.n, .string y.s, .int .i64 y.a, .int .i64 y.b] (0, 0) _ rfl (blk_drew TA.2.1) Try.underlying28 rfl Try.sizeN) rfl ⟨_, xs, y, rfl, hxl, HZ.out, hy40, own_mono (own_drew TA.2.2.1) (by omega), ?_⟩
      exact (hB6.trans (TA.2.2.2.mono (Nat.le_refl _))).drew
end Go.Proofs.Ytlnfhcfdcocepaa
