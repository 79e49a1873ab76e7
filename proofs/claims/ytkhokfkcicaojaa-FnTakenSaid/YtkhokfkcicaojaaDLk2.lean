/-
  Contract of the draws' l10Draw: a link. No condition.
-/
import Derived.Test.YtkhokfkcicaojaaDLk1
import Derived.Test.YtkhokfkcicaojaaStepApp
import Derived.Test.YtkhokfkcicaojaaLkShowM
import Derived.Deep.RegionLawGrows
namespace Go.Proofs.Ytkhokfkcicaojaa
open Go.RowKit

/-- The memory of l10Draw: its result's box, its link's box, and the link's rows. -/
structure DL (w0 : World) (v : Value) (zs : List Int) (P : Nat) (w wr : World) (l : Lk) (v1 v2 : Value) : Prop where
  res : wr.heap[w.heap.size]? = some (.cells #[.int .i64 0, .int .i64 0, .slice none 0 0, .int .i64 0, .slice none 0 0] 27 (0, 0))
  q : SOwn wr (w.heap.size + 1) v1 l.q
  h : wr.ownsRow (w.heap.size + 1) 29 2 v2 l.h.length (pccs l.h)
  nq : l.q.length ≤ 1000
  nh : l.h.length ≤ 1000
  zq : ∀ x ∈ l.q, x.size ≤ maxLen
  zh : ∀ x ∈ l.h, x.s.size ≤ maxLen
  cur : Cur w0 v zs wr P
  gr : w.grownBy wr (some P)
variable {w0 : World} {v : Value} {zs : List Int} {P : Nat} {w wr : World} {l : Lk} {v1 v2 : Value}
theorem DL.turn (D : DL w0 v zs P w wr l v1 v2) {w' : World} (c : Cur w0 v zs w' P) (g : wr.grownBy w' (some P)) (hP : P < w.heap.size) : DL w0 v zs P w w' l v1 v2 :=
  ⟨(g.block _ (Array.getElem?_eq_some_iff.1 D.res).1 (by simp; omega)).trans D.res, D.q.grow g (by omega), D.h.kept g (own_nt D.h (by omega)), D.nq, D.nh, D.zq, D.zh, c, grown_trans D.gr g⟩
theorem DL.below (D : DL w0 v zs P w wr l v1 v2) {w' : World} (hb : Below wr.heap.size wr w') (hP : P < w.heap.size) : DL w0 v zs P w w' l v1 v2 :=
  ⟨(hb.block _ (Array.getElem?_eq_some_iff.1 D.res).1).trans D.res, D.q.below hb, own_below D.h hb, D.nq, D.nh, D.zq, D.zh, D.cur.kept (hb.mono (by have := (Array.getElem?_eq_some_iff.1 D.res).1; omega)), grown_mr D.gr (grown_below hb none) (fun k hk => by cases hk)⟩
/-- A cell of a box of links turned. -/
theorem DL.set (D : DL w0 v zs P w wr l v1 v2) {m : Lk} {b i : Nat} {cs : Array Value} (hb : wr.heap[b]? = some (.cells cs 27 (0, 0))) (u : Value) (hP : P < w.heap.size) (hw : w.heap.size < b) (hq : m.q = l.q) (hh : m.h = l.h) : DL w0 v zs P w (wr.setCell ⟨b, i, none⟩ u) m v1 v2 := by
  have g : wr.grownBy (wr.setCell ⟨b, i, none⟩ u) (some b) := grown_set wr b i u
  refine ⟨(g.block _ (Array.getElem?_eq_some_iff.1 D.res).1 (by simp; omega)).trans D.res, ?_, ?_, by rw [hq]; exact D.nq, by rw [hh]; exact D.nh, by rw [hq]; exact D.zq, by rw [hh]; exact D.zh, D.cur.kept ((Below.refl _ _).setCell (p := ⟨b, i, none⟩) (by simp; omega) _), grown_mr D.gr g (fun k hk => by cases hk; omega)⟩
  · rw [hq]
    refine D.q.kept g ?_
    by_cases hx : l.q = []
    · exact Or.inl hx
    · refine Or.inr fun g' e eo => ?_
      obtain ⟨g2, cs2, e2, _, h2⟩ := D.q.blk hx
      rw [e] at e2
      cases e2
      cases eo
      rw [hb] at h2
      cases h2
  · rw [hh]
    exact ownsRow_setCell_other D.h (a := ⟨b, i, none⟩) (own_ne D.h hb (by decide)) u
/-- What is answered of a link's box. -/
theorem DL.done (D : DL w0 v zs P w wr l v1 v2) {w' : World} (hoth : ∀ k, k ≠ w.heap.size → w'.heap[k]? = wr.heap[k]?) (hb : Below w.heap.size wr w') (hsz : w'.heap.size = wr.heap.size) (hP : P < w.heap.size) : SOwn w' w.heap.size v1 l.q ∧ w'.ownsRow w.heap.size 29 2 v2 l.h.length (pccs l.h) ∧ Cur w0 v zs w' P ∧ w.grownBy w' (some P) :=
  ⟨D.q.box D.res (by decide) hoth (by omega), own_mono (own_box D.h D.res (by decide) hoth) (by omega), D.cur.kept (hb.mono (by omega)), grown_mr D.gr ⟨hb.os, hb.tape, hb.output, by omega, fun i hi hne => hoth i (fun e => hne (by rw [e]))⟩ (fun k hk => by cases hk; omega)⟩

set_option maxRecDepth 100000 in
set_option maxHeartbeats 12800000 in
theorem d10draw_any (w0 : World) (v : Value) (zs : List Int) (w : World) (P : Nat) (c : Cur w0 v zs w P) :
    Calls Try.prog 18 #[.pointer (some ⟨P, 0, none⟩)] w fun e w' => ∃ (l : Lk) (v1 v2 : Value), e = .returned (.agg #[.int .i64 l.sent, .int .i64 l.acked, v1, .int .i64 l.got, v2]) ∧ SOwn w' w.heap.size v1 l.q ∧ w'.ownsRow w.heap.size 29 2 v2 l.h.length (pccs l.h) ∧ l.q.length ≤ 1000 ∧ l.h.length ≤ 1000 ∧ (∀ x ∈ l.q, x.size ≤ maxLen) ∧ (∀ x ∈ l.h, x.s.size ≤ maxLen) ∧ Cur w0 v zs w' P ∧ w.grownBy w' (some P) := by
  have hP := c.lt
  obtain ⟨i0, hi, hz0, hz1, hz2⟩ := info_parts Try.infoStr
  obtain ⟨j0, hj0, jz0, jz1, jz2⟩ := info_parts Try.infoPc
  have hBz : Below w.heap.size w (w.alloc (.cells #[.int .i64 0, .int .i64 0, .slice none 0 0, .int .i64 0, .slice none 0 0] 27)) := (Below.refl _ _).alloc (Nat.le_refl _) _
  have c0 : Cur w0 v zs (w.alloc (.cells #[.int .i64 0, .int .i64 0, .slice none 0 0, .int .i64 0, .slice none 0 0] 27)) P := c.kept (hBz.mono hP)
  go_enter Try.func18, Try.ntmps18
  go_wp2_with fail
  refine (d10right_any w0 v zs _ P c0).mono ?_
  rintro e w1 ⟨l, v1, v2, rfl, q1, h1, lb, zq, zh, c1', g1'⟩
  obtain ⟨a1, c1, rfl⟩ := q1.form
  obtain ⟨a2, c2, rfl⟩ := own_form h1
  obtain ⟨n1, n2, n3, n4, _, n6⟩ := linkB_nums lb
  have hhl := linkB_heldlen lb
  have hr1 : w1.heap[w.heap.size]? = some (.cells #[.int .i64 0, .int .i64 0, .slice none 0 0, .int .i64 0, .slice none 0 0] 27 (0, 0)) := (g1'.block _ (by simp) (by simp; omega)).trans (heap_alloc_new _ _)
  have D1 : DL w0 v zs P w w1 l (.slice a1 l.q.length c1) (.slice a2 l.h.length c2) := ⟨hr1, q1.mono (by simp), own_mono h1 (by simp), by omega, by omega, zq, zh, c1', grown_trans (grown_below hBz (some P)) g1'⟩
  clear hr1 q1 h1 zq zh c1' g1' c0 hBz lb
  go_wp2_with (refine wpList_store_own2 rfl 27 _ _ rfl w1.heap.size #[.int .i64 l.sent, .int .i64 l.acked, .slice a1 l.q.length c1, .int .i64 l.got, .slice a2 l.h.length c2] rfl rfl 27 _ (heap_alloc_new _ _) Try.sizeLk rfl (by simp [Value.oneCell']) ?_)
  intro w2 hn2 hbg2 hs2 ho2
  clear hs2 ho2
  have D2 := D1.below (((Below.refl _ _).alloc (Nat.le_refl _) _).trans hbg2) hP
  have hlb : w.heap.size < w1.heap.size := (Array.getElem?_eq_some_iff.1 D1.res).1
  clear D1 hbg2
  generalize w1.heap.size = b at *
  go_wp2_with fail
  refine (below_any w0 v zs _ P 20 D2.cur (by omega)).mono ?_
  rintro e w3 ⟨m, rfl, hm0, hm1, c3, g3⟩
  have hn3 := (g3.block b (Array.getElem?_eq_some_iff.1 hn2).1 (by simp; omega)).trans hn2
  have D3 := D2.turn c3 g3 hP
  clear D2 hn2 c3 g3
  have hb3 : b < w3.heap.size := (Array.getElem?_eq_some_iff.1 hn3).1
  have FIN : ∀ (L : Lk) (u1 u2 : Value) (W W9 : World), DL w0 v zs P w W L u1 u2 → W9.heap[w.heap.size]? = some (.cells #[.int .i64 L.sent, .int .i64 L.acked, u1, .int .i64 L.got, u2] 27 (0, 0)) → (∀ k, k ≠ w.heap.size → W9.heap[k]? = W.heap[k]?) → Below w.heap.size W W9 → W9.heap.size = W.heap.size → SOwn W9 w.heap.size u1 L.q ∧ W9.ownsRow w.heap.size 29 2 u2 L.h.length (pccs L.h) ∧ L.q.length ≤ 1000 ∧ L.h.length ≤ 1000 ∧ (∀ x ∈ L.q, x.size ≤ maxLen) ∧ (∀ x ∈ L.h, x.s.size ≤ maxLen) ∧ Cur w0 v zs W9 P ∧ w.grownBy W9 (some P) := fun L u1 u2 W W9 D _ ho hb hs => by
    obtain ⟨x1, x2, x3, x4⟩ := D.done ho hb hs hP
    exact ⟨x1, x2, D.nq, D.nh, D.zq, D.zh, x3, x4⟩
  by_cases m0 : m = 0
  · subst m0
    have k0 : w3.cell? ⟨b, 0, none⟩ = some (.int .i64 l.sent) := cell_of_row w3 _ 0 _ _ _ hn3
    have W1 : IntKind.i64.wrap (l.sent + 1) = l.sent + 1 := by rw [IntKind.wrap_i64]; omega
    have DA := D3.below ((Below.refl _ w3).alloc (Nat.le_refl _) (.cells (([-1, l.sent + 1, 100001] : List Int).map (Value.int .i64)).toArray 3)) hP
    go_wp2_with fail
    refine (pick_any w0 v zs _ P w3.heap.size 3 [-1, l.sent + 1, 100001] DA.cur (by omega) (by simp) (by simp) (fun x hx => by simp only [List.mem_cons, List.not_mem_nil, or_false] at hx; rcases hx with rfl | rfl | rfl <;> omega) (fun i hi => ints_new w3 [-1, l.sent + 1, 100001] 3 i hi)).mono ?_
    rintro e w4 ⟨x, rfl, hx0, hx1, c4, g4⟩
    have D4 := DA.turn c4 g4 hP
    have hn4 := (g4.block b (by simp; omega) (by simp; omega)).trans ((heap_alloc_old _ _ hb3).trans hn3)
    have r0 : w4.cell? ⟨b, 0, none⟩ = some (.int .i64 l.sent) := cell_of_row w4 _ 0 _ _ _ hn4
    have t0 : w4.frozen? ⟨b, 0, none⟩ = false := frozen_of_row w4 _ 0 _ _ hn4
    have D5 := D4.set (m := ⟨x, l.acked, l.q, l.got, l.h⟩) (i := 0) hn4 (.int .i64 x) hP hlb rfl rfl
    have hn5 : (w4.setCell ⟨b, 0, none⟩ (.int .i64 x)).heap[b]? = some (.cells #[.int .i64 x, .int .i64 l.acked, .slice a1 l.q.length c1, .int .i64 l.got, .slice a2 l.h.length c2] 27 (0, 0)) := heap_setCell_same w4 b 0 _ _ (.int .i64 x) hn4
    clear D3 DA D4 c4 g4 hn3 hn4
    go_wp2_with (first
      | refine wpList_load_row rfl 27 _ rfl b rfl 27 #[.int .i64 x, .int .i64 l.acked, .slice a1 l.q.length c1, .int .i64 l.got, .slice a2 l.h.length c2] (0, 0) _ hn5 Try.underlying27 rfl Try.sizeLk ?_
      | refine wpList_store_own2 rfl 27 _ _ rfl w.heap.size #[.int .i64 x, .int .i64 l.acked, .slice a1 l.q.length c1, .int .i64 l.got, .slice a2 l.h.length c2] rfl rfl 27 _ D5.res Try.sizeLk rfl (by simp [Value.oneCell']) ?_)
    intro w9 hv9 hbg9 hsz9 hoth9
    have F := FIN _ _ _ _ _ D5 hv9 hoth9 hbg9 (by simpa using hsz9)
    clear D5 hsz9 hoth9 FIN
    go_wp2
    exact bodyPost_ret (results_cell_row rfl _ _ w.heap.size 27 _ (0, 0) _ rfl hv9 Try.underlying27 rfl Try.sizeLk) rfl ⟨⟨x, l.acked, l.q, l.got, l.h⟩, _, _, rfl, F⟩
  have m0' : (m == 0) = false := by simpa using m0
  by_cases m1 : m = 1
  · subst m1
    go_wp2_with fail
    refine (below_any w0 v zs _ P 9 D3.cur (by omega)).mono ?_
    rintro e w4 ⟨x, rfl, hx0, hx1, c4, g4⟩
    have hx1 := hx1 (by omega)
    have D4 := D3.turn c4 g4 hP
    have hn4 := (g4.block b hb3 (by simp; omega)).trans hn3
    have W1 : IntKind.i64.wrap (x - 1) = x - 1 := by rw [IntKind.wrap_i64]; omega
    have r0 : w4.cell? ⟨b, 3, none⟩ = some (.int .i64 l.got) := cell_of_row w4 _ 3 _ _ _ hn4
    have t0 : w4.frozen? ⟨b, 3, none⟩ = false := frozen_of_row w4 _ 3 _ _ hn4
    have D5 := D4.set (m := ⟨l.sent, l.acked, l.q, x - 1, l.h⟩) (i := 3) hn4 (.int .i64 (x - 1)) hP hlb rfl rfl
    have hn5 : (w4.setCell ⟨b, 3, none⟩ (.int .i64 (x - 1))).heap[b]? = some (.cells #[.int .i64 l.sent, .int .i64 l.acked, .slice a1 l.q.length c1, .int .i64 (x - 1), .slice a2 l.h.length c2] 27 (0, 0)) := heap_setCell_same w4 b 3 _ _ (.int .i64 (x - 1)) hn4
    clear D3 D4 c4 g4 hn3 hn4
    go_wp2_with (first
      | refine wpList_load_row rfl 27 _ rfl b rfl 27 #[.int .i64 l.sent, .int .i64 l.acked, .slice a1 l.q.length c1, .int .i64 (x - 1), .slice a2 l.h.length c2] (0, 0) _ hn5 Try.underlying27 rfl Try.sizeLk ?_
      | refine wpList_store_own2 rfl 27 _ _ rfl w.heap.size #[.int .i64 l.sent, .int .i64 l.acked, .slice a1 l.q.length c1, .int .i64 (x - 1), .slice a2 l.h.length c2] rfl rfl 27 _ D5.res Try.sizeLk rfl (by simp [Value.oneCell']) ?_)
    intro w9 hv9 hbg9 hsz9 hoth9
    have F := FIN _ _ _ _ _ D5 hv9 hoth9 hbg9 (by simpa using hsz9)
    clear D5 hsz9 hoth9 FIN
    go_wp2
    exact bodyPost_ret (results_cell_row rfl _ _ w.heap.size 27 _ (0, 0) _ rfl hv9 Try.underlying27 rfl Try.sizeLk) rfl ⟨⟨l.sent, l.acked, l.q, x - 1, l.h⟩, _, _, rfl, F⟩
  have m1' : (m == 1) = false := by simpa using m1
  by_cases m2 : m = 2
  · subst m2
    go_wp2_with fail
    refine (below_any w0 v zs _ P 9 D3.cur (by omega)).mono ?_
    rintro e w4 ⟨x, rfl, hx0, hx1, c4, g4⟩
    have hx1 := hx1 (by omega)
    have D4 := D3.turn c4 g4 hP
    have hn4 := (g4.block b hb3 (by simp; omega)).trans hn3
    have W1 : IntKind.i64.wrap (x - 1) = x - 1 := by rw [IntKind.wrap_i64]; omega
    have r0 : w4.cell? ⟨b, 1, none⟩ = some (.int .i64 l.acked) := cell_of_row w4 _ 1 _ _ _ hn4
    have t0 : w4.frozen? ⟨b, 1, none⟩ = false := frozen_of_row w4 _ 1 _ _ hn4
    have D5 := D4.set (m := ⟨l.sent, x - 1, l.q, l.got, l.h⟩) (i := 1) hn4 (.int .i64 (x - 1)) hP hlb rfl rfl
    have hn5 : (w4.setCell ⟨b, 1, none⟩ (.int .i64 (x - 1))).heap[b]? = some (.cells #[.int .i64 l.sent, .int .i64 (x - 1), .slice a1 l.q.length c1, .int .i64 l.got, .slice a2 l.h.length c2] 27 (0, 0)) := heap_setCell_same w4 b 1 _ _ (.int .i64 (x - 1)) hn4
    clear D3 D4 c4 g4 hn3 hn4
    go_wp2_with (first
      | refine wpList_load_row rfl 27 _ rfl b rfl 27 #[.int .i64 l.sent, .int .i64 (x - 1), .slice a1 l.q.length c1, .int .i64 l.got, .slice a2 l.h.length c2] (0, 0) _ hn5 Try.underlying27 rfl Try.sizeLk ?_
      | refine wpList_store_own2 rfl 27 _ _ rfl w.heap.size #[.int .i64 l.sent, .int .i64 (x - 1), .slice a1 l.q.length c1, .int .i64 l.got, .slice a2 l.h.length c2] rfl rfl 27 _ D5.res Try.sizeLk rfl (by simp [Value.oneCell']) ?_)
    intro w9 hv9 hbg9 hsz9 hoth9
    have F := FIN _ _ _ _ _ D5 hv9 hoth9 hbg9 (by simpa using hsz9)
    clear D5 hsz9 hoth9 FIN
    go_wp2
    exact bodyPost_ret (results_cell_row rfl _ _ w.heap.size 27 _ (0, 0) _ rfl hv9 Try.underlying27 rfl Try.sizeLk) rfl ⟨⟨l.sent, x - 1, l.q, l.got, l.h⟩, _, _, rfl, F⟩
  have m2' : (m == 2) = false := by simpa using m2
  by_cases m3 : m = 3
  · subst m3
    have Dd := D3.below ((Below.refl w3.heap.size w3).drew) hP
    have k4 : w3.cell? ⟨b, 4, none⟩ = some (.slice a2 l.h.length c2) := cell_of_row w3 _ 4 _ _ _ hn3
    go_wp2_with fail
    go_region_law (first
      | (go_simp; go_at_call 19; refine (below_any w0 v zs _ P 12 ?_ ?_).mono ?_; exact Dd.cur; omega; rintro e w4 ⟨x, rfl, hx0, hx1, c4, g4⟩; have D4 := Dd.turn c4 g4 hP; have hn4 : w4.heap[b]? = some (.cells #[.int .i64 l.sent, .int .i64 l.acked, .slice a1 l.q.length c1, .int .i64 l.got, .slice a2 l.h.length c2] 27 (0, 0)) := (g4.block b hb3 (by simp; omega)).trans hn3; have q4 : w4.cell? ⟨b, 4, none⟩ = some (.slice a2 l.h.length c2) := cell_of_row w4 _ 4 _ _ _ hn4; have q4' : (w4.alloc (.cells #[.int .i64 x, .string (⟨#[]⟩ : ByteArray)] 29)).cell? ⟨b, 4, none⟩ = some (.slice a2 l.h.length c2) := cell_of_row _ _ 4 _ _ _ ((heap_alloc_old _ _ (Array.getElem?_eq_some_iff.1 hn4).1).trans hn4); have lit := PcRow.lit1 w4 ⟨x, (⟨#[]⟩ : ByteArray)⟩ (show (⟨#[]⟩ : ByteArray).size ≤ maxLen by unfold maxLen; decide); have hlw := (Array.getElem?_eq_some_iff.1 D4.res).1)
      | (refine step_append_own_any _ rfl _ _ 25 rfl (w.heap.size + 1) 29 j0 _ 2 24 Try.underlying25 hj0 jz0 jz1 jz2 rfl (by decide) _ _ _ rfl (D4.h.alloc _) (some ⟨w4.heap.size, 0, none⟩) 1 1 (pccs ([⟨x, ⟨#[]⟩⟩] : List Pc)) rfl rfl lit.nilcap lit.cells (pccs_one _) (by unfold maxLen; omega) (by omega) (by simp; omega) ?_; intro u5 w5 o5 hg5; obtain ⟨b5, d5, rfl⟩ := own_form o5; have hn5 : w5.heap[b]? = some (.cells #[.int .i64 l.sent, .int .i64 l.acked, .slice a1 l.q.length c1, .int .i64 l.got, .slice a2 l.h.length c2] 27 (0, 0)) := (hg5.block b (by simp; have := (Array.getElem?_eq_some_iff.1 hn4).1; omega) (fun e => own_ne D4.h hn4 (by decide) e.symm)).trans ((heap_alloc_old _ _ (Array.getElem?_eq_some_iff.1 hn4).1).trans hn4); have r4 : w5.cell? ⟨b, 4, none⟩ = some (.slice a2 l.h.length c2) := cell_of_row w5 _ 4 _ _ _ hn5; have t4 : w5.frozen? ⟨b, 4, none⟩ = false := frozen_of_row w5 _ 4 _ _ hn5))
    all_goals
      have hx1 := hx1 (by omega)
      have hw5 : Below w.heap.size w w ∨ True := Or.inr trivial
      have o5' : w5.ownsRow (w.heap.size + 1) 29 2 (.slice b5 (l.h.length + 1) d5) (l.h ++ ([⟨x, ⟨#[]⟩⟩] : List Pc)).length (pccs (l.h ++ ([⟨x, ⟨#[]⟩⟩] : List Pc))) := by rw [pccs_append, List.length_append]; exact o5
      have D5 : DL w0 v zs P w w5 ⟨l.sent, l.acked, l.q, l.got, l.h ++ ([⟨x, ⟨#[]⟩⟩] : List Pc)⟩ (.slice a1 l.q.length c1) (.slice b5 (l.h.length + 1) d5) := by
        refine ⟨(hg5.block _ (by simp; omega) (fun e => own_ne D4.h D4.res (by decide) e.symm)).trans ((heap_alloc_old _ _ hlw).trans D4.res), ?_, o5', D4.nq, by simp; omega, D4.zq, fun y hy => ?_, ?_, ?_⟩
        · refine (D4.q.alloc _).kept hg5 ?_
          by_cases hx : l.q = []
          · exact Or.inl hx
          · refine Or.inr fun g' e eo => ?_
            obtain ⟨g2, cs2, e2, _, h2⟩ := D4.q.blk hx
            rw [e] at e2
            cases e2
            exact own_ne D4.h h2 (by decide) eo
        · simp only [List.mem_append, List.mem_singleton] at hy
          rcases hy with hy | rfl
          · exact D4.zh y hy
          · show (⟨#[]⟩ : ByteArray).size ≤ maxLen
            unfold maxLen; decide
        · exact D4.cur.kept (((Below.refl _ _).alloc (by omega) _).grown hg5 (by simp; omega) (fun k hk => by have := (D4.h.lt k hk).1; omega))
        · exact grown_mr (grown_mr D4.gr (World.grownBy_alloc w4 _ none) (fun k hk => by cases hk)) hg5 (fun k hk => by have := (D4.h.lt k hk).1; omega)
      have D6 := D5.set (m := ⟨l.sent, l.acked, l.q, l.got, l.h ++ ([⟨x, ⟨#[]⟩⟩] : List Pc)⟩) (i := 4) hn5 (.slice b5 (l.h.length + 1) d5) hP hlb rfl rfl
      have hn6 : (w5.setCell ⟨b, 4, none⟩ (.slice b5 (l.h.length + 1) d5)).heap[b]? = some (.cells #[.int .i64 l.sent, .int .i64 l.acked, .slice a1 l.q.length c1, .int .i64 l.got, .slice b5 (l.h.length + 1) d5] 27 (0, 0)) := heap_setCell_same w5 b 4 _ _ (.slice b5 (l.h.length + 1) d5) hn5
      clear D3 Dd D4 D5 c4 g4 hn3 hn4 k4 q4 q4' lit o5 o5' hg5 r4 t4 hw5
      go_wp2_with (first
        | refine wpList_load_row rfl 27 _ rfl b rfl 27 #[.int .i64 l.sent, .int .i64 l.acked, .slice a1 l.q.length c1, .int .i64 l.got, .slice b5 (l.h.length + 1) d5] (0, 0) _ hn6 Try.underlying27 rfl Try.sizeLk ?_
        | refine wpList_store_own2 rfl 27 _ _ rfl w.heap.size #[.int .i64 l.sent, .int .i64 l.acked, .slice a1 l.q.length c1, .int .i64 l.got, .slice b5 (l.h.length + 1) d5] rfl rfl 27 _ D6.res Try.sizeLk rfl (by simp [Value.oneCell']) ?_)
      intro w9 hv9 hbg9 hsz9 hoth9
      have F := FIN ⟨l.sent, l.acked, l.q, l.got, l.h ++ ([⟨x, ⟨#[]⟩⟩] : List Pc)⟩ _ _ _ _ D6 hv9 hoth9 hbg9 (by simpa using hsz9)
      clear D6 hsz9 hoth9 FIN
      go_wp2
      exact bodyPost_ret (results_cell_row rfl _ _ w.heap.size 27 _ (0, 0) _ rfl hv9 Try.underlying27 rfl Try.sizeLk) rfl ⟨⟨l.sent, l.acked, l.q, l.got, l.h ++ ([⟨x, ⟨#[]⟩⟩] : List Pc)⟩, _, _, rfl, F⟩
  have m3' : (m == 3) = false := by simpa using m3
  by_cases m4 : m = 4
  · subst m4
    go_wp2_with fail
    refine (below_any w0 v zs _ P 2 D3.cur (by omega)).mono ?_
    rintro e w4 ⟨x, rfl, hx0, hx1, c4, g4⟩
    have hx1 := hx1 (by omega)
    have D4 := D3.turn c4 g4 hP
    have hn4 := (g4.block b hb3 (by simp; omega)).trans hn3
    have hb4 : b < w4.heap.size := (Array.getElem?_eq_some_iff.1 hn4).1
    clear D3 hn3 c4 g4
    have hxx : x = 0 ∨ x = 1 := by omega
    clear hx0 hx1
    rcases hxx with rfl | rfl
    · go_wp2_with (at_make; refine wpList_make_full _ rfl _ _ 24 rfl (w.heap.size + 1) 9 i0 _ 1 Try.underlying24 hi hz0 hz1 _ _ _ _ 30 rfl rfl rfl rfl (by rw [hz2]; omega) (by unfold maxLen; omega) (by omega) ?_)
      intro w5 o5 hg5
      have hb5 : Below w4.heap.size w4 w5 := (Below.refl _ _).grown hg5 (Nat.le_refl _) (by intro k hk; cases hk)
      have D5 := D4.below hb5 hP
      have hn5 := (hb5.block b hb4).trans hn4
      have o5' : w5.ownsRow (w.heap.size + 1) 9 1 (.slice (some ⟨w4.heap.size, 0, none⟩) 30 30) (List.replicate 30 ByteArray.empty).length (stv (List.replicate 30 ByteArray.empty)) := by
        have e := stcopied_zero (List.replicate 30 ByteArray.empty)
        simp only [stcopied, List.take_zero, List.nil_append, List.length_replicate, Nat.sub_zero] at e
        rw [List.length_replicate, e]
        exact o5
      clear hg5 D4 hn4 o5
      go_wp2_with (refine wpList_store_own2 rfl 27 _ _ rfl b #[.int .i64 30, .int .i64 0, .slice (some ⟨w4.heap.size, 0, none⟩) 30 30, .int .i64 0, .slice none 0 0] rfl rfl 27 _ hn5 Try.sizeLk rfl (by simp [Value.oneCell']) ?_)
      intro w6 hn6 hbg6 hs6 ho6
      have D6 : DL w0 v zs P w w6 ⟨30, 0, List.replicate 30 ByteArray.empty, 0, []⟩ (.slice (some ⟨w4.heap.size, 0, none⟩) 30 30) (.slice none 0 0) :=
        ⟨(ho6 _ (by omega)).trans D5.res, SOwn.of_own (own_box o5' hn5 (by decide) ho6), ⟨rfl, Or.inl ⟨rfl, rfl⟩⟩, by simp, by simp, fun y hy => by simp only [List.mem_replicate] at hy; rw [hy.2]; unfold maxLen; decide, fun y hy => by simp at hy, D5.cur.kept (hbg6.mono (by omega)), grown_mr D5.gr ⟨hbg6.os, hbg6.tape, hbg6.output, by omega, fun i hi hne => ho6 i (fun e => hne (by rw [e]))⟩ (fun k hk => by cases hk; omega)⟩
      clear D5 hn5 o5' hbg6 hs6 ho6
      go_wp2_with (first
        | refine wpList_load_row rfl 27 _ rfl b rfl 27 #[.int .i64 30, .int .i64 0, .slice (some ⟨w4.heap.size, 0, none⟩) 30 30, .int .i64 0, .slice none 0 0] (0, 0) _ hn6 Try.underlying27 rfl Try.sizeLk ?_
        | refine wpList_store_own2 rfl 27 _ _ rfl w.heap.size #[.int .i64 30, .int .i64 0, .slice (some ⟨w4.heap.size, 0, none⟩) 30 30, .int .i64 0, .slice none 0 0] rfl rfl 27 _ D6.res Try.sizeLk rfl (by simp [Value.oneCell']) ?_)
      intro w9 hv9 hbg9 hsz9 hoth9
      have F := FIN ⟨30, 0, List.replicate 30 ByteArray.empty, 0, []⟩ _ _ _ _ D6 hv9 hoth9 hbg9 (by simpa using hsz9)
      clear D6 hsz9 hoth9 FIN
      go_wp2
      exact bodyPost_ret (results_cell_row rfl _ _ w.heap.size 27 _ (0, 0) _ rfl hv9 Try.underlying27 rfl Try.sizeLk) rfl ⟨⟨30, 0, List.replicate 30 ByteArray.empty, 0, []⟩, _, _, rfl, F⟩
    · go_wp2_with (at_make; refine wpList_make_full _ rfl _ _ 24 rfl (w.heap.size + 1) 9 i0 _ 1 Try.underlying24 hi hz0 hz1 _ _ _ _ 31 rfl rfl rfl rfl (by rw [hz2]; omega) (by unfold maxLen; omega) (by omega) ?_)
      intro w5 o5 hg5
      have hb5 : Below w4.heap.size w4 w5 := (Below.refl _ _).grown hg5 (Nat.le_refl _) (by intro k hk; cases hk)
      have D5 := D4.below hb5 hP
      have hn5 := (hb5.block b hb4).trans hn4
      have o5' : w5.ownsRow (w.heap.size + 1) 9 1 (.slice (some ⟨w4.heap.size, 0, none⟩) 31 31) (List.replicate 31 ByteArray.empty).length (stv (List.replicate 31 ByteArray.empty)) := by
        have e := stcopied_zero (List.replicate 31 ByteArray.empty)
        simp only [stcopied, List.take_zero, List.nil_append, List.length_replicate, Nat.sub_zero] at e
        rw [List.length_replicate, e]
        exact o5
      clear hg5 D4 hn4 o5
      go_wp2_with (refine wpList_store_own2 rfl 27 _ _ rfl b #[.int .i64 31, .int .i64 0, .slice (some ⟨w4.heap.size, 0, none⟩) 31 31, .int .i64 0, .slice none 0 0] rfl rfl 27 _ hn5 Try.sizeLk rfl (by simp [Value.oneCell']) ?_)
      intro w6 hn6 hbg6 hs6 ho6
      have D6 : DL w0 v zs P w w6 ⟨31, 0, List.replicate 31 ByteArray.empty, 0, []⟩ (.slice (some ⟨w4.heap.size, 0, none⟩) 31 31) (.slice none 0 0) :=
        ⟨(ho6 _ (by omega)).trans D5.res, SOwn.of_own (own_box o5' hn5 (by decide) ho6), ⟨rfl, Or.inl ⟨rfl, rfl⟩⟩, by simp, by simp, fun y hy => by simp only [List.mem_replicate] at hy; rw [hy.2]; unfold maxLen; decide, fun y hy => by simp at hy, D5.cur.kept (hbg6.mono (by omega)), grown_mr D5.gr ⟨hbg6.os, hbg6.tape, hbg6.output, by omega, fun i hi hne => ho6 i (fun e => hne (by rw [e]))⟩ (fun k hk => by cases hk; omega)⟩
      clear D5 hn5 o5' hbg6 hs6 ho6
      go_wp2_with (first
        | refine wpList_load_row rfl 27 _ rfl b rfl 27 #[.int .i64 31, .int .i64 0, .slice (some ⟨w4.heap.size, 0, none⟩) 31 31, .int .i64 0, .slice none 0 0] (0, 0) _ hn6 Try.underlying27 rfl Try.sizeLk ?_
        | refine wpList_store_own2 rfl 27 _ _ rfl w.heap.size #[.int .i64 31, .int .i64 0, .slice (some ⟨w4.heap.size, 0, none⟩) 31 31, .int .i64 0, .slice none 0 0] rfl rfl 27 _ D6.res Try.sizeLk rfl (by simp [Value.oneCell']) ?_)
      intro w9 hv9 hbg9 hsz9 hoth9
      have F := FIN ⟨31, 0, List.replicate 31 ByteArray.empty, 0, []⟩ _ _ _ _ D6 hv9 hoth9 hbg9 (by simpa using hsz9)
      clear D6 hsz9 hoth9 FIN
      go_wp2
      exact bodyPost_ret (results_cell_row rfl _ _ w.heap.size 27 _ (0, 0) _ rfl hv9 Try.underlying27 rfl Try.sizeLk) rfl ⟨⟨31, 0, List.replicate 31 ByteArray.empty, 0, []⟩, _, _, rfl, F⟩
  have m4' : (m == 4) = false := by simpa using m4
  go_wp2_with (first
    | refine wpList_load_row rfl 27 _ rfl b rfl 27 #[.int .i64 l.sent, .int .i64 l.acked, .slice a1 l.q.length c1, .int .i64 l.got, .slice a2 l.h.length c2] (0, 0) _ hn3 Try.underlying27 rfl Try.sizeLk ?_
    | refine wpList_store_own2 rfl 27 _ _ rfl w.heap.size #[.int .i64 l.sent, .int .i64 l.acked, .slice a1 l.q.length c1, .int .i64 l.got, .slice a2 l.h.length c2] rfl rfl 27 _ D3.res Try.sizeLk rfl (by simp [Value.oneCell']) ?_)
  intro w9 hv9 hbg9 hsz9 hoth9
  have F := FIN _ _ _ _ _ D3 hv9 hoth9 hbg9 hsz9
  clear D3 hsz9 hoth9 FIN
  go_wp2
  exact bodyPost_ret (results_cell_row rfl _ _ w.heap.size 27 _ (0, 0) _ rfl hv9 Try.underlying27 rfl Try.sizeLk) rfl ⟨l, _, _, rfl, F⟩
end Go.Proofs.Ytkhokfkcicaojaa
