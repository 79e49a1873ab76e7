/-
  Contracts of the draws DrawLinkShow, DrawLinkSend, DrawLinkAck. No condition.
-/
import Derived.Test.YtahdinippghlaabDLk2
import Derived.Test.YtahdinippghlaabLkAckM
namespace Go.Proofs.Ytahdinippghlaab
open Go.RowKit

/-- A link that is drawn: it reads as l. -/
def Lkd (w w' : World) (l : Lk) (v1 v2 : Value) : Prop := StRow w' v1 l.q ∧ PcRow w' v2 l.h ∧ l.q.length ≤ 1000 ∧ l.h.length ≤ 1000 ∧ (∀ x ∈ l.q, x.size ≤ maxLen) ∧ (∀ x ∈ l.h, x.s.size ≤ maxLen) ∧ Below w.heap.size w w'

set_option maxRecDepth 100000 in
set_option maxHeartbeats 3200000 in
theorem dlinkshow_any (v : Value) (zs : List Int) (w : World) (R : Row w v zs) (hl : zs.length ≤ 1048576) :
    Calls Try.prog 8 #[v] w fun e w' => ∃ (l : Lk) (v1 v2 : Value), e = .returned (.agg #[.int .i64 l.sent, .int .i64 l.acked, v1, .int .i64 l.got, v2]) ∧ Lkd w w' l v1 v2 := by
  have R' := R
  obtain ⟨ao, cap, rfl, _⟩ := R'
  have hBz : Below w.heap.size w (w.alloc (.cells #[.int .i64 0, .int .i64 0, .slice none 0 0, .int .i64 0, .slice none 0 0] 27)) := (Below.refl _ _).alloc (Nat.le_refl _) _
  go_enter Try.func8, Try.ntmps8
  go_wp2_with fail
  refine (new_any _ zs _ (R.below hBz) hl).mono ?_
  rintro e w1 ⟨rfl, c1', hb1⟩
  have hr1 : w1.heap[w.heap.size]? = some (.cells #[.int .i64 0, .int .i64 0, .slice none 0 0, .int .i64 0, .slice none 0 0] 27 (0, 0)) := (hb1.block _ (by simp)).trans (heap_alloc_new _ _)
  have hB1 := hBz.trans (hb1.mono hBz.size)
  have hPP : (w.alloc (.cells #[.int .i64 0, .int .i64 0, .slice none 0 0, .int .i64 0, .slice none 0 0] 27)).heap.size = w.heap.size + 1 := by simp
  rw [hPP] at c1'
  clear hBz hb1
  go_wp2_with fail
  refine (d10draw_any _ _ zs w1 (w.heap.size + 1) c1').mono ?_
  rintro e w2 ⟨l, v1, v2, rfl, q2, h2, nq, nh, zq, zh, c2', g2⟩
  obtain ⟨a1, c1, rfl⟩ := q2.form
  obtain ⟨a2, c2, rfl⟩ := own_form h2
  have hlw := (Array.getElem?_eq_some_iff.1 hr1).1
  have hP1 := c1'.lt
  have hr2 := (g2.block _ hlw (by simp)).trans hr1
  have hB2 : Below w.heap.size w w2 := hB1.grown g2 hB1.size (fun k hk => by cases hk; omega)
  have hs12 := g2.size
  clear hB1 hr1 g2 c1' hPP
  go_wp2_with (refine wpList_store_own2 rfl 27 _ _ rfl w.heap.size #[.int .i64 l.sent, .int .i64 l.acked, .slice a1 l.q.length c1, .int .i64 l.got, .slice a2 l.h.length c2] rfl rfl 27 _ hr2 Try.sizeLk rfl (by simp [Value.oneCell']) ?_)
  intro w9 hv9 hbg9 hsz9 hoth9
  have t1 := (q2.box hr2 (by decide) hoth9 (B' := 0) (by omega)).row (by omega) zq
  have t2 := PcRow.of_own (own_box h2 hr2 (by decide) hoth9) (by omega) zh
  have hB9 := hB2.trans hbg9
  clear hsz9 hoth9 hbg9 hr2 hB2 q2 h2 c2'
  go_wp2
  exact bodyPost_ret (results_cell_row rfl _ _ w.heap.size 27 _ (0, 0) _ rfl hv9 Try.underlying27 rfl Try.sizeLk) rfl ⟨l, _, _, rfl, t1, t2, nq, nh, zq, zh, hB9⟩

set_option maxRecDepth 100000 in
set_option maxHeartbeats 3200000 in
theorem dlinkack_any (v : Value) (zs : List Int) (w : World) (R : Row w v zs) (hl : zs.length ≤ 1048576) :
    Calls Try.prog 12 #[v] w fun e w' => ∃ (l : Lk) (v1 v2 : Value) (no : Int), e = .returned (.tuple #[.agg #[.int .i64 l.sent, .int .i64 l.acked, v1, .int .i64 l.got, v2], .int .i64 no]) ∧ Lkd w w' l v1 v2 := by
  have R' := R
  obtain ⟨ao, cap, rfl, _⟩ := R'
  have hBz : Below w.heap.size w (w.alloc (.cells #[.int .i64 0, .int .i64 0, .slice none 0 0, .int .i64 0, .slice none 0 0] 27)) := (Below.refl _ _).alloc (Nat.le_refl _) _
  go_enter Try.func12, Try.ntmps12
  go_wp2_with fail
  refine (new_any _ zs _ (R.below hBz) hl).mono ?_
  rintro e w1 ⟨rfl, c1', hb1⟩
  have hr1 : w1.heap[w.heap.size]? = some (.cells #[.int .i64 0, .int .i64 0, .slice none 0 0, .int .i64 0, .slice none 0 0] 27 (0, 0)) := (hb1.block _ (by simp)).trans (heap_alloc_new _ _)
  have hB1 := hBz.trans (hb1.mono hBz.size)
  have hPP : (w.alloc (.cells #[.int .i64 0, .int .i64 0, .slice none 0 0, .int .i64 0, .slice none 0 0] 27)).heap.size = w.heap.size + 1 := by simp
  rw [hPP] at c1'
  clear hBz hb1
  go_wp2_with fail
  refine (d10draw_any _ _ zs w1 (w.heap.size + 1) c1').mono ?_
  rintro e w2 ⟨l, v1, v2, rfl, q2, h2, nq, nh, zq, zh, c2', g2⟩
  obtain ⟨a1, c1, rfl⟩ := q2.form
  obtain ⟨a2, c2, rfl⟩ := own_form h2
  have hlw := (Array.getElem?_eq_some_iff.1 hr1).1
  have hP1 := c1'.lt
  have hr2 := (g2.block _ hlw (by simp)).trans hr1
  have hB2 : Below w.heap.size w w2 := hB1.grown g2 hB1.size (fun k hk => by cases hk; omega)
  have hs12 := g2.size
  clear hB1 hr1 g2 c1' hPP
  go_wp2_with (refine wpList_store_own2 rfl 27 _ _ rfl w2.heap.size #[.int .i64 l.sent, .int .i64 l.acked, .slice a1 l.q.length c1, .int .i64 l.got, .slice a2 l.h.length c2] rfl rfl 27 _ (heap_alloc_new _ _) Try.sizeLk rfl (by simp [Value.oneCell']) ?_)
  intro w3 hn3 hbg3 hs3 ho3
  clear hs3 ho3
  have hb3 : Below w2.heap.size w2 w3 := ((Below.refl _ _).alloc (Nat.le_refl _) _).trans hbg3
  have hr3 := (hb3.block _ (Array.getElem?_eq_some_iff.1 hr2).1).trans hr2
  have q3 := q2.below hb3
  have h3 := own_below h2 hb3
  have hB3 := hB2.trans (hb3.mono hB2.size)
  have c3 := c2'.kept (hb3.mono (by omega))
  have hl2 : w.heap.size + 1 < w2.heap.size := by omega
  have hn3s : w2.heap.size < w3.heap.size := (Array.getElem?_eq_some_iff.1 hn3).1
  have hb0 := hlw
  have hlo : w.heap.size + 1 < w1.heap.size := hP1
  clear hbg3 hb3 hr2 q2 h2 hB2 c2'
  generalize w2.heap.size = b at *
  have hBA : Below w3.heap.size w3 w3.drew := (Below.refl _ _).drew
  have cA := c3.kept (hBA.mono (by omega))
  have hrA := (hBA.block _ (Array.getElem?_eq_some_iff.1 hr3).1).trans hr3
  have hnA := (hBA.block _ hn3s).trans hn3
  have k0 : w3.cell? ⟨b, 0, none⟩ = some (.int .i64 l.sent) := cell_of_row w3 _ 0 _ _ _ hn3
  have k1 : w3.cell? ⟨b, 1, none⟩ = some (.int .i64 l.acked) := cell_of_row w3 _ 1 _ _ _ hn3
  have k2 : w3.cell? ⟨b, 2, none⟩ = some (.slice a1 l.q.length c1) := cell_of_row w3 _ 2 _ _ _ hn3
  have k3 : w3.cell? ⟨b, 3, none⟩ = some (.int .i64 l.got) := cell_of_row w3 _ 3 _ _ _ hn3
  have k4 : w3.cell? ⟨b, 4, none⟩ = some (.slice a2 l.h.length c2) := cell_of_row w3 _ 4 _ _ _ hn3
  go_wp2_with fail
  go_region_with (go_at_call 27; refine (below_any _ _ zs _ (w.heap.size + 1) 5 cA (by omega)).mono ?_; rintro e w4 ⟨x, rfl, hx0, hx1, c4, g4⟩; have hr4 := (g4.block w.heap.size (Array.getElem?_eq_some_iff.1 hrA).1 (by simp)).trans hrA; have hn4 := (g4.block b (Array.getElem?_eq_some_iff.1 hnA).1 (by simp; omega)).trans hnA; have r0 : w4.cell? ⟨b, 0, none⟩ = some (.int .i64 l.sent) := cell_of_row w4 _ 0 _ _ _ hn4; have r1 : w4.cell? ⟨b, 1, none⟩ = some (.int .i64 l.acked) := cell_of_row w4 _ 1 _ _ _ hn4; have r2 : w4.cell? ⟨b, 2, none⟩ = some (.slice a1 l.q.length c1) := cell_of_row w4 _ 2 _ _ _ hn4; have r3 : w4.cell? ⟨b, 3, none⟩ = some (.int .i64 l.got) := cell_of_row w4 _ 3 _ _ _ hn4; have r4 : w4.cell? ⟨b, 4, none⟩ = some (.slice a2 l.h.length c2) := cell_of_row w4 _ 4 _ _ _ hn4; have z0 : w4.cell? ⟨w.heap.size, 0, none⟩ = some (.int .i64 0) := cell_of_row w4 _ 0 _ _ _ hr4; have z1 : w4.cell? ⟨w.heap.size, 1, none⟩ = some (.int .i64 0) := cell_of_row w4 _ 1 _ _ _ hr4; have z2 : w4.cell? ⟨w.heap.size, 2, none⟩ = some (.slice none 0 0) := cell_of_row w4 _ 2 _ _ _ hr4; have z3 : w4.cell? ⟨w.heap.size, 3, none⟩ = some (.int .i64 0) := cell_of_row w4 _ 3 _ _ _ hr4; have z4 : w4.cell? ⟨w.heap.size, 4, none⟩ = some (.slice none 0 0) := cell_of_row w4 _ 4 _ _ _ hr4; have f0 : w4.frozen? ⟨w.heap.size, 0, none⟩ = false := frozen_of_row w4 _ 0 _ _ hr4; have f1 : w4.frozen? ⟨w.heap.size, 1, none⟩ = false := frozen_of_row w4 _ 1 _ _ hr4; have f2 : w4.frozen? ⟨w.heap.size, 2, none⟩ = false := frozen_of_row w4 _ 2 _ _ hr4; have f3 : w4.frozen? ⟨w.heap.size, 3, none⟩ = false := frozen_of_row w4 _ 3 _ _ hr4; have f4 : w4.frozen? ⟨w.heap.size, 4, none⟩ = false := frozen_of_row w4 _ 4 _ _ hr4)
  all_goals
    obtain ⟨hv6, hb6, hs6, ho6⟩ := five_set (.int .i64 l.sent) (.int .i64 l.acked) (.slice a1 l.q.length c1) (.int .i64 l.got) (.slice a2 l.h.length c2) hr4
    have q4 := (q3.below hBA).grow g4 (by omega)
    have h4 := (own_below h3 hBA).kept g4 (own_nt (own_below h3 hBA) (by omega))
    have hB4 : Below w.heap.size w w4 := (hB3.trans (hBA.mono hB3.size)).grown g4 (hB3.trans (hBA.mono hB3.size)).size (fun k hk => by cases hk; omega)
    have t1 := (q4.box hr4 (by decide) ho6 (B' := 0) (by omega)).row (by omega) zq
    have t2 := PcRow.of_own (own_box h4 hr4 (by decide) ho6) (by omega) zh
    have hB6 := hB4.trans hb6
    clear hb6 hs6 ho6 q4 h4 hB4 q3 h3 hBA hr3 hrA hnA hn3 cA c3 c4 g4 hr4 hn4 hB3 k0 k1 k2 k3 k4 r0 r1 r2 r3 r4 z0 z1 z2 z3 z4 f0 f1 f2 f3 f4
    generalize ((((w4.setCell ⟨w.heap.size, 0, none⟩ (.int .i64 l.sent)).setCell ⟨w.heap.size, 1, none⟩ (.int .i64 l.acked)).setCell ⟨w.heap.size, 2, none⟩ (.slice a1 l.q.length c1)).setCell ⟨w.heap.size, 3, none⟩ (.int .i64 l.got)).setCell ⟨w.heap.size, 4, none⟩ (.slice a2 l.h.length c2) = w6 at *
    go_wp2
    exact bodyPost_ret (results_row_tmp rfl _ _ w.heap.size 27 _ (0, 0) _ rfl hv6 Try.underlying27 rfl Try.sizeLk) rfl ⟨l, _, _, _, rfl, t1, t2, nq, nh, zq, zh, hB6⟩
end Go.Proofs.Ytahdinippghlaab
