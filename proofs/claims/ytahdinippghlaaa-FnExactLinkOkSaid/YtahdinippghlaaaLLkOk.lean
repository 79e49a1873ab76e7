/-
  The law FnExactLinkOk, walked: at every argument the law returns true.
-/
import Derived.Test.YtahdinippghlaaaLkOkS
import Derived.Deep.RegionHeld
namespace Go.Proofs.Ytahdinippghlaaa
open Go.RowKit

set_option maxRecDepth 100000 in
set_option maxHeartbeats 3200000 in
theorem llinkok_any (v1 v2 : Value) (l : Lk) (w : World) (R1 : StRow w v1 l.q) (R2 : PcRow w v2 l.h) :
    Calls Try.prog 3 #[.agg #[.int .i64 l.sent, .int .i64 l.acked, v1, .int .i64 l.got, v2]] w fun e w' => e = .returned (.bool true) ∧ Below w.heap.size w w' := by
  have hzq := R1.sz
  have hzh := R2.sz
  obtain ⟨a1, c1, rfl⟩ := R1.small
  obtain ⟨a2, c2, rfl⟩ := R2.small
  have hB0 : Below w.heap.size w (w.alloc (Obj.cells #[.int .i64 l.sent, .int .i64 l.acked, .slice a1 l.q.length c1, .int .i64 l.got, .slice a2 l.h.length c2] 25)) := (Below.refl _ _).alloc (Nat.le_refl _) _
  go_enter Try.func3, Try.ntmps3
  go_wp2_with fail
  refine (szlink_any _ _ l _ (R1.below hB0) (R2.below hB0)).mono ?_
  rintro e w1 ⟨r, rfl, hr0, hr1, hr2, hb1⟩
  have hx1 : w1.heap[w.heap.size]? = some (.cells #[.int .i64 l.sent, .int .i64 l.acked, .slice a1 l.q.length c1, .int .i64 l.got, .slice a2 l.h.length c2] 25 (0, 0)) := (hb1.block _ (by simp)).trans (heap_alloc_new _ _)
  have hB1 := hB0.trans (hb1.mono hB0.size)
  clear hB0 hb1
  by_cases hr : r < 0
  · go_wp2
    go_ret
    exact ⟨rfl, hB1⟩
  obtain ⟨l1, l2⟩ := hr2 (by omega)
  clear hr2
  have IT := fun (v1 v2 : Value) (w : World) (R1 : StRow w v1 l.q) (R2 : PcRow w v2 l.h) => ilinkok_any v1 v2 l w R1 R2
  have ST := fun (v1 v2 : Value) (w : World) (R1 : StRow w v1 l.q) (R2 : PcRow w v2 l.h) => slinkok_any v1 v2 l w R1 R2
  generalize linkB l = bb at *
  go_wp2_with (refine wpList_load_row rfl 25 _ rfl w.heap.size rfl 25 #[.int .i64 l.sent, .int .i64 l.acked, .slice a1 l.q.length c1, .int .i64 l.got, .slice a2 l.h.length c2] (0, 0) _ hx1 Try.underlying25 rfl Try.sizeLLk ?_)
  refine (tolink_any _ _ l _ (R1.below hB1) (R2.below hB1) (by omega) (by omega)).mono ?_
  rintro e w2 ⟨u1, u2, rfl, o1, o2, hb2⟩
  obtain ⟨b1, d1, rfl⟩ := own_form o1
  obtain ⟨b2, d2, rfl⟩ := own_form o2
  have S1 := StRow.of_own o1 (by omega) hzq
  have S2 := PcRow.of_own o2 (by omega) hzh
  have hB2 := hB1.trans (hb2.mono hB1.size)
  have hx2 := (hb2.block _ (Array.getElem?_eq_some_iff.1 hx1).1).trans hx1
  clear hB1 hx1 hb2 o1 o2
  go_wp2_with fail
  refine (ST _ _ _ S1 S2).mono ?_
  rintro e w3 ⟨rfl, hb3⟩
  have hB3 := hB2.trans (hb3.mono hB2.size)
  have hx3 := (hb3.block _ (Array.getElem?_eq_some_iff.1 hx2).1).trans hx2
  clear hB2 hx2 hb3 S1 S2
  go_wp2_with (refine wpList_load_row rfl 25 _ rfl w.heap.size rfl 25 #[.int .i64 l.sent, .int .i64 l.acked, .slice a1 l.q.length c1, .int .i64 l.got, .slice a2 l.h.length c2] (0, 0) _ hx3 Try.underlying25 rfl Try.sizeLLk ?_)
  refine (tolink_any _ _ l _ (R1.below hB3) (R2.below hB3) (by omega) (by omega)).mono ?_
  rintro e w5 ⟨u1, u2, rfl, o1, o2, hb5⟩
  obtain ⟨p1, q1, rfl⟩ := own_form o1
  obtain ⟨p2, q2, rfl⟩ := own_form o2
  have hB5 := hB3.trans (hb5.mono hB3.size)
  have hx5 := (hb5.block _ (Array.getElem?_eq_some_iff.1 hx3).1).trans hx3
  clear hB3 hx3 hb5
  go_wp2_with (refine wpList_store_own2 rfl 30 _ _ rfl w5.heap.size #[.int .i64 l.sent, .int .i64 l.acked, .slice p1 l.q.length q1, .int .i64 l.got, .slice p2 l.h.length q2] rfl rfl 30 _ (heap_alloc_new _ _) Try.sizeLk rfl (by simp [Value.oneCell']) ?_)
  intro w6 hnw6 hbw6 hsw6 _
  have hdw6 : Below w5.heap.size w5 w6 := ((Below.refl _ _).alloc (Nat.le_refl _) _).trans hbw6
  have V5 := VarL.new (l := l) (SOwn.of_own o1) o2 hdw6 hnw6
  have hBw6 := hB5.trans (hdw6.mono hB5.size)
  have hxw6 := (hdw6.block _ (Array.getElem?_eq_some_iff.1 hx5).1).trans hx5
  clear hB5 hx5 o1 o2 hnw6 hbw6 hsw6
  clear hdw6
  generalize w5.heap.size = b5 at *
  go_wp2_with (refine wpList_load_row rfl 30 _ rfl b5 rfl 30 #[.int .i64 l.sent, .int .i64 l.acked, .slice p1 l.q.length q1, .int .i64 l.got, .slice p2 l.h.length q2] (0, 0) _ V5.1 Try.underlying30 rfl Try.sizeLk ?_)
  refine (IT _ _ _ (V5.row1 (by omega) hzq) (V5.row2 (by omega) hzh)).mono ?_
  rintro e w9 ⟨rfl, hb9⟩
  replace V5 := V5.below hb9
  have hBw9 := hBw6.trans (hb9.mono hBw6.size)
  have hxw9 := (hb9.block _ (Array.getElem?_eq_some_iff.1 hxw6).1).trans hxw6
  clear hBw6 hxw6 hb9
  have q5 := V5.lt
  have e0 : w9.cell? ⟨w.heap.size, 0, none⟩ = some (.int .i64 l.sent) := cell_of_row w9 _ 0 _ _ _ hxw9
  have e1 : w9.cell? ⟨w.heap.size, 1, none⟩ = some (.int .i64 l.acked) := cell_of_row w9 _ 1 _ _ _ hxw9
  have e2 : w9.cell? ⟨w.heap.size, 2, none⟩ = some (.slice a1 l.q.length c1) := cell_of_row w9 _ 2 _ _ _ hxw9
  have e3 : w9.cell? ⟨w.heap.size, 3, none⟩ = some (.int .i64 l.got) := cell_of_row w9 _ 3 _ _ _ hxw9
  have e4 : w9.cell? ⟨w.heap.size, 4, none⟩ = some (.slice a2 l.h.length c2) := cell_of_row w9 _ 4 _ _ _ hxw9
  have k0 : w9.cell? ⟨b5, 0, none⟩ = some (.int .i64 l.sent) := cell_of_row w9 _ 0 _ _ _ V5.1
  have k1 : w9.cell? ⟨b5, 1, none⟩ = some (.int .i64 l.acked) := cell_of_row w9 _ 1 _ _ _ V5.1
  have k2 : w9.cell? ⟨b5, 2, none⟩ = some (.slice p1 l.q.length q1) := cell_of_row w9 _ 2 _ _ _ V5.1
  have k3 : w9.cell? ⟨b5, 3, none⟩ = some (.int .i64 l.got) := cell_of_row w9 _ 3 _ _ _ V5.1
  have k4 : w9.cell? ⟨b5, 4, none⟩ = some (.slice p2 l.h.length q2) := cell_of_row w9 _ 4 _ _ _ V5.1
  have bbb : (bb != bb) = false := by simp
  go_wp2_with fail
  go_region_with (first
    | (go_at_call 11; refine (tolink_any _ _ l _ ?_ ?_ ?_ ?_).mono ?_; exact R1.below hBw9.drew; exact R2.below hBw9.drew; omega; omega; rintro e wk ⟨z1, z2, rfl, ok1, ok2, hbk⟩; obtain ⟨r1, t1, rfl⟩ := own_form ok1; obtain ⟨r2, t2, rfl⟩ := own_form ok2; have SK1 := StRow.of_own ok1 (by omega) hzq; have SK2 := PcRow.of_own ok2 (by omega) hzh; have hbk' : Below w9.heap.size w9 wk := (Below.refl _ _).drew.trans hbk; have UK1 := (V5.below hbk').row1 (by omega) hzq; have UK2 := (V5.below hbk').row2 (by omega) hzh; have m0 := (hbk'.cell (p := ⟨b5, 0, none⟩) q5).trans k0; have m1 := (hbk'.cell (p := ⟨b5, 1, none⟩) q5).trans k1; have m2 := (hbk'.cell (p := ⟨b5, 2, none⟩) q5).trans k2; have m3 := (hbk'.cell (p := ⟨b5, 3, none⟩) q5).trans k3; have m4 := (hbk'.cell (p := ⟨b5, 4, none⟩) q5).trans k4)
    | (go_at_call 13; refine (eqlink_any _ _ _ _ l _ ?_ ?_ ?_ ?_).mono ?_; exact UK1; exact UK2; exact SK1; exact SK2; rintro e wl ⟨rfl, hbl⟩))
  all_goals
    have h9l : Below w9.heap.size w9 wl := hbk'.trans (hbl.mono hbk'.size)
    clear hbk hbk' hbl ok1 ok2 UK1 UK2 SK1 SK2 e0 e1 e2 e3 e4 k0 k1 k2 k3 k4 m0 m1 m2 m3 m4
    have hBwl := hBw9.trans (h9l.mono hBw9.size)
    go_wp2
    go_ret
    exact ⟨rfl, hBwl⟩
end Go.Proofs.Ytahdinippghlaaa
