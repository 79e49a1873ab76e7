/-
  The law FnExactLinkAck, walked: at every argument the law returns true.
-/
import Derived.Test.YtahdinippghlaaaILkAck
import Derived.Test.YtahdinippghlaaaSLkAck
import Derived.Deep.RegionHeld
namespace Go.Proofs.Ytahdinippghlaaa
open Go.RowKit

set_option maxRecDepth 100000 in
set_option maxHeartbeats 6400000 in
theorem llinkack_any (v1 v2 : Value) (l : Lk) (no : Int) (w : World) (R1 : StRow w v1 l.q) (R2 : PcRow w v2 l.h) :
    Calls Try.prog 6 #[.agg #[.int .i64 l.sent, .int .i64 l.acked, v1, .int .i64 l.got, v2], .int .i64 no] w fun e w' => e = .returned (.bool true) ∧ Below w.heap.size w w' := by
  have hzq := R1.sz
  have hzh := R2.sz
  obtain ⟨a1, c1, rfl⟩ := R1.small
  obtain ⟨a2, c2, rfl⟩ := R2.small
  have hB0 : Below w.heap.size w (w.alloc (Obj.cells #[.int .i64 l.sent, .int .i64 l.acked, .slice a1 l.q.length c1, .int .i64 l.got, .slice a2 l.h.length c2] 25)) := (Below.refl _ _).alloc (Nat.le_refl _) _
  go_enter Try.func6, Try.ntmps6
  go_wp2_with fail
  refine (szlink_any _ _ l _ (R1.below hB0) (R2.below hB0)).mono ?_
  rintro e w1 ⟨r, rfl, hr0, hr1, hr2, hb1⟩
  have hx1 : w1.heap[w.heap.size]? = some (.cells #[.int .i64 l.sent, .int .i64 l.acked, .slice a1 l.q.length c1, .int .i64 l.got, .slice a2 l.h.length c2] 25 (0, 0)) := (hb1.block _ (by simp)).trans (heap_alloc_new _ _)
  have hB1 := hB0.trans (hb1.mono hB0.size)
  clear hB0 hb1
  by_cases hr : r < 0
  · go_wp2
    go_ret
    exact ⟨rfl, hB1⟩
  obtain ⟨l1, l2⟩ := hr2 (by omega)
  clear hr2
  have IT := fun (v1 v2 : Value) (w : World) (R1 : StRow w v1 l.q) (R2 : PcRow w v2 l.h) => ilinkack_any v1 v2 l no w R1 R2
  have ST := fun (v1 v2 : Value) (w : World) (R1 : StRow w v1 l.q) (R2 : PcRow w v2 l.h) => slinkack_any v1 v2 l no w R1 R2
  have hMq : (ackR l no).1.q.length ≤ 2097152 := by have := ackR_len l no; omega
  have hMh : (ackR l no).1.h.length ≤ 2097152 := by have := ackR_len l no; omega
  have hzMq : ∀ x ∈ (ackR l no).1.q, x.size ≤ maxLen := (ackR_ok l no hzq hzh).1
  have hzMh : ∀ x ∈ (ackR l no).1.h, x.s.size ≤ maxLen := (ackR_ok l no hzq hzh).2
  generalize ackR l no = RR at *
  obtain ⟨M, bb⟩ := RR
  simp only at hMq hMh hzMq hzMh
  go_wp2_with (refine wpList_load_row rfl 25 _ rfl w.heap.size rfl 25 #[.int .i64 l.sent, .int .i64 l.acked, .slice a1 l.q.length c1, .int .i64 l.got, .slice a2 l.h.length c2] (0, 0) _ hx1 Try.underlying25 rfl Try.sizeLLk ?_)
  refine (tolink_any _ _ l _ (R1.below hB1) (R2.below hB1) (by omega) (by omega)).mono ?_
  rintro e w2 ⟨u1, u2, rfl, o1, o2, hb2⟩
  obtain ⟨b1, d1, rfl⟩ := own_form o1
  obtain ⟨b2, d2, rfl⟩ := own_form o2
  have S1 := StRow.of_own o1 (by omega) hzq
  have S2 := PcRow.of_own o2 (by omega) hzh
  have hB2 := hB1.trans (hb2.mono hB1.size)
  have hx2 := (hb2.block _ (Array.getElem?_eq_some_iff.1 hx1).1).trans hx1
  clear hB1 hx1 hb2 o1 o2
  go_wp2_with fail
  refine (ST _ _ _ S1 S2).mono ?_
  rintro e w3 ⟨y1, y2, rfl, ho3, hp3, hb3⟩
  obtain ⟨f1, g1, rfl⟩ := ho3.form
  obtain ⟨f2, g2, rfl⟩ := own_form hp3
  have hB3 := hB2.trans (hb3.mono hB2.size)
  have hx3 := (hb3.block _ (Array.getElem?_eq_some_iff.1 hx2).1).trans hx2
  clear hB2 hx2 hb3 S1 S2
  go_wp2_with (refine wpList_store_own2 rfl 30 _ _ rfl w3.heap.size #[.int .i64 M.sent, .int .i64 M.acked, .slice f1 M.q.length g1, .int .i64 M.got, .slice f2 M.h.length g2] rfl rfl 30 _ (heap_alloc_new _ _) Try.sizeLk rfl (by simp [Value.oneCell']) ?_)
  intro w4 hnw4 hbw4 hsw4 _
  have hdw4 : Below w3.heap.size w3 w4 := ((Below.refl _ _).alloc (Nat.le_refl _) _).trans hbw4
  have V4 := VarL.new (l := M) ho3 hp3 hdw4 hnw4
  have hBw4 := hB3.trans (hdw4.mono hB3.size)
  have hxw4 := (hdw4.block _ (Array.getElem?_eq_some_iff.1 hx3).1).trans hx3
  clear hB3 hx3 ho3 hp3 hnw4 hbw4 hsw4
  have hlo4 : w.heap.size < w4.heap.size := (Array.getElem?_eq_some_iff.1 hxw4).1
  clear hdw4
  generalize w3.heap.size = b4 at *
  generalize w2.heap.size = lo4 at *
  go_wp2_with (refine wpList_load_row rfl 25 _ rfl w.heap.size rfl 25 #[.int .i64 l.sent, .int .i64 l.acked, .slice a1 l.q.length c1, .int .i64 l.got, .slice a2 l.h.length c2] (0, 0) _ hxw4 Try.underlying25 rfl Try.sizeLLk ?_)
  refine (tolink_any _ _ l _ (R1.below hBw4) (R2.below hBw4) (by omega) (by omega)).mono ?_
  rintro e w5 ⟨u1, u2, rfl, o1, o2, hb5⟩
  obtain ⟨p1, q1, rfl⟩ := own_form o1
  obtain ⟨p2, q2, rfl⟩ := own_form o2
  have hB5 := hBw4.trans (hb5.mono hBw4.size)
  have hx5 := (hb5.block _ (Array.getElem?_eq_some_iff.1 hxw4).1).trans hxw4
  replace V4 := V4.below hb5
  clear hBw4 hxw4 hb5
  go_wp2_with (refine wpList_store_own2 rfl 30 _ _ rfl w5.heap.size #[.int .i64 l.sent, .int .i64 l.acked, .slice p1 l.q.length q1, .int .i64 l.got, .slice p2 l.h.length q2] rfl rfl 30 _ (heap_alloc_new _ _) Try.sizeLk rfl (by simp [Value.oneCell']) ?_)
  intro w6 hnw6 hbw6 hsw6 _
  have hdw6 : Below w5.heap.size w5 w6 := ((Below.refl _ _).alloc (Nat.le_refl _) _).trans hbw6
  have V5 := VarL.new (l := l) (SOwn.of_own o1) o2 hdw6 hnw6
  replace V4 := V4.below hdw6
  have hBw6 := hB5.trans (hdw6.mono hB5.size)
  have hxw6 := (hdw6.block _ (Array.getElem?_eq_some_iff.1 hx5).1).trans hx5
  clear hB5 hx5 o1 o2 hnw6 hbw6 hsw6
  clear hdw6
  have hlo6 : w4.heap.size ≤ w6.heap.size := by have := V4.2.2.2.2.2; omega
  generalize w5.heap.size = b5 at *
  go_wp2_with (refine wpList_load_row rfl 30 _ rfl b5 rfl 30 #[.int .i64 l.sent, .int .i64 l.acked, .slice p1 l.q.length q1, .int .i64 l.got, .slice p2 l.h.length q2] (0, 0) _ V5.1 Try.underlying30 rfl Try.sizeLk ?_)
  refine (IT _ _ _ (V5.row1 (by omega) hzq) (V5.row2 (by omega) hzh)).mono ?_
  rintro e w7 ⟨y1, y2, rfl, ho7, hp7, hb7⟩
  obtain ⟨f3, g3, rfl⟩ := ho7.form
  obtain ⟨f4, g4, rfl⟩ := own_form hp7
  have hB7 := hBw6.trans (hb7.mono hBw6.size)
  have hx7 := (hb7.block _ (Array.getElem?_eq_some_iff.1 hxw6).1).trans hxw6
  replace V4 := V4.below hb7
  replace V5 := V5.below hb7
  clear hBw6 hxw6 hb7
  go_wp2_with (refine wpList_store_own2 rfl 30 _ _ rfl w7.heap.size #[.int .i64 M.sent, .int .i64 M.acked, .slice f3 M.q.length g3, .int .i64 M.got, .slice f4 M.h.length g4] rfl rfl 30 _ (heap_alloc_new _ _) Try.sizeLk rfl (by simp [Value.oneCell']) ?_)
  intro w8 hnw8 hbw8 hsw8 _
  have hdw8 : Below w7.heap.size w7 w8 := ((Below.refl _ _).alloc (Nat.le_refl _) _).trans hbw8
  have V6 := VarL.new (l := M) ho7 hp7 hdw8 hnw8
  replace V4 := V4.below hdw8
  replace V5 := V5.below hdw8
  have hBw8 := hB7.trans (hdw8.mono hB7.size)
  have hxw8 := (hdw8.block _ (Array.getElem?_eq_some_iff.1 hx7).1).trans hx7
  clear hB7 hx7 ho7 hp7 hnw8 hbw8 hsw8
  clear hdw8
  generalize w7.heap.size = b6 at *
  go_wp2_with (first | (refine wpList_load_row rfl 30 _ rfl b6 rfl 30 #[.int .i64 M.sent, .int .i64 M.acked, .slice f3 M.q.length g3, .int .i64 M.got, .slice f4 M.h.length g4] (0, 0) _ V6.1 Try.underlying30 rfl Try.sizeLk ?_) | (refine wpList_load_row rfl 30 _ rfl b4 rfl 30 #[.int .i64 M.sent, .int .i64 M.acked, .slice f1 M.q.length g1, .int .i64 M.got, .slice f2 M.h.length g2] (0, 0) _ V4.1 Try.underlying30 rfl Try.sizeLk ?_))
  refine (eqlink_any _ _ _ _ M _ (V6.row1 (by omega) hzMq) (V6.row2 (by omega) hzMh) (V4.row1 (by omega) hzMq) (V4.row2 (by omega) hzMh)).mono ?_
  rintro e w9 ⟨rfl, hb9⟩
  replace V4 := V4.below hb9
  replace V5 := V5.below hb9
  replace V6 := V6.below hb9
  have hBw9 := hBw8.trans (hb9.mono hBw8.size)
  have hxw9 := (hb9.block _ (Array.getElem?_eq_some_iff.1 hxw8).1).trans hxw8
  clear hBw8 hxw8 hb9
  have q5 := V5.lt
  have e0 : w9.cell? ⟨w.heap.size, 0, none⟩ = some (.int .i64 l.sent) := cell_of_row w9 _ 0 _ _ _ hxw9
  have e1 : w9.cell? ⟨w.heap.size, 1, none⟩ = some (.int .i64 l.acked) := cell_of_row w9 _ 1 _ _ _ hxw9
  have e2 : w9.cell? ⟨w.heap.size, 2, none⟩ = some (.slice a1 l.q.length c1) := cell_of_row w9 _ 2 _ _ _ hxw9
  have e3 : w9.cell? ⟨w.heap.size, 3, none⟩ = some (.int .i64 l.got) := cell_of_row w9 _ 3 _ _ _ hxw9
  have e4 : w9.cell? ⟨w.heap.size, 4, none⟩ = some (.slice a2 l.h.length c2) := cell_of_row w9 _ 4 _ _ _ hxw9
  have k0 : w9.cell? ⟨b5, 0, none⟩ = some (.int .i64 l.sent) := cell_of_row w9 _ 0 _ _ _ V5.1
  have k1 : w9.cell? ⟨b5, 1, none⟩ = some (.int .i64 l.acked) := cell_of_row w9 _ 1 _ _ _ V5.1
  have k2 : w9.cell? ⟨b5, 2, none⟩ = some (.slice p1 l.q.length q1) := cell_of_row w9 _ 2 _ _ _ V5.1
  have k3 : w9.cell? ⟨b5, 3, none⟩ = some (.int .i64 l.got) := cell_of_row w9 _ 3 _ _ _ V5.1
  have k4 : w9.cell? ⟨b5, 4, none⟩ = some (.slice p2 l.h.length q2) := cell_of_row w9 _ 4 _ _ _ V5.1
  have bbb : (bb != bb) = false := by simp
  go_wp2_with fail
  go_region_with (first
    | (go_at_call 11; refine (tolink_any _ _ l _ ?_ ?_ ?_ ?_).mono ?_; exact R1.below hBw9.drew; exact R2.below hBw9.drew; omega; omega; rintro e wk ⟨z1, z2, rfl, ok1, ok2, hbk⟩; obtain ⟨r1, t1, rfl⟩ := own_form ok1; obtain ⟨r2, t2, rfl⟩ := own_form ok2; have SK1 := StRow.of_own ok1 (by omega) hzq; have SK2 := PcRow.of_own ok2 (by omega) hzh; have hbk' : Below w9.heap.size w9 wk := (Below.refl _ _).drew.trans hbk; have UK1 := (V5.below hbk').row1 (by omega) hzq; have UK2 := (V5.below hbk').row2 (by omega) hzh; have m0 := (hbk'.cell (p := ⟨b5, 0, none⟩) q5).trans k0; have m1 := (hbk'.cell (p := ⟨b5, 1, none⟩) q5).trans k1; have m2 := (hbk'.cell (p := ⟨b5, 2, none⟩) q5).trans k2; have m3 := (hbk'.cell (p := ⟨b5, 3, none⟩) q5).trans k3; have m4 := (hbk'.cell (p := ⟨b5, 4, none⟩) q5).trans k4)
    | (go_at_call 13; refine (eqlink_any _ _ _ _ l _ ?_ ?_ ?_ ?_).mono ?_; exact UK1; exact UK2; exact SK1; exact SK2; rintro e wl ⟨rfl, hbl⟩))
  all_goals
    have h9l : Below w9.heap.size w9 wl := hbk'.trans (hbl.mono hbk'.size)
    clear hbk hbk' hbl ok1 ok2 UK1 UK2 SK1 SK2 e0 e1 e2 e3 e4 k0 k1 k2 k3 k4 m0 m1 m2 m3 m4
    replace V4 := V4.below h9l
    replace V5 := V5.below h9l
    replace V6 := V6.below h9l
    have hBwl := hBw9.trans (h9l.mono hBw9.size)
    have hxwl := (h9l.block _ (Array.getElem?_eq_some_iff.1 hxw9).1).trans hxw9
    clear hBw9 hxw9 h9l
    go_wp2_with (refine wpList_load_row rfl 30 _ rfl b5 rfl 30 #[.int .i64 l.sent, .int .i64 l.acked, .slice p1 l.q.length q1, .int .i64 l.got, .slice p2 l.h.length q2] (0, 0) _ V5.1 Try.underlying30 rfl Try.sizeLk ?_)
    refine (marklink_any b5 w4.heap.size w6.heap.size _ _ l _ V5 (by omega) (by omega)).mono ?_
    rintro e wa ⟨rfl, _, hTa⟩
    replace V4 := VarL.turned hTa V4 (Or.inl (Nat.le_refl _))
    replace V6 := VarL.turned hTa V6 (Or.inr (Nat.le_refl _))
    have hxwa := hTa.block hxwl (by decide) (by decide)
    have hBwa := Turned.belowT hBwl hTa (by omega) hBwl.size
    clear V5 hTa hxwl hBwl q5
    have hk1 : ¬ (1 + (l.q.length : Int) + 2 * (l.h.length : Int)) < 0 := by omega
    have e0 : wa.cell? ⟨b6, 0, none⟩ = some (.int .i64 M.sent) := cell_of_row wa _ 0 _ _ _ V6.1
    have e1 : wa.cell? ⟨b6, 1, none⟩ = some (.int .i64 M.acked) := cell_of_row wa _ 1 _ _ _ V6.1
    have e2 : wa.cell? ⟨b6, 2, none⟩ = some (.slice f3 M.q.length g3) := cell_of_row wa _ 2 _ _ _ V6.1
    have e3 : wa.cell? ⟨b6, 3, none⟩ = some (.int .i64 M.got) := cell_of_row wa _ 3 _ _ _ V6.1
    have e4 : wa.cell? ⟨b6, 4, none⟩ = some (.slice f4 M.h.length g4) := cell_of_row wa _ 4 _ _ _ V6.1
    have k0 : wa.cell? ⟨b4, 0, none⟩ = some (.int .i64 M.sent) := cell_of_row wa _ 0 _ _ _ V4.1
    have k1 : wa.cell? ⟨b4, 1, none⟩ = some (.int .i64 M.acked) := cell_of_row wa _ 1 _ _ _ V4.1
    have k2 : wa.cell? ⟨b4, 2, none⟩ = some (.slice f1 M.q.length g1) := cell_of_row wa _ 2 _ _ _ V4.1
    have k3 : wa.cell? ⟨b4, 3, none⟩ = some (.int .i64 M.got) := cell_of_row wa _ 3 _ _ _ V4.1
    have k4 : wa.cell? ⟨b4, 4, none⟩ = some (.slice f2 M.h.length g2) := cell_of_row wa _ 4 _ _ _ V4.1
    go_wp2_with fail
    refine (eqlink_any _ _ _ _ M _ (V6.row1 (by omega) hzMq) (V6.row2 (by omega) hzMh) (V4.row1 (by omega) hzMq) (V4.row2 (by omega) hzMh)).mono ?_
    rintro e wb ⟨rfl, hbb⟩
    clear e0 e1 e2 e3 e4 k0 k1 k2 k3 k4
    replace V4 := V4.below hbb
    replace V6 := V6.below hbb
    have hBwb := hBwa.trans (hbb.mono hBwa.size)
    have hxwb := (hbb.block _ (Array.getElem?_eq_some_iff.1 hxwa).1).trans hxwa
    clear hBwa hxwa hbb
    go_wp2_with (refine wpList_load_row rfl 30 _ rfl b6 rfl 30 #[.int .i64 M.sent, .int .i64 M.acked, .slice f3 M.q.length g3, .int .i64 M.got, .slice f4 M.h.length g4] (0, 0) _ V6.1 Try.underlying30 rfl Try.sizeLk ?_)
    refine (marklink_any b6 w6.heap.size w8.heap.size _ _ M _ V6 (by omega) (by omega)).mono ?_
    rintro e wc ⟨rfl, V6', hTc⟩
    replace V4 := VarL.turned hTc V4 (Or.inl hlo6)
    have hxwc := hTc.block hxwb (by decide) (by decide)
    have hBwc := Turned.belowT hBwb hTc (by omega) hBwb.size
    clear hTc hxwb hBwb V6
    have hV6 : wc.heap[b6]? = some (.cells #[.int .i64 M.sent, .int .i64 M.acked, .slice f3 M.q.length g3, .int .i64 M.got, .slice f4 M.h.length g4] 30 (0, 0)) := V6'.1
    have hk2 : ¬ (1 + (M.q.length : Int) + 2 * (M.h.length : Int)) < 0 := by omega
    have hz1 : ∀ x ∈ (lmk M).q, x.size ≤ maxLen := sm_ok 1 _ (by omega) (by omega)
    have hz2 : ∀ x ∈ (lmk M).h, x.s.size ≤ maxLen := pmarked_ok _ _ (by omega) (by omega)
    have hm1 : (lmk M).q.length ≤ 4194304 := by rw [lmk_q]; omega
    have hm2 : (lmk M).h.length ≤ 4194304 := by rw [lmk_h]; omega
    go_wp2_with (refine wpList_load_row rfl 30 _ rfl b6 rfl 30 #[.int .i64 M.sent, .int .i64 M.acked, .slice f3 M.q.length g3, .int .i64 M.got, .slice f4 M.h.length g4] (0, 0) _ hV6 Try.underlying30 rfl Try.sizeLk ?_)
    refine (heldlink_any _ _ M _ (V6'.row1 hm1 hz1) (V6'.row2 hm2 hz2) (by omega) (by omega)).mono ?_
    rintro e wd ⟨rfl, hbd⟩
    replace V4 := V4.below hbd
    replace V6' := V6'.below hbd
    have hBwd := hBwc.trans (hbd.mono hBwc.size)
    have hxwd := (hbd.block _ (Array.getElem?_eq_some_iff.1 hxwc).1).trans hxwc
    clear hBwc hxwc hbd hV6
    go_wp2_with (refine wpList_load_row rfl 25 _ rfl w.heap.size rfl 25 #[.int .i64 l.sent, .int .i64 l.acked, .slice a1 l.q.length c1, .int .i64 l.got, .slice a2 l.h.length c2] (0, 0) _ hxwd Try.underlying25 rfl Try.sizeLLk ?_)
    refine (tolink_any _ _ l _ (R1.below hBwd) (R2.below hBwd) (by omega) (by omega)).mono ?_
    rintro e we ⟨u1, u2, rfl, o1, o2, hbe⟩
    obtain ⟨b7, d7, rfl⟩ := own_form o1
    obtain ⟨b8, d8, rfl⟩ := own_form o2
    have S1 := StRow.of_own o1 (by omega) hzq
    have S2 := PcRow.of_own o2 (by omega) hzh
    clear o1 o2
    replace V4 := V4.below hbe
    replace V6' := V6'.below hbe
    have hBwe := hBwd.trans (hbe.mono hBwd.size)
    clear hBwd hxwd hbe
    go_wp2_with fail
    refine (IT _ _ _ S1 S2).mono ?_
    rintro e wf ⟨y1, y2, rfl, ho10, hp10, hbf⟩
    obtain ⟨f5, g5, rfl⟩ := ho10.form
    obtain ⟨f6, g6, rfl⟩ := own_form hp10
    clear S1 S2
    replace V4 := V4.below hbf
    replace V6' := V6'.below hbf
    have hBwf := hBwe.trans (hbf.mono hBwe.size)
    clear hBwe hbf
    go_wp2_with (refine wpList_store_own2 rfl 30 _ _ rfl wf.heap.size #[.int .i64 M.sent, .int .i64 M.acked, .slice f5 M.q.length g5, .int .i64 M.got, .slice f6 M.h.length g6] rfl rfl 30 _ (heap_alloc_new _ _) Try.sizeLk rfl (by simp [Value.oneCell']) ?_)
    intro wg hnwg hbwg hswg _
    have hdwg : Below wf.heap.size wf wg := ((Below.refl _ _).alloc (Nat.le_refl _) _).trans hbwg
    have V10 := VarL.new (l := M) ho10 hp10 hdwg hnwg
    replace V4 := V4.below hdwg
    replace V6' := V6'.below hdwg
    have hBwg := hBwf.trans (hdwg.mono hBwf.size)
    clear hBwf ho10 hp10 hnwg hbwg hswg
    clear hdwg
    generalize wf.heap.size = b10 at *
    go_wp2_with (first | (refine wpList_load_row rfl 30 _ rfl b10 rfl 30 #[.int .i64 M.sent, .int .i64 M.acked, .slice f5 M.q.length g5, .int .i64 M.got, .slice f6 M.h.length g6] (0, 0) _ V10.1 Try.underlying30 rfl Try.sizeLk ?_) | (refine wpList_load_row rfl 30 _ rfl b4 rfl 30 #[.int .i64 M.sent, .int .i64 M.acked, .slice f1 M.q.length g1, .int .i64 M.got, .slice f2 M.h.length g2] (0, 0) _ V4.1 Try.underlying30 rfl Try.sizeLk ?_))
    refine (eqlink_any _ _ _ _ M _ (V10.row1 (by omega) hzMq) (V10.row2 (by omega) hzMh) (V4.row1 (by omega) hzMq) (V4.row2 (by omega) hzMh)).mono ?_
    rintro e wh ⟨rfl, hbh⟩
    replace V6' := V6'.below hbh
    have hBwh := hBwg.trans (hbh.mono hBwg.size)
    clear hBwg hbh
    have hV6 : wh.heap[b6]? = some (.cells #[.int .i64 M.sent, .int .i64 M.acked, .slice f3 M.q.length g3, .int .i64 M.got, .slice f4 M.h.length g4] 30 (0, 0)) := V6'.1
    go_wp2_with (refine wpList_load_row rfl 30 _ rfl b6 rfl 30 #[.int .i64 M.sent, .int .i64 M.acked, .slice f3 M.q.length g3, .int .i64 M.got, .slice f4 M.h.length g4] (0, 0) _ hV6 Try.underlying30 rfl Try.sizeLk ?_)
    refine (heldlink_any _ _ M _ (V6'.row1 hm1 hz1) (V6'.row2 hm2 hz2) (by omega) (by omega)).mono ?_
    rintro e wi ⟨rfl, hbi⟩
    have hBwi := hBwh.trans (hbi.mono hBwh.size)
    clear V6' V4 V10 hbi hBwh hV6
    go_wp2
    go_ret
    exact ⟨rfl, hBwi⟩
end Go.Proofs.Ytahdinippghlaaa
