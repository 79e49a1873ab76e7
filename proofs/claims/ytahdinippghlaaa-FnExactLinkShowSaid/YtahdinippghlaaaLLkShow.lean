/-
  The law FnExactLinkShow, walked: at every argument the law returns true.
-/
import Derived.Test.YtahdinippghlaaaILkShow
import Derived.Test.YtahdinippghlaaaSLkShow
import Derived.Deep.RegionHeld
namespace Go.Proofs.Ytahdinippghlaaa
open Go.RowKit

/-- A slice of pieces of one's own, whose row lies between lo and hi. -/
def VarP (w : World) (lo hi : Nat) (v : Value) (xs : List Pc) : Prop := w.ownsRow lo 48 2 v xs.length (pccs xs) ∧ (∀ k, v.ownBlock = some k → k < hi) ∧ hi ≤ w.heap.size
theorem VarP.new {w : World} {lo : Nat} {v : Value} {xs : List Pc} (h : w.ownsRow lo 48 2 v xs.length (pccs xs)) : VarP w lo w.heap.size v xs := ⟨h, fun k hk => (h.lt k hk).2, Nat.le_refl _⟩
theorem VarP.below {w w' : World} {lo hi : Nat} {v : Value} {xs : List Pc} (h : VarP w lo hi v xs) (hb : Below w.heap.size w w') : VarP w' lo hi v xs := ⟨own_below h.1 hb, h.2.1, Nat.le_trans h.2.2 hb.size⟩
theorem VarP.row {w : World} {lo hi : Nat} {v : Value} {xs : List Pc} (h : VarP w lo hi v xs) (hm : xs.length ≤ 4194304) (hz : ∀ x ∈ xs, x.s.size ≤ maxLen) : PcRow w v xs := PcRow.of_own h.1 (by omega) hz
theorem VarP.turned {w w' : World} {lo hi lo' hi' : Nat} {v : Value} {xs : List Pc} (h : Turned w w' lo hi) (V : VarP w lo' hi' v xs) (hd : hi' ≤ lo ∨ hi ≤ lo') : VarP w' lo' hi' v xs := ⟨own_turned h V.1 V.2.1 hd, V.2.1, Nat.le_trans V.2.2 h.2.2.2.1⟩
theorem VarP.kept {w w' : World} {lo hi lo' hi' : Nat} {v v' : Value} {xs xs' : List Pc} (V : VarP w lo hi v xs) (V' : VarP w lo' hi' v' xs') (hg : w.grownBy w' v'.ownBlock) (hd : hi ≤ lo' ∨ hi' ≤ lo) : VarP w' lo hi v xs := by
  refine ⟨V.1.kept hg ?_, V.2.1, Nat.le_trans V.2.2 hg.size⟩
  cases hv : v.ownBlock with
  | none => exact Or.inl rfl
  | some k =>
    refine Or.inr fun e => ?_
    have k1 := V.2.1 k hv
    have k2 := (V.1.lt k hv).1
    have k3 := V'.2.1 k e.symm
    have k4 := (V'.1.lt k e.symm).1
    omega

set_option maxRecDepth 100000 in
set_option maxHeartbeats 6400000 in
theorem llinkshow_any (v1 v2 : Value) (l : Lk) (w : World) (R1 : StRow w v1 l.q) (R2 : PcRow w v2 l.h) :
    Calls Try.prog 5 #[.agg #[.int .i64 l.sent, .int .i64 l.acked, v1, .int .i64 l.got, v2]] w fun e w' => e = .returned (.bool true) ∧ Below w.heap.size w w' := by
  have hzq := R1.sz
  have hzh := R2.sz
  obtain ⟨a1, c1, rfl⟩ := R1.small
  obtain ⟨a2, c2, rfl⟩ := R2.small
  have hB0 : Below w.heap.size w (w.alloc (Obj.cells #[.int .i64 l.sent, .int .i64 l.acked, .slice a1 l.q.length c1, .int .i64 l.got, .slice a2 l.h.length c2] 25)) := (Below.refl _ _).alloc (Nat.le_refl _) _
  go_enter Try.func5, Try.ntmps5
  go_wp2_with fail
  refine (szlink_any _ _ l _ (R1.below hB0) (R2.below hB0)).mono ?_
  rintro e w1 ⟨r, rfl, hr0, hr1, hr2, hb1⟩
  have hx1 : w1.heap[w.heap.size]? = some (.cells #[.int .i64 l.sent, .int .i64 l.acked, .slice a1 l.q.length c1, .int .i64 l.got, .slice a2 l.h.length c2] 25 (0, 0)) := (hb1.block _ (by simp)).trans (heap_alloc_new _ _)
  have hB1 := hB0.trans (hb1.mono hB0.size)
  clear hB0 hb1
  by_cases hr : r < 0
  · go_wp2
    go_ret
    exact ⟨rfl, hB1⟩
  obtain ⟨l1, l2⟩ := hr2 (by omega)
  clear hr2
  have IT := fun (v1 v2 : Value) (w : World) (R1 : StRow w v1 l.q) (R2 : PcRow w v2 l.h) => ilinkshow_any v1 v2 l w R1 R2
  have ST := fun (v1 v2 : Value) (w : World) (R1 : StRow w v1 l.q) (R2 : PcRow w v2 l.h) => slinkshow_any v1 v2 l w R1 R2
  have hQl := showR_len l
  have hzQ := showR_ok l hzq
  generalize showR l = Q at *
  go_wp2_with (refine wpList_load_row rfl 25 _ rfl w.heap.size rfl 25 #[.int .i64 l.sent, .int .i64 l.acked, .slice a1 l.q.length c1, .int .i64 l.got, .slice a2 l.h.length c2] (0, 0) _ hx1 Try.underlying25 rfl Try.sizeLLk ?_)
  refine (tolink_any _ _ l _ (R1.below hB1) (R2.below hB1) (by omega) (by omega)).mono ?_
  rintro e w2 ⟨u1, u2, rfl, o1, o2, hb2⟩
  obtain ⟨b1, d1, rfl⟩ := own_form o1
  obtain ⟨b2, d2, rfl⟩ := own_form o2
  have S1 := StRow.of_own o1 (by omega) hzq
  have S2 := PcRow.of_own o2 (by omega) hzh
  have hB2 := hB1.trans (hb2.mono hB1.size)
  have hx2 := (hb2.block _ (Array.getElem?_eq_some_iff.1 hx1).1).trans hx1
  clear hB1 hx1 hb2 o1 o2
  go_wp2_with fail
  refine (ST _ _ _ S1 S2).mono ?_
  rintro e w4 ⟨v4, rfl, ho4, hb4⟩
  obtain ⟨f1, g1, rfl⟩ := own_form ho4
  have V4 := VarP.new ho4
  have hBw4 := hB2.trans (hb4.mono hB2.size)
  have hxw4 := (hb4.block _ (Array.getElem?_eq_some_iff.1 hx2).1).trans hx2
  clear hB2 hx2 hb4 S1 S2 ho4
  have hlo4 : w.heap.size < w4.heap.size := (Array.getElem?_eq_some_iff.1 hxw4).1
  generalize w2.heap.size = lo4 at *
  go_wp2_with (refine wpList_load_row rfl 25 _ rfl w.heap.size rfl 25 #[.int .i64 l.sent, .int .i64 l.acked, .slice a1 l.q.length c1, .int .i64 l.got, .slice a2 l.h.length c2] (0, 0) _ hxw4 Try.underlying25 rfl Try.sizeLLk ?_)
  refine (tolink_any _ _ l _ (R1.below hBw4) (R2.below hBw4) (by omega) (by omega)).mono ?_
  rintro e w5 ⟨u1, u2, rfl, o1, o2, hb5⟩
  obtain ⟨p1, q1, rfl⟩ := own_form o1
  obtain ⟨p2, q2, rfl⟩ := own_form o2
  have hB5 := hBw4.trans (hb5.mono hBw4.size)
  have hx5 := (hb5.block _ (Array.getElem?_eq_some_iff.1 hxw4).1).trans hxw4
  replace V4 := V4.below hb5
  clear hBw4 hxw4 hb5
  go_wp2_with (refine wpList_store_own2 rfl 30 _ _ rfl w5.heap.size #[.int .i64 l.sent, .int .i64 l.acked, .slice p1 l.q.length q1, .int .i64 l.got, .slice p2 l.h.length q2] rfl rfl 30 _ (heap_alloc_new _ _) Try.sizeLk rfl (by simp [Value.oneCell']) ?_)
  intro w6 hnw6 hbw6 hsw6 _
  have hdw6 : Below w5.heap.size w5 w6 := ((Below.refl _ _).alloc (Nat.le_refl _) _).trans hbw6
  have V5 := VarL.new (l := l) (SOwn.of_own o1) o2 hdw6 hnw6
  replace V4 := V4.below hdw6
  have hBw6 := hB5.trans (hdw6.mono hB5.size)
  have hxw6 := (hdw6.block _ (Array.getElem?_eq_some_iff.1 hx5).1).trans hx5
  clear hB5 hx5 o1 o2 hnw6 hbw6 hsw6
  clear hdw6
  have hlo6 : w4.heap.size ≤ w6.heap.size := by have := V4.2.2; omega
  generalize w5.heap.size = b5 at *
  go_wp2_with (refine wpList_load_row rfl 30 _ rfl b5 rfl 30 #[.int .i64 l.sent, .int .i64 l.acked, .slice p1 l.q.length q1, .int .i64 l.got, .slice p2 l.h.length q2] (0, 0) _ V5.1 Try.underlying30 rfl Try.sizeLk ?_)
  refine (IT _ _ _ (V5.row1 (by omega) hzq) (V5.row2 (by omega) hzh)).mono ?_
  rintro e w8 ⟨v8, rfl, ho8, hb8⟩
  obtain ⟨f3, g3, rfl⟩ := own_form ho8
  have V6 := VarP.new ho8
  have hBw8 := hBw6.trans (hb8.mono hBw6.size)
  have hxw8 := (hb8.block _ (Array.getElem?_eq_some_iff.1 hxw6).1).trans hxw6
  replace V4 := V4.below hb8
  replace V5 := V5.below hb8
  clear hBw6 hxw6 hb8 ho8
  go_wp2_with fail
  refine (eqpcs_any _ _ Q _ (V6.row (by omega) hzQ) (V4.row (by omega) hzQ)).mono ?_
  rintro e w9 ⟨rfl, hb9⟩
  replace V4 := V4.below hb9
  replace V5 := V5.below hb9
  replace V6 := V6.below hb9
  have hBw9 := hBw8.trans (hb9.mono hBw8.size)
  have hxw9 := (hb9.block _ (Array.getElem?_eq_some_iff.1 hxw8).1).trans hxw8
  clear hBw8 hxw8 hb9
  have q5 := V5.lt
  have e0 : w9.cell? ⟨w.heap.size, 0, none⟩ = some (.int .i64 l.sent) := cell_of_row w9 _ 0 _ _ _ hxw9
  have e1 : w9.cell? ⟨w.heap.size, 1, none⟩ = some (.int .i64 l.acked) := cell_of_row w9 _ 1 _ _ _ hxw9
  have e2 : w9.cell? ⟨w.heap.size, 2, none⟩ = some (.slice a1 l.q.length c1) := cell_of_row w9 _ 2 _ _ _ hxw9
  have e3 : w9.cell? ⟨w.heap.size, 3, none⟩ = some (.int .i64 l.got) := cell_of_row w9 _ 3 _ _ _ hxw9
  have e4 : w9.cell? ⟨w.heap.size, 4, none⟩ = some (.slice a2 l.h.length c2) := cell_of_row w9 _ 4 _ _ _ hxw9
  have k0 : w9.cell? ⟨b5, 0, none⟩ = some (.int .i64 l.sent) := cell_of_row w9 _ 0 _ _ _ V5.1
  have k1 : w9.cell? ⟨b5, 1, none⟩ = some (.int .i64 l.acked) := cell_of_row w9 _ 1 _ _ _ V5.1
  have k2 : w9.cell? ⟨b5, 2, none⟩ = some (.slice p1 l.q.length q1) := cell_of_row w9 _ 2 _ _ _ V5.1
  have k3 : w9.cell? ⟨b5, 3, none⟩ = some (.int .i64 l.got) := cell_of_row w9 _ 3 _ _ _ V5.1
  have k4 : w9.cell? ⟨b5, 4, none⟩ = some (.slice p2 l.h.length q2) := cell_of_row w9 _ 4 _ _ _ V5.1
  go_wp2_with fail
  go_region_with (first
    | (go_at_call 11; refine (tolink_any _ _ l _ ?_ ?_ ?_ ?_).mono ?_; exact R1.below hBw9.drew; exact R2.below hBw9.drew; omega; omega; rintro e wk ⟨z1, z2, rfl, ok1, ok2, hbk⟩; obtain ⟨r1, t1, rfl⟩ := own_form ok1; obtain ⟨r2, t2, rfl⟩ := own_form ok2; have SK1 := StRow.of_own ok1 (by omega) hzq; have SK2 := PcRow.of_own ok2 (by omega) hzh; have hbk' : Below w9.heap.size w9 wk := (Below.refl _ _).drew.trans hbk; have UK1 := (V5.below hbk').row1 (by omega) hzq; have UK2 := (V5.below hbk').row2 (by omega) hzh; have m0 := (hbk'.cell (p := ⟨b5, 0, none⟩) q5).trans k0; have m1 := (hbk'.cell (p := ⟨b5, 1, none⟩) q5).trans k1; have m2 := (hbk'.cell (p := ⟨b5, 2, none⟩) q5).trans k2; have m3 := (hbk'.cell (p := ⟨b5, 3, none⟩) q5).trans k3; have m4 := (hbk'.cell (p := ⟨b5, 4, none⟩) q5).trans k4)
    | (go_at_call 13; refine (eqlink_any _ _ _ _ l _ ?_ ?_ ?_ ?_).mono ?_; exact UK1; exact UK2; exact SK1; exact SK2; rintro e wl ⟨rfl, hbl⟩))
  all_goals
    have h9l : Below w9.heap.size w9 wl := hbk'.trans (hbl.mono hbk'.size)
    clear hbk hbk' hbl ok1 ok2 UK1 UK2 SK1 SK2 e0 e1 e2 e3 e4 k0 k1 k2 k3 k4 m0 m1 m2 m3 m4
    replace V4 := V4.below h9l
    replace V5 := V5.below h9l
    replace V6 := V6.below h9l
    have hBwl := hBw9.trans (h9l.mono hBw9.size)
    have hxwl := (h9l.block _ (Array.getElem?_eq_some_iff.1 hxw9).1).trans hxw9
    clear hBw9 hxw9 h9l
    go_wp2_with (refine wpList_load_row rfl 30 _ rfl b5 rfl 30 #[.int .i64 l.sent, .int .i64 l.acked, .slice p1 l.q.length q1, .int .i64 l.got, .slice p2 l.h.length q2] (0, 0) _ V5.1 Try.underlying30 rfl Try.sizeLk ?_)
    refine (marklink_any b5 w4.heap.size w6.heap.size _ _ l _ V5 (by omega) (by omega)).mono ?_
    rintro e wa ⟨rfl, _, hTa⟩
    replace V4 := VarP.turned hTa V4 (Or.inl (Nat.le_refl _))
    replace V6 := VarP.turned hTa V6 (Or.inr (Nat.le_refl _))
    have hxwa := hTa.block hxwl (by decide) (by decide)
    have hBwa := Turned.belowT hBwl hTa (by omega) hBwl.size
    clear V5 hTa hxwl hBwl q5
    have hk1 : ¬ (1 + (l.q.length : Int) + 2 * (l.h.length : Int)) < 0 := by omega
    go_wp2_with fail
    refine (eqpcs_any _ _ Q _ (V6.row (by omega) hzQ) (V4.row (by omega) hzQ)).mono ?_
    rintro e wb ⟨rfl, hbb⟩
    replace V4 := V4.below hbb
    replace V6 := V6.below hbb
    have hBwb := hBwa.trans (hbb.mono hBwa.size)
    have hxwb := (hbb.block _ (Array.getElem?_eq_some_iff.1 hxwa).1).trans hxwa
    clear hBwa hxwa hbb
    go_wp2_with fail
    refine (markpieces_any _ 1 w6.heap.size Q _ V6.1 (by omega) (by omega) (by omega)).mono ?_
    rintro e wc ⟨rfl, hoc, hgc⟩
    replace V4 := V4.kept V6 hgc (Or.inl hlo6)
    have hxwc := (hgc.block _ (Array.getElem?_eq_some_iff.1 hxwb).1 (fun e => own_ne V6.1 hxwb (by decide) e.symm)).trans hxwb
    have hBwc : Below w.heap.size w wc := hBwb.grown hgc hBwb.size (fun k hk => by have := (V6.1.lt k hk).1; omega)
    have hlm := pmarked_length 1 Q _ (Nat.le_refl _)
    have V6' : VarP wc w6.heap.size w8.heap.size (.slice f3 Q.length g3) (pmarked 1 Q Q.length) := ⟨by rw [hlm]; exact hoc, V6.2.1, Nat.le_trans V6.2.2 hgc.size⟩
    clear hgc hoc hxwb hBwb V6
    have hzM := pmarked_ok 1 Q (by omega) (by omega)
    have hk2 : ¬ (1 + 2 * (Q.length : Int)) < 0 := by omega
    go_wp2_with fail
    refine (heldpieces_any _ 1 Q _ (V6'.row (by omega) hzM) (by omega) (by omega) (by omega)).mono ?_
    rintro e wd ⟨rfl, hbd⟩
    replace V4 := V4.below hbd
    replace V6' := V6'.below hbd
    have hBwd := hBwc.trans (hbd.mono hBwc.size)
    have hxwd := (hbd.block _ (Array.getElem?_eq_some_iff.1 hxwc).1).trans hxwc
    clear hBwc hxwc hbd
    go_wp2_with (refine wpList_load_row rfl 25 _ rfl w.heap.size rfl 25 #[.int .i64 l.sent, .int .i64 l.acked, .slice a1 l.q.length c1, .int .i64 l.got, .slice a2 l.h.length c2] (0, 0) _ hxwd Try.underlying25 rfl Try.sizeLLk ?_)
    refine (tolink_any _ _ l _ (R1.below hBwd) (R2.below hBwd) (by omega) (by omega)).mono ?_
    rintro e we ⟨u1, u2, rfl, o1, o2, hbe⟩
    obtain ⟨b7, d7, rfl⟩ := own_form o1
    obtain ⟨b8, d8, rfl⟩ := own_form o2
    have S1 := StRow.of_own o1 (by omega) hzq
    have S2 := PcRow.of_own o2 (by omega) hzh
    clear o1 o2
    replace V4 := V4.below hbe
    replace V6' := V6'.below hbe
    have hBwe := hBwd.trans (hbe.mono hBwd.size)
    clear hBwd hxwd hbe
    go_wp2_with fail
    refine (IT _ _ _ S1 S2).mono ?_
    rintro e wf ⟨v10, rfl, ho10, hbf⟩
    obtain ⟨f5, g5, rfl⟩ := own_form ho10
    have V10 := VarP.new ho10
    replace V4 := V4.below hbf
    replace V6' := V6'.below hbf
    have hBwf := hBwe.trans (hbf.mono hBwe.size)
    clear hBwe hbf S1 S2 ho10
    go_wp2_with fail
    refine (eqpcs_any _ _ Q _ (V10.row (by omega) hzQ) (V4.row (by omega) hzQ)).mono ?_
    rintro e wh ⟨rfl, hbh⟩
    replace V6' := V6'.below hbh
    have hBwh := hBwf.trans (hbh.mono hBwf.size)
    clear hBwf hbh
    go_wp2_with fail
    refine (heldpieces_any _ 1 Q _ (V6'.row (by omega) hzM) (by omega) (by omega) (by omega)).mono ?_
    rintro e wi ⟨rfl, hbi⟩
    have hBwi := hBwh.trans (hbi.mono hBwh.size)
    clear V6' V4 V10 hbi hBwh
    go_wp2
    go_ret
    exact ⟨rfl, hBwi⟩
end Go.Proofs.Ytahdinippghlaaa
