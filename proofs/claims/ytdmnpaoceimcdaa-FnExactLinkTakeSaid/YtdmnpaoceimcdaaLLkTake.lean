/-
  The law FnExactLinkTake, walked: at every argument the law returns true.
-/
import Derived.Test.YtdmnpaoceimcdaaMkFine
import Derived.Deep.RegionHeld
namespace Go.Proofs.Ytdmnpaoceimcdaa
open Go.RowKit

theorem Try.sizeLPc : (Try.prog.info? 45).map (·.size) = some 2 := by kernel_rfl

set_option maxRecDepth 100000 in
set_option maxHeartbeats 6400000 in
theorem llinktake_any (v1 v2 : Value) (l : Lk) (x : Pc) (w : World) (R1 : StRow w v1 l.q) (R2 : PcRow w v2 l.h) (hs : x.s.size ≤ maxLen) :
    Calls Try.prog 5 #[.agg #[.int .i64 l.sent, .int .i64 l.acked, v1, .int .i64 l.got, v2], .agg #[.int .i64 x.n, .string x.s]] w fun e w' => e = .returned (.bool true) ∧ Below w.heap.size w w' := by
  have hzq := R1.sz
  have hzh := R2.sz
  obtain ⟨a1, c1, rfl⟩ := R1.small
  obtain ⟨a2, c2, rfl⟩ := R2.small
  obtain ⟨hB0, hx0, hp0⟩ := two_bx w (Obj.cells #[.int .i64 l.sent, .int .i64 l.acked, .slice a1 l.q.length c1, .int .i64 l.got, .slice a2 l.h.length c2] 44) (Obj.cells #[.int .i64 x.n, .string x.s] 45)
  go_enter Try.func5, Try.ntmps5
  go_wp2_with (refine wpList_load_row rfl 44 _ rfl w.heap.size rfl 44 #[.int .i64 l.sent, .int .i64 l.acked, .slice a1 l.q.length c1, .int .i64 l.got, .slice a2 l.h.length c2] (0, 0) _ hx0 Try.underlying44 rfl Try.sizeLLk ?_)
  refine (szlink_any _ _ l _ (R1.below hB0) (R2.below hB0)).mono ?_
  rintro e w1 ⟨r, rfl, hr0, hr1, hr2, hb1⟩
  have hx1 := (hb1.block _ (Array.getElem?_eq_some_iff.1 hx0).1).trans hx0
  have hp1 := (hb1.block _ (Array.getElem?_eq_some_iff.1 hp0).1).trans hp0
  have hB1 := hB0.trans (hb1.mono hB0.size)
  clear hB0 hb1 hx0 hp0
  by_cases hr : r < 0
  · go_wp2
    go_ret
    exact ⟨rfl, hB1⟩
  obtain ⟨l1, l2⟩ := hr2 (by omega)
  clear hr2
  go_wp2_with (refine wpList_load_row rfl 45 _ rfl (w.heap.size + 1) rfl 45 #[.int .i64 x.n, .string x.s] (0, 0) _ hp1 Try.underlying45 rfl Try.sizeLPc ?_)
  refine (szpc_any x r _ hs (by omega) (by omega)).mono ?_
  rintro e w2 ⟨rfl, hb2⟩
  have hx := (hb2.block _ (Array.getElem?_eq_some_iff.1 hx1).1).trans hx1
  have hp := (hb2.block _ (Array.getElem?_eq_some_iff.1 hp1).1).trans hp1
  have hB2 := hB1.trans (hb2.mono hB1.size)
  clear hB1 hb2 hx1 hp1
  by_cases hrs : r < x.s.size
  · rw [less, if_pos hrs]
    go_wp2
    go_ret
    exact ⟨rfl, hB2⟩
  rw [less, if_neg hrs]
  have hrs2 : ¬ r - (x.s.size : Int) < 0 := by omega
  have IT := fun (v1 v2 : Value) (w : World) (R1 : StRow w v1 l.q) (R2 : PcRow w v2 l.h) => ilinktake_any v1 v2 l x w R1 R2 (by omega) (by omega) hs
  have ST := fun (v1 v2 : Value) (w : World) (R1 : StRow w v1 l.q) (R2 : PcRow w v2 l.h) => slinktake_any v1 v2 l x w R1 R2 hs
  have hMq : (takeR l x).1.q.length ≤ 2097152 := by have := takeR_len l x; omega
  have hMh : (takeR l x).1.h.length ≤ 2097152 := by have := takeR_len l x; omega
  have hMt : (takeR l x).2.length ≤ 2097152 := by have := takeR_len l x; omega
  obtain ⟨hzMq, hzMh, hzT⟩ := takeR_ok l x hzq hzh hs
  generalize takeR l x = RR at *
  obtain ⟨M, ts⟩ := RR
  simp only at hMq hMh hMt hzMq hzMh hzT
  go_wp2_with fail
  have S8 := (⟨cell_of_row w2 _ 0 _ _ _ hx, cell_of_row w2 _ 1 _ _ _ hx, cell_of_row w2 _ 2 _ _ _ hx, cell_of_row w2 _ 3 _ _ _ hx, cell_of_row w2 _ 4 _ _ _ hx, cell_of_row w2 _ 0 _ _ _ hp, cell_of_row w2 _ 1 _ _ _ hp⟩ : w2.cell? ⟨w.heap.size, 0, none⟩ = some (.int .i64 l.sent) ∧ w2.cell? ⟨w.heap.size, 1, none⟩ = some (.int .i64 l.acked) ∧ w2.cell? ⟨w.heap.size, 2, none⟩ = some (.slice a1 l.q.length c1) ∧ w2.cell? ⟨w.heap.size, 3, none⟩ = some (.int .i64 l.got) ∧ w2.cell? ⟨w.heap.size, 4, none⟩ = some (.slice a2 l.h.length c2) ∧ w2.cell? ⟨w.heap.size + 1, 0, none⟩ = some (.int .i64 x.n) ∧ w2.cell? ⟨w.heap.size + 1, 1, none⟩ = some (.string x.s))
  refine tk_reg8 w.heap.size (w.heap.size + 1) a1 a2 c1 c2 l x M ts w2 _ ST (R1.below hB2) (R2.below hB2) l1 l2 S8 (Array.getElem?_eq_some_iff.1 hx).1 (Array.getElem?_eq_some_iff.1 hp).1 ?_
  intro u26 u27 u28 u29 u30 u31 u32 u33 y1 y2 y3 b4 w4 hb4 T4 hd4
  obtain ⟨f1, g1, rfl⟩ := T4.var.2.1.form
  obtain ⟨f2, g2, rfl⟩ := own_form T4.var.2.2.1
  obtain ⟨f3, g3, rfl⟩ := own_form T4.own
  replace hx := (hd4.block _ (Array.getElem?_eq_some_iff.1 hx).1).trans hx
  replace hp := (hd4.block _ (Array.getElem?_eq_some_iff.1 hp).1).trans hp
  have hB4 := hB2.trans (hd4.mono hB2.size)
  have hlo4 : w.heap.size ≤ w2.heap.size := hB2.size
  clear hB2 S8 ST
  clear hd4
  generalize w2.heap.size = lo4 at *
  go_wp2_with (refine wpList_load_row rfl 44 _ rfl w.heap.size rfl 44 #[.int .i64 l.sent, .int .i64 l.acked, .slice a1 l.q.length c1, .int .i64 l.got, .slice a2 l.h.length c2] (0, 0) _ hx Try.underlying44 rfl Try.sizeLLk ?_)
  refine (tolink_any _ _ l _ (R1.below hB4) (R2.below hB4) (by omega) (by omega)).mono ?_
  rintro e w5 ⟨u1, u2, rfl, o1, o2, hb5⟩
  obtain ⟨p1, q1, rfl⟩ := own_form o1
  obtain ⟨p2, q2, rfl⟩ := own_form o2
  replace hx := (hb5.block _ (Array.getElem?_eq_some_iff.1 hx).1).trans hx
  replace hp := (hb5.block _ (Array.getElem?_eq_some_iff.1 hp).1).trans hp
  have hB5 := hB4.trans (hb5.mono hB4.size)
  have hlo5 : w.heap.size ≤ w4.heap.size := hB4.size
  replace T4 := T4.below hb5
  clear hB4 hb5
  go_wp2_with (refine wpList_store_own2 rfl 27 _ _ rfl w5.heap.size #[.int .i64 l.sent, .int .i64 l.acked, .slice p1 l.q.length q1, .int .i64 l.got, .slice p2 l.h.length q2] rfl rfl 27 _ (heap_alloc_new _ _) Try.sizeLk rfl (by simp [Value.oneCell']) ?_)
  intro w6 hnw6 hbw6 hsw6 _
  have hdw6 : Below w5.heap.size w5 w6 := ((Below.refl _ _).alloc (Nat.le_refl _) _).trans hbw6
  have V5 := VarL.new (l := l) (SOwn.of_own o1) o2 hdw6 hnw6
  replace T4 := T4.below hdw6
  replace hx := (hdw6.block _ (Array.getElem?_eq_some_iff.1 hx).1).trans hx
  replace hp := (hdw6.block _ (Array.getElem?_eq_some_iff.1 hp).1).trans hp
  have hB6 := hB5.trans (hdw6.mono hB5.size)
  clear hB5 o1 o2 hnw6 hbw6 hsw6
  clear hdw6
  have hlo6 : w4.heap.size ≤ w6.heap.size := T4.var.2.2.2.2.2
  generalize w5.heap.size = b5 at *
  have hl5 := V5.lt
  go_wp2_with fail
  have S10 := (⟨cell_of_row w6 _ 0 _ _ _ V5.1, cell_of_row w6 _ 1 _ _ _ V5.1, cell_of_row w6 _ 2 _ _ _ V5.1, cell_of_row w6 _ 3 _ _ _ V5.1, cell_of_row w6 _ 4 _ _ _ V5.1, cell_of_row w6 _ 0 _ _ _ hp, cell_of_row w6 _ 1 _ _ _ hp⟩ : w6.cell? ⟨b5, 0, none⟩ = some (.int .i64 l.sent) ∧ w6.cell? ⟨b5, 1, none⟩ = some (.int .i64 l.acked) ∧ w6.cell? ⟨b5, 2, none⟩ = some (.slice p1 l.q.length q1) ∧ w6.cell? ⟨b5, 3, none⟩ = some (.int .i64 l.got) ∧ w6.cell? ⟨b5, 4, none⟩ = some (.slice p2 l.h.length q2) ∧ w6.cell? ⟨w.heap.size + 1, 0, none⟩ = some (.int .i64 x.n) ∧ w6.cell? ⟨w.heap.size + 1, 1, none⟩ = some (.string x.s))
  refine tk_reg10 b5 (w.heap.size + 1) p1 p2 q1 q2 l x M ts w6 _ IT (V5.row1 (by omega) hzq) (V5.row2 (by omega) hzh) S10 hl5 (Array.getElem?_eq_some_iff.1 hp).1 ?_
  intro u36 u37 u38 u39 u40 u41 u42 y1 y2 y3 b6 w8 hb6 T6 hd8
  obtain ⟨j1, k1, rfl⟩ := T6.var.2.1.form
  obtain ⟨j2, k2, rfl⟩ := own_form T6.var.2.2.1
  obtain ⟨j3, k3, rfl⟩ := own_form T6.own
  replace hx := (hd8.block _ (Array.getElem?_eq_some_iff.1 hx).1).trans hx
  replace hp := (hd8.block _ (Array.getElem?_eq_some_iff.1 hp).1).trans hp
  have hB8 := hB6.trans (hd8.mono hB6.size)
  replace T4 := T4.below hd8
  replace V5 := V5.below hd8
  clear hB6 S10 hl5 hd8
  go_wp2_with (first | (refine wpList_load_row rfl 27 _ rfl b6 rfl 27 #[.int .i64 M.sent, .int .i64 M.acked, .slice j1 M.q.length k1, .int .i64 M.got, .slice j2 M.h.length k2] (0, 0) _ T6.var.1 Try.underlying27 rfl Try.sizeLk ?_) | (refine wpList_load_row rfl 27 _ rfl b4 rfl 27 #[.int .i64 M.sent, .int .i64 M.acked, .slice f1 M.q.length g1, .int .i64 M.got, .slice f2 M.h.length g2] (0, 0) _ T4.var.1 Try.underlying27 rfl Try.sizeLk ?_))
  refine (eqlink_any _ _ _ _ M _ (T6.var.row1 (by omega) hzMq) (T6.var.row2 (by omega) hzMh) (T4.var.row1 (by omega) hzMq) (T4.var.row2 (by omega) hzMh)).mono ?_
  rintro e w9 ⟨rfl, hbw9⟩
  replace T4 := T4.below hbw9
  replace V5 := V5.below hbw9
  replace T6 := T6.below hbw9
  have hBw9 := hB8.trans (hbw9.mono hB8.size)
  have hxw9 := (hbw9.block _ (Array.getElem?_eq_some_iff.1 hx).1).trans hx
  have hpw9 := (hbw9.block _ (Array.getElem?_eq_some_iff.1 hp).1).trans hp
  replace hx := hxw9
  replace hp := hpw9
  clear hxw9 hpw9 hbw9 hB8
  go_wp2_with fail
  refine (eqstrs_any _ _ ts _ (T6.row3 (by omega) hzT) (T4.row3 (by omega) hzT)).mono ?_
  rintro e wt ⟨rfl, hbwt⟩
  replace T4 := T4.below hbwt
  replace V5 := V5.below hbwt
  replace T6 := T6.below hbwt
  have hBwt := hBw9.trans (hbwt.mono hBw9.size)
  have hxwt := (hbwt.block _ (Array.getElem?_eq_some_iff.1 hx).1).trans hx
  have hpwt := (hbwt.block _ (Array.getElem?_eq_some_iff.1 hp).1).trans hp
  replace hx := hxwt
  replace hp := hpwt
  clear hxwt hpwt hbwt hBw9
  have q5 := V5.lt
  have e0 : wt.cell? ⟨w.heap.size, 0, none⟩ = some (.int .i64 l.sent) := cell_of_row wt _ 0 _ _ _ hx
  have e1 : wt.cell? ⟨w.heap.size, 1, none⟩ = some (.int .i64 l.acked) := cell_of_row wt _ 1 _ _ _ hx
  have e2 : wt.cell? ⟨w.heap.size, 2, none⟩ = some (.slice a1 l.q.length c1) := cell_of_row wt _ 2 _ _ _ hx
  have e3 : wt.cell? ⟨w.heap.size, 3, none⟩ = some (.int .i64 l.got) := cell_of_row wt _ 3 _ _ _ hx
  have e4 : wt.cell? ⟨w.heap.size, 4, none⟩ = some (.slice a2 l.h.length c2) := cell_of_row wt _ 4 _ _ _ hx
  have k0 : wt.cell? ⟨b5, 0, none⟩ = some (.int .i64 l.sent) := cell_of_row wt _ 0 _ _ _ V5.1
  have k1 : wt.cell? ⟨b5, 1, none⟩ = some (.int .i64 l.acked) := cell_of_row wt _ 1 _ _ _ V5.1
  have k2 : wt.cell? ⟨b5, 2, none⟩ = some (.slice p1 l.q.length q1) := cell_of_row wt _ 2 _ _ _ V5.1
  have k3 : wt.cell? ⟨b5, 3, none⟩ = some (.int .i64 l.got) := cell_of_row wt _ 3 _ _ _ V5.1
  have k4 : wt.cell? ⟨b5, 4, none⟩ = some (.slice p2 l.h.length q2) := cell_of_row wt _ 4 _ _ _ V5.1
  go_wp2_with fail
  go_region_with (first
    | (go_at_call 20; refine (tolink_any _ _ l _ ?_ ?_ ?_ ?_).mono ?_; exact R1.below hBwt.drew; exact R2.below hBwt.drew; omega; omega; rintro e wk ⟨z1, z2, rfl, ok1, ok2, hbk⟩; obtain ⟨r1, t1, rfl⟩ := own_form ok1; obtain ⟨r2, t2, rfl⟩ := own_form ok2; have SK1 := StRow.of_own ok1 (by omega) hzq; have SK2 := PcRow.of_own ok2 (by omega) hzh; have hbk' : Below wt.heap.size wt wk := (Below.refl _ _).drew.trans hbk; have UK1 := (V5.below hbk').row1 (by omega) hzq; have UK2 := (V5.below hbk').row2 (by omega) hzh; have m0 := (hbk'.cell (p := ⟨b5, 0, none⟩) q5).trans k0; have m1 := (hbk'.cell (p := ⟨b5, 1, none⟩) q5).trans k1; have m2 := (hbk'.cell (p := ⟨b5, 2, none⟩) q5).trans k2; have m3 := (hbk'.cell (p := ⟨b5, 3, none⟩) q5).trans k3; have m4 := (hbk'.cell (p := ⟨b5, 4, none⟩) q5).trans k4)
    | (go_at_call 22; refine (eqlink_any _ _ _ _ l _ ?_ ?_ ?_ ?_).mono ?_; exact UK1; exact UK2; exact SK1; exact SK2; rintro e wl ⟨rfl, hbl⟩))
  all_goals
    have h9l : Below wt.heap.size wt wl := hbk'.trans (hbl.mono hbk'.size)
    clear hbk hbk' hbl ok1 ok2 UK1 UK2 SK1 SK2 e0 e1 e2 e3 e4 k0 k1 k2 k3 k4 m0 m1 m2 m3 m4
    replace T4 := T4.below h9l
    replace V5 := V5.below h9l
    replace T6 := T6.below h9l
    replace hx := (h9l.block _ (Array.getElem?_eq_some_iff.1 hx).1).trans hx
    replace hp := (h9l.block _ (Array.getElem?_eq_some_iff.1 hp).1).trans hp
    have hBwl := hBwt.trans (h9l.mono hBwt.size)
    clear hBwt h9l q5
    go_wp2_with (refine wpList_load_row rfl 27 _ rfl b5 rfl 27 #[.int .i64 l.sent, .int .i64 l.acked, .slice p1 l.q.length q1, .int .i64 l.got, .slice p2 l.h.length q2] (0, 0) _ V5.1 Try.underlying27 rfl Try.sizeLk ?_)
    refine (marklink_any b5 w4.heap.size w6.heap.size _ _ l _ V5 (by omega) (by omega)).mono ?_
    rintro e wa ⟨rfl, _, hTa⟩
    replace T4 := TkV.turned hTa T4 (Or.inl (Nat.le_refl _))
    replace T6 := TkV.turned hTa T6 (Or.inr (Nat.le_refl _))
    replace hx := hTa.block hx (by decide) (by decide)
    replace hp := hTa.block hp (by decide) (by decide)
    have hBwa := Turned.belowT hBwl hTa (by omega) hBwl.size
    clear V5 hTa hBwl
    have hk1 : ¬ (1 + (l.q.length : Int) + 2 * (l.h.length : Int)) < 0 := by omega
    have e0 : wa.cell? ⟨b6, 0, none⟩ = some (.int .i64 M.sent) := cell_of_row wa _ 0 _ _ _ T6.var.1
    have e1 : wa.cell? ⟨b6, 1, none⟩ = some (.int .i64 M.acked) := cell_of_row wa _ 1 _ _ _ T6.var.1
    have e2 : wa.cell? ⟨b6, 2, none⟩ = some (.slice j1 M.q.length k1) := cell_of_row wa _ 2 _ _ _ T6.var.1
    have e3 : wa.cell? ⟨b6, 3, none⟩ = some (.int .i64 M.got) := cell_of_row wa _ 3 _ _ _ T6.var.1
    have e4 : wa.cell? ⟨b6, 4, none⟩ = some (.slice j2 M.h.length k2) := cell_of_row wa _ 4 _ _ _ T6.var.1
    have k0 : wa.cell? ⟨b4, 0, none⟩ = some (.int .i64 M.sent) := cell_of_row wa _ 0 _ _ _ T4.var.1
    have k1 : wa.cell? ⟨b4, 1, none⟩ = some (.int .i64 M.acked) := cell_of_row wa _ 1 _ _ _ T4.var.1
    have k2 : wa.cell? ⟨b4, 2, none⟩ = some (.slice f1 M.q.length g1) := cell_of_row wa _ 2 _ _ _ T4.var.1
    have k3 : wa.cell? ⟨b4, 3, none⟩ = some (.int .i64 M.got) := cell_of_row wa _ 3 _ _ _ T4.var.1
    have k4 : wa.cell? ⟨b4, 4, none⟩ = some (.slice f2 M.h.length g2) := cell_of_row wa _ 4 _ _ _ T4.var.1
    go_wp2_with fail
    refine (eqlink_any _ _ _ _ M _ (T6.var.row1 (by omega) hzMq) (T6.var.row2 (by omega) hzMh) (T4.var.row1 (by omega) hzMq) (T4.var.row2 (by omega) hzMh)).mono ?_
    rintro e wb ⟨rfl, hbwb⟩
    replace T4 := T4.below hbwb
    replace T6 := T6.below hbwb
    have hBwb := hBwa.trans (hbwb.mono hBwa.size)
    have hxwb := (hbwb.block _ (Array.getElem?_eq_some_iff.1 hx).1).trans hx
    have hpwb := (hbwb.block _ (Array.getElem?_eq_some_iff.1 hp).1).trans hp
    replace hx := hxwb
    replace hp := hpwb
    clear hxwb hpwb hbwb hBwa
    clear e0 e1 e2 e3 e4 k0 k1 k2 k3 k4
    go_wp2_with fail
    refine (eqstrs_any _ _ ts _ (T6.row3 (by omega) hzT) (T4.row3 (by omega) hzT)).mono ?_
    rintro e wq ⟨rfl, hbwq⟩
    replace T4 := T4.below hbwq
    replace T6 := T6.below hbwq
    have hBwq := hBwb.trans (hbwq.mono hBwb.size)
    have hxwq := (hbwq.block _ (Array.getElem?_eq_some_iff.1 hx).1).trans hx
    have hpwq := (hbwq.block _ (Array.getElem?_eq_some_iff.1 hp).1).trans hp
    replace hx := hxwq
    replace hp := hpwq
    clear hxwq hpwq hbwq hBwb
    go_wp2_with (refine wpList_load_row rfl 27 _ rfl b6 rfl 27 #[.int .i64 M.sent, .int .i64 M.acked, .slice j1 M.q.length k1, .int .i64 M.got, .slice j2 M.h.length k2] (0, 0) _ T6.var.1 Try.underlying27 rfl Try.sizeLk ?_)
    refine (marklink_fine b6 w6.heap.size w8.heap.size _ _ M _ T6.var (by omega) (by omega)).mono ?_
    rintro e wc ⟨rfl, V6', hTc, hfi⟩
    replace T4 := TkV.turned hTc T4 (Or.inl hlo6)
    obtain ⟨o3, V6⟩ := T6.marked V6' hfi
    have hap := T6.apart
    replace hx := hTc.block hx (by decide) (by decide)
    replace hp := hTc.block hp (by decide) (by decide)
    have hBwc := Turned.belowT hBwq hTc (by omega) hBwq.size
    clear hTc hBwq T6 V6' hfi
    have hk2 : ¬ (1 + (M.q.length : Int) + 2 * (M.h.length : Int)) < 0 := by omega
    obtain ⟨kk, hkk⟩ : ∃ kk : Int, kk = 1 + (M.q.length : Int) + 2 * (M.h.length : Int) := ⟨_, rfl⟩
    have hk0 : 0 ≤ kk := by omega
    have hk9 : kk ≤ 2305843009213693952 := by omega
    have hk3 : ¬ kk + (ts.length : Int) < 0 := by omega
    have hk4 : ((kk + (ts.length : Int)) != (kk + (ts.length : Int))) = false := by simp
    have hk5 : ¬ kk < 0 := by omega
    have MS := fun (w : World) (h : SOwn w w6.heap.size (.slice j3 ts.length k3) ts) => markstrs_any _ kk w6.heap.size ts w h (by omega) hk0 hk9
    have HL := fun (w : World) (R1 : StRow w (.slice j1 M.q.length k1) (lmk M).q) (R2 : PcRow w (.slice j2 M.h.length k2) (lmk M).h) => heldlink_any (.slice j1 M.q.length k1) (.slice j2 M.h.length k2) M w R1 R2 (by omega) (by omega)
    rw [← hkk] at HL ⊢
    have HKK : Hid (kk = 1 + (M.q.length : Int) + 2 * (M.h.length : Int)) := hkk
    clear hkk hk2
    have hz1 : ∀ x ∈ (lmk M).q, x.size ≤ maxLen := sm_ok 1 _ (by omega) (by omega)
    have hz2 : ∀ x ∈ (lmk M).h, x.s.size ≤ maxLen := pmarked_ok _ _ (by omega) (by omega)
    have hm1 : (lmk M).q.length ≤ 4194304 := by rw [lmk_q]; omega
    have hm2 : (lmk M).h.length ≤ 4194304 := by rw [lmk_h]; omega
    have hz3 : ∀ t ∈ sm kk ts.length, t.size ≤ maxLen := sm_ok kk _ (by omega) (by omega)
    go_wp2_with fail
    refine (MS _ (SOwn.of_own o3)).mono ?_
    rintro e ws ⟨rfl, S3, hgs⟩
    obtain ⟨g1', g2', g3', g4'⟩ := texts_turned o3 hgs hBwc (by omega)
    replace T4 := g4' _ _ _ _ _ _ _ _ T4 hlo6
    replace V6 := g3' _ _ _ _ _ _ V6 hap
    replace hx := g2' _ _ _ hx (by decide)
    replace hp := g2' _ _ _ hp (by decide)
    have hBws := g1'
    clear g1' g2' g3' g4' hgs hBwc o3 MS
    have hm3 : (sm kk ts.length).length = ts.length := sm_length _ _
    have hV6 : ws.heap[b6]? = some (.cells #[.int .i64 M.sent, .int .i64 M.acked, .slice j1 M.q.length k1, .int .i64 M.got, .slice j2 M.h.length k2] 27 (0, 0)) := V6.1
    go_wp2_with (refine wpList_load_row rfl 27 _ rfl b6 rfl 27 #[.int .i64 M.sent, .int .i64 M.acked, .slice j1 M.q.length k1, .int .i64 M.got, .slice j2 M.h.length k2] (0, 0) _ hV6 Try.underlying27 rfl Try.sizeLk ?_)
    refine (HL _ (V6.row1 hm1 hz1) (V6.row2 hm2 hz2)).mono ?_
    rintro e wd ⟨rfl, hbd⟩
    replace T4 := T4.below hbd
    replace V6 := V6.below hbd
    replace S3 := S3.below hbd
    replace hx := (hbd.block _ (Array.getElem?_eq_some_iff.1 hx).1).trans hx
    replace hp := (hbd.block _ (Array.getElem?_eq_some_iff.1 hp).1).trans hp
    have hBwd := hBws.trans (hbd.mono hBws.size)
    clear hBws hbd hV6
    go_wp2_with fail
    refine (heldstrs_any _ kk ts.length _ (S3.row (by rw [hm3]; omega) hz3) (by omega) hk0 hk9).mono ?_
    rintro e we ⟨rfl, hbe⟩
    replace T4 := T4.below hbe
    replace V6 := V6.below hbe
    replace S3 := S3.below hbe
    replace hx := (hbe.block _ (Array.getElem?_eq_some_iff.1 hx).1).trans hx
    replace hp := (hbe.block _ (Array.getElem?_eq_some_iff.1 hp).1).trans hp
    have hBwe := hBwd.trans (hbe.mono hBwd.size)
    clear hBwd hbe
    go_wp2_with fail
    have S31 := (⟨cell_of_row we _ 0 _ _ _ hx, cell_of_row we _ 1 _ _ _ hx, cell_of_row we _ 2 _ _ _ hx, cell_of_row we _ 3 _ _ _ hx, cell_of_row we _ 4 _ _ _ hx, cell_of_row we _ 0 _ _ _ hp, cell_of_row we _ 1 _ _ _ hp⟩ : we.cell? ⟨w.heap.size, 0, none⟩ = some (.int .i64 l.sent) ∧ we.cell? ⟨w.heap.size, 1, none⟩ = some (.int .i64 l.acked) ∧ we.cell? ⟨w.heap.size, 2, none⟩ = some (.slice a1 l.q.length c1) ∧ we.cell? ⟨w.heap.size, 3, none⟩ = some (.int .i64 l.got) ∧ we.cell? ⟨w.heap.size, 4, none⟩ = some (.slice a2 l.h.length c2) ∧ we.cell? ⟨w.heap.size + 1, 0, none⟩ = some (.int .i64 x.n) ∧ we.cell? ⟨w.heap.size + 1, 1, none⟩ = some (.string x.s))
    refine tk_reg31 w.heap.size (w.heap.size + 1) a1 a2 c1 c2 l x M ts we _ IT (R1.below hBwe) (R2.below hBwe) l1 l2 S31 (Array.getElem?_eq_some_iff.1 hx).1 (Array.getElem?_eq_some_iff.1 hp).1 ?_
    intro u94 u95 u96 u97 u98 u99 u100 u101 y1 y2 y3 b10 wf hb10 T10 hdf
    obtain ⟨r1, s1, rfl⟩ := T10.var.2.1.form
    obtain ⟨r2, s2, rfl⟩ := own_form T10.var.2.2.1
    obtain ⟨r3, s3, rfl⟩ := own_form T10.own
    replace T4 := T4.below hdf
    replace V6 := V6.below hdf
    replace S3 := S3.below hdf
    replace hx := (hdf.block _ (Array.getElem?_eq_some_iff.1 hx).1).trans hx
    replace hp := (hdf.block _ (Array.getElem?_eq_some_iff.1 hp).1).trans hp
    have hBwf := hBwe.trans (hdf.mono hBwe.size)
    clear hBwe S31 hdf IT
    go_wp2_with (first | (refine wpList_load_row rfl 27 _ rfl b10 rfl 27 #[.int .i64 M.sent, .int .i64 M.acked, .slice r1 M.q.length s1, .int .i64 M.got, .slice r2 M.h.length s2] (0, 0) _ T10.var.1 Try.underlying27 rfl Try.sizeLk ?_) | (refine wpList_load_row rfl 27 _ rfl b4 rfl 27 #[.int .i64 M.sent, .int .i64 M.acked, .slice f1 M.q.length g1, .int .i64 M.got, .slice f2 M.h.length g2] (0, 0) _ T4.var.1 Try.underlying27 rfl Try.sizeLk ?_))
    refine (eqlink_any _ _ _ _ M _ (T10.var.row1 (by omega) hzMq) (T10.var.row2 (by omega) hzMh) (T4.var.row1 (by omega) hzMq) (T4.var.row2 (by omega) hzMh)).mono ?_
    rintro e wg ⟨rfl, hbwg⟩
    replace T4 := T4.below hbwg
    replace T10 := T10.below hbwg
    replace V6 := V6.below hbwg
    replace S3 := S3.below hbwg
    have hBwg := hBwf.trans (hbwg.mono hBwf.size)
    have hxwg := (hbwg.block _ (Array.getElem?_eq_some_iff.1 hx).1).trans hx
    have hpwg := (hbwg.block _ (Array.getElem?_eq_some_iff.1 hp).1).trans hp
    replace hx := hxwg
    replace hp := hpwg
    clear hxwg hpwg hbwg hBwf
    go_wp2_with fail
    refine (eqstrs_any _ _ ts _ (T10.row3 (by omega) hzT) (T4.row3 (by omega) hzT)).mono ?_
    rintro e wh ⟨rfl, hbwh⟩
    replace T4 := T4.below hbwh
    replace T10 := T10.below hbwh
    replace V6 := V6.below hbwh
    replace S3 := S3.below hbwh
    have hBwh := hBwg.trans (hbwh.mono hBwg.size)
    have hxwh := (hbwh.block _ (Array.getElem?_eq_some_iff.1 hx).1).trans hx
    have hpwh := (hbwh.block _ (Array.getElem?_eq_some_iff.1 hp).1).trans hp
    replace hx := hxwh
    replace hp := hpwh
    clear hxwh hpwh hbwh hBwg
    have hV6 : wh.heap[b6]? = some (.cells #[.int .i64 M.sent, .int .i64 M.acked, .slice j1 M.q.length k1, .int .i64 M.got, .slice j2 M.h.length k2] 27 (0, 0)) := V6.1
    clear T4 T10 hx hp
    go_wp2_with (refine wpList_load_row rfl 27 _ rfl b6 rfl 27 #[.int .i64 M.sent, .int .i64 M.acked, .slice j1 M.q.length k1, .int .i64 M.got, .slice j2 M.h.length k2] (0, 0) _ hV6 Try.underlying27 rfl Try.sizeLk ?_)
    refine (HL _ (V6.row1 hm1 hz1) (V6.row2 hm2 hz2)).mono ?_
    rintro e wi ⟨rfl, hbi⟩
    replace S3 := S3.below hbi
    have hBwi := hBwh.trans (hbi.mono hBwh.size)
    clear hbi hBwh hV6 V6
    go_wp2_with fail
    refine (heldstrs_any _ kk ts.length _ (S3.row (by rw [hm3]; omega) hz3) (by omega) hk0 hk9).mono ?_
    rintro e wj ⟨rfl, hbj⟩
    have hBwj := hBwi.trans (hbj.mono hBwi.size)
    clear hbj hBwi S3
    go_wp2
    go_ret
    exact ⟨rfl, hBwj⟩
end Go.Proofs.Ytdmnpaoceimcdaa
