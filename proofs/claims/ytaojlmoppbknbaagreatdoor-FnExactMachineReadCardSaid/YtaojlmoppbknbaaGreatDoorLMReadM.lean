/-
  The law FnExactMachineRead, walked: at every argument the law returns true.
-/
import Derived.Test.YtaojlmoppbknbaaGreatDoorMark2M
import Derived.Test.YtaojlmoppbknbaaGreatDoorMarkCM
import Derived.Deep.RegionHeld
namespace Go.Proofs.YtaojlmoppbknbaaGreatDoor
open Go.RowKit

theorem mr_small (ns : List Nd) (is : List In) (ds : List Df) (s : ByteArray) : (mrL (mrR ns is ds (sb s))).length ≤ 3000 ∧ ∀ y ∈ mrL (mrR ns is ds (sb s)), y.s.size ≤ maxLen := by
  cases h : mrR ns is ds (sb s) with
  | none => simp [mrL]
  | some p =>
    unfold mrR at h
    rw [Option.bind_eq_some_iff] at h
    obtain ⟨q, h1, h2⟩ := h
    rw [Option.bind_eq_some_iff] at h2
    obtain ⟨r, h3, h4⟩ := h2
    split at h4
    · cases h4
      have hp := (rdP_lies (xs := r.1) (b := r.2) (sb_wf s) h3).1
      exact ⟨poolB_len hp, ndok_max (pool_ndok hp)⟩
    · cases h4

set_option maxRecDepth 100000 in
set_option maxHeartbeats 6400000 in
theorem lmread_any (v1 v2 v3 : Value) (ns : List Nd) (is : List In) (ds : List Df) (s : ByteArray) (w : World) (R1 : NRow w v1 ns) (R2 : InRow w v2 is) (R3 : DfRow w v3 ds) (hs : s.size ≤ maxLen) (hE : ErrT w) :
    Calls Tryz.prog 3 #[.agg #[v1, v2, v3], .string s] w fun e w' => e = .returned (.bool true) ∧ Below w.heap.size w w' := by
  unfold maxLen at hs
  obtain ⟨a1, c1, rfl⟩ := R1.small
  obtain ⟨a2, c2, rfl⟩ := R2.small
  obtain ⟨a3, c3, rfl⟩ := R3.small
  have hB0 : Below w.heap.size w (w.alloc (Obj.cells #[.slice a1 ns.length c1, .slice a2 is.length c2, .slice a3 ds.length c3] 28)) := (Below.refl _ _).alloc (Nat.le_refl _) _
  by_cases hb : 1048576 < s.size
  · go_enter Tryz.func3, Tryz.ntmps3
    go_wp2
    go_ret
    exact ⟨rfl, hB0⟩
  go_enter Tryz.func3, Tryz.ntmps3
  go_wp2_with fail
  refine (szcode_any _ _ _ ns is ds _ (R1.below hB0) (R2.below hB0) (R3.below hB0)).mono ?_
  rintro e w1 ⟨r, rfl, hr0, hr1, hr2, hb1⟩
  have hx1 : w1.heap[w.heap.size]? = some (.cells #[.slice a1 ns.length c1, .slice a2 is.length c2, .slice a3 ds.length c3] 28 (0, 0)) := (hb1.block _ (by simp)).trans (heap_alloc_new _ _)
  have hB1 := hB0.trans (hb1.mono hB0.size)
  clear hB0 hb1
  by_cases hr : r < 0
  · go_wp2
    go_ret
    exact ⟨rfl, hB1⟩
  obtain ⟨l1, l2, l3⟩ := hr2 (by omega)
  clear hr2
  obtain ⟨hlL, hzL⟩ := mr_small ns is ds s
  have IT : ∀ (x1 x2 x3 : Value) (W : World), Below w.heap.size w W → NRow W x1 ns → InRow W x2 is → DfRow W x3 ds → Calls Tryz.prog 7 #[.agg #[x1, x2, x3], .string s] W fun e w' => ∃ v', e = .returned (.tuple #[.agg #[v', .int .i64 (mrM (mrR ns is ds (sb s))).p, .int .i64 (mrM (mrR ns is ds (sb s))).s, .int .i64 (mrM (mrR ns is ds (sb s))).e, .int .i64 (mrM (mrR ns is ds (sb s))).d, .int .i64 (mrM (mrR ns is ds (sb s))).t, .int .i64 (mrM (mrR ns is ds (sb s))).q, .int .i64 (mrM (mrR ns is ds (sb s))).r], .bool (mrR ns is ds (sb s)).isSome]) ∧ w'.ownsRow W.heap.size 86 5 v' (mrL (mrR ns is ds (sb s))).length (ncs (mrL (mrR ns is ds (sb s)))) ∧ Below W.heap.size W w' := fun x1 x2 x3 W hbW S1 S2 S3 => (imread_any x1 x2 x3 ns is ds s W S1 S2 S3 (by omega) (hE.below hbW (Nat.le_refl _))).mono (by rintro e w' ⟨⟨v', q1, q2⟩, q3⟩; exact ⟨v', q1, q2, q3⟩)
  have ST : ∀ (x1 x2 x3 : Value) (W : World), NRow W x1 ns → InRow W x2 is → DfRow W x3 ds → Calls Tryz.prog 5 #[.agg #[x1, x2, x3], .string s] W fun e w' => ∃ v', e = .returned (.tuple #[.agg #[v', .int .i64 (mrM (mrR ns is ds (sb s))).p, .int .i64 (mrM (mrR ns is ds (sb s))).s, .int .i64 (mrM (mrR ns is ds (sb s))).e, .int .i64 (mrM (mrR ns is ds (sb s))).d, .int .i64 (mrM (mrR ns is ds (sb s))).t, .int .i64 (mrM (mrR ns is ds (sb s))).q, .int .i64 (mrM (mrR ns is ds (sb s))).r], .bool (mrR ns is ds (sb s)).isSome]) ∧ w'.ownsRow W.heap.size 86 5 v' (mrL (mrR ns is ds (sb s))).length (ncs (mrL (mrR ns is ds (sb s)))) ∧ Below W.heap.size W w' := fun x1 x2 x3 W S1 S2 S3 => (smread_any x1 x2 x3 ns is ds s W S1 S2 S3 (by omega)).mono (by rintro e w' ⟨⟨v', q1, q2⟩, q3⟩; exact ⟨v', q1, q2, q3⟩)
  clear hE
  generalize mrL (mrR ns is ds (sb s)) = Q at *
  generalize mrM (mrR ns is ds (sb s)) = M at *
  generalize (mrR ns is ds (sb s)).isSome = bb at *
  have hlL' : Q.length ≤ 4194304 := by omega
  have hlm := nmarked_length 1 Q _ (Nat.le_refl _)
  have e0 : w1.cell? ⟨w.heap.size, 0, none⟩ = some (.slice a1 ns.length c1) := cell_of_row w1 _ 0 _ _ _ hx1
  have e1 : w1.cell? ⟨w.heap.size, 0 + 1, none⟩ = some (.slice a2 is.length c2) := cell_of_row w1 _ 1 _ _ _ hx1
  have e2 : w1.cell? ⟨w.heap.size, 0 + 2, none⟩ = some (.slice a3 ds.length c3) := cell_of_row w1 _ 2 _ _ _ hx1
  go_wp2_with fail
  refine (tocode_any _ _ _ ns is ds _ (R1.below hB1) (R2.below hB1) (R3.below hB1) (by omega) (by omega) (by omega)).mono ?_
  rintro e w2 ⟨u1, u2, u3, rfl, S1, S2, S3, hb2⟩
  obtain ⟨b1, d1, rfl⟩ := S1.small
  obtain ⟨b2, d2, rfl⟩ := S2.small
  obtain ⟨b3, d3, rfl⟩ := S3.small
  have hB2 := hB1.trans (hb2.mono hB1.size)
  have hx2 := (hb2.block _ (Array.getElem?_eq_some_iff.1 hx1).1).trans hx1
  clear e0 e1 e2 hB1 hx1 hb2
  go_wp2_with fail
  refine (ST _ _ _ _ S1 S2 S3).mono ?_
  rintro e w3 ⟨v3, rfl, ho3, hb3⟩
  obtain ⟨ao3, cap3, rfl⟩ := own_form ho3
  have hB3 := hB2.trans (hb3.mono hB2.size)
  have hx3 := (hb3.block _ (Array.getElem?_eq_some_iff.1 hx2).1).trans hx2
  clear S1 S2 S3 hB2 hx2 hb3
  go_wp2_with (refine wpList_store_own rfl 34 _ _ rfl w3.heap.size #[.slice ao3 Q.length cap3, .int .i64 M.p, .int .i64 M.s, .int .i64 M.e, .int .i64 M.d, .int .i64 M.t, .int .i64 M.q, .int .i64 M.r] rfl rfl 34 _ (heap_alloc_new _ _) Tryz.sizeMach rfl (by simp [Value.oneCell']) ?_)
  intro w4 hnw4 hbw4 hsw4
  have hdw4 : Below w3.heap.size w3 w4 := ((Below.refl _ _).alloc (Nat.le_refl _) _).trans hbw4
  have V4 := VarM.new ho3 hdw4 hnw4
  have hBw4 := hB3.trans (hdw4.mono hB3.size)
  have hxw4 := (hdw4.block _ (Array.getElem?_eq_some_iff.1 hx3).1).trans hx3
  clear hB3 hx3 ho3 hnw4 hbw4 hsw4 hdw4
  have hlo4 : w.heap.size < w4.heap.size := (Array.getElem?_eq_some_iff.1 hxw4).1
  generalize w3.heap.size = b4 at *
  generalize w2.heap.size = lo4 at *
  have e0 : w4.cell? ⟨w.heap.size, 0, none⟩ = some (.slice a1 ns.length c1) := cell_of_row w4 _ 0 _ _ _ hxw4
  have e1 : w4.cell? ⟨w.heap.size, 0 + 1, none⟩ = some (.slice a2 is.length c2) := cell_of_row w4 _ 1 _ _ _ hxw4
  have e2 : w4.cell? ⟨w.heap.size, 0 + 2, none⟩ = some (.slice a3 ds.length c3) := cell_of_row w4 _ 2 _ _ _ hxw4
  go_wp2_with fail
  refine (tocode_own _ _ _ ns is ds _ (R1.below hBw4) (R2.below hBw4) (R3.below hBw4) (by omega) (by omega) (by omega)).mono ?_
  rintro e w5 ⟨u1, u2, u3, rfl, o1, o2, o3, hb5⟩
  obtain ⟨b1, d1, rfl⟩ := own_form o1
  obtain ⟨b2, d2, rfl⟩ := own_form o2
  obtain ⟨b3, d3, rfl⟩ := own_form o3
  have hB5 := hBw4.trans (hb5.mono hBw4.size)
  have hx5 := (hb5.block _ (Array.getElem?_eq_some_iff.1 hxw4).1).trans hxw4
  have hlt4 := V4.lt
  replace V4 := V4.below hb5
  have hlo5 : w4.heap.size ≤ w5.heap.size := hb5.size
  clear e0 e1 e2 hBw4 hxw4 hb5
  go_wp2_with fail
  have hBa : Below w5.heap.size w5 (w5.alloc (Obj.cells #[.slice b1 ns.length d1, .slice b2 is.length d2, .slice b3 ds.length d3] 40)) := (Below.refl _ _).alloc (Nat.le_refl _) _
  have p1 := own_below o1 hBa
  have p2 := own_below o2 hBa
  have p3 := own_below o3 hBa
  refine (IT _ _ _ _ (hB5.trans (hBa.mono hB5.size)) (NRow.of_own p1 (by omega) R1.sz) (InRow.of_own p2 (by omega) R2.sz) (DfRow.of_own p3 (by omega) R3.sz)).mono ?_
  rintro e w7 ⟨v7, rfl, ho7, hb7⟩
  obtain ⟨ao7, cap7, rfl⟩ := own_form ho7
  have hB57 := hBa.trans (hb7.mono hBa.size)
  have hy7 : w7.heap[w5.heap.size]? = some (.cells #[.slice b1 ns.length d1, .slice b2 is.length d2, .slice b3 ds.length d3] 40 (0, 0)) := (hb7.block _ (by simp)).trans (heap_alloc_new _ _)
  have hB7 := hB5.trans (hB57.mono hB5.size)
  have hx7 := (hB57.block _ (Array.getElem?_eq_some_iff.1 hx5).1).trans hx5
  replace V4 := V4.below hB57
  have q1 : w7.ownsRow w4.heap.size 86 5 (.slice b1 ns.length d1) ns.length (ncs ns) := own_below o1 hB57
  have q2 : w7.ownsRow w4.heap.size 96 4 (.slice b2 is.length d2) is.length (incs is) := own_below o2 hB57
  have q3 : w7.ownsRow w4.heap.size 98 3 (.slice b3 ds.length d3) ds.length (dfcs ds) := own_below o3 hB57
  have t1 : ∀ k, (Value.slice b1 ns.length d1).ownBlock = some k → w4.heap.size ≤ k ∧ k < w5.heap.size := fun k hk => o1.lt k hk
  have t2 : ∀ k, (Value.slice b2 is.length d2).ownBlock = some k → w4.heap.size ≤ k ∧ k < w5.heap.size := fun k hk => o2.lt k hk
  have t3 : ∀ k, (Value.slice b3 ds.length d3).ownBlock = some k → w4.heap.size ≤ k ∧ k < w5.heap.size := fun k hk => o3.lt k hk
  replace ho7 : w7.ownsRow (w5.heap.size + 1) 86 5 (.slice ao7 Q.length cap7) Q.length (ncs Q) := by simpa using ho7
  have hs57 : w5.heap.size < w7.heap.size := (Array.getElem?_eq_some_iff.1 hy7).1
  clear o1 o2 o3 p1 p2 p3 hBa hb7 hB57 hB5 hx5
  go_wp2_with (refine wpList_store_own rfl 34 _ _ rfl w7.heap.size #[.slice ao7 Q.length cap7, .int .i64 M.p, .int .i64 M.s, .int .i64 M.e, .int .i64 M.d, .int .i64 M.t, .int .i64 M.q, .int .i64 M.r] rfl rfl 34 _ (heap_alloc_new _ _) Tryz.sizeMach rfl (by simp [Value.oneCell']) ?_)
  intro w8 hnw8 hbw8 hsw8
  have hdw8 : Below w7.heap.size w7 w8 := ((Below.refl _ _).alloc (Nat.le_refl _) _).trans hbw8
  have V6 := VarM.new ho7 hdw8 hnw8
  replace V4 := V4.below hdw8
  replace q1 := own_below q1 hdw8
  replace q2 := own_below q2 hdw8
  replace q3 := own_below q3 hdw8
  have hBw8 := hB7.trans (hdw8.mono hB7.size)
  have hxw8 := (hdw8.block _ (Array.getElem?_eq_some_iff.1 hx7).1).trans hx7
  have hyw8 := (hdw8.block _ (Array.getElem?_eq_some_iff.1 hy7).1).trans hy7
  clear hB7 hx7 hy7 ho7 hnw8 hbw8 hsw8 hdw8
  generalize w7.heap.size = b6 at *
  go_wp2_with (first | (refine wpList_load_row rfl 34 _ rfl b6 rfl 34 #[.slice ao7 Q.length cap7, .int .i64 M.p, .int .i64 M.s, .int .i64 M.e, .int .i64 M.d, .int .i64 M.t, .int .i64 M.q, .int .i64 M.r] (0, 0) _ V6.1 Tryz.underlying34 rfl Tryz.sizeMach ?_) | (refine wpList_load_row rfl 34 _ rfl b4 rfl 34 #[.slice ao3 Q.length cap3, .int .i64 M.p, .int .i64 M.s, .int .i64 M.e, .int .i64 M.d, .int .i64 M.t, .int .i64 M.q, .int .i64 M.r] (0, 0) _ V4.1 Tryz.underlying34 rfl Tryz.sizeMach ?_))
  refine (eqmach_any _ _ Q M _ (V6.row hlL' hzL) (V4.row hlL' hzL)).mono ?_
  rintro e w9 ⟨rfl, hb9⟩
  replace V4 := V4.below hb9
  replace V6 := V6.below hb9
  replace q1 := own_below q1 hb9
  replace q2 := own_below q2 hb9
  replace q3 := own_below q3 hb9
  have hBw9 := hBw8.trans (hb9.mono hBw8.size)
  have hxw9 := (hb9.block _ (Array.getElem?_eq_some_iff.1 hxw8).1).trans hxw8
  have hyw9 := (hb9.block _ (Array.getElem?_eq_some_iff.1 hyw8).1).trans hyw8
  clear hBw8 hxw8 hyw8 hb9
  have hsy := (Array.getElem?_eq_some_iff.1 hyw9).1
  have T1 := NRow.of_own q1 (by omega) R1.sz
  have T2 := InRow.of_own q2 (by omega) R2.sz
  have T3 := DfRow.of_own q3 (by omega) R3.sz
  have e0 : w9.cell? ⟨w.heap.size, 0, none⟩ = some (.slice a1 ns.length c1) := cell_of_row w9 _ 0 _ _ _ hxw9
  have e1 : w9.cell? ⟨w.heap.size, 0 + 1, none⟩ = some (.slice a2 is.length c2) := cell_of_row w9 _ 1 _ _ _ hxw9
  have e2 : w9.cell? ⟨w.heap.size, 0 + 2, none⟩ = some (.slice a3 ds.length c3) := cell_of_row w9 _ 2 _ _ _ hxw9
  have k0 : w9.cell? ⟨w5.heap.size, 0, none⟩ = some (.slice b1 ns.length d1) := cell_of_row w9 _ 0 _ _ _ hyw9
  have k1 : w9.cell? ⟨w5.heap.size, 0 + 1, none⟩ = some (.slice b2 is.length d2) := cell_of_row w9 _ 1 _ _ _ hyw9
  have k2 : w9.cell? ⟨w5.heap.size, 0 + 2, none⟩ = some (.slice b3 ds.length d3) := cell_of_row w9 _ 2 _ _ _ hyw9
  go_wp2_with fail
  go_region_with (first
    | (go_at_call 6; refine (tocode_any _ _ _ ns is ds _ ?_ ?_ ?_ ?_ ?_ ?_).mono ?_; exact R1.below hBw9.drew; exact R2.below hBw9.drew; exact R3.below hBw9.drew; omega; omega; omega; rintro e wk ⟨y1, y2, y3, rfl, P1, P2, P3, hbk⟩; obtain ⟨f1, g1, rfl⟩ := P1.small; obtain ⟨f2, g2, rfl⟩ := P2.small; obtain ⟨f3, g3, rfl⟩ := P3.small; have hbk' : Below w9.heap.size w9 wk := stepD8 hbk; have U1 := T1.below hbk'; have U2 := T2.below hbk'; have U3 := T3.below hbk'; have m0 := (hbk'.cell (p := ⟨w5.heap.size, 0, none⟩) hsy).trans k0; have m1 := (hbk'.cell (p := ⟨w5.heap.size, 0 + 1, none⟩) hsy).trans k1; have m2 := (hbk'.cell (p := ⟨w5.heap.size, 0 + 2, none⟩) hsy).trans k2)
    | (go_at_call 9; refine (eqcode_any _ _ _ _ _ _ ns is ds _ ?_ ?_ ?_ ?_ ?_ ?_).mono ?_; exact U1; exact U2; exact U3; exact P1; exact P2; exact P3; rintro e wl ⟨rfl, hbl⟩))
  all_goals
    have h9l : Below w9.heap.size w9 wl := hbk'.trans (hbl.mono hbk'.size)
    clear hbk hbk' hbl m0 m1 m2 U1 U2 U3 P1 P2 P3 e0 e1 e2 k0 k1 k2 T1 T2 T3
    replace V4 := V4.below h9l
    replace V6 := V6.below h9l
    replace q1 := own_below q1 h9l
    replace q2 := own_below q2 h9l
    replace q3 := own_below q3 h9l
    have hBwl := hBw9.trans (h9l.mono hBw9.size)
    have hxwl := (h9l.block _ (Array.getElem?_eq_some_iff.1 hxw9).1).trans hxw9
    have hywl := (h9l.block _ (Array.getElem?_eq_some_iff.1 hyw9).1).trans hyw9
    clear hBw9 hxw9 hyw9 h9l hsy
    have k0 : wl.cell? ⟨w5.heap.size, 0, none⟩ = some (.slice b1 ns.length d1) := cell_of_row wl _ 0 _ _ _ hywl
    have k1 : wl.cell? ⟨w5.heap.size, 0 + 1, none⟩ = some (.slice b2 is.length d2) := cell_of_row wl _ 1 _ _ _ hywl
    have k2 : wl.cell? ⟨w5.heap.size, 0 + 2, none⟩ = some (.slice b3 ds.length d3) := cell_of_row wl _ 2 _ _ _ hywl
    go_wp2_with fail
    refine (markcode_any _ _ _ 1 w4.heap.size ns is ds _ q1 q2 q3 (by omega) (by omega) (by omega) (by omega) (by omega)).mono ?_
    rintro e wa ⟨⟨rk, rfl, hrk0, hrk1⟩, wx, wy, gx, gy, gz⟩
    clear k0 k1 k2
    have j4 : ∀ k, w4.heap.size ≤ k ∧ k < w5.heap.size → k ≠ b4 ∧ (k < lo4 ∨ w4.heap.size ≤ k) := fun k hk => ⟨by omega, Or.inr hk.1⟩
    have j6 : ∀ k, w4.heap.size ≤ k ∧ k < w5.heap.size → k ≠ b6 ∧ (k < w5.heap.size + 1 ∨ w8.heap.size ≤ k) := fun k hk => ⟨by omega, Or.inl (by omega)⟩
    replace V4 := ((V4.keptBy gx (fun k hk => j4 k (t1 k hk))).keptBy gy (fun k hk => j4 k (t2 k hk))).keptBy gz (fun k hk => j4 k (t3 k hk))
    replace V6 := ((V6.keptBy gx (fun k hk => j6 k (t1 k hk))).keptBy gy (fun k hk => j6 k (t2 k hk))).keptBy gz (fun k hk => j6 k (t3 k hk))
    have hBx := hBwl.grown gx hBwl.size (fun k hk => by have := t1 k hk; omega)
    have hBy := hBx.grown gy hBx.size (fun k hk => by have := t2 k hk; omega)
    have hBwa := hBy.grown gz hBy.size (fun k hk => by have := t3 k hk; omega)
    have nx : ∀ o : Option Nat, (∀ k, o = some k → w4.heap.size ≤ k ∧ k < w5.heap.size) → o ≠ some w.heap.size := fun o ho e => by have := ho _ e; omega
    have hxx := (gx.block _ (Array.getElem?_eq_some_iff.1 hxwl).1 (fun e => nx _ t1 e.symm)).trans hxwl
    have hxy := (gy.block _ (Array.getElem?_eq_some_iff.1 hxx).1 (fun e => nx _ t2 e.symm)).trans hxx
    have hxwa := (gz.block _ (Array.getElem?_eq_some_iff.1 hxy).1 (fun e => nx _ t3 e.symm)).trans hxy
    clear hxwl hxx hxy hywl hBwl hBx hBy gx gy gz q1 q2 q3 nx
    have hk1 : ¬ rk < 0 := by omega
    have e0 : wa.cell? ⟨b6, 0, none⟩ = some (.slice ao7 Q.length cap7) := cell_of_row wa _ 0 _ _ _ V6.1
    have k0 : wa.cell? ⟨b4, 0, none⟩ = some (.slice ao3 Q.length cap3) := cell_of_row wa _ 0 _ _ _ V4.1
    have e1 : wa.cell? ⟨b6, 1, none⟩ = some (.int .i64 M.p) := cell_of_row wa _ 1 _ _ _ V6.1
    have k1 : wa.cell? ⟨b4, 1, none⟩ = some (.int .i64 M.p) := cell_of_row wa _ 1 _ _ _ V4.1
    have e2 : wa.cell? ⟨b6, 2, none⟩ = some (.int .i64 M.s) := cell_of_row wa _ 2 _ _ _ V6.1
    have k2 : wa.cell? ⟨b4, 2, none⟩ = some (.int .i64 M.s) := cell_of_row wa _ 2 _ _ _ V4.1
    have e3 : wa.cell? ⟨b6, 3, none⟩ = some (.int .i64 M.e) := cell_of_row wa _ 3 _ _ _ V6.1
    have k3 : wa.cell? ⟨b4, 3, none⟩ = some (.int .i64 M.e) := cell_of_row wa _ 3 _ _ _ V4.1
    have e4 : wa.cell? ⟨b6, 4, none⟩ = some (.int .i64 M.d) := cell_of_row wa _ 4 _ _ _ V6.1
    have k4 : wa.cell? ⟨b4, 4, none⟩ = some (.int .i64 M.d) := cell_of_row wa _ 4 _ _ _ V4.1
    have e5 : wa.cell? ⟨b6, 5, none⟩ = some (.int .i64 M.t) := cell_of_row wa _ 5 _ _ _ V6.1
    have k5 : wa.cell? ⟨b4, 5, none⟩ = some (.int .i64 M.t) := cell_of_row wa _ 5 _ _ _ V4.1
    have e6 : wa.cell? ⟨b6, 6, none⟩ = some (.int .i64 M.q) := cell_of_row wa _ 6 _ _ _ V6.1
    have k6 : wa.cell? ⟨b4, 6, none⟩ = some (.int .i64 M.q) := cell_of_row wa _ 6 _ _ _ V4.1
    have e7 : wa.cell? ⟨b6, 7, none⟩ = some (.int .i64 M.r) := cell_of_row wa _ 7 _ _ _ V6.1
    have k7 : wa.cell? ⟨b4, 7, none⟩ = some (.int .i64 M.r) := cell_of_row wa _ 7 _ _ _ V4.1
    go_wp2_with fail
    refine (eqmach_any _ _ Q M _ (V6.row hlL' hzL) (V4.row hlL' hzL)).mono ?_
    rintro e wb ⟨rfl, hbb⟩
    clear e0 k0 e1 k1 e2 k2 e3 k3 e4 k4 e5 k5 e6 k6 e7 k7
    replace V4 := V4.below hbb
    replace V6 := V6.below hbb
    have hBwb := hBwa.trans (hbb.mono hBwa.size)
    have hxwb := (hbb.block _ (Array.getElem?_eq_some_iff.1 hxwa).1).trans hxwa
    clear hBwa hxwa hbb
    go_wp2_with (refine wpList_load_row rfl 34 _ rfl b6 rfl 34 #[.slice ao7 Q.length cap7, .int .i64 M.p, .int .i64 M.s, .int .i64 M.e, .int .i64 M.d, .int .i64 M.t, .int .i64 M.q, .int .i64 M.r] (0, 0) _ V6.1 Tryz.underlying34 rfl Tryz.sizeMach ?_)
    refine (markmach_any _ 1 (w5.heap.size + 1) Q M _ V6.2.1 hlL' (by omega) (by omega)).mono ?_
    rintro e wc ⟨rfl, hoc, hgc⟩
    replace V4 := V4.kept V6 hgc (Or.inl (by omega))
    have hxwc := V6.block hgc hxwb (by decide)
    have hBwc := below_markM hBwb V6 hgc (by omega) hBwb.size
    have V6 := V6.marked (ys := nmarked 1 Q Q.length) hgc (by rw [hlm]; exact hoc)
    clear hgc hoc hxwb hBwb
    have hzM := nmarked_ok 1 Q (by omega) hlL'
    have hk2 : ¬ (1 + 5 * (Q.length : Int)) < 0 := by omega
    go_wp2_with (refine wpList_load_row rfl 34 _ rfl b6 rfl 34 #[.slice ao7 Q.length cap7, .int .i64 M.p, .int .i64 M.s, .int .i64 M.e, .int .i64 M.d, .int .i64 M.t, .int .i64 M.q, .int .i64 M.r] (0, 0) _ V6.1 Tryz.underlying34 rfl Tryz.sizeMach ?_)
    refine (heldmach_any _ 1 Q M _ (V6.row (by omega) hzM) hlL' (by omega) (by omega)).mono ?_
    rintro e wd ⟨rfl, hbd⟩
    replace V4 := V4.below hbd
    replace V6 := V6.below hbd
    have hBwd := hBwc.trans (hbd.mono hBwc.size)
    have hxwd := (hbd.block _ (Array.getElem?_eq_some_iff.1 hxwc).1).trans hxwc
    clear hBwc hxwc hbd
    have e0 : wd.cell? ⟨w.heap.size, 0, none⟩ = some (.slice a1 ns.length c1) := cell_of_row wd _ 0 _ _ _ hxwd
    have e1 : wd.cell? ⟨w.heap.size, 0 + 1, none⟩ = some (.slice a2 is.length c2) := cell_of_row wd _ 1 _ _ _ hxwd
    have e2 : wd.cell? ⟨w.heap.size, 0 + 2, none⟩ = some (.slice a3 ds.length c3) := cell_of_row wd _ 2 _ _ _ hxwd
    go_wp2_with fail
    refine (tocode_any _ _ _ ns is ds _ (R1.below hBwd) (R2.below hBwd) (R3.below hBwd) (by omega) (by omega) (by omega)).mono ?_
    rintro e we ⟨u1, u2, u3, rfl, S1, S2, S3, hb9⟩
    obtain ⟨f1, g1, rfl⟩ := S1.small
    obtain ⟨f2, g2, rfl⟩ := S2.small
    obtain ⟨f3, g3, rfl⟩ := S3.small
    replace V4 := V4.below hb9
    replace V6 := V6.below hb9
    have hBwe := hBwd.trans (hb9.mono hBwd.size)
    clear e0 e1 e2 hBwd hxwd hb9
    go_wp2_with fail
    refine (IT _ _ _ _ hBwe S1 S2 S3).mono ?_
    rintro e wf ⟨v10, rfl, ho10, hb10⟩
    obtain ⟨ao10, cap10, rfl⟩ := own_form ho10
    clear S1 S2 S3
    replace V4 := V4.below hb10
    replace V6 := V6.below hb10
    have hBwf := hBwe.trans (hb10.mono hBwe.size)
    clear hBwe hb10
    go_wp2_with (refine wpList_store_own rfl 34 _ _ rfl wf.heap.size #[.slice ao10 Q.length cap10, .int .i64 M.p, .int .i64 M.s, .int .i64 M.e, .int .i64 M.d, .int .i64 M.t, .int .i64 M.q, .int .i64 M.r] rfl rfl 34 _ (heap_alloc_new _ _) Tryz.sizeMach rfl (by simp [Value.oneCell']) ?_)
    intro wg hnwg hbwg hswg
    have hdwg : Below wf.heap.size wf wg := ((Below.refl _ _).alloc (Nat.le_refl _) _).trans hbwg
    have V10 := VarM.new ho10 hdwg hnwg
    replace V4 := V4.below hdwg
    replace V6 := V6.below hdwg
    have hBwg := hBwf.trans (hdwg.mono hBwf.size)
    clear hBwf ho10 hnwg hbwg hswg hdwg
    generalize wf.heap.size = b10 at *
    go_wp2_with (first | (refine wpList_load_row rfl 34 _ rfl b10 rfl 34 #[.slice ao10 Q.length cap10, .int .i64 M.p, .int .i64 M.s, .int .i64 M.e, .int .i64 M.d, .int .i64 M.t, .int .i64 M.q, .int .i64 M.r] (0, 0) _ V10.1 Tryz.underlying34 rfl Tryz.sizeMach ?_) | (refine wpList_load_row rfl 34 _ rfl b4 rfl 34 #[.slice ao3 Q.length cap3, .int .i64 M.p, .int .i64 M.s, .int .i64 M.e, .int .i64 M.d, .int .i64 M.t, .int .i64 M.q, .int .i64 M.r] (0, 0) _ V4.1 Tryz.underlying34 rfl Tryz.sizeMach ?_))
    refine (eqmach_any _ _ Q M _ (V10.row hlL' hzL) (V4.row hlL' hzL)).mono ?_
    rintro e wh ⟨rfl, hbh⟩
    replace V6 := V6.below hbh
    have hBwh := hBwg.trans (hbh.mono hBwg.size)
    clear hBwg hbh
    go_wp2_with (refine wpList_load_row rfl 34 _ rfl b6 rfl 34 #[.slice ao7 Q.length cap7, .int .i64 M.p, .int .i64 M.s, .int .i64 M.e, .int .i64 M.d, .int .i64 M.t, .int .i64 M.q, .int .i64 M.r] (0, 0) _ V6.1 Tryz.underlying34 rfl Tryz.sizeMach ?_)
    refine (heldmach_any _ 1 Q M _ (V6.row (by omega) hzM) hlL' (by omega) (by omega)).mono ?_
    rintro e wi ⟨rfl, hbi⟩
    have hBwi := hBwh.trans (hbi.mono hBwh.size)
    clear V6 V4 V10 hbi hBwh
    go_wp2
    go_ret
    exact ⟨rfl, hBwi⟩
end Go.Proofs.YtaojlmoppbknbaaGreatDoor
