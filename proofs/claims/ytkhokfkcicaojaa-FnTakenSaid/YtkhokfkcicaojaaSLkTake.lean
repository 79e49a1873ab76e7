/-
  Contract of spec's LinkTake. No condition.
-/
import Derived.Test.YtkhokfkcicaojaaS10Hold
namespace Go.Proofs.Ytkhokfkcicaojaa
open Go.RowKit

theorem four_bx (w : World) (A X Z E : Obj) : Below w.heap.size w ((((w.alloc A).alloc X).alloc Z).alloc E) ∧ ((((w.alloc A).alloc X).alloc Z).alloc E).heap[w.heap.size]? = some A ∧ ((((w.alloc A).alloc X).alloc Z).alloc E).heap[w.heap.size + 1]? = some X ∧ ((((w.alloc A).alloc X).alloc Z).alloc E).heap[w.heap.size + 2]? = some Z :=
  ⟨((((Below.refl _ _).alloc (Nat.le_refl _) _).alloc (by simp) _).alloc (by simp; omega) _).alloc (by simp; omega) _,
   (heap_alloc_old _ _ (by simp; omega)).trans ((heap_alloc_old _ _ (by simp; omega)).trans ((heap_alloc_old _ _ (by simp)).trans (heap_alloc_new _ _))),
   (heap_alloc_old _ _ (by simp)).trans ((heap_alloc_old _ _ (by simp)).trans (heap_alloc2_new _ _ _)),
   (heap_alloc_old _ _ (by simp)).trans (heap_alloc3_new _ _ _ _)⟩

/-- How many are held, by the box at n. -/
def lenAt (w : World) (n : Nat) : Nat := match w.cell? ⟨n, 4, none⟩ with | some (.slice _ k _) => k | _ => 0
theorem lenAt_of {w : World} {n : Nat} {a : Option Addr} {k c : Nat} (h : w.cell? ⟨n, 4, none⟩ = some (.slice a k c)) : lenAt w n = k := by unfold lenAt; rw [h]
theorem upGo_yes {g : Int} {y : Pc} {ys : List Pc} (h : y.n = g) : upGo g (y :: ys) = (y.s :: (upGo (g + 1) ys).1, (upGo (g + 1) ys).2.1, (upGo (g + 1) ys).2.2) := by simp only [upGo, if_pos h]
theorem upGo_no {g : Int} {y : Pc} {ys : List Pc} (h : ¬ y.n = g) : upGo g (y :: ys) = ([], g, y :: ys) := by simp only [upGo, if_neg h]
/-- What is to come of what was handed up, and is held still. -/
def UpTo (T : List ByteArray) (G : Int) (H : List Pc) (U : List ByteArray) (g : Int) (hs : List Pc) : Prop := T = U ++ (upGo g hs).1 ∧ G = (upGo g hs).2.1 ∧ H = (upGo g hs).2.2

set_option maxRecDepth 100000 in
set_option maxHeartbeats 12800000 in
theorem slinktake_any (v1 v2 : Value) (l : Lk) (x : Pc) (w : World) (R1 : StRow w v1 l.q) (R2 : PcRow w v2 l.h) (hs : x.s.size ≤ maxLen) :
    Calls Try.prog 8 #[.agg #[.int .i64 l.sent, .int .i64 l.acked, v1, .int .i64 l.got, v2], .agg #[.int .i64 x.n, .string x.s]] w fun e w' => TkAns w w' e (takeR l x) := by
  have hzq := R1.sz
  have hzh := R2.sz
  obtain ⟨a1, c1, rfl⟩ := R1.small
  obtain ⟨a2, c2, rfl⟩ := R2.small
  obtain ⟨i0, hi, hz0, hz1, hz2⟩ := info_parts Try.infoStr
  obtain ⟨j0, hj0, jz0, jz1, jz2⟩ := info_parts Try.infoPc
  obtain ⟨hB0, hx0, hp0, hy0⟩ := four_bx w (Obj.cells #[.int .i64 l.sent, .int .i64 l.acked, .slice a1 l.q.length c1, .int .i64 l.got, .slice a2 l.h.length c2] 27) (Obj.cells #[.int .i64 x.n, .string x.s] 29) (Obj.cells #[.int .i64 0, .int .i64 0, .slice none 0 0, .int .i64 0, .slice none 0 0] 27) (Obj.cells #[] 9)
  have own0 : ((((w.alloc (Obj.cells #[.int .i64 l.sent, .int .i64 l.acked, .slice a1 l.q.length c1, .int .i64 l.got, .slice a2 l.h.length c2] 27)).alloc (Obj.cells #[.int .i64 x.n, .string x.s] 29)).alloc (Obj.cells #[.int .i64 0, .int .i64 0, .slice none 0 0, .int .i64 0, .slice none 0 0] 27)).alloc (Obj.cells #[] 9)).ownsRow (w.heap.size + 3) 9 1 (.slice (some ⟨w.heap.size + 1 + 1 + 1, 0, none⟩) 0 0) 0 [] := by
    have := own_none0 (((w.alloc (Obj.cells #[.int .i64 l.sent, .int .i64 l.acked, .slice a1 l.q.length c1, .int .i64 l.got, .slice a2 l.h.length c2] 27)).alloc (Obj.cells #[.int .i64 x.n, .string x.s] 29)).alloc (Obj.cells #[.int .i64 0, .int .i64 0, .slice none 0 0, .int .i64 0, .slice none 0 0] 27)) 9 1 (w.heap.size + 3) (by simp)
    simpa using this
  go_enter Try.func8, Try.ntmps8
  go_wp2_with (refine wpList_load_row rfl 27 _ rfl w.heap.size rfl 27 #[.int .i64 l.sent, .int .i64 l.acked, .slice a1 l.q.length c1, .int .i64 l.got, .slice a2 l.h.length c2] (0, 0) _ hx0 Try.underlying27 rfl Try.sizeLk ?_)
  refine (slinkok_any _ _ l _ (R1.below hB0) (R2.below hB0)).mono ?_
  rintro e w1 ⟨rfl, hb1⟩
  have hx1 := (hb1.block _ (Array.getElem?_eq_some_iff.1 hx0).1).trans hx0
  have hp1 := (hb1.block _ (Array.getElem?_eq_some_iff.1 hp0).1).trans hp0
  have hy1 := (hb1.block _ (Array.getElem?_eq_some_iff.1 hy0).1).trans hy0
  have oe1 := own_below own0 hb1
  have hB1 := hB0.trans (hb1.mono hB0.size)
  have hsz1 : w.heap.size + 4 ≤ w1.heap.size := by have := hb1.size; simp at this; omega
  clear hB0 hx0 hp0 hy0 hb1 own0
  cases hlb : linkB l with
  | false =>
    have HR : Hid (takeR l x = (zeroLk, [])) := takeR_bad hlb
    go_wp2_with (refine wpList_store_own2 rfl 27 _ _ rfl (w.heap.size + 2) #[.int .i64 0, .int .i64 0, .slice none 0 0, .int .i64 0, .slice none 0 0] rfl rfl 27 _ hy1 Try.sizeLk rfl (by simp [Value.oneCell']) ?_)
    intro w2 hv2 hbg _ hoth
    have t3 := own_mono (B' := w.heap.size) (own_box oe1 hy1 (by decide) hoth) (by omega)
    go_wp2
    refine bodyPost_ret (results_row_tmp rfl _ _ (w.heap.size + 2) 27 _ (0, 0) _ rfl hv2 Try.underlying27 rfl Try.sizeLk) rfl ?_
    rw [HR.out]
    exact ⟨_, _, _, rfl, ⟨rfl, Or.inl ⟨rfl, rfl⟩⟩, ⟨rfl, Or.inl ⟨rfl, rfl⟩⟩, t3, fun g hg => by simp [Value.ownBlock], hB1.trans (hbg.mono (by omega))⟩
  | true =>
    have hn := linkB_nums hlb
    have hhl := linkB_heldlen hlb
    obtain ⟨n1, n2, n3, n4, n5, n6⟩ := hn
    clear n5
    have HLB : Hid (linkB l = true) := hlb
    clear hlb
    go_wp2_with (refine wpList_load_row rfl 27 _ rfl w.heap.size rfl 27 #[.int .i64 l.sent, .int .i64 l.acked, .slice a1 l.q.length c1, .int .i64 l.got, .slice a2 l.h.length c2] (0, 0) _ hx1 Try.underlying27 rfl Try.sizeLk ?_)
    refine (s10copy_any _ _ l _ (R1.below hB1) (R2.below hB1) (by omega) (by omega)).mono ?_
    rintro e w2 ⟨u1, u2, rfl, o1, o2, hb2⟩
    obtain ⟨b1, d1, rfl⟩ := own_form o1
    obtain ⟨b2, d2, rfl⟩ := own_form o2
    have hx2 := (hb2.block _ (Array.getElem?_eq_some_iff.1 hx1).1).trans hx1
    have hp2 := (hb2.block _ (Array.getElem?_eq_some_iff.1 hp1).1).trans hp1
    have hy2 := (hb2.block _ (Array.getElem?_eq_some_iff.1 hy1).1).trans hy1
    have oe2 := own_below oe1 hb2
    have hB2 := hB1.trans (hb2.mono hB1.size)
    have hlo2 := hb2.size
    clear hB1 hx1 hp1 hy1 hb2 oe1
    go_wp2_with (refine wpList_store_own2 rfl 27 _ _ rfl w2.heap.size #[.int .i64 l.sent, .int .i64 l.acked, .slice b1 l.q.length d1, .int .i64 l.got, .slice b2 l.h.length d2] rfl rfl 27 _ (heap_alloc_new _ _) Try.sizeLk rfl (by simp [Value.oneCell']) ?_)
    intro w3 hn3 hbg3 hs3 _
    have hb3 : Below w2.heap.size w2 w3 := ((Below.refl _ _).alloc (Nat.le_refl _) _).trans hbg3
    have hx3 := (hb3.block _ (Array.getElem?_eq_some_iff.1 hx2).1).trans hx2
    have hp3 := (hb3.block _ (Array.getElem?_eq_some_iff.1 hp2).1).trans hp2
    have hy3 := (hb3.block _ (Array.getElem?_eq_some_iff.1 hy2).1).trans hy2
    have oe3 := own_below oe2 hb3
    have hq0 : ∀ k, (Value.slice b1 l.q.length d1).ownBlock = some k → k < w2.heap.size := fun k hk => (o1.lt k hk).2
    have p1 := own_below o1 hb3
    have p2 := own_below o2 hb3
    have hB3 := hB2.trans (hb3.mono hB2.size)
    have hsn : w2.heap.size < w3.heap.size := (Array.getElem?_eq_some_iff.1 hn3).1
    clear hB2 hx2 hp2 hy2 oe2 o1 o2 hbg3 hs3 hb3
    have hq1 : ∀ k, (Value.slice b1 l.q.length d1).ownBlock = some k → k < w2.heap.size := hq0
    generalize w2.heap.size = n at *
    generalize w1.heap.size = lo at *
    have cx0 : w3.cell? ⟨w.heap.size, 0, none⟩ = some (.int .i64 l.sent) := cell_of_row w3 _ 0 _ _ _ hx3
    have cx3 : w3.cell? ⟨w.heap.size, 3, none⟩ = some (.int .i64 l.got) := cell_of_row w3 _ 3 _ _ _ hx3
    have cp0 : w3.cell? ⟨w.heap.size + 1, 0, none⟩ = some (.int .i64 x.n) := cell_of_row w3 _ 0 _ _ _ hp3
    have hap : ∀ g, (Value.slice (some ⟨w.heap.size + 1 + 1 + 1, 0, none⟩) 0 0).ownBlock = some g → (Value.slice b1 l.q.length d1).ownBlock ≠ some g := fun g hg e => by
      have := (p1.lt g e).1
      simp only [Value.ownBlock, Option.some.injEq] at hg
      omega
    have LM := lmin_lend l
    have hE : 0 ≤ lend l ∧ lend l ≤ 100000 := by unfold lend; split <;> omega
    obtain ⟨hE0, hE1⟩ := hE
    have W1 : IntKind.i64.wrap (l.got + 4) = l.got + 4 := by rw [IntKind.wrap_i64]; omega
    have W3 : IntKind.i64.wrap (lend l - 1) = lend l - 1 := by rw [IntKind.wrap_i64]; omega
    by_cases hin : l.got ≤ x.n ∧ x.n ≤ lend l - 1
    rotate_left
    · have HR : Hid (takeR l x = (l, [])) := takeR_out HLB.out hin
      have LI := lin_is x.n l.got (lend l - 1) false (in_no hin)
      go_wp2
      go_quiet (first | (go_at_call 28; refine Calls.quiet_of_same (LM _)) | (go_at_call 27; refine Calls.quiet_of_same (LI _)))
      have hbn := below_dN w3 nq
      have hn4 := (hbn.block _ hsn).trans hn3
      have hy4 := (hbn.block _ (Array.getElem?_eq_some_iff.1 hy3).1).trans hy3
      have r1 := own_below p1 hbn
      have r2 := own_below p2 hbn
      have r3 := own_below oe3 hbn
      have hB4 := hB3.trans (hbn.mono hB3.size)
      generalize w3.drewN nq = w4 at *
      clear hbn hx3 hp3 hy3 oe3 p1 p2 hB3 hn3 cx0 cx3 cp0
      go_wp2_with (first
        | refine wpList_load_row rfl 27 _ rfl n rfl 27 #[.int .i64 l.sent, .int .i64 l.acked, .slice b1 l.q.length d1, .int .i64 l.got, .slice b2 l.h.length d2] (0, 0) _ hn4 Try.underlying27 rfl Try.sizeLk ?_
        | refine wpList_store_own2 rfl 27 _ _ rfl (w.heap.size + 2) #[.int .i64 l.sent, .int .i64 l.acked, .slice b1 l.q.length d1, .int .i64 l.got, .slice b2 l.h.length d2] rfl rfl 27 _ hy4 Try.sizeLk rfl (by simp [Value.oneCell']) ?_)
      intro w9 hv9 hbg9 _ hoth9
      have t1 := own_mono (B' := w.heap.size) (own_box r1 hy4 (by decide) hoth9) (by omega)
      have t2 := own_mono (B' := w.heap.size) (own_box r2 hy4 (by decide) hoth9) (by omega)
      have t3 := own_mono (B' := w.heap.size) (own_box r3 hy4 (by decide) hoth9) (by omega)
      go_wp2
      refine bodyPost_ret (results_row_tmp rfl _ _ (w.heap.size + 2) 27 _ (0, 0) _ rfl hv9 Try.underlying27 rfl Try.sizeLk) rfl ?_
      rw [HR.out]
      exact ⟨_, _, _, rfl, t1, t2, t3, hap, hB4.trans (hbg9.mono (by omega))⟩
    · have LI := lin_is x.n l.got (lend l - 1) true (in_yes hin)
      by_cases hgt : l.got < x.n
      · have HR : Hid (takeR l x = (⟨l.sent, l.acked, l.q, l.got, holdL x l.h⟩, [])) := takeR_hold HLB.out hin hgt
        have hHl := holdL_len x l.h
        go_wp2
        go_quiet (first | (go_at_call 28; refine Calls.quiet_of_same (LM _)) | (go_at_call 27; refine Calls.quiet_of_same (LI _)))
        have hbn := below_dN w3 nq
        have hx4 := (hbn.block _ (Array.getElem?_eq_some_iff.1 hx3).1).trans hx3
        have hp4 := (hbn.block _ (Array.getElem?_eq_some_iff.1 hp3).1).trans hp3
        have hn4 := (hbn.block _ hsn).trans hn3
        have hy4 := (hbn.block _ (Array.getElem?_eq_some_iff.1 hy3).1).trans hy3
        have r1 := own_below p1 hbn
        have r2 := own_below p2 hbn
        have r3 := own_below oe3 hbn
        have hB4 := hB3.trans (hbn.mono hB3.size)
        have hsn4 : n < (w3.drewN nq).heap.size := Nat.lt_of_lt_of_le hsn hbn.size
        generalize w3.drewN nq = w4 at *
        clear hbn hx3 hp3 hy3 oe3 p1 p2 hB3 hn3 cx0 cx3 cp0
        have cx3 : w4.cell? ⟨w.heap.size, 3, none⟩ = some (.int .i64 l.got) := cell_of_row w4 _ 3 _ _ _ hx4
        have cp0 : w4.cell? ⟨w.heap.size + 1, 0, none⟩ = some (.int .i64 x.n) := cell_of_row w4 _ 0 _ _ _ hp4
        have cp1 : w4.cell? ⟨w.heap.size + 1, 1, none⟩ = some (.string x.s) := cell_of_row w4 _ 1 _ _ _ hp4
        have cn4 : w4.cell? ⟨n, 4, none⟩ = some (.slice b2 l.h.length d2) := cell_of_row w4 _ 4 _ _ _ hn4
        go_wp2_with fail
        refine (s10hold_any _ l.h x _ (PcRow.of_own r2 (by omega) hzh) hs (by omega)).mono ?_
        rintro e w5 ⟨u5, rfl, o5, hb5⟩
        obtain ⟨b5, d5, rfl⟩ := own_form o5
        have hn5 := (hb5.block _ hsn4).trans hn4
        have hy5 := (hb5.block _ (Array.getElem?_eq_some_iff.1 hy4).1).trans hy4
        have q1 := own_below r1 hb5
        have q3 := own_below r3 hb5
        have hB5 := hB4.trans (hb5.mono hB4.size)
        have cn5 : w5.cell? ⟨n, 4, none⟩ = some (.slice b2 l.h.length d2) := cell_of_row w5 _ 4 _ _ _ hn5
        have fn5 : w5.frozen? ⟨n, 4, none⟩ = false := frozen_of_row w5 _ 4 _ _ hn5
        have o5' : w5.ownsRow lo 29 2 (.slice b5 (holdL x l.h).length d5) (holdL x l.h).length (pccs (holdL x l.h)) := own_mono o5 (by omega)
        clear hx4 hp4 hy4 r1 r2 r3 hB4 hn4 cx3 cp0 cp1 cn4 hb5 o5
        generalize holdL x l.h = Q at *
        have hn6 : (w5.setCell ⟨n, 4, none⟩ (.slice b5 Q.length d5)).heap[n]? = some (.cells #[.int .i64 l.sent, .int .i64 l.acked, .slice b1 l.q.length d1, .int .i64 l.got, .slice b5 Q.length d5] 27 (0, 0)) := heap_setCell_same w5 n 4 _ _ (.slice b5 Q.length d5) hn5
        have hy6 := (heap_setCell_other w5 ⟨n, 4, none⟩ (w.heap.size + 2) (.slice b5 Q.length d5) (by simp; omega)).trans hy5
        have s1 := ownsRow_setCell_other q1 (a := ⟨n, 4, none⟩) (own_ne q1 hn5 (by decide)) (.slice b5 Q.length d5)
        have s2 := ownsRow_setCell_other o5' (a := ⟨n, 4, none⟩) (own_ne o5' hn5 (by decide)) (.slice b5 Q.length d5)
        have s3 := ownsRow_setCell_other q3 (a := ⟨n, 4, none⟩) (own_ne q3 hn5 (by decide)) (.slice b5 Q.length d5)
        have hB6 := hB5.setCell (p := ⟨n, 4, none⟩) (by simp; omega) (.slice b5 Q.length d5)
        clear hn5 hy5 q1 o5' q3 hB5
        go_wp2_with (first
          | refine wpList_load_row rfl 27 _ rfl n rfl 27 #[.int .i64 l.sent, .int .i64 l.acked, .slice b1 l.q.length d1, .int .i64 l.got, .slice b5 Q.length d5] (0, 0) _ hn6 Try.underlying27 rfl Try.sizeLk ?_
          | refine wpList_store_own2 rfl 27 _ _ rfl (w.heap.size + 2) #[.int .i64 l.sent, .int .i64 l.acked, .slice b1 l.q.length d1, .int .i64 l.got, .slice b5 Q.length d5] rfl rfl 27 _ hy6 Try.sizeLk rfl (by simp [Value.oneCell']) ?_)
        intro w9 hv9 hbg9 _ hoth9
        have t1 := own_mono (B' := w.heap.size) (own_box s1 hy6 (by decide) hoth9) (by omega)
        have t2 := own_mono (B' := w.heap.size) (own_box s2 hy6 (by decide) hoth9) (by omega)
        have t3 := own_mono (B' := w.heap.size) (own_box s3 hy6 (by decide) hoth9) (by omega)
        go_wp2
        refine bodyPost_ret (results_row_tmp rfl _ _ (w.heap.size + 2) 27 _ (0, 0) _ rfl hv9 Try.underlying27 rfl Try.sizeLk) rfl ?_
        rw [HR.out]
        exact ⟨_, _, _, rfl, t1, t2, t3, hap, hB6.trans (hbg9.mono (by omega))⟩
      · have HR : Hid (takeR l x = (⟨l.sent, l.acked, l.q, (upGo (l.got + 1) l.h).2.1, (upGo (l.got + 1) l.h).2.2⟩, x.s :: (upGo (l.got + 1) l.h).1)) := takeR_up HLB.out hin hgt
        have hgx : ¬ l.got < x.n := hgt
        go_wp2
        go_quiet (first | (go_at_call 28; refine Calls.quiet_of_same (LM _)) | (go_at_call 27; refine Calls.quiet_of_same (LI _)))
        have hbn := below_dN w3 nq
        have hx4 := (hbn.block _ (Array.getElem?_eq_some_iff.1 hx3).1).trans hx3
        have hp4 := (hbn.block _ (Array.getElem?_eq_some_iff.1 hp3).1).trans hp3
        have hn4 := (hbn.block _ hsn).trans hn3
        have hy4 := (hbn.block _ (Array.getElem?_eq_some_iff.1 hy3).1).trans hy3
        have r1 := own_below p1 hbn
        have r2 := own_below p2 hbn
        have r3 := own_below oe3 hbn
        have hB4 := hB3.trans (hbn.mono hB3.size)
        have hsn4 : n < (w3.drewN nq).heap.size := Nat.lt_of_lt_of_le hsn hbn.size
        generalize w3.drewN nq = w4 at *
        clear hbn hx3 hp3 hy3 oe3 p1 p2 hB3 hn3 cx0 cx3 cp0 LI LM
        have cx3 : w4.cell? ⟨w.heap.size, 3, none⟩ = some (.int .i64 l.got) := cell_of_row w4 _ 3 _ _ _ hx4
        have cp0 : w4.cell? ⟨w.heap.size + 1, 0, none⟩ = some (.int .i64 x.n) := cell_of_row w4 _ 0 _ _ _ hp4
        have cp1 : w4.cell? ⟨w.heap.size + 1, 1, none⟩ = some (.string x.s) := cell_of_row w4 _ 1 _ _ _ hp4
        have lit := StRow.lit1 w4 x.s hs
        obtain ⟨H4, HH4⟩ : ∃ H4, (w4.alloc (.cells #[.string x.s] 9)).heap.size = H4 := ⟨_, rfl⟩
        have hH4 : n ≤ H4 := by rw [← HH4]; simp; omega
        go_wp2_with (at_builtin; refine wpList_append_lies _ rfl _ _ 24 rfl (w.heap.size + 3) 9 i0 _ 1 16 Try.underlying24 hi hz0 hz1 hz2 rfl (by decide) _ 0 _ rfl (r3.alloc _) ⟨w4.heap.size, 0, none⟩ 1 1 (stv [x.s]) rfl rfl (lit.cells _ rfl) (stv_one _) (by omega) (by unfold maxLen; omega) (by omega) (by simp; omega) H4 HH4 ?_)
        intro gg c5 w5 o5 hg5 hgg hg5s
        have hgn : gg < lo ∨ n ≤ gg := by
          rcases hgg with e | rfl
          · simp only [Value.ownBlock, Option.some.injEq] at e
            omega
          · exact Or.inr hH4
        have far : ∀ (k : Nat) (o : Obj), w4.heap[k]? = some o → k ≠ w.heap.size + 1 + 1 + 1 → w5.heap[k]? = some o := fun k o hk hne =>
          (hg5.block k (by simp; have := (Array.getElem?_eq_some_iff.1 hk).1; omega) (fun e => hne (by simpa [Value.ownBlock] using e))).trans ((heap_alloc_old _ _ (Array.getElem?_eq_some_iff.1 hk).1).trans hk)
        have hx5 := far _ _ hx4 (by omega)
        have hn5 := far _ _ hn4 (by omega)
        have hy5 := far _ _ hy4 (by omega)
        have farR : ∀ {e : TypeId} {k : Nat} {v : Value} {m : Nat} {xs : List Value}, w4.ownsRow lo e k v m xs → w5.ownsRow lo e k v m xs := by
          intro e k v m xs h
          refine ⟨h.1, ?_⟩
          rcases h.2 with ⟨e, h0⟩ | ⟨g, cap, cur, e, hb, hg, hr⟩
          · exact Or.inl ⟨e, h0⟩
          · exact Or.inr ⟨g, cap, cur, e, hb, far g _ hg (by omega), hr⟩
        have q1 := farR r1
        have q2 := farR r2
        have hB5 : Below w.heap.size w w5 := (hB4.alloc hB4.size _).grown hg5 (by simp; omega) (fun k hk => by simp [Value.ownBlock] at hk; omega)
        have o5' : w5.ownsRow (w.heap.size + 3) 9 1 (.slice (some ⟨gg, 0, none⟩) [x.s].length c5) [x.s].length (stv [x.s]) := o5
        have cx5 : w5.cell? ⟨w.heap.size, 3, none⟩ = some (.int .i64 l.got) := cell_of_row w5 _ 3 _ _ _ hx5
        have cn5 : w5.cell? ⟨n, 3, none⟩ = some (.int .i64 l.got) := cell_of_row w5 _ 3 _ _ _ hn5
        have fn5 : w5.frozen? ⟨n, 3, none⟩ = false := frozen_of_row w5 _ 3 _ _ hn5
        have hsn5 : n < w5.heap.size := (Array.getElem?_eq_some_iff.1 hn5).1
        have hn6 : (w5.setCell ⟨n, 3, none⟩ (.int .i64 (l.got + 1))).heap[n]? = some (.cells #[.int .i64 l.sent, .int .i64 l.acked, .slice b1 l.q.length d1, .int .i64 (l.got + 1), .slice b2 l.h.length d2] 27 (0, 0)) := heap_setCell_same w5 n 3 _ _ (.int .i64 (l.got + 1)) hn5
        have hy6 := (heap_setCell_other w5 ⟨n, 3, none⟩ (w.heap.size + 2) (.int .i64 (l.got + 1)) (by simp; omega)).trans hy5
        have s1 := ownsRow_setCell_other q1 (a := ⟨n, 3, none⟩) (own_ne q1 hn5 (by decide)) (.int .i64 (l.got + 1))
        have s2 := ownsRow_setCell_other q2 (a := ⟨n, 3, none⟩) (own_ne q2 hn5 (by decide)) (.int .i64 (l.got + 1))
        have s3 := ownsRow_setCell_other o5' (a := ⟨n, 3, none⟩) (own_ne o5' hn5 (by decide)) (.int .i64 (l.got + 1))
        have hB6 := hB5.setCell (p := ⟨n, 3, none⟩) (by simp; omega) (.int .i64 (l.got + 1))
        have P6 := PHeld.of_own s2 hzh (by omega)
        have hs6 : n < (w5.setCell ⟨n, 3, none⟩ (.int .i64 (l.got + 1))).heap.size := by simpa using hsn5
        clear far farR q1 q2 hx4 hp4 hn4 hy4 r1 r2 r3 hB4 cx3 cp0 cp1 lit hgg hg5 o5 o5' hn5 hy5 hB5
        obtain ⟨T, G, HH, HU⟩ : ∃ T G HH, Hid (UpTo T G HH [x.s] (l.got + 1) l.h) := ⟨_, _, _, rfl, rfl, rfl⟩
        have HR2 : Hid (takeR l x = (⟨l.sent, l.acked, l.q, G, HH⟩, T)) := by unfold Hid; rw [HR.out, HU.out.1, HU.out.2.1, HU.out.2.2]; rfl
        clear HR
        go_wp2
        go_loopw [6] (fun p wr => ∃ (U : List ByteArray) (gg c5 : Nat) (g : Int) (hs : List Pc) (ao : Option Addr) (c4 : Nat), p = .slice (some ⟨gg, 0, none⟩) U.length c5 ∧ wr.ownsRow (w.heap.size + 3) 9 1 (.slice (some ⟨gg, 0, none⟩) U.length c5) U.length (stv U) ∧ (gg < lo ∨ n ≤ gg) ∧
          wr.heap[n]? = some (.cells #[.int .i64 l.sent, .int .i64 l.acked, .slice b1 l.q.length d1, .int .i64 g, .slice ao hs.length c4] 27 (0, 0)) ∧ PHeld wr (.slice ao hs.length c4) hs ∧ Hid (UpTo T G HH U g hs) ∧ (hs.length ≤ 4 ∧ U.length + hs.length ≤ 5 ∧ 0 ≤ g ∧ g + hs.length ≤ 100005) ∧ Hid (∀ y ∈ hs, y.s.size ≤ maxLen) ∧
          wr.ownsRow lo 9 1 (.slice b1 l.q.length d1) l.q.length (stv l.q) ∧ wr.heap[w.heap.size + 2]? = some (.cells #[.int .i64 0, .int .i64 0, .slice none 0 0, .int .i64 0, .slice none 0 0] 27 (0, 0)) ∧ Below w.heap.size w wr) (fun _ wr => lenAt wr n)
        case atStart => exact ⟨[x.s], gg, c5, l.got + 1, l.h, b2, d2, rfl, s3, hgn, hn6, P6, HU, ⟨by omega, by simp; omega, by omega, by omega⟩, hzh, s1, hy6, hB6⟩
        case round =>
          clear s1 s2 s3 hn6 hy6 hB6 P6 hs6 HU hgn hsn5 cx5 cn5 fn5 hg5s hH4 HH4
          obtain ⟨U, gg, c5, g, hs, ao, c4, rfl, oU, hgn, hn, P, HU, ⟨hl1, hl2, hl3, hl4⟩, HZ, s1, hy, hB⟩ := hrel
          have hsn : n < wr.heap.size := (Array.getElem?_eq_some_iff.1 hn).1
          have cn4 : wr.cell? ⟨n, 4, none⟩ = some (.slice ao hs.length c4) := cell_of_row wr _ 4 _ _ _ hn
          have cn3 : wr.cell? ⟨n, 3, none⟩ = some (.int .i64 g) := cell_of_row wr _ 3 _ _ _ hn
          have HLA : Hid (lenAt wr n = hs.length) := lenAt_of cn4
          by_cases hc : ∃ y ys, hs = y :: ys ∧ y.n = g
          · obtain ⟨y, ys, rfl, hyg⟩ := hc
            have HYG : Hid (y.n = g) := hyg
            obtain ⟨ao', c', e', hcc, hcell⟩ := P
            simp only [Value.slice.injEq, true_and] at e'
            obtain ⟨rfl, rfl⟩ := e'
            obtain ⟨gp, o, cur, rfl, hgp, hcell⟩ := hcell (by simp)
            obtain ⟨k0, k1⟩ := hcell 0 y rfl
            have hzy := HZ.out y List.mem_cons_self
            have hc1 := hcc.1
            simp only [Nat.zero_mul, Nat.add_zero] at k0 k1
            rw [hyg] at k0
            obtain ⟨m, hm⟩ : ∃ m, (y :: ys).length = m := ⟨_, rfl⟩
            have hmy : m = ys.length + 1 := by rw [← hm]; rfl
            rw [hm] at cn4 hn hc1 hl1 hl2 hl4 HLA
            have hm0 : 0 < m := by omega
            have hm0' : (0 : Int) < (m : Int) := by omega
            have HM : Hid (m = ys.length + 1) := hmy
            have HU2 : Hid (UpTo T G HH (U ++ [y.s]) (g + 1) ys) := by
              obtain ⟨u1, u2, u3⟩ := HU.out
              rw [upGo_yes hyg] at u1 u2 u3
              exact ⟨by rw [u1]; simp, u2, u3⟩
            have HZ2 : Hid (∀ z ∈ ys, z.s.size ≤ maxLen) := fun z hz => HZ.out z (List.mem_cons_of_mem _ hz)
            clear hmy hyg hm hcc HU HZ
            go_wp2
            go_quiet (fail)
            have hbn := below_dN wr nq
            have hn1 := (hbn.block _ hsn).trans hn
            have hy1 := (hbn.block _ (Array.getElem?_eq_some_iff.1 hy).1).trans hy
            have q1 := own_below s1 hbn
            have qU := own_below oU hbn
            have hgp1 := (hbn.block _ (Array.getElem?_eq_some_iff.1 hgp).1).trans hgp
            have hB1 := hB.trans (hbn.mono hB.size)
            have hsn1 : n < (wr.drewN nq).heap.size := Nat.lt_of_lt_of_le hsn hbn.size
            have k01 : (wr.drewN nq).cell? ⟨gp, o, none⟩ = some (.int .i64 g) := k0
            have k11 : (wr.drewN nq).cell? ⟨gp, o + 1, none⟩ = some (.string y.s) := k1
            have hcell1 : ∀ i z, (y :: ys)[i]? = some z → PcAt (wr.drewN nq) gp (o + i * 2) z := hcell
            generalize wr.drewN nq = w1 at *
            clear hbn hn hy s1 oU hB cn4 cn3 k0 k1 hgp hcell
            have cn4 : w1.cell? ⟨n, 4, none⟩ = some (.slice (some ⟨gp, o, none⟩) m c4) := cell_of_row w1 _ 4 _ _ _ hn1
            have lit := StRow.lit1 w1 y.s hzy
            obtain ⟨H4, HH4⟩ : ∃ H4, (w1.alloc (.cells #[.string y.s] 9)).heap.size = H4 := ⟨_, rfl⟩
            have hH4 : n ≤ H4 := by rw [← HH4]; simp; omega
            go_wp2_with (at_builtin; refine wpList_append_lies _ rfl _ _ 24 rfl (w.heap.size + 3) 9 i0 _ 1 16 Try.underlying24 hi hz0 hz1 hz2 rfl (by decide) _ _ _ rfl (qU.alloc _) ⟨w1.heap.size, 0, none⟩ 1 1 (stv [y.s]) rfl rfl (lit.cells _ rfl) (stv_one _) (by omega) (by unfold maxLen; omega) (by omega) (by simp; omega) H4 HH4 ?_)
            intro g2 c6 w5 o5 hg5 hgg hg5s
            have hgn2 : g2 < lo ∨ n ≤ g2 := by
              rcases hgg with e | rfl
              · simp only [Value.ownBlock, Option.some.injEq] at e
                omega
              · exact Or.inr hH4
            have far : ∀ (k : Nat) (cs : Array Value) (t : TypeId), w1.heap[k]? = some (.cells cs t (0, 0)) → t ≠ 9 → w5.heap[k]? = some (.cells cs t (0, 0)) := fun k cs t hk hne =>
              (hg5.block k (by simp; have := (Array.getElem?_eq_some_iff.1 hk).1; omega) (fun e => own_ne qU hk hne e.symm)).trans ((heap_alloc_old _ _ (Array.getElem?_eq_some_iff.1 hk).1).trans hk)
            have hn5 := far _ _ _ hn1 (by decide)
            have hy5 := far _ _ _ hy1 (by decide)
            have hgp5 := far _ _ _ hgp1 (by decide)
            have q15 : w5.ownsRow lo 9 1 (.slice b1 l.q.length d1) l.q.length (stv l.q) := by
              refine (q1.alloc _).kept hg5 ?_
              cases hv : (Value.slice b1 l.q.length d1).ownBlock with
              | none => exact Or.inl rfl
              | some k =>
                refine Or.inr fun e => ?_
                have h1 := (q1.lt k hv).1
                have h2 := hq1 k hv
                simp only [Value.ownBlock, Option.some.injEq] at e
                omega
            have hcell5 : ∀ i z, (y :: ys)[i]? = some z → PcAt w5 gp (o + i * 2) z := fun i z hi => by
              have e : ∀ a, w5.cell? ⟨gp, a, none⟩ = w1.cell? ⟨gp, a, none⟩ := fun a => by rw [cell_of_row w5 gp a _ _ _ hgp5, cell_of_row w1 gp a _ _ _ hgp1]
              obtain ⟨x0, x1⟩ := hcell1 i z hi
              exact ⟨(e _).trans x0, (e _).trans x1⟩
            have hB5 : Below w.heap.size w w5 := (hB1.alloc hB1.size _).grown hg5 (by simp; omega) (fun k hk => by have := (qU.lt k hk).1; omega)
            obtain ⟨V, hV⟩ : ∃ V, V = U ++ [y.s] := ⟨_, rfl⟩
            have o5' : w5.ownsRow (w.heap.size + 3) 9 1 (.slice (some ⟨g2, 0, none⟩) V.length c6) V.length (stv V) := by rw [hV, stv_append, List.length_append]; exact o5
            have hVl : V.length = U.length + 1 := by rw [hV]; simp
            have hVe : U.length + 1 = V.length := hVl.symm
            rw [← hV] at HU2
            have cn3 : w5.cell? ⟨n, 3, none⟩ = some (.int .i64 g) := cell_of_row w5 _ 3 _ _ _ hn5
            have fn3 : w5.frozen? ⟨n, 3, none⟩ = false := frozen_of_row w5 _ 3 _ _ hn5
            have cn5 : w5.cell? ⟨n, 4, none⟩ = some (.slice (some ⟨gp, o, none⟩) m c4) := cell_of_row w5 _ 4 _ _ _ hn5
            have fn4 : w5.frozen? ⟨n, 4, none⟩ = false := frozen_of_row w5 _ 4 _ _ hn5
            have hsn5 : n < w5.heap.size := (Array.getElem?_eq_some_iff.1 hn5).1
            have W9 : IntKind.i64.wrap (g + 1) = g + 1 := by rw [IntKind.wrap_i64]; omega
            have hVl2 : V.length ≤ 5 := by omega
            have HVE : Hid (U.length + 1 = V.length) := hVe
            clear hg5 hgg far q1 qU hB1 hn1 hy1 hgp1 hcell1 lit HH4 o5 k01 k11 cn4 hV hVl hVe
            by_cases hcc : c4 = 1
            · subst hcc
              have hys : ys = [] := List.eq_nil_of_length_eq_zero (by have := HM.out; omega)
              have hm1 : m = 1 := by omega
              subst hm1
              have HT : ∀ W : World, W.heap[gp]? = some (.cells cur 29 (0, 0)) → (∀ i z, (y :: ys)[i]? = some z → PcAt W gp (o + i * 2) z) → PHeld W (.slice (some ⟨gp, o, none⟩) 0 0) ys := fun W h1 h2 => PHeld.tail h1 h2 (by have := HM.out; omega) _ (Or.inr ⟨rfl, rfl⟩)
              have hnW : ((w5.setCell ⟨n, 3, none⟩ (.int .i64 (g + 1))).setCell ⟨n, 4, none⟩ (.slice (some ⟨gp, o, none⟩) 0 0)).heap[n]? = some (.cells #[.int .i64 l.sent, .int .i64 l.acked, .slice b1 l.q.length d1, .int .i64 (g + 1), .slice (some ⟨gp, o, none⟩) 0 0] 27 (0, 0)) := heap_setCell_same _ n 4 _ _ (.slice (some ⟨gp, o, none⟩) 0 0) (heap_setCell_same w5 n 3 _ _ (.int .i64 (g + 1)) hn5)
              have hyW : ((w5.setCell ⟨n, 3, none⟩ (.int .i64 (g + 1))).setCell ⟨n, 4, none⟩ (.slice (some ⟨gp, o, none⟩) 0 0)).heap[w.heap.size + 2]? = some (.cells #[.int .i64 0, .int .i64 0, .slice none 0 0, .int .i64 0, .slice none 0 0] 27 (0, 0)) := (heap_setCell_other _ ⟨n, 4, none⟩ (w.heap.size + 2) (.slice (some ⟨gp, o, none⟩) 0 0) (by simp; omega)).trans ((heap_setCell_other w5 ⟨n, 3, none⟩ (w.heap.size + 2) (.int .i64 (g + 1)) (by simp; omega)).trans hy5)
              have hgpn : gp ≠ n := fun e => by rw [e, hn5] at hgp5; cases hgp5
              have hgpW : ((w5.setCell ⟨n, 3, none⟩ (.int .i64 (g + 1))).setCell ⟨n, 4, none⟩ (.slice (some ⟨gp, o, none⟩) 0 0)).heap[gp]? = some (.cells cur 29 (0, 0)) := (heap_setCell_other _ ⟨n, 4, none⟩ gp (.slice (some ⟨gp, o, none⟩) 0 0) (by simpa using hgpn)).trans ((heap_setCell_other w5 ⟨n, 3, none⟩ gp (.int .i64 (g + 1)) (by simpa using hgpn)).trans hgp5)
              have hcW : ∀ i z, (y :: ys)[i]? = some z → PcAt ((w5.setCell ⟨n, 3, none⟩ (.int .i64 (g + 1))).setCell ⟨n, 4, none⟩ (.slice (some ⟨gp, o, none⟩) 0 0)) gp (o + i * 2) z := fun i z hi => by
                have e : ∀ a, ((w5.setCell ⟨n, 3, none⟩ (.int .i64 (g + 1))).setCell ⟨n, 4, none⟩ (.slice (some ⟨gp, o, none⟩) 0 0)).cell? ⟨gp, a, none⟩ = w5.cell? ⟨gp, a, none⟩ := fun a => by rw [cell_of_row _ gp a _ _ _ hgpW, cell_of_row w5 gp a _ _ _ hgp5]
                obtain ⟨x0, x1⟩ := hcell5 i z hi
                exact ⟨(e _).trans x0, (e _).trans x1⟩
              have PW := HT _ hgpW hcW
              have q1W := ownsRow_setCell_other (ownsRow_setCell_other q15 (a := ⟨n, 3, none⟩) (own_ne q15 hn5 (by decide)) (.int .i64 (g + 1))) (a := ⟨n, 4, none⟩) (own_ne q15 hn5 (by decide)) (.slice (some ⟨gp, o, none⟩) 0 0)
              have oUW := ownsRow_setCell_other (ownsRow_setCell_other o5' (a := ⟨n, 3, none⟩) (own_ne o5' hn5 (by decide)) (.int .i64 (g + 1))) (a := ⟨n, 4, none⟩) (own_ne o5' hn5 (by decide)) (.slice (some ⟨gp, o, none⟩) 0 0)
              have hBW := (hB5.setCell (p := ⟨n, 3, none⟩) (by simp; omega) (.int .i64 (g + 1))).setCell (p := ⟨n, 4, none⟩) (by simp; omega) (.slice (some ⟨gp, o, none⟩) 0 0)
              have lW : lenAt ((w5.setCell ⟨n, 3, none⟩ (.int .i64 (g + 1))).setCell ⟨n, 4, none⟩ (.slice (some ⟨gp, o, none⟩) 0 0)) n = 0 := lenAt_of (cell_of_row _ n 4 _ _ _ hnW)
              clear hgpW hcW hgp5 hcell5 q15 o5' hB5 hn5 hy5
              have HYS : Hid (ys = []) := hys
              clear hys HT
              go_wp2
              refine ⟨?_, by rw [lW, HLA.out]; omega⟩
              have hys := HYS.out
              subst hys
              exact ⟨V, g2, c6, g + 1, [], some ⟨gp, o, none⟩, 0, by rw [← HVE.out], oUW, hgn2, hnW, PW, HU2, ⟨by simp, by simp; omega, by omega, by simp; omega⟩, HZ2, q1W, hyW, hBW⟩
            · have hcc2 : 1 < c4 := by omega
              have hml : m - 1 = ys.length := by have := HM.out; omega
              have HT : ∀ W : World, W.heap[gp]? = some (.cells cur 29 (0, 0)) → (∀ i z, (y :: ys)[i]? = some z → PcAt W gp (o + i * 2) z) → PHeld W (.slice (some ⟨gp, o + 2, none⟩) (m - 1) (c4 - 1)) ys := fun W h1 h2 => by rw [hml]; exact PHeld.tail h1 h2 (by omega) _ (Or.inl ⟨hcc2, rfl⟩)
              have hnW : ((w5.setCell ⟨n, 3, none⟩ (.int .i64 (g + 1))).setCell ⟨n, 4, none⟩ (.slice (some ⟨gp, o + 2, none⟩) (m - 1) (c4 - 1))).heap[n]? = some (.cells #[.int .i64 l.sent, .int .i64 l.acked, .slice b1 l.q.length d1, .int .i64 (g + 1), .slice (some ⟨gp, o + 2, none⟩) (m - 1) (c4 - 1)] 27 (0, 0)) := heap_setCell_same _ n 4 _ _ (.slice (some ⟨gp, o + 2, none⟩) (m - 1) (c4 - 1)) (heap_setCell_same w5 n 3 _ _ (.int .i64 (g + 1)) hn5)
              have hyW : ((w5.setCell ⟨n, 3, none⟩ (.int .i64 (g + 1))).setCell ⟨n, 4, none⟩ (.slice (some ⟨gp, o + 2, none⟩) (m - 1) (c4 - 1))).heap[w.heap.size + 2]? = some (.cells #[.int .i64 0, .int .i64 0, .slice none 0 0, .int .i64 0, .slice none 0 0] 27 (0, 0)) := (heap_setCell_other _ ⟨n, 4, none⟩ (w.heap.size + 2) (.slice (some ⟨gp, o + 2, none⟩) (m - 1) (c4 - 1)) (by simp; omega)).trans ((heap_setCell_other w5 ⟨n, 3, none⟩ (w.heap.size + 2) (.int .i64 (g + 1)) (by simp; omega)).trans hy5)
              have hgpn : gp ≠ n := fun e => by rw [e, hn5] at hgp5; cases hgp5
              have hgpW : ((w5.setCell ⟨n, 3, none⟩ (.int .i64 (g + 1))).setCell ⟨n, 4, none⟩ (.slice (some ⟨gp, o + 2, none⟩) (m - 1) (c4 - 1))).heap[gp]? = some (.cells cur 29 (0, 0)) := (heap_setCell_other _ ⟨n, 4, none⟩ gp (.slice (some ⟨gp, o + 2, none⟩) (m - 1) (c4 - 1)) (by simpa using hgpn)).trans ((heap_setCell_other w5 ⟨n, 3, none⟩ gp (.int .i64 (g + 1)) (by simpa using hgpn)).trans hgp5)
              have hcW : ∀ i z, (y :: ys)[i]? = some z → PcAt ((w5.setCell ⟨n, 3, none⟩ (.int .i64 (g + 1))).setCell ⟨n, 4, none⟩ (.slice (some ⟨gp, o + 2, none⟩) (m - 1) (c4 - 1))) gp (o + i * 2) z := fun i z hi => by
                have e : ∀ a, ((w5.setCell ⟨n, 3, none⟩ (.int .i64 (g + 1))).setCell ⟨n, 4, none⟩ (.slice (some ⟨gp, o + 2, none⟩) (m - 1) (c4 - 1))).cell? ⟨gp, a, none⟩ = w5.cell? ⟨gp, a, none⟩ := fun a => by rw [cell_of_row _ gp a _ _ _ hgpW, cell_of_row w5 gp a _ _ _ hgp5]
                obtain ⟨x0, x1⟩ := hcell5 i z hi
                exact ⟨(e _).trans x0, (e _).trans x1⟩
              have PW := HT _ hgpW hcW
              have q1W := ownsRow_setCell_other (ownsRow_setCell_other q15 (a := ⟨n, 3, none⟩) (own_ne q15 hn5 (by decide)) (.int .i64 (g + 1))) (a := ⟨n, 4, none⟩) (own_ne q15 hn5 (by decide)) (.slice (some ⟨gp, o + 2, none⟩) (m - 1) (c4 - 1))
              have oUW := ownsRow_setCell_other (ownsRow_setCell_other o5' (a := ⟨n, 3, none⟩) (own_ne o5' hn5 (by decide)) (.int .i64 (g + 1))) (a := ⟨n, 4, none⟩) (own_ne o5' hn5 (by decide)) (.slice (some ⟨gp, o + 2, none⟩) (m - 1) (c4 - 1))
              have hBW := (hB5.setCell (p := ⟨n, 3, none⟩) (by simp; omega) (.int .i64 (g + 1))).setCell (p := ⟨n, 4, none⟩) (by simp; omega) (.slice (some ⟨gp, o + 2, none⟩) (m - 1) (c4 - 1))
              have lW : lenAt ((w5.setCell ⟨n, 3, none⟩ (.int .i64 (g + 1))).setCell ⟨n, 4, none⟩ (.slice (some ⟨gp, o + 2, none⟩) (m - 1) (c4 - 1))) n = m - 1 := lenAt_of (cell_of_row _ n 4 _ _ _ hnW)
              clear hgpW hcW hgp5 hcell5 q15 o5' hB5 hn5 hy5
              have HML : Hid (m - 1 = ys.length) := hml
              clear hml HT
              go_wp2
              refine ⟨?_, by rw [lW, HLA.out]; omega⟩
              have hml := HML.out
              have hm' := HM.out
              have hv' := HVE.out
              exact ⟨V, g2, c6, g + 1, ys, some ⟨gp, o + 2, none⟩, c4 - 1, by rw [← HVE.out], oUW, hgn2, by rw [← hml]; exact hnW, by rw [← hml]; exact PW, HU2, ⟨by omega, by omega, by omega, by omega⟩, HZ2, q1W, hyW, hBW⟩
          · have HE : Hid (T = U ∧ G = g ∧ HH = hs) := by
              obtain ⟨u1, u2, u3⟩ := HU.out
              cases hs with
              | nil => exact ⟨by rw [u1]; simp [upGo], by rw [u2]; rfl, by rw [u3]; rfl⟩
              | cons y ys =>
                have hy' : ¬ y.n = g := fun e => hc ⟨y, ys, rfl, e⟩
                rw [upGo_no hy'] at u1 u2 u3
                exact ⟨by rw [u1]; simp, u2, u3⟩
            cases hs with
            | nil =>
              clear hc HU
              have hlen : (([] : List Pc).length : Nat) = 0 := rfl
              rw [hlen] at cn4 hn P
              go_wp2
              go_quiet (fail)
              have hbn := below_dN wr nq
              have hn1 := (hbn.block _ hsn).trans hn
              have hy1 := (hbn.block _ (Array.getElem?_eq_some_iff.1 hy).1).trans hy
              have q1 := own_below s1 hbn
              have qU := own_below oU hbn
              have P1 := P.keep (w' := wr.drewN nq) (fun k cs hk => hk)
              have hB1 := hB.trans (hbn.mono hB.size)
              have hsn1 : n < (wr.drewN nq).heap.size := Nat.lt_of_lt_of_le hsn hbn.size
              generalize wr.drewN nq = w1 at *
              clear hbn hn hy s1 oU P hB cn4 cn3
              have hne1 := (heap_alloc_old w1 (Obj.cells #[] 29) hsn1).trans hn1
              have ce4 : (w1.alloc (Obj.cells #[] 29)).cell? ⟨n, 4, none⟩ = some (.slice ao 0 c4) := cell_of_row _ _ 4 _ _ _ hne1
              have PE := (P1.keep (w' := w1.alloc (Obj.cells #[] 29)) (fun k cs hk => (heap_alloc_old _ _ (Array.getElem?_eq_some_iff.1 hk).1).trans hk)).row (by omega) HZ.out
              have ownE := own_none0 w1 29 2 lo (by omega)
              go_wp2_with (at_builtin; refine wpList_append_own_any _ rfl _ _ 25 rfl lo 29 j0 _ 2 24 Try.underlying25 hj0 jz0 jz1 jz2 rfl (by decide) _ 0 _ rfl ownE ao 0 c4 (pccs ([] : List Pc)) rfl (by simp [pccs]) PE.nilcap PE.cells (pccs_one _) (by unfold maxLen; omega) (by omega) (by simp; omega) ?_)
              intro u8 w8 o8 hg8
              have o8' : w8.ownsRow lo 29 2 u8 0 (pccs ([] : List Pc)) := by simpa using o8
              obtain ⟨b8, d8, rfl⟩ := own_form o8'
              have hbel8 : Below w1.heap.size (w1.alloc (Obj.cells #[] 29)) w8 := (Below.refl _ _).grown hg8 (by simp) (fun k hk => by simp [Value.ownBlock] at hk; omega)
              have hb8 : Below w1.heap.size w1 w8 := ((Below.refl _ _).alloc (Nat.le_refl _) _).trans hbel8
              have hn8 := (hb8.block _ hsn1).trans hn1
              have hy8 := (hb8.block _ (Array.getElem?_eq_some_iff.1 hy1).1).trans hy1
              have t1 := own_below q1 hb8
              have tU := own_below qU hb8
              have hB8 := hB1.trans (hb8.mono hB1.size)
              have en4 : w8.cell? ⟨n, 4, none⟩ = some (.slice ao 0 c4) := cell_of_row w8 _ 4 _ _ _ hn8
              have gn4 : w8.frozen? ⟨n, 4, none⟩ = false := frozen_of_row w8 _ 4 _ _ hn8
              clear hg8 o8 hbel8 hb8 hn1 hy1 q1 qU P1 hB1 ce4 PE ownE hne1
              have hn9 : (w8.setCell ⟨n, 4, none⟩ (.slice b8 0 d8)).heap[n]? = some (.cells #[.int .i64 l.sent, .int .i64 l.acked, .slice b1 l.q.length d1, .int .i64 g, .slice b8 0 d8] 27 (0, 0)) := heap_setCell_same w8 n 4 _ _ (.slice b8 0 d8) hn8
              have hy9 := (heap_setCell_other w8 ⟨n, 4, none⟩ (w.heap.size + 2) (.slice b8 0 d8) (by simp; omega)).trans hy8
              have m1 := ownsRow_setCell_other t1 (a := ⟨n, 4, none⟩) (own_ne t1 hn8 (by decide)) (.slice b8 0 d8)
              have m2 := ownsRow_setCell_other o8' (a := ⟨n, 4, none⟩) (own_ne o8' hn8 (by decide)) (.slice b8 0 d8)
              have m3 := ownsRow_setCell_other tU (a := ⟨n, 4, none⟩) (own_ne tU hn8 (by decide)) (.slice b8 0 d8)
              have hB9 := hB8.setCell (p := ⟨n, 4, none⟩) (by simp; omega) (.slice b8 0 d8)
              clear hn8 hy8 t1 tU o8' hB8
              go_wp2_with (first
                | refine wpList_load_row rfl 27 _ rfl n rfl 27 #[.int .i64 l.sent, .int .i64 l.acked, .slice b1 l.q.length d1, .int .i64 g, .slice b8 0 d8] (0, 0) _ hn9 Try.underlying27 rfl Try.sizeLk ?_
                | refine wpList_store_own2 rfl 27 _ _ rfl (w.heap.size + 2) #[.int .i64 l.sent, .int .i64 l.acked, .slice b1 l.q.length d1, .int .i64 g, .slice b8 0 d8] rfl rfl 27 _ hy9 Try.sizeLk rfl (by simp [Value.oneCell']) ?_)
              intro w9 hv9 hbg9 _ hoth9
              have t1 := own_mono (B' := w.heap.size) (own_box m1 hy9 (by decide) hoth9) (by omega)
              have t2 := own_mono (B' := w.heap.size) (own_box m2 hy9 (by decide) hoth9) (by omega)
              have t3 := own_mono (B' := w.heap.size) (own_box m3 hy9 (by decide) hoth9) (by omega)
              go_wp2
              refine bodyPost_ret (results_row_tmp rfl _ _ (w.heap.size + 2) 27 _ (0, 0) _ rfl hv9 Try.underlying27 rfl Try.sizeLk) rfl ?_
              rw [HR2.out, HE.out.1, HE.out.2.1, HE.out.2.2]
              refine ⟨_, _, _, rfl, t1, t2, t3, fun k hk e => ?_, hB9.trans (hbg9.mono (by omega))⟩
              have h1 := (m1.lt k e).1
              have h2 := hq1 k e
              have hk' : gg = k := by simpa [Value.ownBlock] using hk
              omega
            | cons y ys =>
              have hy' : ¬ y.n = g := fun e => hc ⟨y, ys, rfl, e⟩
              have hyb : (y.n == g) = false := by simpa using hy'
              have hyd : decide (y.n = g) = false := by simpa using hy'
              have P' := P
              obtain ⟨ao', c', e', hcc, hcell⟩ := P'
              simp only [Value.slice.injEq, true_and] at e'
              obtain ⟨rfl, rfl⟩ := e'
              obtain ⟨gp, o, cur, rfl, hgp, hcell⟩ := hcell (by simp)
              obtain ⟨k0, k1⟩ := hcell 0 y rfl
              simp only [Nat.zero_mul, Nat.add_zero] at k0 k1
              clear hc HU hcell
              obtain ⟨hs, hhs⟩ : ∃ hs, hs = y :: ys := ⟨_, rfl⟩
              rw [← hhs] at HE HZ hl1 hl2 hl4 HLA hn cn4 P hcc
              have hpos : 0 < hs.length := by rw [hhs]; simp
              have hpos' : (0 : Int) < (hs.length : Int) := by omega
              clear hhs
              go_wp2
              go_quiet (fail)
              have hbn := below_dN wr nq
              have hn1 := (hbn.block _ hsn).trans hn
              have hy1 := (hbn.block _ (Array.getElem?_eq_some_iff.1 hy).1).trans hy
              have q1 := own_below s1 hbn
              have qU := own_below oU hbn
              have P1 := P.keep (w' := wr.drewN nq) (fun k cs hk => hk)
              have hB1 := hB.trans (hbn.mono hB.size)
              have hsn1 : n < (wr.drewN nq).heap.size := Nat.lt_of_lt_of_le hsn hbn.size
              generalize wr.drewN nq = w1 at *
              clear hbn hn hy s1 oU P hB cn4 cn3 k0 k1 hgp
              have hne1 := (heap_alloc_old w1 (Obj.cells #[] 29) hsn1).trans hn1
              have ce4 : (w1.alloc (Obj.cells #[] 29)).cell? ⟨n, 4, none⟩ = some (.slice (some ⟨gp, o, none⟩) hs.length c4) := cell_of_row _ _ 4 _ _ _ hne1
              have PE := (P1.keep (w' := w1.alloc (Obj.cells #[] 29)) (fun k cs hk => (heap_alloc_old _ _ (Array.getElem?_eq_some_iff.1 hk).1).trans hk)).row (by omega) HZ.out
              have ownE := own_none0 w1 29 2 lo (by omega)
              go_wp2_with (at_builtin; refine wpList_append_own_any _ rfl _ _ 25 rfl lo 29 j0 _ 2 24 Try.underlying25 hj0 jz0 jz1 jz2 rfl (by decide) _ 0 _ rfl ownE (some ⟨gp, o, none⟩) hs.length c4 (pccs hs) rfl (by rw [pccs_length]) PE.nilcap PE.cells (pccs_one _) (by unfold maxLen; omega) (by omega) (by simp; omega) ?_)
              intro u8 w8 o8 hg8
              have o8' : w8.ownsRow lo 29 2 u8 hs.length (pccs hs) := by simpa using o8
              obtain ⟨b8, d8, rfl⟩ := own_form o8'
              have hbel8 : Below w1.heap.size (w1.alloc (Obj.cells #[] 29)) w8 := (Below.refl _ _).grown hg8 (by simp) (fun k hk => by simp [Value.ownBlock] at hk; omega)
              have hb8 : Below w1.heap.size w1 w8 := ((Below.refl _ _).alloc (Nat.le_refl _) _).trans hbel8
              have hn8 := (hb8.block _ hsn1).trans hn1
              have hy8 := (hb8.block _ (Array.getElem?_eq_some_iff.1 hy1).1).trans hy1
              have t1 := own_below q1 hb8
              have tU := own_below qU hb8
              have hB8 := hB1.trans (hb8.mono hB1.size)
              have en4 : w8.cell? ⟨n, 4, none⟩ = some (.slice (some ⟨gp, o, none⟩) hs.length c4) := cell_of_row w8 _ 4 _ _ _ hn8
              have gn4 : w8.frozen? ⟨n, 4, none⟩ = false := frozen_of_row w8 _ 4 _ _ hn8
              clear hg8 o8 hbel8 hb8 hn1 hy1 q1 qU P1 hB1 ce4 PE ownE hne1
              have hn9 : (w8.setCell ⟨n, 4, none⟩ (.slice b8 hs.length d8)).heap[n]? = some (.cells #[.int .i64 l.sent, .int .i64 l.acked, .slice b1 l.q.length d1, .int .i64 g, .slice b8 hs.length d8] 27 (0, 0)) := heap_setCell_same w8 n 4 _ _ (.slice b8 hs.length d8) hn8
              have hy9 := (heap_setCell_other w8 ⟨n, 4, none⟩ (w.heap.size + 2) (.slice b8 hs.length d8) (by simp; omega)).trans hy8
              have m1 := ownsRow_setCell_other t1 (a := ⟨n, 4, none⟩) (own_ne t1 hn8 (by decide)) (.slice b8 hs.length d8)
              have m2 := ownsRow_setCell_other o8' (a := ⟨n, 4, none⟩) (own_ne o8' hn8 (by decide)) (.slice b8 hs.length d8)
              have m3 := ownsRow_setCell_other tU (a := ⟨n, 4, none⟩) (own_ne tU hn8 (by decide)) (.slice b8 hs.length d8)
              have hB9 := hB8.setCell (p := ⟨n, 4, none⟩) (by simp; omega) (.slice b8 hs.length d8)
              clear hn8 hy8 t1 tU o8' hB8
              go_wp2_with (first
                | refine wpList_load_row rfl 27 _ rfl n rfl 27 #[.int .i64 l.sent, .int .i64 l.acked, .slice b1 l.q.length d1, .int .i64 g, .slice b8 hs.length d8] (0, 0) _ hn9 Try.underlying27 rfl Try.sizeLk ?_
                | refine wpList_store_own2 rfl 27 _ _ rfl (w.heap.size + 2) #[.int .i64 l.sent, .int .i64 l.acked, .slice b1 l.q.length d1, .int .i64 g, .slice b8 hs.length d8] rfl rfl 27 _ hy9 Try.sizeLk rfl (by simp [Value.oneCell']) ?_)
              intro w9 hv9 hbg9 _ hoth9
              have t1 := own_mono (B' := w.heap.size) (own_box m1 hy9 (by decide) hoth9) (by omega)
              have t2 := own_mono (B' := w.heap.size) (own_box m2 hy9 (by decide) hoth9) (by omega)
              have t3 := own_mono (B' := w.heap.size) (own_box m3 hy9 (by decide) hoth9) (by omega)
              go_wp2
              refine bodyPost_ret (results_row_tmp rfl _ _ (w.heap.size + 2) 27 _ (0, 0) _ rfl hv9 Try.underlying27 rfl Try.sizeLk) rfl ?_
              rw [HR2.out, HE.out.1, HE.out.2.1, HE.out.2.2]
              refine ⟨_, _, _, rfl, t1, t2, t3, fun k hk e => ?_, hB9.trans (hbg9.mono (by omega))⟩
              have h1 := (m1.lt k e).1
              have h2 := hq1 k e
              have hk' : gg = k := by simpa [Value.ownBlock] using hk
              omega
end Go.Proofs.Ytkhokfkcicaojaa
