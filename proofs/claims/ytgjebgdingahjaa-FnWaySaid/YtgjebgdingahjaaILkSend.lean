/-
  Contract of impl's LinkSend. No condition.
-/
import Derived.Test.YtgjebgdingahjaaLkBox
namespace Go.Proofs.Ytgjebgdingahjaa
open Go.RowKit

set_option maxRecDepth 100000 in
set_option maxHeartbeats 3200000 in
theorem ilinksend_any (v1 v2 : Value) (l : Lk) (s : ByteArray) (w : World) (R1 : StRow w v1 l.q) (R2 : PcRow w v2 l.h) (hs : s.size ≤ maxLen) :
    Calls Try.prog 5 #[.agg #[.int .i64 l.sent, .int .i64 l.acked, v1, .int .i64 l.got, v2], .string s] w fun e w' => LkAns w w' e (sendR l s) := by
  have hzq := R1.sz
  have hzh := R2.sz
  obtain ⟨a1, c1, rfl⟩ := R1.small
  obtain ⟨a2, c2, rfl⟩ := R2.small
  obtain ⟨i0, hi, hz0, hz1, hz2⟩ := info_parts Try.infoStr
  obtain ⟨hB0, hx0, hy0⟩ := two_bx w (Obj.cells #[.int .i64 l.sent, .int .i64 l.acked, .slice a1 l.q.length c1, .int .i64 l.got, .slice a2 l.h.length c2] 27) (Obj.cells #[.int .i64 0, .int .i64 0, .slice none 0 0, .int .i64 0, .slice none 0 0] 27)
  have IO := fun (v1 v2 : Value) (l : Lk) (w : World) R1 R2 => ilinkok_any v1 v2 l w R1 R2
  go_enter Try.func5, Try.ntmps5
  go_wp2_with (refine wpList_load_row rfl 27 _ rfl w.heap.size rfl 27 #[.int .i64 l.sent, .int .i64 l.acked, .slice a1 l.q.length c1, .int .i64 l.got, .slice a2 l.h.length c2] (0, 0) _ hx0 Try.underlying27 rfl Try.sizeLk ?_)
  refine (IO _ _ l _ (R1.below hB0) (R2.below hB0)).mono ?_
  rintro e w1 ⟨rfl, hb1⟩
  have hx1 := (hb1.block _ (Array.getElem?_eq_some_iff.1 hx0).1).trans hx0
  have hy1 := (hb1.block _ (Array.getElem?_eq_some_iff.1 hy0).1).trans hy0
  have hB1 := hB0.trans (hb1.mono hB0.size)
  clear hB0 hx0 hy0 hb1
  cases hlb : linkB l with
  | false =>
    have HR : Hid (sendR l s = (zeroLk, false)) := sendR_bad hlb
    go_wp2_with (refine wpList_store_own2 rfl 27 _ _ rfl (w.heap.size + 1) #[.int .i64 0, .int .i64 0, .slice none 0 0, .int .i64 0, .slice none 0 0] rfl rfl 27 _ hy1 Try.sizeLk rfl (by simp [Value.oneCell']) ?_)
    intro w2 hv2 hbg _ hoth
    go_wp2
    refine bodyPost_ret (results_row_tmp rfl _ _ (w.heap.size + 1) 27 _ (0, 0) _ rfl hv2 Try.underlying27 rfl Try.sizeLk) rfl ?_
    rw [HR.out]
    exact ⟨_, _, rfl, ⟨none, 0, rfl, by simp [zeroLk], Or.inl rfl⟩, ⟨rfl, Or.inl ⟨rfl, rfl⟩⟩, hB1.trans (hbg.mono (by omega))⟩
  | true =>
    have hn := linkB_nums hlb
    have hhl := linkB_heldlen hlb
    obtain ⟨n1, n2, n3, n4, n5, n6⟩ := hn
    have N5 : Hid ((l.q.length : Int) = l.sent - l.acked) := n5
    clear n5
    have HLB : Hid (linkB l = true) := hlb
    clear hlb
    go_wp2_with (refine wpList_load_row rfl 27 _ rfl w.heap.size rfl 27 #[.int .i64 l.sent, .int .i64 l.acked, .slice a1 l.q.length c1, .int .i64 l.got, .slice a2 l.h.length c2] (0, 0) _ hx1 Try.underlying27 rfl Try.sizeLk ?_)
    refine (lcopied_any _ _ l _ (R1.below hB1) (R2.below hB1) (by omega) (by omega)).mono ?_
    rintro e w2 ⟨u1, u2, rfl, o1, o2, hb2⟩
    obtain ⟨b1, d1, rfl⟩ := own_form o1
    obtain ⟨b2, d2, rfl⟩ := own_form o2
    have hx2 := (hb2.block _ (Array.getElem?_eq_some_iff.1 hx1).1).trans hx1
    have hy2 := (hb2.block _ (Array.getElem?_eq_some_iff.1 hy1).1).trans hy1
    have hB2 := hB1.trans (hb2.mono hB1.size)
    have hlo : w.heap.size + 2 ≤ w1.heap.size := (Array.getElem?_eq_some_iff.1 hy1).1
    have hlo2 := hb2.size
    clear hB1 hx1 hy1 hb2
    go_wp2_with (refine wpList_store_own2 rfl 27 _ _ rfl w2.heap.size #[.int .i64 l.sent, .int .i64 l.acked, .slice b1 l.q.length d1, .int .i64 l.got, .slice b2 l.h.length d2] rfl rfl 27 _ (heap_alloc_new _ _) Try.sizeLk rfl (by simp [Value.oneCell']) ?_)
    intro w3 hn3 hbg3 hs3 _
    have hb3 : Below w2.heap.size w2 w3 := ((Below.refl _ _).alloc (Nat.le_refl _) _).trans hbg3
    have hx3 := (hb3.block _ (Array.getElem?_eq_some_iff.1 hx2).1).trans hx2
    have hy3 := (hb3.block _ (Array.getElem?_eq_some_iff.1 hy2).1).trans hy2
    have p1 := own_below o1 hb3
    have p2 := own_below o2 hb3
    have hB3 := hB2.trans (hb3.mono hB2.size)
    have hsn : w2.heap.size < w3.heap.size := (Array.getElem?_eq_some_iff.1 hn3).1
    clear hB2 hx2 hy2 o1 o2 hbg3 hs3 hb3
    generalize w2.heap.size = n at *
    generalize w1.heap.size = lo at *
    have cn2 : w3.cell? ⟨n, 2, none⟩ = some (.slice b1 l.q.length d1) := by rw [cell_of_row w3 _ 2 _ _ _ hn3]; rfl
    have L1 := StRow.lit1 w3 s hs
    go_wp2_with (at_builtin; refine wpList_append_own_any _ rfl _ _ 24 rfl lo 9 i0 _ 1 16 Try.underlying24 hi hz0 hz1 hz2 rfl (by decide) _ _ _ rfl (p1.alloc _) (some ⟨w3.heap.size, 0, none⟩) 1 1 (stv [s]) rfl rfl L1.nilcap L1.cells (stv_one _) (by unfold maxLen; omega) (by omega) (by simp; omega) ?_)
    intro u4 w4 o4 hg4
    obtain ⟨Q, hQ⟩ : ∃ Q, Q = l.q ++ [s] := ⟨_, rfl⟩
    have o4' : w4.ownsRow lo 9 1 u4 Q.length (stv Q) := by rw [hQ, stv_append, List.length_append]; exact o4
    have hQl : Q.length ≤ 31 := by rw [hQ]; simp; omega
    have HS : Hid (sendL l s = ⟨l.sent + 1, l.acked, Q, l.got, l.h⟩) := by unfold Hid; rw [hQ]; rfl
    have hzs : ∀ x ∈ Q, x.size ≤ maxLen := by
      intro x hx
      rw [hQ] at hx
      simp only [List.mem_append, List.mem_singleton] at hx
      rcases hx with hx | rfl
      · exact hzq x hx
      · exact hs
    clear hQ
    obtain ⟨b4, d4, rfl⟩ := own_form o4'
    have hne : ∀ (k : Nat) (cs : Array Value), w3.heap[k]? = some (.cells cs 27 (0, 0)) → w4.heap[k]? = some (.cells cs 27 (0, 0)) := fun k cs hk =>
      (hg4.block k (by simp; have := (Array.getElem?_eq_some_iff.1 hk).1; omega) (fun e => own_ne p1 hk (by decide) e.symm)).trans ((heap_alloc_old _ _ (Array.getElem?_eq_some_iff.1 hk).1).trans hk)
    have hx4 := hne _ _ hx3
    have hy4 := hne _ _ hy3
    have hn4 := hne _ _ hn3
    have q2 : w4.ownsRow lo 36 2 (.slice b2 l.h.length d2) l.h.length (pccs l.h) := (p2.alloc _).kept hg4 (by
      cases hv : (Value.slice b2 l.h.length d2).ownBlock with
      | none => exact Or.inl rfl
      | some k =>
        refine Or.inr fun e => ?_
        rcases p2.2 with ⟨e2, _⟩ | ⟨g2, cap2, cur2, e2, _, hg2, _⟩
        · rw [e2] at hv; cases hv
        · rw [e2] at hv
          simp only [Value.ownBlock, Option.some.injEq] at hv
          subst hv
          exact own_ne p1 hg2 (by decide) e.symm)
    have hB4 : Below w.heap.size w w4 := (hB3.alloc hB3.size _).grown hg4 (by simp; omega) (fun k hk => by have := (p1.lt k hk).1; omega)
    have cn4 : w4.cell? ⟨n, 2, none⟩ = some (.slice b1 l.q.length d1) := by rw [cell_of_row w4 _ 2 _ _ _ hn4]; rfl
    have fn4 : w4.frozen? ⟨n, 2, none⟩ = false := frozen_of_row w4 _ 2 _ _ hn4
    have cn0 : w4.cell? ⟨n, 0, none⟩ = some (.int .i64 l.sent) := by rw [cell_of_row w4 _ 0 _ _ _ hn4]; rfl
    have fn0 : w4.frozen? ⟨n, 0, none⟩ = false := frozen_of_row w4 _ 0 _ _ hn4
    have hlo4 : n < w4.heap.size := (Array.getElem?_eq_some_iff.1 hn4).1
    clear hg4 hne o4 cn2 L1 hx3 hy3 hn3 hB3 p1 p2
    have hn5 := heap_setCell_same w4 n 2 _ _ (.slice b4 Q.length d4) hn4
    have hn6 : ((w4.setCell ⟨n, 2, none⟩ (.slice b4 Q.length d4)).setCell ⟨n, 0, none⟩ (.int .i64 (l.sent + 1))).heap[n]? = some (.cells #[.int .i64 (l.sent + 1), .int .i64 l.acked, .slice b4 Q.length d4, .int .i64 l.got, .slice b2 l.h.length d2] 27 (0, 0)) := heap_setCell_same _ n 0 _ _ (.int .i64 (l.sent + 1)) hn5
    have ox : ∀ (k : Nat) (cs : Array Value), k ≠ n → w4.heap[k]? = some (.cells cs 27 (0, 0)) → ((w4.setCell ⟨n, 2, none⟩ (.slice b4 Q.length d4)).setCell ⟨n, 0, none⟩ (.int .i64 (l.sent + 1))).heap[k]? = some (.cells cs 27 (0, 0)) := fun k cs hk h => (heap_setCell_other _ ⟨n, 0, none⟩ k _ (by simpa using hk)).trans ((heap_setCell_other _ ⟨n, 2, none⟩ k _ (by simpa using hk)).trans h)
    have hx6 := ox _ _ (by omega) hx4
    have hy6 := ox _ _ (by omega) hy4
    have r1 := ownsRow_setCell_other (ownsRow_setCell_other o4' (a := ⟨n, 2, none⟩) (own_ne o4' hn4 (by decide)) (.slice b4 Q.length d4)) (a := ⟨n, 0, none⟩) (own_ne o4' hn4 (by decide)) (.int .i64 (l.sent + 1))
    have r2 := ownsRow_setCell_other (ownsRow_setCell_other q2 (a := ⟨n, 2, none⟩) (own_ne q2 hn4 (by decide)) (.slice b4 Q.length d4)) (a := ⟨n, 0, none⟩) (own_ne q2 hn4 (by decide)) (.int .i64 (l.sent + 1))
    have hB6 := (hB4.setCell (p := ⟨n, 2, none⟩) (by simp; omega) (.slice b4 Q.length d4)).setCell (p := ⟨n, 0, none⟩) (by simp; omega) (.int .i64 (l.sent + 1))
    have S1 := StRow.of_own r1 (by omega) hzs
    have S2 := PcRow.of_own r2 (by omega) hzh
    clear hx4 hy4 hn4 hn5 ox q2 o4' hB4
    go_wp2_with (refine wpList_load_row rfl 27 _ rfl n rfl 27 #[.int .i64 (l.sent + 1), .int .i64 l.acked, .slice b4 Q.length d4, .int .i64 l.got, .slice b2 l.h.length d2] (0, 0) _ hn6 Try.underlying27 rfl Try.sizeLk ?_)
    refine (IO _ _ ⟨l.sent + 1, l.acked, Q, l.got, l.h⟩ _ S1 S2).mono ?_
    rintro e w7 ⟨rfl, hb7⟩
    have hn7 := (hb7.block _ (Array.getElem?_eq_some_iff.1 hn6).1).trans hn6
    have hx7 := (hb7.block _ (Array.getElem?_eq_some_iff.1 hx6).1).trans hx6
    have hy7 := (hb7.block _ (Array.getElem?_eq_some_iff.1 hy6).1).trans hy6
    have r17 := own_below r1 hb7
    have r27 := own_below r2 hb7
    have hB7 := hB6.trans (hb7.mono hB6.size)
    clear hn6 hx6 hy6 r1 r2 hB6 hb7 S1 S2 cn4 fn4 cn0 fn0
    cases h2 : linkB ⟨l.sent + 1, l.acked, Q, l.got, l.h⟩ with
    | false =>
      have HR : Hid (sendR l s = (l, false)) := sendR_no HLB.out (by rw [HS.out]; exact h2)
      go_wp2_with (refine wpList_load_row rfl 27 _ rfl w.heap.size rfl 27 #[.int .i64 l.sent, .int .i64 l.acked, .slice a1 l.q.length c1, .int .i64 l.got, .slice a2 l.h.length c2] (0, 0) _ hx7 Try.underlying27 rfl Try.sizeLk ?_)
      refine (lcopied_any _ _ l _ (R1.below hB7) (R2.below hB7) (by omega) (by omega)).mono ?_
      rintro e w8 ⟨u1, u2, rfl, o1, o2, hb8⟩
      obtain ⟨b5, d5, rfl⟩ := own_form o1
      obtain ⟨b6, d6, rfl⟩ := own_form o2
      have hy8 := (hb8.block _ (Array.getElem?_eq_some_iff.1 hy7).1).trans hy7
      have hB8 := hB7.trans (hb8.mono hB7.size)
      have hs8 := hB7.size
      clear hB7 hx7 hy7 hn7 hb8 r17 r27
      go_wp2_with (refine wpList_store_own2 rfl 27 _ _ rfl (w.heap.size + 1) #[.int .i64 l.sent, .int .i64 l.acked, .slice b5 l.q.length d5, .int .i64 l.got, .slice b6 l.h.length d6] rfl rfl 27 _ hy8 Try.sizeLk rfl (by simp [Value.oneCell']) ?_)
      intro w9 hv9 hbg9 _ hoth9
      have t1 := own_mono (B' := w.heap.size) (own_box o1 hy8 (by decide) hoth9) hs8
      have t2 := own_mono (B' := w.heap.size) (own_box o2 hy8 (by decide) hoth9) hs8
      go_wp2
      refine bodyPost_ret (results_row_tmp rfl _ _ (w.heap.size + 1) 27 _ (0, 0) _ rfl hv9 Try.underlying27 rfl Try.sizeLk) rfl ?_
      rw [HR.out]
      exact ⟨_, _, rfl, SOwn.of_own t1, t2, hB8.trans (hbg9.mono (by omega))⟩
    | true =>
      have HR : Hid (sendR l s = (⟨l.sent + 1, l.acked, Q, l.got, l.h⟩, true)) := by unfold Hid; rw [sendR_yes HLB.out (by rw [HS.out]; exact h2), HS.out]
      go_wp2_with (first
        | refine wpList_load_row rfl 27 _ rfl n rfl 27 #[.int .i64 (l.sent + 1), .int .i64 l.acked, .slice b4 Q.length d4, .int .i64 l.got, .slice b2 l.h.length d2] (0, 0) _ hn7 Try.underlying27 rfl Try.sizeLk ?_
        | refine wpList_store_own2 rfl 27 _ _ rfl (w.heap.size + 1) #[.int .i64 (l.sent + 1), .int .i64 l.acked, .slice b4 Q.length d4, .int .i64 l.got, .slice b2 l.h.length d2] rfl rfl 27 _ hy7 Try.sizeLk rfl (by simp [Value.oneCell']) ?_)
      intro w9 hv9 hbg9 _ hoth9
      have t1 := own_mono (B' := w.heap.size) (own_box r17 hy7 (by decide) hoth9) (by omega)
      have t2 := own_mono (B' := w.heap.size) (own_box r27 hy7 (by decide) hoth9) (by omega)
      go_wp2
      refine bodyPost_ret (results_row_tmp rfl _ _ (w.heap.size + 1) 27 _ (0, 0) _ rfl hv9 Try.underlying27 rfl Try.sizeLk) rfl ?_
      rw [HR.out]
      exact ⟨_, _, rfl, SOwn.of_own t1, t2, hB7.trans (hbg9.mono (by omega))⟩
end Go.Proofs.Ytgjebgdingahjaa
