/-
  Contract of spec's LinkAck. No condition.
-/
import Derived.Test.YtkhokfkcicaojaaLkAckM
namespace Go.Proofs.Ytkhokfkcicaojaa
open Go.RowKit

set_option maxRecDepth 100000 in
set_option maxHeartbeats 3200000 in
theorem slinkack_any (v1 v2 : Value) (l : Lk) (no : Int) (w : World) (R1 : StRow w v1 l.q) (R2 : PcRow w v2 l.h) :
    Calls Try.prog 38 #[.agg #[.int .i64 l.sent, .int .i64 l.acked, v1, .int .i64 l.got, v2], .int .i64 no] w fun e w' => LkAns w w' e (ackR l no) := by
  have hzq := R1.sz
  have hzh := R2.sz
  obtain ⟨a1, c1, rfl⟩ := R1.small
  obtain ⟨a2, c2, rfl⟩ := R2.small
  obtain ⟨i0, hi, hz0, hz1, hz2⟩ := info_parts Try.infoStr
  obtain ⟨hB0, hx0, hy0⟩ := two_bx w (Obj.cells #[.int .i64 l.sent, .int .i64 l.acked, .slice a1 l.q.length c1, .int .i64 l.got, .slice a2 l.h.length c2] 27) (Obj.cells #[.int .i64 0, .int .i64 0, .slice none 0 0, .int .i64 0, .slice none 0 0] 27)
  have IO := fun (v1 v2 : Value) (l : Lk) (w : World) R1 R2 => slinkok_any v1 v2 l w R1 R2
  go_enter Try.func38, Try.ntmps38
  go_wp2_with (refine wpList_load_row rfl 27 _ rfl w.heap.size rfl 27 #[.int .i64 l.sent, .int .i64 l.acked, .slice a1 l.q.length c1, .int .i64 l.got, .slice a2 l.h.length c2] (0, 0) _ hx0 Try.underlying27 rfl Try.sizeLk ?_)
  refine (IO _ _ l _ (R1.below hB0) (R2.below hB0)).mono ?_
  rintro e w1 ⟨rfl, hb1⟩
  have hx1 := (hb1.block _ (Array.getElem?_eq_some_iff.1 hx0).1).trans hx0
  have hy1 := (hb1.block _ (Array.getElem?_eq_some_iff.1 hy0).1).trans hy0
  have hB1 := hB0.trans (hb1.mono hB0.size)
  clear hB0 hx0 hy0 hb1
  cases hlb : linkB l with
  | false =>
    have HR : Hid (ackR l no = (zeroLk, false)) := ackR_bad hlb
    go_wp2_with (refine wpList_store_own2 rfl 27 _ _ rfl (w.heap.size + 1) #[.int .i64 0, .int .i64 0, .slice none 0 0, .int .i64 0, .slice none 0 0] rfl rfl 27 _ hy1 Try.sizeLk rfl (by simp [Value.oneCell']) ?_)
    intro w2 hv2 hbg _ hoth
    go_wp2
    refine bodyPost_ret (results_row_tmp rfl _ _ (w.heap.size + 1) 27 _ (0, 0) _ rfl hv2 Try.underlying27 rfl Try.sizeLk) rfl ?_
    rw [HR.out]
    exact ⟨_, _, rfl, ⟨none, 0, rfl, by simp [zeroLk], Or.inl rfl⟩, ⟨rfl, Or.inl ⟨rfl, rfl⟩⟩, hB1.trans (hbg.mono (by omega))⟩
  | true =>
    have hn := linkB_nums hlb
    have hhl := linkB_heldlen hlb
    obtain ⟨n1, n2, n3, n4, n5, n6⟩ := hn
    have N5 : Hid ((l.q.length : Int) = l.sent - l.acked) := n5
    clear n5
    have HLB : Hid (linkB l = true) := hlb
    clear hlb
    go_wp2_with (refine wpList_load_row rfl 27 _ rfl w.heap.size rfl 27 #[.int .i64 l.sent, .int .i64 l.acked, .slice a1 l.q.length c1, .int .i64 l.got, .slice a2 l.h.length c2] (0, 0) _ hx1 Try.underlying27 rfl Try.sizeLk ?_)
    refine (s10copy_any _ _ l _ (R1.below hB1) (R2.below hB1) (by omega) (by omega)).mono ?_
    rintro e w2 ⟨u1, u2, rfl, o1, o2, hb2⟩
    obtain ⟨b1, d1, rfl⟩ := own_form o1
    obtain ⟨b2, d2, rfl⟩ := own_form o2
    have hx2 := (hb2.block _ (Array.getElem?_eq_some_iff.1 hx1).1).trans hx1
    have hy2 := (hb2.block _ (Array.getElem?_eq_some_iff.1 hy1).1).trans hy1
    have hB2 := hB1.trans (hb2.mono hB1.size)
    have hlo : w.heap.size + 2 ≤ w1.heap.size := (Array.getElem?_eq_some_iff.1 hy1).1
    have hlo2 := hb2.size
    clear hB1 hx1 hy1 hb2
    go_wp2_with (refine wpList_store_own2 rfl 27 _ _ rfl w2.heap.size #[.int .i64 l.sent, .int .i64 l.acked, .slice b1 l.q.length d1, .int .i64 l.got, .slice b2 l.h.length d2] rfl rfl 27 _ (heap_alloc_new _ _) Try.sizeLk rfl (by simp [Value.oneCell']) ?_)
    intro w3 hn3 hbg3 hs3 _
    have hb3 : Below w2.heap.size w2 w3 := ((Below.refl _ _).alloc (Nat.le_refl _) _).trans hbg3
    have hx3 := (hb3.block _ (Array.getElem?_eq_some_iff.1 hx2).1).trans hx2
    have hy3 := (hb3.block _ (Array.getElem?_eq_some_iff.1 hy2).1).trans hy2
    have p1 := own_below o1 hb3
    have p2 := own_below o2 hb3
    have hB3 := hB2.trans (hb3.mono hB2.size)
    have hsn : w2.heap.size < w3.heap.size := (Array.getElem?_eq_some_iff.1 hn3).1
    clear hB2 hx2 hy2 o1 o2 hbg3 hs3 hb3
    generalize w2.heap.size = n at *
    generalize w1.heap.size = lo at *
    have cx1 : w3.cell? ⟨w.heap.size, 1, none⟩ = some (.int .i64 l.acked) := by rw [cell_of_row w3 _ 1 _ _ _ hx3]; rfl
    have cx3 : w3.cell? ⟨w.heap.size, 3, none⟩ = some (.int .i64 l.got) := by rw [cell_of_row w3 _ 3 _ _ _ hx3]; rfl
    have W2 : IntKind.i64.wrap (l.acked + 1) = l.acked + 1 := by rw [IntKind.wrap_i64]; omega
    by_cases hin : l.acked < no ∧ no ≤ l.got
    rotate_left
    · have HR : Hid (ackR l no = (l, false)) := ackR_no HLB.out hin
      have LI := lin_is no (l.acked + 1) l.got false (in_no (by omega))
      go_wp2_with fail
      refine (LI _).mono ?_
      rintro e w3' ⟨rfl, hw3⟩
      rw [hw3]
      clear hw3 w3'
      go_wp2_with (first
        | refine wpList_load_row rfl 27 _ rfl n rfl 27 #[.int .i64 l.sent, .int .i64 l.acked, .slice b1 l.q.length d1, .int .i64 l.got, .slice b2 l.h.length d2] (0, 0) _ hn3 Try.underlying27 rfl Try.sizeLk ?_
        | refine wpList_store_own2 rfl 27 _ _ rfl (w.heap.size + 1) #[.int .i64 l.sent, .int .i64 l.acked, .slice b1 l.q.length d1, .int .i64 l.got, .slice b2 l.h.length d2] rfl rfl 27 _ hy3 Try.sizeLk rfl (by simp [Value.oneCell']) ?_)
      intro w9 hv9 hbg9 _ hoth9
      have t1 := own_mono (B' := w.heap.size) (own_box p1 hy3 (by decide) hoth9) (by omega)
      have t2 := own_mono (B' := w.heap.size) (own_box p2 hy3 (by decide) hoth9) (by omega)
      go_wp2
      refine bodyPost_ret (results_row_tmp rfl _ _ (w.heap.size + 1) 27 _ (0, 0) _ rfl hv9 Try.underlying27 rfl Try.sizeLk) rfl ?_
      rw [HR.out]
      exact ⟨_, _, rfl, SOwn.of_own t1, t2, hB3.trans (hbg9.mono (by omega))⟩
    · have HR : Hid (ackR l no = (⟨l.sent, no, l.q.drop (no - l.acked).toNat, l.got, l.h⟩, true)) := ackR_yes HLB.out hin
      have LI := lin_is no (l.acked + 1) l.got true (in_yes (by omega))
      have hkl : (no - l.acked).toNat ≤ l.q.length := by have := N5.out; omega
      have hkp : 0 < l.q.length := by have := N5.out; omega
      have hkp2 : no - l.acked ≤ l.q.length := by have := N5.out; omega
      have hkp3 : 0 < no - l.acked := by omega
      have R1' := R1
      obtain ⟨ao', cap', e', hcc, _, _, hcell⟩ := R1'
      simp only [Value.slice.injEq, true_and] at e'
      obtain ⟨rfl, rfl⟩ := e'
      obtain ⟨g, o, rfl, hg, _⟩ := hcell (by intro e; rw [e] at hkp; simp at hkp)
      clear hcell
      have hcap := hcc.1
      clear hcc
      have cn1 : w3.cell? ⟨n, 1, none⟩ = some (.int .i64 l.acked) := by rw [cell_of_row w3 _ 1 _ _ _ hn3]; rfl
      have fn1 : w3.frozen? ⟨n, 1, none⟩ = false := frozen_of_row w3 _ 1 _ _ hn3
      have cn2 : w3.cell? ⟨n, 2, none⟩ = some (.slice b1 l.q.length d1) := by rw [cell_of_row w3 _ 2 _ _ _ hn3]; rfl
      have fn2 : w3.frozen? ⟨n, 2, none⟩ = false := frozen_of_row w3 _ 2 _ _ hn3
      have hxe := (heap_alloc_old w3 (Obj.cells #[] 9) (Array.getElem?_eq_some_iff.1 hx3).1).trans hx3
      have ce1 : (w3.alloc (Obj.cells #[] 9)).cell? ⟨w.heap.size, 1, none⟩ = some (.int .i64 l.acked) := by rw [cell_of_row _ _ 1 _ _ _ hxe]; rfl
      have ce2 : (w3.alloc (Obj.cells #[] 9)).cell? ⟨w.heap.size, 2, none⟩ = some (.slice (some ⟨g, o, none⟩) l.q.length c1) := by rw [cell_of_row _ _ 2 _ _ _ hxe]; rfl
      have ownE := own_none0 w3 9 1 lo (by omega)
      have RE := R1.below (hB3.alloc hB3.size (Obj.cells #[] 9))
      clear hin
      go_wp2_with fail
      refine (LI _).mono ?_
      rintro e w3' ⟨rfl, hw3⟩
      rw [hw3]
      clear hw3 w3'
      by_cases hd : c1 = (no - l.acked).toNat
      · subst hd
        have hlen : l.q.length - (no - l.acked).toNat = 0 := by omega
        have D1 := StRow.drop (k := (no - l.acked).toNat) RE rfl hkl (.slice (some ⟨g, o, none⟩) 0 0) (Or.inr ⟨rfl, rfl⟩)
        obtain ⟨Q, hQ⟩ : ∃ Q, Q = l.q.drop (no - l.acked).toNat := ⟨_, rfl⟩
        have HQ : Hid (Q = l.q.drop (no - l.acked).toNat) := hQ
        rw [← hQ] at D1
        have HL : Hid (Q.length = 0) := by unfold Hid; rw [hQ, List.length_drop]; exact hlen
        have hQl : Q.length ≤ 30 := by rw [hQ, List.length_drop]; omega
        clear hQ
        go_wp2_with (at_builtin; refine wpList_append_own_any _ rfl _ _ 24 rfl lo 9 i0 _ 1 16 Try.underlying24 hi hz0 hz1 hz2 rfl (by decide) _ 0 _ rfl ownE (some ⟨g, o, none⟩) (0) (0) (stv Q) rfl (by have := HL.out; rw [stv_length]; omega) D1.nilcap D1.cells (stv_one _) (by unfold maxLen; omega) (by omega) (by simp; omega) ?_)
        intro u4 w4 o4 hg4
        have o4' : w4.ownsRow lo 9 1 u4 Q.length (stv Q) := by rw [HL.out]; simpa using o4
        obtain ⟨b4, d4, rfl⟩ := own_form o4'
        have hbel4 : Below w3.heap.size (w3.alloc (Obj.cells #[] 9)) w4 := (Below.refl _ _).grown hg4 (by simp) (fun k hk => by simp [Value.ownBlock] at hk; omega)
        have hb4 : Below w3.heap.size w3 w4 := ((Below.refl _ _).alloc (Nat.le_refl _) _).trans hbel4
        have hy4 := (hb4.block _ (Array.getElem?_eq_some_iff.1 hy3).1).trans hy3
        have hn4 := (hb4.block _ (Array.getElem?_eq_some_iff.1 hn3).1).trans hn3
        have q2 := own_below p2 hb4
        have hB4 := hB3.trans (hb4.mono hB3.size)
        have en1 : w4.cell? ⟨n, 1, none⟩ = some (.int .i64 l.acked) := by rw [cell_of_row w4 _ 1 _ _ _ hn4]; rfl
        have gn1 : w4.frozen? ⟨n, 1, none⟩ = false := frozen_of_row w4 _ 1 _ _ hn4
        have en2 : w4.cell? ⟨n, 2, none⟩ = some (.slice b1 l.q.length d1) := by rw [cell_of_row w4 _ 2 _ _ _ hn4]; rfl
        have gn2 : w4.frozen? ⟨n, 2, none⟩ = false := frozen_of_row w4 _ 2 _ _ hn4
        have hn6 : ((w4.setCell ⟨n, 2, none⟩ (.slice b4 Q.length d4)).setCell ⟨n, 1, none⟩ (.int .i64 no)).heap[n]? = some (.cells #[.int .i64 l.sent, .int .i64 no, .slice b4 Q.length d4, .int .i64 l.got, .slice b2 l.h.length d2] 27 (0, 0)) := heap_setCell_same _ n 1 _ _ (.int .i64 no) (heap_setCell_same w4 n 2 _ _ (.slice b4 Q.length d4) hn4)
        have hy6 := (heap_setCell_other (w4.setCell ⟨n, 2, none⟩ (.slice b4 Q.length d4)) ⟨n, 1, none⟩ (w.heap.size + 1) (.int .i64 no) (by simp; omega)).trans ((heap_setCell_other w4 ⟨n, 2, none⟩ (w.heap.size + 1) (.slice b4 Q.length d4) (by simp; omega)).trans hy4)
        have r1 := ownsRow_setCell_other (ownsRow_setCell_other o4' (a := ⟨n, 2, none⟩) (own_ne o4' hn4 (by decide)) (.slice b4 Q.length d4)) (a := ⟨n, 1, none⟩) (own_ne o4' hn4 (by decide)) (.int .i64 no)
        have r2 := ownsRow_setCell_other (ownsRow_setCell_other q2 (a := ⟨n, 2, none⟩) (own_ne q2 hn4 (by decide)) (.slice b4 Q.length d4)) (a := ⟨n, 1, none⟩) (own_ne q2 hn4 (by decide)) (.int .i64 no)
        have hB6 := (hB4.setCell (p := ⟨n, 2, none⟩) (by simp; omega) (.slice b4 Q.length d4)).setCell (p := ⟨n, 1, none⟩) (by simp; omega) (.int .i64 no)
        clear hg4 o4 hbel4 hb4 hy4 hn4 q2 hB4 cn1 cn2 fn1 fn2 cx1 cx3 ce1 ce2 hxe hx3 hy3 hn3 hB3 p1 p2 ownE RE D1 o4'
        go_wp2_with (first
          | refine wpList_load_row rfl 27 _ rfl n rfl 27 #[.int .i64 l.sent, .int .i64 no, .slice b4 Q.length d4, .int .i64 l.got, .slice b2 l.h.length d2] (0, 0) _ hn6 Try.underlying27 rfl Try.sizeLk ?_
          | refine wpList_store_own2 rfl 27 _ _ rfl (w.heap.size + 1) #[.int .i64 l.sent, .int .i64 no, .slice b4 Q.length d4, .int .i64 l.got, .slice b2 l.h.length d2] rfl rfl 27 _ hy6 Try.sizeLk rfl (by simp [Value.oneCell']) ?_)
        intro w9 hv9 hbg9 _ hoth9
        have t1 := own_mono (B' := w.heap.size) (own_box r1 hy6 (by decide) hoth9) (by omega)
        have t2 := own_mono (B' := w.heap.size) (own_box r2 hy6 (by decide) hoth9) (by omega)
        go_wp2
        refine bodyPost_ret (results_row_tmp rfl _ _ (w.heap.size + 1) 27 _ (0, 0) _ rfl hv9 Try.underlying27 rfl Try.sizeLk) rfl ?_
        rw [HR.out, ← HQ.out]
        exact ⟨_, _, rfl, SOwn.of_own t1, t2, hB6.trans (hbg9.mono (by omega))⟩
      · have hd2 : (no - l.acked).toNat < c1 := by omega
        have D1 := StRow.drop (k := (no - l.acked).toNat) RE rfl hkl (.slice (some ⟨g, o + (no - l.acked).toNat, none⟩) (l.q.length - (no - l.acked).toNat) (c1 - (no - l.acked).toNat)) (Or.inl ⟨hd2, rfl⟩)
        obtain ⟨Q, hQ⟩ : ∃ Q, Q = l.q.drop (no - l.acked).toNat := ⟨_, rfl⟩
        have HQ : Hid (Q = l.q.drop (no - l.acked).toNat) := hQ
        rw [← hQ] at D1
        have HL : Hid (Q.length = l.q.length - (no - l.acked).toNat) := by unfold Hid; rw [hQ, List.length_drop]
        have hQl : Q.length ≤ 30 := by rw [hQ, List.length_drop]; omega
        clear hQ
        go_wp2_with (at_builtin; refine wpList_append_own_any _ rfl _ _ 24 rfl lo 9 i0 _ 1 16 Try.underlying24 hi hz0 hz1 hz2 rfl (by decide) _ 0 _ rfl ownE (some ⟨g, o + (no - l.acked).toNat, none⟩) (l.q.length - (no - l.acked).toNat) (c1 - (no - l.acked).toNat) (stv Q) rfl (by have := HL.out; rw [stv_length]; omega) D1.nilcap D1.cells (stv_one _) (by unfold maxLen; omega) (by omega) (by simp; omega) ?_)
        intro u4 w4 o4 hg4
        have o4' : w4.ownsRow lo 9 1 u4 Q.length (stv Q) := by rw [HL.out]; simpa using o4
        obtain ⟨b4, d4, rfl⟩ := own_form o4'
        have hbel4 : Below w3.heap.size (w3.alloc (Obj.cells #[] 9)) w4 := (Below.refl _ _).grown hg4 (by simp) (fun k hk => by simp [Value.ownBlock] at hk; omega)
        have hb4 : Below w3.heap.size w3 w4 := ((Below.refl _ _).alloc (Nat.le_refl _) _).trans hbel4
        have hy4 := (hb4.block _ (Array.getElem?_eq_some_iff.1 hy3).1).trans hy3
        have hn4 := (hb4.block _ (Array.getElem?_eq_some_iff.1 hn3).1).trans hn3
        have q2 := own_below p2 hb4
        have hB4 := hB3.trans (hb4.mono hB3.size)
        have en1 : w4.cell? ⟨n, 1, none⟩ = some (.int .i64 l.acked) := by rw [cell_of_row w4 _ 1 _ _ _ hn4]; rfl
        have gn1 : w4.frozen? ⟨n, 1, none⟩ = false := frozen_of_row w4 _ 1 _ _ hn4
        have en2 : w4.cell? ⟨n, 2, none⟩ = some (.slice b1 l.q.length d1) := by rw [cell_of_row w4 _ 2 _ _ _ hn4]; rfl
        have gn2 : w4.frozen? ⟨n, 2, none⟩ = false := frozen_of_row w4 _ 2 _ _ hn4
        have hn6 : ((w4.setCell ⟨n, 2, none⟩ (.slice b4 Q.length d4)).setCell ⟨n, 1, none⟩ (.int .i64 no)).heap[n]? = some (.cells #[.int .i64 l.sent, .int .i64 no, .slice b4 Q.length d4, .int .i64 l.got, .slice b2 l.h.length d2] 27 (0, 0)) := heap_setCell_same _ n 1 _ _ (.int .i64 no) (heap_setCell_same w4 n 2 _ _ (.slice b4 Q.length d4) hn4)
        have hy6 := (heap_setCell_other (w4.setCell ⟨n, 2, none⟩ (.slice b4 Q.length d4)) ⟨n, 1, none⟩ (w.heap.size + 1) (.int .i64 no) (by simp; omega)).trans ((heap_setCell_other w4 ⟨n, 2, none⟩ (w.heap.size + 1) (.slice b4 Q.length d4) (by simp; omega)).trans hy4)
        have r1 := ownsRow_setCell_other (ownsRow_setCell_other o4' (a := ⟨n, 2, none⟩) (own_ne o4' hn4 (by decide)) (.slice b4 Q.length d4)) (a := ⟨n, 1, none⟩) (own_ne o4' hn4 (by decide)) (.int .i64 no)
        have r2 := ownsRow_setCell_other (ownsRow_setCell_other q2 (a := ⟨n, 2, none⟩) (own_ne q2 hn4 (by decide)) (.slice b4 Q.length d4)) (a := ⟨n, 1, none⟩) (own_ne q2 hn4 (by decide)) (.int .i64 no)
        have hB6 := (hB4.setCell (p := ⟨n, 2, none⟩) (by simp; omega) (.slice b4 Q.length d4)).setCell (p := ⟨n, 1, none⟩) (by simp; omega) (.int .i64 no)
        clear hg4 o4 hbel4 hb4 hy4 hn4 q2 hB4 cn1 cn2 fn1 fn2 cx1 cx3 ce1 ce2 hxe hx3 hy3 hn3 hB3 p1 p2 ownE RE D1 o4'
        go_wp2_with (first
          | refine wpList_load_row rfl 27 _ rfl n rfl 27 #[.int .i64 l.sent, .int .i64 no, .slice b4 Q.length d4, .int .i64 l.got, .slice b2 l.h.length d2] (0, 0) _ hn6 Try.underlying27 rfl Try.sizeLk ?_
          | refine wpList_store_own2 rfl 27 _ _ rfl (w.heap.size + 1) #[.int .i64 l.sent, .int .i64 no, .slice b4 Q.length d4, .int .i64 l.got, .slice b2 l.h.length d2] rfl rfl 27 _ hy6 Try.sizeLk rfl (by simp [Value.oneCell']) ?_)
        intro w9 hv9 hbg9 _ hoth9
        have t1 := own_mono (B' := w.heap.size) (own_box r1 hy6 (by decide) hoth9) (by omega)
        have t2 := own_mono (B' := w.heap.size) (own_box r2 hy6 (by decide) hoth9) (by omega)
        go_wp2
        refine bodyPost_ret (results_row_tmp rfl _ _ (w.heap.size + 1) 27 _ (0, 0) _ rfl hv9 Try.underlying27 rfl Try.sizeLk) rfl ?_
        rw [HR.out, ← HQ.out]
        exact ⟨_, _, rfl, SOwn.of_own t1, t2, hB6.trans (hbg9.mono (by omega))⟩
end Go.Proofs.Ytkhokfkcicaojaa
