/-
  Contract of impl's LinkAck. No condition.
-/
import Derived.Test.YtgjebgdingahjaaLkAckM
namespace Go.Proofs.Ytgjebgdingahjaa
open Go.RowKit

set_option maxRecDepth 100000 in
set_option maxHeartbeats 3200000 in
theorem ilinkack_any (v1 v2 : Value) (l : Lk) (no : Int) (w : World) (R1 : StRow w v1 l.q) (R2 : PcRow w v2 l.h) :
    Calls Try.prog 10 #[.agg #[.int .i64 l.sent, .int .i64 l.acked, v1, .int .i64 l.got, v2], .int .i64 no] w fun e w' => LkAns w w' e (ackR l no) := by
  have hzq := R1.sz
  have hzh := R2.sz
  obtain ⟨a1, c1, rfl⟩ := R1.small
  obtain ⟨a2, c2, rfl⟩ := R2.small
  obtain ⟨i0, hi, hz0, hz1, hz2⟩ := info_parts Try.infoStr
  obtain ⟨hB0, hx0, hy0⟩ := two_bx w (Obj.cells #[.int .i64 l.sent, .int .i64 l.acked, .slice a1 l.q.length c1, .int .i64 l.got, .slice a2 l.h.length c2] 27) (Obj.cells #[.int .i64 0, .int .i64 0, .slice none 0 0, .int .i64 0, .slice none 0 0] 27)
  have IO := fun (v1 v2 : Value) (l : Lk) (w : World) R1 R2 => ilinkok_any v1 v2 l w R1 R2
  go_enter Try.func10, Try.ntmps10
  go_wp2_with (refine wpList_load_row rfl 27 _ rfl w.heap.size rfl 27 #[.int .i64 l.sent, .int .i64 l.acked, .slice a1 l.q.length c1, .int .i64 l.got, .slice a2 l.h.length c2] (0, 0) _ hx0 Try.underlying27 rfl Try.sizeLk ?_)
  refine (IO _ _ l _ (R1.below hB0) (R2.below hB0)).mono ?_
  rintro e w1 ⟨rfl, hb1⟩
  have hx1 := (hb1.block _ (Array.getElem?_eq_some_iff.1 hx0).1).trans hx0
  have hy1 := (hb1.block _ (Array.getElem?_eq_some_iff.1 hy0).1).trans hy0
  have hB1 := hB0.trans (hb1.mono hB0.size)
  clear hB0 hx0 hy0 hb1
  cases hlb : linkB l with
  | false =>
    have HR : Hid (ackR l no = (zeroLk, false)) := ackR_bad hlb
    go_wp2_with (refine wpList_store_own2 rfl 27 _ _ rfl (w.heap.size + 1) #[.int .i64 0, .int .i64 0, .slice none 0 0, .int .i64 0, .slice none 0 0] rfl rfl 27 _ hy1 Try.sizeLk rfl (by simp [Value.oneCell']) ?_)
    intro w2 hv2 hbg _ hoth
    go_wp2
    refine bodyPost_ret (results_row_tmp rfl _ _ (w.heap.size + 1) 27 _ (0, 0) _ rfl hv2 Try.underlying27 rfl Try.sizeLk) rfl ?_
    rw [HR.out]
    exact ⟨_, _, rfl, ⟨none, 0, rfl, by simp [zeroLk], Or.inl rfl⟩, ⟨rfl, Or.inl ⟨rfl, rfl⟩⟩, hB1.trans (hbg.mono (by omega))⟩
  | true =>
    have hn := linkB_nums hlb
    have hhl := linkB_heldlen hlb
    obtain ⟨n1, n2, n3, n4, n5, n6⟩ := hn
    have N5 : Hid ((l.q.length : Int) = l.sent - l.acked) := n5
    clear n5
    have HLB : Hid (linkB l = true) := hlb
    clear hlb
    go_wp2_with (refine wpList_load_row rfl 27 _ rfl w.heap.size rfl 27 #[.int .i64 l.sent, .int .i64 l.acked, .slice a1 l.q.length c1, .int .i64 l.got, .slice a2 l.h.length c2] (0, 0) _ hx1 Try.underlying27 rfl Try.sizeLk ?_)
    refine (lcopied_any _ _ l _ (R1.below hB1) (R2.below hB1) (by omega) (by omega)).mono ?_
    rintro e w2 ⟨u1, u2, rfl, o1, o2, hb2⟩
    obtain ⟨b1, d1, rfl⟩ := own_form o1
    obtain ⟨b2, d2, rfl⟩ := own_form o2
    have hx2 := (hb2.block _ (Array.getElem?_eq_some_iff.1 hx1).1).trans hx1
    have hy2 := (hb2.block _ (Array.getElem?_eq_some_iff.1 hy1).1).trans hy1
    have hB2 := hB1.trans (hb2.mono hB1.size)
    have hlo : w.heap.size + 2 ≤ w1.heap.size := (Array.getElem?_eq_some_iff.1 hy1).1
    have hlo2 := hb2.size
    clear hB1 hx1 hy1 hb2
    go_wp2_with (refine wpList_store_own2 rfl 27 _ _ rfl w2.heap.size #[.int .i64 l.sent, .int .i64 l.acked, .slice b1 l.q.length d1, .int .i64 l.got, .slice b2 l.h.length d2] rfl rfl 27 _ (heap_alloc_new _ _) Try.sizeLk rfl (by simp [Value.oneCell']) ?_)
    intro w3 hn3 hbg3 hs3 _
    have hb3 : Below w2.heap.size w2 w3 := ((Below.refl _ _).alloc (Nat.le_refl _) _).trans hbg3
    have hx3 := (hb3.block _ (Array.getElem?_eq_some_iff.1 hx2).1).trans hx2
    have hy3 := (hb3.block _ (Array.getElem?_eq_some_iff.1 hy2).1).trans hy2
    have p1 := own_below o1 hb3
    have p2 := own_below o2 hb3
    have hB3 := hB2.trans (hb3.mono hB2.size)
    have hsn : w2.heap.size < w3.heap.size := (Array.getElem?_eq_some_iff.1 hn3).1
    clear hB2 hx2 hy2 o1 o2 hbg3 hs3 hb3
    generalize w2.heap.size = n at *
    generalize w1.heap.size = lo at *
    have cx1 : w3.cell? ⟨w.heap.size, 1, none⟩ = some (.int .i64 l.acked) := by rw [cell_of_row w3 _ 1 _ _ _ hx3]; rfl
    have cx3 : w3.cell? ⟨w.heap.size, 3, none⟩ = some (.int .i64 l.got) := by rw [cell_of_row w3 _ 3 _ _ _ hx3]; rfl
    by_cases hin : l.acked < no ∧ no ≤ l.got
    rotate_left
    · have HR : Hid (ackR l no = (l, false)) := ackR_no HLB.out hin
      by_cases hle : no ≤ l.acked
      · go_wp2_with (first
          | refine wpList_load_row rfl 27 _ rfl n rfl 27 #[.int .i64 l.sent, .int .i64 l.acked, .slice b1 l.q.length d1, .int .i64 l.got, .slice b2 l.h.length d2] (0, 0) _ hn3 Try.underlying27 rfl Try.sizeLk ?_
          | refine wpList_store_own2 rfl 27 _ _ rfl (w.heap.size + 1) #[.int .i64 l.sent, .int .i64 l.acked, .slice b1 l.q.length d1, .int .i64 l.got, .slice b2 l.h.length d2] rfl rfl 27 _ hy3 Try.sizeLk rfl (by simp [Value.oneCell']) ?_)
        intro w9 hv9 hbg9 _ hoth9
        have t1 := own_mono (B' := w.heap.size) (own_box p1 hy3 (by decide) hoth9) (by omega)
        have t2 := own_mono (B' := w.heap.size) (own_box p2 hy3 (by decide) hoth9) (by omega)
        go_wp2
        refine bodyPost_ret (results_row_tmp rfl _ _ (w.heap.size + 1) 27 _ (0, 0) _ rfl hv9 Try.underlying27 rfl Try.sizeLk) rfl ?_
        rw [HR.out]
        exact ⟨_, _, rfl, SOwn.of_own t1, t2, hB3.trans (hbg9.mono (by omega))⟩
      · have hgt : l.got < no := by omega
        go_wp2_with (first
          | refine wpList_load_row rfl 27 _ rfl n rfl 27 #[.int .i64 l.sent, .int .i64 l.acked, .slice b1 l.q.length d1, .int .i64 l.got, .slice b2 l.h.length d2] (0, 0) _ hn3 Try.underlying27 rfl Try.sizeLk ?_
          | refine wpList_store_own2 rfl 27 _ _ rfl (w.heap.size + 1) #[.int .i64 l.sent, .int .i64 l.acked, .slice b1 l.q.length d1, .int .i64 l.got, .slice b2 l.h.length d2] rfl rfl 27 _ hy3 Try.sizeLk rfl (by simp [Value.oneCell']) ?_)
        intro w9 hv9 hbg9 _ hoth9
        have t1 := own_mono (B' := w.heap.size) (own_box p1 hy3 (by decide) hoth9) (by omega)
        have t2 := own_mono (B' := w.heap.size) (own_box p2 hy3 (by decide) hoth9) (by omega)
        go_wp2
        refine bodyPost_ret (results_row_tmp rfl _ _ (w.heap.size + 1) 27 _ (0, 0) _ rfl hv9 Try.underlying27 rfl Try.sizeLk) rfl ?_
        rw [HR.out]
        exact ⟨_, _, rfl, SOwn.of_own t1, t2, hB3.trans (hbg9.mono (by omega))⟩
    · have HR : Hid (ackR l no = (⟨l.sent, no, l.q.drop (no - l.acked).toNat, l.got, l.h⟩, true)) := ackR_yes HLB.out hin
      have hkl : (no - l.acked).toNat ≤ l.q.length := by have := N5.out; omega
      have hkp : 0 < l.q.length := by have := N5.out; omega
      have hkp2 : no - l.acked ≤ l.q.length := by have := N5.out; omega
      have hkp3 : 0 < no - l.acked := by omega
      have g1 : ¬ no ≤ l.acked := by omega
      have g2 : ¬ l.got < no := by omega
      obtain ⟨g, hb1, hcap⟩ : ∃ g, b1 = some ⟨g, 0, none⟩ ∧ l.q.length ≤ d1 := by
        rcases p1.2 with ⟨e, h0⟩ | ⟨g, cap, cur, e, hb, hg, hnc, _⟩
        · omega
        · simp only [Value.slice.injEq] at e
          exact ⟨g, e.1, by rw [e.2.2]; exact hnc⟩
      subst hb1
      have cn1 : w3.cell? ⟨n, 1, none⟩ = some (.int .i64 l.acked) := by rw [cell_of_row w3 _ 1 _ _ _ hn3]; rfl
      have fn1 : w3.frozen? ⟨n, 1, none⟩ = false := frozen_of_row w3 _ 1 _ _ hn3
      have cn2 : w3.cell? ⟨n, 2, none⟩ = some (.slice (some ⟨g, 0, none⟩) l.q.length d1) := by rw [cell_of_row w3 _ 2 _ _ _ hn3]; rfl
      have fn2 : w3.frozen? ⟨n, 2, none⟩ = false := frozen_of_row w3 _ 2 _ _ hn3
      clear hin
      by_cases hd : d1 = (no - l.acked).toNat
      · subst hd
        have hlen : l.q.length - (no - l.acked).toNat = 0 := by omega
        have HSD : ∀ W : World, W.ownsRow lo 9 1 (.slice (some ⟨g, 0, none⟩) l.q.length (no - l.acked).toNat) l.q.length (stv l.q) → SOwn W lo (.slice (some ⟨g, 0, none⟩) 0 0) (l.q.drop (no - l.acked).toNat) := fun W h => SOwn.drop h rfl hkl hcap _ (Or.inr ⟨rfl, rfl⟩)
        go_wp2_with fail
        go_region
        have hn5 : ((w3.setCell ⟨n, 1, none⟩ (.int .i64 no)).setCell ⟨n, 2, none⟩ (.slice (some ⟨g, 0, none⟩) 0 0)).drew.heap[n]? = some (.cells #[.int .i64 l.sent, .int .i64 no, .slice (some ⟨g, 0, none⟩) 0 0, .int .i64 l.got, .slice b2 l.h.length d2] 27 (0, 0)) := heap_setCell_same _ n 2 _ _ (.slice (some ⟨g, 0, none⟩) 0 0) (heap_setCell_same w3 n 1 _ _ (.int .i64 no) hn3)
        have hy5 : ((w3.setCell ⟨n, 1, none⟩ (.int .i64 no)).setCell ⟨n, 2, none⟩ (.slice (some ⟨g, 0, none⟩) 0 0)).drew.heap[w.heap.size + 1]? = some (.cells #[.int .i64 0, .int .i64 0, .slice none 0 0, .int .i64 0, .slice none 0 0] 27 (0, 0)) := (heap_setCell_other _ ⟨n, 2, none⟩ (w.heap.size + 1) _ (by simp; omega)).trans ((heap_setCell_other w3 ⟨n, 1, none⟩ (w.heap.size + 1) _ (by simp; omega)).trans hy3)
        have r1 := HSD _ (ownsRow_setCell_other (ownsRow_setCell_other p1 (a := ⟨n, 1, none⟩) (own_ne p1 hn3 (by decide)) (.int .i64 no)) (a := ⟨n, 2, none⟩) (own_ne p1 hn3 (by decide)) (.slice (some ⟨g, 0, none⟩) 0 0)).drew
        have r2 := (ownsRow_setCell_other (ownsRow_setCell_other p2 (a := ⟨n, 1, none⟩) (own_ne p2 hn3 (by decide)) (.int .i64 no)) (a := ⟨n, 2, none⟩) (own_ne p2 hn3 (by decide)) (.slice (some ⟨g, 0, none⟩) 0 0)).drew
        have hB5 := ((hB3.setCell (p := ⟨n, 1, none⟩) (by simp; omega) (.int .i64 no)).setCell (p := ⟨n, 2, none⟩) (by simp; omega) (.slice (some ⟨g, 0, none⟩) 0 0)).drew
        clear hx3 hy3 hn3 hB3 p1 p2 cn1 cn2 fn1 fn2 cx1 cx3
        go_wp2_with (first
          | refine wpList_load_row rfl 27 _ rfl n rfl 27 #[.int .i64 l.sent, .int .i64 no, .slice (some ⟨g, 0, none⟩) 0 0, .int .i64 l.got, .slice b2 l.h.length d2] (0, 0) _ hn5 Try.underlying27 rfl Try.sizeLk ?_
          | refine wpList_store_own2 rfl 27 _ _ rfl (w.heap.size + 1) #[.int .i64 l.sent, .int .i64 no, .slice (some ⟨g, 0, none⟩) 0 0, .int .i64 l.got, .slice b2 l.h.length d2] rfl rfl 27 _ hy5 Try.sizeLk rfl (by simp [Value.oneCell']) ?_)
        intro w9 hv9 hbg9 _ hoth9
        have t1 := SOwn.box r1 hy5 (by decide) hoth9 (B' := w.heap.size) (by omega)
        have t2 := own_mono (B' := w.heap.size) (own_box r2 hy5 (by decide) hoth9) (by omega)
        go_wp2
        refine bodyPost_ret (results_row_tmp rfl _ _ (w.heap.size + 1) 27 _ (0, 0) _ rfl hv9 Try.underlying27 rfl Try.sizeLk) rfl ?_
        rw [HR.out]
        exact ⟨_, _, rfl, t1, t2, hB5.trans (hbg9.mono (by omega))⟩
      · have hd2 : (no - l.acked).toNat < d1 := by omega
        have HSD : ∀ W : World, W.ownsRow lo 9 1 (.slice (some ⟨g, 0, none⟩) l.q.length d1) l.q.length (stv l.q) → SOwn W lo (.slice (some ⟨g, (no - l.acked).toNat, none⟩) (l.q.length - (no - l.acked).toNat) (d1 - (no - l.acked).toNat)) (l.q.drop (no - l.acked).toNat) := fun W h => SOwn.drop h rfl hkl hcap _ (Or.inl ⟨hd2, rfl⟩)
        go_wp2_with fail
        go_region
        have hn5 : ((w3.setCell ⟨n, 1, none⟩ (.int .i64 no)).setCell ⟨n, 2, none⟩ (.slice (some ⟨g, (no - l.acked).toNat, none⟩) (l.q.length - (no - l.acked).toNat) (d1 - (no - l.acked).toNat))).drew.heap[n]? = some (.cells #[.int .i64 l.sent, .int .i64 no, .slice (some ⟨g, (no - l.acked).toNat, none⟩) (l.q.length - (no - l.acked).toNat) (d1 - (no - l.acked).toNat), .int .i64 l.got, .slice b2 l.h.length d2] 27 (0, 0)) := heap_setCell_same _ n 2 _ _ (.slice (some ⟨g, (no - l.acked).toNat, none⟩) (l.q.length - (no - l.acked).toNat) (d1 - (no - l.acked).toNat)) (heap_setCell_same w3 n 1 _ _ (.int .i64 no) hn3)
        have hy5 : ((w3.setCell ⟨n, 1, none⟩ (.int .i64 no)).setCell ⟨n, 2, none⟩ (.slice (some ⟨g, (no - l.acked).toNat, none⟩) (l.q.length - (no - l.acked).toNat) (d1 - (no - l.acked).toNat))).drew.heap[w.heap.size + 1]? = some (.cells #[.int .i64 0, .int .i64 0, .slice none 0 0, .int .i64 0, .slice none 0 0] 27 (0, 0)) := (heap_setCell_other _ ⟨n, 2, none⟩ (w.heap.size + 1) _ (by simp; omega)).trans ((heap_setCell_other w3 ⟨n, 1, none⟩ (w.heap.size + 1) _ (by simp; omega)).trans hy3)
        have r1 := HSD _ (ownsRow_setCell_other (ownsRow_setCell_other p1 (a := ⟨n, 1, none⟩) (own_ne p1 hn3 (by decide)) (.int .i64 no)) (a := ⟨n, 2, none⟩) (own_ne p1 hn3 (by decide)) (.slice (some ⟨g, (no - l.acked).toNat, none⟩) (l.q.length - (no - l.acked).toNat) (d1 - (no - l.acked).toNat))).drew
        have r2 := (ownsRow_setCell_other (ownsRow_setCell_other p2 (a := ⟨n, 1, none⟩) (own_ne p2 hn3 (by decide)) (.int .i64 no)) (a := ⟨n, 2, none⟩) (own_ne p2 hn3 (by decide)) (.slice (some ⟨g, (no - l.acked).toNat, none⟩) (l.q.length - (no - l.acked).toNat) (d1 - (no - l.acked).toNat))).drew
        have hB5 := ((hB3.setCell (p := ⟨n, 1, none⟩) (by simp; omega) (.int .i64 no)).setCell (p := ⟨n, 2, none⟩) (by simp; omega) (.slice (some ⟨g, (no - l.acked).toNat, none⟩) (l.q.length - (no - l.acked).toNat) (d1 - (no - l.acked).toNat))).drew
        clear hx3 hy3 hn3 hB3 p1 p2 cn1 cn2 fn1 fn2 cx1 cx3
        go_wp2_with (first
          | refine wpList_load_row rfl 27 _ rfl n rfl 27 #[.int .i64 l.sent, .int .i64 no, .slice (some ⟨g, (no - l.acked).toNat, none⟩) (l.q.length - (no - l.acked).toNat) (d1 - (no - l.acked).toNat), .int .i64 l.got, .slice b2 l.h.length d2] (0, 0) _ hn5 Try.underlying27 rfl Try.sizeLk ?_
          | refine wpList_store_own2 rfl 27 _ _ rfl (w.heap.size + 1) #[.int .i64 l.sent, .int .i64 no, .slice (some ⟨g, (no - l.acked).toNat, none⟩) (l.q.length - (no - l.acked).toNat) (d1 - (no - l.acked).toNat), .int .i64 l.got, .slice b2 l.h.length d2] rfl rfl 27 _ hy5 Try.sizeLk rfl (by simp [Value.oneCell']) ?_)
        intro w9 hv9 hbg9 _ hoth9
        have t1 := SOwn.box r1 hy5 (by decide) hoth9 (B' := w.heap.size) (by omega)
        have t2 := own_mono (B' := w.heap.size) (own_box r2 hy5 (by decide) hoth9) (by omega)
        go_wp2
        refine bodyPost_ret (results_row_tmp rfl _ _ (w.heap.size + 1) 27 _ (0, 0) _ rfl hv9 Try.underlying27 rfl Try.sizeLk) rfl ?_
        rw [HR.out]
        exact ⟨_, _, rfl, t1, t2, hB5.trans (hbg9.mono (by omega))⟩
end Go.Proofs.Ytgjebgdingahjaa
