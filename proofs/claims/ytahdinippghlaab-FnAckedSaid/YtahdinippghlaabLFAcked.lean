/-
  The law FnAcked, walked: at every argument it returns true.
-/
import Derived.Test.YtahdinippghlaabDLk3
import Derived.Test.YtahdinippghlaabILkAck
import Derived.Test.YtahdinippghlaabSLkAck
import Derived.Test.YtahdinippghlaabSameT
import Derived.Deep.RegionHeld
namespace Go.Proofs.Ytahdinippghlaab
open Go.RowKit

set_option maxRecDepth 100000 in
set_option maxHeartbeats 400000 in
theorem facked_big (ao : Option Addr) (len cap : Nat) (w : World) (hl : 1048576 < len) (hm : len ≤ 9223372036854775807) :
    Calls Try.prog 4 #[.slice ao len cap] w fun e w' => e = .returned (.bool true) ∧ Below w.heap.size w w' := by
  go_enter Try.func4, Try.ntmps4
  go_wp2_with (go_at_call 7; go_in)
  go_ret
  exact ⟨rfl, Below.refl _ _⟩

set_option maxRecDepth 100000 in
set_option maxHeartbeats 12800000 in
theorem facked_small (ao : Option Addr) (cap : Nat) (zs : List Int) (w : World) (R : Row w (.slice ao zs.length cap) zs) (hl : zs.length ≤ 1048576) :
    Calls Try.prog 4 #[.slice ao zs.length cap] w fun e w' => e = .returned (.bool true) ∧ Below w.heap.size w w' := by
  go_enter Try.func4, Try.ntmps4
  go_wp2_with (go_at_call 7; go_in)
  refine (dlinkack_any _ zs w R hl).mono ?_
  rintro e w1 ⟨k, v1, v2, nk, rfl, R1, R2, nq, nh, zq, zh, hB1⟩
  obtain ⟨a1, c1, rfl⟩ := R1.small
  obtain ⟨a2, c2, rfl⟩ := R2.small
  go_wp2_with (refine wpList_store_own2 rfl 27 _ _ rfl w1.heap.size #[.int .i64 k.sent, .int .i64 k.acked, .slice a1 k.q.length c1, .int .i64 k.got, .slice a2 k.h.length c2] rfl rfl 27 _ (heap_alloc_new _ _) Try.sizeLk rfl (by simp [Value.oneCell']) ?_)
  intro w2 hn2 hbg2 hs2 ho2
  clear hs2 ho2
  have hb2 : Below w1.heap.size w1 w2 := ((Below.refl _ _).alloc (Nat.le_refl _) _).trans hbg2
  replace R1 := R1.below hb2
  replace R2 := R2.below hb2
  have hB2 := hB1.trans (hb2.mono hB1.size)
  clear hb2 hbg2 hB1
  generalize w1.heap.size = b3 at *
  have hl3 : b3 < w2.heap.size := (Array.getElem?_eq_some_iff.1 hn2).1
  have IO := fun (w : World) (v1 v2 : Value) (R1 : StRow w v1 k.q) (R2 : PcRow w v2 k.h) => ilinkok_any v1 v2 k w R1 R2
  have SO := fun (w : World) (v1 v2 : Value) (R1 : StRow w v1 k.q) (R2 : PcRow w v2 k.h) => slinkok_any v1 v2 k w R1 R2
  generalize linkB k = lb at IO SO
  have lbb : (lb != lb) = false := by simp
  have sS : w2.cell? ⟨b3, 0, none⟩ = some (.int .i64 k.sent) ∧ w2.cell? ⟨b3, 1, none⟩ = some (.int .i64 k.acked) ∧ w2.cell? ⟨b3, 2, none⟩ = some (.slice a1 k.q.length c1) ∧ w2.cell? ⟨b3, 3, none⟩ = some (.int .i64 k.got) ∧ w2.cell? ⟨b3, 4, none⟩ = some (.slice a2 k.h.length c2) := ⟨cell_of_row w2 _ 0 _ _ _ hn2, cell_of_row w2 _ 1 _ _ _ hn2, cell_of_row w2 _ 2 _ _ _ hn2, cell_of_row w2 _ 3 _ _ _ hn2, cell_of_row w2 _ 4 _ _ _ hn2⟩
  go_wp2_with fail
  go_region_held (fun w' => w'.cell? ⟨b3, 0, none⟩ = some (.int .i64 k.sent) ∧ w'.cell? ⟨b3, 1, none⟩ = some (.int .i64 k.acked) ∧ w'.cell? ⟨b3, 2, none⟩ = some (.slice a1 k.q.length c1) ∧ w'.cell? ⟨b3, 3, none⟩ = some (.int .i64 k.got) ∧ w'.cell? ⟨b3, 4, none⟩ = some (.slice a2 k.h.length c2)) (first | exact s4 | exact s3 | go_keep) (first
    | (go_at_call 13; refine (IO _ _ _ ?_ ?_).mono ?_; exact R1.below (Below.refl _ _).drew; exact R2.below (Below.refl _ _).drew; rintro e w3 ⟨rfl, hb3⟩; have hb23 : Below w2.heap.size w2 w3 := (Below.refl _ _).drew.trans hb3; have s3 : w3.cell? ⟨b3, 0, none⟩ = some (.int .i64 k.sent) ∧ w3.cell? ⟨b3, 1, none⟩ = some (.int .i64 k.acked) ∧ w3.cell? ⟨b3, 2, none⟩ = some (.slice a1 k.q.length c1) ∧ w3.cell? ⟨b3, 3, none⟩ = some (.int .i64 k.got) ∧ w3.cell? ⟨b3, 4, none⟩ = some (.slice a2 k.h.length c2) := ⟨(hb23.cell (p := ⟨b3, 0, none⟩) hl3).trans sS.1, (hb23.cell (p := ⟨b3, 1, none⟩) hl3).trans sS.2.1, (hb23.cell (p := ⟨b3, 2, none⟩) hl3).trans sS.2.2.1, (hb23.cell (p := ⟨b3, 3, none⟩) hl3).trans sS.2.2.2.1, (hb23.cell (p := ⟨b3, 4, none⟩) hl3).trans sS.2.2.2.2⟩)
    | (go_at_call 11; refine (SO _ _ _ ?_ ?_).mono ?_; exact R1.below hb23; exact R2.below hb23; rintro e w4 ⟨rfl, hb4⟩; have hb24 : Below w2.heap.size w2 w4 := hb23.trans (hb4.mono hb23.size); have s4 : w4.cell? ⟨b3, 0, none⟩ = some (.int .i64 k.sent) ∧ w4.cell? ⟨b3, 1, none⟩ = some (.int .i64 k.acked) ∧ w4.cell? ⟨b3, 2, none⟩ = some (.slice a1 k.q.length c1) ∧ w4.cell? ⟨b3, 3, none⟩ = some (.int .i64 k.got) ∧ w4.cell? ⟨b3, 4, none⟩ = some (.slice a2 k.h.length c2) := ⟨(hb24.cell (p := ⟨b3, 0, none⟩) hl3).trans sS.1, (hb24.cell (p := ⟨b3, 1, none⟩) hl3).trans sS.2.1, (hb24.cell (p := ⟨b3, 2, none⟩) hl3).trans sS.2.2.1, (hb24.cell (p := ⟨b3, 3, none⟩) hl3).trans sS.2.2.2.1, (hb24.cell (p := ⟨b3, 4, none⟩) hl3).trans sS.2.2.2.2⟩))
  all_goals
    have hB4 := hB2.trans (hb24.mono hB2.size)
    clear hb3 hb23 hb4 hb24 s3 s4 sS hn2 R1 R2 hB2 hl3 IO SO
    go_wp2_with fail
    refine (dlinkack_any _ zs w4 (R.below hB4) hl).mono ?_
    rintro e w5 ⟨l, v1, v2, no, rfl, R1, R2, nq, nh, zq, zh, hB5'⟩
    obtain ⟨x1, y1, rfl⟩ := R1.small
    obtain ⟨x2, y2, rfl⟩ := R2.small
    have hB5 := hB4.trans (hB5'.mono hB4.size)
    clear hB4 hB5'
    go_wp2_with (refine wpList_store_own2 rfl 27 _ _ rfl w5.heap.size #[.int .i64 l.sent, .int .i64 l.acked, .slice x1 l.q.length y1, .int .i64 l.got, .slice x2 l.h.length y2] rfl rfl 27 _ (heap_alloc_new _ _) Try.sizeLk rfl (by simp [Value.oneCell']) ?_)
    intro w6 hn6 hbg6 hs6 ho6
    clear hs6 ho6
    have hb6 : Below w5.heap.size w5 w6 := ((Below.refl _ _).alloc (Nat.le_refl _) _).trans hbg6
    replace R1 := R1.below hb6
    replace R2 := R2.below hb6
    have hB6 := hB5.trans (hb6.mono hB5.size)
    clear hb6 hbg6 hB5
    generalize w5.heap.size = b5 at *
    go_wp2_with (refine wpList_load_row rfl 27 _ rfl b5 rfl 27 #[.int .i64 l.sent, .int .i64 l.acked, .slice x1 l.q.length y1, .int .i64 l.got, .slice x2 l.h.length y2] (0, 0) _ hn6 Try.underlying27 rfl Try.sizeLk ?_)
    refine (ilinkack_any _ _ l no _ R1 R2).mono ?_
    rintro e w7 ⟨u1, u2, rfl, q7, h7, hb7⟩
    obtain ⟨f3, g3, rfl⟩ := q7.form
    obtain ⟨f4, g4, rfl⟩ := own_form h7
    have hn7 := (hb7.block _ (Array.getElem?_eq_some_iff.1 hn6).1).trans hn6
    replace R1 := R1.below hb7
    replace R2 := R2.below hb7
    have hB7 := hB6.trans (hb7.mono hB6.size)
    clear hb7 hB6 hn6
    have hMM := ackR_ok l no zq zh
    have hML := ackR_len l no
    have Q3 := q7.row (by omega) hMM.1
    have H3 := PcRow.of_own h7 (by omega) hMM.2
    clear q7 h7
    have SS := fun (w : World) (v1 v2 : Value) (R1 : StRow w v1 l.q) (R2 : PcRow w v2 l.h) => slinkack_any v1 v2 l no w R1 R2
    have HRR : Hid (ackR l no = (if linkB l = true then (if l.acked < no ∧ no ≤ l.got then (ackL l no, true) else (l, false)) else (zeroLk, false))) := rfl
    have hlb := ackR_lb (l := l) no
    have hnums := fun h => linkB_nums (l := l) h
    generalize ackR l no = RR at *
    obtain ⟨M, bb⟩ := RR
    simp only at Q3 H3 hMM hML hlb
    go_wp2_with (refine wpList_store_own2 rfl 27 _ _ rfl w7.heap.size #[.int .i64 M.sent, .int .i64 M.acked, .slice f3 M.q.length g3, .int .i64 M.got, .slice f4 M.h.length g4] rfl rfl 27 _ (heap_alloc_new _ _) Try.sizeLk rfl (by simp [Value.oneCell']) ?_)
    intro w8 hm8 hbg8 hs8 ho8
    clear hs8 ho8
    have hb8 : Below w7.heap.size w7 w8 := ((Below.refl _ _).alloc (Nat.le_refl _) _).trans hbg8
    have hn8 := (hb8.block _ (Array.getElem?_eq_some_iff.1 hn7).1).trans hn7
    replace R1 := R1.below hb8
    replace R2 := R2.below hb8
    replace Q3 := Q3.below hb8
    replace H3 := H3.below hb8
    have hB8 := hB7.trans (hb8.mono hB7.size)
    clear hb8 hbg8 hB7 hn7
    generalize w7.heap.size = b7 at *
    go_wp2_with (refine wpList_load_row rfl 27 _ rfl b5 rfl 27 #[.int .i64 l.sent, .int .i64 l.acked, .slice x1 l.q.length y1, .int .i64 l.got, .slice x2 l.h.length y2] (0, 0) _ hn8 Try.underlying27 rfl Try.sizeLk ?_)
    refine (SS _ _ _ R1 R2).mono ?_
    rintro e w9 ⟨u1, u2, rfl, q9, h9, hb9⟩
    obtain ⟨f5, g5, rfl⟩ := q9.form
    obtain ⟨f6, g6, rfl⟩ := own_form h9
    simp only at q9 h9
    have hn9 := (hb9.block _ (Array.getElem?_eq_some_iff.1 hn8).1).trans hn8
    have hm9 := (hb9.block _ (Array.getElem?_eq_some_iff.1 hm8).1).trans hm8
    replace R1 := R1.below hb9
    replace R2 := R2.below hb9
    replace Q3 := Q3.below hb9
    replace H3 := H3.below hb9
    have hB9 := hB8.trans (hb9.mono hB8.size)
    clear hb9 hB8 hn8 hm8 SS q9 h9
    go_wp2_with (refine wpList_store_own2 rfl 27 _ _ rfl w9.heap.size #[.int .i64 M.sent, .int .i64 M.acked, .slice f5 M.q.length g5, .int .i64 M.got, .slice f6 M.h.length g6] rfl rfl 27 _ (heap_alloc_new _ _) Try.sizeLk rfl (by simp [Value.oneCell']) ?_)
    intro wa hka hbga hsa hoa
    clear hsa hoa hka
    have hba : Below w9.heap.size w9 wa := ((Below.refl _ _).alloc (Nat.le_refl _) _).trans hbga
    have hna := (hba.block _ (Array.getElem?_eq_some_iff.1 hn9).1).trans hn9
    have hma := (hba.block _ (Array.getElem?_eq_some_iff.1 hm9).1).trans hm9
    replace R1 := R1.below hba
    replace R2 := R2.below hba
    replace Q3 := Q3.below hba
    replace H3 := H3.below hba
    have hBa := hB9.trans (hba.mono hB9.size)
    clear hba hbga hB9 hn9 hm9
    have bbb : (bb != bb) = false := by simp
    have hl58 : b5 < wa.heap.size := (Array.getElem?_eq_some_iff.1 hna).1
    have hl78 : b7 < wa.heap.size := (Array.getElem?_eq_some_iff.1 hma).1
    cases bb with
    | false =>
      have hor : M.acked = l.acked ∨ M.sent = 0 := by
        have e := HRR.out
        split at e
        · split at e
          · cases e
          · cases e; exact Or.inl rfl
        · cases e; exact Or.inr rfl
      have k1 : wa.cell? ⟨b5, 1, none⟩ = some (.int .i64 l.acked) := cell_of_row wa _ 1 _ _ _ hna
      have k5 : wa.cell? ⟨b7, 1, none⟩ = some (.int .i64 M.acked) := cell_of_row wa _ 1 _ _ _ hma
      have k6 : wa.cell? ⟨b7, 0, none⟩ = some (.int .i64 M.sent) := cell_of_row wa _ 0 _ _ _ hma
      clear HRR hnums hlb
      by_cases he : M.acked = l.acked
      · rw [he] at k5
        clear he hor hna hma R1 R2 Q3 H3
        go_wp2
        go_ret
        exact ⟨rfl, hBa⟩
      · have h0 : M.sent = 0 := by omega
        have e1 : (M.acked == l.acked) = false := by simpa using he
        have e2 : decide (M.acked = l.acked) = false := by simpa using he
        rw [h0] at k6
        clear hor h0 hna hma R1 R2 Q3 H3
        go_wp2
        go_ret
        exact ⟨rfl, hBa⟩
    | true =>
      have hor : linkB l = true ∧ (l.acked < no ∧ no ≤ l.got) ∧ M = ackL l no := by
        have e := HRR.out
        split at e
        · rename_i h1
          split at e
          · rename_i h2
            cases e; exact ⟨h1, h2, rfl⟩
          · cases e
        · cases e
      obtain ⟨hb1, hin, rfl⟩ := hor
      obtain ⟨n1, n2, n3, n4, n5, n6⟩ := hnums hb1
      have hb2 := hlb hb1
      obtain ⟨Q, hQ⟩ : ∃ Q, Q = l.q.drop (no - l.acked).toNat := ⟨_, rfl⟩
      have hSL : ackL l no = ⟨l.sent, no, Q, l.got, l.h⟩ := by rw [hQ]; rfl
      rw [hSL] at Q3 H3 hma hMM hb2
      have IO2 := fun (w : World) (v1 v2 : Value) R1 R2 => ilinkok_any v1 v2 ⟨l.sent, no, Q, l.got, l.h⟩ w R1 R2
      rw [hb2] at IO2
      simp only at Q3 H3
      have hQl : (Q.length : Int) = l.sent - no := by rw [hQ, List.length_drop]; omega
      have hkl : (no - l.acked).toNat ≤ l.q.length := by omega
      have hkp : 0 < l.q.length := by omega
      obtain ⟨N, hN0⟩ : ∃ N, Q.length = N := ⟨_, rfl⟩
      rw [hN0] at hma Q3 hQl
      have hN : (N : Int) = l.sent - no := hQl
      have hNd : l.q.length - (no - l.acked).toNat = N := by rw [← hN0, hQ, List.length_drop]
      have R1' := R1
      obtain ⟨ar, cr, er, hcr, _, _, hcellr⟩ := R1'
      simp only [Value.slice.injEq, true_and] at er
      obtain ⟨rfl, rfl⟩ := er
      obtain ⟨gs, os, rfl, hgs, _⟩ := hcellr (by intro e; rw [e] at hkp; simp at hkp)
      have hcap := hcr.1
      have hkp2 : no - l.acked ≤ l.q.length := by omega
      have hkp3 : 0 < no - l.acked := by omega
      have g1 : no ≤ l.got := hin.2
      have W1 : IntKind.i64.wrap (l.sent - no) = l.sent - no := by rw [IntKind.wrap_i64]; omega
      have W2 : IntKind.i64.wrap (no - l.acked) = no - l.acked := by rw [IntKind.wrap_i64]; omega
      have sS : wa.cell? ⟨b5, 0, none⟩ = some (.int .i64 l.sent) ∧ wa.cell? ⟨b5, 1, none⟩ = some (.int .i64 l.acked) ∧ wa.cell? ⟨b5, 2, none⟩ = some (.slice (some ⟨gs, os, none⟩) l.q.length y1) ∧ wa.cell? ⟨b5, 3, none⟩ = some (.int .i64 l.got) ∧ wa.cell? ⟨b5, 4, none⟩ = some (.slice x2 l.h.length y2) ∧ wa.cell? ⟨b7, 0, none⟩ = some (.int .i64 l.sent) ∧ wa.cell? ⟨b7, 1, none⟩ = some (.int .i64 no) ∧ wa.cell? ⟨b7, 2, none⟩ = some (.slice f3 N g3) ∧ wa.cell? ⟨b7, 3, none⟩ = some (.int .i64 l.got) ∧ wa.cell? ⟨b7, 4, none⟩ = some (.slice f4 l.h.length g4) := ⟨cell_of_row wa _ 0 _ _ _ hna, cell_of_row wa _ 1 _ _ _ hna, cell_of_row wa _ 2 _ _ _ hna, cell_of_row wa _ 3 _ _ _ hna, cell_of_row wa _ 4 _ _ _ hna, cell_of_row wa _ 0 _ _ _ hma, cell_of_row wa _ 1 _ _ _ hma, cell_of_row wa _ 2 _ _ _ hma, cell_of_row wa _ 3 _ _ _ hma, cell_of_row wa _ 4 _ _ _ hma⟩
      by_cases hd : y1 = (no - l.acked).toNat
      · have hlen : l.q.length - (no - l.acked).toNat = 0 := by omega
        have hc1 : l.q.length ≤ (no - l.acked).toNat := by omega
        subst hd
        have D1 := StRow.drop (k := (no - l.acked).toNat) R1 rfl hkl (.slice (some ⟨gs, os, none⟩) 0 0) (Or.inr ⟨rfl, rfl⟩)
        rw [← hQ] at D1
        clear hNd
        clear hcellr hcr hQl hN0 hQ hSL hb2 HRR hnums hlb hML hMM n5 hin
        go_wp2_with fail
        go_region_held (fun w' => w'.cell? ⟨b5, 0, none⟩ = some (.int .i64 l.sent) ∧ w'.cell? ⟨b5, 1, none⟩ = some (.int .i64 l.acked) ∧ w'.cell? ⟨b5, 2, none⟩ = some (.slice (some ⟨gs, os, none⟩) l.q.length (no - l.acked).toNat) ∧ w'.cell? ⟨b5, 3, none⟩ = some (.int .i64 l.got) ∧ w'.cell? ⟨b5, 4, none⟩ = some (.slice x2 l.h.length y2) ∧ w'.cell? ⟨b7, 0, none⟩ = some (.int .i64 l.sent) ∧ w'.cell? ⟨b7, 1, none⟩ = some (.int .i64 no) ∧ w'.cell? ⟨b7, 2, none⟩ = some (.slice f3 N g3) ∧ w'.cell? ⟨b7, 3, none⟩ = some (.int .i64 l.got) ∧ w'.cell? ⟨b7, 4, none⟩ = some (.slice f4 l.h.length g4)) (first | exact sc | exact sb | go_keep) (first
          | (go_at_call 16; refine (sametexts_any _ _ Q _ ?_ ?_).mono ?_; exact Q3.below (Below.refl _ _).drew; exact D1.below (Below.refl _ _).drew; rintro e wb ⟨rfl, hbb⟩; have hbab : Below wa.heap.size wa wb := (Below.refl _ _).drew.trans hbb; have sb : wb.cell? ⟨b5, 0, none⟩ = some (.int .i64 l.sent) ∧ wb.cell? ⟨b5, 1, none⟩ = some (.int .i64 l.acked) ∧ wb.cell? ⟨b5, 2, none⟩ = some (.slice (some ⟨gs, os, none⟩) l.q.length (no - l.acked).toNat) ∧ wb.cell? ⟨b5, 3, none⟩ = some (.int .i64 l.got) ∧ wb.cell? ⟨b5, 4, none⟩ = some (.slice x2 l.h.length y2) ∧ wb.cell? ⟨b7, 0, none⟩ = some (.int .i64 l.sent) ∧ wb.cell? ⟨b7, 1, none⟩ = some (.int .i64 no) ∧ wb.cell? ⟨b7, 2, none⟩ = some (.slice f3 N g3) ∧ wb.cell? ⟨b7, 3, none⟩ = some (.int .i64 l.got) ∧ wb.cell? ⟨b7, 4, none⟩ = some (.slice f4 l.h.length g4) := ⟨(hbab.cell (p := ⟨b5, 0, none⟩) hl58).trans sS.1, (hbab.cell (p := ⟨b5, 1, none⟩) hl58).trans sS.2.1, (hbab.cell (p := ⟨b5, 2, none⟩) hl58).trans sS.2.2.1, (hbab.cell (p := ⟨b5, 3, none⟩) hl58).trans sS.2.2.2.1, (hbab.cell (p := ⟨b5, 4, none⟩) hl58).trans sS.2.2.2.2.1, (hbab.cell (p := ⟨b7, 0, none⟩) hl78).trans sS.2.2.2.2.2.1, (hbab.cell (p := ⟨b7, 1, none⟩) hl78).trans sS.2.2.2.2.2.2.1, (hbab.cell (p := ⟨b7, 2, none⟩) hl78).trans sS.2.2.2.2.2.2.2.1, (hbab.cell (p := ⟨b7, 3, none⟩) hl78).trans sS.2.2.2.2.2.2.2.2.1, (hbab.cell (p := ⟨b7, 4, none⟩) hl78).trans sS.2.2.2.2.2.2.2.2.2⟩)
          | (go_at_call 13; refine (IO2 _ _ _ ?_ ?_).mono ?_; exact Q3.below hbab; exact H3.below hbab; rintro e wc ⟨rfl, hbc⟩; have hbac : Below wa.heap.size wa wc := hbab.trans (hbc.mono hbab.size); have sc : wc.cell? ⟨b5, 0, none⟩ = some (.int .i64 l.sent) ∧ wc.cell? ⟨b5, 1, none⟩ = some (.int .i64 l.acked) ∧ wc.cell? ⟨b5, 2, none⟩ = some (.slice (some ⟨gs, os, none⟩) l.q.length (no - l.acked).toNat) ∧ wc.cell? ⟨b5, 3, none⟩ = some (.int .i64 l.got) ∧ wc.cell? ⟨b5, 4, none⟩ = some (.slice x2 l.h.length y2) ∧ wc.cell? ⟨b7, 0, none⟩ = some (.int .i64 l.sent) ∧ wc.cell? ⟨b7, 1, none⟩ = some (.int .i64 no) ∧ wc.cell? ⟨b7, 2, none⟩ = some (.slice f3 N g3) ∧ wc.cell? ⟨b7, 3, none⟩ = some (.int .i64 l.got) ∧ wc.cell? ⟨b7, 4, none⟩ = some (.slice f4 l.h.length g4) := ⟨(hbac.cell (p := ⟨b5, 0, none⟩) hl58).trans sS.1, (hbac.cell (p := ⟨b5, 1, none⟩) hl58).trans sS.2.1, (hbac.cell (p := ⟨b5, 2, none⟩) hl58).trans sS.2.2.1, (hbac.cell (p := ⟨b5, 3, none⟩) hl58).trans sS.2.2.2.1, (hbac.cell (p := ⟨b5, 4, none⟩) hl58).trans sS.2.2.2.2.1, (hbac.cell (p := ⟨b7, 0, none⟩) hl78).trans sS.2.2.2.2.2.1, (hbac.cell (p := ⟨b7, 1, none⟩) hl78).trans sS.2.2.2.2.2.2.1, (hbac.cell (p := ⟨b7, 2, none⟩) hl78).trans sS.2.2.2.2.2.2.2.1, (hbac.cell (p := ⟨b7, 3, none⟩) hl78).trans sS.2.2.2.2.2.2.2.2.1, (hbac.cell (p := ⟨b7, 4, none⟩) hl78).trans sS.2.2.2.2.2.2.2.2.2⟩))
        all_goals
          have hBc := hBa.trans (hbac.mono hBa.size)
          clear hbb hbab hbc hbac sb sc sS
          go_wp2
          go_ret
          exact ⟨rfl, hBc⟩
      · have hd2 : (no - l.acked).toNat < y1 := by omega
        have D1 := StRow.drop (k := (no - l.acked).toNat) R1 rfl hkl (.slice (some ⟨gs, os + (no - l.acked).toNat, none⟩) (l.q.length - (no - l.acked).toNat) (y1 - (no - l.acked).toNat)) (Or.inl ⟨hd2, rfl⟩)
        rw [← hQ, hNd] at D1
        clear hcellr hcr hQl hN0 hQ hSL hb2 HRR hnums hlb hML hMM n5 hin
        go_wp2_with fail
        go_region_held (fun w' => w'.cell? ⟨b5, 0, none⟩ = some (.int .i64 l.sent) ∧ w'.cell? ⟨b5, 1, none⟩ = some (.int .i64 l.acked) ∧ w'.cell? ⟨b5, 2, none⟩ = some (.slice (some ⟨gs, os, none⟩) l.q.length y1) ∧ w'.cell? ⟨b5, 3, none⟩ = some (.int .i64 l.got) ∧ w'.cell? ⟨b5, 4, none⟩ = some (.slice x2 l.h.length y2) ∧ w'.cell? ⟨b7, 0, none⟩ = some (.int .i64 l.sent) ∧ w'.cell? ⟨b7, 1, none⟩ = some (.int .i64 no) ∧ w'.cell? ⟨b7, 2, none⟩ = some (.slice f3 N g3) ∧ w'.cell? ⟨b7, 3, none⟩ = some (.int .i64 l.got) ∧ w'.cell? ⟨b7, 4, none⟩ = some (.slice f4 l.h.length g4)) (first | exact sc | exact sb | go_keep) (first
          | (go_at_call 16; refine (sametexts_any _ _ Q _ ?_ ?_).mono ?_; exact Q3.below (Below.refl _ _).drew; exact D1.below (Below.refl _ _).drew; rintro e wb ⟨rfl, hbb⟩; have hbab : Below wa.heap.size wa wb := (Below.refl _ _).drew.trans hbb; have sb : wb.cell? ⟨b5, 0, none⟩ = some (.int .i64 l.sent) ∧ wb.cell? ⟨b5, 1, none⟩ = some (.int .i64 l.acked) ∧ wb.cell? ⟨b5, 2, none⟩ = some (.slice (some ⟨gs, os, none⟩) l.q.length y1) ∧ wb.cell? ⟨b5, 3, none⟩ = some (.int .i64 l.got) ∧ wb.cell? ⟨b5, 4, none⟩ = some (.slice x2 l.h.length y2) ∧ wb.cell? ⟨b7, 0, none⟩ = some (.int .i64 l.sent) ∧ wb.cell? ⟨b7, 1, none⟩ = some (.int .i64 no) ∧ wb.cell? ⟨b7, 2, none⟩ = some (.slice f3 N g3) ∧ wb.cell? ⟨b7, 3, none⟩ = some (.int .i64 l.got) ∧ wb.cell? ⟨b7, 4, none⟩ = some (.slice f4 l.h.length g4) := ⟨(hbab.cell (p := ⟨b5, 0, none⟩) hl58).trans sS.1, (hbab.cell (p := ⟨b5, 1, none⟩) hl58).trans sS.2.1, (hbab.cell (p := ⟨b5, 2, none⟩) hl58).trans sS.2.2.1, (hbab.cell (p := ⟨b5, 3, none⟩) hl58).trans sS.2.2.2.1, (hbab.cell (p := ⟨b5, 4, none⟩) hl58).trans sS.2.2.2.2.1, (hbab.cell (p := ⟨b7, 0, none⟩) hl78).trans sS.2.2.2.2.2.1, (hbab.cell (p := ⟨b7, 1, none⟩) hl78).trans sS.2.2.2.2.2.2.1, (hbab.cell (p := ⟨b7, 2, none⟩) hl78).trans sS.2.2.2.2.2.2.2.1, (hbab.cell (p := ⟨b7, 3, none⟩) hl78).trans sS.2.2.2.2.2.2.2.2.1, (hbab.cell (p := ⟨b7, 4, none⟩) hl78).trans sS.2.2.2.2.2.2.2.2.2⟩)
          | (go_at_call 13; refine (IO2 _ _ _ ?_ ?_).mono ?_; exact Q3.below hbab; exact H3.below hbab; rintro e wc ⟨rfl, hbc⟩; have hbac : Below wa.heap.size wa wc := hbab.trans (hbc.mono hbab.size); have sc : wc.cell? ⟨b5, 0, none⟩ = some (.int .i64 l.sent) ∧ wc.cell? ⟨b5, 1, none⟩ = some (.int .i64 l.acked) ∧ wc.cell? ⟨b5, 2, none⟩ = some (.slice (some ⟨gs, os, none⟩) l.q.length y1) ∧ wc.cell? ⟨b5, 3, none⟩ = some (.int .i64 l.got) ∧ wc.cell? ⟨b5, 4, none⟩ = some (.slice x2 l.h.length y2) ∧ wc.cell? ⟨b7, 0, none⟩ = some (.int .i64 l.sent) ∧ wc.cell? ⟨b7, 1, none⟩ = some (.int .i64 no) ∧ wc.cell? ⟨b7, 2, none⟩ = some (.slice f3 N g3) ∧ wc.cell? ⟨b7, 3, none⟩ = some (.int .i64 l.got) ∧ wc.cell? ⟨b7, 4, none⟩ = some (.slice f4 l.h.length g4) := ⟨(hbac.cell (p := ⟨b5, 0, none⟩) hl58).trans sS.1, (hbac.cell (p := ⟨b5, 1, none⟩) hl58).trans sS.2.1, (hbac.cell (p := ⟨b5, 2, none⟩) hl58).trans sS.2.2.1, (hbac.cell (p := ⟨b5, 3, none⟩) hl58).trans sS.2.2.2.1, (hbac.cell (p := ⟨b5, 4, none⟩) hl58).trans sS.2.2.2.2.1, (hbac.cell (p := ⟨b7, 0, none⟩) hl78).trans sS.2.2.2.2.2.1, (hbac.cell (p := ⟨b7, 1, none⟩) hl78).trans sS.2.2.2.2.2.2.1, (hbac.cell (p := ⟨b7, 2, none⟩) hl78).trans sS.2.2.2.2.2.2.2.1, (hbac.cell (p := ⟨b7, 3, none⟩) hl78).trans sS.2.2.2.2.2.2.2.2.1, (hbac.cell (p := ⟨b7, 4, none⟩) hl78).trans sS.2.2.2.2.2.2.2.2.2⟩))
        all_goals
          have hBc := hBa.trans (hbac.mono hBa.size)
          clear hbb hbab hbc hbac sb sc sS
          go_wp2
          go_ret
          exact ⟨rfl, hBc⟩
end Go.Proofs.Ytahdinippghlaab
