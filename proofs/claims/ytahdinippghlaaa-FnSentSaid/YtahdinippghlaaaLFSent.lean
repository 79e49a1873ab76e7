/-
  The law FnSent, walked: at every argument it returns true.
-/
import Derived.Test.YtahdinippghlaaaDLk3
import Derived.Test.YtahdinippghlaaaILkSend
import Derived.Test.YtahdinippghlaaaSameT
import Derived.Deep.RegionHeld
namespace Go.Proofs.Ytahdinippghlaaa
open Go.RowKit

set_option maxRecDepth 100000 in
set_option maxHeartbeats 400000 in
theorem fsent_big (ao : Option Addr) (len cap : Nat) (w : World) (hl : 1048576 < len) (hm : len ≤ 9223372036854775807) :
    Calls Try.prog 8 #[.slice ao len cap] w fun e w' => e = .returned (.bool true) ∧ Below w.heap.size w w' := by
  go_enter Try.func8, Try.ntmps8
  go_wp2_with (go_at_call 32; go_in)
  go_ret
  exact ⟨rfl, Below.refl _ _⟩

set_option maxRecDepth 100000 in
set_option maxHeartbeats 12800000 in
theorem fsent_small (ao : Option Addr) (cap : Nat) (zs : List Int) (w : World) (R : Row w (.slice ao zs.length cap) zs) (hl : zs.length ≤ 1048576) :
    Calls Try.prog 8 #[.slice ao zs.length cap] w fun e w' => e = .returned (.bool true) ∧ Below w.heap.size w w' := by
  go_enter Try.func8, Try.ntmps8
  go_wp2_with (go_at_call 32; go_in)
  refine (dlinksend_any _ zs w R hl).mono ?_
  rintro e w1 ⟨l, v1, v2, s, rfl, hs, R1, R2, nq, nh, zq, zh, hB1⟩
  obtain ⟨a1, c1, rfl⟩ := R1.small
  obtain ⟨a2, c2, rfl⟩ := R2.small
  clear R
  go_wp2_with (refine wpList_store_own2 rfl 30 _ _ rfl w1.heap.size #[.int .i64 l.sent, .int .i64 l.acked, .slice a1 l.q.length c1, .int .i64 l.got, .slice a2 l.h.length c2] rfl rfl 30 _ (heap_alloc_new _ _) Try.sizeLk rfl (by simp [Value.oneCell']) ?_)
  intro w2 hn2 hbg2 hs2 ho2
  clear hs2 ho2
  have hb2 : Below w1.heap.size w1 w2 := ((Below.refl _ _).alloc (Nat.le_refl _) _).trans hbg2
  replace R1 := R1.below hb2
  replace R2 := R2.below hb2
  have hB2 := hB1.trans (hb2.mono hB1.size)
  clear hb2 hbg2 hB1
  generalize w1.heap.size = b3 at *
  go_wp2_with (refine wpList_load_row rfl 30 _ rfl b3 rfl 30 #[.int .i64 l.sent, .int .i64 l.acked, .slice a1 l.q.length c1, .int .i64 l.got, .slice a2 l.h.length c2] (0, 0) _ hn2 Try.underlying30 rfl Try.sizeLk ?_)
  refine (ilinksend_any _ _ l s _ R1 R2 hs).mono ?_
  rintro e w3 ⟨u1, u2, rfl, q3, h3, hb3⟩
  obtain ⟨f3, g3, rfl⟩ := q3.form
  obtain ⟨f4, g4, rfl⟩ := own_form h3
  have hn3 := (hb3.block _ (Array.getElem?_eq_some_iff.1 hn2).1).trans hn2
  replace R1 := R1.below hb3
  replace R2 := R2.below hb3
  have hB3 := hB2.trans (hb3.mono hB2.size)
  clear hb3 hB2 hn2
  have hMM := sendR_ok l s zq zh hs
  have hML := sendR_len l s
  have Q3 := q3.row (by omega) hMM.1
  have H3 := PcRow.of_own h3 (by omega) hMM.2
  clear q3 h3
  have SS := fun (w : World) (v1 v2 : Value) (R1 : StRow w v1 l.q) (R2 : PcRow w v2 l.h) => slinksend_any v1 v2 l s w R1 R2 hs
  have HRR : Hid (sendR l s = (if linkB l = true then (if linkB (sendL l s) = true then (sendL l s, true) else (l, false)) else (zeroLk, false))) := rfl
  have hnums := fun h => linkB_nums (l := l) h
  have IO := fun (w : World) (v1 v2 : Value) (R1 : StRow w v1 l.q) (R2 : PcRow w v2 l.h) => ilinkok_any v1 v2 l w R1 R2
  have SO := fun (w : World) (v1 v2 : Value) (R1 : StRow w v1 l.q) (R2 : PcRow w v2 l.h) => slinkok_any v1 v2 l w R1 R2
  generalize sendR l s = RR at *
  obtain ⟨M, bb⟩ := RR
  simp only at Q3 H3 hMM hML
  go_wp2_with (refine wpList_store_own2 rfl 30 _ _ rfl w3.heap.size #[.int .i64 M.sent, .int .i64 M.acked, .slice f3 M.q.length g3, .int .i64 M.got, .slice f4 M.h.length g4] rfl rfl 30 _ (heap_alloc_new _ _) Try.sizeLk rfl (by simp [Value.oneCell']) ?_)
  intro w4 hm4 hbg4 hs4 ho4
  clear hs4 ho4
  have hb4 : Below w3.heap.size w3 w4 := ((Below.refl _ _).alloc (Nat.le_refl _) _).trans hbg4
  have hn4 := (hb4.block _ (Array.getElem?_eq_some_iff.1 hn3).1).trans hn3
  replace R1 := R1.below hb4
  replace R2 := R2.below hb4
  replace Q3 := Q3.below hb4
  replace H3 := H3.below hb4
  have hB4 := hB3.trans (hb4.mono hB3.size)
  clear hb4 hbg4 hB3 hn3
  generalize w3.heap.size = b5 at *
  go_wp2_with (refine wpList_load_row rfl 30 _ rfl b3 rfl 30 #[.int .i64 l.sent, .int .i64 l.acked, .slice a1 l.q.length c1, .int .i64 l.got, .slice a2 l.h.length c2] (0, 0) _ hn4 Try.underlying30 rfl Try.sizeLk ?_)
  refine (SS _ _ _ R1 R2).mono ?_
  rintro e w5 ⟨u1, u2, rfl, q5, h5, hb5⟩
  obtain ⟨f5, g5, rfl⟩ := q5.form
  obtain ⟨f6, g6, rfl⟩ := own_form h5
  simp only at q5 h5
  have hn5 := (hb5.block _ (Array.getElem?_eq_some_iff.1 hn4).1).trans hn4
  have hm5 := (hb5.block _ (Array.getElem?_eq_some_iff.1 hm4).1).trans hm4
  replace R1 := R1.below hb5
  replace R2 := R2.below hb5
  replace Q3 := Q3.below hb5
  replace H3 := H3.below hb5
  have hB5 := hB4.trans (hb5.mono hB4.size)
  clear hb5 hB4 hn4 hm4 SS q5 h5
  go_wp2_with (refine wpList_store_own2 rfl 30 _ _ rfl w5.heap.size #[.int .i64 M.sent, .int .i64 M.acked, .slice f5 M.q.length g5, .int .i64 M.got, .slice f6 M.h.length g6] rfl rfl 30 _ (heap_alloc_new _ _) Try.sizeLk rfl (by simp [Value.oneCell']) ?_)
  intro w6 hk6 hbg6 hs6 ho6
  clear hs6 ho6 hk6
  have hb6 : Below w5.heap.size w5 w6 := ((Below.refl _ _).alloc (Nat.le_refl _) _).trans hbg6
  have hn6 := (hb6.block _ (Array.getElem?_eq_some_iff.1 hn5).1).trans hn5
  have hm6 := (hb6.block _ (Array.getElem?_eq_some_iff.1 hm5).1).trans hm5
  replace R1 := R1.below hb6
  replace R2 := R2.below hb6
  replace Q3 := Q3.below hb6
  replace H3 := H3.below hb6
  have hB6 := hB5.trans (hb6.mono hB5.size)
  clear hb6 hbg6 hB5 hn5 hm5
  have hl3 : b3 < w6.heap.size := (Array.getElem?_eq_some_iff.1 hn6).1
  have bbb : (bb != bb) = false := by simp
  have lbb : (linkB l != linkB l) = false := by simp
  have sS : w6.cell? ⟨b3, 0, none⟩ = some (.int .i64 l.sent) ∧ w6.cell? ⟨b3, 1, none⟩ = some (.int .i64 l.acked) ∧ w6.cell? ⟨b3, 2, none⟩ = some (.slice a1 l.q.length c1) ∧ w6.cell? ⟨b3, 3, none⟩ = some (.int .i64 l.got) ∧ w6.cell? ⟨b3, 4, none⟩ = some (.slice a2 l.h.length c2) := ⟨cell_of_row w6 _ 0 _ _ _ hn6, cell_of_row w6 _ 1 _ _ _ hn6, cell_of_row w6 _ 2 _ _ _ hn6, cell_of_row w6 _ 3 _ _ _ hn6, cell_of_row w6 _ 4 _ _ _ hn6⟩
  go_wp2_with fail
  go_region_held (fun w' => w'.cell? ⟨b3, 0, none⟩ = some (.int .i64 l.sent) ∧ w'.cell? ⟨b3, 1, none⟩ = some (.int .i64 l.acked) ∧ w'.cell? ⟨b3, 2, none⟩ = some (.slice a1 l.q.length c1) ∧ w'.cell? ⟨b3, 3, none⟩ = some (.int .i64 l.got) ∧ w'.cell? ⟨b3, 4, none⟩ = some (.slice a2 l.h.length c2)) (first | exact s8 | exact s7 | go_keep) (first
    | (go_at_call 12; refine (IO _ _ _ ?_ ?_).mono ?_; exact R1.below (Below.refl _ _).drew; exact R2.below (Below.refl _ _).drew; rintro e w7 ⟨rfl, hb7⟩; have hb67 : Below w6.heap.size w6 w7 := (Below.refl _ _).drew.trans hb7; have s7 : w7.cell? ⟨b3, 0, none⟩ = some (.int .i64 l.sent) ∧ w7.cell? ⟨b3, 1, none⟩ = some (.int .i64 l.acked) ∧ w7.cell? ⟨b3, 2, none⟩ = some (.slice a1 l.q.length c1) ∧ w7.cell? ⟨b3, 3, none⟩ = some (.int .i64 l.got) ∧ w7.cell? ⟨b3, 4, none⟩ = some (.slice a2 l.h.length c2) := ⟨(hb67.cell (p := ⟨b3, 0, none⟩) hl3).trans sS.1, (hb67.cell (p := ⟨b3, 1, none⟩) hl3).trans sS.2.1, (hb67.cell (p := ⟨b3, 2, none⟩) hl3).trans sS.2.2.1, (hb67.cell (p := ⟨b3, 3, none⟩) hl3).trans sS.2.2.2.1, (hb67.cell (p := ⟨b3, 4, none⟩) hl3).trans sS.2.2.2.2⟩)
    | (go_at_call 10; refine (SO _ _ _ ?_ ?_).mono ?_; exact R1.below hb67; exact R2.below hb67; rintro e w8 ⟨rfl, hb8⟩; have hb68 : Below w6.heap.size w6 w8 := hb67.trans (hb8.mono hb67.size); have s8 : w8.cell? ⟨b3, 0, none⟩ = some (.int .i64 l.sent) ∧ w8.cell? ⟨b3, 1, none⟩ = some (.int .i64 l.acked) ∧ w8.cell? ⟨b3, 2, none⟩ = some (.slice a1 l.q.length c1) ∧ w8.cell? ⟨b3, 3, none⟩ = some (.int .i64 l.got) ∧ w8.cell? ⟨b3, 4, none⟩ = some (.slice a2 l.h.length c2) := ⟨(hb68.cell (p := ⟨b3, 0, none⟩) hl3).trans sS.1, (hb68.cell (p := ⟨b3, 1, none⟩) hl3).trans sS.2.1, (hb68.cell (p := ⟨b3, 2, none⟩) hl3).trans sS.2.2.1, (hb68.cell (p := ⟨b3, 3, none⟩) hl3).trans sS.2.2.2.1, (hb68.cell (p := ⟨b3, 4, none⟩) hl3).trans sS.2.2.2.2⟩))
  all_goals
    have hn8 := (hb68.block _ hl3).trans hn6
    have hm8 := (hb68.block _ (Array.getElem?_eq_some_iff.1 hm6).1).trans hm6
    replace R1 := R1.below hb68
    replace R2 := R2.below hb68
    replace Q3 := Q3.below hb68
    replace H3 := H3.below hb68
    have hB8 := hB6.trans (hb68.mono hB6.size)
    clear hb7 hb67 hb8 hb68 s7 s8 sS hn6 hm6 hB6 SO
    have hl38 : b3 < w8.heap.size := (Array.getElem?_eq_some_iff.1 hn8).1
    have hl58 : b5 < w8.heap.size := (Array.getElem?_eq_some_iff.1 hm8).1
    cases bb with
    | false =>
      have hor : M.sent = l.sent ∨ M.sent = 0 := by
        have e := HRR.out
        split at e
        · split at e
          · cases e
          · cases e; exact Or.inl rfl
        · cases e; exact Or.inr rfl
      have k0 : w8.cell? ⟨b3, 0, none⟩ = some (.int .i64 l.sent) := cell_of_row w8 _ 0 _ _ _ hn8
      have k5 : w8.cell? ⟨b5, 0, none⟩ = some (.int .i64 M.sent) := cell_of_row w8 _ 0 _ _ _ hm8
      clear HRR IO hnums
      by_cases he : M.sent = l.sent
      · rw [he] at k5
        have e1 : (l.sent == l.sent) = true := by simp
        clear he hor hn8 hm8 R1 R2 Q3 H3
        go_wp2
        go_ret
        exact ⟨rfl, hB8⟩
      · have h0 : M.sent = 0 := by omega
        have e1 : (M.sent == l.sent) = false := by simpa using he
        have e2 : decide (M.sent = l.sent) = false := by simpa using he
        rw [h0] at k5 e1 e2
        have e3 : ¬ (0 : Int) = l.sent := by omega
        clear he hor h0 hn8 hm8 R1 R2 Q3 H3
        go_wp2
        go_ret
        exact ⟨rfl, hB8⟩
    | true =>
      have hor : linkB l = true ∧ linkB (sendL l s) = true ∧ M = sendL l s := by
        have e := HRR.out
        split at e
        · rename_i h1
          split at e
          · rename_i h2
            cases e; exact ⟨h1, h2, rfl⟩
          · cases e
        · cases e
      obtain ⟨hb1, hb2, rfl⟩ := hor
      obtain ⟨n1, n2, n3, n4, n5, n6⟩ := hnums hb1
      clear n5
      obtain ⟨Q, hQ⟩ : ∃ Q, Q = l.q ++ [s] := ⟨_, rfl⟩
      have hSL : sendL l s = ⟨l.sent + 1, l.acked, Q, l.got, l.h⟩ := by rw [hQ]; rfl
      rw [hSL] at Q3 H3 hm8 hMM
      have IO2 := fun (w : World) (v1 v2 : Value) R1 R2 => ilinkok_any v1 v2 ⟨l.sent + 1, l.acked, Q, l.got, l.h⟩ w R1 R2
      rw [hSL] at hb2
      rw [hb2] at IO2
      simp only at Q3 H3
      have hQl : Q.length = l.q.length + 1 := by rw [hQ]; simp
      have Q3' := Q3
      obtain ⟨ao', cap', e', hcc, _, _, hcell⟩ := Q3'
      simp only [Value.slice.injEq, true_and] at e'
      obtain ⟨rfl, rfl⟩ := e'
      obtain ⟨gq, oq, rfl, hlq, hcell⟩ := hcell (by rw [hQ]; simp)
      have cs := hcell l.q.length s (by rw [hQ]; simp)
      have hcap := hcc.1
      have T3 : StRow w8 (.slice (some ⟨gq, oq, none⟩) l.q.length g3) l.q := by
        have := Q3.take (k := l.q.length) (by omega)
        rwa [hQ, List.take_left] at this
      have q4 : l.q.length ≤ g3 := by omega
      obtain ⟨N, hN0⟩ : ∃ N, Q.length = N := ⟨_, rfl⟩
      rw [hN0] at hm8 Q3 hQl hcap
      have hN : (N : Int) = (l.q.length : Int) + 1 := by omega
      have hN2 : l.q.length < N := by omega
      clear hN0
      have W1 : IntKind.i64.wrap (l.sent + 1) = l.sent + 1 := by rw [IntKind.wrap_i64]; omega
      have W2 : IntKind.i64.wrap ((l.q.length : Int) + 1) = (l.q.length : Int) + 1 := by rw [IntKind.wrap_i64]; omega
      have sS : w8.cell? ⟨b3, 0, none⟩ = some (.int .i64 l.sent) ∧ w8.cell? ⟨b3, 1, none⟩ = some (.int .i64 l.acked) ∧ w8.cell? ⟨b3, 2, none⟩ = some (.slice a1 l.q.length c1) ∧ w8.cell? ⟨b3, 3, none⟩ = some (.int .i64 l.got) ∧ w8.cell? ⟨b3, 4, none⟩ = some (.slice a2 l.h.length c2) ∧ w8.cell? ⟨b5, 0, none⟩ = some (.int .i64 (l.sent + 1)) ∧ w8.cell? ⟨b5, 1, none⟩ = some (.int .i64 l.acked) ∧ w8.cell? ⟨b5, 2, none⟩ = some (.slice (some ⟨gq, oq, none⟩) N g3) ∧ w8.cell? ⟨b5, 3, none⟩ = some (.int .i64 l.got) ∧ w8.cell? ⟨b5, 4, none⟩ = some (.slice f4 l.h.length g4) ∧ w8.cell? ⟨gq, oq + l.q.length, none⟩ = some (.string s) := ⟨cell_of_row w8 _ 0 _ _ _ hn8, cell_of_row w8 _ 1 _ _ _ hn8, cell_of_row w8 _ 2 _ _ _ hn8, cell_of_row w8 _ 3 _ _ _ hn8, cell_of_row w8 _ 4 _ _ _ hn8, cell_of_row w8 _ 0 _ _ _ hm8, cell_of_row w8 _ 1 _ _ _ hm8, cell_of_row w8 _ 2 _ _ _ hm8, cell_of_row w8 _ 3 _ _ _ hm8, cell_of_row w8 _ 4 _ _ _ hm8, cs⟩
      clear hcell hcc hQl hQ hSL hb2 HRR IO hnums hML hMM
      go_wp2_with fail
      go_region_held (fun w' => w'.cell? ⟨b3, 0, none⟩ = some (.int .i64 l.sent) ∧ w'.cell? ⟨b3, 1, none⟩ = some (.int .i64 l.acked) ∧ w'.cell? ⟨b3, 2, none⟩ = some (.slice a1 l.q.length c1) ∧ w'.cell? ⟨b3, 3, none⟩ = some (.int .i64 l.got) ∧ w'.cell? ⟨b3, 4, none⟩ = some (.slice a2 l.h.length c2) ∧ w'.cell? ⟨b5, 0, none⟩ = some (.int .i64 (l.sent + 1)) ∧ w'.cell? ⟨b5, 1, none⟩ = some (.int .i64 l.acked) ∧ w'.cell? ⟨b5, 2, none⟩ = some (.slice (some ⟨gq, oq, none⟩) N g3) ∧ w'.cell? ⟨b5, 3, none⟩ = some (.int .i64 l.got) ∧ w'.cell? ⟨b5, 4, none⟩ = some (.slice f4 l.h.length g4) ∧ w'.cell? ⟨gq, oq + l.q.length, none⟩ = some (.string s)) (first | exact s10 | exact s9 | go_keep) (first
        | (go_at_call 34; refine (sametexts_any _ _ l.q _ ?_ ?_).mono ?_; exact T3.below (Below.refl _ _).drew; exact R1.below (Below.refl _ _).drew; rintro e w9 ⟨rfl, hb9⟩; have hb89 : Below w8.heap.size w8 w9 := (Below.refl _ _).drew.trans hb9; have s9 : w9.cell? ⟨b3, 0, none⟩ = some (.int .i64 l.sent) ∧ w9.cell? ⟨b3, 1, none⟩ = some (.int .i64 l.acked) ∧ w9.cell? ⟨b3, 2, none⟩ = some (.slice a1 l.q.length c1) ∧ w9.cell? ⟨b3, 3, none⟩ = some (.int .i64 l.got) ∧ w9.cell? ⟨b3, 4, none⟩ = some (.slice a2 l.h.length c2) ∧ w9.cell? ⟨b5, 0, none⟩ = some (.int .i64 (l.sent + 1)) ∧ w9.cell? ⟨b5, 1, none⟩ = some (.int .i64 l.acked) ∧ w9.cell? ⟨b5, 2, none⟩ = some (.slice (some ⟨gq, oq, none⟩) N g3) ∧ w9.cell? ⟨b5, 3, none⟩ = some (.int .i64 l.got) ∧ w9.cell? ⟨b5, 4, none⟩ = some (.slice f4 l.h.length g4) ∧ w9.cell? ⟨gq, oq + l.q.length, none⟩ = some (.string s) := ⟨(hb89.cell (p := ⟨b3, 0, none⟩) hl38).trans sS.1, (hb89.cell (p := ⟨b3, 1, none⟩) hl38).trans sS.2.1, (hb89.cell (p := ⟨b3, 2, none⟩) hl38).trans sS.2.2.1, (hb89.cell (p := ⟨b3, 3, none⟩) hl38).trans sS.2.2.2.1, (hb89.cell (p := ⟨b3, 4, none⟩) hl38).trans sS.2.2.2.2.1, (hb89.cell (p := ⟨b5, 0, none⟩) hl58).trans sS.2.2.2.2.2.1, (hb89.cell (p := ⟨b5, 1, none⟩) hl58).trans sS.2.2.2.2.2.2.1, (hb89.cell (p := ⟨b5, 2, none⟩) hl58).trans sS.2.2.2.2.2.2.2.1, (hb89.cell (p := ⟨b5, 3, none⟩) hl58).trans sS.2.2.2.2.2.2.2.2.1, (hb89.cell (p := ⟨b5, 4, none⟩) hl58).trans sS.2.2.2.2.2.2.2.2.2.1, (hb89.cell (p := ⟨gq, oq + l.q.length, none⟩) hlq).trans sS.2.2.2.2.2.2.2.2.2.2⟩)
        | (go_at_call 12; refine (IO2 _ _ _ ?_ ?_).mono ?_; exact Q3.below hb89; exact H3.below hb89; rintro e w10 ⟨rfl, hb10⟩; have hb810 : Below w8.heap.size w8 w10 := hb89.trans (hb10.mono hb89.size); have s10 : w10.cell? ⟨b3, 0, none⟩ = some (.int .i64 l.sent) ∧ w10.cell? ⟨b3, 1, none⟩ = some (.int .i64 l.acked) ∧ w10.cell? ⟨b3, 2, none⟩ = some (.slice a1 l.q.length c1) ∧ w10.cell? ⟨b3, 3, none⟩ = some (.int .i64 l.got) ∧ w10.cell? ⟨b3, 4, none⟩ = some (.slice a2 l.h.length c2) ∧ w10.cell? ⟨b5, 0, none⟩ = some (.int .i64 (l.sent + 1)) ∧ w10.cell? ⟨b5, 1, none⟩ = some (.int .i64 l.acked) ∧ w10.cell? ⟨b5, 2, none⟩ = some (.slice (some ⟨gq, oq, none⟩) N g3) ∧ w10.cell? ⟨b5, 3, none⟩ = some (.int .i64 l.got) ∧ w10.cell? ⟨b5, 4, none⟩ = some (.slice f4 l.h.length g4) ∧ w10.cell? ⟨gq, oq + l.q.length, none⟩ = some (.string s) := ⟨(hb810.cell (p := ⟨b3, 0, none⟩) hl38).trans sS.1, (hb810.cell (p := ⟨b3, 1, none⟩) hl38).trans sS.2.1, (hb810.cell (p := ⟨b3, 2, none⟩) hl38).trans sS.2.2.1, (hb810.cell (p := ⟨b3, 3, none⟩) hl38).trans sS.2.2.2.1, (hb810.cell (p := ⟨b3, 4, none⟩) hl38).trans sS.2.2.2.2.1, (hb810.cell (p := ⟨b5, 0, none⟩) hl58).trans sS.2.2.2.2.2.1, (hb810.cell (p := ⟨b5, 1, none⟩) hl58).trans sS.2.2.2.2.2.2.1, (hb810.cell (p := ⟨b5, 2, none⟩) hl58).trans sS.2.2.2.2.2.2.2.1, (hb810.cell (p := ⟨b5, 3, none⟩) hl58).trans sS.2.2.2.2.2.2.2.2.1, (hb810.cell (p := ⟨b5, 4, none⟩) hl58).trans sS.2.2.2.2.2.2.2.2.2.1, (hb810.cell (p := ⟨gq, oq + l.q.length, none⟩) hlq).trans sS.2.2.2.2.2.2.2.2.2.2⟩))
      all_goals
        have hB10 := hB8.trans (hb810.mono hB8.size)
        clear hb9 hb89 hb10 hb810 s9 s10 sS
        go_wp2
        go_ret
        exact ⟨rfl, hB10⟩
end Go.Proofs.Ytahdinippghlaaa
