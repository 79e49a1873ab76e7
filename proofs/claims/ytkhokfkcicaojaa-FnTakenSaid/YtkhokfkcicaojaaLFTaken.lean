/-
  The law FnTaken, walked: at every argument it returns true.
-/
import Derived.Test.YtkhokfkcicaojaaDLk4
import Derived.Test.YtkhokfkcicaojaaTkMath
import Derived.Test.YtkhokfkcicaojaaILkTake
import Derived.Test.YtkhokfkcicaojaaSLkTake
import Derived.Test.YtkhokfkcicaojaaSameT
import Derived.Test.YtkhokfkcicaojaaLkOkS
import Derived.Test.YtkhokfkcicaojaaTkR10
import Derived.Deep.RegionHeld3
namespace Go.Proofs.Ytkhokfkcicaojaa
open Go.RowKit

set_option maxRecDepth 100000 in
set_option maxHeartbeats 400000 in
theorem ftaken_big (ao : Option Addr) (len cap : Nat) (w : World) (hl : 1048576 < len) (hm : len ≤ 9223372036854775807) :
    Calls Try.prog 3 #[.slice ao len cap] w fun e w' => e = .returned (.bool true) ∧ Below w.heap.size w w' := by
  go_enter Try.func3, Try.ntmps3
  go_wp2_with (go_at_call 5; go_in)
  go_ret
  exact ⟨rfl, Below.refl _ _⟩

set_option maxRecDepth 100000 in
set_option maxHeartbeats 12800000 in
theorem ftaken_small (ao : Option Addr) (cap : Nat) (zs : List Int) (w : World) (R : Row w (.slice ao zs.length cap) zs) (hl : zs.length ≤ 1048576) :
    Calls Try.prog 3 #[.slice ao zs.length cap] w fun e w' => e = .returned (.bool true) ∧ Below w.heap.size w w' := by
  go_enter Try.func3, Try.ntmps3
  go_wp2_with (go_at_call 5; go_in)
  refine (dlinktake_any _ zs w R hl).mono ?_
  rintro e w1 ⟨l, v1, v2, x, rfl, hs, R1, R2, nq, nh, zq, zh, hB⟩
  obtain ⟨a1, c1, rfl⟩ := R1.small
  obtain ⟨a2, c2, rfl⟩ := R2.small
  clear R
  go_wp2_with (refine wpList_store_own2 rfl 27 _ _ rfl w1.heap.size #[.int .i64 l.sent, .int .i64 l.acked, .slice a1 l.q.length c1, .int .i64 l.got, .slice a2 l.h.length c2] rfl rfl 27 _ ((heap_alloc_old _ _ (by simp)).trans (heap_alloc_new _ _)) Try.sizeLk rfl (by simp [Value.oneCell']) ?_)
  intro w2 hn hbg hs2 ho
  have hp : w2.heap[w1.heap.size + 1]? = some (.cells #[.int .i64 0, .string ⟨#[]⟩] 29 (0, 0)) := (ho _ (by omega)).trans (heap_alloc2_new _ _ _)
  have hb : Below w1.heap.size w1 w2 := (((Below.refl _ _).alloc (Nat.le_refl _) _).alloc (by simp) _).trans hbg
  clear hs2 ho hbg
  go_wp2_with (refine wpList_store_own2 rfl 29 _ _ rfl (w1.heap.size + 1) #[.int .i64 x.n, .string x.s] rfl rfl 29 _ hp Try.sizePc rfl (by simp [Value.oneCell']) ?_)
  intro w3 hp3 hbg hs3 ho
  replace hn := (ho _ (by omega)).trans hn
  clear hp
  have hp := hp3
  replace hb := hb.trans (hbg.mono (by omega))
  replace R1 := R1.below hb
  replace R2 := R2.below hb
  replace hB := hB.trans (hb.mono hB.size)
  clear hs3 ho hbg hp3 hb
  generalize w1.heap.size = b3 at *
  generalize hb4 : b3 + 1 = b4 at *
  have hl3 := (Array.getElem?_eq_some_iff.1 hn).1
  go_wp2_with (first | (refine wpList_load_row rfl 27 _ rfl b3 rfl 27 #[.int .i64 l.sent, .int .i64 l.acked, .slice a1 l.q.length c1, .int .i64 l.got, .slice a2 l.h.length c2] (0, 0) _ hn Try.underlying27 rfl Try.sizeLk ?_) | (refine wpList_load_row rfl 29 _ rfl b4 rfl 29 #[.int .i64 x.n, .string x.s] (0, 0) _ hp Try.underlying29 rfl Try.sizePc ?_))
  refine (ilinktake_any _ _ l x _ R1 R2 (by omega) (by omega) hs).mono ?_
  rintro e w4 ⟨u1, u2, u3, rfl, q4, h4, t4, hd4, hb⟩
  replace R1 := R1.below hb
  replace R2 := R2.below hb
  replace hn := (hb.block _ (Array.getElem?_eq_some_iff.1 hn).1).trans hn
  replace hp := (hb.block _ (Array.getElem?_eq_some_iff.1 hp).1).trans hp
  replace hB := hB.trans (hb.mono hB.size)
  clear hb hd4
  obtain ⟨f1, g1, rfl⟩ := own_form q4
  obtain ⟨f2, g2, rfl⟩ := own_form h4
  obtain ⟨f3, g3, rfl⟩ := own_form t4
  have hMM := takeR_ok l x zq zh hs
  have hML := takeR_len l x
  have Q := StRow.of_own q4 (by omega) hMM.1
  have H := PcRow.of_own h4 (by omega) hMM.2.1
  have T := StRow.of_own t4 (by omega) hMM.2.2
  clear q4 h4 t4
  have ST := fun (w : World) (v1 v2 : Value) (R1 : StRow w v1 l.q) (R2 : PcRow w v2 l.h) => slinktake_any v1 v2 l x w R1 R2 hs
  have HG := takeR_got (l := l) x
  have HF := takeR_first (l := l) x
  have HA := takeR_again (l := l) x
  have HZ := takeR_zero (l := l) x
  have HL := takeR_lb (l := l) x
  have hnums := fun h => linkB_nums (l := (takeR l x).1) h
  generalize takeR l x = RR at *
  obtain ⟨M, ts⟩ := RR
  simp only at Q H T hMM hML HG HF HA HZ HL hnums
  go_wp2_with (refine wpList_store_own2 rfl 27 _ _ rfl w4.heap.size #[.int .i64 M.sent, .int .i64 M.acked, .slice f1 M.q.length g1, .int .i64 M.got, .slice f2 M.h.length g2] rfl rfl 27 _ (heap_alloc_new _ _) Try.sizeLk rfl (by simp [Value.oneCell']) ?_)
  intro w5 hm hbg hs5 ho
  clear hs5 ho
  have hb : Below w4.heap.size w4 w5 := ((Below.refl _ _).alloc (Nat.le_refl _) _).trans hbg
  replace R1 := R1.below hb
  replace R2 := R2.below hb
  replace Q := Q.below hb
  replace H := H.below hb
  replace T := T.below hb
  replace hn := (hb.block _ (Array.getElem?_eq_some_iff.1 hn).1).trans hn
  replace hp := (hb.block _ (Array.getElem?_eq_some_iff.1 hp).1).trans hp
  replace hB := hB.trans (hb.mono hB.size)
  clear hb hbg
  generalize w4.heap.size = b5 at *
  go_wp2_with (first | (refine wpList_load_row rfl 27 _ rfl b3 rfl 27 #[.int .i64 l.sent, .int .i64 l.acked, .slice a1 l.q.length c1, .int .i64 l.got, .slice a2 l.h.length c2] (0, 0) _ hn Try.underlying27 rfl Try.sizeLk ?_) | (refine wpList_load_row rfl 29 _ rfl b4 rfl 29 #[.int .i64 x.n, .string x.s] (0, 0) _ hp Try.underlying29 rfl Try.sizePc ?_))
  refine (ST _ _ _ R1 R2).mono ?_
  rintro e w6 ⟨u1, u2, u3, rfl, q6, h6, t6, hd6, hb⟩
  replace R1 := R1.below hb
  replace R2 := R2.below hb
  replace Q := Q.below hb
  replace H := H.below hb
  replace T := T.below hb
  replace hn := (hb.block _ (Array.getElem?_eq_some_iff.1 hn).1).trans hn
  replace hp := (hb.block _ (Array.getElem?_eq_some_iff.1 hp).1).trans hp
  replace hm := (hb.block _ (Array.getElem?_eq_some_iff.1 hm).1).trans hm
  replace hB := hB.trans (hb.mono hB.size)
  clear hb hd6 ST
  obtain ⟨f4, g4, rfl⟩ := own_form q6
  obtain ⟨f5, g5, rfl⟩ := own_form h6
  obtain ⟨f6, g6, rfl⟩ := own_form t6
  simp only at t6
  have T2 := StRow.of_own t6 (by omega) hMM.2.2
  clear q6 h6 t6
  go_wp2_with (refine wpList_store_own2 rfl 27 _ _ rfl w6.heap.size #[.int .i64 M.sent, .int .i64 M.acked, .slice f4 M.q.length g4, .int .i64 M.got, .slice f5 M.h.length g5] rfl rfl 27 _ (heap_alloc_new _ _) Try.sizeLk rfl (by simp [Value.oneCell']) ?_)
  intro w7 hk hbg hs7 ho
  clear hs7 ho hk
  have hb : Below w6.heap.size w6 w7 := ((Below.refl _ _).alloc (Nat.le_refl _) _).trans hbg
  replace R1 := R1.below hb
  replace R2 := R2.below hb
  replace Q := Q.below hb
  replace H := H.below hb
  replace T := T.below hb
  replace T2 := T2.below hb
  replace hn := (hb.block _ (Array.getElem?_eq_some_iff.1 hn).1).trans hn
  replace hp := (hb.block _ (Array.getElem?_eq_some_iff.1 hp).1).trans hp
  replace hm := (hb.block _ (Array.getElem?_eq_some_iff.1 hm).1).trans hm
  replace hB := hB.trans (hb.mono hB.size)
  clear hb hbg
  go_wp2_with fail
  refine (sametexts_any _ _ ts _ T T2).mono ?_
  rintro e w8 ⟨rfl, hb⟩
  replace R1 := R1.below hb
  replace R2 := R2.below hb
  replace Q := Q.below hb
  replace H := H.below hb
  replace T := T.below hb
  replace hn := (hb.block _ (Array.getElem?_eq_some_iff.1 hn).1).trans hn
  replace hp := (hb.block _ (Array.getElem?_eq_some_iff.1 hp).1).trans hp
  replace hm := (hb.block _ (Array.getElem?_eq_some_iff.1 hm).1).trans hm
  replace hB := hB.trans (hb.mono hB.size)
  clear hb T2
  have SO := fun (w : World) (v1 v2 : Value) (R1 : StRow w v1 l.q) (R2 : PcRow w v2 l.h) => slinkok_any v1 v2 l w R1 R2
  have hlb : Hid (linkB l = linkB l) := rfl
  go_wp2_with (refine wpList_load_row rfl 27 _ rfl b3 rfl 27 #[.int .i64 l.sent, .int .i64 l.acked, .slice a1 l.q.length c1, .int .i64 l.got, .slice a2 l.h.length c2] (0, 0) _ hn Try.underlying27 rfl Try.sizeLk ?_)
  refine (SO _ _ _ R1 R2).mono ?_
  rintro e w9 ⟨rfl, hb⟩
  replace Q := Q.below hb
  replace H := H.below hb
  replace T := T.below hb
  replace hn := (hb.block _ (Array.getElem?_eq_some_iff.1 hn).1).trans hn
  replace hp := (hb.block _ (Array.getElem?_eq_some_iff.1 hp).1).trans hp
  replace hm := (hb.block _ (Array.getElem?_eq_some_iff.1 hm).1).trans hm
  replace hB := hB.trans (hb.mono hB.size)
  clear hb SO R1 R2 hlb
  cases hlb : linkB l with
  | false =>
    obtain ⟨rfl, h0⟩ := HZ hlb
    have k0 : w9.cell? ⟨b5, 0, none⟩ = some (.int .i64 M.sent) := cell_of_row _ _ 0 _ _ _ hm
    rw [h0] at k0
    clear HG HF HA HZ HL hnums hlb hn hp hm
    go_wp2
    go_ret
    exact ⟨rfl, hB⟩
  | true =>
    have hG := HG hlb
    have hB1 := HL hlb
    obtain ⟨n1, n2, n3, n4, n5, n6⟩ := hnums hB1
    have IO := fun (w : World) (v1 v2 : Value) (R1 : StRow w v1 M.q) (R2 : PcRow w v2 M.h) => ilinkok_any v1 v2 M w R1 R2
    rw [hB1] at IO
    have W1 : IntKind.i64.wrap (l.got + (ts.length : Int)) = M.got := by rw [IntKind.wrap_i64]; omega
    have e1 : (M.got != M.got) = false := by simp
    clear HG HL HZ hnums hlb hB1 hG n1 n2 n3 n4 n5 n6
    have hl5 := (Array.getElem?_eq_some_iff.1 hm).1
    have hl3' := (Array.getElem?_eq_some_iff.1 hn).1
    have hl4' := (Array.getElem?_eq_some_iff.1 hp).1
    have hMq : M.q.length ≤ 2097152 := by omega
    have hMh : M.h.length ≤ 2097152 := by omega
    have IT := fun (w : World) (v1 v2 : Value) (R1 : StRow w v1 M.q) (R2 : PcRow w v2 M.h) => ilinktake_any v1 v2 M x w R1 R2 hMq hMh hs
    by_cases hne : ts = []
    · subst hne
      have W2 : IntKind.i64.wrap l.got = M.got := by simpa using W1
      have s : w9.cell? ⟨b5, 0, none⟩ = some (.int .i64 M.sent) ∧ w9.cell? ⟨b5, 1, none⟩ = some (.int .i64 M.acked) ∧ w9.cell? ⟨b5, 2, none⟩ = some (.slice f1 M.q.length g1) ∧ w9.cell? ⟨b5, 3, none⟩ = some (.int .i64 M.got) ∧ w9.cell? ⟨b5, 4, none⟩ = some (.slice f2 M.h.length g2) ∧ w9.cell? ⟨b3, 3, none⟩ = some (.int .i64 l.got) ∧ w9.cell? ⟨b4, 0, none⟩ = some (.int .i64 x.n) ∧ w9.cell? ⟨b4, 1, none⟩ = some (.string x.s) := ⟨cell_of_row _ _ 0 _ _ _ hm, cell_of_row _ _ 1 _ _ _ hm, cell_of_row _ _ 2 _ _ _ hm, cell_of_row _ _ 3 _ _ _ hm, cell_of_row _ _ 4 _ _ _ hm, cell_of_row _ _ 3 _ _ _ hn, cell_of_row _ _ 0 _ _ _ hp, cell_of_row _ _ 1 _ _ _ hp⟩
      have box : ∀ w' : World, Below w9.heap.size w9 w' → w'.cell? ⟨b5, 0, none⟩ = some (.int .i64 M.sent) ∧ w'.cell? ⟨b5, 1, none⟩ = some (.int .i64 M.acked) ∧ w'.cell? ⟨b5, 2, none⟩ = some (.slice f1 M.q.length g1) ∧ w'.cell? ⟨b5, 3, none⟩ = some (.int .i64 M.got) ∧ w'.cell? ⟨b5, 4, none⟩ = some (.slice f2 M.h.length g2) ∧ w'.cell? ⟨b3, 3, none⟩ = some (.int .i64 l.got) ∧ w'.cell? ⟨b4, 0, none⟩ = some (.int .i64 x.n) ∧ w'.cell? ⟨b4, 1, none⟩ = some (.string x.s) := fun w' h => ⟨(h.cell (p := ⟨b5, 0, none⟩) hl5).trans s.1, (h.cell (p := ⟨b5, 1, none⟩) hl5).trans s.2.1, (h.cell (p := ⟨b5, 2, none⟩) hl5).trans s.2.2.1, (h.cell (p := ⟨b5, 3, none⟩) hl5).trans s.2.2.2.1, (h.cell (p := ⟨b5, 4, none⟩) hl5).trans s.2.2.2.2.1, (h.cell (p := ⟨b3, 3, none⟩) hl3').trans s.2.2.2.2.2.1, (h.cell (p := ⟨b4, 0, none⟩) hl4').trans s.2.2.2.2.2.2.1, (h.cell (p := ⟨b4, 1, none⟩) hl4').trans s.2.2.2.2.2.2.2⟩
      have LIO := IO w9.drew _ _ (Q.below (Below.refl _ _).drew) (H.below (Below.refl _ _).drew)
      have LIO' : Calls Try.prog 11 #[.agg #[.int .i64 M.sent, .int .i64 M.acked, .slice f1 M.q.length g1, .int .i64 M.got, .slice f2 M.h.length g2]] w9.drew fun e w' => e = .returned (.bool true) ∧ Below w9.drew.heap.size w9.drew w' := LIO
      have box6 := fun (w' : World) (h : Below w9.heap.size w9 w') => (⟨(box w' h).1, (box w' h).2.1, (box w' h).2.2.1, (box w' h).2.2.2.1, (box w' h).2.2.2.2.1, (box w' h).2.2.2.2.2.1⟩ : _ ∧ _ ∧ _ ∧ _ ∧ _ ∧ _)
      go_wp2_with fail
      refine tk_reg10 b3 b4 b5 l M f1 f2 f3 g1 g2 g3 _ _ box6 W2 LIO' (fun wa hb9 => ?_)
      clear box6 LIO'
      all_goals
        replace Q := Q.below hb9
        replace H := H.below hb9
        replace hp := (hb9.block _ (Array.getElem?_eq_some_iff.1 hp).1).trans hp
        replace hm := (hb9.block _ (Array.getElem?_eq_some_iff.1 hm).1).trans hm
        replace hB := hB.trans (hb9.mono hB.size)
        clear hb9 s box IO LIO
        go_wp2_with (first | (refine wpList_load_row rfl 27 _ rfl b5 rfl 27 #[.int .i64 M.sent, .int .i64 M.acked, .slice f1 M.q.length g1, .int .i64 M.got, .slice f2 M.h.length g2] (0, 0) _ hm Try.underlying27 rfl Try.sizeLk ?_) | (refine wpList_load_row rfl 29 _ rfl b4 rfl 29 #[.int .i64 x.n, .string x.s] (0, 0) _ hp Try.underlying29 rfl Try.sizePc ?_))
        refine (IT _ _ _ Q H).mono ?_
        rintro e wb ⟨u1, u2, u3, rfl, qb, hb', tb, hdb, hbb⟩
        obtain ⟨f7, g7, rfl⟩ := own_form qb
        obtain ⟨f8, g8, rfl⟩ := own_form hb'
        obtain ⟨f9, g9, rfl⟩ := own_form tb
        replace hB := hB.trans (hbb.mono hB.size)
        clear qb hb' tb hdb hbb IT Q H hp hm
        generalize takeR M x = RR at *
        obtain ⟨N, us⟩ := RR
        go_wp2_with (refine wpList_store_own2 rfl 27 _ _ rfl wb.heap.size #[.int .i64 N.sent, .int .i64 N.acked, .slice f7 N.q.length g7, .int .i64 N.got, .slice f8 N.h.length g8] rfl rfl 27 _ (heap_alloc_new _ _) Try.sizeLk rfl (by simp [Value.oneCell']) ?_)
        intro wc hkc hbc hsc hoc
        replace hB := hB.trans ((((Below.refl _ _).alloc (Nat.le_refl _) _).trans hbc).mono hB.size)
        clear hkc hbc hsc hoc
        go_wp2
        go_ret
        exact ⟨rfl, hB⟩
    · have hpos : 0 < ts.length := List.length_pos_iff.2 hne
      have hpos' : ¬ ts.length = 0 := by omega
      have hpi : 0 < (ts.length : Int) := by omega
      obtain ⟨hF1, hF2⟩ := HF hne
      have hA0 : (takeR M x).2.length = 0 := by rw [HA hne]; rfl
      have e2 : (x.n != l.got) = false := by simp [hF2]
      obtain ⟨at3, cp3, et3, hc3, _, _, hcell3⟩ := T
      simp only [Value.slice.injEq, true_and] at et3
      obtain ⟨rfl, rfl⟩ := et3
      obtain ⟨gt, ot, rfl, hgt, hcell⟩ := hcell3 hne
      have kt := hcell 0 x.s hF1
      rw [Nat.add_zero] at kt
      clear hF1 hF2 HF HA hcell hcell3 hne
      have s : w9.cell? ⟨b5, 0, none⟩ = some (.int .i64 M.sent) ∧ w9.cell? ⟨b5, 1, none⟩ = some (.int .i64 M.acked) ∧ w9.cell? ⟨b5, 2, none⟩ = some (.slice f1 M.q.length g1) ∧ w9.cell? ⟨b5, 3, none⟩ = some (.int .i64 M.got) ∧ w9.cell? ⟨b5, 4, none⟩ = some (.slice f2 M.h.length g2) ∧ w9.cell? ⟨b3, 3, none⟩ = some (.int .i64 l.got) ∧ w9.cell? ⟨b4, 0, none⟩ = some (.int .i64 x.n) ∧ w9.cell? ⟨b4, 1, none⟩ = some (.string x.s) ∧ w9.cell? ⟨gt, ot, none⟩ = some (.string x.s) := ⟨cell_of_row _ _ 0 _ _ _ hm, cell_of_row _ _ 1 _ _ _ hm, cell_of_row _ _ 2 _ _ _ hm, cell_of_row _ _ 3 _ _ _ hm, cell_of_row _ _ 4 _ _ _ hm, cell_of_row _ _ 3 _ _ _ hn, cell_of_row _ _ 0 _ _ _ hp, cell_of_row _ _ 1 _ _ _ hp, kt⟩
      have box : ∀ w' : World, Below w9.heap.size w9 w' → w'.cell? ⟨b5, 0, none⟩ = some (.int .i64 M.sent) ∧ w'.cell? ⟨b5, 1, none⟩ = some (.int .i64 M.acked) ∧ w'.cell? ⟨b5, 2, none⟩ = some (.slice f1 M.q.length g1) ∧ w'.cell? ⟨b5, 3, none⟩ = some (.int .i64 M.got) ∧ w'.cell? ⟨b5, 4, none⟩ = some (.slice f2 M.h.length g2) ∧ w'.cell? ⟨b3, 3, none⟩ = some (.int .i64 l.got) ∧ w'.cell? ⟨b4, 0, none⟩ = some (.int .i64 x.n) ∧ w'.cell? ⟨b4, 1, none⟩ = some (.string x.s) ∧ w'.cell? ⟨gt, ot, none⟩ = some (.string x.s) := fun w' h => ⟨(h.cell (p := ⟨b5, 0, none⟩) hl5).trans s.1, (h.cell (p := ⟨b5, 1, none⟩) hl5).trans s.2.1, (h.cell (p := ⟨b5, 2, none⟩) hl5).trans s.2.2.1, (h.cell (p := ⟨b5, 3, none⟩) hl5).trans s.2.2.2.1, (h.cell (p := ⟨b5, 4, none⟩) hl5).trans s.2.2.2.2.1, (h.cell (p := ⟨b3, 3, none⟩) hl3').trans s.2.2.2.2.2.1, (h.cell (p := ⟨b4, 0, none⟩) hl4').trans s.2.2.2.2.2.2.1, (h.cell (p := ⟨b4, 1, none⟩) hl4').trans s.2.2.2.2.2.2.2.1, (h.cell (p := ⟨gt, ot, none⟩) hgt).trans s.2.2.2.2.2.2.2.2⟩
      have up9 : ∀ wa, Below w9.drew.heap.size w9.drew wa → Below w9.heap.size w9 wa := fun _ h => (Below.refl _ _).drew.trans h
      have sd := box w9.drew (Below.refl _ _).drew
      have LIO := IO w9.drew _ _ (Q.below (Below.refl _ _).drew) (H.below (Below.refl _ _).drew)
      go_wp2_with fail
      go_region_held3 (fun w' => w'.cell? ⟨b5, 0, none⟩ = some (.int .i64 M.sent) ∧ w'.cell? ⟨b5, 1, none⟩ = some (.int .i64 M.acked) ∧ w'.cell? ⟨b5, 2, none⟩ = some (.slice f1 M.q.length g1) ∧ w'.cell? ⟨b5, 3, none⟩ = some (.int .i64 M.got) ∧ w'.cell? ⟨b5, 4, none⟩ = some (.slice f2 M.h.length g2) ∧ w'.cell? ⟨b3, 3, none⟩ = some (.int .i64 l.got) ∧ w'.cell? ⟨b4, 0, none⟩ = some (.int .i64 x.n) ∧ w'.cell? ⟨b4, 1, none⟩ = some (.string x.s) ∧ w'.cell? ⟨gt, ot, none⟩ = some (.string x.s)) (first | with_reducible exact sa | with_reducible exact sd | go_keep) (first
        | (go_at_call 11; with_reducible refine LIO.mono ?_; rintro e wa ⟨rfl, hba⟩; have hb9 := up9 wa hba; have sa := box wa hb9))
      all_goals
        replace Q := Q.below hb9
        replace H := H.below hb9
        replace hp := (hb9.block _ (Array.getElem?_eq_some_iff.1 hp).1).trans hp
        replace hm := (hb9.block _ (Array.getElem?_eq_some_iff.1 hm).1).trans hm
        replace hB := hB.trans (hb9.mono hB.size)
        clear hb9 hba sa s box IO LIO sd up9
        go_wp2_with (first | (refine wpList_load_row rfl 27 _ rfl b5 rfl 27 #[.int .i64 M.sent, .int .i64 M.acked, .slice f1 M.q.length g1, .int .i64 M.got, .slice f2 M.h.length g2] (0, 0) _ hm Try.underlying27 rfl Try.sizeLk ?_) | (refine wpList_load_row rfl 29 _ rfl b4 rfl 29 #[.int .i64 x.n, .string x.s] (0, 0) _ hp Try.underlying29 rfl Try.sizePc ?_))
        refine (IT _ _ _ Q H).mono ?_
        rintro e wb ⟨u1, u2, u3, rfl, qb, hb', tb, hdb, hbb⟩
        obtain ⟨f7, g7, rfl⟩ := own_form qb
        obtain ⟨f8, g8, rfl⟩ := own_form hb'
        obtain ⟨f9, g9, rfl⟩ := own_form tb
        replace hB := hB.trans (hbb.mono hB.size)
        clear qb hb' tb hdb hbb IT Q H hp hm
        generalize takeR M x = RR at *
        obtain ⟨N, us⟩ := RR
        go_wp2_with (refine wpList_store_own2 rfl 27 _ _ rfl wb.heap.size #[.int .i64 N.sent, .int .i64 N.acked, .slice f7 N.q.length g7, .int .i64 N.got, .slice f8 N.h.length g8] rfl rfl 27 _ (heap_alloc_new _ _) Try.sizeLk rfl (by simp [Value.oneCell']) ?_)
        intro wc hkc hbc hsc hoc
        replace hB := hB.trans ((((Below.refl _ _).alloc (Nat.le_refl _) _).trans hbc).mono hB.size)
        clear hkc hbc hsc hoc
        go_wp2
        go_ret
        exact ⟨rfl, hB⟩
end Go.Proofs.Ytkhokfkcicaojaa
