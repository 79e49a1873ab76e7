/-
  The contract of spec.l8Read: nodes are read as the mathematics says, and whether all was right. Bounds of the form alone.
-/
import Derived.Test.YtbhfooafhbfniaaGreatDoorS8RgM
import Derived.Test.YtbhfooafhbfniaaGreatDoorRNumsM
import Derived.Test.YtbhfooafhbfniaaGreatDoorSGTextM
namespace Go.Proofs.YtbhfooafhbfniaaGreatDoor
open Go.RowKit
theorem Row.apart {w : World} {zs : List Int} {g o : Nat} {t : TypeId} {c : Array Value} {b : Nat} (hl : 0 < zs.length) (hc : ∀ i, i < zs.length → w.cell? ⟨g, o + i, none⟩ = some (.int .u8 (zs.getD i 0))) (hb : w.heap[b]? = some (.cells c t (0, 0))) (hn : ∀ (i : Nat) (z : Int), c[i]? ≠ some (.int .u8 z)) : g ≠ b := by
  rintro rfl
  have := hc 0 hl
  rw [cell_of_row w g (o + 0) _ _ _ hb] at this
  exact hn _ _ this
theorem cur_no (ao : Option Addr) (n cap : Nat) (a : Int) (ok : Bool) : ∀ (i : Nat) (z : Int), (#[Value.slice ao n cap, .int .i64 a, .bool ok] : Array Value)[i]? ≠ some (.int .u8 z) := by
  intro i z h
  match i with
  | 0 => simp at h
  | 1 => simp at h
  | 2 => simp at h
  | i + 3 => simp at h
theorem pool_no (ao : Option Addr) (n cap : Nat) : ∀ (i : Nat) (z : Int), (#[Value.slice ao n cap] : Array Value)[i]? ≠ some (.int .u8 z) := by
  intro i z h
  match i with
  | 0 => simp at h
  | i + 1 => simp at h
theorem Row.k2 {W w' : World} {v : Value} {zs : List Int} {C Pb : Nat} {a : Int} {ok : Bool} {ap : Option Addr} {np cp : Nat} (R : Row W v zs) (hC : C8 W C v a ok) (hP : W.heap[Pb]? = some (.cells #[.slice ap np cp] 32 (0, 0))) (hK : K2 C Pb W w') : Row w' v zs := by
  obtain ⟨ao, cap, rfl, h1, h2, h3, h4⟩ := R
  refine ⟨ao, cap, rfl, h1, h2, h3, fun hne => ?_⟩
  obtain ⟨g, o, rfl, hg, hc⟩ := h4 hne
  have hl := List.length_pos_iff.2 hne
  have n1 := Row.apart hl hc hC (cur_no _ _ _ _ _)
  have n2 := Row.apart hl hc hP (pool_no _ _ _)
  refine ⟨g, o, rfl, Nat.lt_of_lt_of_le hg hK.size, fun i hi => ?_⟩
  rw [World.cell?_of_block (w := W) (hK.block g hg n1 n2)]
  exact hc i hi
theorem s8num_v (b : Nat) (v : Value) (zs : List Int) (at_ : Int) (ok : Bool) (w : World) (R : Row w v zs) (h : C8 w b v at_ ok) (h0 : 0 ≤ at_) (h1 : at_ ≤ zs.length) :
    ∃ x a' k', num8 zs at_ ok = (x, a', k') ∧ 0 ≤ x ∧ x ≤ 9223372036854775807 ∧ 0 ≤ a' ∧ a' ≤ zs.length ∧ Calls Tryz.prog 114 #[.pointer (some ⟨b, 0, none⟩)] w fun e w' => e = .returned (.int .i64 x) ∧ C8 w' b v a' k' ∧ w.grownBy w' (some b) := by
  obtain ⟨_, _, _, _, hm, _⟩ := id R
  have hr := num8_range zs at_ ok h0 h1
  have hc := s8num_any b v zs at_ ok w R h (by omega) (by omega)
  obtain ⟨p, hx⟩ : ∃ p, num8 zs at_ ok = p := ⟨_, rfl⟩
  obtain ⟨x, a', k'⟩ := p
  rw [hx] at hr hc
  exact ⟨x, a', k', hx, hr.1, hr.2.1, hr.2.2.1, hr.2.2.2, hc⟩
theorem sB_size (zs : List Int) (k a : Int) (ok : Bool) : (sB zs k a ok).1.s.size ≤ zs.length := by
  unfold sB
  repeat' split
  all_goals first | exact gT_size zs a | exact Nat.zero_le _
theorem C8.below {w w' : World} {C : Nat} {v : Value} {a : Int} {ok : Bool} (h : C8 w C v a ok) (hb : Below w.heap.size w w') : C8 w' C v a ok := (hb.block _ (Array.getElem?_eq_some_iff.1 h).1).trans h
theorem s8_fin {w W WF : World} {C n cap m cv : Nat} {ao av : Option Addr} {at_ : Int} {k : Bool} {ys : List Value} (b : Bool) (hCl : C < w.heap.size) (hG : w.grownBy W (some C)) (hB : Below W.heap.size W WF) (hC : WF.heap[C]? = some (.cells #[.slice ao n cap, .int .i64 at_, .bool k] 150 (0, 0)))
    (hr : W.heap[w.heap.size]? = some (.cells #[.slice none 0 0] 32 (0, 0))) (hp : W.heap[w.heap.size + 1]? = some (.cells #[.slice av m cv] 32 (0, 0))) (ho : W.ownsRow (w.heap.size + 1 + 1) 130 5 (.slice av m cv) m ys) :
    (WF.setCell ⟨C, 2, none⟩ (.bool b)).cell? ⟨w.heap.size + 1, 0, none⟩ = some (.slice av m cv) ∧ (WF.setCell ⟨C, 2, none⟩ (.bool b)).cell? ⟨w.heap.size, 0, none⟩ = some (.slice none 0 0) ∧ (WF.setCell ⟨C, 2, none⟩ (.bool b)).frozen? ⟨w.heap.size, 0, none⟩ = false ∧
    ((WF.setCell ⟨C, 2, none⟩ (.bool b)).setCell ⟨w.heap.size, 0, none⟩ (.slice av m cv)).heap[w.heap.size]? = some (.cells #[.slice av m cv] 32 (0, 0)) ∧ ((WF.setCell ⟨C, 2, none⟩ (.bool b)).setCell ⟨w.heap.size, 0, none⟩ (.slice av m cv)).ownsRow w.heap.size 130 5 (.slice av m cv) m ys ∧
    C8 ((WF.setCell ⟨C, 2, none⟩ (.bool b)).setCell ⟨w.heap.size, 0, none⟩ (.slice av m cv)) C (.slice ao n cap) at_ b ∧ w.grownBy ((WF.setCell ⟨C, 2, none⟩ (.bool b)).setCell ⟨w.heap.size, 0, none⟩ (.slice av m cv)) (some C) := by
  have lr := (Array.getElem?_eq_some_iff.1 hr).1
  have lp := (Array.getElem?_eq_some_iff.1 hp).1
  have r1 := (hB.block _ lr).trans hr
  have p1 := (hB.block _ lp).trans hp
  have o1 := own_below ho hB
  have r2 := (heap_setCell_other WF ⟨C, 2, none⟩ w.heap.size (.bool b) (by show w.heap.size ≠ C; omega)).trans r1
  have p2 := (heap_setCell_other WF ⟨C, 2, none⟩ (w.heap.size + 1) (.bool b) (by show w.heap.size + 1 ≠ C; omega)).trans p1
  have c2 := heap_setCell_same WF C 2 _ _ (.bool b) hC
  have o2 := ownsRow_setCell_below o1 (a := ⟨C, 2, none⟩) (by show C < w.heap.size + 1 + 1; omega) (.bool b)
  have g2 : w.grownBy (WF.setCell ⟨C, 2, none⟩ (.bool b)) (some C) := grown_trans (grown_then hG hB hG.size) (grown_set WF C 2 _)
  have r3 := heap_setCell_same (WF.setCell ⟨C, 2, none⟩ (.bool b)) w.heap.size 0 _ _ (.slice av m cv) r2
  have c3 := (heap_setCell_other (WF.setCell ⟨C, 2, none⟩ (.bool b)) ⟨w.heap.size, 0, none⟩ C (.slice av m cv) (by show C ≠ w.heap.size; omega)).trans c2
  have o3 := own_mono (ownsRow_setCell_below o2 (a := ⟨w.heap.size, 0, none⟩) (by show w.heap.size < w.heap.size + 1 + 1; omega) (.slice av m cv)) (show w.heap.size ≤ w.heap.size + 1 + 1 by omega)
  have g3 : w.grownBy ((WF.setCell ⟨C, 2, none⟩ (.bool b)).setCell ⟨w.heap.size, 0, none⟩ (.slice av m cv)) (some C) := grown_then g2 ((Below.refl w.heap.size _).setCell (p := ⟨w.heap.size, 0, none⟩) (Nat.le_refl _) _) (Nat.le_refl _)
  exact ⟨cell_of_row _ _ 0 _ _ _ p2, cell_of_row _ _ 0 _ _ _ r2, frozen_of_row _ _ 0 _ _ r2, r3, o3, c3, g3⟩
set_option maxRecDepth 100000 in
set_option maxHeartbeats 12800000 in
theorem s8read_any (C : Nat) (v : Value) (zs : List Int) (a : Int) (ok : Bool) (w : World) (R : Row w v zs) (h : C8 w C v a ok) (h0 : 0 ≤ a) (h1 : a ≤ zs.length) :
    Calls Tryz.prog 101 #[.pointer (some ⟨C, 0, none⟩)] w fun e w' => ∃ vs, e = .returned (.agg #[vs]) ∧ w'.ownsRow w.heap.size 130 5 vs (sP zs a ok).1.length (ncs (sP zs a ok).1) ∧ C8 w' C v (sP zs a ok).2.1 (sOk zs a ok) ∧ w.grownBy w' (some C) ∧ ∀ x ∈ (sP zs a ok).1, x.s.size ≤ zs.length := by
  obtain ⟨i0, hi, hz0, hz1, hz2⟩ := info_parts Tryz.infoN
  obtain ⟨ao, cap, rfl, _, hml, _⟩ := id R
  have hCl := (Array.getElem?_eq_some_iff.1 h).1
  obtain ⟨hB2, x0, x1⟩ := two_boxes w (Obj.cells #[.slice none 0 0] 32) (Obj.cells #[.slice none 0 0] 32)
  go_enter Tryz.func101, Tryz.ntmps101
  go_wp2_with fail
  obtain ⟨W2, hW2⟩ : ∃ W2, (w.alloc (Obj.cells #[.slice none 0 0] 32)).alloc (Obj.cells #[.slice none 0 0] 32) = W2 := ⟨_, rfl⟩
  rw [hW2] at hB2 x0 x1 ⊢
  have hl1 := (Array.getElem?_eq_some_iff.1 x1).1
  obtain ⟨n, a1, k1, en, n0, n1, a10, a11, HN⟩ := s8num_v C (.slice ao zs.length cap) zs a ok W2 (R.below hB2) (h.below hB2) h0 h1
  refine HN.mono ?_
  rintro e w1 ⟨rfl, hC1, hg1⟩
  have x1' := x1
  have x0 := (hg1.block _ (by omega) (by simp; omega)).trans x0
  have x1 := (hg1.block _ (by omega) (by simp; omega)).trans x1
  have hG1 : w.grownBy w1 (some C) := grown_trans (grown_below hB2 _) hg1
  have hs1 := hg1.size
  have HP : Hid (sP zs a ok = sNs zs n.toNat [] a1 (k1 && decide (n ≤ 3000))) := by unfold Hid sP sCount; rw [en]
  have hR1 : Row w1 (.slice ao zs.length cap) zs := (R.below hB2).k2 (h.below hB2) x1' (K2.ofP hg1)
  clear en HN hg1 hB2 hW2
  have cC : w1.cell? ⟨C, 2, none⟩ = some (.bool k1) := cell_of_row _ _ 2 _ _ _ hC1
  have fC : w1.frozen? ⟨C, 2, none⟩ = false := frozen_of_row _ _ 2 _ _ hC1
  by_cases hn3 : 3000 < n
  · have HX : Hid (sP zs a ok = ([], a1, false)) := by unfold Hid; rw [HP.out, decide_eq_false (by omega), Bool.and_false, sNs_false]
    have HS : Hid (sOk zs a ok = false) := by unfold Hid sOk; rw [HX.out]; rfl
    have hC2 : C8 (w1.setCell ⟨C, 2, none⟩ (.bool false)) C (.slice ao zs.length cap) a1 false := heap_setCell_same w1 C 2 _ _ (.bool false) hC1
    have y0 := (heap_setCell_other w1 ⟨C, 2, none⟩ w.heap.size (.bool false) (by show w.heap.size ≠ C; omega)).trans x0
    have y1 := (heap_setCell_other w1 ⟨C, 2, none⟩ (w.heap.size + 1) (.bool false) (by show w.heap.size + 1 ≠ C; omega)).trans x1
    have hG2 : w.grownBy (w1.setCell ⟨C, 2, none⟩ (.bool false)) (some C) := grown_trans hG1 (grown_set w1 C 2 _)
    have cD : (w1.setCell ⟨C, 2, none⟩ (.bool false)).cell? ⟨C, 2, none⟩ = some (.bool false) := cell_of_row _ _ 2 _ _ _ hC2
    go_wp2_with fail
    obtain ⟨W3, hW3⟩ : ∃ W3, w1.setCell ⟨C, 2, none⟩ (.bool false) = W3 := ⟨_, rfl⟩
    rw [hW3] at hC2 y0 y1 hG2 cD ⊢
    clear hW3 cC fC hC1 x0 x1 hG1 hR1
    go_loopw [5] (fun i wr => i = .int .i64 0 ∧ wr = W3) (fun _ _ => 0)
    case atStart => exact ⟨rfl, rfl⟩
    case round =>
      obtain ⟨rfl, rfl⟩ := hrel
      have n3 : (0 : Int) < n := by omega
      go_wp2_with fail
      refine s8_regF1 C (w.heap.size + 1) zs.length cap 0 0 ao none a1 _ _ (by omega) hC2 y1 ?_
      intro u105 u106 u107 u108 u109 u110 u111 u112 u113 u114 u115 u116 u117 u118 u119 u120 u121 u122 u123 u124 u125 u126 u127 WF hBF hCF
      obtain ⟨q1, q2, q3, q4, q5, q6, q7⟩ := s8_fin false hCl hG2 hBF hCF y0 y1 (World.ownsRow_nil _ _ _ _)
      clear hBF hCF
      go_wp2
      refine bodyPost_ret (results_cell_row rfl _ _ w.heap.size 32 _ (0, 0) _ rfl q4 Tryz.underlying32 rfl Tryz.sizeP) rfl ⟨.slice none 0 0, rfl, ?_, ?_, q7, ?_⟩
      · rw [HX.out]; exact q5
      · rw [HS.out, HX.out]; exact q6
      · rw [HX.out]; intro x hx; cases hx
  obtain ⟨N, rfl⟩ := Int.eq_ofNat_of_zero_le n0
  have hN3 : N ≤ 3000 := by omega
  cases k1 with
  | false =>
    have HX : Hid (sP zs a ok = ([], a1, false)) := by unfold Hid; rw [HP.out, Bool.false_and, sNs_false]
    have HS : Hid (sOk zs a ok = false) := by unfold Hid sOk; rw [HX.out]; rfl
    go_wp2_with fail
    go_loopw [5] (fun i wr => i = .int .i64 0 ∧ wr = w1) (fun _ _ => 0)
    case atStart => exact ⟨rfl, rfl⟩
    case round =>
      obtain ⟨rfl, rfl⟩ := hrel
      rcases Nat.eq_zero_or_pos N with h00 | h00
      · subst h00
        go_wp2_with fail
        refine s8_regF1 C (w.heap.size + 1) zs.length cap 0 0 ao none a1 _ _ (by omega) hC1 x1 ?_
        intro u105 u106 u107 u108 u109 u110 u111 u112 u113 u114 u115 u116 u117 u118 u119 u120 u121 u122 u123 u124 u125 u126 u127 WF hBF hCF
        obtain ⟨q1, q2, q3, q4, q5, q6, q7⟩ := s8_fin false hCl hG1 hBF hCF x0 x1 (World.ownsRow_nil _ _ _ _)
        clear hBF hCF
        go_wp2
        refine bodyPost_ret (results_cell_row rfl _ _ w.heap.size 32 _ (0, 0) _ rfl q4 Tryz.underlying32 rfl Tryz.sizeP) rfl ⟨.slice none 0 0, rfl, ?_, ?_, q7, ?_⟩
        · rw [HX.out]; exact q5
        · rw [HS.out, HX.out]; exact q6
        · rw [HX.out]; intro x hx; cases hx
      · have h01 : (0 : Int) < N := by omega
        go_wp2_with fail
        refine s8_regF1 C (w.heap.size + 1) zs.length cap 0 0 ao none a1 _ _ (by omega) hC1 x1 ?_
        intro u105 u106 u107 u108 u109 u110 u111 u112 u113 u114 u115 u116 u117 u118 u119 u120 u121 u122 u123 u124 u125 u126 u127 WF hBF hCF
        obtain ⟨q1, q2, q3, q4, q5, q6, q7⟩ := s8_fin false hCl hG1 hBF hCF x0 x1 (World.ownsRow_nil _ _ _ _)
        clear hBF hCF
        go_wp2
        refine bodyPost_ret (results_cell_row rfl _ _ w.heap.size 32 _ (0, 0) _ rfl q4 Tryz.underlying32 rfl Tryz.sizeP) rfl ⟨.slice none 0 0, rfl, ?_, ?_, q7, ?_⟩
        · rw [HX.out]; exact q5
        · rw [HS.out, HX.out]; exact q6
        · rw [HX.out]; intro x hx; cases hx
  | true =>
    have HP : Hid (sP zs a ok = sNs zs N [] a1 true) := by unfold Hid; rw [HP.out, decide_eq_true (by omega)]; rfl
    go_wp2_with fail
    clear cC fC
    go_loopw [5] (fun i wr => ∃ (k m : Nat) (xs : List Nd) (at_ : Int) (kk : Bool) (av : Option Addr) (cv : Nat), k + m = N ∧ i = .int .i64 k ∧ Hid (sP zs a ok = sNs zs m xs at_ kk) ∧ Hid (xs.length = k) ∧ Hid (∀ x ∈ xs, x.s.size ≤ zs.length) ∧ 0 ≤ at_ ∧ at_ ≤ zs.length ∧ C8 wr C (.slice ao zs.length cap) at_ kk ∧ wr.heap[w.heap.size + 1]? = some (.cells #[.slice av k cv] 32 (0, 0)) ∧ wr.ownsRow w1.heap.size 130 5 (.slice av k cv) k (ncs xs) ∧ K2 C (w.heap.size + 1) w1 wr) (fun i _ => N - (intOf i).toNat)
    case atStart => exact ⟨0, N, [], a1, true, none, 0, by omega, rfl, HP, rfl, (by intro x hx; cases hx), a10, a11, hC1, x1, World.ownsRow_nil _ _ _ _, K2.refl _ _ _⟩
    case round =>
      obtain ⟨k, m, xs, at_, kk, av, cv, hkm, rfl, HR, HL, HZ, at0, at1, hC, hpb, hown, hK⟩ := hrel
      have hsr := hK.size
      have hrb := (hK.block _ (by omega) (by omega) (by omega)).trans x0
      have hGr : w.grownBy wr (some C) := ((K2.ofP hG1).trans hK).grown (by omega)
      have cC : wr.cell? ⟨C, 2, none⟩ = some (.bool kk) := cell_of_row _ _ 2 _ _ _ hC
      obtain rfl : xs.length = k := HL.out
      cases kk with
      | false =>
        have HX : Hid (sP zs a ok = (xs, at_, false)) := by unfold Hid; rw [HR.out, sNs_false]
        have HS : Hid (sOk zs a ok = false) := by unfold Hid sOk; rw [HX.out]; rfl
        by_cases hlt : (xs.length : Int) < N
        · go_wp2_with fail
          refine s8_regF1 C (w.heap.size + 1) zs.length cap xs.length cv ao av at_ _ _ (by omega) hC hpb ?_
          intro u105 u106 u107 u108 u109 u110 u111 u112 u113 u114 u115 u116 u117 u118 u119 u120 u121 u122 u123 u124 u125 u126 u127 WF hBF hCF
          obtain ⟨q1, q2, q3, q4, q5, q6, q7⟩ := s8_fin false hCl hGr hBF hCF hrb hpb (own_mono hown (show w.heap.size + 1 + 1 ≤ w1.heap.size by omega))
          clear hBF hCF
          go_wp2
          refine bodyPost_ret (results_cell_row rfl _ _ w.heap.size 32 _ (0, 0) _ rfl q4 Tryz.underlying32 rfl Tryz.sizeP) rfl ⟨.slice av xs.length cv, rfl, ?_, ?_, q7, ?_⟩
          · rw [HX.out]; exact q5
          · rw [HS.out, HX.out]; exact q6
          · rw [HX.out]; exact HZ.out
        · go_wp2_with fail
          refine s8_regF1 C (w.heap.size + 1) zs.length cap xs.length cv ao av at_ _ _ (by omega) hC hpb ?_
          intro u105 u106 u107 u108 u109 u110 u111 u112 u113 u114 u115 u116 u117 u118 u119 u120 u121 u122 u123 u124 u125 u126 u127 WF hBF hCF
          obtain ⟨q1, q2, q3, q4, q5, q6, q7⟩ := s8_fin false hCl hGr hBF hCF hrb hpb (own_mono hown (show w.heap.size + 1 + 1 ≤ w1.heap.size by omega))
          clear hBF hCF
          go_wp2
          refine bodyPost_ret (results_cell_row rfl _ _ w.heap.size 32 _ (0, 0) _ rfl q4 Tryz.underlying32 rfl Tryz.sizeP) rfl ⟨.slice av xs.length cv, rfl, ?_, ?_, q7, ?_⟩
          · rw [HX.out]; exact q5
          · rw [HS.out, HX.out]; exact q6
          · rw [HX.out]; exact HZ.out
      | true =>
        by_cases hlt : (xs.length : Int) < N
        · obtain ⟨m, rfl⟩ : ∃ m', m = m' + 1 := ⟨m - 1, by omega⟩
          have Rr := hR1.k2 hC1 x1 hK
          have lC := (Array.getElem?_eq_some_iff.1 hC).1
          have lpb := (Array.getElem?_eq_some_iff.1 hpb).1
          have hol : ∀ j, (Value.slice av xs.length cv).ownBlock = some j → w1.heap.size ≤ j ∧ j < wr.heap.size := fun j hj => hown.lt j hj
          obtain ⟨kd, a2, k2, e1, kd0, kd1, a20, a21, HC1⟩ := s8num_v C (.slice ao zs.length cap) zs at_ true wr Rr hC at0 at1
          go_wp2_with fail
          refine HC1.mono ?_
          rintro e w2 ⟨rfl, hC2, hg2⟩
          have hpb2 := (hg2.block _ lpb (by simp; omega)).trans hpb
          have hown2 := hown.kept hg2 (own_off hown (by omega))
          have hK2 := hK.trans (K2.ofP hg2)
          have hs2 := hg2.size
          clear cC HC1 hg2
          go_wp2_with (refine wpList_store_own rfl 130 _ _ rfl w2.heap.size (ndA (nd0 kd)) rfl rfl 130 _ (heap_alloc_new _ _) Tryz.sizeN rfl (ndA_one _) ?_)
          intro w3 hh3 hb3 hs3x
          clear hs3x
          have hB23 : Below w2.heap.size w2 w3 := ((Below.refl _ _).alloc (Nat.le_refl _) _).trans hb3
          have hC3 := hC2.below hB23
          have hpb3 := (hB23.block _ (Array.getElem?_eq_some_iff.1 hpb2).1).trans hpb2
          have hown3 := own_below hown2 hB23
          have hK3 := hK2.trans (K2.ofB hB23)
          have lnb := (Array.getElem?_eq_some_iff.1 hh3).1
          clear hB23 hb3 hC2 hpb2 hown2 hK2 hown hpb hC Rr
          obtain ⟨nb, hnb⟩ : ∃ nb, Hid (w2.heap.size = nb) := ⟨_, rfl⟩
          rw [hnb.out] at hh3 hs2 lnb ⊢
          clear hnb
          have cK : w3.cell? ⟨nb, 0, none⟩ = some (.int .i64 kd) := cell_of_row _ _ 0 _ _ _ hh3
          have HN : Hid (sN zs at_ = sB zs kd a2 k2) := by unfold Hid sN; rw [e1]
          clear e1
          rcases (show kd = 2 ∨ kd = 8 ∨ kd = 9 ∨ kd = 3 ∨ kd = 4 ∨ kd = 5 ∨ kd = 6 ∨ kd = 7 ∨ (kd ≠ 2 ∧ kd ≠ 8 ∧ kd ≠ 9 ∧ kd ≠ 3 ∧ kd ≠ 4 ∧ kd ≠ 5 ∧ kd ≠ 6 ∧ kd ≠ 7) by omega) with rfl | rfl | rfl | rfl | rfl | rfl | rfl | rfl | ⟨m2, m8, m9, m3, m4, m5, m6, m7⟩
          · have R5 := hR1.k2 hC1 x1 hK3
            obtain ⟨x5, b5, j5, e5, x50, x51, b50, b51, HC5⟩ := s8num_v C (.slice ao zs.length cap) zs a2 k2 w3 R5 hC3 a20 a21
            have lh5 := (Array.getElem?_eq_some_iff.1 hh3).1
            go_wp2_with fail
            refine HC5.mono ?_
            rintro e v5 ⟨rfl, hCa5, hga5⟩
            have hha5 := (hga5.block nb lh5 (by simp; omega)).trans hh3
            have hpa5 := (hga5.block _ (Array.getElem?_eq_some_iff.1 hpb3).1 (by simp; omega)).trans hpb3
            have hoa5 := hown3.kept hga5 (own_off hown3 (by omega))
            have hKa5 := hK3.trans (K2.ofP hga5)
            have hsk5 := hKa5.size
            have ca5 : v5.cell? ⟨nb, 1, none⟩ = some (.int .i64 0) := cell_of_row v5 _ 1 _ _ _ hha5
            have fa5 : v5.frozen? ⟨nb, 1, none⟩ = false := frozen_of_row v5 _ 1 _ _ hha5
            have hh5 : (v5.setCell ⟨nb, 1, none⟩ (.int .i64 x5)).heap[nb]? = some (.cells (ndA (⟨2, x5, ByteArray.empty, 0, 0⟩ : Nd)) 130 (0, 0)) := heap_setCell_same v5 nb 1 _ _ (.int .i64 x5) hha5
            have hpb5 := (heap_setCell_other v5 ⟨nb, 1, none⟩ (w.heap.size + 1) (.int .i64 x5) (by show w.heap.size + 1 ≠ nb; omega)).trans hpa5
            have hC5 : C8 (v5.setCell ⟨nb, 1, none⟩ (.int .i64 x5)) C (.slice ao zs.length cap) b5 j5 := (heap_setCell_other v5 ⟨nb, 1, none⟩ C (.int .i64 x5) (by show C ≠ nb; omega)).trans hCa5
            have hown5 := ownsRow_setCell_other hoa5 (a := ⟨nb, 1, none⟩) (fun e => by have := (hol nb e).2; omega) (.int .i64 x5)
            have hK5 := hKa5.row (grown_set v5 nb 1 (.int .i64 x5)) (fun j hj => by cases hj; omega)
            clear HC5 hga5
            have k0 : (v5.setCell ⟨nb, 1, none⟩ (.int .i64 x5)).cell? ⟨nb, 0, none⟩ = some (.int .i64 2) := cell_of_row (v5.setCell ⟨nb, 1, none⟩ (.int .i64 x5)) _ 0 _ _ _ hh5
            have k1 : (v5.setCell ⟨nb, 1, none⟩ (.int .i64 x5)).cell? ⟨nb, 1, none⟩ = some (.int .i64 x5) := cell_of_row (v5.setCell ⟨nb, 1, none⟩ (.int .i64 x5)) _ 1 _ _ _ hh5
            have k2' : (v5.setCell ⟨nb, 1, none⟩ (.int .i64 x5)).cell? ⟨nb, 2, none⟩ = some (.string ByteArray.empty) := cell_of_row (v5.setCell ⟨nb, 1, none⟩ (.int .i64 x5)) _ 2 _ _ _ hh5
            have k3 : (v5.setCell ⟨nb, 1, none⟩ (.int .i64 x5)).cell? ⟨nb, 3, none⟩ = some (.int .i64 0) := cell_of_row (v5.setCell ⟨nb, 1, none⟩ (.int .i64 x5)) _ 3 _ _ _ hh5
            have k4 : (v5.setCell ⟨nb, 1, none⟩ (.int .i64 x5)).cell? ⟨nb, 4, none⟩ = some (.int .i64 0) := cell_of_row (v5.setCell ⟨nb, 1, none⟩ (.int .i64 x5)) _ 4 _ _ _ hh5
            have kp : (v5.setCell ⟨nb, 1, none⟩ (.int .i64 x5)).cell? ⟨w.heap.size + 1, 0, none⟩ = some (.slice av xs.length cv) := cell_of_row (v5.setCell ⟨nb, 1, none⟩ (.int .i64 x5)) _ 0 _ _ _ hpb5
            have HXz : Hid (sN zs at_ = ((⟨2, x5, ByteArray.empty, 0, 0⟩ : Nd), b5, j5)) := by unfold Hid; rw [HN.out]; unfold sB; rw [if_pos (Or.inl rfl), e5]
            have HSz : ByteArray.empty.size ≤ zs.length := by have := congrArg (fun t => t.1.s.size) HXz.out; rw [HN.out] at this; dsimp only at this; rw [← this]; exact sB_size _ _ _ _
            have HRz : Hid (sP zs a ok = sNs zs m (xs ++ [(⟨2, x5, ByteArray.empty, 0, 0⟩ : Nd)]) b5 j5) := by unfold Hid; rw [HR.out, sNs, if_pos rfl, HXz.out]
            have hB7 : Below (v5.setCell ⟨nb, 1, none⟩ (.int .i64 x5)).heap.size (v5.setCell ⟨nb, 1, none⟩ (.int .i64 x5)) ((v5.setCell ⟨nb, 1, none⟩ (.int .i64 x5)).alloc (Obj.cells (ndA (⟨2, x5, ByteArray.empty, 0, 0⟩ : Nd)) 130)) := (Below.refl _ _).alloc (Nat.le_refl _) _
            have hpb7 := (hB7.block _ (Array.getElem?_eq_some_iff.1 hpb5).1).trans hpb5
            have hC7 := hC5.below hB7
            have hs7 := hB7.size
            have hsz := hK5.size
            have lC7 := (Array.getElem?_eq_some_iff.1 hC7).1
            have hnews : ∀ (j : Nat) u, (ncs [(⟨2, x5, ByteArray.empty, 0, 0⟩ : Nd)])[j]? = some u → ((v5.setCell ⟨nb, 1, none⟩ (.int .i64 x5)).alloc (Obj.cells (ndA (⟨2, x5, ByteArray.empty, 0, 0⟩ : Nd)) 130)).cell? ((⟨v5.heap.size, 0, none⟩ : Addr).add j) = some u := by
              rw [show v5.heap.size = (v5.setCell ⟨nb, 1, none⟩ (.int .i64 x5)).heap.size by simp [World.setCell]]
              exact World.news_of_block (cs := ndA (⟨2, x5, ByteArray.empty, 0, 0⟩ : Nd)) (t := 130) (fr := (0, 0)) (heap_alloc_new (v5.setCell ⟨nb, 1, none⟩ (.int .i64 x5)) _)
            go_wp2_with (at_builtin; refine wpList_append_lies _ rfl _ _ 30 rfl w1.heap.size 130 i0 _ 5 48 Tryz.underlying30 hi hz0 hz1 hz2 rfl (by decide) _ _ _ rfl (hown5.alloc _) ⟨v5.heap.size, 0, none⟩ 1 1 (ncs [(⟨2, x5, ByteArray.empty, 0, 0⟩ : Nd)]) rfl rfl hnews (ncs_one _) (by omega) (by unfold maxLen; omega) (by omega) (by simp; omega) _ rfl ?_)
            intro g2 cap2 w8 hown8 hgrow hat hgl2
            have hpb8 := (hgrow.block (w.heap.size + 1) (Array.getElem?_eq_some_iff.1 hpb7).1 (fun e => by have := (hol _ e.symm).1; omega)).trans hpb7
            have hC8 : C8 w8 C (.slice ao zs.length cap) b5 j5 := (hgrow.block C lC7 (fun e => by have := (hol _ e.symm).1; omega)).trans hC7
            have hK8 := (hK5.trans (K2.ofB hB7)).row hgrow (fun j hj => (hol j hj).1)
            have kp8 : w8.cell? ⟨w.heap.size + 1, 0, none⟩ = some (.slice av xs.length cv) := cell_of_row w8 _ 0 _ _ _ hpb8
            have kf8 : w8.frozen? ⟨w.heap.size + 1, 0, none⟩ = false := frozen_of_row w8 _ 0 _ _ hpb8
            have hpb9 := heap_setCell_same w8 (w.heap.size + 1) 0 _ _ (.slice (some ⟨g2, 0, none⟩) (xs.length + 1) cap2) hpb8
            have hK9 := hK8.trans (K2.ofM (grown_set w8 (w.heap.size + 1) 0 (.slice (some ⟨g2, 0, none⟩) (xs.length + 1) cap2)))
            have hC9 : C8 (w8.setCell ⟨w.heap.size + 1, 0, none⟩ (.slice (some ⟨g2, 0, none⟩) (xs.length + 1) cap2)) C (.slice ao zs.length cap) b5 j5 := (heap_setCell_other w8 ⟨w.heap.size + 1, 0, none⟩ C _ (by show C ≠ w.heap.size + 1; omega)).trans hC8
            have hown9 := ownsRow_setCell_below hown8 (a := ⟨w.heap.size + 1, 0, none⟩) (by show w.heap.size + 1 < w1.heap.size; omega) (.slice (some ⟨g2, 0, none⟩) (xs.length + 1) cap2)
            have HL2 : Hid ((xs ++ [(⟨2, x5, ByteArray.empty, 0, 0⟩ : Nd)]).length = xs.length + 1) := by unfold Hid; rw [List.length_append]; rfl
            have HZ2 : Hid (∀ x ∈ xs ++ [(⟨2, x5, ByteArray.empty, 0, 0⟩ : Nd)], x.s.size ≤ zs.length) := by
              intro x hx
              rcases List.mem_append.1 hx with hx | hx
              · exact HZ.out x hx
              · rw [List.mem_singleton] at hx; subst hx; exact HSz
            clear hnews k0 k1 k2' k3 k4 kp hgrow hat hown8 hpb8 hC8 hpb7 hB7 hC7 hK8
            go_wp2
            go_roundw
            case rel => exact ⟨xs.length + 1, m, xs ++ [(⟨2, x5, ByteArray.empty, 0, 0⟩ : Nd)], b5, j5, _, cap2, by omega, by go_num, HRz, HL2, HZ2, b50, b51, hC9, hpb9, by rw [ncs_append]; exact hown9, hK9⟩
            case measure => simp [intOf]; omega
          · have R5 := hR1.k2 hC1 x1 hK3
            obtain ⟨x5, b5, j5, e5, x50, x51, b50, b51, HC5⟩ := s8num_v C (.slice ao zs.length cap) zs a2 k2 w3 R5 hC3 a20 a21
            have lh5 := (Array.getElem?_eq_some_iff.1 hh3).1
            go_wp2_with fail
            refine HC5.mono ?_
            rintro e v5 ⟨rfl, hCa5, hga5⟩
            have hha5 := (hga5.block nb lh5 (by simp; omega)).trans hh3
            have hpa5 := (hga5.block _ (Array.getElem?_eq_some_iff.1 hpb3).1 (by simp; omega)).trans hpb3
            have hoa5 := hown3.kept hga5 (own_off hown3 (by omega))
            have hKa5 := hK3.trans (K2.ofP hga5)
            have hsk5 := hKa5.size
            have ca5 : v5.cell? ⟨nb, 1, none⟩ = some (.int .i64 0) := cell_of_row v5 _ 1 _ _ _ hha5
            have fa5 : v5.frozen? ⟨nb, 1, none⟩ = false := frozen_of_row v5 _ 1 _ _ hha5
            have hh5 : (v5.setCell ⟨nb, 1, none⟩ (.int .i64 x5)).heap[nb]? = some (.cells (ndA (⟨8, x5, ByteArray.empty, 0, 0⟩ : Nd)) 130 (0, 0)) := heap_setCell_same v5 nb 1 _ _ (.int .i64 x5) hha5
            have hpb5 := (heap_setCell_other v5 ⟨nb, 1, none⟩ (w.heap.size + 1) (.int .i64 x5) (by show w.heap.size + 1 ≠ nb; omega)).trans hpa5
            have hC5 : C8 (v5.setCell ⟨nb, 1, none⟩ (.int .i64 x5)) C (.slice ao zs.length cap) b5 j5 := (heap_setCell_other v5 ⟨nb, 1, none⟩ C (.int .i64 x5) (by show C ≠ nb; omega)).trans hCa5
            have hown5 := ownsRow_setCell_other hoa5 (a := ⟨nb, 1, none⟩) (fun e => by have := (hol nb e).2; omega) (.int .i64 x5)
            have hK5 := hKa5.row (grown_set v5 nb 1 (.int .i64 x5)) (fun j hj => by cases hj; omega)
            clear HC5 hga5
            have k0 : (v5.setCell ⟨nb, 1, none⟩ (.int .i64 x5)).cell? ⟨nb, 0, none⟩ = some (.int .i64 8) := cell_of_row (v5.setCell ⟨nb, 1, none⟩ (.int .i64 x5)) _ 0 _ _ _ hh5
            have k1 : (v5.setCell ⟨nb, 1, none⟩ (.int .i64 x5)).cell? ⟨nb, 1, none⟩ = some (.int .i64 x5) := cell_of_row (v5.setCell ⟨nb, 1, none⟩ (.int .i64 x5)) _ 1 _ _ _ hh5
            have k2' : (v5.setCell ⟨nb, 1, none⟩ (.int .i64 x5)).cell? ⟨nb, 2, none⟩ = some (.string ByteArray.empty) := cell_of_row (v5.setCell ⟨nb, 1, none⟩ (.int .i64 x5)) _ 2 _ _ _ hh5
            have k3 : (v5.setCell ⟨nb, 1, none⟩ (.int .i64 x5)).cell? ⟨nb, 3, none⟩ = some (.int .i64 0) := cell_of_row (v5.setCell ⟨nb, 1, none⟩ (.int .i64 x5)) _ 3 _ _ _ hh5
            have k4 : (v5.setCell ⟨nb, 1, none⟩ (.int .i64 x5)).cell? ⟨nb, 4, none⟩ = some (.int .i64 0) := cell_of_row (v5.setCell ⟨nb, 1, none⟩ (.int .i64 x5)) _ 4 _ _ _ hh5
            have kp : (v5.setCell ⟨nb, 1, none⟩ (.int .i64 x5)).cell? ⟨w.heap.size + 1, 0, none⟩ = some (.slice av xs.length cv) := cell_of_row (v5.setCell ⟨nb, 1, none⟩ (.int .i64 x5)) _ 0 _ _ _ hpb5
            have HXz : Hid (sN zs at_ = ((⟨8, x5, ByteArray.empty, 0, 0⟩ : Nd), b5, j5)) := by unfold Hid; rw [HN.out]; unfold sB; rw [if_pos (Or.inr (Or.inl rfl)), e5]
            have HSz : ByteArray.empty.size ≤ zs.length := by have := congrArg (fun t => t.1.s.size) HXz.out; rw [HN.out] at this; dsimp only at this; rw [← this]; exact sB_size _ _ _ _
            have HRz : Hid (sP zs a ok = sNs zs m (xs ++ [(⟨8, x5, ByteArray.empty, 0, 0⟩ : Nd)]) b5 j5) := by unfold Hid; rw [HR.out, sNs, if_pos rfl, HXz.out]
            have hB7 : Below (v5.setCell ⟨nb, 1, none⟩ (.int .i64 x5)).heap.size (v5.setCell ⟨nb, 1, none⟩ (.int .i64 x5)) ((v5.setCell ⟨nb, 1, none⟩ (.int .i64 x5)).alloc (Obj.cells (ndA (⟨8, x5, ByteArray.empty, 0, 0⟩ : Nd)) 130)) := (Below.refl _ _).alloc (Nat.le_refl _) _
            have hpb7 := (hB7.block _ (Array.getElem?_eq_some_iff.1 hpb5).1).trans hpb5
            have hC7 := hC5.below hB7
            have hs7 := hB7.size
            have hsz := hK5.size
            have lC7 := (Array.getElem?_eq_some_iff.1 hC7).1
            have hnews : ∀ (j : Nat) u, (ncs [(⟨8, x5, ByteArray.empty, 0, 0⟩ : Nd)])[j]? = some u → ((v5.setCell ⟨nb, 1, none⟩ (.int .i64 x5)).alloc (Obj.cells (ndA (⟨8, x5, ByteArray.empty, 0, 0⟩ : Nd)) 130)).cell? ((⟨v5.heap.size, 0, none⟩ : Addr).add j) = some u := by
              rw [show v5.heap.size = (v5.setCell ⟨nb, 1, none⟩ (.int .i64 x5)).heap.size by simp [World.setCell]]
              exact World.news_of_block (cs := ndA (⟨8, x5, ByteArray.empty, 0, 0⟩ : Nd)) (t := 130) (fr := (0, 0)) (heap_alloc_new (v5.setCell ⟨nb, 1, none⟩ (.int .i64 x5)) _)
            go_wp2_with (at_builtin; refine wpList_append_lies _ rfl _ _ 30 rfl w1.heap.size 130 i0 _ 5 48 Tryz.underlying30 hi hz0 hz1 hz2 rfl (by decide) _ _ _ rfl (hown5.alloc _) ⟨v5.heap.size, 0, none⟩ 1 1 (ncs [(⟨8, x5, ByteArray.empty, 0, 0⟩ : Nd)]) rfl rfl hnews (ncs_one _) (by omega) (by unfold maxLen; omega) (by omega) (by simp; omega) _ rfl ?_)
            intro g2 cap2 w8 hown8 hgrow hat hgl2
            have hpb8 := (hgrow.block (w.heap.size + 1) (Array.getElem?_eq_some_iff.1 hpb7).1 (fun e => by have := (hol _ e.symm).1; omega)).trans hpb7
            have hC8 : C8 w8 C (.slice ao zs.length cap) b5 j5 := (hgrow.block C lC7 (fun e => by have := (hol _ e.symm).1; omega)).trans hC7
            have hK8 := (hK5.trans (K2.ofB hB7)).row hgrow (fun j hj => (hol j hj).1)
            have kp8 : w8.cell? ⟨w.heap.size + 1, 0, none⟩ = some (.slice av xs.length cv) := cell_of_row w8 _ 0 _ _ _ hpb8
            have kf8 : w8.frozen? ⟨w.heap.size + 1, 0, none⟩ = false := frozen_of_row w8 _ 0 _ _ hpb8
            have hpb9 := heap_setCell_same w8 (w.heap.size + 1) 0 _ _ (.slice (some ⟨g2, 0, none⟩) (xs.length + 1) cap2) hpb8
            have hK9 := hK8.trans (K2.ofM (grown_set w8 (w.heap.size + 1) 0 (.slice (some ⟨g2, 0, none⟩) (xs.length + 1) cap2)))
            have hC9 : C8 (w8.setCell ⟨w.heap.size + 1, 0, none⟩ (.slice (some ⟨g2, 0, none⟩) (xs.length + 1) cap2)) C (.slice ao zs.length cap) b5 j5 := (heap_setCell_other w8 ⟨w.heap.size + 1, 0, none⟩ C _ (by show C ≠ w.heap.size + 1; omega)).trans hC8
            have hown9 := ownsRow_setCell_below hown8 (a := ⟨w.heap.size + 1, 0, none⟩) (by show w.heap.size + 1 < w1.heap.size; omega) (.slice (some ⟨g2, 0, none⟩) (xs.length + 1) cap2)
            have HL2 : Hid ((xs ++ [(⟨8, x5, ByteArray.empty, 0, 0⟩ : Nd)]).length = xs.length + 1) := by unfold Hid; rw [List.length_append]; rfl
            have HZ2 : Hid (∀ x ∈ xs ++ [(⟨8, x5, ByteArray.empty, 0, 0⟩ : Nd)], x.s.size ≤ zs.length) := by
              intro x hx
              rcases List.mem_append.1 hx with hx | hx
              · exact HZ.out x hx
              · rw [List.mem_singleton] at hx; subst hx; exact HSz
            clear hnews k0 k1 k2' k3 k4 kp hgrow hat hown8 hpb8 hC8 hpb7 hB7 hC7 hK8
            go_wp2
            go_roundw
            case rel => exact ⟨xs.length + 1, m, xs ++ [(⟨8, x5, ByteArray.empty, 0, 0⟩ : Nd)], b5, j5, _, cap2, by omega, by go_num, HRz, HL2, HZ2, b50, b51, hC9, hpb9, by rw [ncs_append]; exact hown9, hK9⟩
            case measure => simp [intOf]; omega
          · have R5 := hR1.k2 hC1 x1 hK3
            obtain ⟨x5, b5, j5, e5, x50, x51, b50, b51, HC5⟩ := s8num_v C (.slice ao zs.length cap) zs a2 k2 w3 R5 hC3 a20 a21
            have lh5 := (Array.getElem?_eq_some_iff.1 hh3).1
            go_wp2_with fail
            refine HC5.mono ?_
            rintro e v5 ⟨rfl, hCa5, hga5⟩
            have hha5 := (hga5.block nb lh5 (by simp; omega)).trans hh3
            have hpa5 := (hga5.block _ (Array.getElem?_eq_some_iff.1 hpb3).1 (by simp; omega)).trans hpb3
            have hoa5 := hown3.kept hga5 (own_off hown3 (by omega))
            have hKa5 := hK3.trans (K2.ofP hga5)
            have hsk5 := hKa5.size
            have ca5 : v5.cell? ⟨nb, 1, none⟩ = some (.int .i64 0) := cell_of_row v5 _ 1 _ _ _ hha5
            have fa5 : v5.frozen? ⟨nb, 1, none⟩ = false := frozen_of_row v5 _ 1 _ _ hha5
            have hh5 : (v5.setCell ⟨nb, 1, none⟩ (.int .i64 x5)).heap[nb]? = some (.cells (ndA (⟨9, x5, ByteArray.empty, 0, 0⟩ : Nd)) 130 (0, 0)) := heap_setCell_same v5 nb 1 _ _ (.int .i64 x5) hha5
            have hpb5 := (heap_setCell_other v5 ⟨nb, 1, none⟩ (w.heap.size + 1) (.int .i64 x5) (by show w.heap.size + 1 ≠ nb; omega)).trans hpa5
            have hC5 : C8 (v5.setCell ⟨nb, 1, none⟩ (.int .i64 x5)) C (.slice ao zs.length cap) b5 j5 := (heap_setCell_other v5 ⟨nb, 1, none⟩ C (.int .i64 x5) (by show C ≠ nb; omega)).trans hCa5
            have hown5 := ownsRow_setCell_other hoa5 (a := ⟨nb, 1, none⟩) (fun e => by have := (hol nb e).2; omega) (.int .i64 x5)
            have hK5 := hKa5.row (grown_set v5 nb 1 (.int .i64 x5)) (fun j hj => by cases hj; omega)
            clear HC5 hga5
            have k0 : (v5.setCell ⟨nb, 1, none⟩ (.int .i64 x5)).cell? ⟨nb, 0, none⟩ = some (.int .i64 9) := cell_of_row (v5.setCell ⟨nb, 1, none⟩ (.int .i64 x5)) _ 0 _ _ _ hh5
            have k1 : (v5.setCell ⟨nb, 1, none⟩ (.int .i64 x5)).cell? ⟨nb, 1, none⟩ = some (.int .i64 x5) := cell_of_row (v5.setCell ⟨nb, 1, none⟩ (.int .i64 x5)) _ 1 _ _ _ hh5
            have k2' : (v5.setCell ⟨nb, 1, none⟩ (.int .i64 x5)).cell? ⟨nb, 2, none⟩ = some (.string ByteArray.empty) := cell_of_row (v5.setCell ⟨nb, 1, none⟩ (.int .i64 x5)) _ 2 _ _ _ hh5
            have k3 : (v5.setCell ⟨nb, 1, none⟩ (.int .i64 x5)).cell? ⟨nb, 3, none⟩ = some (.int .i64 0) := cell_of_row (v5.setCell ⟨nb, 1, none⟩ (.int .i64 x5)) _ 3 _ _ _ hh5
            have k4 : (v5.setCell ⟨nb, 1, none⟩ (.int .i64 x5)).cell? ⟨nb, 4, none⟩ = some (.int .i64 0) := cell_of_row (v5.setCell ⟨nb, 1, none⟩ (.int .i64 x5)) _ 4 _ _ _ hh5
            have kp : (v5.setCell ⟨nb, 1, none⟩ (.int .i64 x5)).cell? ⟨w.heap.size + 1, 0, none⟩ = some (.slice av xs.length cv) := cell_of_row (v5.setCell ⟨nb, 1, none⟩ (.int .i64 x5)) _ 0 _ _ _ hpb5
            have HXz : Hid (sN zs at_ = ((⟨9, x5, ByteArray.empty, 0, 0⟩ : Nd), b5, j5)) := by unfold Hid; rw [HN.out]; unfold sB; rw [if_pos (Or.inr (Or.inr rfl)), e5]
            have HSz : ByteArray.empty.size ≤ zs.length := by have := congrArg (fun t => t.1.s.size) HXz.out; rw [HN.out] at this; dsimp only at this; rw [← this]; exact sB_size _ _ _ _
            have HRz : Hid (sP zs a ok = sNs zs m (xs ++ [(⟨9, x5, ByteArray.empty, 0, 0⟩ : Nd)]) b5 j5) := by unfold Hid; rw [HR.out, sNs, if_pos rfl, HXz.out]
            have hB7 : Below (v5.setCell ⟨nb, 1, none⟩ (.int .i64 x5)).heap.size (v5.setCell ⟨nb, 1, none⟩ (.int .i64 x5)) ((v5.setCell ⟨nb, 1, none⟩ (.int .i64 x5)).alloc (Obj.cells (ndA (⟨9, x5, ByteArray.empty, 0, 0⟩ : Nd)) 130)) := (Below.refl _ _).alloc (Nat.le_refl _) _
            have hpb7 := (hB7.block _ (Array.getElem?_eq_some_iff.1 hpb5).1).trans hpb5
            have hC7 := hC5.below hB7
            have hs7 := hB7.size
            have hsz := hK5.size
            have lC7 := (Array.getElem?_eq_some_iff.1 hC7).1
            have hnews : ∀ (j : Nat) u, (ncs [(⟨9, x5, ByteArray.empty, 0, 0⟩ : Nd)])[j]? = some u → ((v5.setCell ⟨nb, 1, none⟩ (.int .i64 x5)).alloc (Obj.cells (ndA (⟨9, x5, ByteArray.empty, 0, 0⟩ : Nd)) 130)).cell? ((⟨v5.heap.size, 0, none⟩ : Addr).add j) = some u := by
              rw [show v5.heap.size = (v5.setCell ⟨nb, 1, none⟩ (.int .i64 x5)).heap.size by simp [World.setCell]]
              exact World.news_of_block (cs := ndA (⟨9, x5, ByteArray.empty, 0, 0⟩ : Nd)) (t := 130) (fr := (0, 0)) (heap_alloc_new (v5.setCell ⟨nb, 1, none⟩ (.int .i64 x5)) _)
            go_wp2_with (at_builtin; refine wpList_append_lies _ rfl _ _ 30 rfl w1.heap.size 130 i0 _ 5 48 Tryz.underlying30 hi hz0 hz1 hz2 rfl (by decide) _ _ _ rfl (hown5.alloc _) ⟨v5.heap.size, 0, none⟩ 1 1 (ncs [(⟨9, x5, ByteArray.empty, 0, 0⟩ : Nd)]) rfl rfl hnews (ncs_one _) (by omega) (by unfold maxLen; omega) (by omega) (by simp; omega) _ rfl ?_)
            intro g2 cap2 w8 hown8 hgrow hat hgl2
            have hpb8 := (hgrow.block (w.heap.size + 1) (Array.getElem?_eq_some_iff.1 hpb7).1 (fun e => by have := (hol _ e.symm).1; omega)).trans hpb7
            have hC8 : C8 w8 C (.slice ao zs.length cap) b5 j5 := (hgrow.block C lC7 (fun e => by have := (hol _ e.symm).1; omega)).trans hC7
            have hK8 := (hK5.trans (K2.ofB hB7)).row hgrow (fun j hj => (hol j hj).1)
            have kp8 : w8.cell? ⟨w.heap.size + 1, 0, none⟩ = some (.slice av xs.length cv) := cell_of_row w8 _ 0 _ _ _ hpb8
            have kf8 : w8.frozen? ⟨w.heap.size + 1, 0, none⟩ = false := frozen_of_row w8 _ 0 _ _ hpb8
            have hpb9 := heap_setCell_same w8 (w.heap.size + 1) 0 _ _ (.slice (some ⟨g2, 0, none⟩) (xs.length + 1) cap2) hpb8
            have hK9 := hK8.trans (K2.ofM (grown_set w8 (w.heap.size + 1) 0 (.slice (some ⟨g2, 0, none⟩) (xs.length + 1) cap2)))
            have hC9 : C8 (w8.setCell ⟨w.heap.size + 1, 0, none⟩ (.slice (some ⟨g2, 0, none⟩) (xs.length + 1) cap2)) C (.slice ao zs.length cap) b5 j5 := (heap_setCell_other w8 ⟨w.heap.size + 1, 0, none⟩ C _ (by show C ≠ w.heap.size + 1; omega)).trans hC8
            have hown9 := ownsRow_setCell_below hown8 (a := ⟨w.heap.size + 1, 0, none⟩) (by show w.heap.size + 1 < w1.heap.size; omega) (.slice (some ⟨g2, 0, none⟩) (xs.length + 1) cap2)
            have HL2 : Hid ((xs ++ [(⟨9, x5, ByteArray.empty, 0, 0⟩ : Nd)]).length = xs.length + 1) := by unfold Hid; rw [List.length_append]; rfl
            have HZ2 : Hid (∀ x ∈ xs ++ [(⟨9, x5, ByteArray.empty, 0, 0⟩ : Nd)], x.s.size ≤ zs.length) := by
              intro x hx
              rcases List.mem_append.1 hx with hx | hx
              · exact HZ.out x hx
              · rw [List.mem_singleton] at hx; subst hx; exact HSz
            clear hnews k0 k1 k2' k3 k4 kp hgrow hat hown8 hpb8 hC8 hpb7 hB7 hC7 hK8
            go_wp2
            go_roundw
            case rel => exact ⟨xs.length + 1, m, xs ++ [(⟨9, x5, ByteArray.empty, 0, 0⟩ : Nd)], b5, j5, _, cap2, by omega, by go_num, HRz, HL2, HZ2, b50, b51, hC9, hpb9, by rw [ncs_append]; exact hown9, hK9⟩
            case measure => simp [intOf]; omega
          · have R5 := hR1.k2 hC1 x1 hK3
            obtain ⟨x5, b5, j5, e5, x50, x51, b50, b51, HC5⟩ := s8num_v C (.slice ao zs.length cap) zs a2 k2 w3 R5 hC3 a20 a21
            have lh5 := (Array.getElem?_eq_some_iff.1 hh3).1
            go_wp2_with fail
            refine HC5.mono ?_
            rintro e v5 ⟨rfl, hCa5, hga5⟩
            have hha5 := (hga5.block nb lh5 (by simp; omega)).trans hh3
            have hpa5 := (hga5.block _ (Array.getElem?_eq_some_iff.1 hpb3).1 (by simp; omega)).trans hpb3
            have hoa5 := hown3.kept hga5 (own_off hown3 (by omega))
            have hKa5 := hK3.trans (K2.ofP hga5)
            have hsk5 := hKa5.size
            have ca5 : v5.cell? ⟨nb, 1, none⟩ = some (.int .i64 0) := cell_of_row v5 _ 1 _ _ _ hha5
            have fa5 : v5.frozen? ⟨nb, 1, none⟩ = false := frozen_of_row v5 _ 1 _ _ hha5
            have hh5 : (v5.setCell ⟨nb, 1, none⟩ (.int .i64 (x5 - 1000000000))).heap[nb]? = some (.cells (ndA (⟨3, (x5 - 1000000000), ByteArray.empty, 0, 0⟩ : Nd)) 130 (0, 0)) := heap_setCell_same v5 nb 1 _ _ (.int .i64 (x5 - 1000000000)) hha5
            have hpb5 := (heap_setCell_other v5 ⟨nb, 1, none⟩ (w.heap.size + 1) (.int .i64 (x5 - 1000000000)) (by show w.heap.size + 1 ≠ nb; omega)).trans hpa5
            have hC5 : C8 (v5.setCell ⟨nb, 1, none⟩ (.int .i64 (x5 - 1000000000))) C (.slice ao zs.length cap) b5 j5 := (heap_setCell_other v5 ⟨nb, 1, none⟩ C (.int .i64 (x5 - 1000000000)) (by show C ≠ nb; omega)).trans hCa5
            have hown5 := ownsRow_setCell_other hoa5 (a := ⟨nb, 1, none⟩) (fun e => by have := (hol nb e).2; omega) (.int .i64 (x5 - 1000000000))
            have hK5 := hKa5.row (grown_set v5 nb 1 (.int .i64 (x5 - 1000000000))) (fun j hj => by cases hj; omega)
            clear HC5 hga5
            have k0 : (v5.setCell ⟨nb, 1, none⟩ (.int .i64 (x5 - 1000000000))).cell? ⟨nb, 0, none⟩ = some (.int .i64 3) := cell_of_row (v5.setCell ⟨nb, 1, none⟩ (.int .i64 (x5 - 1000000000))) _ 0 _ _ _ hh5
            have k1 : (v5.setCell ⟨nb, 1, none⟩ (.int .i64 (x5 - 1000000000))).cell? ⟨nb, 1, none⟩ = some (.int .i64 (x5 - 1000000000)) := cell_of_row (v5.setCell ⟨nb, 1, none⟩ (.int .i64 (x5 - 1000000000))) _ 1 _ _ _ hh5
            have k2' : (v5.setCell ⟨nb, 1, none⟩ (.int .i64 (x5 - 1000000000))).cell? ⟨nb, 2, none⟩ = some (.string ByteArray.empty) := cell_of_row (v5.setCell ⟨nb, 1, none⟩ (.int .i64 (x5 - 1000000000))) _ 2 _ _ _ hh5
            have k3 : (v5.setCell ⟨nb, 1, none⟩ (.int .i64 (x5 - 1000000000))).cell? ⟨nb, 3, none⟩ = some (.int .i64 0) := cell_of_row (v5.setCell ⟨nb, 1, none⟩ (.int .i64 (x5 - 1000000000))) _ 3 _ _ _ hh5
            have k4 : (v5.setCell ⟨nb, 1, none⟩ (.int .i64 (x5 - 1000000000))).cell? ⟨nb, 4, none⟩ = some (.int .i64 0) := cell_of_row (v5.setCell ⟨nb, 1, none⟩ (.int .i64 (x5 - 1000000000))) _ 4 _ _ _ hh5
            have kp : (v5.setCell ⟨nb, 1, none⟩ (.int .i64 (x5 - 1000000000))).cell? ⟨w.heap.size + 1, 0, none⟩ = some (.slice av xs.length cv) := cell_of_row (v5.setCell ⟨nb, 1, none⟩ (.int .i64 (x5 - 1000000000))) _ 0 _ _ _ hpb5
            have HXz : Hid (sN zs at_ = ((⟨3, (x5 - 1000000000), ByteArray.empty, 0, 0⟩ : Nd), b5, j5)) := by unfold Hid; rw [HN.out]; unfold sB; rw [if_neg (by omega), if_pos rfl, e5]
            have HSz : ByteArray.empty.size ≤ zs.length := by have := congrArg (fun t => t.1.s.size) HXz.out; rw [HN.out] at this; dsimp only at this; rw [← this]; exact sB_size _ _ _ _
            have HRz : Hid (sP zs a ok = sNs zs m (xs ++ [(⟨3, (x5 - 1000000000), ByteArray.empty, 0, 0⟩ : Nd)]) b5 j5) := by unfold Hid; rw [HR.out, sNs, if_pos rfl, HXz.out]
            have hB7 : Below (v5.setCell ⟨nb, 1, none⟩ (.int .i64 (x5 - 1000000000))).heap.size (v5.setCell ⟨nb, 1, none⟩ (.int .i64 (x5 - 1000000000))) ((v5.setCell ⟨nb, 1, none⟩ (.int .i64 (x5 - 1000000000))).alloc (Obj.cells (ndA (⟨3, (x5 - 1000000000), ByteArray.empty, 0, 0⟩ : Nd)) 130)) := (Below.refl _ _).alloc (Nat.le_refl _) _
            have hpb7 := (hB7.block _ (Array.getElem?_eq_some_iff.1 hpb5).1).trans hpb5
            have hC7 := hC5.below hB7
            have hs7 := hB7.size
            have hsz := hK5.size
            have lC7 := (Array.getElem?_eq_some_iff.1 hC7).1
            have hnews : ∀ (j : Nat) u, (ncs [(⟨3, (x5 - 1000000000), ByteArray.empty, 0, 0⟩ : Nd)])[j]? = some u → ((v5.setCell ⟨nb, 1, none⟩ (.int .i64 (x5 - 1000000000))).alloc (Obj.cells (ndA (⟨3, (x5 - 1000000000), ByteArray.empty, 0, 0⟩ : Nd)) 130)).cell? ((⟨v5.heap.size, 0, none⟩ : Addr).add j) = some u := by
              rw [show v5.heap.size = (v5.setCell ⟨nb, 1, none⟩ (.int .i64 (x5 - 1000000000))).heap.size by simp [World.setCell]]
              exact World.news_of_block (cs := ndA (⟨3, (x5 - 1000000000), ByteArray.empty, 0, 0⟩ : Nd)) (t := 130) (fr := (0, 0)) (heap_alloc_new (v5.setCell ⟨nb, 1, none⟩ (.int .i64 (x5 - 1000000000))) _)
            go_wp2_with (at_builtin; refine wpList_append_lies _ rfl _ _ 30 rfl w1.heap.size 130 i0 _ 5 48 Tryz.underlying30 hi hz0 hz1 hz2 rfl (by decide) _ _ _ rfl (hown5.alloc _) ⟨v5.heap.size, 0, none⟩ 1 1 (ncs [(⟨3, (x5 - 1000000000), ByteArray.empty, 0, 0⟩ : Nd)]) rfl rfl hnews (ncs_one _) (by omega) (by unfold maxLen; omega) (by omega) (by simp; omega) _ rfl ?_)
            intro g2 cap2 w8 hown8 hgrow hat hgl2
            have hpb8 := (hgrow.block (w.heap.size + 1) (Array.getElem?_eq_some_iff.1 hpb7).1 (fun e => by have := (hol _ e.symm).1; omega)).trans hpb7
            have hC8 : C8 w8 C (.slice ao zs.length cap) b5 j5 := (hgrow.block C lC7 (fun e => by have := (hol _ e.symm).1; omega)).trans hC7
            have hK8 := (hK5.trans (K2.ofB hB7)).row hgrow (fun j hj => (hol j hj).1)
            have kp8 : w8.cell? ⟨w.heap.size + 1, 0, none⟩ = some (.slice av xs.length cv) := cell_of_row w8 _ 0 _ _ _ hpb8
            have kf8 : w8.frozen? ⟨w.heap.size + 1, 0, none⟩ = false := frozen_of_row w8 _ 0 _ _ hpb8
            have hpb9 := heap_setCell_same w8 (w.heap.size + 1) 0 _ _ (.slice (some ⟨g2, 0, none⟩) (xs.length + 1) cap2) hpb8
            have hK9 := hK8.trans (K2.ofM (grown_set w8 (w.heap.size + 1) 0 (.slice (some ⟨g2, 0, none⟩) (xs.length + 1) cap2)))
            have hC9 : C8 (w8.setCell ⟨w.heap.size + 1, 0, none⟩ (.slice (some ⟨g2, 0, none⟩) (xs.length + 1) cap2)) C (.slice ao zs.length cap) b5 j5 := (heap_setCell_other w8 ⟨w.heap.size + 1, 0, none⟩ C _ (by show C ≠ w.heap.size + 1; omega)).trans hC8
            have hown9 := ownsRow_setCell_below hown8 (a := ⟨w.heap.size + 1, 0, none⟩) (by show w.heap.size + 1 < w1.heap.size; omega) (.slice (some ⟨g2, 0, none⟩) (xs.length + 1) cap2)
            have HL2 : Hid ((xs ++ [(⟨3, (x5 - 1000000000), ByteArray.empty, 0, 0⟩ : Nd)]).length = xs.length + 1) := by unfold Hid; rw [List.length_append]; rfl
            have HZ2 : Hid (∀ x ∈ xs ++ [(⟨3, (x5 - 1000000000), ByteArray.empty, 0, 0⟩ : Nd)], x.s.size ≤ zs.length) := by
              intro x hx
              rcases List.mem_append.1 hx with hx | hx
              · exact HZ.out x hx
              · rw [List.mem_singleton] at hx; subst hx; exact HSz
            clear hnews k0 k1 k2' k3 k4 kp hgrow hat hown8 hpb8 hC8 hpb7 hB7 hC7 hK8
            go_wp2
            go_roundw
            case rel => exact ⟨xs.length + 1, m, xs ++ [(⟨3, (x5 - 1000000000), ByteArray.empty, 0, 0⟩ : Nd)], b5, j5, _, cap2, by omega, by go_num, HRz, HL2, HZ2, b50, b51, hC9, hpb9, by rw [ncs_append]; exact hown9, hK9⟩
            case measure => simp [intOf]; omega
          · have R5 := hR1.k2 hC1 x1 hK3
            obtain ⟨g, hg⟩ : ∃ g, Hid (gT zs a2 = g) := ⟨_, rfl⟩
            obtain ⟨gs, gn, gk⟩ := g
            have HG : ∀ W : World, Row W (.slice ao zs.length cap) zs → Calls Tryz.prog 115 #[.slice ao zs.length cap, .int .i64 a2] W fun e w' => e = .returned (.tuple #[.string gs, .int .i64 gn, .bool gk]) ∧ w' = W := fun W RW => by
              have := sgtext_any _ zs a2 W RW (by omega) (by omega)
              rw [hg.out] at this
              exact this
            have gn0 : 0 ≤ gn := by have := (gT_range zs a2).1; rw [hg.out] at this; exact this
            have gn1 : gn ≤ zs.length := by have := (gT_range zs a2).2; rw [hg.out] at this; exact this
            have c0 : w3.cell? ⟨C, 0, none⟩ = some (.slice ao zs.length cap) := cell_of_row _ _ 0 _ _ _ hC3
            have c1 : w3.cell? ⟨C, 1, none⟩ = some (.int .i64 a2) := cell_of_row _ _ 1 _ _ _ hC3
            go_wp2_with fail
            go_quiet (first | (go_at_call 115; refine Calls.quiet_of_same (HG _ R5)))
            all_goals
              have hd : Below w3.heap.size w3 (w3.drewN nq) := ⟨rfl, rfl, rfl, Nat.le_refl _, fun _ _ => rfl⟩
              have hC4 := hC3.below hd
              have hh4 := (hd.block _ lnb).trans hh3
              have hpb4 := (hd.block _ (Array.getElem?_eq_some_iff.1 hpb3).1).trans hpb3
              have hown4 := own_below hown3 hd
              have hK4 := hK3.trans (K2.ofB hd)
              have hs4 := hd.size
              clear c0 c1 HG R5 hd hC3 hh3 hpb3 hown3 hK3 cK
              generalize w3.drewN nq = w4 at *
              cases k2 <;> cases gk
              · have p2 : w4.cell? ⟨C, 2, none⟩ = some (.bool false) := cell_of_row _ _ 2 _ _ _ hC4
                have pf2 : w4.frozen? ⟨C, 2, none⟩ = false := frozen_of_row _ _ 2 _ _ hC4
                have hCa : C8 (w4.setCell ⟨C, 2, none⟩ (.bool false)) C (.slice ao zs.length cap) a2 false := heap_setCell_same w4 C 2 _ _ (.bool false) hC4
                have pa : (w4.setCell ⟨C, 2, none⟩ (.bool false)).cell? ⟨C, 1, none⟩ = some (.int .i64 a2) := cell_of_row _ _ 1 _ _ _ hCa
                have pfa : (w4.setCell ⟨C, 2, none⟩ (.bool false)).frozen? ⟨C, 1, none⟩ = false := frozen_of_row _ _ 1 _ _ hCa
                have hgc : w4.grownBy ((w4.setCell ⟨C, 2, none⟩ (.bool false)).setCell ⟨C, 1, none⟩ (.int .i64 gn)) (some C) := grown_trans (grown_set w4 C 2 _) (grown_set _ C 1 _)
                have hCb : C8 ((w4.setCell ⟨C, 2, none⟩ (.bool false)).setCell ⟨C, 1, none⟩ (.int .i64 gn)) C (.slice ao zs.length cap) gn false := heap_setCell_same (w4.setCell ⟨C, 2, none⟩ (.bool false)) C 1 _ _ (.int .i64 gn) hCa
                have hhb := (hgc.block nb (by omega) (by simp; omega)).trans hh4
                have hpbb := (hgc.block _ (Array.getElem?_eq_some_iff.1 hpb4).1 (by simp; omega)).trans hpb4
                have hownb := hown4.kept hgc (own_off hown4 (by omega))
                have hKb := hK4.trans (K2.ofP hgc)
                have hsk4 := hK4.size
                have pb2 : ((w4.setCell ⟨C, 2, none⟩ (.bool false)).setCell ⟨C, 1, none⟩ (.int .i64 gn)).cell? ⟨nb, 2, none⟩ = some (.string ByteArray.empty) := cell_of_row _ _ 2 _ _ _ hhb
                have pfb2 : ((w4.setCell ⟨C, 2, none⟩ (.bool false)).setCell ⟨C, 1, none⟩ (.int .i64 gn)).frozen? ⟨nb, 2, none⟩ = false := frozen_of_row _ _ 2 _ _ hhb
                have hh5 : (((w4.setCell ⟨C, 2, none⟩ (.bool false)).setCell ⟨C, 1, none⟩ (.int .i64 gn)).setCell ⟨nb, 2, none⟩ (.string gs)).heap[nb]? = some (.cells (ndA (⟨4, 0, gs, 0, 0⟩ : Nd)) 130 (0, 0)) := heap_setCell_same ((w4.setCell ⟨C, 2, none⟩ (.bool false)).setCell ⟨C, 1, none⟩ (.int .i64 gn)) nb 2 _ _ (.string gs) hhb
                have hpb5 := (heap_setCell_other ((w4.setCell ⟨C, 2, none⟩ (.bool false)).setCell ⟨C, 1, none⟩ (.int .i64 gn)) ⟨nb, 2, none⟩ (w.heap.size + 1) (.string gs) (by show w.heap.size + 1 ≠ nb; omega)).trans hpbb
                have hC5 : C8 (((w4.setCell ⟨C, 2, none⟩ (.bool false)).setCell ⟨C, 1, none⟩ (.int .i64 gn)).setCell ⟨nb, 2, none⟩ (.string gs)) C (.slice ao zs.length cap) gn false := (heap_setCell_other ((w4.setCell ⟨C, 2, none⟩ (.bool false)).setCell ⟨C, 1, none⟩ (.int .i64 gn)) ⟨nb, 2, none⟩ C (.string gs) (by show C ≠ nb; omega)).trans hCb
                have hown5 := ownsRow_setCell_other hownb (a := ⟨nb, 2, none⟩) (fun e => by have := (hol nb e).2; omega) (.string gs)
                have hK5 := hKb.row (grown_set ((w4.setCell ⟨C, 2, none⟩ (.bool false)).setCell ⟨C, 1, none⟩ (.int .i64 gn)) nb 2 (.string gs)) (fun j hj => by cases hj; omega)
                have k0 : (((w4.setCell ⟨C, 2, none⟩ (.bool false)).setCell ⟨C, 1, none⟩ (.int .i64 gn)).setCell ⟨nb, 2, none⟩ (.string gs)).cell? ⟨nb, 0, none⟩ = some (.int .i64 4) := cell_of_row (((w4.setCell ⟨C, 2, none⟩ (.bool false)).setCell ⟨C, 1, none⟩ (.int .i64 gn)).setCell ⟨nb, 2, none⟩ (.string gs)) _ 0 _ _ _ hh5
                have k1 : (((w4.setCell ⟨C, 2, none⟩ (.bool false)).setCell ⟨C, 1, none⟩ (.int .i64 gn)).setCell ⟨nb, 2, none⟩ (.string gs)).cell? ⟨nb, 1, none⟩ = some (.int .i64 0) := cell_of_row (((w4.setCell ⟨C, 2, none⟩ (.bool false)).setCell ⟨C, 1, none⟩ (.int .i64 gn)).setCell ⟨nb, 2, none⟩ (.string gs)) _ 1 _ _ _ hh5
                have k2' : (((w4.setCell ⟨C, 2, none⟩ (.bool false)).setCell ⟨C, 1, none⟩ (.int .i64 gn)).setCell ⟨nb, 2, none⟩ (.string gs)).cell? ⟨nb, 2, none⟩ = some (.string gs) := cell_of_row (((w4.setCell ⟨C, 2, none⟩ (.bool false)).setCell ⟨C, 1, none⟩ (.int .i64 gn)).setCell ⟨nb, 2, none⟩ (.string gs)) _ 2 _ _ _ hh5
                have k3 : (((w4.setCell ⟨C, 2, none⟩ (.bool false)).setCell ⟨C, 1, none⟩ (.int .i64 gn)).setCell ⟨nb, 2, none⟩ (.string gs)).cell? ⟨nb, 3, none⟩ = some (.int .i64 0) := cell_of_row (((w4.setCell ⟨C, 2, none⟩ (.bool false)).setCell ⟨C, 1, none⟩ (.int .i64 gn)).setCell ⟨nb, 2, none⟩ (.string gs)) _ 3 _ _ _ hh5
                have k4 : (((w4.setCell ⟨C, 2, none⟩ (.bool false)).setCell ⟨C, 1, none⟩ (.int .i64 gn)).setCell ⟨nb, 2, none⟩ (.string gs)).cell? ⟨nb, 4, none⟩ = some (.int .i64 0) := cell_of_row (((w4.setCell ⟨C, 2, none⟩ (.bool false)).setCell ⟨C, 1, none⟩ (.int .i64 gn)).setCell ⟨nb, 2, none⟩ (.string gs)) _ 4 _ _ _ hh5
                have kp : (((w4.setCell ⟨C, 2, none⟩ (.bool false)).setCell ⟨C, 1, none⟩ (.int .i64 gn)).setCell ⟨nb, 2, none⟩ (.string gs)).cell? ⟨w.heap.size + 1, 0, none⟩ = some (.slice av xs.length cv) := cell_of_row (((w4.setCell ⟨C, 2, none⟩ (.bool false)).setCell ⟨C, 1, none⟩ (.int .i64 gn)).setCell ⟨nb, 2, none⟩ (.string gs)) _ 0 _ _ _ hpb5
                have HXz : Hid (sN zs at_ = ((⟨4, 0, gs, 0, 0⟩ : Nd), gn, false)) := by unfold Hid; rw [HN.out]; unfold sB; rw [if_neg (by omega), if_neg (by omega), if_pos rfl, hg.out]; rfl
                have HSz : gs.size ≤ zs.length := by have := congrArg (fun t => t.1.s.size) HXz.out; rw [HN.out] at this; dsimp only at this; rw [← this]; exact sB_size _ _ _ _
                have HRz : Hid (sP zs a ok = sNs zs m (xs ++ [(⟨4, 0, gs, 0, 0⟩ : Nd)]) gn false) := by unfold Hid; rw [HR.out, sNs, if_pos rfl, HXz.out]
                have hB7 : Below (((w4.setCell ⟨C, 2, none⟩ (.bool false)).setCell ⟨C, 1, none⟩ (.int .i64 gn)).setCell ⟨nb, 2, none⟩ (.string gs)).heap.size (((w4.setCell ⟨C, 2, none⟩ (.bool false)).setCell ⟨C, 1, none⟩ (.int .i64 gn)).setCell ⟨nb, 2, none⟩ (.string gs)) ((((w4.setCell ⟨C, 2, none⟩ (.bool false)).setCell ⟨C, 1, none⟩ (.int .i64 gn)).setCell ⟨nb, 2, none⟩ (.string gs)).alloc (Obj.cells (ndA (⟨4, 0, gs, 0, 0⟩ : Nd)) 130)) := (Below.refl _ _).alloc (Nat.le_refl _) _
                have hpb7 := (hB7.block _ (Array.getElem?_eq_some_iff.1 hpb5).1).trans hpb5
                have hC7 := hC5.below hB7
                have hs7 := hB7.size
                have hsz := hK5.size
                have lC7 := (Array.getElem?_eq_some_iff.1 hC7).1
                have hnews : ∀ (j : Nat) u, (ncs [(⟨4, 0, gs, 0, 0⟩ : Nd)])[j]? = some u → ((((w4.setCell ⟨C, 2, none⟩ (.bool false)).setCell ⟨C, 1, none⟩ (.int .i64 gn)).setCell ⟨nb, 2, none⟩ (.string gs)).alloc (Obj.cells (ndA (⟨4, 0, gs, 0, 0⟩ : Nd)) 130)).cell? ((⟨w4.heap.size, 0, none⟩ : Addr).add j) = some u := by
                  rw [show w4.heap.size = (((w4.setCell ⟨C, 2, none⟩ (.bool false)).setCell ⟨C, 1, none⟩ (.int .i64 gn)).setCell ⟨nb, 2, none⟩ (.string gs)).heap.size by simp [World.setCell]]
                  exact World.news_of_block (cs := ndA (⟨4, 0, gs, 0, 0⟩ : Nd)) (t := 130) (fr := (0, 0)) (heap_alloc_new (((w4.setCell ⟨C, 2, none⟩ (.bool false)).setCell ⟨C, 1, none⟩ (.int .i64 gn)).setCell ⟨nb, 2, none⟩ (.string gs)) _)
                go_wp2_with (at_builtin; refine wpList_append_lies _ rfl _ _ 30 rfl w1.heap.size 130 i0 _ 5 48 Tryz.underlying30 hi hz0 hz1 hz2 rfl (by decide) _ _ _ rfl (hown5.alloc _) ⟨w4.heap.size, 0, none⟩ 1 1 (ncs [(⟨4, 0, gs, 0, 0⟩ : Nd)]) rfl rfl hnews (ncs_one _) (by omega) (by unfold maxLen; omega) (by omega) (by simp; omega) _ rfl ?_)
                intro g2 cap2 w8 hown8 hgrow hat hgl2
                have hpb8 := (hgrow.block (w.heap.size + 1) (Array.getElem?_eq_some_iff.1 hpb7).1 (fun e => by have := (hol _ e.symm).1; omega)).trans hpb7
                have hC8 : C8 w8 C (.slice ao zs.length cap) gn false := (hgrow.block C lC7 (fun e => by have := (hol _ e.symm).1; omega)).trans hC7
                have hK8 := (hK5.trans (K2.ofB hB7)).row hgrow (fun j hj => (hol j hj).1)
                have kp8 : w8.cell? ⟨w.heap.size + 1, 0, none⟩ = some (.slice av xs.length cv) := cell_of_row w8 _ 0 _ _ _ hpb8
                have kf8 : w8.frozen? ⟨w.heap.size + 1, 0, none⟩ = false := frozen_of_row w8 _ 0 _ _ hpb8
                have hpb9 := heap_setCell_same w8 (w.heap.size + 1) 0 _ _ (.slice (some ⟨g2, 0, none⟩) (xs.length + 1) cap2) hpb8
                have hK9 := hK8.trans (K2.ofM (grown_set w8 (w.heap.size + 1) 0 (.slice (some ⟨g2, 0, none⟩) (xs.length + 1) cap2)))
                have hC9 : C8 (w8.setCell ⟨w.heap.size + 1, 0, none⟩ (.slice (some ⟨g2, 0, none⟩) (xs.length + 1) cap2)) C (.slice ao zs.length cap) gn false := (heap_setCell_other w8 ⟨w.heap.size + 1, 0, none⟩ C _ (by show C ≠ w.heap.size + 1; omega)).trans hC8
                have hown9 := ownsRow_setCell_below hown8 (a := ⟨w.heap.size + 1, 0, none⟩) (by show w.heap.size + 1 < w1.heap.size; omega) (.slice (some ⟨g2, 0, none⟩) (xs.length + 1) cap2)
                have HL2 : Hid ((xs ++ [(⟨4, 0, gs, 0, 0⟩ : Nd)]).length = xs.length + 1) := by unfold Hid; rw [List.length_append]; rfl
                have HZ2 : Hid (∀ x ∈ xs ++ [(⟨4, 0, gs, 0, 0⟩ : Nd)], x.s.size ≤ zs.length) := by
                  intro x hx
                  rcases List.mem_append.1 hx with hx | hx
                  · exact HZ.out x hx
                  · rw [List.mem_singleton] at hx; subst hx; exact HSz
                clear hnews k0 k1 k2' k3 k4 kp hgrow hat hown8 hpb8 hC8 hpb7 hB7 hC7 hK8
                go_wp2
                go_roundw
                case rel => exact ⟨xs.length + 1, m, xs ++ [(⟨4, 0, gs, 0, 0⟩ : Nd)], gn, false, _, cap2, by omega, by go_num, HRz, HL2, HZ2, gn0, gn1, hC9, hpb9, by rw [ncs_append]; exact hown9, hK9⟩
                case measure => simp [intOf]; omega
              · have p2 : w4.cell? ⟨C, 2, none⟩ = some (.bool false) := cell_of_row _ _ 2 _ _ _ hC4
                have pf2 : w4.frozen? ⟨C, 2, none⟩ = false := frozen_of_row _ _ 2 _ _ hC4
                have hCa : C8 (w4.setCell ⟨C, 2, none⟩ (.bool false)) C (.slice ao zs.length cap) a2 false := heap_setCell_same w4 C 2 _ _ (.bool false) hC4
                have pa : (w4.setCell ⟨C, 2, none⟩ (.bool false)).cell? ⟨C, 1, none⟩ = some (.int .i64 a2) := cell_of_row _ _ 1 _ _ _ hCa
                have pfa : (w4.setCell ⟨C, 2, none⟩ (.bool false)).frozen? ⟨C, 1, none⟩ = false := frozen_of_row _ _ 1 _ _ hCa
                have hgc : w4.grownBy ((w4.setCell ⟨C, 2, none⟩ (.bool false)).setCell ⟨C, 1, none⟩ (.int .i64 gn)) (some C) := grown_trans (grown_set w4 C 2 _) (grown_set _ C 1 _)
                have hCb : C8 ((w4.setCell ⟨C, 2, none⟩ (.bool false)).setCell ⟨C, 1, none⟩ (.int .i64 gn)) C (.slice ao zs.length cap) gn false := heap_setCell_same (w4.setCell ⟨C, 2, none⟩ (.bool false)) C 1 _ _ (.int .i64 gn) hCa
                have hhb := (hgc.block nb (by omega) (by simp; omega)).trans hh4
                have hpbb := (hgc.block _ (Array.getElem?_eq_some_iff.1 hpb4).1 (by simp; omega)).trans hpb4
                have hownb := hown4.kept hgc (own_off hown4 (by omega))
                have hKb := hK4.trans (K2.ofP hgc)
                have hsk4 := hK4.size
                have pb2 : ((w4.setCell ⟨C, 2, none⟩ (.bool false)).setCell ⟨C, 1, none⟩ (.int .i64 gn)).cell? ⟨nb, 2, none⟩ = some (.string ByteArray.empty) := cell_of_row _ _ 2 _ _ _ hhb
                have pfb2 : ((w4.setCell ⟨C, 2, none⟩ (.bool false)).setCell ⟨C, 1, none⟩ (.int .i64 gn)).frozen? ⟨nb, 2, none⟩ = false := frozen_of_row _ _ 2 _ _ hhb
                have hh5 : (((w4.setCell ⟨C, 2, none⟩ (.bool false)).setCell ⟨C, 1, none⟩ (.int .i64 gn)).setCell ⟨nb, 2, none⟩ (.string gs)).heap[nb]? = some (.cells (ndA (⟨4, 0, gs, 0, 0⟩ : Nd)) 130 (0, 0)) := heap_setCell_same ((w4.setCell ⟨C, 2, none⟩ (.bool false)).setCell ⟨C, 1, none⟩ (.int .i64 gn)) nb 2 _ _ (.string gs) hhb
                have hpb5 := (heap_setCell_other ((w4.setCell ⟨C, 2, none⟩ (.bool false)).setCell ⟨C, 1, none⟩ (.int .i64 gn)) ⟨nb, 2, none⟩ (w.heap.size + 1) (.string gs) (by show w.heap.size + 1 ≠ nb; omega)).trans hpbb
                have hC5 : C8 (((w4.setCell ⟨C, 2, none⟩ (.bool false)).setCell ⟨C, 1, none⟩ (.int .i64 gn)).setCell ⟨nb, 2, none⟩ (.string gs)) C (.slice ao zs.length cap) gn false := (heap_setCell_other ((w4.setCell ⟨C, 2, none⟩ (.bool false)).setCell ⟨C, 1, none⟩ (.int .i64 gn)) ⟨nb, 2, none⟩ C (.string gs) (by show C ≠ nb; omega)).trans hCb
                have hown5 := ownsRow_setCell_other hownb (a := ⟨nb, 2, none⟩) (fun e => by have := (hol nb e).2; omega) (.string gs)
                have hK5 := hKb.row (grown_set ((w4.setCell ⟨C, 2, none⟩ (.bool false)).setCell ⟨C, 1, none⟩ (.int .i64 gn)) nb 2 (.string gs)) (fun j hj => by cases hj; omega)
                have k0 : (((w4.setCell ⟨C, 2, none⟩ (.bool false)).setCell ⟨C, 1, none⟩ (.int .i64 gn)).setCell ⟨nb, 2, none⟩ (.string gs)).cell? ⟨nb, 0, none⟩ = some (.int .i64 4) := cell_of_row (((w4.setCell ⟨C, 2, none⟩ (.bool false)).setCell ⟨C, 1, none⟩ (.int .i64 gn)).setCell ⟨nb, 2, none⟩ (.string gs)) _ 0 _ _ _ hh5
                have k1 : (((w4.setCell ⟨C, 2, none⟩ (.bool false)).setCell ⟨C, 1, none⟩ (.int .i64 gn)).setCell ⟨nb, 2, none⟩ (.string gs)).cell? ⟨nb, 1, none⟩ = some (.int .i64 0) := cell_of_row (((w4.setCell ⟨C, 2, none⟩ (.bool false)).setCell ⟨C, 1, none⟩ (.int .i64 gn)).setCell ⟨nb, 2, none⟩ (.string gs)) _ 1 _ _ _ hh5
                have k2' : (((w4.setCell ⟨C, 2, none⟩ (.bool false)).setCell ⟨C, 1, none⟩ (.int .i64 gn)).setCell ⟨nb, 2, none⟩ (.string gs)).cell? ⟨nb, 2, none⟩ = some (.string gs) := cell_of_row (((w4.setCell ⟨C, 2, none⟩ (.bool false)).setCell ⟨C, 1, none⟩ (.int .i64 gn)).setCell ⟨nb, 2, none⟩ (.string gs)) _ 2 _ _ _ hh5
                have k3 : (((w4.setCell ⟨C, 2, none⟩ (.bool false)).setCell ⟨C, 1, none⟩ (.int .i64 gn)).setCell ⟨nb, 2, none⟩ (.string gs)).cell? ⟨nb, 3, none⟩ = some (.int .i64 0) := cell_of_row (((w4.setCell ⟨C, 2, none⟩ (.bool false)).setCell ⟨C, 1, none⟩ (.int .i64 gn)).setCell ⟨nb, 2, none⟩ (.string gs)) _ 3 _ _ _ hh5
                have k4 : (((w4.setCell ⟨C, 2, none⟩ (.bool false)).setCell ⟨C, 1, none⟩ (.int .i64 gn)).setCell ⟨nb, 2, none⟩ (.string gs)).cell? ⟨nb, 4, none⟩ = some (.int .i64 0) := cell_of_row (((w4.setCell ⟨C, 2, none⟩ (.bool false)).setCell ⟨C, 1, none⟩ (.int .i64 gn)).setCell ⟨nb, 2, none⟩ (.string gs)) _ 4 _ _ _ hh5
                have kp : (((w4.setCell ⟨C, 2, none⟩ (.bool false)).setCell ⟨C, 1, none⟩ (.int .i64 gn)).setCell ⟨nb, 2, none⟩ (.string gs)).cell? ⟨w.heap.size + 1, 0, none⟩ = some (.slice av xs.length cv) := cell_of_row (((w4.setCell ⟨C, 2, none⟩ (.bool false)).setCell ⟨C, 1, none⟩ (.int .i64 gn)).setCell ⟨nb, 2, none⟩ (.string gs)) _ 0 _ _ _ hpb5
                have HXz : Hid (sN zs at_ = ((⟨4, 0, gs, 0, 0⟩ : Nd), gn, false)) := by unfold Hid; rw [HN.out]; unfold sB; rw [if_neg (by omega), if_neg (by omega), if_pos rfl, hg.out]; rfl
                have HSz : gs.size ≤ zs.length := by have := congrArg (fun t => t.1.s.size) HXz.out; rw [HN.out] at this; dsimp only at this; rw [← this]; exact sB_size _ _ _ _
                have HRz : Hid (sP zs a ok = sNs zs m (xs ++ [(⟨4, 0, gs, 0, 0⟩ : Nd)]) gn false) := by unfold Hid; rw [HR.out, sNs, if_pos rfl, HXz.out]
                have hB7 : Below (((w4.setCell ⟨C, 2, none⟩ (.bool false)).setCell ⟨C, 1, none⟩ (.int .i64 gn)).setCell ⟨nb, 2, none⟩ (.string gs)).heap.size (((w4.setCell ⟨C, 2, none⟩ (.bool false)).setCell ⟨C, 1, none⟩ (.int .i64 gn)).setCell ⟨nb, 2, none⟩ (.string gs)) ((((w4.setCell ⟨C, 2, none⟩ (.bool false)).setCell ⟨C, 1, none⟩ (.int .i64 gn)).setCell ⟨nb, 2, none⟩ (.string gs)).alloc (Obj.cells (ndA (⟨4, 0, gs, 0, 0⟩ : Nd)) 130)) := (Below.refl _ _).alloc (Nat.le_refl _) _
                have hpb7 := (hB7.block _ (Array.getElem?_eq_some_iff.1 hpb5).1).trans hpb5
                have hC7 := hC5.below hB7
                have hs7 := hB7.size
                have hsz := hK5.size
                have lC7 := (Array.getElem?_eq_some_iff.1 hC7).1
                have hnews : ∀ (j : Nat) u, (ncs [(⟨4, 0, gs, 0, 0⟩ : Nd)])[j]? = some u → ((((w4.setCell ⟨C, 2, none⟩ (.bool false)).setCell ⟨C, 1, none⟩ (.int .i64 gn)).setCell ⟨nb, 2, none⟩ (.string gs)).alloc (Obj.cells (ndA (⟨4, 0, gs, 0, 0⟩ : Nd)) 130)).cell? ((⟨w4.heap.size, 0, none⟩ : Addr).add j) = some u := by
                  rw [show w4.heap.size = (((w4.setCell ⟨C, 2, none⟩ (.bool false)).setCell ⟨C, 1, none⟩ (.int .i64 gn)).setCell ⟨nb, 2, none⟩ (.string gs)).heap.size by simp [World.setCell]]
                  exact World.news_of_block (cs := ndA (⟨4, 0, gs, 0, 0⟩ : Nd)) (t := 130) (fr := (0, 0)) (heap_alloc_new (((w4.setCell ⟨C, 2, none⟩ (.bool false)).setCell ⟨C, 1, none⟩ (.int .i64 gn)).setCell ⟨nb, 2, none⟩ (.string gs)) _)
                go_wp2_with (at_builtin; refine wpList_append_lies _ rfl _ _ 30 rfl w1.heap.size 130 i0 _ 5 48 Tryz.underlying30 hi hz0 hz1 hz2 rfl (by decide) _ _ _ rfl (hown5.alloc _) ⟨w4.heap.size, 0, none⟩ 1 1 (ncs [(⟨4, 0, gs, 0, 0⟩ : Nd)]) rfl rfl hnews (ncs_one _) (by omega) (by unfold maxLen; omega) (by omega) (by simp; omega) _ rfl ?_)
                intro g2 cap2 w8 hown8 hgrow hat hgl2
                have hpb8 := (hgrow.block (w.heap.size + 1) (Array.getElem?_eq_some_iff.1 hpb7).1 (fun e => by have := (hol _ e.symm).1; omega)).trans hpb7
                have hC8 : C8 w8 C (.slice ao zs.length cap) gn false := (hgrow.block C lC7 (fun e => by have := (hol _ e.symm).1; omega)).trans hC7
                have hK8 := (hK5.trans (K2.ofB hB7)).row hgrow (fun j hj => (hol j hj).1)
                have kp8 : w8.cell? ⟨w.heap.size + 1, 0, none⟩ = some (.slice av xs.length cv) := cell_of_row w8 _ 0 _ _ _ hpb8
                have kf8 : w8.frozen? ⟨w.heap.size + 1, 0, none⟩ = false := frozen_of_row w8 _ 0 _ _ hpb8
                have hpb9 := heap_setCell_same w8 (w.heap.size + 1) 0 _ _ (.slice (some ⟨g2, 0, none⟩) (xs.length + 1) cap2) hpb8
                have hK9 := hK8.trans (K2.ofM (grown_set w8 (w.heap.size + 1) 0 (.slice (some ⟨g2, 0, none⟩) (xs.length + 1) cap2)))
                have hC9 : C8 (w8.setCell ⟨w.heap.size + 1, 0, none⟩ (.slice (some ⟨g2, 0, none⟩) (xs.length + 1) cap2)) C (.slice ao zs.length cap) gn false := (heap_setCell_other w8 ⟨w.heap.size + 1, 0, none⟩ C _ (by show C ≠ w.heap.size + 1; omega)).trans hC8
                have hown9 := ownsRow_setCell_below hown8 (a := ⟨w.heap.size + 1, 0, none⟩) (by show w.heap.size + 1 < w1.heap.size; omega) (.slice (some ⟨g2, 0, none⟩) (xs.length + 1) cap2)
                have HL2 : Hid ((xs ++ [(⟨4, 0, gs, 0, 0⟩ : Nd)]).length = xs.length + 1) := by unfold Hid; rw [List.length_append]; rfl
                have HZ2 : Hid (∀ x ∈ xs ++ [(⟨4, 0, gs, 0, 0⟩ : Nd)], x.s.size ≤ zs.length) := by
                  intro x hx
                  rcases List.mem_append.1 hx with hx | hx
                  · exact HZ.out x hx
                  · rw [List.mem_singleton] at hx; subst hx; exact HSz
                clear hnews k0 k1 k2' k3 k4 kp hgrow hat hown8 hpb8 hC8 hpb7 hB7 hC7 hK8
                go_wp2
                go_roundw
                case rel => exact ⟨xs.length + 1, m, xs ++ [(⟨4, 0, gs, 0, 0⟩ : Nd)], gn, false, _, cap2, by omega, by go_num, HRz, HL2, HZ2, gn0, gn1, hC9, hpb9, by rw [ncs_append]; exact hown9, hK9⟩
                case measure => simp [intOf]; omega
              · have p2 : w4.cell? ⟨C, 2, none⟩ = some (.bool true) := cell_of_row _ _ 2 _ _ _ hC4
                have pf2 : w4.frozen? ⟨C, 2, none⟩ = false := frozen_of_row _ _ 2 _ _ hC4
                have hCa : C8 (w4.setCell ⟨C, 2, none⟩ (.bool false)) C (.slice ao zs.length cap) a2 false := heap_setCell_same w4 C 2 _ _ (.bool false) hC4
                have pa : (w4.setCell ⟨C, 2, none⟩ (.bool false)).cell? ⟨C, 1, none⟩ = some (.int .i64 a2) := cell_of_row _ _ 1 _ _ _ hCa
                have pfa : (w4.setCell ⟨C, 2, none⟩ (.bool false)).frozen? ⟨C, 1, none⟩ = false := frozen_of_row _ _ 1 _ _ hCa
                have hgc : w4.grownBy ((w4.setCell ⟨C, 2, none⟩ (.bool false)).setCell ⟨C, 1, none⟩ (.int .i64 gn)) (some C) := grown_trans (grown_set w4 C 2 _) (grown_set _ C 1 _)
                have hCb : C8 ((w4.setCell ⟨C, 2, none⟩ (.bool false)).setCell ⟨C, 1, none⟩ (.int .i64 gn)) C (.slice ao zs.length cap) gn false := heap_setCell_same (w4.setCell ⟨C, 2, none⟩ (.bool false)) C 1 _ _ (.int .i64 gn) hCa
                have hhb := (hgc.block nb (by omega) (by simp; omega)).trans hh4
                have hpbb := (hgc.block _ (Array.getElem?_eq_some_iff.1 hpb4).1 (by simp; omega)).trans hpb4
                have hownb := hown4.kept hgc (own_off hown4 (by omega))
                have hKb := hK4.trans (K2.ofP hgc)
                have hsk4 := hK4.size
                have pb2 : ((w4.setCell ⟨C, 2, none⟩ (.bool false)).setCell ⟨C, 1, none⟩ (.int .i64 gn)).cell? ⟨nb, 2, none⟩ = some (.string ByteArray.empty) := cell_of_row _ _ 2 _ _ _ hhb
                have pfb2 : ((w4.setCell ⟨C, 2, none⟩ (.bool false)).setCell ⟨C, 1, none⟩ (.int .i64 gn)).frozen? ⟨nb, 2, none⟩ = false := frozen_of_row _ _ 2 _ _ hhb
                have hh5 : (((w4.setCell ⟨C, 2, none⟩ (.bool false)).setCell ⟨C, 1, none⟩ (.int .i64 gn)).setCell ⟨nb, 2, none⟩ (.string gs)).heap[nb]? = some (.cells (ndA (⟨4, 0, gs, 0, 0⟩ : Nd)) 130 (0, 0)) := heap_setCell_same ((w4.setCell ⟨C, 2, none⟩ (.bool false)).setCell ⟨C, 1, none⟩ (.int .i64 gn)) nb 2 _ _ (.string gs) hhb
                have hpb5 := (heap_setCell_other ((w4.setCell ⟨C, 2, none⟩ (.bool false)).setCell ⟨C, 1, none⟩ (.int .i64 gn)) ⟨nb, 2, none⟩ (w.heap.size + 1) (.string gs) (by show w.heap.size + 1 ≠ nb; omega)).trans hpbb
                have hC5 : C8 (((w4.setCell ⟨C, 2, none⟩ (.bool false)).setCell ⟨C, 1, none⟩ (.int .i64 gn)).setCell ⟨nb, 2, none⟩ (.string gs)) C (.slice ao zs.length cap) gn false := (heap_setCell_other ((w4.setCell ⟨C, 2, none⟩ (.bool false)).setCell ⟨C, 1, none⟩ (.int .i64 gn)) ⟨nb, 2, none⟩ C (.string gs) (by show C ≠ nb; omega)).trans hCb
                have hown5 := ownsRow_setCell_other hownb (a := ⟨nb, 2, none⟩) (fun e => by have := (hol nb e).2; omega) (.string gs)
                have hK5 := hKb.row (grown_set ((w4.setCell ⟨C, 2, none⟩ (.bool false)).setCell ⟨C, 1, none⟩ (.int .i64 gn)) nb 2 (.string gs)) (fun j hj => by cases hj; omega)
                have k0 : (((w4.setCell ⟨C, 2, none⟩ (.bool false)).setCell ⟨C, 1, none⟩ (.int .i64 gn)).setCell ⟨nb, 2, none⟩ (.string gs)).cell? ⟨nb, 0, none⟩ = some (.int .i64 4) := cell_of_row (((w4.setCell ⟨C, 2, none⟩ (.bool false)).setCell ⟨C, 1, none⟩ (.int .i64 gn)).setCell ⟨nb, 2, none⟩ (.string gs)) _ 0 _ _ _ hh5
                have k1 : (((w4.setCell ⟨C, 2, none⟩ (.bool false)).setCell ⟨C, 1, none⟩ (.int .i64 gn)).setCell ⟨nb, 2, none⟩ (.string gs)).cell? ⟨nb, 1, none⟩ = some (.int .i64 0) := cell_of_row (((w4.setCell ⟨C, 2, none⟩ (.bool false)).setCell ⟨C, 1, none⟩ (.int .i64 gn)).setCell ⟨nb, 2, none⟩ (.string gs)) _ 1 _ _ _ hh5
                have k2' : (((w4.setCell ⟨C, 2, none⟩ (.bool false)).setCell ⟨C, 1, none⟩ (.int .i64 gn)).setCell ⟨nb, 2, none⟩ (.string gs)).cell? ⟨nb, 2, none⟩ = some (.string gs) := cell_of_row (((w4.setCell ⟨C, 2, none⟩ (.bool false)).setCell ⟨C, 1, none⟩ (.int .i64 gn)).setCell ⟨nb, 2, none⟩ (.string gs)) _ 2 _ _ _ hh5
                have k3 : (((w4.setCell ⟨C, 2, none⟩ (.bool false)).setCell ⟨C, 1, none⟩ (.int .i64 gn)).setCell ⟨nb, 2, none⟩ (.string gs)).cell? ⟨nb, 3, none⟩ = some (.int .i64 0) := cell_of_row (((w4.setCell ⟨C, 2, none⟩ (.bool false)).setCell ⟨C, 1, none⟩ (.int .i64 gn)).setCell ⟨nb, 2, none⟩ (.string gs)) _ 3 _ _ _ hh5
                have k4 : (((w4.setCell ⟨C, 2, none⟩ (.bool false)).setCell ⟨C, 1, none⟩ (.int .i64 gn)).setCell ⟨nb, 2, none⟩ (.string gs)).cell? ⟨nb, 4, none⟩ = some (.int .i64 0) := cell_of_row (((w4.setCell ⟨C, 2, none⟩ (.bool false)).setCell ⟨C, 1, none⟩ (.int .i64 gn)).setCell ⟨nb, 2, none⟩ (.string gs)) _ 4 _ _ _ hh5
                have kp : (((w4.setCell ⟨C, 2, none⟩ (.bool false)).setCell ⟨C, 1, none⟩ (.int .i64 gn)).setCell ⟨nb, 2, none⟩ (.string gs)).cell? ⟨w.heap.size + 1, 0, none⟩ = some (.slice av xs.length cv) := cell_of_row (((w4.setCell ⟨C, 2, none⟩ (.bool false)).setCell ⟨C, 1, none⟩ (.int .i64 gn)).setCell ⟨nb, 2, none⟩ (.string gs)) _ 0 _ _ _ hpb5
                have HXz : Hid (sN zs at_ = ((⟨4, 0, gs, 0, 0⟩ : Nd), gn, false)) := by unfold Hid; rw [HN.out]; unfold sB; rw [if_neg (by omega), if_neg (by omega), if_pos rfl, hg.out]; rfl
                have HSz : gs.size ≤ zs.length := by have := congrArg (fun t => t.1.s.size) HXz.out; rw [HN.out] at this; dsimp only at this; rw [← this]; exact sB_size _ _ _ _
                have HRz : Hid (sP zs a ok = sNs zs m (xs ++ [(⟨4, 0, gs, 0, 0⟩ : Nd)]) gn false) := by unfold Hid; rw [HR.out, sNs, if_pos rfl, HXz.out]
                have hB7 : Below (((w4.setCell ⟨C, 2, none⟩ (.bool false)).setCell ⟨C, 1, none⟩ (.int .i64 gn)).setCell ⟨nb, 2, none⟩ (.string gs)).heap.size (((w4.setCell ⟨C, 2, none⟩ (.bool false)).setCell ⟨C, 1, none⟩ (.int .i64 gn)).setCell ⟨nb, 2, none⟩ (.string gs)) ((((w4.setCell ⟨C, 2, none⟩ (.bool false)).setCell ⟨C, 1, none⟩ (.int .i64 gn)).setCell ⟨nb, 2, none⟩ (.string gs)).alloc (Obj.cells (ndA (⟨4, 0, gs, 0, 0⟩ : Nd)) 130)) := (Below.refl _ _).alloc (Nat.le_refl _) _
                have hpb7 := (hB7.block _ (Array.getElem?_eq_some_iff.1 hpb5).1).trans hpb5
                have hC7 := hC5.below hB7
                have hs7 := hB7.size
                have hsz := hK5.size
                have lC7 := (Array.getElem?_eq_some_iff.1 hC7).1
                have hnews : ∀ (j : Nat) u, (ncs [(⟨4, 0, gs, 0, 0⟩ : Nd)])[j]? = some u → ((((w4.setCell ⟨C, 2, none⟩ (.bool false)).setCell ⟨C, 1, none⟩ (.int .i64 gn)).setCell ⟨nb, 2, none⟩ (.string gs)).alloc (Obj.cells (ndA (⟨4, 0, gs, 0, 0⟩ : Nd)) 130)).cell? ((⟨w4.heap.size, 0, none⟩ : Addr).add j) = some u := by
                  rw [show w4.heap.size = (((w4.setCell ⟨C, 2, none⟩ (.bool false)).setCell ⟨C, 1, none⟩ (.int .i64 gn)).setCell ⟨nb, 2, none⟩ (.string gs)).heap.size by simp [World.setCell]]
                  exact World.news_of_block (cs := ndA (⟨4, 0, gs, 0, 0⟩ : Nd)) (t := 130) (fr := (0, 0)) (heap_alloc_new (((w4.setCell ⟨C, 2, none⟩ (.bool false)).setCell ⟨C, 1, none⟩ (.int .i64 gn)).setCell ⟨nb, 2, none⟩ (.string gs)) _)
                go_wp2_with (at_builtin; refine wpList_append_lies _ rfl _ _ 30 rfl w1.heap.size 130 i0 _ 5 48 Tryz.underlying30 hi hz0 hz1 hz2 rfl (by decide) _ _ _ rfl (hown5.alloc _) ⟨w4.heap.size, 0, none⟩ 1 1 (ncs [(⟨4, 0, gs, 0, 0⟩ : Nd)]) rfl rfl hnews (ncs_one _) (by omega) (by unfold maxLen; omega) (by omega) (by simp; omega) _ rfl ?_)
                intro g2 cap2 w8 hown8 hgrow hat hgl2
                have hpb8 := (hgrow.block (w.heap.size + 1) (Array.getElem?_eq_some_iff.1 hpb7).1 (fun e => by have := (hol _ e.symm).1; omega)).trans hpb7
                have hC8 : C8 w8 C (.slice ao zs.length cap) gn false := (hgrow.block C lC7 (fun e => by have := (hol _ e.symm).1; omega)).trans hC7
                have hK8 := (hK5.trans (K2.ofB hB7)).row hgrow (fun j hj => (hol j hj).1)
                have kp8 : w8.cell? ⟨w.heap.size + 1, 0, none⟩ = some (.slice av xs.length cv) := cell_of_row w8 _ 0 _ _ _ hpb8
                have kf8 : w8.frozen? ⟨w.heap.size + 1, 0, none⟩ = false := frozen_of_row w8 _ 0 _ _ hpb8
                have hpb9 := heap_setCell_same w8 (w.heap.size + 1) 0 _ _ (.slice (some ⟨g2, 0, none⟩) (xs.length + 1) cap2) hpb8
                have hK9 := hK8.trans (K2.ofM (grown_set w8 (w.heap.size + 1) 0 (.slice (some ⟨g2, 0, none⟩) (xs.length + 1) cap2)))
                have hC9 : C8 (w8.setCell ⟨w.heap.size + 1, 0, none⟩ (.slice (some ⟨g2, 0, none⟩) (xs.length + 1) cap2)) C (.slice ao zs.length cap) gn false := (heap_setCell_other w8 ⟨w.heap.size + 1, 0, none⟩ C _ (by show C ≠ w.heap.size + 1; omega)).trans hC8
                have hown9 := ownsRow_setCell_below hown8 (a := ⟨w.heap.size + 1, 0, none⟩) (by show w.heap.size + 1 < w1.heap.size; omega) (.slice (some ⟨g2, 0, none⟩) (xs.length + 1) cap2)
                have HL2 : Hid ((xs ++ [(⟨4, 0, gs, 0, 0⟩ : Nd)]).length = xs.length + 1) := by unfold Hid; rw [List.length_append]; rfl
                have HZ2 : Hid (∀ x ∈ xs ++ [(⟨4, 0, gs, 0, 0⟩ : Nd)], x.s.size ≤ zs.length) := by
                  intro x hx
                  rcases List.mem_append.1 hx with hx | hx
                  · exact HZ.out x hx
                  · rw [List.mem_singleton] at hx; subst hx; exact HSz
                clear hnews k0 k1 k2' k3 k4 kp hgrow hat hown8 hpb8 hC8 hpb7 hB7 hC7 hK8
                go_wp2
                go_roundw
                case rel => exact ⟨xs.length + 1, m, xs ++ [(⟨4, 0, gs, 0, 0⟩ : Nd)], gn, false, _, cap2, by omega, by go_num, HRz, HL2, HZ2, gn0, gn1, hC9, hpb9, by rw [ncs_append]; exact hown9, hK9⟩
                case measure => simp [intOf]; omega
              · have p2 : w4.cell? ⟨C, 2, none⟩ = some (.bool true) := cell_of_row _ _ 2 _ _ _ hC4
                have pf2 : w4.frozen? ⟨C, 2, none⟩ = false := frozen_of_row _ _ 2 _ _ hC4
                have hCa : C8 (w4.setCell ⟨C, 2, none⟩ (.bool true)) C (.slice ao zs.length cap) a2 true := heap_setCell_same w4 C 2 _ _ (.bool true) hC4
                have pa : (w4.setCell ⟨C, 2, none⟩ (.bool true)).cell? ⟨C, 1, none⟩ = some (.int .i64 a2) := cell_of_row _ _ 1 _ _ _ hCa
                have pfa : (w4.setCell ⟨C, 2, none⟩ (.bool true)).frozen? ⟨C, 1, none⟩ = false := frozen_of_row _ _ 1 _ _ hCa
                have hgc : w4.grownBy ((w4.setCell ⟨C, 2, none⟩ (.bool true)).setCell ⟨C, 1, none⟩ (.int .i64 gn)) (some C) := grown_trans (grown_set w4 C 2 _) (grown_set _ C 1 _)
                have hCb : C8 ((w4.setCell ⟨C, 2, none⟩ (.bool true)).setCell ⟨C, 1, none⟩ (.int .i64 gn)) C (.slice ao zs.length cap) gn true := heap_setCell_same (w4.setCell ⟨C, 2, none⟩ (.bool true)) C 1 _ _ (.int .i64 gn) hCa
                have hhb := (hgc.block nb (by omega) (by simp; omega)).trans hh4
                have hpbb := (hgc.block _ (Array.getElem?_eq_some_iff.1 hpb4).1 (by simp; omega)).trans hpb4
                have hownb := hown4.kept hgc (own_off hown4 (by omega))
                have hKb := hK4.trans (K2.ofP hgc)
                have hsk4 := hK4.size
                have pb2 : ((w4.setCell ⟨C, 2, none⟩ (.bool true)).setCell ⟨C, 1, none⟩ (.int .i64 gn)).cell? ⟨nb, 2, none⟩ = some (.string ByteArray.empty) := cell_of_row _ _ 2 _ _ _ hhb
                have pfb2 : ((w4.setCell ⟨C, 2, none⟩ (.bool true)).setCell ⟨C, 1, none⟩ (.int .i64 gn)).frozen? ⟨nb, 2, none⟩ = false := frozen_of_row _ _ 2 _ _ hhb
                have hh5 : (((w4.setCell ⟨C, 2, none⟩ (.bool true)).setCell ⟨C, 1, none⟩ (.int .i64 gn)).setCell ⟨nb, 2, none⟩ (.string gs)).heap[nb]? = some (.cells (ndA (⟨4, 0, gs, 0, 0⟩ : Nd)) 130 (0, 0)) := heap_setCell_same ((w4.setCell ⟨C, 2, none⟩ (.bool true)).setCell ⟨C, 1, none⟩ (.int .i64 gn)) nb 2 _ _ (.string gs) hhb
                have hpb5 := (heap_setCell_other ((w4.setCell ⟨C, 2, none⟩ (.bool true)).setCell ⟨C, 1, none⟩ (.int .i64 gn)) ⟨nb, 2, none⟩ (w.heap.size + 1) (.string gs) (by show w.heap.size + 1 ≠ nb; omega)).trans hpbb
                have hC5 : C8 (((w4.setCell ⟨C, 2, none⟩ (.bool true)).setCell ⟨C, 1, none⟩ (.int .i64 gn)).setCell ⟨nb, 2, none⟩ (.string gs)) C (.slice ao zs.length cap) gn true := (heap_setCell_other ((w4.setCell ⟨C, 2, none⟩ (.bool true)).setCell ⟨C, 1, none⟩ (.int .i64 gn)) ⟨nb, 2, none⟩ C (.string gs) (by show C ≠ nb; omega)).trans hCb
                have hown5 := ownsRow_setCell_other hownb (a := ⟨nb, 2, none⟩) (fun e => by have := (hol nb e).2; omega) (.string gs)
                have hK5 := hKb.row (grown_set ((w4.setCell ⟨C, 2, none⟩ (.bool true)).setCell ⟨C, 1, none⟩ (.int .i64 gn)) nb 2 (.string gs)) (fun j hj => by cases hj; omega)
                have k0 : (((w4.setCell ⟨C, 2, none⟩ (.bool true)).setCell ⟨C, 1, none⟩ (.int .i64 gn)).setCell ⟨nb, 2, none⟩ (.string gs)).cell? ⟨nb, 0, none⟩ = some (.int .i64 4) := cell_of_row (((w4.setCell ⟨C, 2, none⟩ (.bool true)).setCell ⟨C, 1, none⟩ (.int .i64 gn)).setCell ⟨nb, 2, none⟩ (.string gs)) _ 0 _ _ _ hh5
                have k1 : (((w4.setCell ⟨C, 2, none⟩ (.bool true)).setCell ⟨C, 1, none⟩ (.int .i64 gn)).setCell ⟨nb, 2, none⟩ (.string gs)).cell? ⟨nb, 1, none⟩ = some (.int .i64 0) := cell_of_row (((w4.setCell ⟨C, 2, none⟩ (.bool true)).setCell ⟨C, 1, none⟩ (.int .i64 gn)).setCell ⟨nb, 2, none⟩ (.string gs)) _ 1 _ _ _ hh5
                have k2' : (((w4.setCell ⟨C, 2, none⟩ (.bool true)).setCell ⟨C, 1, none⟩ (.int .i64 gn)).setCell ⟨nb, 2, none⟩ (.string gs)).cell? ⟨nb, 2, none⟩ = some (.string gs) := cell_of_row (((w4.setCell ⟨C, 2, none⟩ (.bool true)).setCell ⟨C, 1, none⟩ (.int .i64 gn)).setCell ⟨nb, 2, none⟩ (.string gs)) _ 2 _ _ _ hh5
                have k3 : (((w4.setCell ⟨C, 2, none⟩ (.bool true)).setCell ⟨C, 1, none⟩ (.int .i64 gn)).setCell ⟨nb, 2, none⟩ (.string gs)).cell? ⟨nb, 3, none⟩ = some (.int .i64 0) := cell_of_row (((w4.setCell ⟨C, 2, none⟩ (.bool true)).setCell ⟨C, 1, none⟩ (.int .i64 gn)).setCell ⟨nb, 2, none⟩ (.string gs)) _ 3 _ _ _ hh5
                have k4 : (((w4.setCell ⟨C, 2, none⟩ (.bool true)).setCell ⟨C, 1, none⟩ (.int .i64 gn)).setCell ⟨nb, 2, none⟩ (.string gs)).cell? ⟨nb, 4, none⟩ = some (.int .i64 0) := cell_of_row (((w4.setCell ⟨C, 2, none⟩ (.bool true)).setCell ⟨C, 1, none⟩ (.int .i64 gn)).setCell ⟨nb, 2, none⟩ (.string gs)) _ 4 _ _ _ hh5
                have kp : (((w4.setCell ⟨C, 2, none⟩ (.bool true)).setCell ⟨C, 1, none⟩ (.int .i64 gn)).setCell ⟨nb, 2, none⟩ (.string gs)).cell? ⟨w.heap.size + 1, 0, none⟩ = some (.slice av xs.length cv) := cell_of_row (((w4.setCell ⟨C, 2, none⟩ (.bool true)).setCell ⟨C, 1, none⟩ (.int .i64 gn)).setCell ⟨nb, 2, none⟩ (.string gs)) _ 0 _ _ _ hpb5
                have HXz : Hid (sN zs at_ = ((⟨4, 0, gs, 0, 0⟩ : Nd), gn, true)) := by unfold Hid; rw [HN.out]; unfold sB; rw [if_neg (by omega), if_neg (by omega), if_pos rfl, hg.out]; rfl
                have HSz : gs.size ≤ zs.length := by have := congrArg (fun t => t.1.s.size) HXz.out; rw [HN.out] at this; dsimp only at this; rw [← this]; exact sB_size _ _ _ _
                have HRz : Hid (sP zs a ok = sNs zs m (xs ++ [(⟨4, 0, gs, 0, 0⟩ : Nd)]) gn true) := by unfold Hid; rw [HR.out, sNs, if_pos rfl, HXz.out]
                have hB7 : Below (((w4.setCell ⟨C, 2, none⟩ (.bool true)).setCell ⟨C, 1, none⟩ (.int .i64 gn)).setCell ⟨nb, 2, none⟩ (.string gs)).heap.size (((w4.setCell ⟨C, 2, none⟩ (.bool true)).setCell ⟨C, 1, none⟩ (.int .i64 gn)).setCell ⟨nb, 2, none⟩ (.string gs)) ((((w4.setCell ⟨C, 2, none⟩ (.bool true)).setCell ⟨C, 1, none⟩ (.int .i64 gn)).setCell ⟨nb, 2, none⟩ (.string gs)).alloc (Obj.cells (ndA (⟨4, 0, gs, 0, 0⟩ : Nd)) 130)) := (Below.refl _ _).alloc (Nat.le_refl _) _
                have hpb7 := (hB7.block _ (Array.getElem?_eq_some_iff.1 hpb5).1).trans hpb5
                have hC7 := hC5.below hB7
                have hs7 := hB7.size
                have hsz := hK5.size
                have lC7 := (Array.getElem?_eq_some_iff.1 hC7).1
                have hnews : ∀ (j : Nat) u, (ncs [(⟨4, 0, gs, 0, 0⟩ : Nd)])[j]? = some u → ((((w4.setCell ⟨C, 2, none⟩ (.bool true)).setCell ⟨C, 1, none⟩ (.int .i64 gn)).setCell ⟨nb, 2, none⟩ (.string gs)).alloc (Obj.cells (ndA (⟨4, 0, gs, 0, 0⟩ : Nd)) 130)).cell? ((⟨w4.heap.size, 0, none⟩ : Addr).add j) = some u := by
                  rw [show w4.heap.size = (((w4.setCell ⟨C, 2, none⟩ (.bool true)).setCell ⟨C, 1, none⟩ (.int .i64 gn)).setCell ⟨nb, 2, none⟩ (.string gs)).heap.size by simp [World.setCell]]
                  exact World.news_of_block (cs := ndA (⟨4, 0, gs, 0, 0⟩ : Nd)) (t := 130) (fr := (0, 0)) (heap_alloc_new (((w4.setCell ⟨C, 2, none⟩ (.bool true)).setCell ⟨C, 1, none⟩ (.int .i64 gn)).setCell ⟨nb, 2, none⟩ (.string gs)) _)
                go_wp2_with (at_builtin; refine wpList_append_lies _ rfl _ _ 30 rfl w1.heap.size 130 i0 _ 5 48 Tryz.underlying30 hi hz0 hz1 hz2 rfl (by decide) _ _ _ rfl (hown5.alloc _) ⟨w4.heap.size, 0, none⟩ 1 1 (ncs [(⟨4, 0, gs, 0, 0⟩ : Nd)]) rfl rfl hnews (ncs_one _) (by omega) (by unfold maxLen; omega) (by omega) (by simp; omega) _ rfl ?_)
                intro g2 cap2 w8 hown8 hgrow hat hgl2
                have hpb8 := (hgrow.block (w.heap.size + 1) (Array.getElem?_eq_some_iff.1 hpb7).1 (fun e => by have := (hol _ e.symm).1; omega)).trans hpb7
                have hC8 : C8 w8 C (.slice ao zs.length cap) gn true := (hgrow.block C lC7 (fun e => by have := (hol _ e.symm).1; omega)).trans hC7
                have hK8 := (hK5.trans (K2.ofB hB7)).row hgrow (fun j hj => (hol j hj).1)
                have kp8 : w8.cell? ⟨w.heap.size + 1, 0, none⟩ = some (.slice av xs.length cv) := cell_of_row w8 _ 0 _ _ _ hpb8
                have kf8 : w8.frozen? ⟨w.heap.size + 1, 0, none⟩ = false := frozen_of_row w8 _ 0 _ _ hpb8
                have hpb9 := heap_setCell_same w8 (w.heap.size + 1) 0 _ _ (.slice (some ⟨g2, 0, none⟩) (xs.length + 1) cap2) hpb8
                have hK9 := hK8.trans (K2.ofM (grown_set w8 (w.heap.size + 1) 0 (.slice (some ⟨g2, 0, none⟩) (xs.length + 1) cap2)))
                have hC9 : C8 (w8.setCell ⟨w.heap.size + 1, 0, none⟩ (.slice (some ⟨g2, 0, none⟩) (xs.length + 1) cap2)) C (.slice ao zs.length cap) gn true := (heap_setCell_other w8 ⟨w.heap.size + 1, 0, none⟩ C _ (by show C ≠ w.heap.size + 1; omega)).trans hC8
                have hown9 := ownsRow_setCell_below hown8 (a := ⟨w.heap.size + 1, 0, none⟩) (by show w.heap.size + 1 < w1.heap.size; omega) (.slice (some ⟨g2, 0, none⟩) (xs.length + 1) cap2)
                have HL2 : Hid ((xs ++ [(⟨4, 0, gs, 0, 0⟩ : Nd)]).length = xs.length + 1) := by unfold Hid; rw [List.length_append]; rfl
                have HZ2 : Hid (∀ x ∈ xs ++ [(⟨4, 0, gs, 0, 0⟩ : Nd)], x.s.size ≤ zs.length) := by
                  intro x hx
                  rcases List.mem_append.1 hx with hx | hx
                  · exact HZ.out x hx
                  · rw [List.mem_singleton] at hx; subst hx; exact HSz
                clear hnews k0 k1 k2' k3 k4 kp hgrow hat hown8 hpb8 hC8 hpb7 hB7 hC7 hK8
                go_wp2
                go_roundw
                case rel => exact ⟨xs.length + 1, m, xs ++ [(⟨4, 0, gs, 0, 0⟩ : Nd)], gn, true, _, cap2, by omega, by go_num, HRz, HL2, HZ2, gn0, gn1, hC9, hpb9, by rw [ncs_append]; exact hown9, hK9⟩
                case measure => simp [intOf]; omega
          · have R5 := hR1.k2 hC1 x1 hK3
            obtain ⟨x5, b5, j5, e5, x50, x51, b50, b51, HC5⟩ := s8num_v C (.slice ao zs.length cap) zs a2 k2 w3 R5 hC3 a20 a21
            have lh5 := (Array.getElem?_eq_some_iff.1 hh3).1
            go_wp2_with fail
            refine HC5.mono ?_
            rintro e v5 ⟨rfl, hCa5, hga5⟩
            have hha5 := (hga5.block nb lh5 (by simp; omega)).trans hh3
            have hpa5 := (hga5.block _ (Array.getElem?_eq_some_iff.1 hpb3).1 (by simp; omega)).trans hpb3
            have hoa5 := hown3.kept hga5 (own_off hown3 (by omega))
            have hKa5 := hK3.trans (K2.ofP hga5)
            have hsk5 := hKa5.size
            have ca5 : v5.cell? ⟨nb, 3, none⟩ = some (.int .i64 0) := cell_of_row v5 _ 3 _ _ _ hha5
            have fa5 : v5.frozen? ⟨nb, 3, none⟩ = false := frozen_of_row v5 _ 3 _ _ hha5
            have hh5 : (v5.setCell ⟨nb, 3, none⟩ (.int .i64 x5)).heap[nb]? = some (.cells (ndA (⟨5, 0, ByteArray.empty, x5, 0⟩ : Nd)) 130 (0, 0)) := heap_setCell_same v5 nb 3 _ _ (.int .i64 x5) hha5
            have hpb5 := (heap_setCell_other v5 ⟨nb, 3, none⟩ (w.heap.size + 1) (.int .i64 x5) (by show w.heap.size + 1 ≠ nb; omega)).trans hpa5
            have hC5 : C8 (v5.setCell ⟨nb, 3, none⟩ (.int .i64 x5)) C (.slice ao zs.length cap) b5 j5 := (heap_setCell_other v5 ⟨nb, 3, none⟩ C (.int .i64 x5) (by show C ≠ nb; omega)).trans hCa5
            have hown5 := ownsRow_setCell_other hoa5 (a := ⟨nb, 3, none⟩) (fun e => by have := (hol nb e).2; omega) (.int .i64 x5)
            have hK5 := hKa5.row (grown_set v5 nb 3 (.int .i64 x5)) (fun j hj => by cases hj; omega)
            clear HC5 hga5
            have R6 := hR1.k2 hC1 x1 hK5
            obtain ⟨x6, b6, j6, e6, x60, x61, b60, b61, HC6⟩ := s8num_v C (.slice ao zs.length cap) zs b5 j5 (v5.setCell ⟨nb, 3, none⟩ (.int .i64 x5)) R6 hC5 b50 b51
            have lh6 := (Array.getElem?_eq_some_iff.1 hh5).1
            go_wp2_with fail
            refine HC6.mono ?_
            rintro e v6 ⟨rfl, hCa6, hga6⟩
            have hha6 := (hga6.block nb lh6 (by simp; omega)).trans hh5
            have hpa6 := (hga6.block _ (Array.getElem?_eq_some_iff.1 hpb5).1 (by simp; omega)).trans hpb5
            have hoa6 := hown5.kept hga6 (own_off hown5 (by omega))
            have hKa6 := hK5.trans (K2.ofP hga6)
            have hsk6 := hKa6.size
            have ca6 : v6.cell? ⟨nb, 4, none⟩ = some (.int .i64 0) := cell_of_row v6 _ 4 _ _ _ hha6
            have fa6 : v6.frozen? ⟨nb, 4, none⟩ = false := frozen_of_row v6 _ 4 _ _ hha6
            have hh6 : (v6.setCell ⟨nb, 4, none⟩ (.int .i64 x6)).heap[nb]? = some (.cells (ndA (⟨5, 0, ByteArray.empty, x5, x6⟩ : Nd)) 130 (0, 0)) := heap_setCell_same v6 nb 4 _ _ (.int .i64 x6) hha6
            have hpb6 := (heap_setCell_other v6 ⟨nb, 4, none⟩ (w.heap.size + 1) (.int .i64 x6) (by show w.heap.size + 1 ≠ nb; omega)).trans hpa6
            have hC6 : C8 (v6.setCell ⟨nb, 4, none⟩ (.int .i64 x6)) C (.slice ao zs.length cap) b6 j6 := (heap_setCell_other v6 ⟨nb, 4, none⟩ C (.int .i64 x6) (by show C ≠ nb; omega)).trans hCa6
            have hown6 := ownsRow_setCell_other hoa6 (a := ⟨nb, 4, none⟩) (fun e => by have := (hol nb e).2; omega) (.int .i64 x6)
            have hK6 := hKa6.row (grown_set v6 nb 4 (.int .i64 x6)) (fun j hj => by cases hj; omega)
            clear HC6 hga6
            have k0 : (v6.setCell ⟨nb, 4, none⟩ (.int .i64 x6)).cell? ⟨nb, 0, none⟩ = some (.int .i64 5) := cell_of_row (v6.setCell ⟨nb, 4, none⟩ (.int .i64 x6)) _ 0 _ _ _ hh6
            have k1 : (v6.setCell ⟨nb, 4, none⟩ (.int .i64 x6)).cell? ⟨nb, 1, none⟩ = some (.int .i64 0) := cell_of_row (v6.setCell ⟨nb, 4, none⟩ (.int .i64 x6)) _ 1 _ _ _ hh6
            have k2' : (v6.setCell ⟨nb, 4, none⟩ (.int .i64 x6)).cell? ⟨nb, 2, none⟩ = some (.string ByteArray.empty) := cell_of_row (v6.setCell ⟨nb, 4, none⟩ (.int .i64 x6)) _ 2 _ _ _ hh6
            have k3 : (v6.setCell ⟨nb, 4, none⟩ (.int .i64 x6)).cell? ⟨nb, 3, none⟩ = some (.int .i64 x5) := cell_of_row (v6.setCell ⟨nb, 4, none⟩ (.int .i64 x6)) _ 3 _ _ _ hh6
            have k4 : (v6.setCell ⟨nb, 4, none⟩ (.int .i64 x6)).cell? ⟨nb, 4, none⟩ = some (.int .i64 x6) := cell_of_row (v6.setCell ⟨nb, 4, none⟩ (.int .i64 x6)) _ 4 _ _ _ hh6
            have kp : (v6.setCell ⟨nb, 4, none⟩ (.int .i64 x6)).cell? ⟨w.heap.size + 1, 0, none⟩ = some (.slice av xs.length cv) := cell_of_row (v6.setCell ⟨nb, 4, none⟩ (.int .i64 x6)) _ 0 _ _ _ hpb6
            have HXz : Hid (sN zs at_ = ((⟨5, 0, ByteArray.empty, x5, x6⟩ : Nd), b6, j6)) := by unfold Hid; rw [HN.out]; unfold sB; rw [if_neg (by omega), if_neg (by omega), if_neg (by omega), if_pos rfl, e5]; dsimp only; rw [e6]
            have HSz : ByteArray.empty.size ≤ zs.length := by have := congrArg (fun t => t.1.s.size) HXz.out; rw [HN.out] at this; dsimp only at this; rw [← this]; exact sB_size _ _ _ _
            have HRz : Hid (sP zs a ok = sNs zs m (xs ++ [(⟨5, 0, ByteArray.empty, x5, x6⟩ : Nd)]) b6 j6) := by unfold Hid; rw [HR.out, sNs, if_pos rfl, HXz.out]
            have hB7 : Below (v6.setCell ⟨nb, 4, none⟩ (.int .i64 x6)).heap.size (v6.setCell ⟨nb, 4, none⟩ (.int .i64 x6)) ((v6.setCell ⟨nb, 4, none⟩ (.int .i64 x6)).alloc (Obj.cells (ndA (⟨5, 0, ByteArray.empty, x5, x6⟩ : Nd)) 130)) := (Below.refl _ _).alloc (Nat.le_refl _) _
            have hpb7 := (hB7.block _ (Array.getElem?_eq_some_iff.1 hpb6).1).trans hpb6
            have hC7 := hC6.below hB7
            have hs7 := hB7.size
            have hsz := hK6.size
            have lC7 := (Array.getElem?_eq_some_iff.1 hC7).1
            have hnews : ∀ (j : Nat) u, (ncs [(⟨5, 0, ByteArray.empty, x5, x6⟩ : Nd)])[j]? = some u → ((v6.setCell ⟨nb, 4, none⟩ (.int .i64 x6)).alloc (Obj.cells (ndA (⟨5, 0, ByteArray.empty, x5, x6⟩ : Nd)) 130)).cell? ((⟨v6.heap.size, 0, none⟩ : Addr).add j) = some u := by
              rw [show v6.heap.size = (v6.setCell ⟨nb, 4, none⟩ (.int .i64 x6)).heap.size by simp [World.setCell]]
              exact World.news_of_block (cs := ndA (⟨5, 0, ByteArray.empty, x5, x6⟩ : Nd)) (t := 130) (fr := (0, 0)) (heap_alloc_new (v6.setCell ⟨nb, 4, none⟩ (.int .i64 x6)) _)
            go_wp2_with (at_builtin; refine wpList_append_lies _ rfl _ _ 30 rfl w1.heap.size 130 i0 _ 5 48 Tryz.underlying30 hi hz0 hz1 hz2 rfl (by decide) _ _ _ rfl (hown6.alloc _) ⟨v6.heap.size, 0, none⟩ 1 1 (ncs [(⟨5, 0, ByteArray.empty, x5, x6⟩ : Nd)]) rfl rfl hnews (ncs_one _) (by omega) (by unfold maxLen; omega) (by omega) (by simp; omega) _ rfl ?_)
            intro g2 cap2 w8 hown8 hgrow hat hgl2
            have hpb8 := (hgrow.block (w.heap.size + 1) (Array.getElem?_eq_some_iff.1 hpb7).1 (fun e => by have := (hol _ e.symm).1; omega)).trans hpb7
            have hC8 : C8 w8 C (.slice ao zs.length cap) b6 j6 := (hgrow.block C lC7 (fun e => by have := (hol _ e.symm).1; omega)).trans hC7
            have hK8 := (hK6.trans (K2.ofB hB7)).row hgrow (fun j hj => (hol j hj).1)
            have kp8 : w8.cell? ⟨w.heap.size + 1, 0, none⟩ = some (.slice av xs.length cv) := cell_of_row w8 _ 0 _ _ _ hpb8
            have kf8 : w8.frozen? ⟨w.heap.size + 1, 0, none⟩ = false := frozen_of_row w8 _ 0 _ _ hpb8
            have hpb9 := heap_setCell_same w8 (w.heap.size + 1) 0 _ _ (.slice (some ⟨g2, 0, none⟩) (xs.length + 1) cap2) hpb8
            have hK9 := hK8.trans (K2.ofM (grown_set w8 (w.heap.size + 1) 0 (.slice (some ⟨g2, 0, none⟩) (xs.length + 1) cap2)))
            have hC9 : C8 (w8.setCell ⟨w.heap.size + 1, 0, none⟩ (.slice (some ⟨g2, 0, none⟩) (xs.length + 1) cap2)) C (.slice ao zs.length cap) b6 j6 := (heap_setCell_other w8 ⟨w.heap.size + 1, 0, none⟩ C _ (by show C ≠ w.heap.size + 1; omega)).trans hC8
            have hown9 := ownsRow_setCell_below hown8 (a := ⟨w.heap.size + 1, 0, none⟩) (by show w.heap.size + 1 < w1.heap.size; omega) (.slice (some ⟨g2, 0, none⟩) (xs.length + 1) cap2)
            have HL2 : Hid ((xs ++ [(⟨5, 0, ByteArray.empty, x5, x6⟩ : Nd)]).length = xs.length + 1) := by unfold Hid; rw [List.length_append]; rfl
            have HZ2 : Hid (∀ x ∈ xs ++ [(⟨5, 0, ByteArray.empty, x5, x6⟩ : Nd)], x.s.size ≤ zs.length) := by
              intro x hx
              rcases List.mem_append.1 hx with hx | hx
              · exact HZ.out x hx
              · rw [List.mem_singleton] at hx; subst hx; exact HSz
            clear hnews k0 k1 k2' k3 k4 kp hgrow hat hown8 hpb8 hC8 hpb7 hB7 hC7 hK8
            go_wp2
            go_roundw
            case rel => exact ⟨xs.length + 1, m, xs ++ [(⟨5, 0, ByteArray.empty, x5, x6⟩ : Nd)], b6, j6, _, cap2, by omega, by go_num, HRz, HL2, HZ2, b60, b61, hC9, hpb9, by rw [ncs_append]; exact hown9, hK9⟩
            case measure => simp [intOf]; omega
          · have R5 := hR1.k2 hC1 x1 hK3
            obtain ⟨x5, b5, j5, e5, x50, x51, b50, b51, HC5⟩ := s8num_v C (.slice ao zs.length cap) zs a2 k2 w3 R5 hC3 a20 a21
            have lh5 := (Array.getElem?_eq_some_iff.1 hh3).1
            go_wp2_with fail
            refine HC5.mono ?_
            rintro e v5 ⟨rfl, hCa5, hga5⟩
            have hha5 := (hga5.block nb lh5 (by simp; omega)).trans hh3
            have hpa5 := (hga5.block _ (Array.getElem?_eq_some_iff.1 hpb3).1 (by simp; omega)).trans hpb3
            have hoa5 := hown3.kept hga5 (own_off hown3 (by omega))
            have hKa5 := hK3.trans (K2.ofP hga5)
            have hsk5 := hKa5.size
            have ca5 : v5.cell? ⟨nb, 1, none⟩ = some (.int .i64 0) := cell_of_row v5 _ 1 _ _ _ hha5
            have fa5 : v5.frozen? ⟨nb, 1, none⟩ = false := frozen_of_row v5 _ 1 _ _ hha5
            have hh5 : (v5.setCell ⟨nb, 1, none⟩ (.int .i64 x5)).heap[nb]? = some (.cells (ndA (⟨6, x5, ByteArray.empty, 0, 0⟩ : Nd)) 130 (0, 0)) := heap_setCell_same v5 nb 1 _ _ (.int .i64 x5) hha5
            have hpb5 := (heap_setCell_other v5 ⟨nb, 1, none⟩ (w.heap.size + 1) (.int .i64 x5) (by show w.heap.size + 1 ≠ nb; omega)).trans hpa5
            have hC5 : C8 (v5.setCell ⟨nb, 1, none⟩ (.int .i64 x5)) C (.slice ao zs.length cap) b5 j5 := (heap_setCell_other v5 ⟨nb, 1, none⟩ C (.int .i64 x5) (by show C ≠ nb; omega)).trans hCa5
            have hown5 := ownsRow_setCell_other hoa5 (a := ⟨nb, 1, none⟩) (fun e => by have := (hol nb e).2; omega) (.int .i64 x5)
            have hK5 := hKa5.row (grown_set v5 nb 1 (.int .i64 x5)) (fun j hj => by cases hj; omega)
            clear HC5 hga5
            have R6 := hR1.k2 hC1 x1 hK5
            obtain ⟨x6, b6, j6, e6, x60, x61, b60, b61, HC6⟩ := s8num_v C (.slice ao zs.length cap) zs b5 j5 (v5.setCell ⟨nb, 1, none⟩ (.int .i64 x5)) R6 hC5 b50 b51
            have lh6 := (Array.getElem?_eq_some_iff.1 hh5).1
            go_wp2_with fail
            refine HC6.mono ?_
            rintro e v6 ⟨rfl, hCa6, hga6⟩
            have hha6 := (hga6.block nb lh6 (by simp; omega)).trans hh5
            have hpa6 := (hga6.block _ (Array.getElem?_eq_some_iff.1 hpb5).1 (by simp; omega)).trans hpb5
            have hoa6 := hown5.kept hga6 (own_off hown5 (by omega))
            have hKa6 := hK5.trans (K2.ofP hga6)
            have hsk6 := hKa6.size
            have ca6 : v6.cell? ⟨nb, 3, none⟩ = some (.int .i64 0) := cell_of_row v6 _ 3 _ _ _ hha6
            have fa6 : v6.frozen? ⟨nb, 3, none⟩ = false := frozen_of_row v6 _ 3 _ _ hha6
            have hh6 : (v6.setCell ⟨nb, 3, none⟩ (.int .i64 x6)).heap[nb]? = some (.cells (ndA (⟨6, x5, ByteArray.empty, x6, 0⟩ : Nd)) 130 (0, 0)) := heap_setCell_same v6 nb 3 _ _ (.int .i64 x6) hha6
            have hpb6 := (heap_setCell_other v6 ⟨nb, 3, none⟩ (w.heap.size + 1) (.int .i64 x6) (by show w.heap.size + 1 ≠ nb; omega)).trans hpa6
            have hC6 : C8 (v6.setCell ⟨nb, 3, none⟩ (.int .i64 x6)) C (.slice ao zs.length cap) b6 j6 := (heap_setCell_other v6 ⟨nb, 3, none⟩ C (.int .i64 x6) (by show C ≠ nb; omega)).trans hCa6
            have hown6 := ownsRow_setCell_other hoa6 (a := ⟨nb, 3, none⟩) (fun e => by have := (hol nb e).2; omega) (.int .i64 x6)
            have hK6 := hKa6.row (grown_set v6 nb 3 (.int .i64 x6)) (fun j hj => by cases hj; omega)
            clear HC6 hga6
            have k0 : (v6.setCell ⟨nb, 3, none⟩ (.int .i64 x6)).cell? ⟨nb, 0, none⟩ = some (.int .i64 6) := cell_of_row (v6.setCell ⟨nb, 3, none⟩ (.int .i64 x6)) _ 0 _ _ _ hh6
            have k1 : (v6.setCell ⟨nb, 3, none⟩ (.int .i64 x6)).cell? ⟨nb, 1, none⟩ = some (.int .i64 x5) := cell_of_row (v6.setCell ⟨nb, 3, none⟩ (.int .i64 x6)) _ 1 _ _ _ hh6
            have k2' : (v6.setCell ⟨nb, 3, none⟩ (.int .i64 x6)).cell? ⟨nb, 2, none⟩ = some (.string ByteArray.empty) := cell_of_row (v6.setCell ⟨nb, 3, none⟩ (.int .i64 x6)) _ 2 _ _ _ hh6
            have k3 : (v6.setCell ⟨nb, 3, none⟩ (.int .i64 x6)).cell? ⟨nb, 3, none⟩ = some (.int .i64 x6) := cell_of_row (v6.setCell ⟨nb, 3, none⟩ (.int .i64 x6)) _ 3 _ _ _ hh6
            have k4 : (v6.setCell ⟨nb, 3, none⟩ (.int .i64 x6)).cell? ⟨nb, 4, none⟩ = some (.int .i64 0) := cell_of_row (v6.setCell ⟨nb, 3, none⟩ (.int .i64 x6)) _ 4 _ _ _ hh6
            have kp : (v6.setCell ⟨nb, 3, none⟩ (.int .i64 x6)).cell? ⟨w.heap.size + 1, 0, none⟩ = some (.slice av xs.length cv) := cell_of_row (v6.setCell ⟨nb, 3, none⟩ (.int .i64 x6)) _ 0 _ _ _ hpb6
            have HXz : Hid (sN zs at_ = ((⟨6, x5, ByteArray.empty, x6, 0⟩ : Nd), b6, j6)) := by unfold Hid; rw [HN.out]; unfold sB; rw [if_neg (by omega), if_neg (by omega), if_neg (by omega), if_neg (by omega), if_pos rfl, e5]; dsimp only; rw [e6]
            have HSz : ByteArray.empty.size ≤ zs.length := by have := congrArg (fun t => t.1.s.size) HXz.out; rw [HN.out] at this; dsimp only at this; rw [← this]; exact sB_size _ _ _ _
            have HRz : Hid (sP zs a ok = sNs zs m (xs ++ [(⟨6, x5, ByteArray.empty, x6, 0⟩ : Nd)]) b6 j6) := by unfold Hid; rw [HR.out, sNs, if_pos rfl, HXz.out]
            have hB7 : Below (v6.setCell ⟨nb, 3, none⟩ (.int .i64 x6)).heap.size (v6.setCell ⟨nb, 3, none⟩ (.int .i64 x6)) ((v6.setCell ⟨nb, 3, none⟩ (.int .i64 x6)).alloc (Obj.cells (ndA (⟨6, x5, ByteArray.empty, x6, 0⟩ : Nd)) 130)) := (Below.refl _ _).alloc (Nat.le_refl _) _
            have hpb7 := (hB7.block _ (Array.getElem?_eq_some_iff.1 hpb6).1).trans hpb6
            have hC7 := hC6.below hB7
            have hs7 := hB7.size
            have hsz := hK6.size
            have lC7 := (Array.getElem?_eq_some_iff.1 hC7).1
            have hnews : ∀ (j : Nat) u, (ncs [(⟨6, x5, ByteArray.empty, x6, 0⟩ : Nd)])[j]? = some u → ((v6.setCell ⟨nb, 3, none⟩ (.int .i64 x6)).alloc (Obj.cells (ndA (⟨6, x5, ByteArray.empty, x6, 0⟩ : Nd)) 130)).cell? ((⟨v6.heap.size, 0, none⟩ : Addr).add j) = some u := by
              rw [show v6.heap.size = (v6.setCell ⟨nb, 3, none⟩ (.int .i64 x6)).heap.size by simp [World.setCell]]
              exact World.news_of_block (cs := ndA (⟨6, x5, ByteArray.empty, x6, 0⟩ : Nd)) (t := 130) (fr := (0, 0)) (heap_alloc_new (v6.setCell ⟨nb, 3, none⟩ (.int .i64 x6)) _)
            go_wp2_with (at_builtin; refine wpList_append_lies _ rfl _ _ 30 rfl w1.heap.size 130 i0 _ 5 48 Tryz.underlying30 hi hz0 hz1 hz2 rfl (by decide) _ _ _ rfl (hown6.alloc _) ⟨v6.heap.size, 0, none⟩ 1 1 (ncs [(⟨6, x5, ByteArray.empty, x6, 0⟩ : Nd)]) rfl rfl hnews (ncs_one _) (by omega) (by unfold maxLen; omega) (by omega) (by simp; omega) _ rfl ?_)
            intro g2 cap2 w8 hown8 hgrow hat hgl2
            have hpb8 := (hgrow.block (w.heap.size + 1) (Array.getElem?_eq_some_iff.1 hpb7).1 (fun e => by have := (hol _ e.symm).1; omega)).trans hpb7
            have hC8 : C8 w8 C (.slice ao zs.length cap) b6 j6 := (hgrow.block C lC7 (fun e => by have := (hol _ e.symm).1; omega)).trans hC7
            have hK8 := (hK6.trans (K2.ofB hB7)).row hgrow (fun j hj => (hol j hj).1)
            have kp8 : w8.cell? ⟨w.heap.size + 1, 0, none⟩ = some (.slice av xs.length cv) := cell_of_row w8 _ 0 _ _ _ hpb8
            have kf8 : w8.frozen? ⟨w.heap.size + 1, 0, none⟩ = false := frozen_of_row w8 _ 0 _ _ hpb8
            have hpb9 := heap_setCell_same w8 (w.heap.size + 1) 0 _ _ (.slice (some ⟨g2, 0, none⟩) (xs.length + 1) cap2) hpb8
            have hK9 := hK8.trans (K2.ofM (grown_set w8 (w.heap.size + 1) 0 (.slice (some ⟨g2, 0, none⟩) (xs.length + 1) cap2)))
            have hC9 : C8 (w8.setCell ⟨w.heap.size + 1, 0, none⟩ (.slice (some ⟨g2, 0, none⟩) (xs.length + 1) cap2)) C (.slice ao zs.length cap) b6 j6 := (heap_setCell_other w8 ⟨w.heap.size + 1, 0, none⟩ C _ (by show C ≠ w.heap.size + 1; omega)).trans hC8
            have hown9 := ownsRow_setCell_below hown8 (a := ⟨w.heap.size + 1, 0, none⟩) (by show w.heap.size + 1 < w1.heap.size; omega) (.slice (some ⟨g2, 0, none⟩) (xs.length + 1) cap2)
            have HL2 : Hid ((xs ++ [(⟨6, x5, ByteArray.empty, x6, 0⟩ : Nd)]).length = xs.length + 1) := by unfold Hid; rw [List.length_append]; rfl
            have HZ2 : Hid (∀ x ∈ xs ++ [(⟨6, x5, ByteArray.empty, x6, 0⟩ : Nd)], x.s.size ≤ zs.length) := by
              intro x hx
              rcases List.mem_append.1 hx with hx | hx
              · exact HZ.out x hx
              · rw [List.mem_singleton] at hx; subst hx; exact HSz
            clear hnews k0 k1 k2' k3 k4 kp hgrow hat hown8 hpb8 hC8 hpb7 hB7 hC7 hK8
            go_wp2
            go_roundw
            case rel => exact ⟨xs.length + 1, m, xs ++ [(⟨6, x5, ByteArray.empty, x6, 0⟩ : Nd)], b6, j6, _, cap2, by omega, by go_num, HRz, HL2, HZ2, b60, b61, hC9, hpb9, by rw [ncs_append]; exact hown9, hK9⟩
            case measure => simp [intOf]; omega
          · have R5 := hR1.k2 hC1 x1 hK3
            obtain ⟨x5, b5, j5, e5, x50, x51, b50, b51, HC5⟩ := s8num_v C (.slice ao zs.length cap) zs a2 k2 w3 R5 hC3 a20 a21
            have lh5 := (Array.getElem?_eq_some_iff.1 hh3).1
            go_wp2_with fail
            refine HC5.mono ?_
            rintro e v5 ⟨rfl, hCa5, hga5⟩
            have hha5 := (hga5.block nb lh5 (by simp; omega)).trans hh3
            have hpa5 := (hga5.block _ (Array.getElem?_eq_some_iff.1 hpb3).1 (by simp; omega)).trans hpb3
            have hoa5 := hown3.kept hga5 (own_off hown3 (by omega))
            have hKa5 := hK3.trans (K2.ofP hga5)
            have hsk5 := hKa5.size
            have ca5 : v5.cell? ⟨nb, 3, none⟩ = some (.int .i64 0) := cell_of_row v5 _ 3 _ _ _ hha5
            have fa5 : v5.frozen? ⟨nb, 3, none⟩ = false := frozen_of_row v5 _ 3 _ _ hha5
            have hh5 : (v5.setCell ⟨nb, 3, none⟩ (.int .i64 x5)).heap[nb]? = some (.cells (ndA (⟨7, 0, ByteArray.empty, x5, 0⟩ : Nd)) 130 (0, 0)) := heap_setCell_same v5 nb 3 _ _ (.int .i64 x5) hha5
            have hpb5 := (heap_setCell_other v5 ⟨nb, 3, none⟩ (w.heap.size + 1) (.int .i64 x5) (by show w.heap.size + 1 ≠ nb; omega)).trans hpa5
            have hC5 : C8 (v5.setCell ⟨nb, 3, none⟩ (.int .i64 x5)) C (.slice ao zs.length cap) b5 j5 := (heap_setCell_other v5 ⟨nb, 3, none⟩ C (.int .i64 x5) (by show C ≠ nb; omega)).trans hCa5
            have hown5 := ownsRow_setCell_other hoa5 (a := ⟨nb, 3, none⟩) (fun e => by have := (hol nb e).2; omega) (.int .i64 x5)
            have hK5 := hKa5.row (grown_set v5 nb 3 (.int .i64 x5)) (fun j hj => by cases hj; omega)
            clear HC5 hga5
            have k0 : (v5.setCell ⟨nb, 3, none⟩ (.int .i64 x5)).cell? ⟨nb, 0, none⟩ = some (.int .i64 7) := cell_of_row (v5.setCell ⟨nb, 3, none⟩ (.int .i64 x5)) _ 0 _ _ _ hh5
            have k1 : (v5.setCell ⟨nb, 3, none⟩ (.int .i64 x5)).cell? ⟨nb, 1, none⟩ = some (.int .i64 0) := cell_of_row (v5.setCell ⟨nb, 3, none⟩ (.int .i64 x5)) _ 1 _ _ _ hh5
            have k2' : (v5.setCell ⟨nb, 3, none⟩ (.int .i64 x5)).cell? ⟨nb, 2, none⟩ = some (.string ByteArray.empty) := cell_of_row (v5.setCell ⟨nb, 3, none⟩ (.int .i64 x5)) _ 2 _ _ _ hh5
            have k3 : (v5.setCell ⟨nb, 3, none⟩ (.int .i64 x5)).cell? ⟨nb, 3, none⟩ = some (.int .i64 x5) := cell_of_row (v5.setCell ⟨nb, 3, none⟩ (.int .i64 x5)) _ 3 _ _ _ hh5
            have k4 : (v5.setCell ⟨nb, 3, none⟩ (.int .i64 x5)).cell? ⟨nb, 4, none⟩ = some (.int .i64 0) := cell_of_row (v5.setCell ⟨nb, 3, none⟩ (.int .i64 x5)) _ 4 _ _ _ hh5
            have kp : (v5.setCell ⟨nb, 3, none⟩ (.int .i64 x5)).cell? ⟨w.heap.size + 1, 0, none⟩ = some (.slice av xs.length cv) := cell_of_row (v5.setCell ⟨nb, 3, none⟩ (.int .i64 x5)) _ 0 _ _ _ hpb5
            have HXz : Hid (sN zs at_ = ((⟨7, 0, ByteArray.empty, x5, 0⟩ : Nd), b5, j5)) := by unfold Hid; rw [HN.out]; unfold sB; rw [if_neg (by omega), if_neg (by omega), if_neg (by omega), if_neg (by omega), if_neg (by omega), if_pos rfl, e5]
            have HSz : ByteArray.empty.size ≤ zs.length := by have := congrArg (fun t => t.1.s.size) HXz.out; rw [HN.out] at this; dsimp only at this; rw [← this]; exact sB_size _ _ _ _
            have HRz : Hid (sP zs a ok = sNs zs m (xs ++ [(⟨7, 0, ByteArray.empty, x5, 0⟩ : Nd)]) b5 j5) := by unfold Hid; rw [HR.out, sNs, if_pos rfl, HXz.out]
            have hB7 : Below (v5.setCell ⟨nb, 3, none⟩ (.int .i64 x5)).heap.size (v5.setCell ⟨nb, 3, none⟩ (.int .i64 x5)) ((v5.setCell ⟨nb, 3, none⟩ (.int .i64 x5)).alloc (Obj.cells (ndA (⟨7, 0, ByteArray.empty, x5, 0⟩ : Nd)) 130)) := (Below.refl _ _).alloc (Nat.le_refl _) _
            have hpb7 := (hB7.block _ (Array.getElem?_eq_some_iff.1 hpb5).1).trans hpb5
            have hC7 := hC5.below hB7
            have hs7 := hB7.size
            have hsz := hK5.size
            have lC7 := (Array.getElem?_eq_some_iff.1 hC7).1
            have hnews : ∀ (j : Nat) u, (ncs [(⟨7, 0, ByteArray.empty, x5, 0⟩ : Nd)])[j]? = some u → ((v5.setCell ⟨nb, 3, none⟩ (.int .i64 x5)).alloc (Obj.cells (ndA (⟨7, 0, ByteArray.empty, x5, 0⟩ : Nd)) 130)).cell? ((⟨v5.heap.size, 0, none⟩ : Addr).add j) = some u := by
              rw [show v5.heap.size = (v5.setCell ⟨nb, 3, none⟩ (.int .i64 x5)).heap.size by simp [World.setCell]]
              exact World.news_of_block (cs := ndA (⟨7, 0, ByteArray.empty, x5, 0⟩ : Nd)) (t := 130) (fr := (0, 0)) (heap_alloc_new (v5.setCell ⟨nb, 3, none⟩ (.int .i64 x5)) _)
            go_wp2_with (at_builtin; refine wpList_append_lies _ rfl _ _ 30 rfl w1.heap.size 130 i0 _ 5 48 Tryz.underlying30 hi hz0 hz1 hz2 rfl (by decide) _ _ _ rfl (hown5.alloc _) ⟨v5.heap.size, 0, none⟩ 1 1 (ncs [(⟨7, 0, ByteArray.empty, x5, 0⟩ : Nd)]) rfl rfl hnews (ncs_one _) (by omega) (by unfold maxLen; omega) (by omega) (by simp; omega) _ rfl ?_)
            intro g2 cap2 w8 hown8 hgrow hat hgl2
            have hpb8 := (hgrow.block (w.heap.size + 1) (Array.getElem?_eq_some_iff.1 hpb7).1 (fun e => by have := (hol _ e.symm).1; omega)).trans hpb7
            have hC8 : C8 w8 C (.slice ao zs.length cap) b5 j5 := (hgrow.block C lC7 (fun e => by have := (hol _ e.symm).1; omega)).trans hC7
            have hK8 := (hK5.trans (K2.ofB hB7)).row hgrow (fun j hj => (hol j hj).1)
            have kp8 : w8.cell? ⟨w.heap.size + 1, 0, none⟩ = some (.slice av xs.length cv) := cell_of_row w8 _ 0 _ _ _ hpb8
            have kf8 : w8.frozen? ⟨w.heap.size + 1, 0, none⟩ = false := frozen_of_row w8 _ 0 _ _ hpb8
            have hpb9 := heap_setCell_same w8 (w.heap.size + 1) 0 _ _ (.slice (some ⟨g2, 0, none⟩) (xs.length + 1) cap2) hpb8
            have hK9 := hK8.trans (K2.ofM (grown_set w8 (w.heap.size + 1) 0 (.slice (some ⟨g2, 0, none⟩) (xs.length + 1) cap2)))
            have hC9 : C8 (w8.setCell ⟨w.heap.size + 1, 0, none⟩ (.slice (some ⟨g2, 0, none⟩) (xs.length + 1) cap2)) C (.slice ao zs.length cap) b5 j5 := (heap_setCell_other w8 ⟨w.heap.size + 1, 0, none⟩ C _ (by show C ≠ w.heap.size + 1; omega)).trans hC8
            have hown9 := ownsRow_setCell_below hown8 (a := ⟨w.heap.size + 1, 0, none⟩) (by show w.heap.size + 1 < w1.heap.size; omega) (.slice (some ⟨g2, 0, none⟩) (xs.length + 1) cap2)
            have HL2 : Hid ((xs ++ [(⟨7, 0, ByteArray.empty, x5, 0⟩ : Nd)]).length = xs.length + 1) := by unfold Hid; rw [List.length_append]; rfl
            have HZ2 : Hid (∀ x ∈ xs ++ [(⟨7, 0, ByteArray.empty, x5, 0⟩ : Nd)], x.s.size ≤ zs.length) := by
              intro x hx
              rcases List.mem_append.1 hx with hx | hx
              · exact HZ.out x hx
              · rw [List.mem_singleton] at hx; subst hx; exact HSz
            clear hnews k0 k1 k2' k3 k4 kp hgrow hat hown8 hpb8 hC8 hpb7 hB7 hC7 hK8
            go_wp2
            go_roundw
            case rel => exact ⟨xs.length + 1, m, xs ++ [(⟨7, 0, ByteArray.empty, x5, 0⟩ : Nd)], b5, j5, _, cap2, by omega, by go_num, HRz, HL2, HZ2, b50, b51, hC9, hpb9, by rw [ncs_append]; exact hown9, hK9⟩
            case measure => simp [intOf]; omega
          · have k0 : w3.cell? ⟨nb, 0, none⟩ = some (.int .i64 kd) := cell_of_row w3 _ 0 _ _ _ hh3
            have k1 : w3.cell? ⟨nb, 1, none⟩ = some (.int .i64 0) := cell_of_row w3 _ 1 _ _ _ hh3
            have k2' : w3.cell? ⟨nb, 2, none⟩ = some (.string ByteArray.empty) := cell_of_row w3 _ 2 _ _ _ hh3
            have k3 : w3.cell? ⟨nb, 3, none⟩ = some (.int .i64 0) := cell_of_row w3 _ 3 _ _ _ hh3
            have k4 : w3.cell? ⟨nb, 4, none⟩ = some (.int .i64 0) := cell_of_row w3 _ 4 _ _ _ hh3
            have kp : w3.cell? ⟨w.heap.size + 1, 0, none⟩ = some (.slice av xs.length cv) := cell_of_row w3 _ 0 _ _ _ hpb3
            have HXz : Hid (sN zs at_ = ((⟨kd, 0, ByteArray.empty, 0, 0⟩ : Nd), a2, k2)) := by unfold Hid; rw [HN.out]; unfold sB; rw [if_neg (by omega), if_neg (by omega), if_neg (by omega), if_neg (by omega), if_neg (by omega), if_neg (by omega)]
            have HSz : ByteArray.empty.size ≤ zs.length := by have := congrArg (fun t => t.1.s.size) HXz.out; rw [HN.out] at this; dsimp only at this; rw [← this]; exact sB_size _ _ _ _
            have HRz : Hid (sP zs a ok = sNs zs m (xs ++ [(⟨kd, 0, ByteArray.empty, 0, 0⟩ : Nd)]) a2 k2) := by unfold Hid; rw [HR.out, sNs, if_pos rfl, HXz.out]
            have hB7 : Below w3.heap.size w3 (w3.alloc (Obj.cells (ndA (⟨kd, 0, ByteArray.empty, 0, 0⟩ : Nd)) 130)) := (Below.refl _ _).alloc (Nat.le_refl _) _
            have hpb7 := (hB7.block _ (Array.getElem?_eq_some_iff.1 hpb3).1).trans hpb3
            have hC7 := hC3.below hB7
            have hs7 := hB7.size
            have hsz := hK3.size
            have lC7 := (Array.getElem?_eq_some_iff.1 hC7).1
            have hnews : ∀ (j : Nat) u, (ncs [(⟨kd, 0, ByteArray.empty, 0, 0⟩ : Nd)])[j]? = some u → (w3.alloc (Obj.cells (ndA (⟨kd, 0, ByteArray.empty, 0, 0⟩ : Nd)) 130)).cell? ((⟨w3.heap.size, 0, none⟩ : Addr).add j) = some u := by
              exact World.news_of_block (cs := ndA (⟨kd, 0, ByteArray.empty, 0, 0⟩ : Nd)) (t := 130) (fr := (0, 0)) (heap_alloc_new w3 _)
            go_wp2_with (at_builtin; refine wpList_append_lies _ rfl _ _ 30 rfl w1.heap.size 130 i0 _ 5 48 Tryz.underlying30 hi hz0 hz1 hz2 rfl (by decide) _ _ _ rfl (hown3.alloc _) ⟨w3.heap.size, 0, none⟩ 1 1 (ncs [(⟨kd, 0, ByteArray.empty, 0, 0⟩ : Nd)]) rfl rfl hnews (ncs_one _) (by omega) (by unfold maxLen; omega) (by omega) (by simp; omega) _ rfl ?_)
            intro g2 cap2 w8 hown8 hgrow hat hgl2
            have hpb8 := (hgrow.block (w.heap.size + 1) (Array.getElem?_eq_some_iff.1 hpb7).1 (fun e => by have := (hol _ e.symm).1; omega)).trans hpb7
            have hC8 : C8 w8 C (.slice ao zs.length cap) a2 k2 := (hgrow.block C lC7 (fun e => by have := (hol _ e.symm).1; omega)).trans hC7
            have hK8 := (hK3.trans (K2.ofB hB7)).row hgrow (fun j hj => (hol j hj).1)
            have kp8 : w8.cell? ⟨w.heap.size + 1, 0, none⟩ = some (.slice av xs.length cv) := cell_of_row w8 _ 0 _ _ _ hpb8
            have kf8 : w8.frozen? ⟨w.heap.size + 1, 0, none⟩ = false := frozen_of_row w8 _ 0 _ _ hpb8
            have hpb9 := heap_setCell_same w8 (w.heap.size + 1) 0 _ _ (.slice (some ⟨g2, 0, none⟩) (xs.length + 1) cap2) hpb8
            have hK9 := hK8.trans (K2.ofM (grown_set w8 (w.heap.size + 1) 0 (.slice (some ⟨g2, 0, none⟩) (xs.length + 1) cap2)))
            have hC9 : C8 (w8.setCell ⟨w.heap.size + 1, 0, none⟩ (.slice (some ⟨g2, 0, none⟩) (xs.length + 1) cap2)) C (.slice ao zs.length cap) a2 k2 := (heap_setCell_other w8 ⟨w.heap.size + 1, 0, none⟩ C _ (by show C ≠ w.heap.size + 1; omega)).trans hC8
            have hown9 := ownsRow_setCell_below hown8 (a := ⟨w.heap.size + 1, 0, none⟩) (by show w.heap.size + 1 < w1.heap.size; omega) (.slice (some ⟨g2, 0, none⟩) (xs.length + 1) cap2)
            have HL2 : Hid ((xs ++ [(⟨kd, 0, ByteArray.empty, 0, 0⟩ : Nd)]).length = xs.length + 1) := by unfold Hid; rw [List.length_append]; rfl
            have HZ2 : Hid (∀ x ∈ xs ++ [(⟨kd, 0, ByteArray.empty, 0, 0⟩ : Nd)], x.s.size ≤ zs.length) := by
              intro x hx
              rcases List.mem_append.1 hx with hx | hx
              · exact HZ.out x hx
              · rw [List.mem_singleton] at hx; subst hx; exact HSz
            clear hnews k0 k1 k2' k3 k4 kp hgrow hat hown8 hpb8 hC8 hpb7 hB7 hC7 hK8
            go_wp2
            go_roundw
            case rel => exact ⟨xs.length + 1, m, xs ++ [(⟨kd, 0, ByteArray.empty, 0, 0⟩ : Nd)], a2, k2, _, cap2, by omega, by go_num, HRz, HL2, HZ2, a20, a21, hC9, hpb9, by rw [ncs_append]; exact hown9, hK9⟩
            case measure => simp [intOf]; omega
        · have hm0 : m = 0 := by omega
          subst hm0
          have HX : Hid (sP zs a ok = (xs, at_, true)) := HR.out
          have RN : NRow wr (.slice av xs.length cv) xs := NRow.of_own hown (by omega) (fun x hx => by have := HZ.out x hx; unfold maxLen; omega)
          by_cases hat : at_ = zs.length
          · obtain ⟨pb, hpbB⟩ : ∃ pb, Hid (poolB xs = pb) := ⟨_, rfl⟩
            have HS : Hid (sOk zs a ok = pb) := by unfold Hid sOk; rw [HX.out]; show (true && decide (at_ = zs.length) && poolB xs) = pb; rw [decide_eq_true hat, hpbB.out]; rfl
            have HPo : ∀ W, Below wr.heap.size wr W → Calls Tryz.prog 97 #[.agg #[.slice av xs.length cv]] W fun e w' => e = .returned (.bool pb) ∧ Below W.heap.size W w' := fun W hW => by
              have := spool_any _ xs W (RN.below hW)
              rw [hpbB.out] at this
              exact this
            go_wp2_with fail
            refine s8_regF3 C (w.heap.size + 1) zs.length cap xs.length cv ao av at_ _ _ hat pb HPo (by omega) hC hpb ?_
            intro u105 u106 u107 u108 u109 u110 u111 u112 u113 u114 u115 u116 u117 u118 u119 u120 u121 u122 u123 u124 u125 u126 u127 WF hBF hCF
            obtain ⟨q1, q2, q3, q4, q5, q6, q7⟩ := s8_fin pb hCl hGr hBF hCF hrb hpb (own_mono hown (show w.heap.size + 1 + 1 ≤ w1.heap.size by omega))
            clear hBF hCF
            go_wp2
            refine bodyPost_ret (results_cell_row rfl _ _ w.heap.size 32 _ (0, 0) _ rfl q4 Tryz.underlying32 rfl Tryz.sizeP) rfl ⟨.slice av xs.length cv, rfl, ?_, ?_, q7, ?_⟩
            · rw [HX.out]; exact q5
            · rw [HS.out, HX.out]; exact q6
            · rw [HX.out]; exact HZ.out
          · have HS : Hid (sOk zs a ok = false) := by unfold Hid sOk; rw [HX.out]; show (true && decide (at_ = zs.length) && poolB xs) = false; rw [decide_eq_false hat]; rfl
            go_wp2_with fail
            refine s8_regF2 C (w.heap.size + 1) zs.length cap xs.length cv ao av at_ _ _ hat (by omega) hC hpb ?_
            intro u105 u106 u107 u108 u109 u110 u111 u112 u113 u114 u115 u116 u117 u118 u119 u120 u121 u122 u123 u124 u125 u126 u127 WF hBF hCF
            obtain ⟨q1, q2, q3, q4, q5, q6, q7⟩ := s8_fin false hCl hGr hBF hCF hrb hpb (own_mono hown (show w.heap.size + 1 + 1 ≤ w1.heap.size by omega))
            clear hBF hCF
            go_wp2
            refine bodyPost_ret (results_cell_row rfl _ _ w.heap.size 32 _ (0, 0) _ rfl q4 Tryz.underlying32 rfl Tryz.sizeP) rfl ⟨.slice av xs.length cv, rfl, ?_, ?_, q7, ?_⟩
            · rw [HX.out]; exact q5
            · rw [HS.out, HX.out]; exact q6
            · rw [HX.out]; exact HZ.out
end Go.Proofs.YtbhfooafhbfniaaGreatDoor
