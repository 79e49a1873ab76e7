/-
  Contract of spec's l10Hold: a piece held at its place. No condition.
-/
import Derived.Test.YtkhokfkcicaojaaLkTakeM
import Derived.Test.YtkhokfkcicaojaaLkShowM
namespace Go.Proofs.Ytkhokfkcicaojaa
open Go.RowKit

theorem holdL_lt {x y : Pc} {ys : List Pc} (h : y.n < x.n) : holdL x (y :: ys) = y :: holdL x ys := by simp only [holdL, if_pos h]
theorem holdL_eq {x y : Pc} {ys : List Pc} (h : y.n = x.n) : holdL x (y :: ys) = y :: ys := by simp only [holdL, if_neg (by omega : ¬ y.n < x.n), if_pos h]
theorem holdL_gt {x y : Pc} {ys : List Pc} (h : x.n < y.n) : holdL x (y :: ys) = x :: y :: ys := by simp only [holdL, if_neg (by omega : ¬ y.n < x.n), if_neg (by omega : ¬ y.n = x.n)]
/-- What is to come behind j of them. -/
def holdTo (x : Pc) (h : List Pc) (j : Nat) (b : Bool) : List Pc := if b then h.drop j else holdL x (h.drop j)
theorem drop_cons {h : List Pc} {j : Nat} {y : Pc} (hy : h[j]? = some y) : h.drop j = y :: h.drop (j + 1) := by
  obtain ⟨hl, rfl⟩ := List.getElem?_eq_some_iff.1 hy
  exact List.drop_eq_getElem_cons hl

set_option maxRecDepth 100000 in
set_option maxHeartbeats 6400000 in
theorem s10hold_any (v : Value) (h : List Pc) (x : Pc) (w : World) (R : PcRow w v h) (hs : x.s.size ≤ maxLen) (hm : h.length ≤ 2097152) :
    Calls Try.prog 29 #[v, .agg #[.int .i64 x.n, .string x.s]] w fun e w' => ∃ v', e = .returned v' ∧ w'.ownsRow (w.heap.size + 1) 29 2 v' (holdL x h).length (pccs (holdL x h)) ∧ Below w.heap.size w w' := by
  have hzs := R.sz
  obtain ⟨ao, cap, rfl, hcap, _, _, hcell⟩ := R
  obtain ⟨i0, hi, hz0, hz1, hz2⟩ := info_parts Try.infoPc
  obtain ⟨hB0, hx0, _⟩ := two_bx w (Obj.cells #[.int .i64 x.n, .string x.s] 29) (Obj.cells #[] 29)
  have own0 : ((w.alloc (Obj.cells #[.int .i64 x.n, .string x.s] 29)).alloc (Obj.cells #[] 29)).ownsRow (w.heap.size + 1) 29 2 (.slice (some ⟨w.heap.size + 1, 0, none⟩) 0 0) 0 [] := by
    have := own_none0 (w.alloc (Obj.cells #[.int .i64 x.n, .string x.s] 29)) 29 2 (w.heap.size + 1) (by simp)
    simpa using this
  obtain ⟨RR, HRR⟩ : ∃ RR, Hid (RR = holdL x h) := ⟨_, rfl⟩
  rw [← HRR.out]
  go_enter Try.func29, Try.ntmps29
  go_wp2
  go_loopw [5, 6, 7] (fun p b i wr => ∃ (j : Nat) (bb : Bool) (L : List Pc), j ≤ h.length ∧ i = .int .i64 j ∧ b = .bool bb ∧ wr.ownsRow (w.heap.size + 1) 29 2 p L.length (pccs L) ∧ L.length ≤ 2 * j ∧ Hid (RR = L ++ holdTo x h j bb) ∧ wr.heap[w.heap.size]? = some (.cells #[.int .i64 x.n, .string x.s] 29 (0, 0)) ∧ Below w.heap.size w wr ∧ w.heap.size + 1 < wr.heap.size) (fun _ _ i _ => h.length - (intOf i).toNat)
  case atStart => exact ⟨0, false, [], by omega, rfl, rfl, own0, by simp, by unfold Hid; rw [HRR.out]; simp [holdTo], hx0, hB0, by simp⟩
  case round =>
    clear own0 hx0 hB0
    obtain ⟨j, bb, L, hj, rfl, rfl, hown, hLl, HJ, hx, hB, hsw⟩ := hrel
    obtain ⟨ap, cp, rfl⟩ := own_form hown
    have c0 : wr.cell? ⟨w.heap.size, 0, none⟩ = some (.int .i64 x.n) := cell_of_row wr _ 0 _ _ _ hx
    have c1 : wr.cell? ⟨w.heap.size, 1, none⟩ = some (.string x.s) := cell_of_row wr _ 1 _ _ _ hx
    by_cases hlt : j < h.length
    · obtain ⟨g, o, rfl, hg, hcell⟩ := hcell (by intro e; rw [e] at hlt; simp at hlt)
      obtain ⟨y, hy⟩ : ∃ y, h[j]? = some y := ⟨h[j], by simp [hlt]⟩
      have hzy := hzs y (List.mem_of_getElem? hy)
      have C := hcell j y hy
      obtain ⟨k0, k1⟩ := C.below hB hg
      have HD : Hid (h.drop j = y :: h.drop (j + 1)) := drop_cons hy
      clear hcell hy
      have hlt' : (j : Int) < h.length := by omega
      have hownwr := hown
      have hxwr := hx
      have hBwr := hB
      have hswwr := hsw
      clear hown hx hB hsw
      cases bb with
      | true =>
        go_wp2
        go_quiet (fail)
        have hbn := below_dN wr nq
        have hownw2 := own_below hownwr hbn
        have hxw2 := (hbn.block _ (by omega)).trans hxwr
        have hBw2 := hBwr.trans (hbn.mono hBwr.size)
        have hsww2 : w.heap.size + 1 < (wr.drewN nq).heap.size := Nat.lt_of_lt_of_le hswwr hbn.size
        generalize wr.drewN nq = w2 at *
        clear hbn hownwr hxwr hBwr hswwr
        obtain ⟨k0, k1⟩ := C.below hBw2 hg
        have c0 : w2.cell? ⟨w.heap.size, 0, none⟩ = some (.int .i64 x.n) := cell_of_row w2 _ 0 _ _ _ hxw2
        have c1 : w2.cell? ⟨w.heap.size, 1, none⟩ = some (.string x.s) := cell_of_row w2 _ 1 _ _ _ hxw2
        have lit := PcRow.lit1 w2 y hzy
        go_wp2_with (at_builtin; refine wpList_append_own_any _ rfl _ _ 25 rfl (w.heap.size + 1) 29 i0 _ 2 24 Try.underlying25 hi hz0 hz1 hz2 rfl (by decide) _ _ _ rfl (hownw2.alloc _) (some ⟨w2.heap.size, 0, none⟩) 1 1 (pccs [y]) rfl rfl lit.nilcap lit.cells (pccs_one _) (by unfold maxLen; omega) (by omega) (by simp; omega) ?_)
        intro uw3 w3 ow3 hgw3
        have hxw3 := (hgw3.block w.heap.size (by simp; omega) (fun e => by have := ((hownw2.alloc (.cells #[.int .i64 y.n, .string y.s] 29)).lt _ e.symm).1; omega)).trans ((heap_alloc_old _ _ (by omega)).trans hxw2)
        have hBw3 : Below w.heap.size w w3 := (hBw2.alloc hBw2.size _).grown hgw3 (by simp; omega) (fun k hk => by have := ((hownw2.alloc (.cells #[.int .i64 y.n, .string y.s] 29)).lt k hk).1; omega)
        have hsww3 : w.heap.size + 1 < w3.heap.size := by have := hgw3.size; simp at this; omega
        obtain ⟨Lw3, hLw3⟩ : ∃ L', L' = L ++ [y] := ⟨_, rfl⟩
        have hownw3 : w3.ownsRow (w.heap.size + 1) 29 2 uw3 Lw3.length (pccs Lw3) := by rw [hLw3, pccs_append, List.length_append]; exact ow3
        have HLw3 : Hid (Lw3 = L ++ [y]) := hLw3
        have hlw3 : Lw3.length ≤ L.length + 1 := by rw [hLw3]; simp
        obtain ⟨apw3, cpw3, rfl⟩ := own_form hownw3
        clear hgw3 ow3 hLw3 lit hownw2 hxw2 hBw2 hsww2 c0 c1 k0 k1
        go_wp2
        go_roundw
        case rel => exact ⟨j + 1, true, Lw3, by omega, by go_num, rfl, hownw3, by omega, by unfold Hid; rw [HJ.out, HLw3.out]; simp only [holdTo, if_true, HD.out]; simp, hxw3, hBw3, hsww3⟩
        case measure => simp [intOf]; omega
      | false =>
        by_cases hyx : y.n < x.n
        · have hyx' : ¬ x.n ≤ y.n := by omega
          go_wp2
          go_quiet (fail)
          have hbn := below_dN wr nq
          have hownw2 := own_below hownwr hbn
          have hxw2 := (hbn.block _ (by omega)).trans hxwr
          have hBw2 := hBwr.trans (hbn.mono hBwr.size)
          have hsww2 : w.heap.size + 1 < (wr.drewN nq).heap.size := Nat.lt_of_lt_of_le hswwr hbn.size
          generalize wr.drewN nq = w2 at *
          clear hbn hownwr hxwr hBwr hswwr
          obtain ⟨k0, k1⟩ := C.below hBw2 hg
          have c0 : w2.cell? ⟨w.heap.size, 0, none⟩ = some (.int .i64 x.n) := cell_of_row w2 _ 0 _ _ _ hxw2
          have c1 : w2.cell? ⟨w.heap.size, 1, none⟩ = some (.string x.s) := cell_of_row w2 _ 1 _ _ _ hxw2
          have lit := PcRow.lit1 w2 y hzy
          go_wp2_with (at_builtin; refine wpList_append_own_any _ rfl _ _ 25 rfl (w.heap.size + 1) 29 i0 _ 2 24 Try.underlying25 hi hz0 hz1 hz2 rfl (by decide) _ _ _ rfl (hownw2.alloc _) (some ⟨w2.heap.size, 0, none⟩) 1 1 (pccs [y]) rfl rfl lit.nilcap lit.cells (pccs_one _) (by unfold maxLen; omega) (by omega) (by simp; omega) ?_)
          intro uw3 w3 ow3 hgw3
          have hxw3 := (hgw3.block w.heap.size (by simp; omega) (fun e => by have := ((hownw2.alloc (.cells #[.int .i64 y.n, .string y.s] 29)).lt _ e.symm).1; omega)).trans ((heap_alloc_old _ _ (by omega)).trans hxw2)
          have hBw3 : Below w.heap.size w w3 := (hBw2.alloc hBw2.size _).grown hgw3 (by simp; omega) (fun k hk => by have := ((hownw2.alloc (.cells #[.int .i64 y.n, .string y.s] 29)).lt k hk).1; omega)
          have hsww3 : w.heap.size + 1 < w3.heap.size := by have := hgw3.size; simp at this; omega
          obtain ⟨Lw3, hLw3⟩ : ∃ L', L' = L ++ [y] := ⟨_, rfl⟩
          have hownw3 : w3.ownsRow (w.heap.size + 1) 29 2 uw3 Lw3.length (pccs Lw3) := by rw [hLw3, pccs_append, List.length_append]; exact ow3
          have HLw3 : Hid (Lw3 = L ++ [y]) := hLw3
          have hlw3 : Lw3.length ≤ L.length + 1 := by rw [hLw3]; simp
          obtain ⟨apw3, cpw3, rfl⟩ := own_form hownw3
          clear hgw3 ow3 hLw3 lit hownw2 hxw2 hBw2 hsww2 c0 c1 k0 k1
          go_wp2
          go_roundw
          case rel => exact ⟨j + 1, false, Lw3, by omega, by go_num, rfl, hownw3, by omega, by unfold Hid; rw [HJ.out, HLw3.out]; simp only [holdTo, HD.out]; simp [holdL_lt hyx], hxw3, hBw3, hsww3⟩
          case measure => simp [intOf]; omega
        · have hyx' : x.n ≤ y.n := by omega
          go_wp2
          go_quiet (fail)
          have hbn := below_dN wr nq
          have hownw2 := own_below hownwr hbn
          have hxw2 := (hbn.block _ (by omega)).trans hxwr
          have hBw2 := hBwr.trans (hbn.mono hBwr.size)
          have hsww2 : w.heap.size + 1 < (wr.drewN nq).heap.size := Nat.lt_of_lt_of_le hswwr hbn.size
          generalize wr.drewN nq = w2 at *
          clear hbn hownwr hxwr hBwr hswwr
          obtain ⟨k0, k1⟩ := C.below hBw2 hg
          have c0 : w2.cell? ⟨w.heap.size, 0, none⟩ = some (.int .i64 x.n) := cell_of_row w2 _ 0 _ _ _ hxw2
          have c1 : w2.cell? ⟨w.heap.size, 1, none⟩ = some (.string x.s) := cell_of_row w2 _ 1 _ _ _ hxw2
          by_cases hgt : x.n < y.n
          · go_wp2
            go_quiet (fail)
            have hbn := below_dN w2 nq
            have hownw3 := own_below hownw2 hbn
            have hxw3 := (hbn.block _ (by omega)).trans hxw2
            have hBw3 := hBw2.trans (hbn.mono hBw2.size)
            have hsww3 : w.heap.size + 1 < (w2.drewN nq).heap.size := Nat.lt_of_lt_of_le hsww2 hbn.size
            generalize w2.drewN nq = w3 at *
            clear hbn hownw2 hxw2 hBw2 hsww2
            obtain ⟨k0, k1⟩ := C.below hBw3 hg
            have c0 : w3.cell? ⟨w.heap.size, 0, none⟩ = some (.int .i64 x.n) := cell_of_row w3 _ 0 _ _ _ hxw3
            have c1 : w3.cell? ⟨w.heap.size, 1, none⟩ = some (.string x.s) := cell_of_row w3 _ 1 _ _ _ hxw3
            have lit := PcRow.lit1 w3 x hs
            go_wp2_with (at_builtin; refine wpList_append_own_any _ rfl _ _ 25 rfl (w.heap.size + 1) 29 i0 _ 2 24 Try.underlying25 hi hz0 hz1 hz2 rfl (by decide) _ _ _ rfl (hownw3.alloc _) (some ⟨w3.heap.size, 0, none⟩) 1 1 (pccs [x]) rfl rfl lit.nilcap lit.cells (pccs_one _) (by unfold maxLen; omega) (by omega) (by simp; omega) ?_)
            intro uw4 w4 ow4 hgw4
            have hxw4 := (hgw4.block w.heap.size (by simp; omega) (fun e => by have := ((hownw3.alloc (.cells #[.int .i64 x.n, .string x.s] 29)).lt _ e.symm).1; omega)).trans ((heap_alloc_old _ _ (by omega)).trans hxw3)
            have hBw4 : Below w.heap.size w w4 := (hBw3.alloc hBw3.size _).grown hgw4 (by simp; omega) (fun k hk => by have := ((hownw3.alloc (.cells #[.int .i64 x.n, .string x.s] 29)).lt k hk).1; omega)
            have hsww4 : w.heap.size + 1 < w4.heap.size := by have := hgw4.size; simp at this; omega
            obtain ⟨Lw4, hLw4⟩ : ∃ L', L' = L ++ [x] := ⟨_, rfl⟩
            have hownw4 : w4.ownsRow (w.heap.size + 1) 29 2 uw4 Lw4.length (pccs Lw4) := by rw [hLw4, pccs_append, List.length_append]; exact ow4
            have HLw4 : Hid (Lw4 = L ++ [x]) := hLw4
            have hlw4 : Lw4.length ≤ L.length + 1 := by rw [hLw4]; simp
            obtain ⟨apw4, cpw4, rfl⟩ := own_form hownw4
            clear hgw4 ow4 hLw4 lit hownw3 hxw3 hBw3 hsww3 c0 c1 k0 k1
            obtain ⟨k0, k1⟩ := C.below hBw4 hg
            have c0 : w4.cell? ⟨w.heap.size, 0, none⟩ = some (.int .i64 x.n) := cell_of_row w4 _ 0 _ _ _ hxw4
            have c1 : w4.cell? ⟨w.heap.size, 1, none⟩ = some (.string x.s) := cell_of_row w4 _ 1 _ _ _ hxw4
            have lit := PcRow.lit1 w4 y hzy
            go_wp2_with (at_builtin; refine wpList_append_own_any _ rfl _ _ 25 rfl (w.heap.size + 1) 29 i0 _ 2 24 Try.underlying25 hi hz0 hz1 hz2 rfl (by decide) _ _ _ rfl (hownw4.alloc _) (some ⟨w4.heap.size, 0, none⟩) 1 1 (pccs [y]) rfl rfl lit.nilcap lit.cells (pccs_one _) (by unfold maxLen; omega) (by omega) (by simp; omega) ?_)
            intro uw5 w5 ow5 hgw5
            have hxw5 := (hgw5.block w.heap.size (by simp; omega) (fun e => by have := ((hownw4.alloc (.cells #[.int .i64 y.n, .string y.s] 29)).lt _ e.symm).1; omega)).trans ((heap_alloc_old _ _ (by omega)).trans hxw4)
            have hBw5 : Below w.heap.size w w5 := (hBw4.alloc hBw4.size _).grown hgw5 (by simp; omega) (fun k hk => by have := ((hownw4.alloc (.cells #[.int .i64 y.n, .string y.s] 29)).lt k hk).1; omega)
            have hsww5 : w.heap.size + 1 < w5.heap.size := by have := hgw5.size; simp at this; omega
            obtain ⟨Lw5, hLw5⟩ : ∃ L', L' = Lw4 ++ [y] := ⟨_, rfl⟩
            have hownw5 : w5.ownsRow (w.heap.size + 1) 29 2 uw5 Lw5.length (pccs Lw5) := by rw [hLw5, pccs_append, List.length_append]; exact ow5
            have HLw5 : Hid (Lw5 = Lw4 ++ [y]) := hLw5
            have hlw5 : Lw5.length ≤ Lw4.length + 1 := by rw [hLw5]; simp
            obtain ⟨apw5, cpw5, rfl⟩ := own_form hownw5
            clear hgw5 ow5 hLw5 lit hownw4 hxw4 hBw4 hsww4 c0 c1 k0 k1
            go_wp2
            go_roundw
            case rel => exact ⟨j + 1, true, Lw5, by omega, by go_num, rfl, hownw5, by omega, by unfold Hid; rw [HJ.out, HLw5.out, HLw4.out]; simp only [holdTo, HD.out]; simp [holdL_gt hgt], hxw5, hBw5, hsww5⟩
            case measure => simp [intOf]; omega
          · have HEQ : Hid (y.n = x.n) := by unfold Hid; omega
            have hgt' : ¬ x.n < y.n := hgt
            go_wp2
            go_quiet (fail)
            have hbn := below_dN w2 nq
            have hownw3 := own_below hownw2 hbn
            have hxw3 := (hbn.block _ (by omega)).trans hxw2
            have hBw3 := hBw2.trans (hbn.mono hBw2.size)
            have hsww3 : w.heap.size + 1 < (w2.drewN nq).heap.size := Nat.lt_of_lt_of_le hsww2 hbn.size
            generalize w2.drewN nq = w3 at *
            clear hbn hownw2 hxw2 hBw2 hsww2
            obtain ⟨k0, k1⟩ := C.below hBw3 hg
            have c0 : w3.cell? ⟨w.heap.size, 0, none⟩ = some (.int .i64 x.n) := cell_of_row w3 _ 0 _ _ _ hxw3
            have c1 : w3.cell? ⟨w.heap.size, 1, none⟩ = some (.string x.s) := cell_of_row w3 _ 1 _ _ _ hxw3
            have lit := PcRow.lit1 w3 y hzy
            go_wp2_with (at_builtin; refine wpList_append_own_any _ rfl _ _ 25 rfl (w.heap.size + 1) 29 i0 _ 2 24 Try.underlying25 hi hz0 hz1 hz2 rfl (by decide) _ _ _ rfl (hownw3.alloc _) (some ⟨w3.heap.size, 0, none⟩) 1 1 (pccs [y]) rfl rfl lit.nilcap lit.cells (pccs_one _) (by unfold maxLen; omega) (by omega) (by simp; omega) ?_)
            intro uw4 w4 ow4 hgw4
            have hxw4 := (hgw4.block w.heap.size (by simp; omega) (fun e => by have := ((hownw3.alloc (.cells #[.int .i64 y.n, .string y.s] 29)).lt _ e.symm).1; omega)).trans ((heap_alloc_old _ _ (by omega)).trans hxw3)
            have hBw4 : Below w.heap.size w w4 := (hBw3.alloc hBw3.size _).grown hgw4 (by simp; omega) (fun k hk => by have := ((hownw3.alloc (.cells #[.int .i64 y.n, .string y.s] 29)).lt k hk).1; omega)
            have hsww4 : w.heap.size + 1 < w4.heap.size := by have := hgw4.size; simp at this; omega
            obtain ⟨Lw4, hLw4⟩ : ∃ L', L' = L ++ [y] := ⟨_, rfl⟩
            have hownw4 : w4.ownsRow (w.heap.size + 1) 29 2 uw4 Lw4.length (pccs Lw4) := by rw [hLw4, pccs_append, List.length_append]; exact ow4
            have HLw4 : Hid (Lw4 = L ++ [y]) := hLw4
            have hlw4 : Lw4.length ≤ L.length + 1 := by rw [hLw4]; simp
            obtain ⟨apw4, cpw4, rfl⟩ := own_form hownw4
            clear hgw4 ow4 hLw4 lit hownw3 hxw3 hBw3 hsww3 c0 c1 k0 k1
            go_wp2
            go_roundw
            case rel => exact ⟨j + 1, true, Lw4, by omega, by go_num, rfl, hownw4, by omega, by unfold Hid; rw [HJ.out, HLw4.out]; simp only [holdTo, HD.out]; simp [holdL_eq HEQ.out], hxw4, hBw4, hsww4⟩
            case measure => simp [intOf]; omega
    · have hlt' : ¬ (j : Int) < h.length := by omega
      have hje : j = h.length := by omega
      have hownwr := hown
      have hxwr := hx
      have hBwr := hB
      have hswwr := hsw
      clear hown hx hB hsw
      cases bb with
      | true =>
        have HE : Hid (RR = L) := by unfold Hid; rw [HJ.out, hje]; simp [holdTo]
        clear hj hlt hje HJ
        go_wp2
        go_ret
        rw [HE.out]
        exact ⟨_, rfl, hownwr, hBwr⟩
      | false =>
        have HE : Hid (RR = L ++ [x]) := by unfold Hid; rw [HJ.out, hje]; simp [holdTo, holdL]
        have k0 : True := trivial
        have k1 : True := trivial
        clear hlt hje HJ
        have lit := PcRow.lit1 wr x hs
        go_wp2_with (at_builtin; refine wpList_append_own_any _ rfl _ _ 25 rfl (w.heap.size + 1) 29 i0 _ 2 24 Try.underlying25 hi hz0 hz1 hz2 rfl (by decide) _ _ _ rfl (hownwr.alloc _) (some ⟨wr.heap.size, 0, none⟩) 1 1 (pccs [x]) rfl rfl lit.nilcap lit.cells (pccs_one _) (by unfold maxLen; omega) (by omega) (by simp; omega) ?_)
        intro uw3 w3 ow3 hgw3
        have hxw3 := (hgw3.block w.heap.size (by simp; omega) (fun e => by have := ((hownwr.alloc (.cells #[.int .i64 x.n, .string x.s] 29)).lt _ e.symm).1; omega)).trans ((heap_alloc_old _ _ (by omega)).trans hxwr)
        have hBw3 : Below w.heap.size w w3 := (hBwr.alloc hBwr.size _).grown hgw3 (by simp; omega) (fun k hk => by have := ((hownwr.alloc (.cells #[.int .i64 x.n, .string x.s] 29)).lt k hk).1; omega)
        have hsww3 : w.heap.size + 1 < w3.heap.size := by have := hgw3.size; simp at this; omega
        obtain ⟨Lw3, hLw3⟩ : ∃ L', L' = L ++ [x] := ⟨_, rfl⟩
        have hownw3 : w3.ownsRow (w.heap.size + 1) 29 2 uw3 Lw3.length (pccs Lw3) := by rw [hLw3, pccs_append, List.length_append]; exact ow3
        have HLw3 : Hid (Lw3 = L ++ [x]) := hLw3
        have hlw3 : Lw3.length ≤ L.length + 1 := by rw [hLw3]; simp
        obtain ⟨apw3, cpw3, rfl⟩ := own_form hownw3
        clear hgw3 ow3 hLw3 lit hownwr hxwr hBwr hswwr c0 c1 k0 k1
        go_wp2
        go_ret
        rw [HE.out, ← HLw3.out]
        exact ⟨_, rfl, hownw3, hBw3⟩
end Go.Proofs.Ytkhokfkcicaojaa
