/-
  Contract of impl's LeaseAsk. No condition.
-/
import Derived.Test.YtdlbgdckkjhbdaaLsAskM
namespace Go.Proofs.Ytdlbgdckkjhbdaa
open Go.RowKit

set_option maxHeartbeats 400000 in
theorem mlater_any (m b : Int) (w : World) (h : -1000000 ≤ m ∧ m ≤ 1000000000000) (hb : 0 ≤ b ∧ b ≤ 1000) :
    Calls Try.prog 38 #[.agg #[.int .i64 m], .int .i64 b] w fun e w' => e = .returned (.agg #[.int .i64 (m + b)]) ∧ Below w.heap.size w w' := by
  obtain ⟨h1, h2⟩ := h
  obtain ⟨h3, h4⟩ := hb
  go_enter Try.func38, Try.ntmps38
  go_wp2
  exact bodyPost_ret (results_cell_row rfl _ _ (w.heap.size + 1) 61 _ (0, 0) _ rfl (heap_alloc2_new _ _ _) Try.underlying61 rfl Try.sizeMoment) rfl
    ⟨rfl, below2 _ _ _⟩
set_option maxHeartbeats 400000 in
theorem mearlier_any (m b : Int) (w : World) (h : -1000000 ≤ m ∧ m ≤ 1000000000000) (hb : 0 ≤ b ∧ b ≤ 1000) :
    Calls Try.prog 40 #[.agg #[.int .i64 m], .int .i64 b] w fun e w' => e = .returned (.agg #[.int .i64 (m - b)]) ∧ Below w.heap.size w w' := by
  obtain ⟨h1, h2⟩ := h
  obtain ⟨h3, h4⟩ := hb
  go_enter Try.func40, Try.ntmps40
  go_wp2
  exact bodyPost_ret (results_cell_row rfl _ _ (w.heap.size + 1) 61 _ (0, 0) _ rfl (heap_alloc2_new _ _ _) Try.underlying61 rfl Try.sizeMoment) rfl
    ⟨rfl, below2 _ _ _⟩

theorem moment_field (x : Value) (w : World) : (Instr.field 61 (.agg #[x]) 0).run Try.prog w = .ok x w := by
  simp [Instr.field, run_underlying Try.underlying61, asAgg, go_sem, Result.andThen]

set_option maxRecDepth 100000 in
set_option maxHeartbeats 3200000 in
theorem ileaseask_any (v : Value) (xs : List Ls) (i q n : Int) (w : World) (R : LsRow w v xs) :
    Calls Try.prog 11 #[v, .int .i64 i, .int .i64 q, .int .i64 n] w (AkAns xs i q n w) := by
  obtain ⟨ao, cap, rfl⟩ := R.small
  have hB0 : Below w.heap.size w (w.alloc (Obj.cells #[.int .i64 0, .int .i64 0] 28)) := (Below.refl _ _).alloc (Nat.le_refl _) _
  have hx0 := heap_alloc_new w (Obj.cells #[.int .i64 0, .int .i64 0] 28)
  have hs0 : w.heap.size < (w.alloc (Obj.cells #[.int .i64 0, .int .i64 0] 28)).heap.size := by simp
  have OK := fun (v : Value) (w : World) (R : LsRow w v xs) => ileasesok_any v xs w R
  have R0 := R.below hB0
  cases hb : lsB xs with
  | false =>
    have AA := fun (w' : World) (u : Value) (ho : w'.ownsRow w.heap.size 40 3 u 0 []) (hbl : Below w.heap.size w w') => AkAns.of (i := i) (q := q) (n := n) (ak_bad hb) ho hbl
    rw [hb] at OK
    generalize AkAns xs i q n w = PP at *
    go_enter Try.func11, Try.ntmps11
    go_wp2_with fail
    refine (OK _ _ R0).mono ?_
    rintro e w1 ⟨rfl, hb1⟩
    have hx1 := (hb1.block _ hs0).trans hx0
    have hB1 := hB0.trans (hb1.mono hB0.size)
    have hs1 := (Array.getElem?_eq_some_iff.1 hx1).1
    clear R0 hb1 hx0 hs0 hB0 OK R
    have own2 := own_none0 w1 40 3 w.heap.size (Nat.le_of_lt hs1)
    have hB2 := hB1.alloc hB1.size (Obj.cells #[] 40)
    have hx2 := (heap_alloc_old w1 (Obj.cells #[] 40) hs1).trans hx1
    go_wp2_with (refine wpList_store_own2 rfl 28 _ _ rfl w.heap.size #[.int .i64 0, .int .i64 0] rfl rfl 28 _ hx2 Try.sizeGrip rfl (by simp [Value.oneCell']) ?_)
    intro w6 hy6 hbg _ hoth
    have hB6 := hB2.trans hbg
    have own6 := own_keep2 own2 (by decide) hx2 hoth
    clear own2 hoth hbg hx2 hB2 hx1 hB1
    go_wp2
    refine bodyPost_ret (results_tmp_row_tmp rfl _ _ w.heap.size 28 _ (0, 0) _ rfl hy6 Try.underlying28 rfl Try.sizeGrip) rfl ?_
    exact AA _ _ own6 hB6
  | true =>
  have hl20 := lsB_len hb
  have AN := fun (h : ¬ ((0 ≤ n ∧ n ≤ 1000000000) ∧ lsB (wlL xs ⟨i, q, n + 20⟩) = true)) (w' : World) (u : Value) (ho : w'.ownsRow w.heap.size 40 3 u xs.length (lscs xs)) (hbl : Below w.heap.size w w') => AkAns.of (i := i) (q := q) (n := n) (ak_no hb h) ho hbl
  have AY := fun (h1 : 0 ≤ n ∧ n ≤ 1000000000) (h2 : lsB (wlL xs ⟨i, q, n + 20⟩) = true) (w' : World) (u : Value) (ho : w'.ownsRow w.heap.size 40 3 u (wlL xs ⟨i, q, n + 20⟩).length (lscs (wlL xs ⟨i, q, n + 20⟩))) (hbl : Below w.heap.size w w') => AkAns.of (i := i) (q := q) (n := n) (ak_yes hb h1 h2) ho hbl
  have WL := fun (v : Value) (w : World) (R : LsRow w v xs) => withlease_any v xs ⟨i, q, n + 20⟩ w R hl20
  have hwl := wlL_len xs ⟨i, q, n + 20⟩
  rw [hb] at OK
  generalize AkAns xs i q n w = PP at *
  generalize wlL xs ⟨i, q, n + 20⟩ = Y at *
  have MT := fun w => mistime_any n w
  go_enter Try.func11, Try.ntmps11
  go_wp2_with fail
  refine (OK _ _ R0).mono ?_
  rintro e w1 ⟨rfl, hb1⟩
  have hx1 := (hb1.block _ hs0).trans hx0
  have hB1 := hB0.trans (hb1.mono hB0.size)
  have hs1 := (Array.getElem?_eq_some_iff.1 hx1).1
  clear R0 hb1 hx0 hs0 hB0 OK
  have hB2 := hB1.alloc hB1.size (Obj.cells #[.int .i64 n] 61)
  have hx2 := (heap_alloc_old w1 (Obj.cells #[.int .i64 n] 61) hs1).trans hx1
  have hm2 := heap_alloc_new w1 (Obj.cells #[.int .i64 n] 61)
  have hs2 := (Array.getElem?_eq_some_iff.1 hx2).1
  have hs2' := (Array.getElem?_eq_some_iff.1 hm2).1
  by_cases hn : 0 ≤ n ∧ n ≤ 1000000000
  rotate_left
  · have e1 : (decide (0 ≤ n) && decide (n ≤ 1000000000)) = false := by
      rw [Bool.eq_false_iff]
      intro e
      simp only [Bool.and_eq_true, decide_eq_true_eq] at e
      exact hn e
    rw [e1] at MT
    have AN' := AN (fun h => hn h.1)
    clear AN AY e1 hn WL
    go_wp2_with fail
    refine (MT _).mono ?_
    rintro e w3 ⟨rfl, hb3⟩
    have hx3 := (hb3.block _ hs2).trans hx2
    have hB3 := hB2.trans (hb3.mono hB2.size)
    clear hb3 hx2 hB2 hm2 hs2 hs2' hx1 hB1
    go_wp2_with fail
    refine (copiedleases_any _ xs _ (R.below hB3) (by omega)).mono ?_
    rintro e w4 ⟨u4, rfl, own4, hb4⟩
    obtain ⟨a4, c4, rfl⟩ := own_form own4
    have hx4 := (hb4.block _ (Array.getElem?_eq_some_iff.1 hx3).1).trans hx3
    have hB4 := hB3.trans (hb4.mono hB3.size)
    have hle : w.heap.size ≤ w3.heap.size := hB3.size
    clear hx3 hB3 hb4
    go_wp2_with (refine wpList_store_own2 rfl 28 _ _ rfl w.heap.size #[.int .i64 0, .int .i64 0] rfl rfl 28 _ hx4 Try.sizeGrip rfl (by simp [Value.oneCell']) ?_)
    intro w8 hy8 hbg _ hoth
    have hB8 := hB4.trans hbg
    have own8 := own_mono (B' := w.heap.size) (own_keep2 own4 (by decide) hx4 hoth) hle
    clear hoth hbg
    go_wp2
    refine bodyPost_ret (results_tmp_row_tmp rfl _ _ w.heap.size 28 _ (0, 0) _ rfl hy8 Try.underlying28 rfl Try.sizeGrip) rfl ?_
    exact AN' _ _ own8 hB8
  have e1 : (decide (0 ≤ n) && decide (n ≤ 1000000000)) = true := by simp; omega
  rw [e1] at MT
  clear e1
  obtain ⟨hn0, hn1⟩ := hn
  have ML := fun w => mlater_any n 20 w (by omega) (by omega)
  have ME := fun w => mearlier_any (n + 20) 3 w (by omega) (by omega)
  rw [show n + 20 - 3 = n + 17 by omega] at ME
  go_wp2_with fail
  refine (MT _).mono ?_
  rintro e w3 ⟨rfl, hb3⟩
  have hx3 := (hb3.block _ hs2).trans hx2
  have hm3 := (hb3.block _ hs2').trans hm2
  have hB3 := hB2.trans (hb3.mono hB2.size)
  have cm3 : w3.cell? ⟨w1.heap.size, 0, none⟩ = some (.int .i64 n) := by rw [cell_of_row w3 _ 0 _ _ _ hm3]; rfl
  clear hb3 hx2 hB2 hm2 hs2 hs2' hx1 hB1
  go_wp2_with fail
  refine (ML _).mono ?_
  rintro e w4 ⟨rfl, hb4⟩
  have hx4 := (hb4.block _ (Array.getElem?_eq_some_iff.1 hx3).1).trans hx3
  have hB4 := hB3.trans (hb4.mono hB3.size)
  have hs4 := (Array.getElem?_eq_some_iff.1 hx4).1
  clear hb4 hx3 hm3 hB3 cm3
  have hB5 := hB4.alloc hB4.size (Obj.cells #[.int .i64 (n + 20)] 61)
  have hx5 := (heap_alloc_old w4 (Obj.cells #[.int .i64 (n + 20)] 61) hs4).trans hx4
  have hm5 := heap_alloc_new w4 (Obj.cells #[.int .i64 (n + 20)] 61)
  go_wp2_with fail
  refine (WL _ _ (R.below hB5)).mono ?_
  rintro e w6 ⟨u6, rfl, own6, hb6⟩
  obtain ⟨a6, c6, rfl⟩ := own_form own6
  have hx6 := (hb6.block _ (Array.getElem?_eq_some_iff.1 hx5).1).trans hx5
  have hm6 := (hb6.block _ (Array.getElem?_eq_some_iff.1 hm5).1).trans hm5
  have hB6 := hB5.trans (hb6.mono hB5.size)
  have own6' := own_mono (B' := w.heap.size) own6 hB5.size
  clear own6 hb6 hx5 hm5 hB5 hx4 hB4 hs4
  have OY := ileasesok_any (.slice a6 Y.length c6) Y w6 (LsRow.of_own own6' (by omega))
  cases hy : lsB Y with
  | false =>
    have AN' := AN (fun h => by rw [hy] at h; cases h.2)
    rw [hy] at OY
    clear AN AY
    go_wp2_with fail
    refine OY.mono ?_
    rintro e w7 ⟨rfl, hb7⟩
    have hx7 := (hb7.block _ (Array.getElem?_eq_some_iff.1 hx6).1).trans hx6
    have hB7 := hB6.trans (hb7.mono hB6.size)
    clear hb7 hx6 hm6 hB6 own6'
    go_wp2_with fail
    refine (copiedleases_any _ xs _ (R.below hB7) (by omega)).mono ?_
    rintro e w9 ⟨u9, rfl, own9, hb9⟩
    obtain ⟨a9, c9, rfl⟩ := own_form own9
    have hx9 := (hb9.block _ (Array.getElem?_eq_some_iff.1 hx7).1).trans hx7
    have hB9 := hB7.trans (hb9.mono hB7.size)
    have hle : w.heap.size ≤ w7.heap.size := hB7.size
    clear hx7 hB7 hb9
    go_wp2_with (refine wpList_store_own2 rfl 28 _ _ rfl w.heap.size #[.int .i64 0, .int .i64 0] rfl rfl 28 _ hx9 Try.sizeGrip rfl (by simp [Value.oneCell']) ?_)
    intro w8 hy8 hbg _ hoth
    have hB8 := hB9.trans hbg
    have own8 := own_mono (B' := w.heap.size) (own_keep2 own9 (by decide) hx9 hoth) hle
    clear hoth hbg
    go_wp2
    refine bodyPost_ret (results_tmp_row_tmp rfl _ _ w.heap.size 28 _ (0, 0) _ rfl hy8 Try.underlying28 rfl Try.sizeGrip) rfl ?_
    exact AN' _ _ own8 hB8
  | true =>
    have AY' := AY ⟨hn0, hn1⟩ hy
    rw [hy] at OY
    clear AN AY
    go_wp2_with fail
    refine OY.mono ?_
    rintro e w7 ⟨rfl, hb7⟩
    have hx7 := (hb7.block _ (Array.getElem?_eq_some_iff.1 hx6).1).trans hx6
    have hm7 := (hb7.block _ (Array.getElem?_eq_some_iff.1 hm6).1).trans hm6
    have cm7 : w7.cell? ⟨w4.heap.size, 0, none⟩ = some (.int .i64 (n + 20)) := by rw [cell_of_row w7 _ 0 _ _ _ hm7]; rfl
    have hB7 := hB6.trans (hb7.mono hB6.size)
    have own7 := own_below own6' hb7
    clear hb7 hx6 hm6 hB6 own6'
    go_wp2_with fail
    refine (ME _).mono ?_
    rintro e w9 ⟨rfl, hb9⟩
    have hx9 := (hb9.block _ (Array.getElem?_eq_some_iff.1 hx7).1).trans hx7
    have hB9 := hB7.trans (hb9.mono hB7.size)
    have own9 := own_below own7 hb9
    clear hx7 hB7 hb9 own7 hm7 cm7
    have MF := moment_field (.int .i64 (n + 17)) w9
    go_wp2_with (refine wpList_store_own2 rfl 28 _ _ rfl w.heap.size #[.int .i64 i, .int .i64 (n + 17)] rfl rfl 28 _ hx9 Try.sizeGrip rfl (by simp [Value.oneCell']) ?_)
    intro w8 hy8 hbg _ hoth
    have hB8 := hB9.trans hbg
    have own8 := own_mono (B' := w.heap.size) (own_keep2 own9 (by decide) hx9 hoth) (Nat.le_refl _)
    clear hoth hbg
    go_wp2
    refine bodyPost_ret (results_tmp_row_tmp rfl _ _ w.heap.size 28 _ (0, 0) _ rfl hy8 Try.underlying28 rfl Try.sizeGrip) rfl ?_
    exact AY' _ _ own8 hB8
end Go.Proofs.Ytdlbgdckkjhbdaa
