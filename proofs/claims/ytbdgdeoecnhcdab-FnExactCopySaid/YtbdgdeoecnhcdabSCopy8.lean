/-
  Contract of spec's Copy. No condition.
-/
import Derived.Test.YtbdgdeoecnhcdabSCopy7
namespace Go.Proofs.Ytbdgdeoecnhcdab
open Go.RowKit

set_option maxRecDepth 100000 in
set_option maxHeartbeats 3200000 in
theorem scopy7_any (vp vq : Value) (ps xs : List Nd) (v : Int) (w : World) (RP : NRow w vp ps) (RQ : NRow w vq xs) :
    Calls Try.prog 6 #[.agg #[vp], .agg #[vq], .int .i64 v] w fun e w' => ∃ v1, e = .returned (.tuple #[.agg #[v1], .int .i64 (cyI ps xs v)]) ∧ w'.ownsRow w.heap.size 70 5 v1 (cyL ps xs v).length (ncs (cyL ps xs v)) ∧ Below w.heap.size w w' := by
  have RP' := RP
  have RQ' := RQ
  obtain ⟨ap, cp, rfl, _⟩ := RP'
  obtain ⟨aq, cq, rfl, _⟩ := RQ'
  have hB0 : Below w.heap.size w (((w.alloc (Obj.cells #[.slice ap ps.length cp] 28)).alloc (Obj.cells #[.slice aq xs.length cq] 28)).alloc (Obj.cells #[.slice none 0 0] 28)) := (below2 w _ _).alloc (by simp; omega) _
  have hx0 : (((w.alloc (Obj.cells #[.slice ap ps.length cp] 28)).alloc (Obj.cells #[.slice aq xs.length cq] 28)).alloc (Obj.cells #[.slice none 0 0] 28)).heap[w.heap.size]? = some (.cells #[.slice ap ps.length cp] 28 (0, 0)) := (heap_alloc_old _ _ (by simp; omega)).trans (old2 w _ _)
  have hy0 : (((w.alloc (Obj.cells #[.slice ap ps.length cp] 28)).alloc (Obj.cells #[.slice aq xs.length cq] 28)).alloc (Obj.cells #[.slice none 0 0] 28)).heap[w.heap.size + 1]? = some (.cells #[.slice aq xs.length cq] 28 (0, 0)) := (heap_alloc_old _ _ (by simp)).trans (heap_alloc2_new w _ _)
  have hz0 : (((w.alloc (Obj.cells #[.slice ap ps.length cp] 28)).alloc (Obj.cells #[.slice aq xs.length cq] 28)).alloc (Obj.cells #[.slice none 0 0] 28)).heap[w.heap.size + 1 + 1]? = some (.cells #[.slice none 0 0] 28 (0, 0)) := by
    have := heap_alloc_new ((w.alloc (Obj.cells #[.slice ap ps.length cp] 28)).alloc (Obj.cells #[.slice aq xs.length cq] 28)) (Obj.cells #[.slice none 0 0] 28)
    simpa using this
  go_enter Try.func6, Try.ntmps6
  go_wp2_with fail
  generalize ((w.alloc (Obj.cells #[.slice ap ps.length cp] 28)).alloc (Obj.cells #[.slice aq xs.length cq] 28)).alloc (Obj.cells #[.slice none 0 0] 28) = W0 at *
  refine (spool_any _ ps _ (RP.below hB0)).mono ?_
  rintro e w1 ⟨rfl, hb1⟩
  have hl0 := (Array.getElem?_eq_some_iff.1 hz0).1
  have hB1 := hB0.trans (hb1.mono hB0.size)
  have hx1 := (hb1.block _ (by omega)).trans hx0
  have hy1 := (hb1.block _ (by omega)).trans hy0
  have hz1 := (hb1.block _ hl0).trans hz0
  have hl1 := (Array.getElem?_eq_some_iff.1 hz1).1
  have cx1 : w1.cell? ⟨w.heap.size, 0, none⟩ = some (.slice ap ps.length cp) := by rw [cell_of_row w1 _ 0 _ _ _ hx1]; rfl
  have cy1 : w1.cell? ⟨w.heap.size + 1, 0, none⟩ = some (.slice aq xs.length cq) := by rw [cell_of_row w1 _ 0 _ _ _ hy1]; rfl
  have cz1 : w1.cell? ⟨w.heap.size + 1 + 1, 0, none⟩ = some (.slice none 0 0) := by rw [cell_of_row w1 _ 0 _ _ _ hz1]; rfl
  have fz1 : w1.frozen? ⟨w.heap.size + 1 + 1, 0, none⟩ = false := frozen_of_row w1 _ 0 _ _ hz1
  clear hB0 hb1 hx0 hy0 hz0 hl0
  by_cases hpp : poolB ps = true
  · rw [hpp]
    go_wp2_with fail
    refine (spool_any _ xs _ (RQ.below hB1)).mono ?_
    rintro e w2 ⟨rfl, hb2⟩
    have hB2 := hB1.trans (hb2.mono hB1.size)
    have hx2 := (hb2.block _ (by omega)).trans hx1
    have hy2 := (hb2.block _ (by omega)).trans hy1
    have hz2 := (hb2.block _ hl1).trans hz1
    have hl2 := (Array.getElem?_eq_some_iff.1 hz2).1
    have cx2 : w2.cell? ⟨w.heap.size, 0, none⟩ = some (.slice ap ps.length cp) := by rw [cell_of_row w2 _ 0 _ _ _ hx2]; rfl
    have cy2 : w2.cell? ⟨w.heap.size + 1, 0, none⟩ = some (.slice aq xs.length cq) := by rw [cell_of_row w2 _ 0 _ _ _ hy2]; rfl
    have cz2 : w2.cell? ⟨w.heap.size + 1 + 1, 0, none⟩ = some (.slice none 0 0) := by rw [cell_of_row w2 _ 0 _ _ _ hz2]; rfl
    have fz2 : w2.frozen? ⟨w.heap.size + 1 + 1, 0, none⟩ = false := frozen_of_row w2 _ 0 _ _ hz2
    clear hB1 hb2 hx1 hy1 hz1 hl1 cx1 cy1 cz1 fz1
    have hpl := poolB_len hpp
    by_cases hpq : poolB xs = true
    · rw [hpq]
      go_wp2_with fail
      refine (shas_all _ xs _ _ (RQ.below hB2)).mono ?_
      rintro e w3 ⟨rfl, hb3⟩
      have hB3 := hB2.trans (hb3.mono hB2.size)
      have hx3 := (hb3.block _ (by omega)).trans hx2
      have hy3 := (hb3.block _ (by omega)).trans hy2
      have hz3 := (hb3.block _ hl2).trans hz2
      have hl3 := (Array.getElem?_eq_some_iff.1 hz3).1
      have cx3 : w3.cell? ⟨w.heap.size, 0, none⟩ = some (.slice ap ps.length cp) := by rw [cell_of_row w3 _ 0 _ _ _ hx3]; rfl
      have cy3 : w3.cell? ⟨w.heap.size + 1, 0, none⟩ = some (.slice aq xs.length cq) := by rw [cell_of_row w3 _ 0 _ _ _ hy3]; rfl
      have cz3 : w3.cell? ⟨w.heap.size + 1 + 1, 0, none⟩ = some (.slice none 0 0) := by rw [cell_of_row w3 _ 0 _ _ _ hz3]; rfl
      have fz3 : w3.frozen? ⟨w.heap.size + 1 + 1, 0, none⟩ = false := frozen_of_row w3 _ 0 _ _ hz3
      clear hB2 hb3 hx2 hy2 hz2 hl2 cx2 cy2 cz2 fz2
      cases hhi : hasI xs v with
      | false =>
        have hno : cyOk ps xs v = false := by unfold cyOk; rw [hhi]; simp
        have HL : Hid (cyL ps xs v = ps) := by unfold Hid cyL; rw [hpp, hno]; rfl
        have HI : Hid (cyI ps xs v = -1) := by unfold Hid cyI; rw [hpp, hno]; rfl
        go_wp2_with fail
        refine (scopy_any _ ps _ (RP.below hB3) (by omega)).mono ?_
        rintro e w9 ⟨v9, rfl, ho9, hb9⟩
        obtain ⟨a9, q9, rfl⟩ := own_form ho9
        have hz9 := (hb9.block _ hl3).trans hz3
        have cz9 : w9.cell? ⟨w.heap.size + 1 + 1, 0, none⟩ = some (.slice none 0 0) := by rw [cell_of_row w9 _ 0 _ _ _ hz9]; rfl
        have fz9 : w9.frozen? ⟨w.heap.size + 1 + 1, 0, none⟩ = false := frozen_of_row w9 _ 0 _ _ hz9
        have hB9 := hB3.trans (hb9.mono hB3.size)
        obtain ⟨p1, p2, p3⟩ := put_pool hz9 ho9 hB9 hl3 (by omega)
        clear hb9
        go_wp2
        refine bodyPost_ret (results_row_tmp rfl _ _ (w.heap.size + 1 + 1) 28 _ (0, 0) _ rfl p1 Try.underlying28 rfl Try.sizeP) rfl ⟨_, by rw [HI.out]; rfl, ?_, p3⟩
        rw [HL.out]
        exact p2
      | true =>
        have hhv := hhi
        simp only [hasI, Bool.and_eq_true, decide_eq_true_eq] at hhv
        obtain ⟨k, rfl⟩ := Int.eq_ofNat_of_zero_le hhv.1
        have hk : k < xs.length := by omega
        go_wp2_with fail
        refine (scopy_any _ ps _ (RP.below hB3) (by omega)).mono ?_
        rintro e w4 ⟨v4, rfl, ho4, hb4⟩
        obtain ⟨a4, q4, rfl⟩ := own_form ho4
        have hb5 := heap_alloc_new w4 (Obj.cells #[.slice a4 ps.length q4] 28)
        have ho5 := ho4.alloc (Obj.cells #[.slice a4 ps.length q4] 28)
        have hB35 : Below w3.heap.size w3 (w4.alloc (Obj.cells #[.slice a4 ps.length q4] 28)) := hb4.alloc hb4.size _
        have hs4 := hb4.size
        have cy5 : (w4.alloc (Obj.cells #[.slice a4 ps.length q4] 28)).cell? ⟨w.heap.size + 1, 0, none⟩ = some (.slice aq xs.length cq) := (hB35.cell (p := ⟨w.heap.size + 1, 0, none⟩) (by show w.heap.size + 1 < w3.heap.size; omega)).trans cy3
        have cy4 : w4.cell? ⟨w.heap.size + 1, 0, none⟩ = some (.slice aq xs.length cq) := (hb4.cell (p := ⟨w.heap.size + 1, 0, none⟩) (by show w.heap.size + 1 < w3.heap.size; omega)).trans cy3
        have hl4 : w.heap.size + 1 < w4.heap.size := by omega
        clear hb4 ho4 cx3 cy3 cz3 fz3
        go_wp2_with fail
        generalize w4.alloc (Obj.cells #[.slice a4 ps.length q4] 28) = W5 at *
        refine (slcopy7_any w4.heap.size w3.heap.size a4 q4 ps xs aq cq k w3 W5 hb5 ho5 hs4 (RQ.below hB3) (Nat.le_refl _) hB35 hpq (by omega) hk).mono ?_
        rintro e w6 ⟨vp, rfl, hb6, ho6, hB6⟩
        obtain ⟨a6, q6, rfl⟩ := own_form ho6
        have hx6 := (hB6.block _ (by omega)).trans hx3
        have hz6 := (hB6.block _ hl3).trans hz3
        have hBw6 := hB3.trans (hB6.mono hB3.size)
        have hl6 := (Array.getElem?_eq_some_iff.1 hz6).1
        have c86 : w6.cell? ⟨w4.heap.size, 0, none⟩ = some (.slice a6 (ps ++ mvN ps.length xs [(k : Int)]).length q6) := by rw [cell_of_row w6 _ 0 _ _ _ hb6]; rfl
        have cx6 : w6.cell? ⟨w.heap.size, 0, none⟩ = some (.slice ap ps.length cp) := by rw [cell_of_row w6 _ 0 _ _ _ hx6]; rfl
        have cz6 : w6.cell? ⟨w.heap.size + 1 + 1, 0, none⟩ = some (.slice none 0 0) := by rw [cell_of_row w6 _ 0 _ _ _ hz6]; rfl
        have fz6 : w6.frozen? ⟨w.heap.size + 1 + 1, 0, none⟩ = false := frozen_of_row w6 _ 0 _ _ hz6
        have hlm := mvN_len ps.length xs [(k : Int)]
        have hql := poolB_len hpq
        have HLn : Hid ((ps ++ mvN ps.length xs [(k : Int)]).length = ps.length + (mvN ps.length xs [(k : Int)]).length) := List.length_append
        have hsum : (ps ++ mvN ps.length xs [(k : Int)]).length ≤ 6000 := by rw [HLn.out]; omega
        by_cases hfit : (ps ++ mvN ps.length xs [(k : Int)]).length ≤ 3000
        · have hok : cyOk ps xs k = true := by unfold cyOk; rw [hpq, hhi]; rw [HLn.out] at hfit; simp [hfit]
          have HL : Hid (cyL ps xs k = ps ++ mvN ps.length xs [(k : Int)]) := by unfold Hid cyL; rw [hpp, hok]; rfl
          have HI : Hid (cyI ps xs k = (mvAll ps.length xs (reachL xs [(k : Int)])).2.getD k 0) := by unfold Hid cyI; rw [hpp, hok]; rfl
          generalize (mvAll ps.length xs (reachL xs [(k : Int)])).2.getD k 0 = y at *
          generalize ps ++ mvN ps.length xs [(k : Int)] = LL at *
          have hfit' : ¬ (3000 : Int) < LL.length := by omega
          obtain ⟨p1, p2, p3⟩ := put_pool hz6 ho6 hBw6 hl3 (by omega)
          go_wp2
          refine bodyPost_ret (results_row_tmp rfl _ _ (w.heap.size + 1 + 1) 28 _ (0, 0) _ rfl p1 Try.underlying28 rfl Try.sizeP) rfl ⟨_, by rw [HI.out]; rfl, ?_, p3⟩
          rw [HL.out]
          exact p2
        · have hno : cyOk ps xs k = false := by unfold cyOk; rw [HLn.out] at hfit; simp [hfit]
          have hfit' : (3000 : Int) < (ps ++ mvN ps.length xs [(k : Int)]).length := by omega
          generalize ps ++ mvN ps.length xs [(k : Int)] = LL at *
          generalize (mvAll ps.length xs (reachL xs [(k : Int)])).2.getD k 0 = y
          have HL : Hid (cyL ps xs k = ps) := by unfold Hid cyL; rw [hpp, hno]; rfl
          have HI : Hid (cyI ps xs k = -1) := by unfold Hid cyI; rw [hpp, hno]; rfl
          go_wp2_with fail
          refine (scopy_any _ ps _ (RP.below hBw6) (by omega)).mono ?_
          rintro e w9 ⟨v9, rfl, ho9, hb9⟩
          obtain ⟨a9, q9, rfl⟩ := own_form ho9
          have hz9 := (hb9.block _ hl6).trans hz6
          have cz9 : w9.cell? ⟨w.heap.size + 1 + 1, 0, none⟩ = some (.slice none 0 0) := by rw [cell_of_row w9 _ 0 _ _ _ hz9]; rfl
          have fz9 : w9.frozen? ⟨w.heap.size + 1 + 1, 0, none⟩ = false := frozen_of_row w9 _ 0 _ _ hz9
          have hB9 := hBw6.trans (hb9.mono hBw6.size)
          obtain ⟨p1, p2, p3⟩ := put_pool hz9 ho9 hB9 hl6 (by omega)
          clear hb9
          go_wp2
          refine bodyPost_ret (results_row_tmp rfl _ _ (w.heap.size + 1 + 1) 28 _ (0, 0) _ rfl p1 Try.underlying28 rfl Try.sizeP) rfl ⟨_, by rw [HI.out]; rfl, ?_, p3⟩
          rw [HL.out]
          exact p2
    · have hpq' : poolB xs = false := by simpa using hpq
      rw [hpq']
      have hno : cyOk ps xs v = false := by unfold cyOk; rw [hpq']; simp
      have HL : Hid (cyL ps xs v = ps) := by unfold Hid cyL; rw [hpp, hno]; rfl
      have HI : Hid (cyI ps xs v = -1) := by unfold Hid cyI; rw [hpp, hno]; rfl
      go_wp2_with fail
      refine (scopy_any _ ps _ (RP.below hB2) (by omega)).mono ?_
      rintro e w9 ⟨v9, rfl, ho9, hb9⟩
      obtain ⟨a9, q9, rfl⟩ := own_form ho9
      have hz9 := (hb9.block _ hl2).trans hz2
      have cz9 : w9.cell? ⟨w.heap.size + 1 + 1, 0, none⟩ = some (.slice none 0 0) := by rw [cell_of_row w9 _ 0 _ _ _ hz9]; rfl
      have fz9 : w9.frozen? ⟨w.heap.size + 1 + 1, 0, none⟩ = false := frozen_of_row w9 _ 0 _ _ hz9
      have hB9 := hB2.trans (hb9.mono hB2.size)
      obtain ⟨p1, p2, p3⟩ := put_pool hz9 ho9 hB9 hl2 (by omega)
      clear hb9
      go_wp2
      refine bodyPost_ret (results_row_tmp rfl _ _ (w.heap.size + 1 + 1) 28 _ (0, 0) _ rfl p1 Try.underlying28 rfl Try.sizeP) rfl ⟨_, by rw [HI.out]; rfl, ?_, p3⟩
      rw [HL.out]
      exact p2
  · have hpp' : poolB ps = false := by simpa using hpp
    rw [hpp']
    have HL : Hid (cyL ps xs v = []) := by unfold Hid cyL; rw [hpp']; rfl
    have HI : Hid (cyI ps xs v = -1) := by unfold Hid cyI; rw [hpp']; rfl
    obtain ⟨p1, p2, p3⟩ := put_pool (ao := none) (cap := 0) hz1 (World.ownsRow_nil _ (w.heap.size + 1 + 1 + 1) _ _) hB1 (by omega) (by omega)
    go_wp2
    refine bodyPost_ret (results_row_tmp rfl _ _ (w.heap.size + 1 + 1) 28 _ (0, 0) _ rfl p1 Try.underlying28 rfl Try.sizeP) rfl ⟨_, by rw [HI.out]; rfl, ?_, p3⟩
    rw [HL.out]
    exact p2
end Go.Proofs.Ytbdgdeoecnhcdab
