/-
  Contract of a window's hold. No condition but small numbers.
-/
import Derived.Test.YtgjebgdingahjaaWin
namespace Go.Proofs.Ytgjebgdingahjaa
open Go.RowKit Go.Maps

/-- What a window holds behind hold. -/
def hl (next below : Int) (p : Pc) (ps : List Pc) : List Pc := if next ≤ p.n ∧ p.n < below then holdL p ps else ps
theorem Asc.nums {ps : List Pc} (h : Asc ps) : (ps.map (·.n)).Pairwise (· < ·) := by
  rw [List.pairwise_map]
  exact h
set_option maxRecDepth 100000 in
set_option maxHeartbeats 400000 in
theorem whold_any (w : World) (B bw : Nat) (next below : Int) (v : Value) (mb n : Nat) (ns : List Int) (ps : List Pc) (p : Pc) (W : WS w B bw next below v mb n ns ps) (HN : Hid (ns = ps.map (·.n))) (ha : Asc ps) (hlen : ps.length ≤ 1000) (hn : n ≤ 1000) (h0 : 0 ≤ next) (hb : below ≤ 200000) (hB : B ≤ w.heap.size) :
    Calls Try.prog 15 #[.pointer (some ⟨bw, 0, none⟩), .int .i64 p.n, .agg #[.int .i64 p.n, .string p.s]] w fun e w' => e = .returned (.tuple #[]) ∧ Below B w w' ∧ ∃ v' n' ns', n' ≤ n + 1 ∧ Hid (ns' = (hl next below p ps).map (·.n)) ∧ WS w' B bw next below v' mb n' ns' (hl next below p ps) := by
  have hbw := W.lt
  have hbx := (heap_alloc_old w (Obj.cells #[.int .i64 p.n, .string p.s] 36) hbw).trans W.box
  have c0 := cell_of_row _ _ 0 _ _ _ hbx
  have c1 := cell_of_row _ _ 1 _ _ _ hbx
  have c2 := cell_of_row _ _ 2 _ _ _ hbx
  have hpx := heap_alloc_new w (Obj.cells #[.int .i64 p.n, .string p.s] 36)
  obtain ⟨ao, cap, rfl⟩ := own_form W.row
  have hrow := W.row.alloc (Obj.cells #[.int .i64 p.n, .string p.s] 36)
  have hlen' : ns.length ≤ 1000 := by rw [HN.out]; simp; omega
  have hasc : ns.Pairwise (· < ·) := by rw [HN.out]; exact ha.nums
  go_enter Try.func15, Try.ntmps15
  go_wp2_with fail
  refine (bs_any (.slice ao ns.length cap) ns p.n B (w.alloc (Obj.cells #[.int .i64 p.n, .string p.s] 36)) hrow (by omega) hasc).mono ?_
  rintro e w2 ⟨rfl, q, hq⟩
  have hb2 : Below (w.alloc (Obj.cells #[.int .i64 p.n, .string p.s] 36)).heap.size (w.alloc (Obj.cells #[.int .i64 p.n, .string p.s] 36)) w2 := by rw [hq]; exact below_dN _ _
  clear hq
  have hbw2 : w2.heap[bw]? = _ := (hb2.block _ (by simp; omega)).trans hbx
  have hp2 : w2.heap[w.heap.size]? = _ := (hb2.block _ (by simp)).trans hpx
  have hrow2 := own_below hrow hb2
  have hB2 : Below w.heap.size w w2 := ((Below.refl _ _).alloc (Nat.le_refl _) _).trans (hb2.mono (by simp))
  have WK := W.kept hB2
  have hsz2 : w.heap.size < w2.heap.size := (Array.getElem?_eq_some_iff.1 hp2).1
  clear hb2 hrow hpx hbx c0 c1 c2
  have c0 := cell_of_row _ _ 0 _ _ _ hbw2
  have c1 := cell_of_row _ _ 1 _ _ _ hbw2
  have c2 := cell_of_row _ _ 2 _ _ _ hbw2
  simp only [List.getElem?_toArray, List.getElem?_cons_zero, List.getElem?_cons_succ] at c0 c1 c2
  have stay : Hid (hl next below p ps = ps) → Below B w w2 ∧ ∃ v' n' ns', n' ≤ n + 1 ∧ Hid (ns' = (hl next below p ps).map (·.n)) ∧ WS w2 B bw next below v' mb n' ns' (hl next below p ps) := fun h => ⟨hB2.mono hB, _, n, ns, by omega, (by rw [h.out]; exact HN.out), by rw [h.out]; exact WK⟩
  cases hcon : ns.contains p.n with
  | true =>
    have hs : Hid (hl next below p ps = ps) := by
      unfold hl
      rw [HN.out] at hcon
      simp only [List.contains_eq_mem, List.mem_map, decide_eq_true_eq] at hcon
      obtain ⟨x, hx, he⟩ := hcon
      split
      · exact holdL_there ha hx he
      · rfl
    go_wp2
    refine bodyPost_ret (results_none0 rfl _ _) rfl ?_
    exact ⟨rfl, stay hs⟩
  | false =>
    by_cases h1 : p.n < next
    · have hs : Hid (hl next below p ps = ps) := by
        unfold hl
        rw [if_neg (by omega)]
        exact rfl
      go_wp2
      refine bodyPost_ret (results_none0 rfl _ _) rfl ?_
      exact ⟨rfl, stay hs⟩
    · by_cases h2 : below ≤ p.n
      · have hs : Hid (hl next below p ps = ps) := by
          unfold hl
          rw [if_neg (by omega)]
          exact rfl
        go_wp2
        refine bodyPost_ret (results_none0 rfl _ _) rfl ?_
        exact ⟨rfl, stay hs⟩
      · have HL : Hid (hl next below p ps = holdL p ps) := by
          unfold hl
          rw [if_pos (by omega)]
          exact rfl
        have hnew : ∀ x ∈ ps, x.n ≠ p.n := by
          intro x hx he
          rw [HN.out] at hcon
          simp only [List.contains_eq_mem, List.mem_map, decide_eq_false_iff_not] at hcon
          exact hcon ⟨x, hx, he⟩
        clear hcon stay
        obtain ⟨D, hD, hM⟩ := WK.map
        have hlob := WK.lob
        have hlom := WK.lom
        have hvb := heap_alloc_new w2 (Obj.cells #[.int .i64 p.n] 3)
        have hne : (Value.slice ao ns.length cap).ownBlock ≠ some w2.heap.size := fun e => by have := (hrow2.lt _ e).2; omega
        have hB1 := hB2.size
        go_wp2_with fail
        refine (ins_any (.slice ao ns.length cap) ns (ns.countP (· < p.n)) p.n B w2.heap.size (w2.alloc (Obj.cells #[.int .i64 p.n] 3)) (hrow2.alloc _) (by omega) List.countP_le_length hvb hne (by simp; omega)).mono ?_
        rintro e w3 ⟨v3, rfl, row3, g3⟩
        have hbw3 := (g3.block bw (by simp; omega) (fun e => own_ne hrow2 hbw2 (by decide) e.symm)).trans ((heap_alloc_old _ _ (by omega)).trans hbw2)
        have hp3 := (g3.block w.heap.size (by simp; omega) (fun e => own_ne hrow2 hp2 (by decide) e.symm)).trans ((heap_alloc_old _ _ hsz2).trans hp2)
        have hmo : some mb ≠ (Value.slice ao ns.length cap).ownBlock := by
          intro e
          rcases hrow2.2 with ⟨e1, _⟩ | ⟨g, c, cur, e1, _, hg, _⟩
          · rw [e1] at e
            cases e
          · rw [e1] at e
            cases e
            exact map_ne hD hg rfl
        have hD3 := (hD.alloc (Obj.cells #[.int .i64 p.n] 3)).kept g3 hmo
        have hB3 : Below B w w3 := ((hB2.mono hB).alloc (by omega) _).grown g3 (by simp; omega) (fun k hk => (hrow2.lt k hk).1)
        obtain ⟨a3, d3, rfl⟩ := own_form row3
        have hs3 := hB3.size
        clear hD hrow2 hbw2 hp2 WK W c0 c1 c2 hvb hne hmo g3 hB2
        have c2 := cell_of_row _ _ 2 _ _ _ hbw3
        simp only [List.getElem?_toArray, List.getElem?_cons_zero, List.getElem?_cons_succ] at c2
        have f2 := frozen_of_row w3 bw 2 _ _ hbw3
        have hbw4 := heap_setCell_same w3 bw 2 _ _ (.slice a3 (ns.length + 1) d3) hbw3
        have hpn : w.heap.size ≠ bw := by omega
        have hp4 := (heap_setCell_other w3 ⟨bw, 2, none⟩ w.heap.size (.slice a3 (ns.length + 1) d3) hpn).trans hp3
        have hD4 := hD3.setCell (a := ⟨bw, 2, none⟩) (map_ne hD3 hbw3) (.slice a3 (ns.length + 1) d3)
        have row4 := row3.kept (grown_set w3 bw 2 (.slice a3 (ns.length + 1) d3)) (Or.inr (own_ne row3 hbw3 (by decide)))
        have hB4 : Below B w (w3.setCell ⟨bw, 2, none⟩ (.slice a3 (ns.length + 1) d3)) := hB3.grown (grown_set w3 bw 2 _) (by omega) (fun k hk => by cases hk; exact hlob)
        have c3 := cell_of_row _ _ 3 _ _ _ hbw4
        have e0 := cell_of_row _ _ 0 _ _ _ hp4
        have e1 := cell_of_row _ _ 1 _ _ _ hp4
        simp at c3 e0 e1
        clear hbw3 hp3 hD3 row3 hB3
        have hkey := key_int (wf_small (n := p.n) (by omega) (by omega))
        have hnM : n < maxLen := by unfold maxLen; omega
        obtain ⟨w5, hrun, hD5, g5⟩ := hD4.drew.update Try.keyedInt Try.underlying47 hnM hkey (pcR_mk p.n p.s)
        have g5' : (w3.setCell ⟨bw, 2, none⟩ (.slice a3 (ns.length + 1) d3)).grownBy w5 (some mb) := ⟨g5.os, g5.tape, g5.output, g5.size, g5.block⟩
        have hbwm : bw ≠ mb := fun e => map_ne hD4 hbw4 e.symm
        have hs4 : (w3.setCell ⟨bw, 2, none⟩ (.slice a3 (ns.length + 1) d3)).heap.size = w3.heap.size := by simp [World.setCell]
        have hbw5 := (g5'.block bw (by omega) (fun e => hbwm (Option.some.inj e))).trans hbw4
        have hmo4 : (Value.slice a3 (ns.length + 1) d3).ownBlock ≠ some mb := by
          intro e
          rcases row4.2 with ⟨e1, _⟩ | ⟨g, c, cur, e1, _, hg, _⟩
          · rw [e1] at e
            cases e
          · rw [e1] at e
            cases e
            exact map_ne hD4 hg rfl
        have row5 := row4.kept g5' (Or.inr hmo4)
        have hB5 : Below B w w5 := hB4.grown g5' (by omega) (fun k hk => by cases hk; exact hlom)
        have hM5 : MapIs (D.put (.int .i64 p.n) (pcd ⟨p.n, p.s⟩)) (holdL p ps) := hM.put p hnew (holdL_mem_iff hnew)
        have HN5 : Hid (ns.take (ns.countP (· < p.n)) ++ p.n :: ns.drop (ns.countP (· < p.n)) = (holdL p ps).map (·.n)) := by
          rw [HN.out]
          exact (holdL_nums ha hnew).symm
        have hl5 : (ns.take (ns.countP (· < p.n)) ++ p.n :: ns.drop (ns.countP (· < p.n))).length = ns.length + 1 := by
          have := List.countP_le_length (p := (· < p.n)) (l := ns)
          simp
          omega
        have W5 : WS w5 B bw next below (.slice a3 (ns.length + 1) d3) mb (n + 1) (ns.take (ns.countP (· < p.n)) ++ p.n :: ns.drop (ns.countP (· < p.n))) (holdL p ps) := ⟨hbw5, by rw [hl5]; exact row5, ⟨_, hD5, hM5⟩, hlob, hlom⟩
        have fin : Below B w w5 ∧ ∃ v' n' ns', n' ≤ n + 1 ∧ Hid (ns' = (hl next below p ps).map (·.n)) ∧ WS w5 B bw next below v' mb n' ns' (hl next below p ps) := by
          rw [HL.out]
          exact ⟨hB5, _, _, _, Nat.le_refl _, HN5, W5⟩
        clear W5 hl5 HN5 hM5 hB5 row5 hmo4 hbw5 hs4 hbwm g5' g5 hD5 row4 hD4 hB4 hM hnew
        go_wp2_with fail
        go_region
        all_goals (refine bodyPost_end (results_none0 rfl _ _) rfl ?_; exact ⟨rfl, fin⟩)
end Go.Proofs.Ytgjebgdingahjaa
