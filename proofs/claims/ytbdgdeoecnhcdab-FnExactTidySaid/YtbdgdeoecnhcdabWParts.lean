/-
  Contract of impl's withParts: a node with its parts where they are told to be. Conditions: the node's kind is one, its parts are told of.
-/
import Derived.Test.YtbdgdeoecnhcdabShape
import Derived.Test.YtbdgdeoecnhcdabGrow
import Derived.Test.YtbdgdeoecnhcdabSizeI
import Derived.Test.YtbdgdeoecnhcdabCls
namespace Go.Proofs.Ytbdgdeoecnhcdab
open Go.RowKit

theorem Try.sizeNW : (Try.prog.info? 70).map (·.size) = some 5 := by kernel_rfl

set_option maxRecDepth 100000 in
set_option maxHeartbeats 1600000 in
theorem withparts_any (x : Nd) (B n : Nat) (l : List Int) (w : World) (hkd : 1 ≤ x.k ∧ x.k ≤ 9) (hA : hasA x.k = true → 0 ≤ x.a ∧ x.a < n) (hB : hasB x.k = true → 0 ≤ x.b ∧ x.b < n) (hl : ∀ i, i < n → w.cell? ⟨B, i, none⟩ = some (.int .i64 (l.getD i 0))) (hBw : B < w.heap.size) :
    Calls Try.prog 47 #[.agg #[.int .i64 x.k, .int .i64 x.n, .string x.s, .int .i64 x.a, .int .i64 x.b], .slice (some ⟨B, 0, none⟩) n n] w fun e w' => e = .returned (.agg #[.int .i64 x.k, .int .i64 x.n, .string x.s, .int .i64 (nrm l x).a, .int .i64 (nrm l x).b]) ∧ Below w.heap.size w w' := by
  go_enter Try.func47, Try.ntmps47
  go_wp2_with fail
  refine (shapeof_any x.k _).mono ?_
  rintro e w4 ⟨rfl, hb4⟩
  rw [shapeV, if_pos hkd]
  have hbox := (hb4.block w.heap.size (by simp; omega)).trans (old2 _ _ _)
  have hres := (hb4.block (w.heap.size + 1) (by simp)).trans (heap_alloc2_new _ _ _)
  have hB4 : Below w.heap.size w w4 := (below2 w _ _).trans (hb4.mono (by simp; omega))
  have hw4 : w.heap.size + 1 < w4.heap.size := (Array.getElem?_eq_some_iff.1 hres).1
  have hcellN : ∀ j, w4.cell? ⟨w.heap.size, j, none⟩ = #[Value.int .i64 x.k, .int .i64 x.n, .string x.s, .int .i64 x.a, .int .i64 x.b][j]? := fun j => cell_of_row w4 _ j _ _ _ hbox
  have hfrN : ∀ j, w4.frozen? ⟨w.heap.size, j, none⟩ = false := fun j => frozen_of_row w4 _ j _ _ hbox
  have d0 := hcellN 0
  have d1 := hcellN 1
  have d2 := hcellN 2
  have d3 := hcellN 3
  have d4 := hcellN 4
  simp only [List.getElem?_toArray, List.getElem?_cons_succ, List.getElem?_cons_zero] at d0 d1 d2 d3 d4
  have f3 := hfrN 3
  have f4 := hfrN 4
  have hne : w.heap.size ≠ w.heap.size + 1 := by omega
  have hw5 : w.heap.size < w4.heap.size := by omega
  have hBw5 : B < w4.heap.size := by omega
  have hneB : B ≠ w.heap.size := by omega
  have hl4 : ∀ i, i < n → w4.cell? ⟨B, i, none⟩ = some (.int .i64 (l.getD i 0)) := fun i hi => (hB4.cell (p := ⟨B, i, none⟩) hBw).trans (hl i hi)
  clear hcellN hfrN hb4 hl
  cases hAb : hasA x.k with
  | false =>
    have hBb : hasB x.k = false := by
      unfold hasA at hAb; unfold hasB
      simp only [decide_eq_false_iff_not] at hAb ⊢
      omega
    have HN : Hid ((nrm l x).a = x.a ∧ (nrm l x).b = x.b) := by unfold Hid nrm; rw [hAb, hBb]; exact ⟨rfl, rfl⟩
    rw [hBb]
    clear hA hB hl4
    go_wp2_with (refine wpList_store_own rfl 70 _ _ rfl (w.heap.size + 1) #[.int .i64 x.k, .int .i64 x.n, .string x.s, .int .i64 x.a, .int .i64 x.b] rfl rfl 70 _ ((heap_alloc_old _ _ hw4).trans hres) Try.sizeNW rfl (by simp [Value.oneCell']) ?_)
    intro w6 hh6 hb6 hs6
    have hB6 : Below w.heap.size w w6 := (hB4.alloc hB4.size _).trans (hb6.mono (by omega))
    go_wp2
    exact bodyPost_ret (results_cell_row rfl _ _ (w.heap.size + 1) 70 _ (0, 0) _ rfl hh6 Try.underlying70 rfl Try.sizeNW) rfl ⟨by rw [HN.out.1, HN.out.2], hB6⟩
  | true => 
    obtain ⟨ha1, ha2⟩ := hA hAb
    obtain ⟨na, hna⟩ := Int.eq_ofNat_of_zero_le ha1
    have HA : Hid ((nrm l x).a = l.getD na 0) := by unfold Hid nrm; rw [hAb, hna]; rfl
    rw [hna] at d3 ha2
    have ea := hl4 na (by omega)
    generalize l.getD na 0 = fa at ea HA
    cases hBb : hasB x.k with
    | false => 
      have hres1 := (Below.heap_setCell w4 ⟨w.heap.size, 3, none⟩ (.int .i64 fa) (w.heap.size + 1) (by simp)).trans hres
      have hB41 := hB4.setCell (p := ⟨w.heap.size, 3, none⟩) (by simp) (.int .i64 fa)
      have HB : Hid ((nrm l x).b = x.b) := by unfold Hid nrm; rw [hBb]; rfl
      clear hA hB hl4
      go_wp2_with (refine wpList_store_own rfl 70 _ _ rfl (w.heap.size + 1) #[.int .i64 x.k, .int .i64 x.n, .string x.s, .int .i64 fa, .int .i64 x.b] rfl rfl 70 _ ((heap_alloc_old _ _ (by simpa using hw4)).trans hres1) Try.sizeNW rfl (by simp [Value.oneCell']) ?_)
      intro w6 hh6 hb6 hs6
      have hB6 : Below w.heap.size w w6 := (hB41.alloc (by simpa using hB4.size) _).trans (hb6.mono (by omega))
      go_wp2
      exact bodyPost_ret (results_cell_row rfl _ _ (w.heap.size + 1) 70 _ (0, 0) _ rfl hh6 Try.underlying70 rfl Try.sizeNW) rfl ⟨by rw [HA.out, HB.out], hB6⟩
    | true => 
      obtain ⟨hb1, hb2⟩ := hB hBb
      obtain ⟨nb', hnb⟩ := Int.eq_ofNat_of_zero_le hb1
      have HB : Hid ((nrm l x).b = l.getD nb' 0) := by unfold Hid nrm; rw [hBb, hnb]; rfl
      rw [hnb] at d4 hb2
      have eb := hl4 nb' (by omega)
      generalize l.getD nb' 0 = fb at eb HB
      have hres1 := (Below.heap_setCell w4 ⟨w.heap.size, 3, none⟩ (.int .i64 fa) (w.heap.size + 1) (by simp)).trans hres
      have hres2 := (Below.heap_setCell (w4.setCell ⟨w.heap.size, 3, none⟩ (.int .i64 fa)) ⟨w.heap.size, 4, none⟩ (.int .i64 fb) (w.heap.size + 1) (by simp)).trans hres1
      have hB42 := (hB4.setCell (p := ⟨w.heap.size, 3, none⟩) (by simp) (.int .i64 fa)).setCell (p := ⟨w.heap.size, 4, none⟩) (by simp) (.int .i64 fb)
      clear hres1
      clear hA hB hl4
      go_wp2_with (refine wpList_store_own rfl 70 _ _ rfl (w.heap.size + 1) #[.int .i64 x.k, .int .i64 x.n, .string x.s, .int .i64 fa, .int .i64 fb] rfl rfl 70 _ ((heap_alloc_old _ _ (by simpa using hw4)).trans hres2) Try.sizeNW rfl (by simp [Value.oneCell']) ?_)
      intro w6 hh6 hb6 hs6
      have hB6 : Below w.heap.size w w6 := (hB42.alloc (by simpa using hB4.size) _).trans (hb6.mono (by omega))
      go_wp2
      exact bodyPost_ret (results_cell_row rfl _ _ (w.heap.size + 1) 70 _ (0, 0) _ rfl hh6 Try.underlying70 rfl Try.sizeNW) rfl ⟨by rw [HA.out, HB.out], hB6⟩

end Go.Proofs.Ytbdgdeoecnhcdab
