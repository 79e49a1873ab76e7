/-
  Contracts of impl's nodeFits and PoolOk: when a node and a pool are right.
-/
import Derived.Test.YtmnmljmbicepjaaShape
namespace Go.Proofs.Ytmnmljmbicepjaa
open Go.RowKit

set_option maxHeartbeats 1600000 in
theorem nodefits_any (x : Nd) (n : Int) (w : World) (hs : x.s.size ≤ maxLen) :
    Calls Try.prog 66 #[.agg #[.int .i64 x.k, .int .i64 x.n, .string x.s, .int .i64 x.a, .int .i64 x.b], .int .i64 n] w fun e w' => e = .returned (.bool (nodeB x n)) ∧ Below w.heap.size w w' := by
  go_enter Try.func66, Try.ntmps66
  go_wp2_with fail
  have hb0 : Below w.heap.size w (w.alloc (Obj.cells #[.int .i64 x.k, .int .i64 x.n, .string x.s, .int .i64 x.a, .int .i64 x.b] 60)) := (Below.refl _ _).alloc (Nat.le_refl _) _
  refine (shapeof_any x.k _).mono ?_
  rintro e w1 ⟨rfl, hb1⟩
  have hbox := (hb1.block w.heap.size (by simp)).trans (heap_alloc_new _ _)
  have hcell : ∀ j, w1.cell? ⟨w.heap.size, j, none⟩ = #[Value.int .i64 x.k, .int .i64 x.n, .string x.s, .int .i64 x.a, .int .i64 x.b][j]? := fun j => cell_of_row w1 _ j _ _ _ hbox
  have c1 := hcell 1
  have c2 := hcell 2
  have c3 := hcell 3
  have c4 := hcell 4
  simp only [List.getElem?_toArray, List.getElem?_cons_succ, List.getElem?_cons_zero] at c1 c2 c3 c4
  have hbl : w.heap.size < w1.heap.size := (Array.getElem?_eq_some_iff.1 hbox).1
  have hB1 : Below w.heap.size w w1 := hb0.trans (hb1.mono (by simp))
  clear hcell hbox hb0 hb1
  by_cases hk : 1 ≤ x.k ∧ x.k ≤ 9
  · rw [shapeV, if_pos hk]
    by_cases h1 : lo x.k ≤ x.n ∧ x.n ≤ hi x.k
    · have HN : Hid (nodeB x n = (nameFB x.s (hasS x.k) && partB x.a (hasA x.k) n && partB x.b (hasB x.k) n)) := by
        unfold Hid nodeB; simp [hk, h1]
      obtain ⟨h1a, h1b⟩ := h1
      go_wp2_with fail
      refine (namefits_any _ _ _ hs).mono ?_
      rintro e w2 ⟨rfl, rfl⟩
      generalize hA : nameFB x.s (hasS x.k) = bA at HN ⊢
      clear hA
      cases bA with
      | false =>
        go_wp2
        go_ret
        exact ⟨by rw [HN.out]; rfl, hB1.alloc hB1.size _⟩
      | true =>
        go_wp2_with fail
        refine (partfits_any _ _ _ _).mono ?_
        rintro e w2 ⟨rfl, rfl⟩
        generalize hA : partB x.a (hasA x.k) n = bA at HN ⊢
        clear hA
        cases bA with
        | false =>
          go_wp2
          go_ret
          exact ⟨by rw [HN.out]; rfl, hB1.alloc hB1.size _⟩
        | true =>
          go_wp2_with fail
          refine (partfits_any _ _ _ _).mono ?_
          rintro e w2 ⟨rfl, rfl⟩
          go_wp2
          go_ret
          exact ⟨by rw [HN.out]; rfl, hB1.alloc hB1.size _⟩
    · have HN : Hid (nodeB x n = false) := by
        unfold Hid nodeB
        rw [Bool.eq_false_iff]
        intro h
        simp only [Bool.and_eq_true, decide_eq_true_eq] at h
        exact h1 ⟨h.1.1.2, h.1.2⟩
      go_wp2_with fail
      all_goals go_ret
      all_goals first | exact ⟨by rw [HN.out]; rfl, hB1.alloc hB1.size _⟩ | (exfalso; omega)
  · have HN : Hid (nodeB x n = false) := by
      unfold Hid nodeB
      rw [Bool.eq_false_iff]
      intro h
      simp only [Bool.and_eq_true, decide_eq_true_eq] at h
      exact hk h.1.1.1
    rw [shapeV, if_neg hk]
    go_wp2_with fail
    all_goals go_ret
    all_goals exact ⟨by rw [HN.out]; rfl, hB1.alloc hB1.size _⟩

set_option maxHeartbeats 1600000 in
theorem ipool_any (v : Value) (xs : List Nd) (w : World) (R : NRow w v xs) :
    Calls Try.prog 39 #[.agg #[v]] w fun e w' => e = .returned (.bool (poolB xs)) ∧ Below w.heap.size w w' := by
  have R' := R
  obtain ⟨ao, cap, rfl, hcap, hm, hz, hcell⟩ := R'
  by_cases hlen : xs.length ≤ 3000
  · have HP : Hid (poolB xs = nodesB (xs.drop 0) 0) := by unfold Hid poolB; simp [hlen]
    go_enter Try.func39, Try.ntmps39
    go_wp2_with fail
    go_loopw [12] (fun i wr => ∃ k : Nat, k ≤ xs.length ∧ i = .int .i64 k ∧ Hid (poolB xs = nodesB (xs.drop k) k) ∧ Below w.heap.size w wr) (fun i _ => xs.length - (intOf i).toNat)
    case atStart => exact ⟨0, by omega, rfl, HP.out, (Below.refl _ _).alloc (Nat.le_refl _) _⟩
    case round =>
      clear HP
      obtain ⟨k, hk, rfl, HP, hb⟩ := hrel
      by_cases hlt : k < xs.length
      · obtain ⟨g, o, rfl, hg, hcell⟩ := hcell (by intro e; subst e; simp at hlt)
        obtain ⟨x, hx⟩ : ∃ x, xs[k]? = some x := ⟨xs[k], by simp [hlt]⟩
        obtain ⟨c0, c1, c2, c3, c4⟩ := (hcell k x hx).below hb hg
        have HS : Hid (nodesB (xs.drop k) k = (nodeB x k && nodesB (xs.drop (k + 1)) (k + 1))) := nodesB_drop xs k x hx
        have hxs := hz x (List.mem_of_getElem? hx)
        clear hcell hx
        go_wp2_with fail
        refine (nodefits_any x _ _ hxs).mono ?_
        rintro e w2 ⟨rfl, hb2⟩
        have hB : Below w.heap.size w w2 := (hb.alloc hb.size _).trans (hb2.mono (by have := hb.size; simp; omega))
        clear c0 c1 c2 c3 c4 hb2
        have HN : Hid (poolB xs = (nodeB x k && nodesB (xs.drop (k + 1)) (k + 1))) := by unfold Hid; rw [HP.out, HS.out]
        clear HS HP
        generalize hA : nodeB x k = bA at HN ⊢
        clear hA
        cases bA with
        | false =>
          go_wp2
          go_ret
          exact ⟨by rw [HN.out]; rfl, hB⟩
        | true =>
          go_wp2
          go_roundw
          case rel => exact ⟨k + 1, by omega, by go_num, HN.out, hB⟩
          case measure => simp [intOf]; omega
      · have e : k = xs.length := by omega
        subst e
        have HT : Hid (poolB xs = true) := by unfold Hid; rw [HP.out, List.drop_length]; rfl
        clear HP
        go_wp2
        go_ret
        exact ⟨by rw [HT.out]; rfl, hb⟩
  · have HP : Hid (poolB xs = false) := by unfold Hid poolB; simp [hlen]
    go_enter Try.func39, Try.ntmps39
    go_wp2_with fail
    go_ret
    exact ⟨by rw [HP.out]; rfl, (Below.refl _ _).alloc (Nat.le_refl _) _⟩
end Go.Proofs.Ytmnmljmbicepjaa
