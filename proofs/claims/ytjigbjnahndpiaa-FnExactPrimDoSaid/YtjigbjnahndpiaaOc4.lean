/-
  What values come to, on impl's side: innerOutcome whole, and outcomeOf. Conditions: a right pool, as many nodes of it as are taken.
-/
import Derived.Test.YtjigbjnahndpiaaOc3a1
import Derived.Test.YtjigbjnahndpiaaOc3a2
import Derived.Test.YtjigbjnahndpiaaOc3a3
import Derived.Test.YtjigbjnahndpiaaOc3a4
import Derived.Test.YtjigbjnahndpiaaOc3a5
import Derived.Test.YtjigbjnahndpiaaOc3b
import Derived.Test.YtjigbjnahndpiaaOc3c
namespace Go.Proofs.Ytjigbjnahndpiaa
open Go.RowKit

theorem iinner_any (v vl : Value) (xs : List Nd) (zs : List Int) (n : Int) (w : World) (R : NRow w v xs) (L : IRow w vl zs) (hp : poolB xs = true) (ha : allI xs zs = true) (h1 : 1 ≤ n) (h2 : n ≤ 12) (hl : (zs.length : Int) = primArgsR n) :
    Calls Try.prog 52 #[.agg #[v], .int .i64 n, vl] w fun e w' => e = .returned (.agg (innerOc xs n zs).cs) ∧ Below w.heap.size w w' := by
  have : n = 1 ∨ n = 2 ∨ n = 3 ∨ n = 4 ∨ n = 5 ∨ n = 6 ∨ n = 7 ∨ n = 8 ∨ n = 9 ∨ n = 10 ∨ n = 11 ∨ n = 12 := by omega
  rcases this with h | h | h | h | h | h | h | h | h | h | h | h
  · subst h; exact iinner_num1 v vl xs zs w R L hp ha hl
  · subst h; exact iinner_num2 v vl xs zs w R L hp ha hl
  · subst h; exact iinner_num3 v vl xs zs w R L hp ha hl
  · subst h; exact iinner_num4 v vl xs zs w R L hp ha hl
  · subst h; exact iinner_num5 v vl xs zs w R L hp ha hl
  · exact iinner_two v vl xs zs n w R L hp ha (Or.inl h) hl
  · exact iinner_one v vl xs zs n w R L hp ha (Or.inl h) hl
  · exact iinner_one v vl xs zs n w R L hp ha (Or.inr (Or.inl h)) hl
  · exact iinner_one v vl xs zs n w R L hp ha (Or.inr (Or.inr (Or.inl h))) hl
  · exact iinner_one v vl xs zs n w R L hp ha (Or.inr (Or.inr (Or.inr (Or.inl h)))) hl
  · exact iinner_two v vl xs zs n w R L hp ha (Or.inr h) hl
  · exact iinner_one v vl xs zs n w R L hp ha (Or.inr (Or.inr (Or.inr (Or.inr h)))) hl

/-- What PrimDo comes to of a right pool and as many nodes of it as are taken. -/
noncomputable def outOc (xs : List Nd) (n : Int) (zs : List Int) : Oc :=
  if 12 < n then ocOf 2 else if (innerOc xs n zs).how = 0 ∧ (innerOc xs n zs).there = -1 ∧ xs.length = 3000 then ocOf 5 else innerOc xs n zs

set_option maxRecDepth 100000 in
set_option maxHeartbeats 3200000 in
theorem ioutof_any (v vl : Value) (xs : List Nd) (zs : List Int) (n : Int) (w : World) (R : NRow w v xs) (L : IRow w vl zs) (hp : poolB xs = true) (ha : allI xs zs = true) (h1 : 1 ≤ n) (hl : (zs.length : Int) = primArgsR n) :
    Calls Try.prog 32 #[.agg #[v], .int .i64 n, vl] w fun e w' => e = .returned (.agg (outOc xs n zs).cs) ∧ Below w.heap.size w w' := by
  have R' := R
  obtain ⟨ao, cap, rfl, hcap, hm, hz, hcell⟩ := R'
  have L' := L
  obtain ⟨al, capl, rfl, hcapl, hml, hcelll⟩ := L'
  clear hcell hcelll
  have hB0 : Below w.heap.size w ((w.alloc (Obj.cells #[.slice ao xs.length cap] 26)).alloc (Obj.cells #[.int .i64 0, .int .i64 0, .int .i64 0, .string ⟨#[]⟩, .int .i64 0, .int .i64 0, .int .i64 0] 61)) := below2 _ _ _
  by_cases h2 : n ≤ 12
  · have h2' : ¬ 12 < n := by omega
    go_enter Try.func32, Try.ntmps32
    go_wp2_with fail
    refine (iinner_any _ _ xs zs n _ (R.below hB0) (L.below hB0) hp ha h1 h2 hl).mono ?_
    rintro e w1 ⟨rfl, hb1⟩
    have HO : Hid (outOc xs n zs = if (innerOc xs n zs).how = 0 ∧ (innerOc xs n zs).there = -1 ∧ xs.length = 3000 then ocOf 5 else innerOc xs n zs) := by unfold Hid outOc; rw [if_neg (show ¬ 12 < n by omega)]
    generalize innerOc xs n zs = oc at HO ⊢
    have hp1 := (hb1.block _ (by simp; omega)).trans (old2 w (Obj.cells #[.slice ao xs.length cap] 26) (Obj.cells #[.int .i64 0, .int .i64 0, .int .i64 0, .string ⟨#[]⟩, .int .i64 0, .int .i64 0, .int .i64 0] 61))
    have hr1 := (hb1.block _ (by simp)).trans (heap_alloc2_new w (Obj.cells #[.slice ao xs.length cap] 26) (Obj.cells #[.int .i64 0, .int .i64 0, .int .i64 0, .string ⟨#[]⟩, .int .i64 0, .int .i64 0, .int .i64 0] 61))
    have hB1 := hB0.trans (hb1.mono hB0.size)
    have hsr := (Array.getElem?_eq_some_iff.1 hr1).1
    have hsp := (Array.getElem?_eq_some_iff.1 hp1).1
    clear hb1 hB0
    go_wp2_with (refine wpList_store_own rfl 61 _ _ rfl w1.heap.size oc.cs rfl rfl 61 _ (heap_alloc_new _ _) Try.sizeOc rfl (Oc.one _) ?_)
    intro w2 hh2 hb2 hs2
    have hb2' : Below w1.heap.size w1 w2 := ((Below.refl _ _).alloc (Nat.le_refl _) _).trans hb2
    have hB2 := hB1.trans (hb2'.mono hB1.size)
    have hr2 := (hb2'.block _ hsr).trans hr1
    have hp2 := (hb2'.block _ hsp).trans hp1
    have c0 : w2.cell? ⟨w1.heap.size, 0, none⟩ = some (.int .i64 oc.how) := by rw [cell_of_row w2 _ 0 _ _ _ hh2]; rfl
    have c6 : w2.cell? ⟨w1.heap.size, 0 + 6, none⟩ = some (.int .i64 oc.there) := by rw [cell_of_row w2 _ 6 _ _ _ hh2]; rfl
    have cp : w2.cell? ⟨w.heap.size, 0, none⟩ = some (.slice ao xs.length cap) := by rw [cell_of_row w2 _ 0 _ _ _ hp2]; rfl
    clear hb2 hb2' hs2 hB1 hr1 hp1
    by_cases h3 : oc.how = 0 ∧ oc.there = -1 ∧ xs.length = 3000
    · have HR : Hid (outOc xs n zs = ocOf 5) := by unfold Hid; rw [HO.out, if_pos h3]
      obtain ⟨e1, e2, e3⟩ := h3
      rw [e1] at c0
      rw [e2] at c6
      have e3' : (xs.length : Int) = 3000 := by omega
      go_wp2_with (refine wpList_store_own rfl 61 _ _ rfl (w.heap.size + 1) (ocOf 5).cs rfl rfl 61 _ hr2 Try.sizeOc rfl (Oc.one _) ?_)
      intro w3 hh3 hb3 hs3
      have hB3 : Below w.heap.size w w3 := hB2.trans (hb3.mono (by omega))
      go_wp2
      exact bodyPost_ret (results_cell_row rfl _ _ (w.heap.size + 1) 61 _ (0, 0) _ rfl hh3 Try.underlying61 rfl Try.sizeOc) rfl ⟨by rw [HR.out], hB3⟩
    · have HR : Hid (outOc xs n zs = oc) := by unfold Hid; rw [HO.out, if_neg h3]
      by_cases e1 : oc.how = 0
      · rw [e1] at c0
        by_cases e2 : oc.there = -1
        · rw [e2] at c6
          have e3 : ¬ (xs.length : Int) = 3000 := fun h => h3 ⟨e1, e2, by omega⟩
          have q1 : decide ((xs.length : Int) = 3000) = false := by simp [e3]
          have q2 : ((xs.length : Int) == 3000) = false := by simp [e3]
          go_wp2_with (first
            | (refine wpList_load_row rfl 61 _ rfl w1.heap.size rfl 61 oc.cs (0, 0) _ hh2 Try.underlying61 rfl Try.sizeOc ?_)
            | (refine wpList_store_own rfl 61 _ _ rfl (w.heap.size + 1) oc.cs rfl rfl 61 _ hr2 Try.sizeOc rfl (Oc.one _) ?_))
          intro w3 hh3 hb3 hs3
          have hB3 : Below w.heap.size w w3 := hB2.trans (hb3.mono (by omega))
          go_wp2
          exact bodyPost_ret (results_cell_row rfl _ _ (w.heap.size + 1) 61 _ (0, 0) _ rfl hh3 Try.underlying61 rfl Try.sizeOc) rfl ⟨by rw [HR.out], hB3⟩
        · have q1 : decide (oc.there = -1) = false := by simp [e2]
          have q2 : (oc.there == -1) = false := by simp [e2]
          go_wp2_with (first
            | (refine wpList_load_row rfl 61 _ rfl w1.heap.size rfl 61 oc.cs (0, 0) _ hh2 Try.underlying61 rfl Try.sizeOc ?_)
            | (refine wpList_store_own rfl 61 _ _ rfl (w.heap.size + 1) oc.cs rfl rfl 61 _ hr2 Try.sizeOc rfl (Oc.one _) ?_))
          intro w3 hh3 hb3 hs3
          have hB3 : Below w.heap.size w w3 := hB2.trans (hb3.mono (by omega))
          go_wp2
          exact bodyPost_ret (results_cell_row rfl _ _ (w.heap.size + 1) 61 _ (0, 0) _ rfl hh3 Try.underlying61 rfl Try.sizeOc) rfl ⟨by rw [HR.out], hB3⟩
      · have q1 : decide (oc.how = 0) = false := by simp [e1]
        have q2 : (oc.how == 0) = false := by simp [e1]
        go_wp2_with (first
          | (refine wpList_load_row rfl 61 _ rfl w1.heap.size rfl 61 oc.cs (0, 0) _ hh2 Try.underlying61 rfl Try.sizeOc ?_)
          | (refine wpList_store_own rfl 61 _ _ rfl (w.heap.size + 1) oc.cs rfl rfl 61 _ hr2 Try.sizeOc rfl (Oc.one _) ?_))
        intro w3 hh3 hb3 hs3
        have hB3 : Below w.heap.size w w3 := hB2.trans (hb3.mono (by omega))
        go_wp2
        exact bodyPost_ret (results_cell_row rfl _ _ (w.heap.size + 1) 61 _ (0, 0) _ rfl hh3 Try.underlying61 rfl Try.sizeOc) rfl ⟨by rw [HR.out], hB3⟩
  · have h2' : 12 < n := by omega
    have HR : Hid (outOc xs n zs = ocOf 2) := by unfold Hid outOc; rw [if_pos h2']
    go_enter Try.func32, Try.ntmps32
    go_wp2_with (refine wpList_store_own rfl 61 _ _ rfl (w.heap.size + 1) (ocOf 2).cs rfl rfl 61 _ (heap_alloc2_new _ _ _) Try.sizeOc rfl (Oc.one _) ?_)
    intro w3 hh3 hb3 hs3
    have hB3 : Below w.heap.size w w3 := hB0.trans (hb3.mono (by omega))
    go_wp2
    exact bodyPost_ret (results_cell_row rfl _ _ (w.heap.size + 1) 61 _ (0, 0) _ rfl hh3 Try.underlying61 rfl Try.sizeOc) rfl ⟨by rw [HR.out], hB3⟩
end Go.Proofs.Ytjigbjnahndpiaa
