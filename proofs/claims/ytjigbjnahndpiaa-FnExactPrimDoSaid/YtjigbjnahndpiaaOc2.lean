/-
  What two numbers come to, on impl's side: numberOutcome. Condition: both are numbers of a right pool.
-/
import Derived.Test.YtjigbjnahndpiaaOc1
namespace Go.Proofs.Ytjigbjnahndpiaa
open Go.RowKit

theorem new3 (w : World) (A B C : Obj) : (((w.alloc A).alloc B).alloc C).heap[w.heap.size + 1 + 1]? = some C := by
  have := heap_alloc_new ((w.alloc A).alloc B) C
  simpa using this
theorem below3 (w : World) (A B C : Obj) : Below w.heap.size w (((w.alloc A).alloc B).alloc C) := (below2 w A B).alloc (by simp; omega) _
theorem mul_small (a b : Int) (ha : -1000000000 ≤ a ∧ a ≤ 1000000000) (hb : -1000000000 ≤ b ∧ b ≤ 1000000000) : -1000000000000000000 ≤ a * b ∧ a * b ≤ 1000000000000000000 := by
  have h : (a * b).natAbs ≤ 1000000000 * 1000000000 := by
    rw [Int.natAbs_mul]
    exact Nat.mul_le_mul (by omega) (by omega)
  omega

set_option maxHeartbeats 3200000 in
theorem inumout_any (n : Int) (a b : Nd) (w : World) (ha : -1000000000 ≤ a.n ∧ a.n ≤ 1000000000) (hb : -1000000000 ≤ b.n ∧ b.n ≤ 1000000000) :
    Calls Try.prog 66 #[.int .i64 n, .agg #[.int .i64 a.k, .int .i64 a.n, .string a.s, .int .i64 a.a, .int .i64 a.b], .agg #[.int .i64 b.k, .int .i64 b.n, .string b.s, .int .i64 b.a, .int .i64 b.b]] w fun e w' => e = .returned (.agg (numOc n a b).cs) ∧ Below w.heap.size w w' := by
  by_cases h : a.k = 3
  · by_cases h' : b.k = 3
    · have hp := mul_small a.n b.n ha hb
      obtain ⟨ha1, ha2⟩ := ha
      obtain ⟨hb1, hb2⟩ := hb
      obtain ⟨hp1, hp2⟩ := hp
      have HR : Hid (numOc n a b = if n = 1 then intOc (a.n + b.n) else if n = 2 then intOc (a.n - b.n) else if n = 3 then intOc (a.n * b.n)
          else if n = 4 then ocMade (boolNd (decide (a.n < b.n))) else ocMade (boolNd (decide (a.n = b.n)))) := by unfold Hid numOc; simp [h, h']
      by_cases hn : n = 1
      · replace HR : Hid (numOc n a b = intOc (a.n + b.n)) := by unfold Hid; rw [HR.out]; simp [hn]
        subst hn
        go_enter Try.func66, Try.ntmps66
        go_wp2_with fail
        refine (imadeint_any (a.n + b.n) _).mono ?_
        rintro e w1 ⟨rfl, hb1⟩
        have hx1 := (hb1.block _ (by simp)).trans (new3 w _ _ (Obj.cells (ocOf 0).cs 61))
        go_wp2_with (refine wpList_store_own rfl 61 _ _ rfl (w.heap.size + 1 + 1) (intOc (a.n + b.n)).cs rfl rfl 61 _ hx1 Try.sizeOc rfl (Oc.one _) ?_)
        intro w2 hh2 hb2 hs2
        have hB2 : Below w.heap.size w w2 := ((below3 w _ _ _).trans (hb1.mono (by simp; omega))).trans (hb2.mono (by omega))
        go_wp2
        exact bodyPost_ret (results_cell_row rfl _ _ (w.heap.size + 1 + 1) 61 _ (0, 0) _ rfl hh2 Try.underlying61 rfl Try.sizeOc) rfl ⟨by rw [HR.out], hB2⟩
      · have hn1 := hn
        clear hn
        by_cases hn : n = 2
        · replace HR : Hid (numOc n a b = intOc (a.n - b.n)) := by unfold Hid; rw [HR.out]; simp [hn]
          subst hn
          go_enter Try.func66, Try.ntmps66
          go_wp2_with fail
          refine (imadeint_any (a.n - b.n) _).mono ?_
          rintro e w1 ⟨rfl, hb1⟩
          have hx1 := (hb1.block _ (by simp)).trans (new3 w _ _ (Obj.cells (ocOf 0).cs 61))
          go_wp2_with (refine wpList_store_own rfl 61 _ _ rfl (w.heap.size + 1 + 1) (intOc (a.n - b.n)).cs rfl rfl 61 _ hx1 Try.sizeOc rfl (Oc.one _) ?_)
          intro w2 hh2 hb2 hs2
          have hB2 : Below w.heap.size w w2 := ((below3 w _ _ _).trans (hb1.mono (by simp; omega))).trans (hb2.mono (by omega))
          go_wp2
          exact bodyPost_ret (results_cell_row rfl _ _ (w.heap.size + 1 + 1) 61 _ (0, 0) _ rfl hh2 Try.underlying61 rfl Try.sizeOc) rfl ⟨by rw [HR.out], hB2⟩
        · have hn2 := hn
          clear hn
          by_cases hn : n = 3
          · replace HR : Hid (numOc n a b = intOc (a.n * b.n)) := by unfold Hid; rw [HR.out]; simp [hn]
            subst hn
            go_enter Try.func66, Try.ntmps66
            go_wp2_with fail
            refine (imadeint_any (a.n * b.n) _).mono ?_
            rintro e w1 ⟨rfl, hb1⟩
            have hx1 := (hb1.block _ (by simp)).trans (new3 w _ _ (Obj.cells (ocOf 0).cs 61))
            go_wp2_with (refine wpList_store_own rfl 61 _ _ rfl (w.heap.size + 1 + 1) (intOc (a.n * b.n)).cs rfl rfl 61 _ hx1 Try.sizeOc rfl (Oc.one _) ?_)
            intro w2 hh2 hb2 hs2
            have hB2 : Below w.heap.size w w2 := ((below3 w _ _ _).trans (hb1.mono (by simp; omega))).trans (hb2.mono (by omega))
            go_wp2
            exact bodyPost_ret (results_cell_row rfl _ _ (w.heap.size + 1 + 1) 61 _ (0, 0) _ rfl hh2 Try.underlying61 rfl Try.sizeOc) rfl ⟨by rw [HR.out], hB2⟩
          · have hn3 := hn
            clear hn
            by_cases hn : n = 4
            · replace HR : Hid (numOc n a b = ocMade (boolNd (decide (a.n < b.n)))) := by unfold Hid; rw [HR.out]; simp [hn]
              subst hn
              go_enter Try.func66, Try.ntmps66
              go_wp2_with fail
              refine (imadebool_any (decide (a.n < b.n)) _).mono ?_
              rintro e w1 ⟨rfl, hb1⟩
              have hx1 := (hb1.block _ (by simp)).trans (new3 w _ _ (Obj.cells (ocOf 0).cs 61))
              go_wp2_with (refine wpList_store_own rfl 61 _ _ rfl (w.heap.size + 1 + 1) (ocMade (boolNd (decide (a.n < b.n)))).cs rfl rfl 61 _ hx1 Try.sizeOc rfl (Oc.one _) ?_)
              intro w2 hh2 hb2 hs2
              have hB2 : Below w.heap.size w w2 := ((below3 w _ _ _).trans (hb1.mono (by simp; omega))).trans (hb2.mono (by omega))
              go_wp2
              exact bodyPost_ret (results_cell_row rfl _ _ (w.heap.size + 1 + 1) 61 _ (0, 0) _ rfl hh2 Try.underlying61 rfl Try.sizeOc) rfl ⟨by rw [HR.out], hB2⟩
            · have hn4 := hn
              clear hn
              replace HR : Hid (numOc n a b = ocMade (boolNd (decide (a.n = b.n)))) := by unfold Hid; rw [HR.out]; simp [hn1, hn2, hn3, hn4]
              have q1 : (n == 1) = false := by simp; omega
              have r1 : decide (n = 1) = false := by simp; omega
              have q2 : (n == 2) = false := by simp; omega
              have r2 : decide (n = 2) = false := by simp; omega
              have q3 : (n == 3) = false := by simp; omega
              have r3 : decide (n = 3) = false := by simp; omega
              have q4 : (n == 4) = false := by simp; omega
              have r4 : decide (n = 4) = false := by simp; omega
              go_enter Try.func66, Try.ntmps66
              go_wp2_with fail
              refine (imadebool_any (decide (a.n = b.n)) _).mono ?_
              rintro e w1 ⟨rfl, hb1⟩
              have hx1 := (hb1.block _ (by simp)).trans (new3 w _ _ (Obj.cells (ocOf 0).cs 61))
              go_wp2_with (refine wpList_store_own rfl 61 _ _ rfl (w.heap.size + 1 + 1) (ocMade (boolNd (decide (a.n = b.n)))).cs rfl rfl 61 _ hx1 Try.sizeOc rfl (Oc.one _) ?_)
              intro w2 hh2 hb2 hs2
              have hB2 : Below w.heap.size w w2 := ((below3 w _ _ _).trans (hb1.mono (by simp; omega))).trans (hb2.mono (by omega))
              go_wp2
              exact bodyPost_ret (results_cell_row rfl _ _ (w.heap.size + 1 + 1) 61 _ (0, 0) _ rfl hh2 Try.underlying61 rfl Try.sizeOc) rfl ⟨by rw [HR.out], hB2⟩
    · have q1 : (b.k == 3) = false := by simp [h']
      have q2 : decide (b.k = 3) = false := by simp [h']
      have HR : Hid (numOc n a b = ocOf 3) := by unfold Hid numOc; simp [h, h']
      go_enter Try.func66, Try.ntmps66
      go_wp2_with (refine wpList_store_own rfl 61 _ _ rfl (w.heap.size + 1 + 1) (ocOf 3).cs rfl rfl 61 _ (new3 _ _ _ _) Try.sizeOc rfl (Oc.one _) ?_)
      intro w2 hh2 hb2 hs2
      have hB2 : Below w.heap.size w w2 := (below3 w _ _ _).trans (hb2.mono (by omega))
      go_wp2
      exact bodyPost_ret (results_cell_row rfl _ _ (w.heap.size + 1 + 1) 61 _ (0, 0) _ rfl hh2 Try.underlying61 rfl Try.sizeOc) rfl ⟨by rw [HR.out], hB2⟩
  · have q1 : (a.k == 3) = false := by simp [h]
    have q2 : decide (a.k = 3) = false := by simp [h]
    have HR : Hid (numOc n a b = ocOf 3) := by unfold Hid numOc; simp [h]
    go_enter Try.func66, Try.ntmps66
    go_wp2_with (refine wpList_store_own rfl 61 _ _ rfl (w.heap.size + 1 + 1) (ocOf 3).cs rfl rfl 61 _ (new3 _ _ _ _) Try.sizeOc rfl (Oc.one _) ?_)
    intro w2 hh2 hb2 hs2
    have hB2 : Below w.heap.size w w2 := (below3 w _ _ _).trans (hb2.mono (by omega))
    go_wp2
    exact bodyPost_ret (results_cell_row rfl _ _ (w.heap.size + 1 + 1) 61 _ (0, 0) _ rfl hh2 Try.underlying61 rfl Try.sizeOc) rfl ⟨by rw [HR.out], hB2⟩
end Go.Proofs.Ytjigbjnahndpiaa
