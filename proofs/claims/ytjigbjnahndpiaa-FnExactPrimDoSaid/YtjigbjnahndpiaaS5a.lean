/-
  What two numbers come to, and a truth value, on the specification's side: l5Number, l5Bool. Condition: both are numbers of a right pool.
-/
import Derived.Test.YtjigbjnahndpiaaOc2
import Derived.Test.YtjigbjnahndpiaaName
import Derived.Test.YtjigbjnahndpiaaShape
namespace Go.Proofs.Ytjigbjnahndpiaa
open Go.RowKit

def Nd.ca (x : Nd) : Array Value := #[.int .i64 x.k, .int .i64 x.n, .string x.s, .int .i64 x.a, .int .i64 x.b]
theorem Nd.ca_one (x : Nd) : x.ca.all (·.oneCell') = true := by simp [Nd.ca, Value.oneCell']

set_option maxHeartbeats 800000 in
theorem s5bool_any (b : Bool) (w : World) : Calls Try.prog 55 #[.bool b] w fun e w' => e = .returned (.agg (boolNd b).ca) ∧ Below w.heap.size w w' := by
  have hB0 : Below w.heap.size w (w.alloc (Obj.cells z0.ca 34)) := (Below.refl _ _).alloc (Nat.le_refl _) _
  cases b with
  | true =>
    go_enter Try.func55, Try.ntmps55
    go_wp2_with (refine wpList_store_own rfl 34 _ _ rfl w.heap.size (boolNd true).ca rfl rfl 34 _ (heap_alloc_new _ _) Try.sizeNd rfl (Nd.ca_one _) ?_)
    intro w2 hh2 hb2 hs2
    have hB2 : Below w.heap.size w w2 := hB0.trans hb2
    go_wp2
    exact bodyPost_ret (results_cell_row rfl _ _ w.heap.size 34 _ (0, 0) _ rfl hh2 Try.underlying34 rfl Try.sizeNd) rfl ⟨rfl, hB2⟩
  | false =>
    go_enter Try.func55, Try.ntmps55
    go_wp2_with (refine wpList_store_own rfl 34 _ _ rfl w.heap.size (boolNd false).ca rfl rfl 34 _ (heap_alloc_new _ _) Try.sizeNd rfl (Nd.ca_one _) ?_)
    intro w2 hh2 hb2 hs2
    have hB2 : Below w.heap.size w w2 := hB0.trans hb2
    go_wp2
    exact bodyPost_ret (results_cell_row rfl _ _ w.heap.size 34 _ (0, 0) _ rfl hh2 Try.underlying34 rfl Try.sizeNd) rfl ⟨rfl, hB2⟩

set_option maxHeartbeats 6400000 in
theorem s5num_any (n : Int) (a b : Nd) (w : World) (h1 : 1 ≤ n) (h5 : n ≤ 5) (ha : -1000000000 ≤ a.n ∧ a.n ≤ 1000000000) (hb : -1000000000 ≤ b.n ∧ b.n ≤ 1000000000) :
    Calls Try.prog 54 #[.int .i64 n, .agg #[.int .i64 a.k, .int .i64 a.n, .string a.s, .int .i64 a.a, .int .i64 a.b], .agg #[.int .i64 b.k, .int .i64 b.n, .string b.s, .int .i64 b.a, .int .i64 b.b]] w fun e w' => e = .returned (.tuple #[.agg (numOc n a b).nd.ca, .int .i64 (numOc n a b).how]) ∧ Below w.heap.size w w' := by
  by_cases h : a.k = 3
  · by_cases h' : b.k = 3
    · have hp := mul_small a.n b.n ha hb
      obtain ⟨ha1, ha2⟩ := ha
      obtain ⟨hb1, hb2⟩ := hb
      obtain ⟨hp1, hp2⟩ := hp
      have HR0 : Hid (numOc n a b = if n = 1 then intOc (a.n + b.n) else if n = 2 then intOc (a.n - b.n) else if n = 3 then intOc (a.n * b.n)
          else if n = 4 then ocMade (boolNd (decide (a.n < b.n))) else ocMade (boolNd (decide (a.n = b.n)))) := by unfold Hid numOc; simp [h, h']
      have hn : n = 1 ∨ n = 2 ∨ n = 3 ∨ n = 4 ∨ n = 5 := by omega
      clear h1 h5
      rcases hn with rfl | rfl | rfl | rfl | rfl
      · go_enter Try.func54, Try.ntmps54
        go_wp2_with fail
        refine (lin_any (a.n + b.n) (-1000000000) 1000000000 _).mono ?_
        rintro e w1 ⟨rfl, rfl⟩
        by_cases hr : a.n + b.n < -1000000000 ∨ 1000000000 < a.n + b.n
        · have HR : Hid (numOc 1 a b = ocOf 4) := by unfold Hid; rw [HR0.out]; simp only [intOc]; simp [hr]
          have hq : (decide (-1000000000 ≤ a.n + b.n) && decide (a.n + b.n ≤ 1000000000)) = false := by
            simp only [Bool.and_eq_false_iff, decide_eq_false_iff_not]; omega
          rw [hq]
          go_wp2_with (refine wpList_store_own rfl 34 _ _ rfl (w.heap.size + 1 + 1) z0.ca rfl rfl 34 _ (new3 _ _ _ _) Try.sizeNd rfl (Nd.ca_one _) ?_)
          intro w2 hh2 hb2 hs2
          have hB2 : Below w.heap.size w w2 := (below3 w _ _ _).trans (hb2.mono (by omega))
          go_wp2
          exact bodyPost_ret (results_row_tmp rfl _ _ (w.heap.size + 1 + 1) 34 _ (0, 0) _ rfl hh2 Try.underlying34 rfl Try.sizeNd) rfl ⟨by rw [HR.out]; rfl, hB2⟩
        · have HR : Hid (numOc 1 a b = ocMade ⟨3, a.n + b.n, ByteArray.empty, 0, 0⟩) := by unfold Hid; rw [HR0.out]; simp only [intOc]; simp [hr]
          have hq : (decide (-1000000000 ≤ a.n + b.n) && decide (a.n + b.n ≤ 1000000000)) = true := by
            simp only [Bool.and_eq_true, decide_eq_true_eq]; omega
          rw [hq]
          go_wp2_with (refine wpList_store_own rfl 34 _ _ rfl (w.heap.size + 1 + 1) (Nd.ca ⟨3, a.n + b.n, ByteArray.empty, 0, 0⟩) rfl rfl 34 _ (new3 _ _ _ _) Try.sizeNd rfl (Nd.ca_one _) ?_)
          intro w2 hh2 hb2 hs2
          have hB2 : Below w.heap.size w w2 := (below3 w _ _ _).trans (hb2.mono (by omega))
          go_wp2
          exact bodyPost_ret (results_row_tmp rfl _ _ (w.heap.size + 1 + 1) 34 _ (0, 0) _ rfl hh2 Try.underlying34 rfl Try.sizeNd) rfl ⟨by rw [HR.out]; rfl, hB2⟩
      · go_enter Try.func54, Try.ntmps54
        go_wp2_with fail
        refine (lin_any (a.n - b.n) (-1000000000) 1000000000 _).mono ?_
        rintro e w1 ⟨rfl, rfl⟩
        by_cases hr : a.n - b.n < -1000000000 ∨ 1000000000 < a.n - b.n
        · have HR : Hid (numOc 2 a b = ocOf 4) := by unfold Hid; rw [HR0.out]; simp only [intOc]; simp [hr]
          have hq : (decide (-1000000000 ≤ a.n - b.n) && decide (a.n - b.n ≤ 1000000000)) = false := by
            simp only [Bool.and_eq_false_iff, decide_eq_false_iff_not]; omega
          rw [hq]
          go_wp2_with (refine wpList_store_own rfl 34 _ _ rfl (w.heap.size + 1 + 1) z0.ca rfl rfl 34 _ (new3 _ _ _ _) Try.sizeNd rfl (Nd.ca_one _) ?_)
          intro w2 hh2 hb2 hs2
          have hB2 : Below w.heap.size w w2 := (below3 w _ _ _).trans (hb2.mono (by omega))
          go_wp2
          exact bodyPost_ret (results_row_tmp rfl _ _ (w.heap.size + 1 + 1) 34 _ (0, 0) _ rfl hh2 Try.underlying34 rfl Try.sizeNd) rfl ⟨by rw [HR.out]; rfl, hB2⟩
        · have HR : Hid (numOc 2 a b = ocMade ⟨3, a.n - b.n, ByteArray.empty, 0, 0⟩) := by unfold Hid; rw [HR0.out]; simp only [intOc]; simp [hr]
          have hq : (decide (-1000000000 ≤ a.n - b.n) && decide (a.n - b.n ≤ 1000000000)) = true := by
            simp only [Bool.and_eq_true, decide_eq_true_eq]; omega
          rw [hq]
          go_wp2_with (refine wpList_store_own rfl 34 _ _ rfl (w.heap.size + 1 + 1) (Nd.ca ⟨3, a.n - b.n, ByteArray.empty, 0, 0⟩) rfl rfl 34 _ (new3 _ _ _ _) Try.sizeNd rfl (Nd.ca_one _) ?_)
          intro w2 hh2 hb2 hs2
          have hB2 : Below w.heap.size w w2 := (below3 w _ _ _).trans (hb2.mono (by omega))
          go_wp2
          exact bodyPost_ret (results_row_tmp rfl _ _ (w.heap.size + 1 + 1) 34 _ (0, 0) _ rfl hh2 Try.underlying34 rfl Try.sizeNd) rfl ⟨by rw [HR.out]; rfl, hB2⟩
      · go_enter Try.func54, Try.ntmps54
        go_wp2_with fail
        refine (lin_any (a.n * b.n) (-1000000000) 1000000000 _).mono ?_
        rintro e w1 ⟨rfl, rfl⟩
        by_cases hr : a.n * b.n < -1000000000 ∨ 1000000000 < a.n * b.n
        · have HR : Hid (numOc 3 a b = ocOf 4) := by unfold Hid; rw [HR0.out]; simp only [intOc]; simp [hr]
          have hq : (decide (-1000000000 ≤ a.n * b.n) && decide (a.n * b.n ≤ 1000000000)) = false := by
            simp only [Bool.and_eq_false_iff, decide_eq_false_iff_not]; omega
          rw [hq]
          go_wp2_with (refine wpList_store_own rfl 34 _ _ rfl (w.heap.size + 1 + 1) z0.ca rfl rfl 34 _ (new3 _ _ _ _) Try.sizeNd rfl (Nd.ca_one _) ?_)
          intro w2 hh2 hb2 hs2
          have hB2 : Below w.heap.size w w2 := (below3 w _ _ _).trans (hb2.mono (by omega))
          go_wp2
          exact bodyPost_ret (results_row_tmp rfl _ _ (w.heap.size + 1 + 1) 34 _ (0, 0) _ rfl hh2 Try.underlying34 rfl Try.sizeNd) rfl ⟨by rw [HR.out]; rfl, hB2⟩
        · have HR : Hid (numOc 3 a b = ocMade ⟨3, a.n * b.n, ByteArray.empty, 0, 0⟩) := by unfold Hid; rw [HR0.out]; simp only [intOc]; simp [hr]
          have hq : (decide (-1000000000 ≤ a.n * b.n) && decide (a.n * b.n ≤ 1000000000)) = true := by
            simp only [Bool.and_eq_true, decide_eq_true_eq]; omega
          rw [hq]
          go_wp2_with (refine wpList_store_own rfl 34 _ _ rfl (w.heap.size + 1 + 1) (Nd.ca ⟨3, a.n * b.n, ByteArray.empty, 0, 0⟩) rfl rfl 34 _ (new3 _ _ _ _) Try.sizeNd rfl (Nd.ca_one _) ?_)
          intro w2 hh2 hb2 hs2
          have hB2 : Below w.heap.size w w2 := (below3 w _ _ _).trans (hb2.mono (by omega))
          go_wp2
          exact bodyPost_ret (results_row_tmp rfl _ _ (w.heap.size + 1 + 1) 34 _ (0, 0) _ rfl hh2 Try.underlying34 rfl Try.sizeNd) rfl ⟨by rw [HR.out]; rfl, hB2⟩
      · have HR : Hid (numOc 4 a b = ocMade (boolNd (decide (a.n < b.n)))) := by unfold Hid; rw [HR0.out]; simp
        go_enter Try.func54, Try.ntmps54
        go_wp2_with fail
        refine (s5bool_any (decide (a.n < b.n)) _).mono ?_
        rintro e w1 ⟨rfl, hb1⟩
        have hx1 := (hb1.block _ (by simp)).trans (new3 w _ _ (Obj.cells z0.ca 34))
        go_wp2_with (refine wpList_store_own rfl 34 _ _ rfl (w.heap.size + 1 + 1) (boolNd (decide (a.n < b.n))).ca rfl rfl 34 _ hx1 Try.sizeNd rfl (Nd.ca_one _) ?_)
        intro w2 hh2 hb2 hs2
        have hB2 : Below w.heap.size w w2 := ((below3 w _ _ _).trans (hb1.mono (by simp; omega))).trans (hb2.mono (by omega))
        go_wp2
        exact bodyPost_ret (results_row_tmp rfl _ _ (w.heap.size + 1 + 1) 34 _ (0, 0) _ rfl hh2 Try.underlying34 rfl Try.sizeNd) rfl ⟨by rw [HR.out]; rfl, hB2⟩
      · have HR : Hid (numOc 5 a b = ocMade (boolNd (decide (a.n = b.n)))) := by unfold Hid; rw [HR0.out]; simp
        go_enter Try.func54, Try.ntmps54
        go_wp2_with fail
        refine (s5bool_any (decide (a.n = b.n)) _).mono ?_
        rintro e w1 ⟨rfl, hb1⟩
        have hx1 := (hb1.block _ (by simp)).trans (new3 w _ _ (Obj.cells z0.ca 34))
        go_wp2_with (refine wpList_store_own rfl 34 _ _ rfl (w.heap.size + 1 + 1) (boolNd (decide (a.n = b.n))).ca rfl rfl 34 _ hx1 Try.sizeNd rfl (Nd.ca_one _) ?_)
        intro w2 hh2 hb2 hs2
        have hB2 : Below w.heap.size w w2 := ((below3 w _ _ _).trans (hb1.mono (by simp; omega))).trans (hb2.mono (by omega))
        go_wp2
        exact bodyPost_ret (results_row_tmp rfl _ _ (w.heap.size + 1 + 1) 34 _ (0, 0) _ rfl hh2 Try.underlying34 rfl Try.sizeNd) rfl ⟨by rw [HR.out]; rfl, hB2⟩
    · have q1 : (b.k == 3) = false := by simp [h']
      have q2 : decide (b.k = 3) = false := by simp [h']
      have HR : Hid (numOc n a b = ocOf 3) := by unfold Hid numOc; simp [h, h']
      go_enter Try.func54, Try.ntmps54
      go_wp2_with (refine wpList_store_own rfl 34 _ _ rfl (w.heap.size + 1 + 1) z0.ca rfl rfl 34 _ (new3 _ _ _ _) Try.sizeNd rfl (Nd.ca_one _) ?_)
      intro w2 hh2 hb2 hs2
      have hB2 : Below w.heap.size w w2 := (below3 w _ _ _).trans (hb2.mono (by omega))
      go_wp2
      exact bodyPost_ret (results_row_tmp rfl _ _ (w.heap.size + 1 + 1) 34 _ (0, 0) _ rfl hh2 Try.underlying34 rfl Try.sizeNd) rfl ⟨by rw [HR.out]; rfl, hB2⟩
  · have q1 : (a.k == 3) = false := by simp [h]
    have q2 : decide (a.k = 3) = false := by simp [h]
    have HR : Hid (numOc n a b = ocOf 3) := by unfold Hid numOc; simp [h]
    go_enter Try.func54, Try.ntmps54
    go_wp2_with (refine wpList_store_own rfl 34 _ _ rfl (w.heap.size + 1 + 1) z0.ca rfl rfl 34 _ (new3 _ _ _ _) Try.sizeNd rfl (Nd.ca_one _) ?_)
    intro w2 hh2 hb2 hs2
    have hB2 : Below w.heap.size w w2 := (below3 w _ _ _).trans (hb2.mono (by omega))
    go_wp2
    exact bodyPost_ret (results_row_tmp rfl _ _ (w.heap.size + 1 + 1) 34 _ (0, 0) _ rfl hh2 Try.underlying34 rfl Try.sizeNd) rfl ⟨by rw [HR.out]; rfl, hB2⟩
end Go.Proofs.Ytjigbjnahndpiaa
