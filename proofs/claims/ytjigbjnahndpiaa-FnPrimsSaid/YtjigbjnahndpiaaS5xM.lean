/-
  Texts that stood by themselves, laid into one.
-/
import Derived.Test.YtjigbjnahndpiaaISameM
import Derived.Test.YtjigbjnahndpiaaNameM
import Derived.Test.YtjigbjnahndpiaaISizeM
import Derived.Test.YtjigbjnahndpiaaOc3a1M
import Derived.Test.YtjigbjnahndpiaaSAddM
import Derived.Deep.RegionHeld
/-
  What two numbers come to, and a truth value, on the specification's side: l5Number, l5Bool. Condition: both are numbers of a right pool.
-/
namespace Go.Proofs.Ytjigbjnahndpiaa
open Go.RowKit

def Nd.ca (x : Nd) : Array Value := #[.int .i64 x.k, .int .i64 x.n, .string x.s, .int .i64 x.a, .int .i64 x.b]
theorem Nd.ca_one (x : Nd) : x.ca.all (·.oneCell') = true := by simp [Nd.ca, Value.oneCell']

set_option maxHeartbeats 800000 in
theorem s5bool_any (b : Bool) (w : World) : Calls Try.prog 55 #[.bool b] w fun e w' => e = .returned (.agg (boolNd b).ca) ∧ Below w.heap.size w w' := by
  have hB0 : Below w.heap.size w (w.alloc (Obj.cells z0.ca 34)) := (Below.refl _ _).alloc (Nat.le_refl _) _
  cases b with
  | true =>
    go_enter Try.func55, Try.ntmps55
    go_wp2_with (refine wpList_store_own rfl 34 _ _ rfl w.heap.size (boolNd true).ca rfl rfl 34 _ (heap_alloc_new _ _) Try.sizeNd rfl (Nd.ca_one _) ?_)
    intro w2 hh2 hb2 hs2
    have hB2 : Below w.heap.size w w2 := hB0.trans hb2
    go_wp2
    exact bodyPost_ret (results_cell_row rfl _ _ w.heap.size 34 _ (0, 0) _ rfl hh2 Try.underlying34 rfl Try.sizeNd) rfl ⟨rfl, hB2⟩
  | false =>
    go_enter Try.func55, Try.ntmps55
    go_wp2_with (refine wpList_store_own rfl 34 _ _ rfl w.heap.size (boolNd false).ca rfl rfl 34 _ (heap_alloc_new _ _) Try.sizeNd rfl (Nd.ca_one _) ?_)
    intro w2 hh2 hb2 hs2
    have hB2 : Below w.heap.size w w2 := hB0.trans hb2
    go_wp2
    exact bodyPost_ret (results_cell_row rfl _ _ w.heap.size 34 _ (0, 0) _ rfl hh2 Try.underlying34 rfl Try.sizeNd) rfl ⟨rfl, hB2⟩

set_option maxHeartbeats 6400000 in
theorem s5num_any (n : Int) (a b : Nd) (w : World) (h1 : 1 ≤ n) (h5 : n ≤ 5) (ha : -1000000000 ≤ a.n ∧ a.n ≤ 1000000000) (hb : -1000000000 ≤ b.n ∧ b.n ≤ 1000000000) :
    Calls Try.prog 54 #[.int .i64 n, .agg #[.int .i64 a.k, .int .i64 a.n, .string a.s, .int .i64 a.a, .int .i64 a.b], .agg #[.int .i64 b.k, .int .i64 b.n, .string b.s, .int .i64 b.a, .int .i64 b.b]] w fun e w' => e = .returned (.tuple #[.agg (numOc n a b).nd.ca, .int .i64 (numOc n a b).how]) ∧ Below w.heap.size w w' := by
  by_cases h : a.k = 3
  · by_cases h' : b.k = 3
    · have hp := mul_small a.n b.n ha hb
      obtain ⟨ha1, ha2⟩ := ha
      obtain ⟨hb1, hb2⟩ := hb
      obtain ⟨hp1, hp2⟩ := hp
      have HR0 : Hid (numOc n a b = if n = 1 then intOc (a.n + b.n) else if n = 2 then intOc (a.n - b.n) else if n = 3 then intOc (a.n * b.n)
          else if n = 4 then ocMade (boolNd (decide (a.n < b.n))) else ocMade (boolNd (decide (a.n = b.n)))) := by unfold Hid numOc; simp [h, h']
      have hn : n = 1 ∨ n = 2 ∨ n = 3 ∨ n = 4 ∨ n = 5 := by omega
      clear h1 h5
      rcases hn with rfl | rfl | rfl | rfl | rfl
      · go_enter Try.func54, Try.ntmps54
        go_wp2_with fail
        refine (lin_any (a.n + b.n) (-1000000000) 1000000000 _).mono ?_
        rintro e w1 ⟨rfl, rfl⟩
        by_cases hr : a.n + b.n < -1000000000 ∨ 1000000000 < a.n + b.n
        · have HR : Hid (numOc 1 a b = ocOf 4) := by unfold Hid; rw [HR0.out]; simp only [intOc]; simp [hr]
          have hq : (decide (-1000000000 ≤ a.n + b.n) && decide (a.n + b.n ≤ 1000000000)) = false := by
            simp only [Bool.and_eq_false_iff, decide_eq_false_iff_not]; omega
          rw [hq]
          go_wp2_with (refine wpList_store_own rfl 34 _ _ rfl (w.heap.size + 1 + 1) z0.ca rfl rfl 34 _ (new3 _ _ _ _) Try.sizeNd rfl (Nd.ca_one _) ?_)
          intro w2 hh2 hb2 hs2
          have hB2 : Below w.heap.size w w2 := (below3 w _ _ _).trans (hb2.mono (by omega))
          go_wp2
          exact bodyPost_ret (results_row_tmp rfl _ _ (w.heap.size + 1 + 1) 34 _ (0, 0) _ rfl hh2 Try.underlying34 rfl Try.sizeNd) rfl ⟨by rw [HR.out]; rfl, hB2⟩
        · have HR : Hid (numOc 1 a b = ocMade ⟨3, a.n + b.n, ByteArray.empty, 0, 0⟩) := by unfold Hid; rw [HR0.out]; simp only [intOc]; simp [hr]
          have hq : (decide (-1000000000 ≤ a.n + b.n) && decide (a.n + b.n ≤ 1000000000)) = true := by
            simp only [Bool.and_eq_true, decide_eq_true_eq]; omega
          rw [hq]
          go_wp2_with (refine wpList_store_own rfl 34 _ _ rfl (w.heap.size + 1 + 1) (Nd.ca ⟨3, a.n + b.n, ByteArray.empty, 0, 0⟩) rfl rfl 34 _ (new3 _ _ _ _) Try.sizeNd rfl (Nd.ca_one _) ?_)
          intro w2 hh2 hb2 hs2
          have hB2 : Below w.heap.size w w2 := (below3 w _ _ _).trans (hb2.mono (by omega))
          go_wp2
          exact bodyPost_ret (results_row_tmp rfl _ _ (w.heap.size + 1 + 1) 34 _ (0, 0) _ rfl hh2 Try.underlying34 rfl Try.sizeNd) rfl ⟨by rw [HR.out]; rfl, hB2⟩
      · go_enter Try.func54, Try.ntmps54
        go_wp2_with fail
        refine (lin_any (a.n - b.n) (-1000000000) 1000000000 _).mono ?_
        rintro e w1 ⟨rfl, rfl⟩
        by_cases hr : a.n - b.n < -1000000000 ∨ 1000000000 < a.n - b.n
        · have HR : Hid (numOc 2 a b = ocOf 4) := by unfold Hid; rw [HR0.out]; simp only [intOc]; simp [hr]
          have hq : (decide (-1000000000 ≤ a.n - b.n) && decide (a.n - b.n ≤ 1000000000)) = false := by
            simp only [Bool.and_eq_false_iff, decide_eq_false_iff_not]; omega
          rw [hq]
          go_wp2_with (refine wpList_store_own rfl 34 _ _ rfl (w.heap.size + 1 + 1) z0.ca rfl rfl 34 _ (new3 _ _ _ _) Try.sizeNd rfl (Nd.ca_one _) ?_)
          intro w2 hh2 hb2 hs2
          have hB2 : Below w.heap.size w w2 := (below3 w _ _ _).trans (hb2.mono (by omega))
          go_wp2
          exact bodyPost_ret (results_row_tmp rfl _ _ (w.heap.size + 1 + 1) 34 _ (0, 0) _ rfl hh2 Try.underlying34 rfl Try.sizeNd) rfl ⟨by rw [HR.out]; rfl, hB2⟩
        · have HR : Hid (numOc 2 a b = ocMade ⟨3, a.n - b.n, ByteArray.empty, 0, 0⟩) := by unfold Hid; rw [HR0.out]; simp only [intOc]; simp [hr]
          have hq : (decide (-1000000000 ≤ a.n - b.n) && decide (a.n - b.n ≤ 1000000000)) = true := by
            simp only [Bool.and_eq_true, decide_eq_true_eq]; omega
          rw [hq]
          go_wp2_with (refine wpList_store_own rfl 34 _ _ rfl (w.heap.size + 1 + 1) (Nd.ca ⟨3, a.n - b.n, ByteArray.empty, 0, 0⟩) rfl rfl 34 _ (new3 _ _ _ _) Try.sizeNd rfl (Nd.ca_one _) ?_)
          intro w2 hh2 hb2 hs2
          have hB2 : Below w.heap.size w w2 := (below3 w _ _ _).trans (hb2.mono (by omega))
          go_wp2
          exact bodyPost_ret (results_row_tmp rfl _ _ (w.heap.size + 1 + 1) 34 _ (0, 0) _ rfl hh2 Try.underlying34 rfl Try.sizeNd) rfl ⟨by rw [HR.out]; rfl, hB2⟩
      · go_enter Try.func54, Try.ntmps54
        go_wp2_with fail
        refine (lin_any (a.n * b.n) (-1000000000) 1000000000 _).mono ?_
        rintro e w1 ⟨rfl, rfl⟩
        by_cases hr : a.n * b.n < -1000000000 ∨ 1000000000 < a.n * b.n
        · have HR : Hid (numOc 3 a b = ocOf 4) := by unfold Hid; rw [HR0.out]; simp only [intOc]; simp [hr]
          have hq : (decide (-1000000000 ≤ a.n * b.n) && decide (a.n * b.n ≤ 1000000000)) = false := by
            simp only [Bool.and_eq_false_iff, decide_eq_false_iff_not]; omega
          rw [hq]
          go_wp2_with (refine wpList_store_own rfl 34 _ _ rfl (w.heap.size + 1 + 1) z0.ca rfl rfl 34 _ (new3 _ _ _ _) Try.sizeNd rfl (Nd.ca_one _) ?_)
          intro w2 hh2 hb2 hs2
          have hB2 : Below w.heap.size w w2 := (below3 w _ _ _).trans (hb2.mono (by omega))
          go_wp2
          exact bodyPost_ret (results_row_tmp rfl _ _ (w.heap.size + 1 + 1) 34 _ (0, 0) _ rfl hh2 Try.underlying34 rfl Try.sizeNd) rfl ⟨by rw [HR.out]; rfl, hB2⟩
        · have HR : Hid (numOc 3 a b = ocMade ⟨3, a.n * b.n, ByteArray.empty, 0, 0⟩) := by unfold Hid; rw [HR0.out]; simp only [intOc]; simp [hr]
          have hq : (decide (-1000000000 ≤ a.n * b.n) && decide (a.n * b.n ≤ 1000000000)) = true := by
            simp only [Bool.and_eq_true, decide_eq_true_eq]; omega
          rw [hq]
          go_wp2_with (refine wpList_store_own rfl 34 _ _ rfl (w.heap.size + 1 + 1) (Nd.ca ⟨3, a.n * b.n, ByteArray.empty, 0, 0⟩) rfl rfl 34 _ (new3 _ _ _ _) Try.sizeNd rfl (Nd.ca_one _) ?_)
          intro w2 hh2 hb2 hs2
          have hB2 : Below w.heap.size w w2 := (below3 w _ _ _).trans (hb2.mono (by omega))
          go_wp2
          exact bodyPost_ret (results_row_tmp rfl _ _ (w.heap.size + 1 + 1) 34 _ (0, 0) _ rfl hh2 Try.underlying34 rfl Try.sizeNd) rfl ⟨by rw [HR.out]; rfl, hB2⟩
      · have HR : Hid (numOc 4 a b = ocMade (boolNd (decide (a.n < b.n)))) := by unfold Hid; rw [HR0.out]; simp
        go_enter Try.func54, Try.ntmps54
        go_wp2_with fail
        refine (s5bool_any (decide (a.n < b.n)) _).mono ?_
        rintro e w1 ⟨rfl, hb1⟩
        have hx1 := (hb1.block _ (by simp)).trans (new3 w _ _ (Obj.cells z0.ca 34))
        go_wp2_with (refine wpList_store_own rfl 34 _ _ rfl (w.heap.size + 1 + 1) (boolNd (decide (a.n < b.n))).ca rfl rfl 34 _ hx1 Try.sizeNd rfl (Nd.ca_one _) ?_)
        intro w2 hh2 hb2 hs2
        have hB2 : Below w.heap.size w w2 := ((below3 w _ _ _).trans (hb1.mono (by simp; omega))).trans (hb2.mono (by omega))
        go_wp2
        exact bodyPost_ret (results_row_tmp rfl _ _ (w.heap.size + 1 + 1) 34 _ (0, 0) _ rfl hh2 Try.underlying34 rfl Try.sizeNd) rfl ⟨by rw [HR.out]; rfl, hB2⟩
      · have HR : Hid (numOc 5 a b = ocMade (boolNd (decide (a.n = b.n)))) := by unfold Hid; rw [HR0.out]; simp
        go_enter Try.func54, Try.ntmps54
        go_wp2_with fail
        refine (s5bool_any (decide (a.n = b.n)) _).mono ?_
        rintro e w1 ⟨rfl, hb1⟩
        have hx1 := (hb1.block _ (by simp)).trans (new3 w _ _ (Obj.cells z0.ca 34))
        go_wp2_with (refine wpList_store_own rfl 34 _ _ rfl (w.heap.size + 1 + 1) (boolNd (decide (a.n = b.n))).ca rfl rfl 34 _ hx1 Try.sizeNd rfl (Nd.ca_one _) ?_)
        intro w2 hh2 hb2 hs2
        have hB2 : Below w.heap.size w w2 := ((below3 w _ _ _).trans (hb1.mono (by simp; omega))).trans (hb2.mono (by omega))
        go_wp2
        exact bodyPost_ret (results_row_tmp rfl _ _ (w.heap.size + 1 + 1) 34 _ (0, 0) _ rfl hh2 Try.underlying34 rfl Try.sizeNd) rfl ⟨by rw [HR.out]; rfl, hB2⟩
    · have q1 : (b.k == 3) = false := by simp [h']
      have q2 : decide (b.k = 3) = false := by simp [h']
      have HR : Hid (numOc n a b = ocOf 3) := by unfold Hid numOc; simp [h, h']
      go_enter Try.func54, Try.ntmps54
      go_wp2_with (refine wpList_store_own rfl 34 _ _ rfl (w.heap.size + 1 + 1) z0.ca rfl rfl 34 _ (new3 _ _ _ _) Try.sizeNd rfl (Nd.ca_one _) ?_)
      intro w2 hh2 hb2 hs2
      have hB2 : Below w.heap.size w w2 := (below3 w _ _ _).trans (hb2.mono (by omega))
      go_wp2
      exact bodyPost_ret (results_row_tmp rfl _ _ (w.heap.size + 1 + 1) 34 _ (0, 0) _ rfl hh2 Try.underlying34 rfl Try.sizeNd) rfl ⟨by rw [HR.out]; rfl, hB2⟩
  · have q1 : (a.k == 3) = false := by simp [h]
    have q2 : decide (a.k = 3) = false := by simp [h]
    have HR : Hid (numOc n a b = ocOf 3) := by unfold Hid numOc; simp [h]
    go_enter Try.func54, Try.ntmps54
    go_wp2_with (refine wpList_store_own rfl 34 _ _ rfl (w.heap.size + 1 + 1) z0.ca rfl rfl 34 _ (new3 _ _ _ _) Try.sizeNd rfl (Nd.ca_one _) ?_)
    intro w2 hh2 hb2 hs2
    have hB2 : Below w.heap.size w w2 := (below3 w _ _ _).trans (hb2.mono (by omega))
    go_wp2
    exact bodyPost_ret (results_row_tmp rfl _ _ (w.heap.size + 1 + 1) 34 _ (0, 0) _ rfl hh2 Try.underlying34 rfl Try.sizeNd) rfl ⟨by rw [HR.out]; rfl, hB2⟩
end Go.Proofs.Ytjigbjnahndpiaa

/-
  What values come to, on the specification's side: what l5Do leaves; helpers. No condition.
-/
namespace Go.Proofs.Ytjigbjnahndpiaa
open Go.RowKit

/-- What l5Do leaves in the block b, and what it tells. -/
def S5Ans (b base : Nat) (xs : List Nd) (oc : Oc) (w : World) (e : Ending) (w' : World) : Prop :=
  ∃ v', e = .returned (.tuple #[.int .i64 (if oc.how = 0 then (if oc.there = -1 then (xs.length : Int) else oc.there) else -1), .int .i64 oc.how]) ∧
    w'.heap[b]? = some (.cells #[v'] 26 (0, 0)) ∧
    w'.ownsRow base 34 5 v' (if oc.how = 0 ∧ oc.there = -1 then xs ++ [oc.nd] else xs).length (ncs (if oc.how = 0 ∧ oc.there = -1 then xs ++ [oc.nd] else xs)) ∧ Below base w w'

theorem S5Ans.more {b base : Nat} {xs : List Nd} {oc : Oc} {w w' : World} {v' : Value} {V H : Int} (h0 : oc.how = 0) (h1 : oc.there = -1) (hV : V = xs.length) (hH : H = 0) (hb : w'.heap[b]? = some (.cells #[v'] 26 (0, 0)))
    (ho : w'.ownsRow base 34 5 v' (xs ++ [oc.nd]).length (ncs (xs ++ [oc.nd]))) (hB : Below base w w') : S5Ans b base xs oc w (.returned (.tuple #[.int .i64 V, .int .i64 H])) w' := by
  refine ⟨v', ?_, hb, ?_, hB⟩
  · rw [if_pos h0, if_pos h1, h0, hV, hH]
  · rw [if_pos ⟨h0, h1⟩]; exact ho
theorem S5Ans.same {b base : Nat} {xs : List Nd} {oc : Oc} {w w' : World} {v' : Value} {V H : Int} (h : ¬ (oc.how = 0 ∧ oc.there = -1)) (hV : V = if oc.how = 0 then oc.there else -1) (hH : H = oc.how) (hb : w'.heap[b]? = some (.cells #[v'] 26 (0, 0)))
    (ho : w'.ownsRow base 34 5 v' xs.length (ncs xs)) (hB : Below base w w') : S5Ans b base xs oc w (.returned (.tuple #[.int .i64 V, .int .i64 H])) w' := by
  refine ⟨v', ?_, hb, ?_, hB⟩
  · by_cases h0 : oc.how = 0
    · rw [if_pos h0, if_neg (fun h1 => h ⟨h0, h1⟩), hV, if_pos h0, hH]
    · rw [if_neg h0, hV, if_neg h0, hH]
  · rw [if_neg h]; exact ho

theorem five {w : World} {b : Nat} {t : TypeId} {u0 u1 u2 u3 u4 : Value} (h : w.heap[b]? = some (.cells #[u0, u1, u2, u3, u4] t (0, 0))) :
    w.cell? ⟨b, 0, none⟩ = some u0 ∧ w.cell? ⟨b, 1, none⟩ = some u1 ∧ w.cell? ⟨b, 2, none⟩ = some u2 ∧ w.cell? ⟨b, 3, none⟩ = some u3 ∧ w.cell? ⟨b, 4, none⟩ = some u4 ∧
    w.frozen? ⟨b, 0, none⟩ = false ∧ w.frozen? ⟨b, 1, none⟩ = false ∧ w.frozen? ⟨b, 2, none⟩ = false ∧ w.frozen? ⟨b, 3, none⟩ = false ∧ w.frozen? ⟨b, 4, none⟩ = false :=
  ⟨cell_of_row w b 0 _ _ _ h, cell_of_row w b 1 _ _ _ h, cell_of_row w b 2 _ _ _ h, cell_of_row w b 3 _ _ _ h, cell_of_row w b 4 _ _ _ h,
    frozen_of_row w b 0 _ _ h, frozen_of_row w b 1 _ _ h, frozen_of_row w b 2 _ _ h, frozen_of_row w b 3 _ _ h, frozen_of_row w b 4 _ _ h⟩

theorem cells12 {w w' : World} {B : Nat} {a1 a2 a3 a4 a5 a6 a7 a8 a9 a10 a11 a12 : Addr} {u1 u2 u3 u4 u5 u6 u7 u8 u9 u10 u11 u12 : Value} (h : w.cell? a1 = some u1 ∧ w.cell? a2 = some u2 ∧ w.cell? a3 = some u3 ∧ w.cell? a4 = some u4 ∧ w.cell? a5 = some u5 ∧ w.cell? a6 = some u6 ∧ w.cell? a7 = some u7 ∧ w.cell? a8 = some u8 ∧ w.cell? a9 = some u9 ∧ w.cell? a10 = some u10 ∧ w.cell? a11 = some u11 ∧ w.cell? a12 = some u12)
    (hb : Below B w w') (h1 : a1.block < B) (h2 : a2.block < B) (h3 : a3.block < B) (h4 : a4.block < B) (h5 : a5.block < B) (h6 : a6.block < B) (h7 : a7.block < B) (h8 : a8.block < B) (h9 : a9.block < B) (h10 : a10.block < B) (h11 : a11.block < B) (h12 : a12.block < B) : w'.cell? a1 = some u1 ∧ w'.cell? a2 = some u2 ∧ w'.cell? a3 = some u3 ∧ w'.cell? a4 = some u4 ∧ w'.cell? a5 = some u5 ∧ w'.cell? a6 = some u6 ∧ w'.cell? a7 = some u7 ∧ w'.cell? a8 = some u8 ∧ w'.cell? a9 = some u9 ∧ w'.cell? a10 = some u10 ∧ w'.cell? a11 = some u11 ∧ w'.cell? a12 = some u12 := by
  obtain ⟨e1, e2, e3, e4, e5, e6, e7, e8, e9, e10, e11, e12⟩ := h
  exact ⟨(hb.cell h1).trans e1, (hb.cell h2).trans e2, (hb.cell h3).trans e3, (hb.cell h4).trans e4, (hb.cell h5).trans e5, (hb.cell h6).trans e6, (hb.cell h7).trans e7, (hb.cell h8).trans e8, (hb.cell h9).trans e9, (hb.cell h10).trans e10, (hb.cell h11).trans e11, (hb.cell h12).trans e12⟩

theorem set5b {w : World} {B c : Nat} (h : B ≤ c) (v0 v1 v2 v3 v4 : Value) : Below B w (((((w.setCell ⟨c, 0, none⟩ v0).setCell ⟨c, 1, none⟩ v1).setCell ⟨c, 2, none⟩ v2).setCell ⟨c, 3, none⟩ v3).setCell ⟨c, 4, none⟩ v4) :=
  ((((((Below.refl B w).setCell (p := ⟨c, 0, none⟩) h _).setCell (p := ⟨c, 1, none⟩) h _).setCell (p := ⟨c, 2, none⟩) h _).setCell (p := ⟨c, 3, none⟩) h _).setCell (p := ⟨c, 4, none⟩) h _)

theorem put5 {w : World} {b : Nat} {t : TypeId} {u0 u1 u2 u3 u4 : Value} (h : w.heap[b]? = some (.cells #[u0, u1, u2, u3, u4] t (0, 0))) (v0 v1 v2 v3 v4 : Value) :
    (((((w.setCell ⟨b, 0, none⟩ v0).setCell ⟨b, 1, none⟩ v1).setCell ⟨b, 2, none⟩ v2).setCell ⟨b, 3, none⟩ v3).setCell ⟨b, 4, none⟩ v4).heap[b]? = some (.cells #[v0, v1, v2, v3, v4] t (0, 0)) := by
  have q0 : (w.setCell ⟨b, 0, none⟩ v0).heap[b]? = some (.cells #[v0, u1, u2, u3, u4] t (0, 0)) := heap_setCell_same w b 0 _ _ v0 h
  generalize w.setCell ⟨b, 0, none⟩ v0 = x0 at *
  have q1 : (x0.setCell ⟨b, 1, none⟩ v1).heap[b]? = some (.cells #[v0, v1, u2, u3, u4] t (0, 0)) := heap_setCell_same x0 b 1 _ _ v1 q0
  generalize x0.setCell ⟨b, 1, none⟩ v1 = x1 at *
  have q2 : (x1.setCell ⟨b, 2, none⟩ v2).heap[b]? = some (.cells #[v0, v1, v2, u3, u4] t (0, 0)) := heap_setCell_same x1 b 2 _ _ v2 q1
  generalize x1.setCell ⟨b, 2, none⟩ v2 = x2 at *
  have q3 : (x2.setCell ⟨b, 3, none⟩ v3).heap[b]? = some (.cells #[v0, v1, v2, v3, u4] t (0, 0)) := heap_setCell_same x2 b 3 _ _ v3 q2
  generalize x2.setCell ⟨b, 3, none⟩ v3 = x3 at *
  exact heap_setCell_same x3 b 4 _ _ v4 q3

theorem numOc_there (n : Int) (a b : Nd) (h : (numOc n a b).how = 0) : (numOc n a b).there = -1 := by
  revert h
  unfold numOc intOc
  repeat' split
  all_goals first | (intro _; rfl) | (intro h; exact absurd h (by decide))
end Go.Proofs.Ytjigbjnahndpiaa
