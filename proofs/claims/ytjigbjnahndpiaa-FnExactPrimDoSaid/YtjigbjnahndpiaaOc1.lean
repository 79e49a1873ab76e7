/-
  What values come to, on impl's side: made, madeInt, madeBool, numberOutcome, partOutcome. Conditions: numbers of a right pool.
-/
import Derived.Test.YtjigbjnahndpiaaGrow
import Derived.Test.YtjigbjnahndpiaaNd
namespace Go.Proofs.Ytjigbjnahndpiaa
open Go.RowKit

/-- What values come to: a code, a node that is to be made, or one that is there. -/
structure Oc where
  how : Int
  nd : Nd
  there : Int

def z0 : Nd := ⟨0, 0, ByteArray.empty, 0, 0⟩
def Oc.cs (o : Oc) : Array Value := #[.int .i64 o.how, .int .i64 o.nd.k, .int .i64 o.nd.n, .string o.nd.s, .int .i64 o.nd.a, .int .i64 o.nd.b, .int .i64 o.there]
def ocOf (h : Int) : Oc := ⟨h, z0, 0⟩
def ocMade (x : Nd) : Oc := ⟨0, x, -1⟩
def ocThere (a : Int) : Oc := ⟨0, z0, a⟩
def ndA (y : Nd) : Array Value := #[.int .i64 y.k, .int .i64 y.n, .string y.s, .int .i64 y.a, .int .i64 y.b]
theorem Oc.one (o : Oc) : o.cs.all (·.oneCell') = true := by simp [Oc.cs, Value.oneCell']
theorem Try.sizeOc : (Try.prog.info? 61).map (·.size) = some 7 := by kernel_rfl
theorem Try.sizeNd : (Try.prog.info? 34).map (·.size) = some 5 := by kernel_rfl
def boolNd (b : Bool) : Nd := ⟨2, if b then 1 else 0, ByteArray.empty, 0, 0⟩
def intOc (x : Int) : Oc := if x < -1000000000 ∨ 1000000000 < x then ocOf 4 else ocMade ⟨3, x, ByteArray.empty, 0, 0⟩
def numOc (n : Int) (a b : Nd) : Oc :=
  if a.k ≠ 3 ∨ b.k ≠ 3 then ocOf 3
  else if n = 1 then intOc (a.n + b.n) else if n = 2 then intOc (a.n - b.n) else if n = 3 then intOc (a.n * b.n)
  else if n = 4 then ocMade (boolNd (decide (a.n < b.n))) else ocMade (boolNd (decide (a.n = b.n)))
def partOc (n : Int) (x : Nd) : Oc := if x.k ≠ 5 then ocOf 3 else if n = 7 then ocThere x.a else ocThere x.b

set_option maxHeartbeats 800000 in
theorem imade_any (x : Nd) (w : World) : Calls Try.prog 67 #[.agg #[.int .i64 x.k, .int .i64 x.n, .string x.s, .int .i64 x.a, .int .i64 x.b]] w fun e w' => e = .returned (.agg (ocMade x).cs) ∧ Below w.heap.size w w' := by
  go_enter Try.func67, Try.ntmps67
  go_wp2_with (first
    | (refine wpList_load_row rfl 34 _ rfl w.heap.size rfl 34 #[.int .i64 x.k, .int .i64 x.n, .string x.s, .int .i64 x.a, .int .i64 x.b] (0, 0) _ (old2 _ _ _) Try.underlying34 rfl Try.sizeNd ?_)
    | (refine wpList_store_own rfl 61 _ _ rfl (w.heap.size + 1) (ocMade x).cs rfl rfl 61 _ (heap_alloc2_new _ _ _) Try.sizeOc rfl (Oc.one _) ?_))
  intro w2 hh2 hb2 hs2
  have hB2 : Below w.heap.size w w2 := (below2 w _ _).trans (hb2.mono (by omega))
  go_wp2
  exact bodyPost_ret (results_cell_row rfl _ _ (w.heap.size + 1) 61 _ (0, 0) _ rfl hh2 Try.underlying61 rfl Try.sizeOc) rfl ⟨rfl, hB2⟩

set_option maxHeartbeats 800000 in
theorem imadebool_any (b : Bool) (w : World) : Calls Try.prog 69 #[.bool b] w fun e w' => e = .returned (.agg (ocMade (boolNd b)).cs) ∧ Below w.heap.size w w' := by
  have hB0 : Below w.heap.size w (w.alloc (Obj.cells (ocOf 0).cs 61)) := (Below.refl _ _).alloc (Nat.le_refl _) _
  cases b with
  | true =>
    go_enter Try.func69, Try.ntmps69
    go_wp2_with fail
    refine (imade_any (boolNd true) _).mono ?_
    rintro e w1 ⟨rfl, hb1⟩
    have hx1 := (hb1.block _ (by simp)).trans (heap_alloc_new w (Obj.cells (ocOf 0).cs 61))
    go_wp2_with (refine wpList_store_own rfl 61 _ _ rfl w.heap.size (ocMade (boolNd true)).cs rfl rfl 61 _ hx1 Try.sizeOc rfl (Oc.one _) ?_)
    intro w2 hh2 hb2 hs2
    have hB2 : Below w.heap.size w w2 := (hB0.trans (hb1.mono (by simp))).trans hb2
    go_wp2
    exact bodyPost_ret (results_cell_row rfl _ _ w.heap.size 61 _ (0, 0) _ rfl hh2 Try.underlying61 rfl Try.sizeOc) rfl ⟨rfl, hB2⟩
  | false =>
    go_enter Try.func69, Try.ntmps69
    go_wp2_with fail
    refine (imade_any (boolNd false) _).mono ?_
    rintro e w1 ⟨rfl, hb1⟩
    have hx1 := (hb1.block _ (by simp)).trans (heap_alloc_new w (Obj.cells (ocOf 0).cs 61))
    go_wp2_with (refine wpList_store_own rfl 61 _ _ rfl w.heap.size (ocMade (boolNd false)).cs rfl rfl 61 _ hx1 Try.sizeOc rfl (Oc.one _) ?_)
    intro w2 hh2 hb2 hs2
    have hB2 : Below w.heap.size w w2 := (hB0.trans (hb1.mono (by simp))).trans hb2
    go_wp2
    exact bodyPost_ret (results_cell_row rfl _ _ w.heap.size 61 _ (0, 0) _ rfl hh2 Try.underlying61 rfl Try.sizeOc) rfl ⟨rfl, hB2⟩

set_option maxHeartbeats 800000 in
theorem imadeint_any (x : Int) (w : World) : Calls Try.prog 74 #[.int .i64 x] w fun e w' => e = .returned (.agg (intOc x).cs) ∧ Below w.heap.size w w' := by
  have hB0 : Below w.heap.size w (w.alloc (Obj.cells (ocOf 0).cs 61)) := (Below.refl _ _).alloc (Nat.le_refl _) _
  by_cases h : x < -1000000000 ∨ 1000000000 < x
  · have HR : Hid (intOc x = ocOf 4) := by unfold Hid intOc; rw [if_pos h]
    go_enter Try.func74, Try.ntmps74
    rcases Decidable.em (x < -1000000000) with hl | hl
    · go_wp2_with (refine wpList_store_own rfl 61 _ _ rfl w.heap.size (ocOf 4).cs rfl rfl 61 _ (heap_alloc_new _ _) Try.sizeOc rfl (Oc.one _) ?_)
      intro w2 hh2 hb2 hs2
      have hB2 : Below w.heap.size w w2 := hB0.trans hb2
      go_wp2
      exact bodyPost_ret (results_cell_row rfl _ _ w.heap.size 61 _ (0, 0) _ rfl hh2 Try.underlying61 rfl Try.sizeOc) rfl ⟨by rw [HR.out], hB2⟩
    · have hr : 1000000000 < x := by omega
      go_wp2_with (refine wpList_store_own rfl 61 _ _ rfl w.heap.size (ocOf 4).cs rfl rfl 61 _ (heap_alloc_new _ _) Try.sizeOc rfl (Oc.one _) ?_)
      intro w2 hh2 hb2 hs2
      have hB2 : Below w.heap.size w w2 := hB0.trans hb2
      go_wp2
      exact bodyPost_ret (results_cell_row rfl _ _ w.heap.size 61 _ (0, 0) _ rfl hh2 Try.underlying61 rfl Try.sizeOc) rfl ⟨by rw [HR.out], hB2⟩
  · have HR : Hid (intOc x = ocMade ⟨3, x, ByteArray.empty, 0, 0⟩) := by unfold Hid intOc; rw [if_neg h]
    have h1 : ¬ x < -1000000000 := by omega
    have h2 : ¬ 1000000000 < x := by omega
    go_enter Try.func74, Try.ntmps74
    go_wp2_with fail
    refine (imade_any ⟨3, x, ByteArray.empty, 0, 0⟩ _).mono ?_
    rintro e w1 ⟨rfl, hb1⟩
    have hx1 := (hb1.block _ (by simp)).trans (heap_alloc_new w (Obj.cells (ocOf 0).cs 61))
    go_wp2_with (refine wpList_store_own rfl 61 _ _ rfl w.heap.size (ocMade ⟨3, x, ByteArray.empty, 0, 0⟩).cs rfl rfl 61 _ hx1 Try.sizeOc rfl (Oc.one _) ?_)
    intro w2 hh2 hb2 hs2
    have hB2 : Below w.heap.size w w2 := (hB0.trans (hb1.mono (by simp))).trans hb2
    go_wp2
    exact bodyPost_ret (results_cell_row rfl _ _ w.heap.size 61 _ (0, 0) _ rfl hh2 Try.underlying61 rfl Try.sizeOc) rfl ⟨by rw [HR.out], hB2⟩

set_option maxHeartbeats 800000 in
theorem ipartout_any (n : Int) (x : Nd) (w : World) : Calls Try.prog 68 #[.int .i64 n, .agg #[.int .i64 x.k, .int .i64 x.n, .string x.s, .int .i64 x.a, .int .i64 x.b]] w fun e w' => e = .returned (.agg (partOc n x).cs) ∧ Below w.heap.size w w' := by
  by_cases h : x.k = 5
  · by_cases h7 : n = 7
    · have HR : Hid (partOc n x = ocThere x.a) := by unfold Hid partOc; simp [h, h7]
      have q1 : (n == 7) = true := by simp [h7]
      have q2 : decide (n = 7) = true := by simp [h7]
      clear h7
      go_enter Try.func68, Try.ntmps68
      go_wp2_with (refine wpList_store_own rfl 61 _ _ rfl (w.heap.size + 1) (ocThere x.a).cs rfl rfl 61 _ (heap_alloc2_new _ _ _) Try.sizeOc rfl (Oc.one _) ?_)
      intro w2 hh2 hb2 hs2
      have hB2 : Below w.heap.size w w2 := (below2 w _ _).trans (hb2.mono (by omega))
      go_wp2
      exact bodyPost_ret (results_cell_row rfl _ _ (w.heap.size + 1) 61 _ (0, 0) _ rfl hh2 Try.underlying61 rfl Try.sizeOc) rfl ⟨by rw [HR.out], hB2⟩
    · have HR : Hid (partOc n x = ocThere x.b) := by unfold Hid partOc; simp [h, h7]
      have q1 : (n == 7) = false := by simp [h7]
      have q2 : decide (n = 7) = false := by simp [h7]
      go_enter Try.func68, Try.ntmps68
      go_wp2_with (refine wpList_store_own rfl 61 _ _ rfl (w.heap.size + 1) (ocThere x.b).cs rfl rfl 61 _ (heap_alloc2_new _ _ _) Try.sizeOc rfl (Oc.one _) ?_)
      intro w2 hh2 hb2 hs2
      have hB2 : Below w.heap.size w w2 := (below2 w _ _).trans (hb2.mono (by omega))
      go_wp2
      exact bodyPost_ret (results_cell_row rfl _ _ (w.heap.size + 1) 61 _ (0, 0) _ rfl hh2 Try.underlying61 rfl Try.sizeOc) rfl ⟨by rw [HR.out], hB2⟩
  · have HR : Hid (partOc n x = ocOf 3) := by unfold Hid partOc; simp [h]
    have q1 : (x.k == 5) = false := by simp [h]
    have q2 : decide (x.k = 5) = false := by simp [h]
    go_enter Try.func68, Try.ntmps68
    go_wp2_with (refine wpList_store_own rfl 61 _ _ rfl (w.heap.size + 1) (ocOf 3).cs rfl rfl 61 _ (heap_alloc2_new _ _ _) Try.sizeOc rfl (Oc.one _) ?_)
    intro w2 hh2 hb2 hs2
    have hB2 : Below w.heap.size w w2 := (below2 w _ _).trans (hb2.mono (by omega))
    go_wp2
    exact bodyPost_ret (results_cell_row rfl _ _ (w.heap.size + 1) 61 _ (0, 0) _ rfl hh2 Try.underlying61 rfl Try.sizeOc) rfl ⟨by rw [HR.out], hB2⟩
end Go.Proofs.Ytjigbjnahndpiaa
