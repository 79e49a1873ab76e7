/-
  Texts that stood by themselves, laid into one.
-/
import Derived.Test.YtjigbjnahndpiaaDraw2M
import Derived.Test.YtjigbjnahndpiaaNameM
import Derived.Test.YtjigbjnahndpiaaFirstsM
/-
  What values come to, on impl's side: made, madeInt, madeBool, numberOutcome, partOutcome. Conditions: numbers of a right pool.
-/
namespace Go.Proofs.Ytjigbjnahndpiaa
open Go.RowKit

/-- What values come to: a code, a node that is to be made, or one that is there. -/
structure Oc where
  how : Int
  nd : Nd
  there : Int

def z0 : Nd := ⟨0, 0, ByteArray.empty, 0, 0⟩
def Oc.cs (o : Oc) : Array Value := #[.int .i64 o.how, .int .i64 o.nd.k, .int .i64 o.nd.n, .string o.nd.s, .int .i64 o.nd.a, .int .i64 o.nd.b, .int .i64 o.there]
def ocOf (h : Int) : Oc := ⟨h, z0, 0⟩
def ocMade (x : Nd) : Oc := ⟨0, x, -1⟩
def ocThere (a : Int) : Oc := ⟨0, z0, a⟩
def ndA (y : Nd) : Array Value := #[.int .i64 y.k, .int .i64 y.n, .string y.s, .int .i64 y.a, .int .i64 y.b]
theorem Oc.one (o : Oc) : o.cs.all (·.oneCell') = true := by simp [Oc.cs, Value.oneCell']
theorem Try.sizeOc : (Try.prog.info? 61).map (·.size) = some 7 := by kernel_rfl
theorem Try.sizeNd : (Try.prog.info? 34).map (·.size) = some 5 := by kernel_rfl
def boolNd (b : Bool) : Nd := ⟨2, if b then 1 else 0, ByteArray.empty, 0, 0⟩
def intOc (x : Int) : Oc := if x < -1000000000 ∨ 1000000000 < x then ocOf 4 else ocMade ⟨3, x, ByteArray.empty, 0, 0⟩
def numOc (n : Int) (a b : Nd) : Oc :=
  if a.k ≠ 3 ∨ b.k ≠ 3 then ocOf 3
  else if n = 1 then intOc (a.n + b.n) else if n = 2 then intOc (a.n - b.n) else if n = 3 then intOc (a.n * b.n)
  else if n = 4 then ocMade (boolNd (decide (a.n < b.n))) else ocMade (boolNd (decide (a.n = b.n)))
def partOc (n : Int) (x : Nd) : Oc := if x.k ≠ 5 then ocOf 3 else if n = 7 then ocThere x.a else ocThere x.b

set_option maxHeartbeats 800000 in
theorem imade_any (x : Nd) (w : World) : Calls Try.prog 67 #[.agg #[.int .i64 x.k, .int .i64 x.n, .string x.s, .int .i64 x.a, .int .i64 x.b]] w fun e w' => e = .returned (.agg (ocMade x).cs) ∧ Below w.heap.size w w' := by
  go_enter Try.func67, Try.ntmps67
  go_wp2_with (first
    | (refine wpList_load_row rfl 34 _ rfl w.heap.size rfl 34 #[.int .i64 x.k, .int .i64 x.n, .string x.s, .int .i64 x.a, .int .i64 x.b] (0, 0) _ (old2 _ _ _) Try.underlying34 rfl Try.sizeNd ?_)
    | (refine wpList_store_own rfl 61 _ _ rfl (w.heap.size + 1) (ocMade x).cs rfl rfl 61 _ (heap_alloc2_new _ _ _) Try.sizeOc rfl (Oc.one _) ?_))
  intro w2 hh2 hb2 hs2
  have hB2 : Below w.heap.size w w2 := (below2 w _ _).trans (hb2.mono (by omega))
  go_wp2
  exact bodyPost_ret (results_cell_row rfl _ _ (w.heap.size + 1) 61 _ (0, 0) _ rfl hh2 Try.underlying61 rfl Try.sizeOc) rfl ⟨rfl, hB2⟩

set_option maxHeartbeats 800000 in
theorem imadebool_any (b : Bool) (w : World) : Calls Try.prog 69 #[.bool b] w fun e w' => e = .returned (.agg (ocMade (boolNd b)).cs) ∧ Below w.heap.size w w' := by
  have hB0 : Below w.heap.size w (w.alloc (Obj.cells (ocOf 0).cs 61)) := (Below.refl _ _).alloc (Nat.le_refl _) _
  cases b with
  | true =>
    go_enter Try.func69, Try.ntmps69
    go_wp2_with fail
    refine (imade_any (boolNd true) _).mono ?_
    rintro e w1 ⟨rfl, hb1⟩
    have hx1 := (hb1.block _ (by simp)).trans (heap_alloc_new w (Obj.cells (ocOf 0).cs 61))
    go_wp2_with (refine wpList_store_own rfl 61 _ _ rfl w.heap.size (ocMade (boolNd true)).cs rfl rfl 61 _ hx1 Try.sizeOc rfl (Oc.one _) ?_)
    intro w2 hh2 hb2 hs2
    have hB2 : Below w.heap.size w w2 := (hB0.trans (hb1.mono (by simp))).trans hb2
    go_wp2
    exact bodyPost_ret (results_cell_row rfl _ _ w.heap.size 61 _ (0, 0) _ rfl hh2 Try.underlying61 rfl Try.sizeOc) rfl ⟨rfl, hB2⟩
  | false =>
    go_enter Try.func69, Try.ntmps69
    go_wp2_with fail
    refine (imade_any (boolNd false) _).mono ?_
    rintro e w1 ⟨rfl, hb1⟩
    have hx1 := (hb1.block _ (by simp)).trans (heap_alloc_new w (Obj.cells (ocOf 0).cs 61))
    go_wp2_with (refine wpList_store_own rfl 61 _ _ rfl w.heap.size (ocMade (boolNd false)).cs rfl rfl 61 _ hx1 Try.sizeOc rfl (Oc.one _) ?_)
    intro w2 hh2 hb2 hs2
    have hB2 : Below w.heap.size w w2 := (hB0.trans (hb1.mono (by simp))).trans hb2
    go_wp2
    exact bodyPost_ret (results_cell_row rfl _ _ w.heap.size 61 _ (0, 0) _ rfl hh2 Try.underlying61 rfl Try.sizeOc) rfl ⟨rfl, hB2⟩

set_option maxHeartbeats 800000 in
theorem imadeint_any (x : Int) (w : World) : Calls Try.prog 74 #[.int .i64 x] w fun e w' => e = .returned (.agg (intOc x).cs) ∧ Below w.heap.size w w' := by
  have hB0 : Below w.heap.size w (w.alloc (Obj.cells (ocOf 0).cs 61)) := (Below.refl _ _).alloc (Nat.le_refl _) _
  by_cases h : x < -1000000000 ∨ 1000000000 < x
  · have HR : Hid (intOc x = ocOf 4) := by unfold Hid intOc; rw [if_pos h]
    go_enter Try.func74, Try.ntmps74
    rcases Decidable.em (x < -1000000000) with hl | hl
    · go_wp2_with (refine wpList_store_own rfl 61 _ _ rfl w.heap.size (ocOf 4).cs rfl rfl 61 _ (heap_alloc_new _ _) Try.sizeOc rfl (Oc.one _) ?_)
      intro w2 hh2 hb2 hs2
      have hB2 : Below w.heap.size w w2 := hB0.trans hb2
      go_wp2
      exact bodyPost_ret (results_cell_row rfl _ _ w.heap.size 61 _ (0, 0) _ rfl hh2 Try.underlying61 rfl Try.sizeOc) rfl ⟨by rw [HR.out], hB2⟩
    · have hr : 1000000000 < x := by omega
      go_wp2_with (refine wpList_store_own rfl 61 _ _ rfl w.heap.size (ocOf 4).cs rfl rfl 61 _ (heap_alloc_new _ _) Try.sizeOc rfl (Oc.one _) ?_)
      intro w2 hh2 hb2 hs2
      have hB2 : Below w.heap.size w w2 := hB0.trans hb2
      go_wp2
      exact bodyPost_ret (results_cell_row rfl _ _ w.heap.size 61 _ (0, 0) _ rfl hh2 Try.underlying61 rfl Try.sizeOc) rfl ⟨by rw [HR.out], hB2⟩
  · have HR : Hid (intOc x = ocMade ⟨3, x, ByteArray.empty, 0, 0⟩) := by unfold Hid intOc; rw [if_neg h]
    have h1 : ¬ x < -1000000000 := by omega
    have h2 : ¬ 1000000000 < x := by omega
    go_enter Try.func74, Try.ntmps74
    go_wp2_with fail
    refine (imade_any ⟨3, x, ByteArray.empty, 0, 0⟩ _).mono ?_
    rintro e w1 ⟨rfl, hb1⟩
    have hx1 := (hb1.block _ (by simp)).trans (heap_alloc_new w (Obj.cells (ocOf 0).cs 61))
    go_wp2_with (refine wpList_store_own rfl 61 _ _ rfl w.heap.size (ocMade ⟨3, x, ByteArray.empty, 0, 0⟩).cs rfl rfl 61 _ hx1 Try.sizeOc rfl (Oc.one _) ?_)
    intro w2 hh2 hb2 hs2
    have hB2 : Below w.heap.size w w2 := (hB0.trans (hb1.mono (by simp))).trans hb2
    go_wp2
    exact bodyPost_ret (results_cell_row rfl _ _ w.heap.size 61 _ (0, 0) _ rfl hh2 Try.underlying61 rfl Try.sizeOc) rfl ⟨by rw [HR.out], hB2⟩

set_option maxHeartbeats 800000 in
theorem ipartout_any (n : Int) (x : Nd) (w : World) : Calls Try.prog 68 #[.int .i64 n, .agg #[.int .i64 x.k, .int .i64 x.n, .string x.s, .int .i64 x.a, .int .i64 x.b]] w fun e w' => e = .returned (.agg (partOc n x).cs) ∧ Below w.heap.size w w' := by
  by_cases h : x.k = 5
  · by_cases h7 : n = 7
    · have HR : Hid (partOc n x = ocThere x.a) := by unfold Hid partOc; simp [h, h7]
      have q1 : (n == 7) = true := by simp [h7]
      have q2 : decide (n = 7) = true := by simp [h7]
      clear h7
      go_enter Try.func68, Try.ntmps68
      go_wp2_with (refine wpList_store_own rfl 61 _ _ rfl (w.heap.size + 1) (ocThere x.a).cs rfl rfl 61 _ (heap_alloc2_new _ _ _) Try.sizeOc rfl (Oc.one _) ?_)
      intro w2 hh2 hb2 hs2
      have hB2 : Below w.heap.size w w2 := (below2 w _ _).trans (hb2.mono (by omega))
      go_wp2
      exact bodyPost_ret (results_cell_row rfl _ _ (w.heap.size + 1) 61 _ (0, 0) _ rfl hh2 Try.underlying61 rfl Try.sizeOc) rfl ⟨by rw [HR.out], hB2⟩
    · have HR : Hid (partOc n x = ocThere x.b) := by unfold Hid partOc; simp [h, h7]
      have q1 : (n == 7) = false := by simp [h7]
      have q2 : decide (n = 7) = false := by simp [h7]
      go_enter Try.func68, Try.ntmps68
      go_wp2_with (refine wpList_store_own rfl 61 _ _ rfl (w.heap.size + 1) (ocThere x.b).cs rfl rfl 61 _ (heap_alloc2_new _ _ _) Try.sizeOc rfl (Oc.one _) ?_)
      intro w2 hh2 hb2 hs2
      have hB2 : Below w.heap.size w w2 := (below2 w _ _).trans (hb2.mono (by omega))
      go_wp2
      exact bodyPost_ret (results_cell_row rfl _ _ (w.heap.size + 1) 61 _ (0, 0) _ rfl hh2 Try.underlying61 rfl Try.sizeOc) rfl ⟨by rw [HR.out], hB2⟩
  · have HR : Hid (partOc n x = ocOf 3) := by unfold Hid partOc; simp [h]
    have q1 : (x.k == 5) = false := by simp [h]
    have q2 : decide (x.k = 5) = false := by simp [h]
    go_enter Try.func68, Try.ntmps68
    go_wp2_with (refine wpList_store_own rfl 61 _ _ rfl (w.heap.size + 1) (ocOf 3).cs rfl rfl 61 _ (heap_alloc2_new _ _ _) Try.sizeOc rfl (Oc.one _) ?_)
    intro w2 hh2 hb2 hs2
    have hB2 : Below w.heap.size w w2 := (below2 w _ _).trans (hb2.mono (by omega))
    go_wp2
    exact bodyPost_ret (results_cell_row rfl _ _ (w.heap.size + 1) 61 _ (0, 0) _ rfl hh2 Try.underlying61 rfl Try.sizeOc) rfl ⟨by rw [HR.out], hB2⟩
end Go.Proofs.Ytjigbjnahndpiaa

/-
  What two numbers come to, on impl's side: numberOutcome. Condition: both are numbers of a right pool.
-/
namespace Go.Proofs.Ytjigbjnahndpiaa
open Go.RowKit

theorem new3 (w : World) (A B C : Obj) : (((w.alloc A).alloc B).alloc C).heap[w.heap.size + 1 + 1]? = some C := by
  have := heap_alloc_new ((w.alloc A).alloc B) C
  simpa using this
theorem below3 (w : World) (A B C : Obj) : Below w.heap.size w (((w.alloc A).alloc B).alloc C) := (below2 w A B).alloc (by simp; omega) _
theorem mul_small (a b : Int) (ha : -1000000000 ≤ a ∧ a ≤ 1000000000) (hb : -1000000000 ≤ b ∧ b ≤ 1000000000) : -1000000000000000000 ≤ a * b ∧ a * b ≤ 1000000000000000000 := by
  have h : (a * b).natAbs ≤ 1000000000 * 1000000000 := by
    rw [Int.natAbs_mul]
    exact Nat.mul_le_mul (by omega) (by omega)
  omega

set_option maxHeartbeats 3200000 in
theorem inumout_any (n : Int) (a b : Nd) (w : World) (ha : -1000000000 ≤ a.n ∧ a.n ≤ 1000000000) (hb : -1000000000 ≤ b.n ∧ b.n ≤ 1000000000) :
    Calls Try.prog 66 #[.int .i64 n, .agg #[.int .i64 a.k, .int .i64 a.n, .string a.s, .int .i64 a.a, .int .i64 a.b], .agg #[.int .i64 b.k, .int .i64 b.n, .string b.s, .int .i64 b.a, .int .i64 b.b]] w fun e w' => e = .returned (.agg (numOc n a b).cs) ∧ Below w.heap.size w w' := by
  by_cases h : a.k = 3
  · by_cases h' : b.k = 3
    · have hp := mul_small a.n b.n ha hb
      obtain ⟨ha1, ha2⟩ := ha
      obtain ⟨hb1, hb2⟩ := hb
      obtain ⟨hp1, hp2⟩ := hp
      have HR : Hid (numOc n a b = if n = 1 then intOc (a.n + b.n) else if n = 2 then intOc (a.n - b.n) else if n = 3 then intOc (a.n * b.n)
          else if n = 4 then ocMade (boolNd (decide (a.n < b.n))) else ocMade (boolNd (decide (a.n = b.n)))) := by unfold Hid numOc; simp [h, h']
      by_cases hn : n = 1
      · replace HR : Hid (numOc n a b = intOc (a.n + b.n)) := by unfold Hid; rw [HR.out]; simp [hn]
        subst hn
        go_enter Try.func66, Try.ntmps66
        go_wp2_with fail
        refine (imadeint_any (a.n + b.n) _).mono ?_
        rintro e w1 ⟨rfl, hb1⟩
        have hx1 := (hb1.block _ (by simp)).trans (new3 w _ _ (Obj.cells (ocOf 0).cs 61))
        go_wp2_with (refine wpList_store_own rfl 61 _ _ rfl (w.heap.size + 1 + 1) (intOc (a.n + b.n)).cs rfl rfl 61 _ hx1 Try.sizeOc rfl (Oc.one _) ?_)
        intro w2 hh2 hb2 hs2
        have hB2 : Below w.heap.size w w2 := ((below3 w _ _ _).trans (hb1.mono (by simp; omega))).trans (hb2.mono (by omega))
        go_wp2
        exact bodyPost_ret (results_cell_row rfl _ _ (w.heap.size + 1 + 1) 61 _ (0, 0) _ rfl hh2 Try.underlying61 rfl Try.sizeOc) rfl ⟨by rw [HR.out], hB2⟩
      · have hn1 := hn
        clear hn
        by_cases hn : n = 2
        · replace HR : Hid (numOc n a b = intOc (a.n - b.n)) := by unfold Hid; rw [HR.out]; simp [hn]
          subst hn
          go_enter Try.func66, Try.ntmps66
          go_wp2_with fail
          refine (imadeint_any (a.n - b.n) _).mono ?_
          rintro e w1 ⟨rfl, hb1⟩
          have hx1 := (hb1.block _ (by simp)).trans (new3 w _ _ (Obj.cells (ocOf 0).cs 61))
          go_wp2_with (refine wpList_store_own rfl 61 _ _ rfl (w.heap.size + 1 + 1) (intOc (a.n - b.n)).cs rfl rfl 61 _ hx1 Try.sizeOc rfl (Oc.one _) ?_)
          intro w2 hh2 hb2 hs2
          have hB2 : Below w.heap.size w w2 := ((below3 w _ _ _).trans (hb1.mono (by simp; omega))).trans (hb2.mono (by omega))
          go_wp2
          exact bodyPost_ret (results_cell_row rfl _ _ (w.heap.size + 1 + 1) 61 _ (0, 0) _ rfl hh2 Try.underlying61 rfl Try.sizeOc) rfl ⟨by rw [HR.out], hB2⟩
        · have hn2 := hn
          clear hn
          by_cases hn : n = 3
          · replace HR : Hid (numOc n a b = intOc (a.n * b.n)) := by unfold Hid; rw [HR.out]; simp [hn]
            subst hn
            go_enter Try.func66, Try.ntmps66
            go_wp2_with fail
            refine (imadeint_any (a.n * b.n) _).mono ?_
            rintro e w1 ⟨rfl, hb1⟩
            have hx1 := (hb1.block _ (by simp)).trans (new3 w _ _ (Obj.cells (ocOf 0).cs 61))
            go_wp2_with (refine wpList_store_own rfl 61 _ _ rfl (w.heap.size + 1 + 1) (intOc (a.n * b.n)).cs rfl rfl 61 _ hx1 Try.sizeOc rfl (Oc.one _) ?_)
            intro w2 hh2 hb2 hs2
            have hB2 : Below w.heap.size w w2 := ((below3 w _ _ _).trans (hb1.mono (by simp; omega))).trans (hb2.mono (by omega))
            go_wp2
            exact bodyPost_ret (results_cell_row rfl _ _ (w.heap.size + 1 + 1) 61 _ (0, 0) _ rfl hh2 Try.underlying61 rfl Try.sizeOc) rfl ⟨by rw [HR.out], hB2⟩
          · have hn3 := hn
            clear hn
            by_cases hn : n = 4
            · replace HR : Hid (numOc n a b = ocMade (boolNd (decide (a.n < b.n)))) := by unfold Hid; rw [HR.out]; simp [hn]
              subst hn
              go_enter Try.func66, Try.ntmps66
              go_wp2_with fail
              refine (imadebool_any (decide (a.n < b.n)) _).mono ?_
              rintro e w1 ⟨rfl, hb1⟩
              have hx1 := (hb1.block _ (by simp)).trans (new3 w _ _ (Obj.cells (ocOf 0).cs 61))
              go_wp2_with (refine wpList_store_own rfl 61 _ _ rfl (w.heap.size + 1 + 1) (ocMade (boolNd (decide (a.n < b.n)))).cs rfl rfl 61 _ hx1 Try.sizeOc rfl (Oc.one _) ?_)
              intro w2 hh2 hb2 hs2
              have hB2 : Below w.heap.size w w2 := ((below3 w _ _ _).trans (hb1.mono (by simp; omega))).trans (hb2.mono (by omega))
              go_wp2
              exact bodyPost_ret (results_cell_row rfl _ _ (w.heap.size + 1 + 1) 61 _ (0, 0) _ rfl hh2 Try.underlying61 rfl Try.sizeOc) rfl ⟨by rw [HR.out], hB2⟩
            · have hn4 := hn
              clear hn
              replace HR : Hid (numOc n a b = ocMade (boolNd (decide (a.n = b.n)))) := by unfold Hid; rw [HR.out]; simp [hn1, hn2, hn3, hn4]
              have q1 : (n == 1) = false := by simp; omega
              have r1 : decide (n = 1) = false := by simp; omega
              have q2 : (n == 2) = false := by simp; omega
              have r2 : decide (n = 2) = false := by simp; omega
              have q3 : (n == 3) = false := by simp; omega
              have r3 : decide (n = 3) = false := by simp; omega
              have q4 : (n == 4) = false := by simp; omega
              have r4 : decide (n = 4) = false := by simp; omega
              go_enter Try.func66, Try.ntmps66
              go_wp2_with fail
              refine (imadebool_any (decide (a.n = b.n)) _).mono ?_
              rintro e w1 ⟨rfl, hb1⟩
              have hx1 := (hb1.block _ (by simp)).trans (new3 w _ _ (Obj.cells (ocOf 0).cs 61))
              go_wp2_with (refine wpList_store_own rfl 61 _ _ rfl (w.heap.size + 1 + 1) (ocMade (boolNd (decide (a.n = b.n)))).cs rfl rfl 61 _ hx1 Try.sizeOc rfl (Oc.one _) ?_)
              intro w2 hh2 hb2 hs2
              have hB2 : Below w.heap.size w w2 := ((below3 w _ _ _).trans (hb1.mono (by simp; omega))).trans (hb2.mono (by omega))
              go_wp2
              exact bodyPost_ret (results_cell_row rfl _ _ (w.heap.size + 1 + 1) 61 _ (0, 0) _ rfl hh2 Try.underlying61 rfl Try.sizeOc) rfl ⟨by rw [HR.out], hB2⟩
    · have q1 : (b.k == 3) = false := by simp [h']
      have q2 : decide (b.k = 3) = false := by simp [h']
      have HR : Hid (numOc n a b = ocOf 3) := by unfold Hid numOc; simp [h, h']
      go_enter Try.func66, Try.ntmps66
      go_wp2_with (refine wpList_store_own rfl 61 _ _ rfl (w.heap.size + 1 + 1) (ocOf 3).cs rfl rfl 61 _ (new3 _ _ _ _) Try.sizeOc rfl (Oc.one _) ?_)
      intro w2 hh2 hb2 hs2
      have hB2 : Below w.heap.size w w2 := (below3 w _ _ _).trans (hb2.mono (by omega))
      go_wp2
      exact bodyPost_ret (results_cell_row rfl _ _ (w.heap.size + 1 + 1) 61 _ (0, 0) _ rfl hh2 Try.underlying61 rfl Try.sizeOc) rfl ⟨by rw [HR.out], hB2⟩
  · have q1 : (a.k == 3) = false := by simp [h]
    have q2 : decide (a.k = 3) = false := by simp [h]
    have HR : Hid (numOc n a b = ocOf 3) := by unfold Hid numOc; simp [h]
    go_enter Try.func66, Try.ntmps66
    go_wp2_with (refine wpList_store_own rfl 61 _ _ rfl (w.heap.size + 1 + 1) (ocOf 3).cs rfl rfl 61 _ (new3 _ _ _ _) Try.sizeOc rfl (Oc.one _) ?_)
    intro w2 hh2 hb2 hs2
    have hB2 : Below w.heap.size w w2 := (below3 w _ _ _).trans (hb2.mono (by omega))
    go_wp2
    exact bodyPost_ret (results_cell_row rfl _ _ (w.heap.size + 1 + 1) 61 _ (0, 0) _ rfl hh2 Try.underlying61 rfl Try.sizeOc) rfl ⟨by rw [HR.out], hB2⟩
end Go.Proofs.Ytjigbjnahndpiaa

/-
  Contract of impl.Same.
-/
namespace Go.Proofs.Ytjigbjnahndpiaa
open Go.RowKit Go.Maps

theorem cls_prefix (b ks : List Nd) (fs : List Int) (i : Nat) (h : i < fs.length) : (cls b ks fs).2.getD i 0 = fs.getD i 0 := by
  induction b generalizing ks fs with
  | nil => rfl
  | cons y b ih =>
    simp only [cls]
    rw [ih _ _ (by simp; omega)]
    simp only [List.getD_eq_getElem?_getD]
    rw [List.getElem?_append_left h]
theorem firstsTo_prefix (xs : List Nd) (k i : Nat) (hk : k ≤ xs.length) (hi : i < k) : (firstsTo xs xs.length).getD i 0 = (firstsTo xs k).getD i 0 := by
  have hl := firstsTo_length xs k hk
  have e : firstsTo xs xs.length = (cls (xs.drop k) (keysTo xs k) (firstsTo xs k)).2 := by
    unfold firstsTo keysTo
    rw [List.take_length, ← cls_append, List.take_append_drop]
  rw [e]
  exact cls_prefix _ _ _ i (by omega)
theorem firstsTo_take (xs : List Nd) (n : Nat) : firstsTo (xs.take n) (xs.take n).length = firstsTo xs n := by
  unfold firstsTo
  rw [List.take_length]
theorem NRow.take {w : World} {ao : Option Addr} {cap : Nat} {xs : List Nd} (R : NRow w (.slice ao xs.length cap) xs) (n : Nat) (h : n ≤ xs.length) : NRow w (.slice ao (xs.take n).length cap) (xs.take n) := by
  obtain ⟨ao', cap', e', ⟨h1, h2⟩, hm, hz, hcell⟩ := R
  simp only [Value.slice.injEq, true_and] at e'
  obtain ⟨rfl, rfl⟩ := e'
  have hl : (xs.take n).length = n := by simp; omega
  refine ⟨ao, cap, rfl, ⟨by omega, h2⟩, by omega, fun x hx => hz x (List.mem_of_mem_take hx), fun hne => ?_⟩
  obtain ⟨g, o, e, hg, hc⟩ := hcell (by intro e; subst e; simp at hne)
  refine ⟨g, o, e, hg, fun i x hi => hc i x ?_⟩
  rw [List.getElem?_take] at hi
  split at hi
  · exact hi
  · cases hi

/-- What Same answers. -/
noncomputable def sameR (xs : List Nd) (a b : Int) : Bool := poolB xs && hasI xs a && hasI xs b && ((firstsTo xs xs.length).getD a.toNat 0 == (firstsTo xs xs.length).getD b.toNat 0)

/-- The same of two nodes of a pool that is right. -/
noncomputable def likeR (xs : List Nd) (a b : Int) : Bool := (firstsTo xs xs.length).getD a.toNat 0 == (firstsTo xs xs.length).getD b.toNat 0
theorem sameR_like {xs : List Nd} {a b : Int} (hp : poolB xs = true) (ha : hasI xs a = true) (hb : hasI xs b = true) : sameR xs a b = likeR xs a b := by
  unfold sameR likeR
  rw [hp, ha, hb]
  simp

set_option maxRecDepth 100000 in
set_option maxHeartbeats 1600000 in
theorem psame_any (v : Value) (xs : List Nd) (a b : Int) (w : World) (R : NRow w v xs) (hp : poolB xs = true) (hia : hasI xs a = true) (hib : hasI xs b = true) :
    Calls Try.prog 70 #[.agg #[v], .int .i64 a, .int .i64 b] w fun e w' => e = .returned (.bool (likeR xs a b)) ∧ Below w.heap.size w w' := by
  have R' := R
  obtain ⟨ao, cap, rfl, hcap, _⟩ := R'
  have hB0 : Below w.heap.size w (w.alloc (Obj.cells #[.slice ao xs.length cap] 26)) := (Below.refl _ _).alloc (Nat.le_refl _) _
  have hlen := poolB_len hp
  simp only [hasI, Bool.and_eq_true, decide_eq_true_eq] at hia hib
  obtain ⟨na, rfl⟩ := Int.eq_ofNat_of_zero_le hia.1
  obtain ⟨nb', rfl⟩ := Int.eq_ofNat_of_zero_le hib.1
  go_enter Try.func70, Try.ntmps70
  by_cases hmx : nb' ≤ na
  · have hmx' : (nb' : Int) ≤ na := by omega
    have hM : na < xs.length := by omega
    have F := firsts_any ao cap (xs.take (na + 1)) (w.alloc (Obj.cells #[.slice ao xs.length cap] 26)) ((R.below hB0).take (na + 1) (by omega)) (fun k x hk => poolB_at hp (by rw [List.getElem?_take] at hk; split at hk; exact hk; cases hk)) (by simp; omega)
    rw [firstsTo_take, show (xs.take (na + 1)).length = na + 1 by simp; omega] at F
    have hfl := firstsTo_length xs (na + 1) (by omega)
    have HS : Hid (likeR xs na nb' = ((firstsTo xs (na + 1)).getD na 0 == (firstsTo xs (na + 1)).getD nb' 0)) := by
      unfold Hid likeR
      rw [Int.toNat_natCast, Int.toNat_natCast, firstsTo_prefix xs (na + 1) na (by omega) (by omega), firstsTo_prefix xs (na + 1) nb' (by omega) (by omega)]
    go_wp2_with fail
    refine F.mono ?_
    rintro e w4 ⟨v4, rfl, ho4, hb4⟩
    have hB4 := hB0.trans (hb4.mono hB0.size)
    rcases ho4.2 with ⟨rfl, h0⟩ | ⟨B, capB, cur, rfl, hBb, _⟩
    · omega
    have ea := ho4.cellAt na (by omega)
    rw [iv_get _ _ (by omega)] at ea
    have eb := ho4.cellAt nb' (by omega)
    rw [iv_get _ _ (by omega)] at eb
    clear F hb4 ho4 hia hib
    generalize (firstsTo xs (na + 1)).getD na 0 = fa at ea HS
    generalize (firstsTo xs (na + 1)).getD nb' 0 = fb at eb HS
    go_wp2_with fail
    go_quiet (fail)
    go_wp2
    go_ret
    exact ⟨by rw [HS.out]; rfl, ⟨hB4.os, hB4.tape, hB4.output, hB4.size, hB4.block⟩⟩
  · have hmx' : (na : Int) < nb' := by omega
    have hM : nb' < xs.length := by omega
    have F := firsts_any ao cap (xs.take (nb' + 1)) (w.alloc (Obj.cells #[.slice ao xs.length cap] 26)) ((R.below hB0).take (nb' + 1) (by omega)) (fun k x hk => poolB_at hp (by rw [List.getElem?_take] at hk; split at hk; exact hk; cases hk)) (by simp; omega)
    rw [firstsTo_take, show (xs.take (nb' + 1)).length = nb' + 1 by simp; omega] at F
    have hfl := firstsTo_length xs (nb' + 1) (by omega)
    have HS : Hid (likeR xs na nb' = ((firstsTo xs (nb' + 1)).getD na 0 == (firstsTo xs (nb' + 1)).getD nb' 0)) := by
      unfold Hid likeR
      rw [Int.toNat_natCast, Int.toNat_natCast, firstsTo_prefix xs (nb' + 1) na (by omega) (by omega), firstsTo_prefix xs (nb' + 1) nb' (by omega) (by omega)]
    go_wp2_with fail
    refine F.mono ?_
    rintro e w4 ⟨v4, rfl, ho4, hb4⟩
    have hB4 := hB0.trans (hb4.mono hB0.size)
    rcases ho4.2 with ⟨rfl, h0⟩ | ⟨B, capB, cur, rfl, hBb, _⟩
    · omega
    have ea := ho4.cellAt na (by omega)
    rw [iv_get _ _ (by omega)] at ea
    have eb := ho4.cellAt nb' (by omega)
    rw [iv_get _ _ (by omega)] at eb
    clear F hb4 ho4 hia hib
    generalize (firstsTo xs (nb' + 1)).getD na 0 = fa at ea HS
    generalize (firstsTo xs (nb' + 1)).getD nb' 0 = fb at eb HS
    go_wp2_with fail
    go_quiet (fail)
    go_wp2
    go_ret
    exact ⟨by rw [HS.out]; rfl, ⟨hB4.os, hB4.tape, hB4.output, hB4.size, hB4.block⟩⟩

end Go.Proofs.Ytjigbjnahndpiaa
