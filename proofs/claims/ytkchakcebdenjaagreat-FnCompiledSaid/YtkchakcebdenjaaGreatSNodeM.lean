/-
  Texts that stood by themselves, laid into one.
-/
import Derived.Test.YtkchakcebdenjaaGreatInM
import Derived.Test.YtkchakcebdenjaaGreatShapeM
/-
  Helpers: a definition as 3 cells, a slice of these read as a list, and the contracts of the laws' helpers on them. No condition.
-/
namespace Go.Proofs.YtkchakcebdenjaaGreat
open Go.RowKit
structure Df where
  s : ByteArray
  p : Int
  m : Int
def Df.cs (x : Df) : List Value := [.string x.s, .int .i64 x.p, .int .i64 x.m]
def dfcs (xs : List Df) : List Value := xs.flatMap Df.cs
theorem dfcs_cons (x : Df) (xs : List Df) : dfcs (x :: xs) = x.cs ++ dfcs xs := rfl
theorem dfcs_append (a b : List Df) : dfcs (a ++ b) = dfcs a ++ dfcs b := by simp [dfcs]
theorem dfcs_get (xs : List Df) (i : Nat) (x : Df) (h : xs[i]? = some x) (j : Nat) (hj : j < 3) : (dfcs xs)[i * 3 + j]? = x.cs[j]? := by
  induction xs generalizing i with
  | nil => simp at h
  | cons y ys ih =>
    rw [dfcs_cons]
    cases i with
    | zero =>
      simp at h; subst h
      rw [Nat.zero_mul, Nat.zero_add, List.getElem?_append_left (by simpa [Df.cs] using hj)]
    | succ i =>
      rw [List.getElem?_append_right (by simp [Df.cs]; omega)]
      rw [show (i + 1) * 3 + j - y.cs.length = i * 3 + j by simp [Df.cs]; omega]
      exact ih i (by simpa using h)
theorem Df.one (x : Df) : ∀ u ∈ x.cs, u.oneCell' = true := by
  intro u hu
  simp only [Df.cs, List.mem_cons, List.not_mem_nil, or_false] at hu
  rcases hu with rfl | rfl | rfl <;> rfl
theorem dfcs_one (xs : List Df) : ∀ u ∈ dfcs xs, u.oneCell' = true := by
  intro u hu
  simp only [dfcs, List.mem_flatMap] at hu
  obtain ⟨x, _, hx⟩ := hu
  exact x.one u hx
def DfAt (w : World) (g o : Nat) (x : Df) : Prop :=
  w.cell? ⟨g, o, none⟩ = some (.string x.s) ∧ w.cell? ⟨g, o + 1, none⟩ = some (.int .i64 x.p) ∧ w.cell? ⟨g, o + 2, none⟩ = some (.int .i64 x.m)
theorem DfAt.below {w w' : World} {g o B : Nat} {x : Df} (h : DfAt w g o x) (hb : Below B w w') (hg : g < B) : DfAt w' g o x :=
  ⟨(hb.cell (p := ⟨g, o, none⟩) hg).trans h.1, (hb.cell (p := ⟨g, o + 1, none⟩) hg).trans h.2.1, (hb.cell (p := ⟨g, o + 2, none⟩) hg).trans h.2.2⟩
def DfRow (w : World) (v : Value) (xs : List Df) : Prop :=
  ∃ ao cap, v = .slice ao xs.length cap ∧ (xs.length ≤ cap ∧ (ao = none → cap = 0)) ∧ xs.length ≤ 9223372036854775807 ∧ (∀ x ∈ xs, x.s.size ≤ maxLen) ∧
    (xs ≠ [] → ∃ g o, ao = some ⟨g, o, none⟩ ∧ g < w.heap.size ∧ ∀ i x, xs[i]? = some x → DfAt w g (o + i * 3) x)
theorem DfRow.small {w : World} {v : Value} {xs : List Df} (R : DfRow w v xs) : ∃ ao cap, v = .slice ao xs.length cap := by
  obtain ⟨ao, cap, rfl, _⟩ := R
  exact ⟨ao, cap, rfl⟩
theorem DfRow.below {w w' : World} {v : Value} {xs : List Df} (h : DfRow w v xs) (hb : Below w.heap.size w w') : DfRow w' v xs := by
  obtain ⟨ao, cap, rfl, hc, hm, hz, hcell⟩ := h
  refine ⟨ao, cap, rfl, hc, hm, hz, fun hne => ?_⟩
  obtain ⟨g, o, rfl, hg, hcell⟩ := hcell hne
  exact ⟨g, o, rfl, Nat.lt_of_lt_of_le hg hb.size, fun i x hi => (hcell i x hi).below hb hg⟩
theorem DfRow.of_own {w : World} {base : Nat} {v : Value} {xs : List Df} (h : w.ownsRow base 51 3 v xs.length (dfcs xs)) (hm : xs.length ≤ 9223372036854775807) (hz : ∀ x ∈ xs, x.s.size ≤ maxLen) : DfRow w v xs := by
  rcases h.2 with ⟨rfl, h0⟩ | ⟨g, cap, cur, rfl, hb, hg, hnc, hcm, hcs, htake⟩
  · have : xs = [] := List.eq_nil_of_length_eq_zero h0
    subst this
    exact ⟨none, 0, rfl, by simp, by simp, by simp, fun h => absurd rfl h⟩
  · refine ⟨_, cap, rfl, ⟨hnc, fun h => by cases h⟩, hm, hz, fun _ => ⟨g, 0, rfl, (Array.getElem?_eq_some_iff.1 hg).1, fun i x hi => ?_⟩⟩
    have hl : i < xs.length := (List.getElem?_eq_some_iff.1 hi).1
    have e : ∀ j, j < 3 → w.cell? ⟨g, 0 + i * 3 + j, none⟩ = x.cs[j]? := fun j hj => by
      have := h.cellAt (i * 3 + j) (by omega)
      rw [Nat.zero_add, this, dfcs_get xs i x hi j hj]
    exact ⟨e 0 (by omega), e 1 (by omega), e 2 (by omega)⟩
theorem Tryz.infoDf : (Tryz.prog.info? 51).map (fun i => (i.zero, i.size, i.bytes)) = some (some (.agg #[.string ByteArray.empty, .int .i64 0, .int .i64 0]), 3, 32) := by kernel_rfl
def zeroDf : Df := ⟨ByteArray.empty, 0, 0⟩
def dfcopied (xs : List Df) (j : Nat) : List Df := xs.take j ++ List.replicate (xs.length - j) zeroDf
end Go.Proofs.YtkchakcebdenjaaGreat
/-
  Contracts of impl's nodeFits and PoolOk: when a node and a pool are right.
-/
namespace Go.Proofs.YtkchakcebdenjaaGreat
open Go.RowKit
set_option maxHeartbeats 1600000 in
theorem nodefits_any (x : Nd) (n : Int) (w : World) (hs : x.s.size ≤ maxLen) :
    Calls Tryz.prog 66 #[.agg #[.int .i64 x.k, .int .i64 x.n, .string x.s, .int .i64 x.a, .int .i64 x.b], .int .i64 n] w fun e w' => e = .returned (.bool (nodeB x n)) ∧ Below w.heap.size w w' := by
  go_enter Tryz.func66, Tryz.ntmps66
  go_wp2_with fail
  have hb0 : Below w.heap.size w (w.alloc (Obj.cells #[.int .i64 x.k, .int .i64 x.n, .string x.s, .int .i64 x.a, .int .i64 x.b] 92)) := (Below.refl _ _).alloc (Nat.le_refl _) _
  refine (shapeof_any x.k _).mono ?_
  rintro e w1 ⟨rfl, hb1⟩
  have hbox := (hb1.block w.heap.size (by simp)).trans (heap_alloc_new _ _)
  have hcell : ∀ j, w1.cell? ⟨w.heap.size, j, none⟩ = #[Value.int .i64 x.k, .int .i64 x.n, .string x.s, .int .i64 x.a, .int .i64 x.b][j]? := fun j => cell_of_row w1 _ j _ _ _ hbox
  have c1 := hcell 1
  have c2 := hcell 2
  have c3 := hcell 3
  have c4 := hcell 4
  simp only [List.getElem?_toArray, List.getElem?_cons_succ, List.getElem?_cons_zero] at c1 c2 c3 c4
  have hbl : w.heap.size < w1.heap.size := (Array.getElem?_eq_some_iff.1 hbox).1
  have hB1 : Below w.heap.size w w1 := hb0.trans (hb1.mono (by simp))
  clear hcell hbox hb0 hb1
  by_cases hk : 1 ≤ x.k ∧ x.k ≤ 9
  · rw [shapeV, if_pos hk]
    by_cases h1 : lo x.k ≤ x.n ∧ x.n ≤ hi x.k
    · have HN : Hid (nodeB x n = (nameFB x.s (hasS x.k) && partB x.a (hasA x.k) n && partB x.b (hasB x.k) n)) := by
        unfold Hid nodeB; simp [hk, h1]
      obtain ⟨h1a, h1b⟩ := h1
      go_wp2_with fail
      refine (namefits_any _ _ _ hs).mono ?_
      rintro e w2 ⟨rfl, rfl⟩
      generalize hA : nameFB x.s (hasS x.k) = bA at HN ⊢
      clear hA
      cases bA with
      | false =>
        go_wp2
        go_ret
        exact ⟨by rw [HN.out]; rfl, hB1.alloc hB1.size _⟩
      | true =>
        go_wp2_with fail
        refine (partfits_any _ _ _ _).mono ?_
        rintro e w2 ⟨rfl, rfl⟩
        generalize hA : partB x.a (hasA x.k) n = bA at HN ⊢
        clear hA
        cases bA with
        | false =>
          go_wp2
          go_ret
          exact ⟨by rw [HN.out]; rfl, hB1.alloc hB1.size _⟩
        | true =>
          go_wp2_with fail
          refine (partfits_any _ _ _ _).mono ?_
          rintro e w2 ⟨rfl, rfl⟩
          go_wp2
          go_ret
          exact ⟨by rw [HN.out]; rfl, hB1.alloc hB1.size _⟩
    · have HN : Hid (nodeB x n = false) := by
        unfold Hid nodeB
        rw [Bool.eq_false_iff]
        intro h
        simp only [Bool.and_eq_true, decide_eq_true_eq] at h
        exact h1 ⟨h.1.1.2, h.1.2⟩
      go_wp2_with fail
      all_goals go_ret
      all_goals first | exact ⟨by rw [HN.out]; rfl, hB1.alloc hB1.size _⟩ | (exfalso; omega)
  · have HN : Hid (nodeB x n = false) := by
      unfold Hid nodeB
      rw [Bool.eq_false_iff]
      intro h
      simp only [Bool.and_eq_true, decide_eq_true_eq] at h
      exact hk h.1.1.1
    rw [shapeV, if_neg hk]
    go_wp2_with fail
    all_goals go_ret
    all_goals exact ⟨by rw [HN.out]; rfl, hB1.alloc hB1.size _⟩
set_option maxHeartbeats 1600000 in
theorem ipool_any (v : Value) (xs : List Nd) (w : World) (R : NRow w v xs) :
    Calls Tryz.prog 28 #[.agg #[v]] w fun e w' => e = .returned (.bool (poolB xs)) ∧ Below w.heap.size w w' := by
  have R' := R
  obtain ⟨ao, cap, rfl, hcap, hm, hz, hcell⟩ := R'
  by_cases hlen : xs.length ≤ 3000
  · have HP : Hid (poolB xs = nodesB (xs.drop 0) 0) := by unfold Hid poolB; simp [hlen]
    go_enter Tryz.func28, Tryz.ntmps28
    go_wp2_with fail
    go_loopw [12] (fun i wr => ∃ k : Nat, k ≤ xs.length ∧ i = .int .i64 k ∧ Hid (poolB xs = nodesB (xs.drop k) k) ∧ Below w.heap.size w wr) (fun i _ => xs.length - (intOf i).toNat)
    case atStart => exact ⟨0, by omega, rfl, HP.out, (Below.refl _ _).alloc (Nat.le_refl _) _⟩
    case round =>
      clear HP
      obtain ⟨k, hk, rfl, HP, hb⟩ := hrel
      by_cases hlt : k < xs.length
      · obtain ⟨g, o, rfl, hg, hcell⟩ := hcell (by intro e; subst e; simp at hlt)
        obtain ⟨x, hx⟩ : ∃ x, xs[k]? = some x := ⟨xs[k], by simp [hlt]⟩
        obtain ⟨c0, c1, c2, c3, c4⟩ := (hcell k x hx).below hb hg
        have HS : Hid (nodesB (xs.drop k) k = (nodeB x k && nodesB (xs.drop (k + 1)) (k + 1))) := nodesB_drop xs k x hx
        have hxs := hz x (List.mem_of_getElem? hx)
        clear hcell hx
        go_wp2_with fail
        refine (nodefits_any x _ _ hxs).mono ?_
        rintro e w2 ⟨rfl, hb2⟩
        have hB : Below w.heap.size w w2 := (hb.alloc hb.size _).trans (hb2.mono (by have := hb.size; simp; omega))
        clear c0 c1 c2 c3 c4 hb2
        have HN : Hid (poolB xs = (nodeB x k && nodesB (xs.drop (k + 1)) (k + 1))) := by unfold Hid; rw [HP.out, HS.out]
        clear HS HP
        generalize hA : nodeB x k = bA at HN ⊢
        clear hA
        cases bA with
        | false =>
          go_wp2
          go_ret
          exact ⟨by rw [HN.out]; rfl, hB⟩
        | true =>
          go_wp2
          go_roundw
          case rel => exact ⟨k + 1, by omega, by go_num, HN.out, hB⟩
          case measure => simp [intOf]; omega
      · have e : k = xs.length := by omega
        subst e
        have HT : Hid (poolB xs = true) := by unfold Hid; rw [HP.out, List.drop_length]; rfl
        clear HP
        go_wp2
        go_ret
        exact ⟨by rw [HT.out]; rfl, hb⟩
  · have HP : Hid (poolB xs = false) := by unfold Hid poolB; simp [hlen]
    go_enter Tryz.func28, Tryz.ntmps28
    go_wp2_with fail
    go_ret
    exact ⟨by rw [HP.out]; rfl, (Below.refl _ _).alloc (Nat.le_refl _) _⟩
end Go.Proofs.YtkchakcebdenjaaGreat
/-
  What the sizes of a pool's nodes are, and the contract of impl.SizeOf.
-/
namespace Go.Proofs.YtkchakcebdenjaaGreat
open Go.RowKit
def iv (zs : List Int) : List Value := zs.map (Value.int .i64)
theorem iv_get (zs : List Int) (i : Nat) (h : i < zs.length) : (iv zs)[i]? = some (.int .i64 (zs.getD i 0)) := by simp [iv, List.getD, h]
theorem iv_append (a b : List Int) : iv (a ++ b) = iv a ++ iv b := by simp [iv]
def szA (acc : List Int) (x : Nd) : Int := if hasA x.k then acc.getD x.a.toNat 0 else 0
def szB (acc : List Int) (x : Nd) : Int := if hasB x.k then acc.getD x.b.toNat 0 else 0
def szN (acc : List Int) (x : Nd) : Int := min (1 + szA acc x + szB acc x) 1000000000
def sizes : List Nd → List Int → List Int
  | [], acc => acc
  | x :: xs, acc => sizes xs (acc ++ [szN acc x])
def sizesTo (xs : List Nd) (k : Nat) : List Int := sizes (xs.take k) []
theorem nodesB_get (xs : List Nd) (i0 i : Nat) (x : Nd) (h : nodesB xs i0 = true) (hx : xs[i]? = some x) : nodeB x (i0 + i : Nat) = true := by
  induction xs generalizing i i0 with
  | nil => simp at hx
  | cons y ys ih =>
    simp only [nodesB, Bool.and_eq_true] at h
    cases i with
    | zero => simp at hx; subst hx; exact h.1
    | succ i =>
      have := ih (i0 + 1) i h.2 (by simpa using hx)
      rwa [show i0 + 1 + i = i0 + (i + 1) by omega] at this
theorem poolB_at {xs : List Nd} (h : poolB xs = true) {i : Nat} {x : Nd} (hx : xs[i]? = some x) : nodeB x i = true := by
  simp only [poolB, Bool.and_eq_true] at h
  have := nodesB_get xs 0 i x h.2 hx
  simpa using this
theorem nodeB_B {x : Nd} {n : Int} (h : nodeB x n = true) (ha : hasB x.k = true) : 0 ≤ x.b ∧ x.b < n := by
  simp only [nodeB, Bool.and_eq_true, decide_eq_true_eq] at h
  have := h.2.2
  rw [ha] at this
  simpa [partB] using this
theorem poolB_len {xs : List Nd} (h : poolB xs = true) : xs.length ≤ 3000 := by
  simp only [poolB, Bool.and_eq_true, decide_eq_true_eq] at h; exact h.1
def hasI (xs : List Nd) (v : Int) : Bool := decide (0 ≤ v) && decide (v < xs.length)
def sizeR (xs : List Nd) (v : Int) : Int := if poolB xs && hasI xs v then (sizesTo xs xs.length).getD v.toNat 0 else 0
set_option maxHeartbeats 400000 in
theorem has_any (v : Value) (xs : List Nd) (a : Int) (w : World) (R : NRow w v xs) :
    Calls Tryz.prog 67 #[.agg #[v], .int .i64 a] w fun e w' => e = .returned (.bool (hasI xs a)) ∧ Below w.heap.size w w' := by
  obtain ⟨ao, cap, rfl, _⟩ := R
  go_enter Tryz.func67, Tryz.ntmps67
  go_wp2
  all_goals go_ret
  all_goals (refine ⟨retB ?_, (Below.refl _ _).alloc (Nat.le_refl _) _⟩; rw [Bool.eq_iff_iff]; simp [hasI, *]; try omega)
end Go.Proofs.YtkchakcebdenjaaGreat
/-
  Contracts of spec's l2Node and PoolOk: when a node and a pool are right.
-/
namespace Go.Proofs.YtkchakcebdenjaaGreat
open Go.RowKit
set_option maxHeartbeats 3200000 in
theorem snode_cells (k n a b : Int) (s : ByteArray) (m : Nat) (w : World) (hs : s.size ≤ maxLen) (hm : m ≤ 9223372036854775807) :
    Calls Tryz.prog 56 #[.agg #[.int .i64 k, .int .i64 n, .string s, .int .i64 a, .int .i64 b], .int .i64 m] w fun e w' => e = .returned (.bool (nodeB ⟨k, n, s, a, b⟩ m)) ∧ Below w.heap.size w w' := by
  go_enter Tryz.func56, Tryz.ntmps56
  go_wp2_with fail
  refine (lin_any _ _ _ _).mono ?_
  rintro e w1 ⟨rfl, rfl⟩
  go_wp2_with fail
  refine (lin_any _ _ _ _).mono ?_
  rintro e w1 ⟨rfl, rfl⟩
  by_cases h1 : k = 1
  · subst h1
    go_wp2_with fail
    all_goals go_ret
    all_goals (refine ⟨retB ?_, (Below.refl _ _).alloc (Nat.le_refl _) _⟩; rw [Bool.eq_iff_iff]; simp [nodeB, nameFB, partB, lo, hi, hasS, hasA, hasB, *]; try first | omega | (by_cases hsl : s.toList = [] <;> simp [hsl] <;> omega))
  by_cases h2 : k = 2
  · subst h2
    go_wp2_with fail
    all_goals first | (refine (lin_any _ _ _ _).mono ?_; rintro e w1 ⟨rfl, rfl⟩; go_wp2_with fail) | skip
    all_goals go_ret
    all_goals (refine ⟨retB ?_, (Below.refl _ _).alloc (Nat.le_refl _) _⟩; rw [Bool.eq_iff_iff]; simp [nodeB, nameFB, partB, lo, hi, hasS, hasA, hasB, *]; try first | omega | (by_cases hsl : s.toList = [] <;> simp [hsl] <;> omega))
  by_cases h3 : k = 3
  · subst h3
    go_wp2_with fail
    all_goals first | (refine (lin_any _ _ _ _).mono ?_; rintro e w1 ⟨rfl, rfl⟩; go_wp2_with fail) | skip
    all_goals go_ret
    all_goals (refine ⟨retB ?_, (Below.refl _ _).alloc (Nat.le_refl _) _⟩; rw [Bool.eq_iff_iff]; simp [nodeB, nameFB, partB, lo, hi, hasS, hasA, hasB, *]; try first | omega | (by_cases hsl : s.toList = [] <;> simp [hsl] <;> omega))
  by_cases h4 : k = 4
  · subst h4
    go_wp2_with fail
    all_goals first | (refine (sname_any s _ hs).mono ?_; rintro e w1 ⟨rfl, rfl⟩; go_wp2_with fail) | skip
    all_goals go_ret
    all_goals (refine ⟨retB ?_, (Below.refl _ _).alloc (Nat.le_refl _) _⟩; rw [Bool.eq_iff_iff]; simp [nodeB, nameFB, partB, lo, hi, hasS, hasA, hasB, *]; try first | omega | (by_cases hsl : s.toList = [] <;> simp [hsl] <;> omega))
  by_cases h5 : k = 5
  · subst h5
    go_wp2_with fail
    all_goals go_ret
    all_goals (refine ⟨retB ?_, (Below.refl _ _).alloc (Nat.le_refl _) _⟩; rw [Bool.eq_iff_iff]; simp [nodeB, nameFB, partB, lo, hi, hasS, hasA, hasB, *]; try first | omega | (by_cases hsl : s.toList = [] <;> simp [hsl] <;> omega))
  by_cases h6 : k = 6
  · subst h6
    go_wp2_with fail
    all_goals first | (refine (lin_any _ _ _ _).mono ?_; rintro e w1 ⟨rfl, rfl⟩; go_wp2_with fail) | skip
    all_goals go_ret
    all_goals (refine ⟨retB ?_, (Below.refl _ _).alloc (Nat.le_refl _) _⟩; rw [Bool.eq_iff_iff]; simp [nodeB, nameFB, partB, lo, hi, hasS, hasA, hasB, *]; try first | omega | (by_cases hsl : s.toList = [] <;> simp [hsl] <;> omega))
  by_cases h7 : k = 7
  · subst h7
    go_wp2_with fail
    all_goals go_ret
    all_goals (refine ⟨retB ?_, (Below.refl _ _).alloc (Nat.le_refl _) _⟩; rw [Bool.eq_iff_iff]; simp [nodeB, nameFB, partB, lo, hi, hasS, hasA, hasB, *]; try first | omega | (by_cases hsl : s.toList = [] <;> simp [hsl] <;> omega))
  by_cases h8 : k = 8
  · subst h8
    go_wp2_with fail
    all_goals first | (refine (lin_any _ _ _ _).mono ?_; rintro e w1 ⟨rfl, rfl⟩; go_wp2_with fail) | skip
    all_goals go_ret
    all_goals (refine ⟨retB ?_, (Below.refl _ _).alloc (Nat.le_refl _) _⟩; rw [Bool.eq_iff_iff]; simp [nodeB, nameFB, partB, lo, hi, hasS, hasA, hasB, *]; try first | omega | (by_cases hsl : s.toList = [] <;> simp [hsl] <;> omega))
  by_cases h9 : k = 9
  · subst h9
    go_wp2_with fail
    all_goals first | (refine (lin_any _ _ _ _).mono ?_; rintro e w1 ⟨rfl, rfl⟩; go_wp2_with fail) | skip
    all_goals go_ret
    all_goals (refine ⟨retB ?_, (Below.refl _ _).alloc (Nat.le_refl _) _⟩; rw [Bool.eq_iff_iff]; simp [nodeB, nameFB, partB, lo, hi, hasS, hasA, hasB, *]; try first | omega | (by_cases hsl : s.toList = [] <;> simp [hsl] <;> omega))
  have HN : Hid (nodeB ⟨k, n, s, a, b⟩ m = false) := by
    unfold Hid nodeB
    rw [Bool.eq_false_iff]
    intro h
    simp only [Bool.and_eq_true, decide_eq_true_eq] at h
    have := h.1.1.1
    omega
  go_wp2_with fail
  go_ret
  exact ⟨by rw [HN.out]; rfl, (Below.refl _ _).alloc (Nat.le_refl _) _⟩
theorem snode_any (x : Nd) (m : Nat) (w : World) (hs : x.s.size ≤ maxLen) (hm : m ≤ 9223372036854775807) :
    Calls Tryz.prog 56 #[.agg #[.int .i64 x.k, .int .i64 x.n, .string x.s, .int .i64 x.a, .int .i64 x.b], .int .i64 m] w fun e w' => e = .returned (.bool (nodeB x m)) ∧ Below w.heap.size w w' :=
  snode_cells x.k x.n x.a x.b x.s m w hs hm
set_option maxHeartbeats 1600000 in
theorem spool_any (v : Value) (xs : List Nd) (w : World) (R : NRow w v xs) :
    Calls Tryz.prog 22 #[.agg #[v]] w fun e w' => e = .returned (.bool (poolB xs)) ∧ Below w.heap.size w w' := by
  have R' := R
  obtain ⟨ao, cap, rfl, hcap, hm, hz, hcell⟩ := R'
  go_enter Tryz.func22, Tryz.ntmps22
  go_wp2_with fail
  go_loopw [3] (fun i wr => ∃ k : Nat, k ≤ xs.length ∧ i = .int .i64 k ∧ Hid (nodesB xs 0 = nodesB (xs.drop k) k) ∧ wr.cell? ⟨w.heap.size, 0, none⟩ = some (.slice ao xs.length cap) ∧ Below w.heap.size w wr ∧ w.heap.size < wr.heap.size) (fun i _ => xs.length - (intOf i).toNat)
  case atStart => exact ⟨0, by omega, rfl, rfl, by simp, (Below.refl _ _).alloc (Nat.le_refl _) _, by simp⟩
  case round =>
    obtain ⟨k, hk, rfl, HP, hbox, hb, hbl⟩ := hrel
    by_cases hlt : k < xs.length
    · obtain ⟨g, o, rfl, hg, hcell⟩ := hcell (by intro e; subst e; simp at hlt)
      obtain ⟨x, hx⟩ : ∃ x, xs[k]? = some x := ⟨xs[k], by simp [hlt]⟩
      obtain ⟨c0, c1, c2, c3, c4⟩ := (hcell k x hx).below hb hg
      have HS : Hid (nodesB (xs.drop k) k = (nodeB x k && nodesB (xs.drop (k + 1)) (k + 1))) := nodesB_drop xs k x hx
      have hxs := hz x (List.mem_of_getElem? hx)
      clear hcell hx
      go_wp2_with fail
      refine (snode_any x _ _ hxs (by omega)).mono ?_
      rintro e w2 ⟨rfl, hb2⟩
      have hB : Below w.heap.size w w2 := hb.trans (hb2.mono (by omega))
      have hbox2 := (hb2.cell (p := ⟨w.heap.size, 0, none⟩) hbl).trans hbox
      have hbl2 := Nat.lt_of_lt_of_le hbl hb2.size
      have HN : Hid (nodesB xs 0 = (nodeB x k && nodesB (xs.drop (k + 1)) (k + 1))) := by unfold Hid; rw [HP.out, HS.out]
      clear c0 c1 c2 c3 c4 hb2 hbox HS HP
      generalize hA : nodeB x k = bA at HN ⊢
      clear hA
      cases bA with
      | false =>
        have HF : Hid (poolB xs = false) := by unfold Hid poolB; rw [HN.out]; simp
        clear HN
        go_wp2
        go_ret
        exact ⟨by rw [HF.out]; rfl, hB⟩
      | true =>
        go_wp2
        go_roundw
        case rel => exact ⟨k + 1, by omega, by go_num, HN.out, hbox2, hB, hbl2⟩
        case measure => simp [intOf]; omega
    · have e : k = xs.length := by omega
      have HT : Hid (poolB xs = decide (xs.length ≤ 3000)) := by unfold Hid poolB; rw [HP.out, e, List.drop_length]; simp [nodesB]
      clear HP
      go_wp2
      go_ret
      refine ⟨retB ?_, hb⟩
      rw [HT.out, Bool.eq_iff_iff]
      simp
      omega
end Go.Proofs.YtkchakcebdenjaaGreat
