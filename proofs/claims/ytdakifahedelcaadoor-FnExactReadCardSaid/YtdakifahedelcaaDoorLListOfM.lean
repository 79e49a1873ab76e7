/-
  Texts that stood by themselves, laid into one.
-/
import Derived.Test.YtdakifahedelcaaDoorWithM
import Derived.Test.YtdakifahedelcaaDoorLMakeM
/-
  What the sizes of a pool's nodes are, and the contract of impl.SizeOf.
-/
namespace Go.Proofs.YtdakifahedelcaaDoor
open Go.RowKit

/-- The cells of ints. -/
def iv (zs : List Int) : List Value := zs.map (Value.int .i64)
theorem iv_length (zs : List Int) : (iv zs).length = zs.length := by simp [iv]
theorem iv_get (zs : List Int) (i : Nat) (h : i < zs.length) : (iv zs)[i]? = some (.int .i64 (zs.getD i 0)) := by simp [iv, List.getD, h]
theorem iv_set (zs : List Int) (i : Nat) (z : Int) : (iv zs).set i (.int .i64 z) = iv (zs.set i z) := by simp [iv, List.map_set]
theorem iv_append (a b : List Int) : iv (a ++ b) = iv a ++ iv b := by simp [iv]
theorem iv_one (zs : List Int) : ∀ u ∈ iv zs, u.oneCell' = true := by
  intro u hu
  simp only [iv, List.mem_map] at hu
  obtain ⟨z, _, rfl⟩ := hu
  rfl

/-- The size of the node x, when acc are those ahead of it. -/
def szA (acc : List Int) (x : Nd) : Int := if hasA x.k then acc.getD x.a.toNat 0 else 0
def szB (acc : List Int) (x : Nd) : Int := if hasB x.k then acc.getD x.b.toNat 0 else 0
def szN (acc : List Int) (x : Nd) : Int := min (1 + szA acc x + szB acc x) 1000000000
def sizes : List Nd → List Int → List Int
  | [], acc => acc
  | x :: xs, acc => sizes xs (acc ++ [szN acc x])
/-- The sizes of the first k nodes. -/
def sizesTo (xs : List Nd) (k : Nat) : List Int := sizes (xs.take k) []
theorem sizes_append (a b : List Nd) (acc : List Int) : sizes (a ++ b) acc = sizes b (sizes a acc) := by
  induction a generalizing acc with
  | nil => rfl
  | cons x a ih => exact ih _
theorem sizes_length (a : List Nd) (acc : List Int) : (sizes a acc).length = acc.length + a.length := by
  induction a generalizing acc with
  | nil => simp [sizes]
  | cons x a ih => simp only [sizes]; rw [ih]; simp; omega
theorem sizesTo_length (xs : List Nd) (k : Nat) (h : k ≤ xs.length) : (sizesTo xs k).length = k := by
  unfold sizesTo; rw [sizes_length]; simp; omega
theorem sizesTo_succ (xs : List Nd) (k : Nat) (x : Nd) (h : xs[k]? = some x) : sizesTo xs (k + 1) = sizesTo xs k ++ [szN (sizesTo xs k) x] := by
  obtain ⟨hl, he⟩ := List.getElem?_eq_some_iff.1 h
  unfold sizesTo
  rw [List.take_succ_eq_append_getElem hl, sizes_append, he]
  rfl
theorem getD_mem_bounds (acc : List Int) (i : Nat) (h : ∀ z ∈ acc, 1 ≤ z ∧ z ≤ 1000000000) : 0 ≤ acc.getD i 0 ∧ acc.getD i 0 ≤ 1000000000 := by
  rw [List.getD_eq_getElem?_getD]
  cases he : acc[i]? with
  | none => simp
  | some z => have := h z (List.mem_of_getElem? he); simp; omega
theorem szA_bounds (acc : List Int) (x : Nd) (h : ∀ z ∈ acc, 1 ≤ z ∧ z ≤ 1000000000) : 0 ≤ szA acc x ∧ szA acc x ≤ 1000000000 := by
  unfold szA; split
  · exact getD_mem_bounds acc _ h
  · omega
theorem szB_bounds (acc : List Int) (x : Nd) (h : ∀ z ∈ acc, 1 ≤ z ∧ z ≤ 1000000000) : 0 ≤ szB acc x ∧ szB acc x ≤ 1000000000 := by
  unfold szB; split
  · exact getD_mem_bounds acc _ h
  · omega
theorem szN_bounds (acc : List Int) (x : Nd) (h : ∀ z ∈ acc, 1 ≤ z ∧ z ≤ 1000000000) : 1 ≤ szN acc x ∧ szN acc x ≤ 1000000000 := by
  have h1 := szA_bounds acc x h
  have h2 := szB_bounds acc x h
  unfold szN; omega
theorem sizes_bounds (a : List Nd) (acc : List Int) (h : ∀ z ∈ acc, 1 ≤ z ∧ z ≤ 1000000000) : ∀ z ∈ sizes a acc, 1 ≤ z ∧ z ≤ 1000000000 := by
  induction a generalizing acc with
  | nil => exact h
  | cons x a ih =>
    refine ih _ fun z hz => ?_
    simp only [List.mem_append, List.mem_singleton] at hz
    rcases hz with hz | rfl
    · exact h z hz
    · exact szN_bounds acc x h
theorem sizesTo_bounds (xs : List Nd) (k : Nat) : ∀ z ∈ sizesTo xs k, 1 ≤ z ∧ z ≤ 1000000000 := sizes_bounds _ _ (by simp)

theorem nodesB_get (xs : List Nd) (i0 i : Nat) (x : Nd) (h : nodesB xs i0 = true) (hx : xs[i]? = some x) : nodeB x (i0 + i : Nat) = true := by
  induction xs generalizing i i0 with
  | nil => simp at hx
  | cons y ys ih =>
    simp only [nodesB, Bool.and_eq_true] at h
    cases i with
    | zero => simp at hx; subst hx; exact h.1
    | succ i =>
      have := ih (i0 + 1) i h.2 (by simpa using hx)
      rwa [show i0 + 1 + i = i0 + (i + 1) by omega] at this
theorem poolB_at {xs : List Nd} (h : poolB xs = true) {i : Nat} {x : Nd} (hx : xs[i]? = some x) : nodeB x i = true := by
  simp only [poolB, Bool.and_eq_true] at h
  have := nodesB_get xs 0 i x h.2 hx
  simpa using this
theorem nodeB_kind {x : Nd} {n : Int} (h : nodeB x n = true) : 1 ≤ x.k ∧ x.k ≤ 9 := by
  simp only [nodeB, Bool.and_eq_true, decide_eq_true_eq] at h
  exact h.1.1.1
theorem nodeB_A {x : Nd} {n : Int} (h : nodeB x n = true) (ha : hasA x.k = true) : 0 ≤ x.a ∧ x.a < n := by
  simp only [nodeB, Bool.and_eq_true, decide_eq_true_eq] at h
  have := h.2.1.2
  rw [ha] at this
  simpa [partB] using this
theorem nodeB_B {x : Nd} {n : Int} (h : nodeB x n = true) (ha : hasB x.k = true) : 0 ≤ x.b ∧ x.b < n := by
  simp only [nodeB, Bool.and_eq_true, decide_eq_true_eq] at h
  have := h.2.2
  rw [ha] at this
  simpa [partB] using this
theorem poolB_len {xs : List Nd} (h : poolB xs = true) : xs.length ≤ 3000 := by
  simp only [poolB, Bool.and_eq_true, decide_eq_true_eq] at h; exact h.1

/-- v is a node of xs. -/
def hasI (xs : List Nd) (v : Int) : Bool := decide (0 ≤ v) && decide (v < xs.length)
/-- What SizeOf answers. -/
def sizeR (xs : List Nd) (v : Int) : Int := if poolB xs && hasI xs v then (sizesTo xs xs.length).getD v.toNat 0 else 0
theorem sizesTo_prefix (xs : List Nd) (k i : Nat) (hk : k ≤ xs.length) (hi : i < k) : (sizesTo xs xs.length).getD i 0 = (sizesTo xs k).getD i 0 := by
  have e : sizesTo xs xs.length = sizes (xs.drop k) (sizesTo xs k) := by
    unfold sizesTo
    rw [List.take_length, ← sizes_append, List.take_append_drop]
  rw [e]
  have hl := sizesTo_length xs k hk
  generalize sizesTo xs k = acc at hl ⊢
  generalize xs.drop k = b
  clear e
  have gen : ∀ (b : List Nd) (acc : List Int), i < acc.length → (sizes b acc).getD i 0 = acc.getD i 0 := by
    intro b
    induction b with
    | nil => intro acc _; rfl
    | cons y b ih =>
      intro acc h
      simp only [sizes]
      rw [ih _ (by simp; omega)]
      simp only [List.getD_eq_getElem?_getD]
      rw [List.getElem?_append_left h]
  exact gen b acc (by omega)

set_option maxHeartbeats 400000 in
theorem has_any (v : Value) (xs : List Nd) (a : Int) (w : World) (R : NRow w v xs) :
    Calls Tryd.prog 35 #[.agg #[v], .int .i64 a] w fun e w' => e = .returned (.bool (hasI xs a)) ∧ Below w.heap.size w w' := by
  obtain ⟨ao, cap, rfl, _⟩ := R
  go_enter Tryd.func35, Tryd.ntmps35
  go_wp2
  all_goals go_ret
  all_goals (refine ⟨retB ?_, (Below.refl _ _).alloc (Nat.le_refl _) _⟩; rw [Bool.eq_iff_iff]; simp [hasI, *]; try omega)
end Go.Proofs.YtdakifahedelcaaDoor

/-
  What a list is read as, and the contracts of impl.ListOf and spec.ListOf.
-/
namespace Go.Proofs.YtdakifahedelcaaDoor
open Go.RowKit

theorem Tryd.infoI2 : (Tryd.prog.info? 3).map (fun i => (i.zero, i.size, i.bytes)) = some (some (.int .i64 0), 1, 8) := by kernel_rfl

/-- The values from the node j on, behind acc; none when it does not end with a KNil. -/
def chain (xs : List Nd) : Nat → Nat → List Int → Option (List Int)
  | 0, _, _ => none
  | f + 1, j, acc => match xs[j]? with
    | none => none
    | some x => if x.k = 5 then chain xs f x.b.toNat (acc ++ [x.a]) else if x.k = 1 then some acc else none
def chainR (xs : List Nd) (v : Nat) : List Int × Bool := match chain xs (v + 1) v [] with
  | some l => (l, true)
  | none => ([], false)
/-- What ListOf answers. -/
def listR (xs : List Nd) (v : Int) : List Int × Bool := if poolB xs && hasI xs v then chainR xs v.toNat else ([], false)
theorem chain_pair (xs : List Nd) (f j : Nat) (acc : List Int) (x : Nd) (hx : xs[j]? = some x) (h5 : x.k = 5) (hf : j < f) : chain xs f j acc = chain xs (f - 1) x.b.toNat (acc ++ [x.a]) := by
  cases f with
  | zero => omega
  | succ f => simp [chain, hx, h5]
theorem chain_nil (xs : List Nd) (f j : Nat) (acc : List Int) (x : Nd) (hx : xs[j]? = some x) (h1 : x.k = 1) (hf : j < f) : chain xs f j acc = some acc := by
  cases f with
  | zero => omega
  | succ f => simp [chain, hx, h1]
theorem chain_none (xs : List Nd) (f j : Nat) (acc : List Int) (x : Nd) (hx : xs[j]? = some x) (h5 : ¬ x.k = 5) (h1 : ¬ x.k = 1) (hf : j < f) : chain xs f j acc = none := by
  cases f with
  | zero => omega
  | succ f => simp [chain, hx, h5, h1]

set_option maxHeartbeats 400000 in
theorem shas_all (v : Value) (xs : List Nd) (a : Int) (w : World) (R : NRow w v xs) :
    Calls Tryd.prog 37 #[.agg #[v], .int .i64 a] w fun e w' => e = .returned (.bool (hasI xs a)) ∧ Below w.heap.size w w' := by
  obtain ⟨ao, cap, rfl, _, hm, _⟩ := R
  go_enter Tryd.func37, Tryd.ntmps37
  go_wp2_with fail
  refine (lin_any _ _ _ _).mono ?_
  rintro e w1 ⟨rfl, rfl⟩
  go_wp2
  go_ret
  refine ⟨retB ?_, (Below.refl _ _).alloc (Nat.le_refl _) _⟩
  rw [Bool.eq_iff_iff]
  simp [hasI]
  omega

end Go.Proofs.YtdakifahedelcaaDoor

/-
  Contracts of the laws' own helpers eqIntS, markIntS, heldIntS.
-/
namespace Go.Proofs.YtdakifahedelcaaDoor
open Go.RowKit

/-- The slice value v reads in w as the ints zs. -/
def IRow (w : World) (v : Value) (zs : List Int) : Prop :=
  ∃ ao cap, v = .slice ao zs.length cap ∧ (zs.length ≤ cap ∧ (ao = none → cap = 0)) ∧ zs.length ≤ 9223372036854775807 ∧ (zs ≠ [] → ∃ g o, ao = some ⟨g, o, none⟩ ∧ g < w.heap.size ∧ ∀ i, i < zs.length → w.cell? ⟨g, o + i, none⟩ = some (.int .i64 (zs.getD i 0)))
theorem IRow.below {w w' : World} {v : Value} {zs : List Int} (h : IRow w v zs) (hb : Below w.heap.size w w') : IRow w' v zs := by
  obtain ⟨ao, cap, rfl, hc, hm, hcell⟩ := h
  refine ⟨ao, cap, rfl, hc, hm, fun hne => ?_⟩
  obtain ⟨g, o, rfl, hg, hcell⟩ := hcell hne
  exact ⟨g, o, rfl, Nat.lt_of_lt_of_le hg hb.size, fun i hi => (hb.cell (p := ⟨g, o + i, none⟩) hg).trans (hcell i hi)⟩
theorem IRow.of_own {w : World} {base : Nat} {v : Value} {zs : List Int} (h : w.ownsRow base 3 1 v zs.length (iv zs)) (hm : zs.length ≤ 9223372036854775807) : IRow w v zs := by
  rcases h.2 with ⟨rfl, h0⟩ | ⟨g, cap, cur, rfl, hb, hg, hnc, hcm, hcs, htake⟩
  · have : zs = [] := List.eq_nil_of_length_eq_zero h0
    subst this
    exact ⟨none, 0, rfl, by simp, by simp, fun h => absurd rfl h⟩
  · refine ⟨_, cap, rfl, ⟨hnc, fun h => by cases h⟩, hm, fun _ => ⟨g, 0, rfl, (Array.getElem?_eq_some_iff.1 hg).1, fun i hi => ?_⟩⟩
    have := h.cellAt i (by omega)
    rw [Nat.zero_add, this, iv_get zs i hi]

set_option maxHeartbeats 400000 in
theorem eqints_any (va vb : Value) (zs : List Int) (w : World) (ha : IRow w va zs) (hb : IRow w vb zs) :
    Calls Tryd.prog 23 #[va, vb] w fun e w' => e = .returned (.bool true) ∧ Below w.heap.size w w' := by
  obtain ⟨aa, ca, rfl, hca, hm, hcella⟩ := ha
  obtain ⟨ab, cb, rfl, hcb, _, hcellb⟩ := hb
  by_cases hne : zs = []
  · subst hne
    go_enter Tryd.func23, Tryd.ntmps23
    go_wp2
    refine wp_loop_rounds 1 ?_
    rw [rounds_succ]
    go_wp2
    go_ret
    exact ⟨rfl, Below.refl _ _⟩
  · obtain ⟨ga, oa, rfl, hga, hcella⟩ := hcella hne
    obtain ⟨gb, ob, rfl, hgb, hcellb⟩ := hcellb hne
    clear hne
    have hn : ((zs.length : Int) != (zs.length : Int)) = false := by simp
    go_enter Tryd.func23, Tryd.ntmps23
    go_wp2
    go_loopw [5] (fun i wr => ∃ k n : Nat, k ≤ zs.length ∧ i = .int .i64 k ∧ wr = w.drewN n) (fun i _ => zs.length - (intOf i).toNat)
    case atStart => exact ⟨0, 0, by omega, rfl, rfl⟩
    case round =>
      obtain ⟨k, n, hk, rfl, rfl⟩ := hrel
      by_cases hlt : k < zs.length
      · have h1 := hcella k hlt
        have h2 := hcellb k hlt
        clear hcella hcellb
        go_wp2
        go_quiet (fail)
        go_wp2
        go_roundw
        case rel => exact ⟨k + 1, _, by omega, by go_num, rfl⟩
        case measure => simp [intOf]; omega
      · go_wp2
        go_ret
        exact ⟨rfl, ⟨rfl, rfl, rfl, Nat.le_refl _, fun _ _ => rfl⟩⟩

/-- What lies in a slice of ints behind markIntS from k on, when i of them are written and zs stood there. -/
def imarked (k : Int) (zs : List Int) (i : Nat) : List Int := (List.range i).map (fun (j : Nat) => k + (j : Int)) ++ zs.drop i
theorem imarked_zero (k : Int) (zs : List Int) : imarked k zs 0 = zs := by simp [imarked]
theorem imarked_length (k : Int) (zs : List Int) (i : Nat) (h : i ≤ zs.length) : (imarked k zs i).length = zs.length := by simp [imarked]; omega
theorem imarked_set (k : Int) (zs : List Int) (i : Nat) (h : i < zs.length) : (imarked k zs i).set i (k + (i : Int)) = imarked k zs (i + 1) := by
  unfold imarked
  rw [List.range_succ, List.map_append, List.set_append_right _ _ (by simp), List.drop_eq_getElem_cons h, List.append_assoc]
  have e : i - (List.map (fun (j : Nat) => k + (j : Int)) (List.range i)).length = 0 := by simp
  rw [e]
  rfl
theorem imarked_get (k : Int) (zs : List Int) (i : Nat) (h : i < zs.length) : (imarked k zs zs.length).getD i 0 = k + (i : Int) := by
  simp [imarked, List.getD, h]

set_option maxHeartbeats 400000 in
theorem markints_any (v : Value) (k : Int) (base : Nat) (zs : List Int) (w : World) (h : w.ownsRow base 3 1 v zs.length (iv zs)) (hm : zs.length ≤ 4194304) (hk0 : 0 ≤ k) (hk : k ≤ 2305843009213693952) :
    Calls Tryd.prog 25 #[v, .int .i64 k] w fun e w' => e = .returned (.int .i64 (k + zs.length)) ∧ w'.ownsRow base 3 1 v zs.length (iv (imarked k zs zs.length)) ∧ w.grownBy w' v.ownBlock := by
  rcases h.2 with ⟨rfl, h0⟩ | ⟨g, cap, cur, rfl, hb, hg, hnc, hcm, hcs, htake⟩
  · have : zs = [] := List.eq_nil_of_length_eq_zero h0
    subst this
    go_enter Tryd.func25, Tryd.ntmps25
    go_wp2
    refine wp_loop_rounds 1 ?_
    rw [rounds_succ]
    go_wp2
    go_ret
    exact ⟨by simp, h, World.grownBy.refl _ _⟩
  · clear hg hcs htake
    go_enter Tryd.func25, Tryd.ntmps25
    go_wp2
    go_loopw [1, 5] (fun q i wr => ∃ j : Nat, j ≤ zs.length ∧ i = .int .i64 j ∧ q = .int .i64 (k + j) ∧ wr.ownsRow base 3 1 (.slice (some ⟨g, 0, none⟩) zs.length cap) zs.length (iv (imarked k zs j)) ∧ w.grownBy wr (some g)) (fun _ i _ => zs.length - (intOf i).toNat)
    case atStart => exact ⟨0, by omega, rfl, by simp, by rw [imarked_zero]; exact h, World.grownBy.refl _ _⟩
    case round =>
      obtain ⟨j, hj, rfl, rfl, hown, hbel⟩ := hrel
      by_cases hlt : j < zs.length
      · have hc := hown.cellAt j (by omega)
        rw [iv_get _ _ (by rw [imarked_length _ _ _ hj]; exact hlt)] at hc
        have hf := hown.frozenAt j
        have hs := hown.stored j (.int .i64 (k + (j : Int)))
        rw [iv_set, imarked_set k zs j hlt] at hs
        go_wp2
        go_roundw
        case rel => exact ⟨j + 1, by omega, by go_num, by go_num, hs.1, hbel.trans hs.2⟩
        case measure => simp [intOf]; omega
      · go_wp2
        go_ret
        have : j = zs.length := by omega
        subst this
        exact ⟨rfl, hown, hbel⟩

set_option maxHeartbeats 400000 in
theorem heldints_any (v : Value) (k : Int) (ys : List Int) (w : World) (h : IRow w v (imarked k ys ys.length)) (hm : ys.length ≤ 4194304) (hk0 : 0 ≤ k) (hk : k ≤ 2305843009213693952) :
    Calls Tryd.prog 27 #[v, .int .i64 k] w fun e w' => e = .returned (.int .i64 (k + ys.length)) ∧ w' = w := by
  obtain ⟨ao, cap, rfl, hcap, _, hcell⟩ := h
  rw [imarked_length _ _ _ (Nat.le_refl _)] at hcap hcell ⊢
  by_cases hne : ys = []
  · subst hne
    go_enter Tryd.func27, Tryd.ntmps27
    go_wp2
    refine wp_loop_rounds 1 ?_
    rw [rounds_succ]
    go_wp2
    go_ret
    exact ⟨by simp, rfl⟩
  · obtain ⟨g, o, rfl, hg, hcell⟩ := hcell (by intro e; apply hne; have := congrArg List.length e; rw [imarked_length _ _ _ (Nat.le_refl _)] at this; exact List.eq_nil_of_length_eq_zero this)
    clear hne
    go_enter Tryd.func27, Tryd.ntmps27
    go_wp2
    go_loop [1, 5] (fun q i => ∃ j : Nat, j ≤ ys.length ∧ i = .int .i64 j ∧ q = .int .i64 (k + j)) (fun _ i => ys.length - (intOf i).toNat)
    case atStart => exact ⟨0, by omega, rfl, by simp⟩
    case round =>
      obtain ⟨j, hj, rfl, rfl⟩ := hrel
      by_cases hlt : j < ys.length
      · have hc := hcell j hlt
        rw [imarked_get _ _ _ hlt] at hc
        clear hcell
        go_wp2
        go_round
        case rel => exact ⟨j + 1, by omega, by go_num, by go_num⟩
        case measure => simp [intOf]; omega
      · go_wp2
        go_ret
        have : j = ys.length := by omega
        subst this
        exact ⟨rfl, rfl⟩
end Go.Proofs.YtdakifahedelcaaDoor

/-
  The law FnExactListOf, walked: at every argument the law returns true.
-/
namespace Go.Proofs.YtdakifahedelcaaDoor
open Go.RowKit

/-- A slice of ints of the call's own, its row between lo and hi. -/
def OwnI (w : World) (lo hi : Nat) (v : Value) (zs : List Int) : Prop := w.ownsRow lo 3 1 v zs.length (iv zs) ∧ (∀ k, v.ownBlock = some k → k < hi)
theorem OwnI.mk' {w : World} {lo : Nat} {v : Value} {zs : List Int} (h : w.ownsRow lo 3 1 v zs.length (iv zs)) : OwnI w lo w.heap.size v zs := ⟨h, fun k hk => (h.lt k hk).2⟩
theorem OwnI.below {w w' : World} {lo hi : Nat} {v : Value} {zs : List Int} (h : OwnI w lo hi v zs) (hb : Below w.heap.size w w') : OwnI w' lo hi v zs := ⟨own_below h.1 hb, h.2⟩
theorem OwnI.row {w : World} {lo hi : Nat} {v : Value} {zs : List Int} (h : OwnI w lo hi v zs) (hm : zs.length ≤ 4194304) : IRow w v zs := IRow.of_own h.1 (by omega)
theorem own_two {w : World} {B B' : Nat} {e e' : TypeId} {k k' : Nat} {v v' : Value} {n n' : Nat} {xs xs' : List Value} (h : w.ownsRow B e k v n xs) (h' : w.ownsRow B' e' k' v' n' xs') (hne : e ≠ e') : v.ownBlock = none ∨ v.ownBlock ≠ v'.ownBlock := by
  rcases h.2 with ⟨rfl, _⟩ | ⟨g, cap, cur, rfl, hB, hg, _⟩
  · exact Or.inl rfl
  · exact Or.inr fun e => own_ne h' hg hne e.symm
theorem OwnI.keptN {w w' : World} {lo hi lo' hi' b' : Nat} {v v' : Value} {zs : List Int} {xs' : List Nd} (h : OwnI w lo hi v zs) (V : Var w b' lo' hi' v' xs') (hg : w.grownBy w' v'.ownBlock) : OwnI w' lo hi v zs :=
  ⟨h.1.kept hg (own_two h.1 V.2.1 (by decide)), h.2⟩
theorem OwnI.kept {w w' : World} {lo hi lo' hi' : Nat} {v v' : Value} {zs zs' : List Int} (h : OwnI w lo hi v zs) (h' : OwnI w lo' hi' v' zs') (hg : w.grownBy w' v'.ownBlock) (hd : hi ≤ lo' ∨ hi' ≤ lo) : OwnI w' lo hi v zs := by
  refine ⟨h.1.kept hg ?_, h.2⟩
  cases hv : v.ownBlock with
  | none => exact Or.inl rfl
  | some k =>
    refine Or.inr fun e => ?_
    have k1 := h.2 k hv
    have k2 := (h.1.lt k hv).1
    have k3 := h'.2 k e.symm
    have k4 := (h'.1.lt k e.symm).1
    omega
theorem OwnI.block {w w' : World} {lo hi : Nat} {v : Value} {zs : List Int} (h : OwnI w lo hi v zs) (hg : w.grownBy w' v.ownBlock) {j : Nat} {c : Array Value} {t : TypeId} (hj : w.heap[j]? = some (.cells c t (0, 0))) (hte : t ≠ 3) : w'.heap[j]? = some (.cells c t (0, 0)) :=
  (hg.block j (Array.getElem?_eq_some_iff.1 hj).1 (fun e => own_ne h.1 hj hte e.symm)).trans hj
theorem below_markI {w w' w0 : World} {B lo hi : Nat} {v : Value} {zs : List Int} (h0 : Below B w0 w) (h : OwnI w lo hi v zs) (hg : w.grownBy w' v.ownBlock) (hlo : B ≤ lo) (hB : B ≤ w.heap.size) : Below B w0 w' :=
  h0.grown hg hB (fun k hk => Nat.le_trans hlo (h.1.lt k hk).1)
theorem chain_len (xs : List Nd) (f j : Nat) (acc l : List Int) (h : chain xs f j acc = some l) : l.length ≤ acc.length + f := by
  induction f generalizing j acc with
  | zero => simp [chain] at h
  | succ f ih =>
    simp only [chain] at h
    split at h
    · cases h
    · split at h
      · have := ih _ _ h
        simp at this
        omega
      · split at h
        · cases h; omega
        · cases h
theorem listR_len (xs : List Nd) (a : Int) : (listR xs a).1.length ≤ xs.length := by
  unfold listR
  cases h : (poolB xs && hasI xs a) with
  | false => simp
  | true =>
    simp only [Bool.and_eq_true, hasI, decide_eq_true_eq] at h
    rw [if_pos rfl]
    unfold chainR
    split
    · rename_i l hl
      have := chain_len xs _ _ _ _ hl
      show l.length ≤ xs.length
      simp only [List.length_nil] at this
      omega
    · simp

end Go.Proofs.YtdakifahedelcaaDoor
