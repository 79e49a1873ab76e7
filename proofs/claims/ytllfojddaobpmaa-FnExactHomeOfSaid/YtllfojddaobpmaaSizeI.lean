/-
  What the sizes of a pool's nodes are, and the contract of impl.SizeOf.
-/
import Derived.Test.YtllfojddaobpmaaNodeFits
namespace Go.Proofs.Ytllfojddaobpmaa
open Go.RowKit

/-- The cells of ints. -/
def iv (zs : List Int) : List Value := zs.map (Value.int .i64)
theorem iv_length (zs : List Int) : (iv zs).length = zs.length := by simp [iv]
theorem iv_get (zs : List Int) (i : Nat) (h : i < zs.length) : (iv zs)[i]? = some (.int .i64 (zs.getD i 0)) := by simp [iv, List.getD, h]
theorem iv_set (zs : List Int) (i : Nat) (z : Int) : (iv zs).set i (.int .i64 z) = iv (zs.set i z) := by simp [iv, List.map_set]
theorem iv_append (a b : List Int) : iv (a ++ b) = iv a ++ iv b := by simp [iv]
theorem iv_one (zs : List Int) : ∀ u ∈ iv zs, u.oneCell' = true := by
  intro u hu
  simp only [iv, List.mem_map] at hu
  obtain ⟨z, _, rfl⟩ := hu
  rfl

/-- The size of the node x, when acc are those ahead of it. -/
def szA (acc : List Int) (x : Nd) : Int := if hasA x.k then acc.getD x.a.toNat 0 else 0
def szB (acc : List Int) (x : Nd) : Int := if hasB x.k then acc.getD x.b.toNat 0 else 0
def szN (acc : List Int) (x : Nd) : Int := min (1 + szA acc x + szB acc x) 1000000000
def sizes : List Nd → List Int → List Int
  | [], acc => acc
  | x :: xs, acc => sizes xs (acc ++ [szN acc x])
/-- The sizes of the first k nodes. -/
def sizesTo (xs : List Nd) (k : Nat) : List Int := sizes (xs.take k) []
theorem sizes_append (a b : List Nd) (acc : List Int) : sizes (a ++ b) acc = sizes b (sizes a acc) := by
  induction a generalizing acc with
  | nil => rfl
  | cons x a ih => exact ih _
theorem sizes_length (a : List Nd) (acc : List Int) : (sizes a acc).length = acc.length + a.length := by
  induction a generalizing acc with
  | nil => simp [sizes]
  | cons x a ih => simp only [sizes]; rw [ih]; simp; omega
theorem sizesTo_length (xs : List Nd) (k : Nat) (h : k ≤ xs.length) : (sizesTo xs k).length = k := by
  unfold sizesTo; rw [sizes_length]; simp; omega
theorem sizesTo_succ (xs : List Nd) (k : Nat) (x : Nd) (h : xs[k]? = some x) : sizesTo xs (k + 1) = sizesTo xs k ++ [szN (sizesTo xs k) x] := by
  obtain ⟨hl, he⟩ := List.getElem?_eq_some_iff.1 h
  unfold sizesTo
  rw [List.take_succ_eq_append_getElem hl, sizes_append, he]
  rfl
theorem getD_mem_bounds (acc : List Int) (i : Nat) (h : ∀ z ∈ acc, 1 ≤ z ∧ z ≤ 1000000000) : 0 ≤ acc.getD i 0 ∧ acc.getD i 0 ≤ 1000000000 := by
  rw [List.getD_eq_getElem?_getD]
  cases he : acc[i]? with
  | none => simp
  | some z => have := h z (List.mem_of_getElem? he); simp; omega
theorem szA_bounds (acc : List Int) (x : Nd) (h : ∀ z ∈ acc, 1 ≤ z ∧ z ≤ 1000000000) : 0 ≤ szA acc x ∧ szA acc x ≤ 1000000000 := by
  unfold szA; split
  · exact getD_mem_bounds acc _ h
  · omega
theorem szB_bounds (acc : List Int) (x : Nd) (h : ∀ z ∈ acc, 1 ≤ z ∧ z ≤ 1000000000) : 0 ≤ szB acc x ∧ szB acc x ≤ 1000000000 := by
  unfold szB; split
  · exact getD_mem_bounds acc _ h
  · omega
theorem szN_bounds (acc : List Int) (x : Nd) (h : ∀ z ∈ acc, 1 ≤ z ∧ z ≤ 1000000000) : 1 ≤ szN acc x ∧ szN acc x ≤ 1000000000 := by
  have h1 := szA_bounds acc x h
  have h2 := szB_bounds acc x h
  unfold szN; omega
theorem sizes_bounds (a : List Nd) (acc : List Int) (h : ∀ z ∈ acc, 1 ≤ z ∧ z ≤ 1000000000) : ∀ z ∈ sizes a acc, 1 ≤ z ∧ z ≤ 1000000000 := by
  induction a generalizing acc with
  | nil => exact h
  | cons x a ih =>
    refine ih _ fun z hz => ?_
    simp only [List.mem_append, List.mem_singleton] at hz
    rcases hz with hz | rfl
    · exact h z hz
    · exact szN_bounds acc x h
theorem sizesTo_bounds (xs : List Nd) (k : Nat) : ∀ z ∈ sizesTo xs k, 1 ≤ z ∧ z ≤ 1000000000 := sizes_bounds _ _ (by simp)

theorem nodesB_get (xs : List Nd) (i0 i : Nat) (x : Nd) (h : nodesB xs i0 = true) (hx : xs[i]? = some x) : nodeB x (i0 + i : Nat) = true := by
  induction xs generalizing i i0 with
  | nil => simp at hx
  | cons y ys ih =>
    simp only [nodesB, Bool.and_eq_true] at h
    cases i with
    | zero => simp at hx; subst hx; exact h.1
    | succ i =>
      have := ih (i0 + 1) i h.2 (by simpa using hx)
      rwa [show i0 + 1 + i = i0 + (i + 1) by omega] at this
theorem poolB_at {xs : List Nd} (h : poolB xs = true) {i : Nat} {x : Nd} (hx : xs[i]? = some x) : nodeB x i = true := by
  simp only [poolB, Bool.and_eq_true] at h
  have := nodesB_get xs 0 i x h.2 hx
  simpa using this
theorem nodeB_kind {x : Nd} {n : Int} (h : nodeB x n = true) : 1 ≤ x.k ∧ x.k ≤ 9 := by
  simp only [nodeB, Bool.and_eq_true, decide_eq_true_eq] at h
  exact h.1.1.1
theorem nodeB_A {x : Nd} {n : Int} (h : nodeB x n = true) (ha : hasA x.k = true) : 0 ≤ x.a ∧ x.a < n := by
  simp only [nodeB, Bool.and_eq_true, decide_eq_true_eq] at h
  have := h.2.1.2
  rw [ha] at this
  simpa [partB] using this
theorem nodeB_B {x : Nd} {n : Int} (h : nodeB x n = true) (ha : hasB x.k = true) : 0 ≤ x.b ∧ x.b < n := by
  simp only [nodeB, Bool.and_eq_true, decide_eq_true_eq] at h
  have := h.2.2
  rw [ha] at this
  simpa [partB] using this
theorem poolB_len {xs : List Nd} (h : poolB xs = true) : xs.length ≤ 3000 := by
  simp only [poolB, Bool.and_eq_true, decide_eq_true_eq] at h; exact h.1

/-- v is a node of xs. -/
def hasI (xs : List Nd) (v : Int) : Bool := decide (0 ≤ v) && decide (v < xs.length)
/-- What SizeOf answers. -/
def sizeR (xs : List Nd) (v : Int) : Int := if poolB xs && hasI xs v then (sizesTo xs xs.length).getD v.toNat 0 else 0
theorem sizesTo_prefix (xs : List Nd) (k i : Nat) (hk : k ≤ xs.length) (hi : i < k) : (sizesTo xs xs.length).getD i 0 = (sizesTo xs k).getD i 0 := by
  have e : sizesTo xs xs.length = sizes (xs.drop k) (sizesTo xs k) := by
    unfold sizesTo
    rw [List.take_length, ← sizes_append, List.take_append_drop]
  rw [e]
  have hl := sizesTo_length xs k hk
  generalize sizesTo xs k = acc at hl ⊢
  generalize xs.drop k = b
  clear e
  have gen : ∀ (b : List Nd) (acc : List Int), i < acc.length → (sizes b acc).getD i 0 = acc.getD i 0 := by
    intro b
    induction b with
    | nil => intro acc _; rfl
    | cons y b ih =>
      intro acc h
      simp only [sizes]
      rw [ih _ (by simp; omega)]
      simp only [List.getD_eq_getElem?_getD]
      rw [List.getElem?_append_left h]
  exact gen b acc (by omega)

end Go.Proofs.Ytllfojddaobpmaa
