/-
  Texts that stood by themselves, laid into one.
-/
import Derived.Test.YtpkpednemkagiaaShapeM
import Derived.Test.YtpkpednemkagiaaGTextM
/-
  Contracts of impl's nodeFits and PoolOk: when a node and a pool are right.
-/
namespace Go.Proofs.Ytpkpednemkagiaa
open Go.RowKit

end Go.Proofs.Ytpkpednemkagiaa

/-
  What the sizes of a pool's nodes are, and the contract of impl.SizeOf.
-/
namespace Go.Proofs.Ytpkpednemkagiaa
open Go.RowKit

/-- The cells of ints. -/
def iv (zs : List Int) : List Value := zs.map (Value.int .i64)
theorem iv_length (zs : List Int) : (iv zs).length = zs.length := by simp [iv]
theorem iv_get (zs : List Int) (i : Nat) (h : i < zs.length) : (iv zs)[i]? = some (.int .i64 (zs.getD i 0)) := by simp [iv, List.getD, h]
theorem iv_set (zs : List Int) (i : Nat) (z : Int) : (iv zs).set i (.int .i64 z) = iv (zs.set i z) := by simp [iv, List.map_set]
theorem iv_append (a b : List Int) : iv (a ++ b) = iv a ++ iv b := by simp [iv]
theorem iv_one (zs : List Int) : ∀ u ∈ iv zs, u.oneCell' = true := by
  intro u hu
  simp only [iv, List.mem_map] at hu
  obtain ⟨z, _, rfl⟩ := hu
  rfl

/-- The size of the node x, when acc are those ahead of it. -/
def szA (acc : List Int) (x : Nd) : Int := if hasA x.k then acc.getD x.a.toNat 0 else 0
def szB (acc : List Int) (x : Nd) : Int := if hasB x.k then acc.getD x.b.toNat 0 else 0
def szN (acc : List Int) (x : Nd) : Int := min (1 + szA acc x + szB acc x) 1000000000
def sizes : List Nd → List Int → List Int
  | [], acc => acc
  | x :: xs, acc => sizes xs (acc ++ [szN acc x])
/-- The sizes of the first k nodes. -/
def sizesTo (xs : List Nd) (k : Nat) : List Int := sizes (xs.take k) []
theorem sizes_append (a b : List Nd) (acc : List Int) : sizes (a ++ b) acc = sizes b (sizes a acc) := by
  induction a generalizing acc with
  | nil => rfl
  | cons x a ih => exact ih _
theorem sizes_length (a : List Nd) (acc : List Int) : (sizes a acc).length = acc.length + a.length := by
  induction a generalizing acc with
  | nil => simp [sizes]
  | cons x a ih => simp only [sizes]; rw [ih]; simp; omega
theorem sizesTo_length (xs : List Nd) (k : Nat) (h : k ≤ xs.length) : (sizesTo xs k).length = k := by
  unfold sizesTo; rw [sizes_length]; simp; omega
theorem sizesTo_succ (xs : List Nd) (k : Nat) (x : Nd) (h : xs[k]? = some x) : sizesTo xs (k + 1) = sizesTo xs k ++ [szN (sizesTo xs k) x] := by
  obtain ⟨hl, he⟩ := List.getElem?_eq_some_iff.1 h
  unfold sizesTo
  rw [List.take_succ_eq_append_getElem hl, sizes_append, he]
  rfl
theorem getD_mem_bounds (acc : List Int) (i : Nat) (h : ∀ z ∈ acc, 1 ≤ z ∧ z ≤ 1000000000) : 0 ≤ acc.getD i 0 ∧ acc.getD i 0 ≤ 1000000000 := by
  rw [List.getD_eq_getElem?_getD]
  cases he : acc[i]? with
  | none => simp
  | some z => have := h z (List.mem_of_getElem? he); simp; omega
theorem szA_bounds (acc : List Int) (x : Nd) (h : ∀ z ∈ acc, 1 ≤ z ∧ z ≤ 1000000000) : 0 ≤ szA acc x ∧ szA acc x ≤ 1000000000 := by
  unfold szA; split
  · exact getD_mem_bounds acc _ h
  · omega
theorem szB_bounds (acc : List Int) (x : Nd) (h : ∀ z ∈ acc, 1 ≤ z ∧ z ≤ 1000000000) : 0 ≤ szB acc x ∧ szB acc x ≤ 1000000000 := by
  unfold szB; split
  · exact getD_mem_bounds acc _ h
  · omega
theorem szN_bounds (acc : List Int) (x : Nd) (h : ∀ z ∈ acc, 1 ≤ z ∧ z ≤ 1000000000) : 1 ≤ szN acc x ∧ szN acc x ≤ 1000000000 := by
  have h1 := szA_bounds acc x h
  have h2 := szB_bounds acc x h
  unfold szN; omega
theorem sizes_bounds (a : List Nd) (acc : List Int) (h : ∀ z ∈ acc, 1 ≤ z ∧ z ≤ 1000000000) : ∀ z ∈ sizes a acc, 1 ≤ z ∧ z ≤ 1000000000 := by
  induction a generalizing acc with
  | nil => exact h
  | cons x a ih =>
    refine ih _ fun z hz => ?_
    simp only [List.mem_append, List.mem_singleton] at hz
    rcases hz with hz | rfl
    · exact h z hz
    · exact szN_bounds acc x h
theorem sizesTo_bounds (xs : List Nd) (k : Nat) : ∀ z ∈ sizesTo xs k, 1 ≤ z ∧ z ≤ 1000000000 := sizes_bounds _ _ (by simp)

theorem nodesB_get (xs : List Nd) (i0 i : Nat) (x : Nd) (h : nodesB xs i0 = true) (hx : xs[i]? = some x) : nodeB x (i0 + i : Nat) = true := by
  induction xs generalizing i i0 with
  | nil => simp at hx
  | cons y ys ih =>
    simp only [nodesB, Bool.and_eq_true] at h
    cases i with
    | zero => simp at hx; subst hx; exact h.1
    | succ i =>
      have := ih (i0 + 1) i h.2 (by simpa using hx)
      rwa [show i0 + 1 + i = i0 + (i + 1) by omega] at this
theorem poolB_at {xs : List Nd} (h : poolB xs = true) {i : Nat} {x : Nd} (hx : xs[i]? = some x) : nodeB x i = true := by
  simp only [poolB, Bool.and_eq_true] at h
  have := nodesB_get xs 0 i x h.2 hx
  simpa using this
theorem nodeB_kind {x : Nd} {n : Int} (h : nodeB x n = true) : 1 ≤ x.k ∧ x.k ≤ 9 := by
  simp only [nodeB, Bool.and_eq_true, decide_eq_true_eq] at h
  exact h.1.1.1
theorem nodeB_A {x : Nd} {n : Int} (h : nodeB x n = true) (ha : hasA x.k = true) : 0 ≤ x.a ∧ x.a < n := by
  simp only [nodeB, Bool.and_eq_true, decide_eq_true_eq] at h
  have := h.2.1.2
  rw [ha] at this
  simpa [partB] using this
theorem nodeB_B {x : Nd} {n : Int} (h : nodeB x n = true) (ha : hasB x.k = true) : 0 ≤ x.b ∧ x.b < n := by
  simp only [nodeB, Bool.and_eq_true, decide_eq_true_eq] at h
  have := h.2.2
  rw [ha] at this
  simpa [partB] using this
theorem poolB_len {xs : List Nd} (h : poolB xs = true) : xs.length ≤ 3000 := by
  simp only [poolB, Bool.and_eq_true, decide_eq_true_eq] at h; exact h.1

/-- v is a node of xs. -/
def hasI (xs : List Nd) (v : Int) : Bool := decide (0 ≤ v) && decide (v < xs.length)
/-- What SizeOf answers. -/
def sizeR (xs : List Nd) (v : Int) : Int := if poolB xs && hasI xs v then (sizesTo xs xs.length).getD v.toNat 0 else 0
theorem sizesTo_prefix (xs : List Nd) (k i : Nat) (hk : k ≤ xs.length) (hi : i < k) : (sizesTo xs xs.length).getD i 0 = (sizesTo xs k).getD i 0 := by
  have e : sizesTo xs xs.length = sizes (xs.drop k) (sizesTo xs k) := by
    unfold sizesTo
    rw [List.take_length, ← sizes_append, List.take_append_drop]
  rw [e]
  have hl := sizesTo_length xs k hk
  generalize sizesTo xs k = acc at hl ⊢
  generalize xs.drop k = b
  clear e
  have gen : ∀ (b : List Nd) (acc : List Int), i < acc.length → (sizes b acc).getD i 0 = acc.getD i 0 := by
    intro b
    induction b with
    | nil => intro acc _; rfl
    | cons y b ih =>
      intro acc h
      simp only [sizes]
      rw [ih _ (by simp; omega)]
      simp only [List.getD_eq_getElem?_getD]
      rw [List.getElem?_append_left h]
  exact gen b acc (by omega)

end Go.Proofs.Ytpkpednemkagiaa

/-
  How nodes are written as bytes: plain mathematics. Nothing of the program; no condition.
-/
namespace Go.Proofs.Ytpkpednemkagiaa
open Go.RowKit

/-- What is written of a node behind its kind. -/
def wireB (x : Nd) : List Int :=
  if x.k = 2 ∨ x.k = 8 ∨ x.k = 9 then encI x.n else if x.k = 3 then encI (x.n + 1000000000) else if x.k = 4 then pt x.s
  else if x.k = 5 then encI x.a ++ encI x.b else if x.k = 6 then encI x.n ++ encI x.a else if x.k = 7 then encI x.a else []
def wireN (x : Nd) : List Int := encI x.k ++ wireB x
def wireL (xs : List Nd) : List Int := encI xs.length ++ xs.flatMap wireN

/-- A node within bounds. -/
def NdOk (x : Nd) : Prop := (1 ≤ x.k ∧ x.k ≤ 9) ∧ (-1000000000 ≤ x.n ∧ x.n ≤ 1000000000) ∧ x.s.size ≤ 12 ∧ (x.a ≤ 3000 ∧ x.b ≤ 3000)
theorem ndok_of {x : Nd} {i : Int} (h : nodeB x i = true) (hle : i ≤ 3000) : NdOk x := by
  have hlo : -1000000000 ≤ lo x.k := by unfold lo; split <;> decide
  have hhi : hi x.k ≤ 1000000000 := by
    unfold hi
    split
    · decide
    · split
      · decide
      · split <;> decide
  simp only [nodeB, Bool.and_eq_true, decide_eq_true_eq] at h
  obtain ⟨⟨⟨⟨h1, h2⟩, h3⟩, h4⟩, ⟨h5, h6⟩, h7⟩ := h
  refine ⟨⟨h1, h2⟩, ⟨by omega, by omega⟩, ?_, ?_, ?_⟩
  · unfold nameFB at h5
    split at h5
    · simp only [nameB, Bool.and_eq_true, decide_eq_true_eq] at h5
      exact h5.1.2
    · have e : x.s.toList = [] := by simpa using h5
      rw [ByteArray.toList_eq] at e
      have : x.s.size = 0 := by
        rw [show x.s.size = x.s.data.toList.length by rw [Array.length_toList]; rfl, e]; rfl
      omega
  · unfold partB at h6
    split at h6
    · simp only [Bool.and_eq_true, decide_eq_true_eq] at h6; omega
    · have : x.a = 0 := by simpa using h6
      omega
  · unfold partB at h7
    split at h7
    · simp only [Bool.and_eq_true, decide_eq_true_eq] at h7; omega
    · have : x.b = 0 := by simpa using h7
      omega
theorem pool_ndok {xs : List Nd} (h : poolB xs = true) : ∀ x ∈ xs, NdOk x := by
  intro x hx
  obtain ⟨i, hi⟩ := List.getElem?_of_mem hx
  have hl : i < xs.length := (List.getElem?_eq_some_iff.1 hi).1
  have hm : xs.length ≤ 3000 := by simp only [poolB, Bool.and_eq_true, decide_eq_true_eq] at h; exact h.1
  exact ndok_of (poolB_at h hi) (by omega)

theorem wireB_len (x : Nd) (h : x.s.size ≤ 12) : (wireB x).length ≤ 21 := by
  have e := encI_length
  unfold wireB
  split
  · have := e x.n; omega
  · split
    · have := e (x.n + 1000000000); omega
    · split
      · rw [pt_length]; have := e x.s.size; omega
      · split
        · rw [List.length_append]; have := e x.a; have := e x.b; omega
        · split
          · rw [List.length_append]; have := e x.n; have := e x.a; omega
          · split
            · have := e x.a; omega
            · simp
theorem wireN_len (x : Nd) (h : x.s.size ≤ 12) : (wireN x).length ≤ 30 := by
  have := wireB_len x h
  have := encI_length x.k
  unfold wireN
  rw [List.length_append]
  omega
theorem wires_len (xs : List Nd) (h : ∀ x ∈ xs, NdOk x) : (xs.flatMap wireN).length ≤ 30 * xs.length := by
  induction xs with
  | nil => simp
  | cons x xs ih =>
    have h1 := wireN_len x (h x List.mem_cons_self).2.2.1
    have h2 := ih (fun y hy => h y (List.mem_cons_of_mem _ hy))
    rw [List.flatMap_cons, List.length_append, List.length_cons]
    omega
theorem wireB_wf (x : Nd) : ∀ z ∈ wireB x, 0 ≤ z ∧ z ≤ 255 := by
  intro z hz
  unfold wireB at hz
  split at hz
  · exact encI_wf _ z hz
  · split at hz
    · exact encI_wf _ z hz
    · split at hz
      · exact pt_wf _ z hz
      · split at hz
        · rcases List.mem_append.1 hz with h | h <;> exact encI_wf _ z h
        · split at hz
          · rcases List.mem_append.1 hz with h | h <;> exact encI_wf _ z h
          · split at hz
            · exact encI_wf _ z hz
            · simp at hz
theorem wires_wf (xs : List Nd) : ∀ z ∈ xs.flatMap wireN, 0 ≤ z ∧ z ≤ 255 := by
  intro z hz
  obtain ⟨x, _, h⟩ := List.mem_flatMap.1 hz
  unfold wireN at h
  rcases List.mem_append.1 h with h | h
  · exact encI_wf _ z h
  · exact wireB_wf x z h
theorem wireL_wf (xs : List Nd) : ∀ z ∈ wireL xs, 0 ≤ z ∧ z ≤ 255 := by
  intro z hz
  unfold wireL at hz
  rcases List.mem_append.1 hz with h | h
  · exact encI_wf _ z h
  · exact wires_wf xs z h
theorem wires_take (xs : List Nd) (k : Nat) (x : Nd) (h : xs[k]? = some x) : (xs.take (k + 1)).flatMap wireN = (xs.take k).flatMap wireN ++ wireN x := by
  rw [List.take_add_one, h]; simp
end Go.Proofs.Ytpkpednemkagiaa

/-
  How nodes are read from bytes, and that what is read stands there in just the bytes that it is written in: plain mathematics. Nothing of the program; no condition.
-/
namespace Go.Proofs.Ytpkpednemkagiaa
open Go.RowKit

/-- The bytes L stand from the place a on; behind them is the place b. -/
def Lies (zs : List Int) (a : Int) (L : List Int) (b : Int) : Prop := 0 ≤ a ∧ b = a + L.length ∧ ∃ rest, zs.drop a.toNat = L ++ rest
theorem Lies.append {zs L M : List Int} {a b c : Int} (h : Lies zs a L b) (k : Lies zs b M c) : Lies zs a (L ++ M) c := by
  obtain ⟨h1, h2, r, h3⟩ := h
  obtain ⟨k1, k2, t, k3⟩ := k
  refine ⟨h1, by rw [k2, h2]; simp; omega, t, ?_⟩
  have e : b.toNat = a.toNat + L.length := by omega
  rw [e, ← List.drop_drop, h3, List.drop_left] at k3
  rw [h3, k3, List.append_assoc]
theorem Lies.nil {zs : List Int} {a : Int} (h : 0 ≤ a) : Lies zs a [] a := ⟨h, by simp, _, rfl⟩
theorem sb_str {l : List Int} (h : ∀ z ∈ l, 0 ≤ z ∧ z ≤ 255) : sb (strOfNums l) = l := by
  unfold sb strOfNums
  simp only [List.map_map]
  conv => rhs; rw [← List.map_id l]
  apply List.map_congr_left
  intro z hz
  have := h z hz
  simp only [Function.comp, id]
  rw [UInt8.toNat_ofNat']
  omega
theorem gT_lies {zs : List Int} {a next : Int} {s : ByteArray} (hz : ∀ z ∈ zs, 0 ≤ z ∧ z ≤ 255) (h : gT zs a = (s, next, true)) : Lies zs a (pt s) next := by
  unfold gT at h
  split at h
  · rename_i hc
    obtain ⟨h1, h2⟩ := hc
    have hg : gN zs a = ((gN zs a).1, (gN zs a).2.1, true) := by rw [← h1]
    obtain ⟨g1, g2, g3, r, g4⟩ := gN_bytes hz hg
    generalize (gN zs a).1 = n at *
    generalize (gN zs a).2.1 = m at *
    cases h
    have hm : 0 ≤ m := by omega
    have hlen : ((zs.drop m.toNat).take n.toNat).length = n.toNat := by rw [List.length_take, List.length_drop]; omega
    have hsb : sb (strOfNums ((zs.drop m.toNat).take n.toNat)) = (zs.drop m.toNat).take n.toNat := sb_str (fun z h => hz z (List.mem_of_mem_drop (List.mem_of_mem_take h)))
    have hsz : ((strOfNums ((zs.drop m.toNat).take n.toNat)).size : Int) = n := by
      have := congrArg List.length hsb
      rw [sb_length, hlen] at this
      omega
    have L1 : Lies zs a (encI n) m := ⟨g1, g3, r, g4⟩
    have L2 : Lies zs m ((zs.drop m.toNat).take n.toNat) (m + n) := ⟨hm, by rw [hlen]; omega, (zs.drop m.toNat).drop n.toNat, (List.take_append_drop _ _).symm⟩
    have := L1.append L2
    unfold pt
    rw [hsz, hsb]
    exact this
  · cases h

/-- One number; one node's fields; one node; so many nodes. -/
def rd1 (zs : List Int) (a : Int) : Option (Int × Int) := if (gN zs a).2.2 then some ((gN zs a).1, (gN zs a).2.1) else none
def rdB (zs : List Int) (k a : Int) : Option (Nd × Int) :=
  if k = 1 then some (⟨1, 0, ByteArray.empty, 0, 0⟩, a)
  else if k = 2 ∨ k = 8 ∨ k = 9 then (rd1 zs a).map fun p => (⟨k, p.1, ByteArray.empty, 0, 0⟩, p.2)
  else if k = 3 then (rd1 zs a).map fun p => (⟨3, p.1 - 1000000000, ByteArray.empty, 0, 0⟩, p.2)
  else if k = 4 then (if (gT zs a).2.2 then some (⟨4, 0, (gT zs a).1, 0, 0⟩, (gT zs a).2.1) else none)
  else if k = 5 then (rd1 zs a).bind fun p => (rd1 zs p.2).map fun q => (⟨5, 0, ByteArray.empty, p.1, q.1⟩, q.2)
  else if k = 6 then (rd1 zs a).bind fun p => (rd1 zs p.2).map fun q => (⟨6, p.1, ByteArray.empty, q.1, 0⟩, q.2)
  else if k = 7 then (rd1 zs a).map fun p => (⟨7, 0, ByteArray.empty, p.1, 0⟩, p.2)
  else none
def rdNd (zs : List Int) (a : Int) : Option (Nd × Int) := (rd1 zs a).bind fun p => rdB zs p.1 p.2
def rdNds (zs : List Int) : Nat → Int → Option (List Nd × Int)
  | 0, a => some ([], a)
  | n + 1, a => (rdNd zs a).bind fun p => (rdNds zs n p.2).map fun q => (p.1 :: q.1, q.2)

theorem rd1_lies {zs : List Int} {a x b : Int} (hz : ∀ z ∈ zs, 0 ≤ z ∧ z ≤ 255) (h : rd1 zs a = some (x, b)) : Lies zs a (encI x) b ∧ 0 ≤ x := by
  unfold rd1 at h
  split at h
  · rename_i h1
    cases h
    have hg : gN zs a = ((gN zs a).1, (gN zs a).2.1, true) := by rw [← h1]
    obtain ⟨g1, g2, g3, g4⟩ := gN_bytes hz hg
    exact ⟨⟨g1, g3, g4⟩, g2⟩
  · cases h
theorem rdB_lies {zs : List Int} {k a b : Int} {x : Nd} (hz : ∀ z ∈ zs, 0 ≤ z ∧ z ≤ 255) (ha : 0 ≤ a) (h : rdB zs k a = some (x, b)) : Lies zs a (wireB x) b ∧ x.k = k := by
  unfold rdB at h
  split at h
  · rename_i hk; subst hk
    cases h
    exact ⟨Lies.nil ha, rfl⟩
  split at h
  · rename_i hk
    rw [Option.map_eq_some_iff] at h
    obtain ⟨⟨n, c⟩, h1, h2⟩ := h
    cases h2
    refine ⟨?_, rfl⟩
    unfold wireB
    rw [if_pos hk]
    exact (rd1_lies hz h1).1
  rename_i hk1 hk2
  split at h
  · rename_i hk; subst hk
    rw [Option.map_eq_some_iff] at h
    obtain ⟨⟨n, c⟩, h1, h2⟩ := h
    cases h2
    refine ⟨?_, rfl⟩
    show Lies zs a (encI (n - 1000000000 + 1000000000)) c
    rw [show n - 1000000000 + 1000000000 = n by omega]
    exact (rd1_lies hz h1).1
  split at h
  · rename_i hk; subst hk
    split at h
    · rename_i hg
      cases h
      refine ⟨?_, rfl⟩
      have e : gT zs a = ((gT zs a).1, (gT zs a).2.1, true) := by rw [← hg]
      exact gT_lies hz e
    · cases h
  split at h
  · rename_i hk; subst hk
    rw [Option.bind_eq_some_iff] at h
    obtain ⟨⟨n, c⟩, h1, h2⟩ := h
    rw [Option.map_eq_some_iff] at h2
    obtain ⟨⟨m, d⟩, h3, h4⟩ := h2
    cases h4
    exact ⟨(rd1_lies hz h1).1.append (rd1_lies hz h3).1, rfl⟩
  split at h
  · rename_i hk; subst hk
    rw [Option.bind_eq_some_iff] at h
    obtain ⟨⟨n, c⟩, h1, h2⟩ := h
    rw [Option.map_eq_some_iff] at h2
    obtain ⟨⟨m, d⟩, h3, h4⟩ := h2
    cases h4
    exact ⟨(rd1_lies hz h1).1.append (rd1_lies hz h3).1, rfl⟩
  split at h
  · rename_i hk; subst hk
    rw [Option.map_eq_some_iff] at h
    obtain ⟨⟨n, c⟩, h1, h2⟩ := h
    cases h2
    exact ⟨(rd1_lies hz h1).1, rfl⟩
  · cases h
theorem rdNd_lies {zs : List Int} {a b : Int} {x : Nd} (hz : ∀ z ∈ zs, 0 ≤ z ∧ z ≤ 255) (h : rdNd zs a = some (x, b)) : Lies zs a (wireN x) b := by
  unfold rdNd at h
  rw [Option.bind_eq_some_iff] at h
  obtain ⟨⟨k, c⟩, h1, h2⟩ := h
  obtain ⟨l1, _⟩ := rd1_lies hz h1
  obtain ⟨l2, hk⟩ := rdB_lies hz (by have := l1.1; have := l1.2.1; omega) h2
  unfold wireN
  rw [hk]
  exact l1.append l2
theorem rdNds_lies {zs : List Int} (hz : ∀ z ∈ zs, 0 ≤ z ∧ z ≤ 255) : ∀ (n : Nat) (a b : Int) (xs : List Nd), 0 ≤ a → rdNds zs n a = some (xs, b) → Lies zs a (xs.flatMap wireN) b ∧ xs.length = n
  | 0, a, b, xs, ha, h => by cases h; exact ⟨Lies.nil ha, rfl⟩
  | n + 1, a, b, xs, ha, h => by
    rw [rdNds, Option.bind_eq_some_iff] at h
    obtain ⟨⟨x, c⟩, h1, h2⟩ := h
    rw [Option.map_eq_some_iff] at h2
    obtain ⟨⟨ys, d⟩, h3, h4⟩ := h2
    cases h4
    have l1 := rdNd_lies hz h1
    obtain ⟨l2, hl⟩ := rdNds_lies hz n c d ys (by have := l1.1; have := l1.2.1; omega) h3
    exact ⟨l1.append l2, by simp [hl]⟩
end Go.Proofs.Ytpkpednemkagiaa
