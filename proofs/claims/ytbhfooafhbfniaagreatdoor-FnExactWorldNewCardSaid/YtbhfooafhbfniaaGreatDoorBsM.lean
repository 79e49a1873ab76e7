/-
  Texts that stood by themselves, laid into one.
-/
import Derived.Test.YtbhfooafhbfniaaGreatDoorNodeFitsM
import Derived.Laws.IdiomCopy
import Derived.Test.YtbhfooafhbfniaaGreatDoorShapeM
import Derived.Laws.BytesArg
import Derived.Lib.AppendStr
import Derived.Laws.IdiomStrings
/-
  What the sizes of a pool's nodes are, and the contract of impl.SizeOf.
-/
namespace Go.Proofs.YtbhfooafhbfniaaGreatDoor
open Go.RowKit
def iv (zs : List Int) : List Value := zs.map (Value.int .i64)
theorem iv_get (zs : List Int) (i : Nat) (h : i < zs.length) : (iv zs)[i]? = some (.int .i64 (zs.getD i 0)) := by simp [iv, List.getD, h]
theorem iv_set (zs : List Int) (i : Nat) (z : Int) : (iv zs).set i (.int .i64 z) = iv (zs.set i z) := by simp [iv, List.map_set]
theorem iv_append (a b : List Int) : iv (a ++ b) = iv a ++ iv b := by simp [iv]
def szA (acc : List Int) (x : Nd) : Int := if hasA x.k then acc.getD x.a.toNat 0 else 0
def szB (acc : List Int) (x : Nd) : Int := if hasB x.k then acc.getD x.b.toNat 0 else 0
def szN (acc : List Int) (x : Nd) : Int := min (1 + szA acc x + szB acc x) 1000000000
def sizes : List Nd → List Int → List Int
  | [], acc => acc
  | x :: xs, acc => sizes xs (acc ++ [szN acc x])
def sizesTo (xs : List Nd) (k : Nat) : List Int := sizes (xs.take k) []
theorem nodesB_get (xs : List Nd) (i0 i : Nat) (x : Nd) (h : nodesB xs i0 = true) (hx : xs[i]? = some x) : nodeB x (i0 + i : Nat) = true := by
  induction xs generalizing i i0 with
  | nil => simp at hx
  | cons y ys ih =>
    simp only [nodesB, Bool.and_eq_true] at h
    cases i with
    | zero => simp at hx; subst hx; exact h.1
    | succ i =>
      have := ih (i0 + 1) i h.2 (by simpa using hx)
      rwa [show i0 + 1 + i = i0 + (i + 1) by omega] at this
theorem poolB_at {xs : List Nd} (h : poolB xs = true) {i : Nat} {x : Nd} (hx : xs[i]? = some x) : nodeB x i = true := by
  simp only [poolB, Bool.and_eq_true] at h
  have := nodesB_get xs 0 i x h.2 hx
  simpa using this
theorem nodeB_kind {x : Nd} {n : Int} (h : nodeB x n = true) : 1 ≤ x.k ∧ x.k ≤ 9 := by
  simp only [nodeB, Bool.and_eq_true, decide_eq_true_eq] at h
  exact h.1.1.1
theorem nodeB_A {x : Nd} {n : Int} (h : nodeB x n = true) (ha : hasA x.k = true) : 0 ≤ x.a ∧ x.a < n := by
  simp only [nodeB, Bool.and_eq_true, decide_eq_true_eq] at h
  have := h.2.1.2
  rw [ha] at this
  simpa [partB] using this
theorem nodeB_B {x : Nd} {n : Int} (h : nodeB x n = true) (ha : hasB x.k = true) : 0 ≤ x.b ∧ x.b < n := by
  simp only [nodeB, Bool.and_eq_true, decide_eq_true_eq] at h
  have := h.2.2
  rw [ha] at this
  simpa [partB] using this
theorem poolB_len {xs : List Nd} (h : poolB xs = true) : xs.length ≤ 3000 := by
  simp only [poolB, Bool.and_eq_true, decide_eq_true_eq] at h; exact h.1
def hasI (xs : List Nd) (v : Int) : Bool := decide (0 ≤ v) && decide (v < xs.length)
def sizeR (xs : List Nd) (v : Int) : Int := if poolB xs && hasI xs v then (sizesTo xs xs.length).getD v.toNat 0 else 0
set_option maxHeartbeats 400000 in
theorem has_any (v : Value) (xs : List Nd) (a : Int) (w : World) (R : NRow w v xs) :
    Calls Tryz.prog 126 #[.agg #[v], .int .i64 a] w fun e w' => e = .returned (.bool (hasI xs a)) ∧ Below w.heap.size w w' := by
  obtain ⟨ao, cap, rfl, _⟩ := R
  go_enter Tryz.func126, Tryz.ntmps126
  go_wp2
  all_goals go_ret
  all_goals (refine ⟨retB ?_, (Below.refl _ _).alloc (Nat.le_refl _) _⟩; rw [Bool.eq_iff_iff]; simp [hasI, *]; try omega)
end Go.Proofs.YtbhfooafhbfniaaGreatDoor
/-
  Contracts of spec's l2Node and PoolOk: when a node and a pool are right.
-/
namespace Go.Proofs.YtbhfooafhbfniaaGreatDoor
open Go.RowKit
set_option maxHeartbeats 3200000 in
theorem snode_cells (k n a b : Int) (s : ByteArray) (m : Nat) (w : World) (hs : s.size ≤ maxLen) (hm : m ≤ 9223372036854775807) :
    Calls Tryz.prog 112 #[.agg #[.int .i64 k, .int .i64 n, .string s, .int .i64 a, .int .i64 b], .int .i64 m] w fun e w' => e = .returned (.bool (nodeB ⟨k, n, s, a, b⟩ m)) ∧ Below w.heap.size w w' := by
  go_enter Tryz.func112, Tryz.ntmps112
  go_wp2_with fail
  refine (lin_any _ _ _ _).mono ?_
  rintro e w1 ⟨rfl, rfl⟩
  go_wp2_with fail
  refine (lin_any _ _ _ _).mono ?_
  rintro e w1 ⟨rfl, rfl⟩
  by_cases h1 : k = 1
  · subst h1
    go_wp2_with fail
    all_goals go_ret
    all_goals (refine ⟨retB ?_, (Below.refl _ _).alloc (Nat.le_refl _) _⟩; rw [Bool.eq_iff_iff]; simp [nodeB, nameFB, partB, lo, hi, hasS, hasA, hasB, *]; try first | omega | (by_cases hsl : s.toList = [] <;> simp [hsl] <;> omega))
  by_cases h2 : k = 2
  · subst h2
    go_wp2_with fail
    all_goals first | (refine (lin_any _ _ _ _).mono ?_; rintro e w1 ⟨rfl, rfl⟩; go_wp2_with fail) | skip
    all_goals go_ret
    all_goals (refine ⟨retB ?_, (Below.refl _ _).alloc (Nat.le_refl _) _⟩; rw [Bool.eq_iff_iff]; simp [nodeB, nameFB, partB, lo, hi, hasS, hasA, hasB, *]; try first | omega | (by_cases hsl : s.toList = [] <;> simp [hsl] <;> omega))
  by_cases h3 : k = 3
  · subst h3
    go_wp2_with fail
    all_goals first | (refine (lin_any _ _ _ _).mono ?_; rintro e w1 ⟨rfl, rfl⟩; go_wp2_with fail) | skip
    all_goals go_ret
    all_goals (refine ⟨retB ?_, (Below.refl _ _).alloc (Nat.le_refl _) _⟩; rw [Bool.eq_iff_iff]; simp [nodeB, nameFB, partB, lo, hi, hasS, hasA, hasB, *]; try first | omega | (by_cases hsl : s.toList = [] <;> simp [hsl] <;> omega))
  by_cases h4 : k = 4
  · subst h4
    go_wp2_with fail
    all_goals first | (refine (sname_any s _ hs).mono ?_; rintro e w1 ⟨rfl, rfl⟩; go_wp2_with fail) | skip
    all_goals go_ret
    all_goals (refine ⟨retB ?_, (Below.refl _ _).alloc (Nat.le_refl _) _⟩; rw [Bool.eq_iff_iff]; simp [nodeB, nameFB, partB, lo, hi, hasS, hasA, hasB, *]; try first | omega | (by_cases hsl : s.toList = [] <;> simp [hsl] <;> omega))
  by_cases h5 : k = 5
  · subst h5
    go_wp2_with fail
    all_goals go_ret
    all_goals (refine ⟨retB ?_, (Below.refl _ _).alloc (Nat.le_refl _) _⟩; rw [Bool.eq_iff_iff]; simp [nodeB, nameFB, partB, lo, hi, hasS, hasA, hasB, *]; try first | omega | (by_cases hsl : s.toList = [] <;> simp [hsl] <;> omega))
  by_cases h6 : k = 6
  · subst h6
    go_wp2_with fail
    all_goals first | (refine (lin_any _ _ _ _).mono ?_; rintro e w1 ⟨rfl, rfl⟩; go_wp2_with fail) | skip
    all_goals go_ret
    all_goals (refine ⟨retB ?_, (Below.refl _ _).alloc (Nat.le_refl _) _⟩; rw [Bool.eq_iff_iff]; simp [nodeB, nameFB, partB, lo, hi, hasS, hasA, hasB, *]; try first | omega | (by_cases hsl : s.toList = [] <;> simp [hsl] <;> omega))
  by_cases h7 : k = 7
  · subst h7
    go_wp2_with fail
    all_goals go_ret
    all_goals (refine ⟨retB ?_, (Below.refl _ _).alloc (Nat.le_refl _) _⟩; rw [Bool.eq_iff_iff]; simp [nodeB, nameFB, partB, lo, hi, hasS, hasA, hasB, *]; try first | omega | (by_cases hsl : s.toList = [] <;> simp [hsl] <;> omega))
  by_cases h8 : k = 8
  · subst h8
    go_wp2_with fail
    all_goals first | (refine (lin_any _ _ _ _).mono ?_; rintro e w1 ⟨rfl, rfl⟩; go_wp2_with fail) | skip
    all_goals go_ret
    all_goals (refine ⟨retB ?_, (Below.refl _ _).alloc (Nat.le_refl _) _⟩; rw [Bool.eq_iff_iff]; simp [nodeB, nameFB, partB, lo, hi, hasS, hasA, hasB, *]; try first | omega | (by_cases hsl : s.toList = [] <;> simp [hsl] <;> omega))
  by_cases h9 : k = 9
  · subst h9
    go_wp2_with fail
    all_goals first | (refine (lin_any _ _ _ _).mono ?_; rintro e w1 ⟨rfl, rfl⟩; go_wp2_with fail) | skip
    all_goals go_ret
    all_goals (refine ⟨retB ?_, (Below.refl _ _).alloc (Nat.le_refl _) _⟩; rw [Bool.eq_iff_iff]; simp [nodeB, nameFB, partB, lo, hi, hasS, hasA, hasB, *]; try first | omega | (by_cases hsl : s.toList = [] <;> simp [hsl] <;> omega))
  have HN : Hid (nodeB ⟨k, n, s, a, b⟩ m = false) := by
    unfold Hid nodeB
    rw [Bool.eq_false_iff]
    intro h
    simp only [Bool.and_eq_true, decide_eq_true_eq] at h
    have := h.1.1.1
    omega
  go_wp2_with fail
  go_ret
  exact ⟨by rw [HN.out]; rfl, (Below.refl _ _).alloc (Nat.le_refl _) _⟩
theorem snode_any (x : Nd) (m : Nat) (w : World) (hs : x.s.size ≤ maxLen) (hm : m ≤ 9223372036854775807) :
    Calls Tryz.prog 112 #[.agg #[.int .i64 x.k, .int .i64 x.n, .string x.s, .int .i64 x.a, .int .i64 x.b], .int .i64 m] w fun e w' => e = .returned (.bool (nodeB x m)) ∧ Below w.heap.size w w' :=
  snode_cells x.k x.n x.a x.b x.s m w hs hm
set_option maxHeartbeats 1600000 in
theorem spool_any (v : Value) (xs : List Nd) (w : World) (R : NRow w v xs) :
    Calls Tryz.prog 97 #[.agg #[v]] w fun e w' => e = .returned (.bool (poolB xs)) ∧ Below w.heap.size w w' := by
  have R' := R
  obtain ⟨ao, cap, rfl, hcap, hm, hz, hcell⟩ := R'
  go_enter Tryz.func97, Tryz.ntmps97
  go_wp2_with fail
  go_loopw [3] (fun i wr => ∃ k : Nat, k ≤ xs.length ∧ i = .int .i64 k ∧ Hid (nodesB xs 0 = nodesB (xs.drop k) k) ∧ wr.cell? ⟨w.heap.size, 0, none⟩ = some (.slice ao xs.length cap) ∧ Below w.heap.size w wr ∧ w.heap.size < wr.heap.size) (fun i _ => xs.length - (intOf i).toNat)
  case atStart => exact ⟨0, by omega, rfl, rfl, by simp, (Below.refl _ _).alloc (Nat.le_refl _) _, by simp⟩
  case round =>
    obtain ⟨k, hk, rfl, HP, hbox, hb, hbl⟩ := hrel
    by_cases hlt : k < xs.length
    · obtain ⟨g, o, rfl, hg, hcell⟩ := hcell (by intro e; subst e; simp at hlt)
      obtain ⟨x, hx⟩ : ∃ x, xs[k]? = some x := ⟨xs[k], by simp [hlt]⟩
      obtain ⟨c0, c1, c2, c3, c4⟩ := (hcell k x hx).below hb hg
      have HS : Hid (nodesB (xs.drop k) k = (nodeB x k && nodesB (xs.drop (k + 1)) (k + 1))) := nodesB_drop xs k x hx
      have hxs := hz x (List.mem_of_getElem? hx)
      clear hcell hx
      go_wp2_with fail
      refine (snode_any x _ _ hxs (by omega)).mono ?_
      rintro e w2 ⟨rfl, hb2⟩
      have hB : Below w.heap.size w w2 := hb.trans (hb2.mono (by omega))
      have hbox2 := (hb2.cell (p := ⟨w.heap.size, 0, none⟩) hbl).trans hbox
      have hbl2 := Nat.lt_of_lt_of_le hbl hb2.size
      have HN : Hid (nodesB xs 0 = (nodeB x k && nodesB (xs.drop (k + 1)) (k + 1))) := by unfold Hid; rw [HP.out, HS.out]
      clear c0 c1 c2 c3 c4 hb2 hbox HS HP
      generalize hA : nodeB x k = bA at HN ⊢
      clear hA
      cases bA with
      | false =>
        have HF : Hid (poolB xs = false) := by unfold Hid poolB; rw [HN.out]; simp
        clear HN
        go_wp2
        go_ret
        exact ⟨by rw [HF.out]; rfl, hB⟩
      | true =>
        go_wp2
        go_roundw
        case rel => exact ⟨k + 1, by omega, by go_num, HN.out, hbox2, hB, hbl2⟩
        case measure => simp [intOf]; omega
    · have e : k = xs.length := by omega
      have HT : Hid (poolB xs = decide (xs.length ≤ 3000)) := by unfold Hid poolB; rw [HP.out, e, List.drop_length]; simp [nodesB]
      clear HP
      go_wp2
      go_ret
      refine ⟨retB ?_, hb⟩
      rw [HT.out, Bool.eq_iff_iff]
      simp
      omega
end Go.Proofs.YtbhfooafhbfniaaGreatDoor
/-
  What a list is read as, and the contracts of impl.ListOf and spec.ListOf.
-/
namespace Go.Proofs.YtbhfooafhbfniaaGreatDoor
open Go.RowKit
def chain (xs : List Nd) : Nat → Nat → List Int → Option (List Int)
  | 0, _, _ => none
  | f + 1, j, acc => match xs[j]? with
    | none => none
    | some x => if x.k = 5 then chain xs f x.b.toNat (acc ++ [x.a]) else if x.k = 1 then some acc else none
def chainR (xs : List Nd) (v : Nat) : List Int × Bool := match chain xs (v + 1) v [] with
  | some l => (l, true)
  | none => ([], false)
def listR (xs : List Nd) (v : Int) : List Int × Bool := if poolB xs && hasI xs v then chainR xs v.toNat else ([], false)
set_option maxHeartbeats 400000 in
theorem shas_all (v : Value) (xs : List Nd) (a : Int) (w : World) (R : NRow w v xs) :
    Calls Tryz.prog 100 #[.agg #[v], .int .i64 a] w fun e w' => e = .returned (.bool (hasI xs a)) ∧ Below w.heap.size w w' := by
  obtain ⟨ao, cap, rfl, _, hm, _⟩ := R
  go_enter Tryz.func100, Tryz.ntmps100
  go_wp2_with fail
  refine (lin_any _ _ _ _).mono ?_
  rintro e w1 ⟨rfl, rfl⟩
  go_wp2
  go_ret
  refine ⟨retB ?_, (Below.refl _ _).alloc (Nat.le_refl _) _⟩
  rw [Bool.eq_iff_iff]
  simp [hasI]
  omega
end Go.Proofs.YtbhfooafhbfniaaGreatDoor
/-
  How great a pool is, whatever is left: contracts of the laws' own helpers szNodeS and szPool. Condition: what is left is no more than at the start.
-/
namespace Go.Proofs.YtbhfooafhbfniaaGreatDoor
open Go.RowKit
end Go.Proofs.YtbhfooafhbfniaaGreatDoor
/-
  A machine's records: how great, made of the law's, and alike. No condition.
-/
namespace Go.Proofs.YtbhfooafhbfniaaGreatDoor
open Go.RowKit
set_option maxRecDepth 100000 in
set_option maxHeartbeats 3200000 in
theorem eqmach_any (va vb : Value) (xs : List Nd) (m : Mc) (w : World) (Ra : NRow w va xs) (Rb : NRow w vb xs) :
    Calls Tryz.prog 111 #[.agg #[va, .int .i64 m.p, .int .i64 m.s, .int .i64 m.e, .int .i64 m.d, .int .i64 m.t, .int .i64 m.q, .int .i64 m.r], .agg #[vb, .int .i64 m.p, .int .i64 m.s, .int .i64 m.e, .int .i64 m.d, .int .i64 m.t, .int .i64 m.q, .int .i64 m.r]] w fun e w' => e = .returned (.bool true) ∧ Below w.heap.size w w' := by
  have Ra' := Ra
  have Rb' := Rb
  obtain ⟨aa, ca, rfl, _⟩ := Ra'
  obtain ⟨ab, cb, rfl, _⟩ := Rb'
  obtain ⟨hB0, hk0, hx0⟩ := two_boxes w (Obj.cells #[.slice aa xs.length ca, .int .i64 m.p, .int .i64 m.s, .int .i64 m.e, .int .i64 m.d, .int .i64 m.t, .int .i64 m.q, .int .i64 m.r] 56) (Obj.cells #[.slice ab xs.length cb, .int .i64 m.p, .int .i64 m.s, .int .i64 m.e, .int .i64 m.d, .int .i64 m.t, .int .i64 m.q, .int .i64 m.r] 56)
  go_enter Tryz.func111, Tryz.ntmps111
  go_wp2_with fail
  refine (eqpool_any _ _ xs _ (Ra.below hB0) (Rb.below hB0)).mono ?_
  rintro e w1 ⟨rfl, hb1⟩
  have hB1 := hB0.trans (hb1.mono hB0.size)
  have hk1 := (hb1.block _ (Array.getElem?_eq_some_iff.1 hk0).1).trans hk0
  have hx1 := (hb1.block _ (Array.getElem?_eq_some_iff.1 hx0).1).trans hx0
  clear hB0 hk0 hx0 hb1
  have l1 : w1.cell? ⟨w.heap.size, 0 + 1, none⟩ = some (.int .i64 m.p) := cell_of_row w1 _ 1 _ _ _ hk1
  have k1 : w1.cell? ⟨w.heap.size + 1, 0 + 1, none⟩ = some (.int .i64 m.p) := cell_of_row w1 _ 1 _ _ _ hx1
  have l2 : w1.cell? ⟨w.heap.size, 0 + 2, none⟩ = some (.int .i64 m.s) := cell_of_row w1 _ 2 _ _ _ hk1
  have k2 : w1.cell? ⟨w.heap.size + 1, 0 + 2, none⟩ = some (.int .i64 m.s) := cell_of_row w1 _ 2 _ _ _ hx1
  have l3 : w1.cell? ⟨w.heap.size, 0 + 3, none⟩ = some (.int .i64 m.e) := cell_of_row w1 _ 3 _ _ _ hk1
  have k3 : w1.cell? ⟨w.heap.size + 1, 0 + 3, none⟩ = some (.int .i64 m.e) := cell_of_row w1 _ 3 _ _ _ hx1
  have l4 : w1.cell? ⟨w.heap.size, 0 + 4, none⟩ = some (.int .i64 m.d) := cell_of_row w1 _ 4 _ _ _ hk1
  have k4 : w1.cell? ⟨w.heap.size + 1, 0 + 4, none⟩ = some (.int .i64 m.d) := cell_of_row w1 _ 4 _ _ _ hx1
  have l5 : w1.cell? ⟨w.heap.size, 0 + 5, none⟩ = some (.int .i64 m.t) := cell_of_row w1 _ 5 _ _ _ hk1
  have k5 : w1.cell? ⟨w.heap.size + 1, 0 + 5, none⟩ = some (.int .i64 m.t) := cell_of_row w1 _ 5 _ _ _ hx1
  have l6 : w1.cell? ⟨w.heap.size, 0 + 6, none⟩ = some (.int .i64 m.q) := cell_of_row w1 _ 6 _ _ _ hk1
  have k6 : w1.cell? ⟨w.heap.size + 1, 0 + 6, none⟩ = some (.int .i64 m.q) := cell_of_row w1 _ 6 _ _ _ hx1
  have l7 : w1.cell? ⟨w.heap.size, 0 + 7, none⟩ = some (.int .i64 m.r) := cell_of_row w1 _ 7 _ _ _ hk1
  have k7 : w1.cell? ⟨w.heap.size + 1, 0 + 7, none⟩ = some (.int .i64 m.r) := cell_of_row w1 _ 7 _ _ _ hx1
  clear hk1 hx1
  go_wp2
  go_ret
  exact ⟨rfl, hB1⟩
theorem wpList_store_at {P : Program} {ops : Array Oper} {rest : List Oper} {o : Oper} {a : Act} {w : World} {Q : Exit → Act → World → Prop} (hgd : o.guard = none) (ty : TypeId) (x y : Operand) (ho : o.op = .store ty x y)
    (g i : Nat) (v : Value) (cs : Array Value) (hx : a.eval x = .pointer (some ⟨g, i, none⟩)) (hy : a.eval y = v) (hc : v.cells = #[cs.getD 0 undef]) (hv : (cs.getD 0 undef).oneCell' = true) (t : TypeId) (old new : Array Value) (hg : w.heap[g]? = some (.cells old t (0, 0))) (hl : i < old.size) (hi : (P.info? ty).map (·.size) = some 1) (hn : new = old.setIfInBounds i (cs.getD 0 undef))
    (h : ∀ w2 : World, w2.heap[g]? = some (.cells new t (0, 0)) → Below g w w2 → w2.heap.size = w.heap.size → (∀ k, k ≠ g → w2.heap[k]? = w.heap[k]?) → wpList P ops Q rest (a.put o.dst undef) w2) : wpList P ops Q (o :: rest) a w := by
  refine wpList_plain hgd fun K hK => ?_
  generalize cs.getD 0 undef = c at hc hv hn
  have hcell : (w.cell? ⟨g, i, none⟩).isSome = true := by rw [cell_of_row w g i _ _ _ hg]; simp [hl]
  have hrun := run_storeCells_cells (P := P) g i [c] 0 w (fun j hj => by have : j = 0 := by simpa using hj
                                                                         subst this; simpa using hcell) (fun j hj => frozen_of_row w g _ _ _ hg) (fun u hu => by simp at hu; subst hu; exact hv)
  have hst : (storeVar ty ⟨g, i, none⟩ v).run P w = .ok () (w.setCell ⟨g, i, none⟩ c) := by
    cases hq : P.info? ty with
    | none => simp [hq] at hi
    | some inf =>
      have hs : inf.size = 1 := by simpa [hq] using hi
      simp only [Nat.add_zero] at hrun
      simp [storeVar, sizeOf, typeInfo, hq, hc, hs, hrun, World.setCells]
  unfold Oper.wp execOp
  simp only [ho, hx, hy, Instr.storeAt, Instr.sureAddr, Sem.run_bind, Sem.run_pure, Result.andThen_ok, hst]
  refine hK _ _ (h _ ?_ ((Below.refl g w).setCell (p := ⟨g, i, none⟩) (Nat.le_refl _) _) (by simp [World.setCell]) (fun k hk => heap_setCell_other w ⟨g, i, none⟩ k _ hk))
  rw [hn]
  exact heap_setCell_same w g i _ _ _ hg
end Go.Proofs.YtbhfooafhbfniaaGreatDoor
/-
  The law of a slice of bytes turned into a text, and the laws' own markText: the same text at the same number, in whatever world. Nothing else of the program; no condition.
-/
namespace Go.Proofs.YtbhfooafhbfniaaGreatDoor
open Go.RowKit
theorem wpList_bytes_text {P : Program} (w : World) {ops : Array Oper} {rest : List Oper} {o : Oper} {a : Act} {Q : Exit → Act → World → Prop} (hg : o.guard = none) (x : Operand) (src dst e : TypeId) (ho : o.op = .convert src dst x)
    (hs : P.underlying src = some (.slice e)) (hd : P.underlying dst = some .string) (he : P.underlying e = some (.int .u8)) (ao : Option Addr) (n c : Nat) (xs : List Int) (hx : a.eval x = .slice ao n c) (hl : xs.length = n)
    (hc : n ≠ 0 → ∃ g o', ao = some ⟨g, o', none⟩ ∧ ∀ i, i < n → w.cell? ⟨g, o' + i, none⟩ = some (.int .u8 (xs.getD i 0)))
    (h : wpList P ops Q rest (a.put o.dst (.string (strOfNums xs))) w) : wpList P ops Q (o :: rest) a w := by
  refine wpList_plain hg fun K hK => ?_
  have hrun : (convert src dst (.slice ao n c)).run P w = .ok (.string (strOfNums xs)) w := by
    by_cases h0 : n = 0
    · subst h0
      have : xs = [] := List.eq_nil_of_length_eq_zero hl
      subst this
      cases ao with
      | none => exact run_convert_bytes_nil w src e hs he 0 c dst hd
      | some ad => exact run_convert_bytes_back w src dst e ad c [] hs he hd (fun j hj => absurd hj (by simp))
    · obtain ⟨g, o', rfl, hcell⟩ := hc h0
      exact run_convert_bytes_arg w src e hs he g o' n c xs hl hcell dst hd
  unfold Oper.wp
  simp [execOp, ho, hx, hrun, Result.andThen]
  exact hK _ _ h
def mtGo : Nat → Nat → ByteArray → ByteArray
  | 0, _, out => out
  | f + 1, k, out => if k = 0 then out else mtGo f (k / 10) (strOfNums [48 + (k : Int) % 10] ++ out)
def mt (k : Int) : ByteArray := if k ≤ 0 then ⟨#[109, 48]⟩ else ⟨#[109]⟩ ++ mtGo k.toNat k.toNat ⟨#[]⟩
theorem mtGo_step (f k : Nat) (out : ByteArray) (h : 0 < k) (hf : k ≤ f) : mtGo f k out = mtGo (f - 1) (k / 10) (strOfNums [48 + (k : Int) % 10] ++ out) := by
  cases f with
  | zero => omega
  | succ f => simp only [mtGo, if_neg (by omega : ¬ k = 0)]; rfl
theorem mtGo_end (f : Nat) (out : ByteArray) : mtGo f 0 out = out := by
  cases f <;> simp [mtGo]
theorem digit_size (x : Int) : (strOfNums [x]).size = 1 := rfl
set_option maxHeartbeats 800000 in
theorem marktext_any (k : Int) (w : World) (hk : k ≤ 4611686018427387904) :
    Calls Tryz.prog 69 #[.int .i64 k] w fun e w' => e = .returned (.string (mt k)) ∧ Below w.heap.size w w' := by
  by_cases h0 : k ≤ 0
  · have HM : Hid (mt k = ⟨#[109, 48]⟩) := by unfold Hid mt; rw [if_pos h0]
    go_enter Tryz.func69, Tryz.ntmps69
    go_wp2
    go_ret
    exact ⟨by rw [HM.out]; rfl, Below.refl _ _⟩
  · obtain ⟨n, rfl⟩ := Int.eq_ofNat_of_zero_le (show 0 ≤ k by omega)
    have HM : Hid (mt n = ⟨#[109]⟩ ++ mtGo n n ⟨#[]⟩) := by unfold Hid mt; rw [if_neg h0]; rfl
    go_enter Tryz.func69, Tryz.ntmps69
    go_wp2
    go_loopw [0, 3] (fun q s wr => ∃ (f j : Nat) (t : ByteArray), q = .int .i64 j ∧ s = .string t ∧ j ≤ f ∧ t.size + j ≤ n ∧ Hid (mtGo n n ⟨#[]⟩ = mtGo f j t) ∧ Below w.heap.size w wr) (fun q _ _ => (intOf q).toNat)
    case atStart => exact ⟨n, n, ⟨#[]⟩, rfl, rfl, by omega, by show 0 + n ≤ n; omega, rfl, Below.refl _ _⟩
    case round =>
      obtain ⟨f, j, t, rfl, rfl, hjf, hjn, HG, hb⟩ := hrel
      by_cases hj : 0 < j
      · go_wp2_with (refine wpList_bytes_text _ rfl _ 143 9 5 rfl Tryz.underlying143 Tryz.underlying9 Tryz.underlying5 (some ⟨wr.heap.size, 0, none⟩) 1 1 [48 + (j : Int) % 10] rfl rfl ?_ ?_)
        · intro _
          refine ⟨_, 0, rfl, fun i hi => ?_⟩
          have hi0 : i = 0 := by omega
          subst hi0
          simp
        · exfalso
          have hd := digit_size (48 + (j : Int) % 10)
          omega
        · have hB := hb.alloc hb.size (Obj.cells #[Value.int .u8 (48 + (j : Int) % 10)] 5)
          refine ⟨⟨f - 1, j / 10, _, by rw [Int.natCast_ediv]; rfl, rfl, by omega, ?_, ?_, hB⟩, by simp [intOf]; omega⟩
          · rw [ByteArray.size_append, digit_size]; omega
          · unfold Hid
            rw [HG.out, mtGo_step f j t hj hjf]
      · have hj0 : j = 0 := by omega
        subst hj0
        have hcat : ¬ 9223372036854775807 < (⟨#[109]⟩ : ByteArray).size + t.size := by
          have e : (⟨#[109]⟩ : ByteArray).size = 1 := rfl
          rw [e]; omega
        go_wp2
        go_ret
        refine ⟨?_, hb⟩
        rw [HM.out, HG.out, mtGo_end]
        rfl
end Go.Proofs.YtbhfooafhbfniaaGreatDoor
