/-
  Texts that stood by themselves, laid into one.
-/
import Derived.Test.YtmbomhcnmjhbnaaGreatDoorISizeM
import Derived.Test.YtmbomhcnmjhbnaaGreatDoorNameM
import Derived.Deep.RegionWith
/-
  Contracts of spec's l2Node and PoolOk: when a node and a pool are right.
-/
namespace Go.Proofs.YtmbomhcnmjhbnaaGreatDoor
open Go.RowKit

set_option maxHeartbeats 3200000 in
theorem snode_cells (k n a b : Int) (s : ByteArray) (m : Nat) (w : World) (hs : s.size ≤ maxLen) (hm : m ≤ 9223372036854775807) :
    Calls Tryz.prog 70 #[.agg #[.int .i64 k, .int .i64 n, .string s, .int .i64 a, .int .i64 b], .int .i64 m] w fun e w' => e = .returned (.bool (nodeB ⟨k, n, s, a, b⟩ m)) ∧ Below w.heap.size w w' := by
  go_enter Tryz.func70, Tryz.ntmps70
  go_wp2_with fail
  refine (lin_any _ _ _ _).mono ?_
  rintro e w1 ⟨rfl, rfl⟩
  go_wp2_with fail
  refine (lin_any _ _ _ _).mono ?_
  rintro e w1 ⟨rfl, rfl⟩
  by_cases h1 : k = 1
  · subst h1
    go_wp2_with fail
    all_goals go_ret
    all_goals (refine ⟨retB ?_, (Below.refl _ _).alloc (Nat.le_refl _) _⟩; rw [Bool.eq_iff_iff]; simp [nodeB, nameFB, partB, lo, hi, hasS, hasA, hasB, *]; try first | omega | (by_cases hsl : s.toList = [] <;> simp [hsl] <;> omega))
  by_cases h2 : k = 2
  · subst h2
    go_wp2_with fail
    all_goals first | (refine (lin_any _ _ _ _).mono ?_; rintro e w1 ⟨rfl, rfl⟩; go_wp2_with fail) | skip
    all_goals go_ret
    all_goals (refine ⟨retB ?_, (Below.refl _ _).alloc (Nat.le_refl _) _⟩; rw [Bool.eq_iff_iff]; simp [nodeB, nameFB, partB, lo, hi, hasS, hasA, hasB, *]; try first | omega | (by_cases hsl : s.toList = [] <;> simp [hsl] <;> omega))
  by_cases h3 : k = 3
  · subst h3
    go_wp2_with fail
    all_goals first | (refine (lin_any _ _ _ _).mono ?_; rintro e w1 ⟨rfl, rfl⟩; go_wp2_with fail) | skip
    all_goals go_ret
    all_goals (refine ⟨retB ?_, (Below.refl _ _).alloc (Nat.le_refl _) _⟩; rw [Bool.eq_iff_iff]; simp [nodeB, nameFB, partB, lo, hi, hasS, hasA, hasB, *]; try first | omega | (by_cases hsl : s.toList = [] <;> simp [hsl] <;> omega))
  by_cases h4 : k = 4
  · subst h4
    go_wp2_with fail
    all_goals first | (refine (sname_any s _ hs).mono ?_; rintro e w1 ⟨rfl, rfl⟩; go_wp2_with fail) | skip
    all_goals go_ret
    all_goals (refine ⟨retB ?_, (Below.refl _ _).alloc (Nat.le_refl _) _⟩; rw [Bool.eq_iff_iff]; simp [nodeB, nameFB, partB, lo, hi, hasS, hasA, hasB, *]; try first | omega | (by_cases hsl : s.toList = [] <;> simp [hsl] <;> omega))
  by_cases h5 : k = 5
  · subst h5
    go_wp2_with fail
    all_goals go_ret
    all_goals (refine ⟨retB ?_, (Below.refl _ _).alloc (Nat.le_refl _) _⟩; rw [Bool.eq_iff_iff]; simp [nodeB, nameFB, partB, lo, hi, hasS, hasA, hasB, *]; try first | omega | (by_cases hsl : s.toList = [] <;> simp [hsl] <;> omega))
  by_cases h6 : k = 6
  · subst h6
    go_wp2_with fail
    all_goals first | (refine (lin_any _ _ _ _).mono ?_; rintro e w1 ⟨rfl, rfl⟩; go_wp2_with fail) | skip
    all_goals go_ret
    all_goals (refine ⟨retB ?_, (Below.refl _ _).alloc (Nat.le_refl _) _⟩; rw [Bool.eq_iff_iff]; simp [nodeB, nameFB, partB, lo, hi, hasS, hasA, hasB, *]; try first | omega | (by_cases hsl : s.toList = [] <;> simp [hsl] <;> omega))
  by_cases h7 : k = 7
  · subst h7
    go_wp2_with fail
    all_goals go_ret
    all_goals (refine ⟨retB ?_, (Below.refl _ _).alloc (Nat.le_refl _) _⟩; rw [Bool.eq_iff_iff]; simp [nodeB, nameFB, partB, lo, hi, hasS, hasA, hasB, *]; try first | omega | (by_cases hsl : s.toList = [] <;> simp [hsl] <;> omega))
  by_cases h8 : k = 8
  · subst h8
    go_wp2_with fail
    all_goals first | (refine (lin_any _ _ _ _).mono ?_; rintro e w1 ⟨rfl, rfl⟩; go_wp2_with fail) | skip
    all_goals go_ret
    all_goals (refine ⟨retB ?_, (Below.refl _ _).alloc (Nat.le_refl _) _⟩; rw [Bool.eq_iff_iff]; simp [nodeB, nameFB, partB, lo, hi, hasS, hasA, hasB, *]; try first | omega | (by_cases hsl : s.toList = [] <;> simp [hsl] <;> omega))
  by_cases h9 : k = 9
  · subst h9
    go_wp2_with fail
    all_goals first | (refine (lin_any _ _ _ _).mono ?_; rintro e w1 ⟨rfl, rfl⟩; go_wp2_with fail) | skip
    all_goals go_ret
    all_goals (refine ⟨retB ?_, (Below.refl _ _).alloc (Nat.le_refl _) _⟩; rw [Bool.eq_iff_iff]; simp [nodeB, nameFB, partB, lo, hi, hasS, hasA, hasB, *]; try first | omega | (by_cases hsl : s.toList = [] <;> simp [hsl] <;> omega))
  have HN : Hid (nodeB ⟨k, n, s, a, b⟩ m = false) := by
    unfold Hid nodeB
    rw [Bool.eq_false_iff]
    intro h
    simp only [Bool.and_eq_true, decide_eq_true_eq] at h
    have := h.1.1.1
    omega
  go_wp2_with fail
  go_ret
  exact ⟨by rw [HN.out]; rfl, (Below.refl _ _).alloc (Nat.le_refl _) _⟩

theorem snode_any (x : Nd) (m : Nat) (w : World) (hs : x.s.size ≤ maxLen) (hm : m ≤ 9223372036854775807) :
    Calls Tryz.prog 70 #[.agg #[.int .i64 x.k, .int .i64 x.n, .string x.s, .int .i64 x.a, .int .i64 x.b], .int .i64 m] w fun e w' => e = .returned (.bool (nodeB x m)) ∧ Below w.heap.size w w' :=
  snode_cells x.k x.n x.a x.b x.s m w hs hm

set_option maxHeartbeats 1600000 in
theorem spool_any (v : Value) (xs : List Nd) (w : World) (R : NRow w v xs) :
    Calls Tryz.prog 45 #[.agg #[v]] w fun e w' => e = .returned (.bool (poolB xs)) ∧ Below w.heap.size w w' := by
  have R' := R
  obtain ⟨ao, cap, rfl, hcap, hm, hz, hcell⟩ := R'
  go_enter Tryz.func45, Tryz.ntmps45
  go_wp2_with fail
  go_loopw [3] (fun i wr => ∃ k : Nat, k ≤ xs.length ∧ i = .int .i64 k ∧ Hid (nodesB xs 0 = nodesB (xs.drop k) k) ∧ wr.cell? ⟨w.heap.size, 0, none⟩ = some (.slice ao xs.length cap) ∧ Below w.heap.size w wr ∧ w.heap.size < wr.heap.size) (fun i _ => xs.length - (intOf i).toNat)
  case atStart => exact ⟨0, by omega, rfl, rfl, by simp, (Below.refl _ _).alloc (Nat.le_refl _) _, by simp⟩
  case round =>
    obtain ⟨k, hk, rfl, HP, hbox, hb, hbl⟩ := hrel
    by_cases hlt : k < xs.length
    · obtain ⟨g, o, rfl, hg, hcell⟩ := hcell (by intro e; subst e; simp at hlt)
      obtain ⟨x, hx⟩ : ∃ x, xs[k]? = some x := ⟨xs[k], by simp [hlt]⟩
      obtain ⟨c0, c1, c2, c3, c4⟩ := (hcell k x hx).below hb hg
      have HS : Hid (nodesB (xs.drop k) k = (nodeB x k && nodesB (xs.drop (k + 1)) (k + 1))) := nodesB_drop xs k x hx
      have hxs := hz x (List.mem_of_getElem? hx)
      clear hcell hx
      go_wp2_with fail
      refine (snode_any x _ _ hxs (by omega)).mono ?_
      rintro e w2 ⟨rfl, hb2⟩
      have hB : Below w.heap.size w w2 := hb.trans (hb2.mono (by omega))
      have hbox2 := (hb2.cell (p := ⟨w.heap.size, 0, none⟩) hbl).trans hbox
      have hbl2 := Nat.lt_of_lt_of_le hbl hb2.size
      have HN : Hid (nodesB xs 0 = (nodeB x k && nodesB (xs.drop (k + 1)) (k + 1))) := by unfold Hid; rw [HP.out, HS.out]
      clear c0 c1 c2 c3 c4 hb2 hbox HS HP
      generalize hA : nodeB x k = bA at HN ⊢
      clear hA
      cases bA with
      | false =>
        have HF : Hid (poolB xs = false) := by unfold Hid poolB; rw [HN.out]; simp
        clear HN
        go_wp2
        go_ret
        exact ⟨by rw [HF.out]; rfl, hB⟩
      | true =>
        go_wp2
        go_roundw
        case rel => exact ⟨k + 1, by omega, by go_num, HN.out, hbox2, hB, hbl2⟩
        case measure => simp [intOf]; omega
    · have e : k = xs.length := by omega
      have HT : Hid (poolB xs = decide (xs.length ≤ 3000)) := by unfold Hid poolB; rw [HP.out, e, List.drop_length]; simp [nodesB]
      clear HP
      go_wp2
      go_ret
      refine ⟨retB ?_, hb⟩
      rw [HT.out, Bool.eq_iff_iff]
      simp
      omega
end Go.Proofs.YtmbomhcnmjhbnaaGreatDoor

/-
  Contract of spec's l1Min.
-/
namespace Go.Proofs.YtmbomhcnmjhbnaaGreatDoor
open Go.RowKit

set_option maxHeartbeats 400000 in
theorem lmin_any (x y : Int) (w : World) : Calls Tryz.prog 90 #[.int .i64 x, .int .i64 y] w fun e w' => e = .returned (.int .i64 (min x y)) ∧ w' = w := by
  by_cases h : x < y
  · have HM : Hid (min x y = x) := by unfold Hid; omega
    go_enter Tryz.func90, Tryz.ntmps90
    go_wp2
    go_ret
    exact ⟨by rw [HM.out]; rfl, rfl⟩
  · have HM : Hid (min x y = y) := by unfold Hid; omega
    go_enter Tryz.func90, Tryz.ntmps90
    go_wp2
    go_ret
    exact ⟨by rw [HM.out]; rfl, rfl⟩
end Go.Proofs.YtmbomhcnmjhbnaaGreatDoor

/-
  Contracts of spec's l2Has, l1Min and SizeOf.
-/
namespace Go.Proofs.YtmbomhcnmjhbnaaGreatDoor
open Go.RowKit

set_option maxHeartbeats 400000 in
theorem shas_any (v : Value) (xs : List Nd) (a : Int) (w : World) (R : NRow w v xs) :
    Calls Tryz.prog 48 #[.agg #[v], .int .i64 a] w fun e w' => e = .returned (.bool (hasI xs a)) ∧ Below w.heap.size w w' := by
  obtain ⟨ao, cap, rfl, _, hm, _⟩ := R
  go_enter Tryz.func48, Tryz.ntmps48
  go_wp2_with fail
  refine (lin_any _ _ _ _).mono ?_
  rintro e w1 ⟨rfl, rfl⟩
  go_wp2
  go_ret
  refine ⟨retB ?_, (Below.refl _ _).alloc (Nat.le_refl _) _⟩
  rw [Bool.eq_iff_iff]
  simp [hasI]
  omega

theorem own_of_eq {W w5 : World} {base k n : Nat} {e : TypeId} {v : Value} {xs : List Value} (e5 : w5 = W) (h : W.ownsRow base e k v n xs) : w5.ownsRow base e k v n xs := by rw [e5]; exact h
theorem own_of_eqN {W w5 : World} {base k n m : Nat} {e : TypeId} {v : Value} {xs : List Value} (e5 : w5 = W.drewN m) (h : W.ownsRow base e k v n xs) : w5.ownsRow base e k v n xs := by rw [e5]; exact h
theorem belowN {B : Nat} {w w' : World} (h : Below B w w') (n : Nat) : Below B w (w'.drewN n) := ⟨h.os, h.tape, h.output, h.size, h.block⟩

end Go.Proofs.YtmbomhcnmjhbnaaGreatDoor

/-
  Contracts of the laws' own helpers toNode, toNodeS, toPool, szNode, szNodeS, szPool, eqNode, eqNodeS, eqPool.
-/
namespace Go.Proofs.YtmbomhcnmjhbnaaGreatDoor
open Go.RowKit

/-- How much room is left behind so many bytes; -1 when there is not as much. -/
def less (l n : Int) : Int := if l < n then -1 else l - n

/-- The first j of xs, and zero nodes behind them. -/
def zeroN : Nd := ⟨0, 0, ByteArray.empty, 0, 0⟩
def ncopied (xs : List Nd) (j : Nat) : List Nd := xs.take j ++ List.replicate (xs.length - j) zeroN
theorem ncopied_length (xs : List Nd) (j : Nat) (h : j ≤ xs.length) : (ncopied xs j).length = xs.length := by simp [ncopied]; omega
theorem ncopied_full (xs : List Nd) : ncopied xs xs.length = xs := by simp [ncopied]
theorem ncs_zeros (n : Nat) : ncs (List.replicate n zeroN) = (madeCells #[Value.int .i64 0, .int .i64 0, .string ByteArray.empty, .int .i64 0, .int .i64 0] (n * 5)).toList := by
  apply List.ext_getElem?
  intro j
  by_cases hj : j < n * 5
  · have hq : j / 5 < n := by omega
    rw [show j = j / 5 * 5 + j % 5 by omega, ncs_get _ (j / 5) zeroN (by simp [hq]) (j % 5) (by omega)]
    rw [show j / 5 * 5 + j % 5 = j by omega]
    have h5 : j % 5 = 0 ∨ j % 5 = 1 ∨ j % 5 = 2 ∨ j % 5 = 3 ∨ j % 5 = 4 := by omega
    rcases h5 with h5 | h5 | h5 | h5 | h5 <;> simp [madeCells, hj, h5, zeroN, Nd.cs]
  · rw [List.getElem?_eq_none (by rw [ncs_length, List.length_replicate]; omega), List.getElem?_eq_none (by simp [madeCells]; omega)]
theorem ncopied_zero (xs : List Nd) : ncs (ncopied xs 0) = (madeCells #[Value.int .i64 0, .int .i64 0, .string ByteArray.empty, .int .i64 0, .int .i64 0] (xs.length * 5)).toList := by
  rw [← ncs_zeros]; simp [ncopied]
theorem ncopied_set (xs : List Nd) (j : Nat) (h : j < xs.length) : (ncopied xs j).set j xs[j] = ncopied xs (j + 1) := by
  unfold ncopied
  rw [show xs.length - j = xs.length - (j + 1) + 1 by omega, List.replicate_succ, List.take_succ_eq_append_getElem h]
  rw [List.set_append_right _ _ (by simp; omega)]
  have e : j - (List.take j xs).length = 0 := by simp; omega
  rw [e, List.set_cons_zero, List.append_assoc]
  rfl

theorem heap_alloc3_new (w : World) (A B C : Obj) : (((w.alloc A).alloc B).alloc C).heap[w.heap.size + 1 + 1]? = some C := by
  have h := heap_alloc_new ((w.alloc A).alloc B) C
  simpa using h

end Go.Proofs.YtmbomhcnmjhbnaaGreatDoor
