/-
  Texts that stood by themselves, laid into one.
-/
import Derived.Test.YtenegpbpalbpeaaGreatDoorSizeIM
import Derived.Test.YtenegpbpalbpeaaGreatDoorTo2M
/-
  Contracts of spec's l2Node and PoolOk: when a node and a pool are right.
-/
namespace Go.Proofs.YtenegpbpalbpeaaGreatDoor
open Go.RowKit
set_option maxHeartbeats 3200000 in
theorem snode_cells (k n a b : Int) (s : ByteArray) (m : Nat) (w : World) (hs : s.size ≤ maxLen) (hm : m ≤ 9223372036854775807) :
    Calls Tryz.prog 127 #[.agg #[.int .i64 k, .int .i64 n, .string s, .int .i64 a, .int .i64 b], .int .i64 m] w fun e w' => e = .returned (.bool (nodeB ⟨k, n, s, a, b⟩ m)) ∧ Below w.heap.size w w' := by
  go_enter Tryz.func127, Tryz.ntmps127
  go_wp2_with fail
  refine (lin_any _ _ _ _).mono ?_
  rintro e w1 ⟨rfl, rfl⟩
  go_wp2_with fail
  refine (lin_any _ _ _ _).mono ?_
  rintro e w1 ⟨rfl, rfl⟩
  by_cases h1 : k = 1
  · subst h1
    go_wp2_with fail
    all_goals go_ret
    all_goals (refine ⟨retB ?_, (Below.refl _ _).alloc (Nat.le_refl _) _⟩; rw [Bool.eq_iff_iff]; simp [nodeB, nameFB, partB, lo, hi, hasS, hasA, hasB, *]; try first | omega | (by_cases hsl : s.toList = [] <;> simp [hsl] <;> omega))
  by_cases h2 : k = 2
  · subst h2
    go_wp2_with fail
    all_goals first | (refine (lin_any _ _ _ _).mono ?_; rintro e w1 ⟨rfl, rfl⟩; go_wp2_with fail) | skip
    all_goals go_ret
    all_goals (refine ⟨retB ?_, (Below.refl _ _).alloc (Nat.le_refl _) _⟩; rw [Bool.eq_iff_iff]; simp [nodeB, nameFB, partB, lo, hi, hasS, hasA, hasB, *]; try first | omega | (by_cases hsl : s.toList = [] <;> simp [hsl] <;> omega))
  by_cases h3 : k = 3
  · subst h3
    go_wp2_with fail
    all_goals first | (refine (lin_any _ _ _ _).mono ?_; rintro e w1 ⟨rfl, rfl⟩; go_wp2_with fail) | skip
    all_goals go_ret
    all_goals (refine ⟨retB ?_, (Below.refl _ _).alloc (Nat.le_refl _) _⟩; rw [Bool.eq_iff_iff]; simp [nodeB, nameFB, partB, lo, hi, hasS, hasA, hasB, *]; try first | omega | (by_cases hsl : s.toList = [] <;> simp [hsl] <;> omega))
  by_cases h4 : k = 4
  · subst h4
    go_wp2_with fail
    all_goals first | (refine (sname_any s _ hs).mono ?_; rintro e w1 ⟨rfl, rfl⟩; go_wp2_with fail) | skip
    all_goals go_ret
    all_goals (refine ⟨retB ?_, (Below.refl _ _).alloc (Nat.le_refl _) _⟩; rw [Bool.eq_iff_iff]; simp [nodeB, nameFB, partB, lo, hi, hasS, hasA, hasB, *]; try first | omega | (by_cases hsl : s.toList = [] <;> simp [hsl] <;> omega))
  by_cases h5 : k = 5
  · subst h5
    go_wp2_with fail
    all_goals go_ret
    all_goals (refine ⟨retB ?_, (Below.refl _ _).alloc (Nat.le_refl _) _⟩; rw [Bool.eq_iff_iff]; simp [nodeB, nameFB, partB, lo, hi, hasS, hasA, hasB, *]; try first | omega | (by_cases hsl : s.toList = [] <;> simp [hsl] <;> omega))
  by_cases h6 : k = 6
  · subst h6
    go_wp2_with fail
    all_goals first | (refine (lin_any _ _ _ _).mono ?_; rintro e w1 ⟨rfl, rfl⟩; go_wp2_with fail) | skip
    all_goals go_ret
    all_goals (refine ⟨retB ?_, (Below.refl _ _).alloc (Nat.le_refl _) _⟩; rw [Bool.eq_iff_iff]; simp [nodeB, nameFB, partB, lo, hi, hasS, hasA, hasB, *]; try first | omega | (by_cases hsl : s.toList = [] <;> simp [hsl] <;> omega))
  by_cases h7 : k = 7
  · subst h7
    go_wp2_with fail
    all_goals go_ret
    all_goals (refine ⟨retB ?_, (Below.refl _ _).alloc (Nat.le_refl _) _⟩; rw [Bool.eq_iff_iff]; simp [nodeB, nameFB, partB, lo, hi, hasS, hasA, hasB, *]; try first | omega | (by_cases hsl : s.toList = [] <;> simp [hsl] <;> omega))
  by_cases h8 : k = 8
  · subst h8
    go_wp2_with fail
    all_goals first | (refine (lin_any _ _ _ _).mono ?_; rintro e w1 ⟨rfl, rfl⟩; go_wp2_with fail) | skip
    all_goals go_ret
    all_goals (refine ⟨retB ?_, (Below.refl _ _).alloc (Nat.le_refl _) _⟩; rw [Bool.eq_iff_iff]; simp [nodeB, nameFB, partB, lo, hi, hasS, hasA, hasB, *]; try first | omega | (by_cases hsl : s.toList = [] <;> simp [hsl] <;> omega))
  by_cases h9 : k = 9
  · subst h9
    go_wp2_with fail
    all_goals first | (refine (lin_any _ _ _ _).mono ?_; rintro e w1 ⟨rfl, rfl⟩; go_wp2_with fail) | skip
    all_goals go_ret
    all_goals (refine ⟨retB ?_, (Below.refl _ _).alloc (Nat.le_refl _) _⟩; rw [Bool.eq_iff_iff]; simp [nodeB, nameFB, partB, lo, hi, hasS, hasA, hasB, *]; try first | omega | (by_cases hsl : s.toList = [] <;> simp [hsl] <;> omega))
  have HN : Hid (nodeB ⟨k, n, s, a, b⟩ m = false) := by
    unfold Hid nodeB
    rw [Bool.eq_false_iff]
    intro h
    simp only [Bool.and_eq_true, decide_eq_true_eq] at h
    have := h.1.1.1
    omega
  go_wp2_with fail
  go_ret
  exact ⟨by rw [HN.out]; rfl, (Below.refl _ _).alloc (Nat.le_refl _) _⟩
theorem snode_any (x : Nd) (m : Nat) (w : World) (hs : x.s.size ≤ maxLen) (hm : m ≤ 9223372036854775807) :
    Calls Tryz.prog 127 #[.agg #[.int .i64 x.k, .int .i64 x.n, .string x.s, .int .i64 x.a, .int .i64 x.b], .int .i64 m] w fun e w' => e = .returned (.bool (nodeB x m)) ∧ Below w.heap.size w w' :=
  snode_cells x.k x.n x.a x.b x.s m w hs hm
set_option maxHeartbeats 1600000 in
theorem spool_any (v : Value) (xs : List Nd) (w : World) (R : NRow w v xs) :
    Calls Tryz.prog 78 #[.agg #[v]] w fun e w' => e = .returned (.bool (poolB xs)) ∧ Below w.heap.size w w' := by
  have R' := R
  obtain ⟨ao, cap, rfl, hcap, hm, hz, hcell⟩ := R'
  go_enter Tryz.func78, Tryz.ntmps78
  go_wp2_with fail
  go_loopw [3] (fun i wr => ∃ k : Nat, k ≤ xs.length ∧ i = .int .i64 k ∧ Hid (nodesB xs 0 = nodesB (xs.drop k) k) ∧ wr.cell? ⟨w.heap.size, 0, none⟩ = some (.slice ao xs.length cap) ∧ Below w.heap.size w wr ∧ w.heap.size < wr.heap.size) (fun i _ => xs.length - (intOf i).toNat)
  case atStart => exact ⟨0, by omega, rfl, rfl, by simp, (Below.refl _ _).alloc (Nat.le_refl _) _, by simp⟩
  case round =>
    obtain ⟨k, hk, rfl, HP, hbox, hb, hbl⟩ := hrel
    by_cases hlt : k < xs.length
    · obtain ⟨g, o, rfl, hg, hcell⟩ := hcell (by intro e; subst e; simp at hlt)
      obtain ⟨x, hx⟩ : ∃ x, xs[k]? = some x := ⟨xs[k], by simp [hlt]⟩
      obtain ⟨c0, c1, c2, c3, c4⟩ := (hcell k x hx).below hb hg
      have HS : Hid (nodesB (xs.drop k) k = (nodeB x k && nodesB (xs.drop (k + 1)) (k + 1))) := nodesB_drop xs k x hx
      have hxs := hz x (List.mem_of_getElem? hx)
      clear hcell hx
      go_wp2_with fail
      refine (snode_any x _ _ hxs (by omega)).mono ?_
      rintro e w2 ⟨rfl, hb2⟩
      have hB : Below w.heap.size w w2 := hb.trans (hb2.mono (by omega))
      have hbox2 := (hb2.cell (p := ⟨w.heap.size, 0, none⟩) hbl).trans hbox
      have hbl2 := Nat.lt_of_lt_of_le hbl hb2.size
      have HN : Hid (nodesB xs 0 = (nodeB x k && nodesB (xs.drop (k + 1)) (k + 1))) := by unfold Hid; rw [HP.out, HS.out]
      clear c0 c1 c2 c3 c4 hb2 hbox HS HP
      generalize hA : nodeB x k = bA at HN ⊢
      clear hA
      cases bA with
      | false =>
        have HF : Hid (poolB xs = false) := by unfold Hid poolB; rw [HN.out]; simp
        clear HN
        go_wp2
        go_ret
        exact ⟨by rw [HF.out]; rfl, hB⟩
      | true =>
        go_wp2
        go_roundw
        case rel => exact ⟨k + 1, by omega, by go_num, HN.out, hbox2, hB, hbl2⟩
        case measure => simp [intOf]; omega
    · have e : k = xs.length := by omega
      have HT : Hid (poolB xs = decide (xs.length ≤ 3000)) := by unfold Hid poolB; rw [HP.out, e, List.drop_length]; simp [nodesB]
      clear HP
      go_wp2
      go_ret
      refine ⟨retB ?_, hb⟩
      rw [HT.out, Bool.eq_iff_iff]
      simp
      omega
end Go.Proofs.YtenegpbpalbpeaaGreatDoor
/-
  What a list is read as, and the contracts of impl.ListOf and spec.ListOf.
-/
namespace Go.Proofs.YtenegpbpalbpeaaGreatDoor
open Go.RowKit
def chain (xs : List Nd) : Nat → Nat → List Int → Option (List Int)
  | 0, _, _ => none
  | f + 1, j, acc => match xs[j]? with
    | none => none
    | some x => if x.k = 5 then chain xs f x.b.toNat (acc ++ [x.a]) else if x.k = 1 then some acc else none
def chainR (xs : List Nd) (v : Nat) : List Int × Bool := match chain xs (v + 1) v [] with
  | some l => (l, true)
  | none => ([], false)
def listR (xs : List Nd) (v : Int) : List Int × Bool := if poolB xs && hasI xs v then chainR xs v.toNat else ([], false)
set_option maxHeartbeats 400000 in
theorem shas_all (v : Value) (xs : List Nd) (a : Int) (w : World) (R : NRow w v xs) :
    Calls Tryz.prog 128 #[.agg #[v], .int .i64 a] w fun e w' => e = .returned (.bool (hasI xs a)) ∧ Below w.heap.size w w' := by
  obtain ⟨ao, cap, rfl, _, hm, _⟩ := R
  go_enter Tryz.func128, Tryz.ntmps128
  go_wp2_with fail
  refine (lin_any _ _ _ _).mono ?_
  rintro e w1 ⟨rfl, rfl⟩
  go_wp2
  go_ret
  refine ⟨retB ?_, (Below.refl _ _).alloc (Nat.le_refl _) _⟩
  rw [Bool.eq_iff_iff]
  simp [hasI]
  omega
end Go.Proofs.YtenegpbpalbpeaaGreatDoor
/-
  How great a pool is, whatever is left: contracts of the laws' own helpers szNodeS and szPool. Condition: what is left is no more than at the start.
-/
namespace Go.Proofs.YtenegpbpalbpeaaGreatDoor
open Go.RowKit
set_option maxHeartbeats 800000 in
theorem sznodes_gen (l0 : Int) (hl0 : 0 ≤ l0) (hl1 : l0 ≤ 1048576) (v : Value) (xs : List Nd) (w : World) (R : NRow w v xs) :
    Calls Tryz.prog 101 #[v, .int .i64 l0] w fun e w' => ∃ r : Int, e = .returned (.int .i64 r) ∧ -1 ≤ r ∧ r ≤ 1048576 ∧ (0 ≤ r → xs.length ≤ 1048576 ∧ ∀ x ∈ xs, x.s.size ≤ 1048576) ∧ Below w.heap.size w w' := by
  obtain ⟨ao, cap, rfl, hcap, hm, hz, hcell⟩ := R
  by_cases hlen : (xs.length : Int) ≤ l0
  · go_enter Tryz.func101, Tryz.ntmps101
    go_wp2
    go_loopw [1, 5] (fun l i wr => ∃ (k : Nat) (r : Int), k ≤ xs.length ∧ i = .int .i64 k ∧ l = .int .i64 r ∧ 0 ≤ r ∧ r ≤ 1048576 ∧ Hid (∀ j x, xs[j]? = some x → j < k → x.s.size ≤ 1048576) ∧ Below w.heap.size w wr) (fun _ i _ => xs.length - (intOf i).toNat)
    case atStart => exact ⟨0, _, by omega, rfl, rfl, by omega, by omega, fun j x _ h => by omega, Below.refl _ _⟩
    case round =>
      obtain ⟨k, r, hk, rfl, rfl, hr0, hr1, HA, hb⟩ := hrel
      by_cases hlt : k < xs.length
      · obtain ⟨g, o, rfl, hg, hcell⟩ := hcell (by intro e; subst e; simp at hlt)
        obtain ⟨x, hx⟩ : ∃ x, xs[k]? = some x := ⟨xs[k], by simp [hlt]⟩
        obtain ⟨c0, c1, c2, c3, c4⟩ := (hcell k x hx).below hb hg
        have hxs := hz x (List.mem_of_getElem? hx)
        have HX : Hid (xs[k]? = some x) := hx
        clear hcell hx
        go_wp2_with fail
        refine (sznode_any x _ _ hxs hr0 hr1).mono ?_
        rintro e w2 ⟨rfl, hb2⟩
        have hB2 := hb.trans (hb2.mono hb.size)
        clear c0 c1 c2 c3 c4 hb2
        by_cases hl : r < x.s.size
        · rw [less, if_pos hl]
          go_wp2
          go_ret
          exact ⟨-1, rfl, by omega, by omega, fun h => by omega, hB2⟩
        · rw [less, if_neg hl]
          go_wp2
          go_roundw
          case rel =>
            refine ⟨k + 1, _, by omega, by go_num, rfl, by omega, by omega, fun j y hy hj => ?_, hB2⟩
            by_cases e : j = k
            · subst e
              rw [HX.out] at hy
              cases hy
              omega
            · exact HA.out j y hy (by omega)
          case measure => simp [intOf]; omega
      · go_wp2
        go_ret
        refine ⟨r, rfl, by omega, by omega, fun _ => ⟨by omega, fun x hx => ?_⟩, hb⟩
        obtain ⟨j, hj, e⟩ := List.getElem_of_mem hx
        exact HA.out j x (by rw [← e]; simp [hj]) (by omega)
  · go_enter Tryz.func101, Tryz.ntmps101
    go_wp2
    go_ret
    exact ⟨-1, rfl, by omega, by omega, fun h => by omega, Below.refl _ _⟩
set_option maxHeartbeats 400000 in
theorem szpool_gen (l0 : Int) (hl0 : 0 ≤ l0) (hl1 : l0 ≤ 1048576) (v : Value) (xs : List Nd) (w : World) (R : NRow w v xs) :
    Calls Tryz.prog 45 #[.agg #[v], .int .i64 l0] w fun e w' => ∃ r : Int, e = .returned (.int .i64 r) ∧ -1 ≤ r ∧ r ≤ 1048576 ∧ (0 ≤ r → xs.length ≤ 1048576 ∧ ∀ x ∈ xs, x.s.size ≤ 1048576) ∧ Below w.heap.size w w' := by
  have R' := R
  obtain ⟨ao, cap, rfl, _⟩ := R'
  go_enter Tryz.func45, Tryz.ntmps45
  go_wp2_with fail
  have hbel : Below w.heap.size w (w.alloc (Obj.cells #[.slice ao xs.length cap] 24)) := (Below.refl _ _).alloc (Nat.le_refl _) _
  refine (sznodes_gen l0 hl0 hl1 _ xs _ (R.below hbel)).mono ?_
  rintro e w1 ⟨r, rfl, h0, h1, h2, hb1⟩
  have hB1 := hbel.trans (hb1.mono hbel.size)
  clear hbel hb1
  by_cases hr : r < 0
  · have HR : Hid (r = -1) := by unfold Hid; omega
    go_wp2
    go_ret
    exact ⟨-1, rfl, by omega, by omega, fun h => by omega, hB1⟩
  · go_wp2
    go_ret
    exact ⟨r, rfl, h0, h1, h2, hB1⟩
end Go.Proofs.YtenegpbpalbpeaaGreatDoor
