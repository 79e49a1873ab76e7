/-
  Slices of bools: how one reads, and the contracts of the laws' own helpers eqBoolS, markBoolS, heldBoolS.
-/
import Derived.Test.YtbdgdeoecnhcdaaInts
namespace Go.Proofs.Ytbdgdeoecnhcdaa
open Go.RowKit

/-- Bools as cells. -/
def vb (zs : List Bool) : List Value := zs.map .bool
theorem vb_length (zs : List Bool) : (vb zs).length = zs.length := by simp [vb]
theorem vb_get (zs : List Bool) (i : Nat) (h : i < zs.length) : (vb zs)[i]? = some (.bool (zs.getD i false)) := by simp [vb, List.getD, h]
theorem vb_set (zs : List Bool) (i : Nat) (z : Bool) : (vb zs).set i (.bool z) = vb (zs.set i z) := by simp [vb, List.map_set]

/-- The slice value v reads in w as the bools zs. -/
def BRow (w : World) (v : Value) (zs : List Bool) : Prop :=
  ∃ ao cap, v = .slice ao zs.length cap ∧ (zs.length ≤ cap ∧ (ao = none → cap = 0)) ∧ zs.length ≤ 9223372036854775807 ∧ (zs ≠ [] → ∃ g o, ao = some ⟨g, o, none⟩ ∧ g < w.heap.size ∧ ∀ i, i < zs.length → w.cell? ⟨g, o + i, none⟩ = some (.bool (zs.getD i false)))
theorem BRow.below {w w' : World} {v : Value} {zs : List Bool} (h : BRow w v zs) (hb : Below w.heap.size w w') : BRow w' v zs := by
  obtain ⟨ao, cap, rfl, hc, hm, hcell⟩ := h
  refine ⟨ao, cap, rfl, hc, hm, fun hne => ?_⟩
  obtain ⟨g, o, rfl, hg, hcell⟩ := hcell hne
  exact ⟨g, o, rfl, Nat.lt_of_lt_of_le hg hb.size, fun i hi => (hb.cell (p := ⟨g, o + i, none⟩) hg).trans (hcell i hi)⟩
theorem BRow.of_own {w : World} {base : Nat} {v : Value} {zs : List Bool} (h : w.ownsRow base 4 1 v zs.length (vb zs)) (hm : zs.length ≤ 9223372036854775807) : BRow w v zs := by
  rcases h.2 with ⟨rfl, h0⟩ | ⟨g, cap, cur, rfl, hb, hg, hnc, hcm, hcs, htake⟩
  · have : zs = [] := List.eq_nil_of_length_eq_zero h0
    subst this
    exact ⟨none, 0, rfl, by simp, by simp, fun h => absurd rfl h⟩
  · refine ⟨_, cap, rfl, ⟨hnc, fun h => by cases h⟩, hm, fun _ => ⟨g, 0, rfl, (Array.getElem?_eq_some_iff.1 hg).1, fun i hi => ?_⟩⟩
    have := h.cellAt i (by omega)
    rw [Nat.zero_add, this, vb_get zs i hi]

theorem own_none0 (W : World) (t : TypeId) (k B : Nat) (h : B ≤ W.heap.size) : (W.alloc (Obj.cells #[] t)).ownsRow B t k (.slice (some ⟨W.heap.size, 0, none⟩) 0 0) 0 [] :=
  own_mono (World.ownsRow_made W #[] 0 (Nat.le_refl _) (by simp) (by simp)) h

theorem bne_same (b : Bool) : (b != b) = false := by cases b <;> rfl

set_option maxHeartbeats 400000 in
theorem eqbools_any (va vb' : Value) (zs : List Bool) (w : World) (ha : BRow w va zs) (hb : BRow w vb' zs) :
    Calls Try.prog 13 #[va, vb'] w fun e w' => e = .returned (.bool true) ∧ Below w.heap.size w w' := by
  obtain ⟨aa, ca, rfl, hca, hm, hcella⟩ := ha
  obtain ⟨ab, cb, rfl, hcb, _, hcellb⟩ := hb
  by_cases hne : zs = []
  · subst hne
    go_enter Try.func13, Try.ntmps13
    go_wp2
    refine wp_loop_rounds 1 ?_
    rw [rounds_succ]
    go_wp2
    go_ret
    exact ⟨rfl, Below.refl _ _⟩
  · obtain ⟨ga, oa, rfl, hga, hcella⟩ := hcella hne
    obtain ⟨gb, ob, rfl, hgb, hcellb⟩ := hcellb hne
    clear hne
    have hn : ((zs.length : Int) != (zs.length : Int)) = false := by simp
    go_enter Try.func13, Try.ntmps13
    go_wp2
    go_loopw [5] (fun i wr => ∃ k n : Nat, k ≤ zs.length ∧ i = .int .i64 k ∧ wr = w.drewN n) (fun i _ => zs.length - (intOf i).toNat)
    case atStart => exact ⟨0, 0, by omega, rfl, rfl⟩
    case round =>
      obtain ⟨k, n, hk, rfl, rfl⟩ := hrel
      by_cases hlt : k < zs.length
      · have h1 := hcella k hlt
        have h2 := hcellb k hlt
        have h3 := bne_same (zs.getD k false)
        generalize zs.getD k false = z at h1 h2 h3
        clear hcella hcellb
        cases z <;>
        · go_wp2
          go_quiet (fail)
          go_wp2
          go_roundw
          case rel => exact ⟨k + 1, _, by omega, by go_num, rfl⟩
          case measure => simp [intOf]; omega
      · go_wp2
        go_ret
        exact ⟨rfl, ⟨rfl, rfl, rfl, Nat.le_refl _, fun _ _ => rfl⟩⟩

/-- What markBoolS writes at the number k. -/
def mk3 (k : Int) : Bool := k % 3 == 0
/-- What lies in a slice of bools behind markBoolS from k on, when i of them are written and zs stood there. -/
def bmarked (k : Int) (zs : List Bool) (i : Nat) : List Bool := (List.range i).map (fun (j : Nat) => mk3 (k + (j : Int))) ++ zs.drop i
theorem bmarked_zero (k : Int) (zs : List Bool) : bmarked k zs 0 = zs := by simp [bmarked]
theorem bmarked_length (k : Int) (zs : List Bool) (i : Nat) (h : i ≤ zs.length) : (bmarked k zs i).length = zs.length := by simp [bmarked]; omega
theorem bmarked_set (k : Int) (zs : List Bool) (i : Nat) (h : i < zs.length) : (bmarked k zs i).set i (mk3 (k + (i : Int))) = bmarked k zs (i + 1) := by
  unfold bmarked
  rw [List.range_succ, List.map_append, List.set_append_right _ _ (by simp), List.drop_eq_getElem_cons h, List.append_assoc]
  have e : i - (List.map (fun (j : Nat) => mk3 (k + (j : Int))) (List.range i)).length = 0 := by simp
  rw [e]
  rfl
theorem bmarked_get (k : Int) (zs : List Bool) (i : Nat) (h : i < zs.length) : (bmarked k zs zs.length).getD i false = mk3 (k + (i : Int)) := by
  simp [bmarked, List.getD, h]

set_option maxHeartbeats 400000 in
theorem markbools_any (v : Value) (k : Int) (base : Nat) (zs : List Bool) (w : World) (h : w.ownsRow base 4 1 v zs.length (vb zs)) (hm : zs.length ≤ 4194304) (hk0 : 0 ≤ k) (hk : k ≤ 2305843009213693952) :
    Calls Try.prog 18 #[v, .int .i64 k] w fun e w' => e = .returned (.int .i64 (k + zs.length)) ∧ w'.ownsRow base 4 1 v zs.length (vb (bmarked k zs zs.length)) ∧ w.grownBy w' v.ownBlock := by
  rcases h.2 with ⟨rfl, h0⟩ | ⟨g, cap, cur, rfl, hb, hg, hnc, hcm, hcs, htake⟩
  · have : zs = [] := List.eq_nil_of_length_eq_zero h0
    subst this
    go_enter Try.func18, Try.ntmps18
    go_wp2
    refine wp_loop_rounds 1 ?_
    rw [rounds_succ]
    go_wp2
    go_ret
    exact ⟨by simp, h, World.grownBy.refl _ _⟩
  · clear hg hcs htake
    go_enter Try.func18, Try.ntmps18
    go_wp2
    go_loopw [1, 5] (fun q i wr => ∃ j : Nat, j ≤ zs.length ∧ i = .int .i64 j ∧ q = .int .i64 (k + j) ∧ wr.ownsRow base 4 1 (.slice (some ⟨g, 0, none⟩) zs.length cap) zs.length (vb (bmarked k zs j)) ∧ w.grownBy wr (some g)) (fun _ i _ => zs.length - (intOf i).toNat)
    case atStart => exact ⟨0, by omega, rfl, by simp, by rw [bmarked_zero]; exact h, World.grownBy.refl _ _⟩
    case round =>
      obtain ⟨j, hj, rfl, rfl, hown, hbel⟩ := hrel
      by_cases hlt : j < zs.length
      · have hc := hown.cellAt j (by omega)
        rw [vb_get _ _ (by rw [bmarked_length _ _ _ hj]; exact hlt)] at hc
        have hf := hown.frozenAt j
        have hs := hown.stored j (.bool (mk3 (k + (j : Int))))
        rw [vb_set, bmarked_set k zs j hlt] at hs
        unfold mk3 at hs
        go_wp2
        go_roundw
        case rel => exact ⟨j + 1, by omega, by go_num, by go_num, hs.1, hbel.trans hs.2⟩
        case measure => simp [intOf]; omega
      · go_wp2
        go_ret
        have : j = zs.length := by omega
        subst this
        exact ⟨rfl, hown, hbel⟩

set_option maxHeartbeats 400000 in
theorem heldbools_any (v : Value) (k : Int) (ys : List Bool) (w : World) (h : BRow w v (bmarked k ys ys.length)) (hm : ys.length ≤ 4194304) (hk0 : 0 ≤ k) (hk : k ≤ 2305843009213693952) :
    Calls Try.prog 19 #[v, .int .i64 k] w fun e w' => e = .returned (.int .i64 (k + ys.length)) ∧ w' = w := by
  obtain ⟨ao, cap, rfl, hcap, _, hcell⟩ := h
  rw [bmarked_length _ _ _ (Nat.le_refl _)] at hcap hcell ⊢
  by_cases hne : ys = []
  · subst hne
    go_enter Try.func19, Try.ntmps19
    go_wp2
    refine wp_loop_rounds 1 ?_
    rw [rounds_succ]
    go_wp2
    go_ret
    exact ⟨by simp, rfl⟩
  · obtain ⟨g, o, rfl, hg, hcell⟩ := hcell (by intro e; apply hne; have := congrArg List.length e; rw [bmarked_length _ _ _ (Nat.le_refl _)] at this; exact List.eq_nil_of_length_eq_zero this)
    clear hne
    go_enter Try.func19, Try.ntmps19
    go_wp2
    go_loop [1, 5] (fun q i => ∃ j : Nat, j ≤ ys.length ∧ i = .int .i64 j ∧ q = .int .i64 (k + j)) (fun _ i => ys.length - (intOf i).toNat)
    case atStart => exact ⟨0, by omega, rfl, by simp⟩
    case round =>
      obtain ⟨j, hj, rfl, rfl⟩ := hrel
      by_cases hlt : j < ys.length
      · have hc := hcell j hlt
        rw [bmarked_get _ _ _ hlt] at hc
        have h3 : (((k + (j : Int)) % 3 == 0) != ((k + (j : Int)) % 3 == 0)) = false := bne_same _
        unfold mk3 at hc
        clear hcell
        go_wp2
        go_round
        case rel => exact ⟨j + 1, by omega, by go_num, by go_num⟩
        case measure => simp [intOf]; omega
      · go_wp2
        go_ret
        have : j = ys.length := by omega
        subst this
        exact ⟨rfl, rfl⟩
end Go.Proofs.Ytbdgdeoecnhcdaa
