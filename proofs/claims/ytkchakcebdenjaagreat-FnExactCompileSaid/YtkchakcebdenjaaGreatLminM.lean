/-
  Texts that stood by themselves, laid into one.
-/
import Derived.Test.YtkchakcebdenjaaGreatSNodeM
import Derived.Test.YtkchakcebdenjaaGreatWPartsM
import Derived.Test.YtkchakcebdenjaaGreatStore2M
import Derived.OneCell
import Derived.Test.YtkchakcebdenjaaGreatShapeM
/-
  Contracts of the laws' own helpers eqIntS, markIntS, heldIntS.
-/
namespace Go.Proofs.YtkchakcebdenjaaGreat
open Go.RowKit
def IRow (w : World) (v : Value) (zs : List Int) : Prop :=
  ∃ ao cap, v = .slice ao zs.length cap ∧ (zs.length ≤ cap ∧ (ao = none → cap = 0)) ∧ zs.length ≤ 9223372036854775807 ∧ (zs ≠ [] → ∃ g o, ao = some ⟨g, o, none⟩ ∧ g < w.heap.size ∧ ∀ i, i < zs.length → w.cell? ⟨g, o + i, none⟩ = some (.int .i64 (zs.getD i 0)))
theorem IRow.below {w w' : World} {v : Value} {zs : List Int} (h : IRow w v zs) (hb : Below w.heap.size w w') : IRow w' v zs := by
  obtain ⟨ao, cap, rfl, hc, hm, hcell⟩ := h
  refine ⟨ao, cap, rfl, hc, hm, fun hne => ?_⟩
  obtain ⟨g, o, rfl, hg, hcell⟩ := hcell hne
  exact ⟨g, o, rfl, Nat.lt_of_lt_of_le hg hb.size, fun i hi => (hb.cell (p := ⟨g, o + i, none⟩) hg).trans (hcell i hi)⟩
theorem IRow.of_own {w : World} {base : Nat} {v : Value} {zs : List Int} (h : w.ownsRow base 3 1 v zs.length (iv zs)) (hm : zs.length ≤ 9223372036854775807) : IRow w v zs := by
  rcases h.2 with ⟨rfl, h0⟩ | ⟨g, cap, cur, rfl, hb, hg, hnc, hcm, hcs, htake⟩
  · have : zs = [] := List.eq_nil_of_length_eq_zero h0
    subst this
    exact ⟨none, 0, rfl, by simp, by simp, fun h => absurd rfl h⟩
  · refine ⟨_, cap, rfl, ⟨hnc, fun h => by cases h⟩, hm, fun _ => ⟨g, 0, rfl, (Array.getElem?_eq_some_iff.1 hg).1, fun i hi => ?_⟩⟩
    have := h.cellAt i (by omega)
    rw [Nat.zero_add, this, iv_get zs i hi]
set_option maxHeartbeats 400000 in
theorem eqints_any (va vb : Value) (zs : List Int) (w : World) (ha : IRow w va zs) (hb : IRow w vb zs) :
    Calls Tryz.prog 12 #[va, vb] w fun e w' => e = .returned (.bool true) ∧ Below w.heap.size w w' := by
  obtain ⟨aa, ca, rfl, hca, hm, hcella⟩ := ha
  obtain ⟨ab, cb, rfl, hcb, _, hcellb⟩ := hb
  by_cases hne : zs = []
  · subst hne
    go_enter Tryz.func12, Tryz.ntmps12
    go_wp2
    refine wp_loop_rounds 1 ?_
    rw [rounds_succ]
    go_wp2
    go_ret
    exact ⟨rfl, Below.refl _ _⟩
  · obtain ⟨ga, oa, rfl, hga, hcella⟩ := hcella hne
    obtain ⟨gb, ob, rfl, hgb, hcellb⟩ := hcellb hne
    clear hne
    have hn : ((zs.length : Int) != (zs.length : Int)) = false := by simp
    go_enter Tryz.func12, Tryz.ntmps12
    go_wp2
    go_loopw [5] (fun i wr => ∃ k n : Nat, k ≤ zs.length ∧ i = .int .i64 k ∧ wr = w.drewN n) (fun i _ => zs.length - (intOf i).toNat)
    case atStart => exact ⟨0, 0, by omega, rfl, rfl⟩
    case round =>
      obtain ⟨k, n, hk, rfl, rfl⟩ := hrel
      by_cases hlt : k < zs.length
      · have h1 := hcella k hlt
        have h2 := hcellb k hlt
        clear hcella hcellb
        go_wp2
        go_quiet (fail)
        go_wp2
        go_roundw
        case rel => exact ⟨k + 1, _, by omega, by go_num, rfl⟩
        case measure => simp [intOf]; omega
      · go_wp2
        go_ret
        exact ⟨rfl, ⟨rfl, rfl, rfl, Nat.le_refl _, fun _ _ => rfl⟩⟩
def imarked (k : Int) (zs : List Int) (i : Nat) : List Int := (List.range i).map (fun (j : Nat) => k + (j : Int)) ++ zs.drop i
theorem imarked_zero (k : Int) (zs : List Int) : imarked k zs 0 = zs := by simp [imarked]
theorem imarked_length (k : Int) (zs : List Int) (i : Nat) (h : i ≤ zs.length) : (imarked k zs i).length = zs.length := by simp [imarked]; omega
theorem imarked_set (k : Int) (zs : List Int) (i : Nat) (h : i < zs.length) : (imarked k zs i).set i (k + (i : Int)) = imarked k zs (i + 1) := by
  unfold imarked
  rw [List.range_succ, List.map_append, List.set_append_right _ _ (by simp), List.drop_eq_getElem_cons h, List.append_assoc]
  have e : i - (List.map (fun (j : Nat) => k + (j : Int)) (List.range i)).length = 0 := by simp
  rw [e]
  rfl
set_option maxHeartbeats 400000 in
theorem markints_any (v : Value) (k : Int) (base : Nat) (zs : List Int) (w : World) (h : w.ownsRow base 3 1 v zs.length (iv zs)) (hm : zs.length ≤ 4194304) (hk0 : 0 ≤ k) (hk : k ≤ 2305843009213693952) :
    Calls Tryz.prog 14 #[v, .int .i64 k] w fun e w' => e = .returned (.int .i64 (k + zs.length)) ∧ w'.ownsRow base 3 1 v zs.length (iv (imarked k zs zs.length)) ∧ w.grownBy w' v.ownBlock := by
  rcases h.2 with ⟨rfl, h0⟩ | ⟨g, cap, cur, rfl, hb, hg, hnc, hcm, hcs, htake⟩
  · have : zs = [] := List.eq_nil_of_length_eq_zero h0
    subst this
    go_enter Tryz.func14, Tryz.ntmps14
    go_wp2
    refine wp_loop_rounds 1 ?_
    rw [rounds_succ]
    go_wp2
    go_ret
    exact ⟨by simp, h, World.grownBy.refl _ _⟩
  · clear hg hcs htake
    go_enter Tryz.func14, Tryz.ntmps14
    go_wp2
    go_loopw [1, 5] (fun q i wr => ∃ j : Nat, j ≤ zs.length ∧ i = .int .i64 j ∧ q = .int .i64 (k + j) ∧ wr.ownsRow base 3 1 (.slice (some ⟨g, 0, none⟩) zs.length cap) zs.length (iv (imarked k zs j)) ∧ w.grownBy wr (some g)) (fun _ i _ => zs.length - (intOf i).toNat)
    case atStart => exact ⟨0, by omega, rfl, by simp, by rw [imarked_zero]; exact h, World.grownBy.refl _ _⟩
    case round =>
      obtain ⟨j, hj, rfl, rfl, hown, hbel⟩ := hrel
      by_cases hlt : j < zs.length
      · have hc := hown.cellAt j (by omega)
        rw [iv_get _ _ (by rw [imarked_length _ _ _ hj]; exact hlt)] at hc
        have hf := hown.frozenAt j
        have hs := hown.stored j (.int .i64 (k + (j : Int)))
        rw [iv_set, imarked_set k zs j hlt] at hs
        go_wp2
        go_roundw
        case rel => exact ⟨j + 1, by omega, by go_num, by go_num, hs.1, hbel.trans hs.2⟩
        case measure => simp [intOf]; omega
      · go_wp2
        go_ret
        have : j = zs.length := by omega
        subst this
        exact ⟨rfl, hown, hbel⟩
end Go.Proofs.YtkchakcebdenjaaGreat
/-
  Contract of impl.firstsAlike: for each node the first one that is alike.
-/
namespace Go.Proofs.YtkchakcebdenjaaGreat
open Go.RowKit Go.Maps
def padI (l : List Int) (n : Nat) : List Int := l ++ List.replicate (n - l.length) 0
end Go.Proofs.YtkchakcebdenjaaGreat
/-
  Contract of impl.SizeOf.
-/
namespace Go.Proofs.YtkchakcebdenjaaGreat
open Go.RowKit
def padded (xs : List Nd) (k n : Nat) : List Int := sizesTo xs k ++ List.replicate (n - k) 0
end Go.Proofs.YtkchakcebdenjaaGreat
/-
  Contract of spec's l1Min.
-/
namespace Go.Proofs.YtkchakcebdenjaaGreat
open Go.RowKit
end Go.Proofs.YtkchakcebdenjaaGreat
