/-
  Contracts of the laws' own helpers: markByteS writes k, k+1, .. into a slice of the call's own; heldByteS finds them there.
-/
import Derived.Test.YthaimhgjfjcbeajOwn
namespace Go.Proofs.Ythaimhgjfjcbeaj
open Go.RowKit

/-- What lies in a slice of n bytes behind markByteS from k on, when i of them are written and zs stood there. -/
def marked (k : Int) (zs : List Int) (i : Nat) : List Int := (List.range i).map (fun (j : Nat) => ((k + (j : Int)) % 256)) ++ zs.drop i
theorem marked_zero (k : Int) (zs : List Int) : marked k zs 0 = zs := by simp [marked]
theorem marked_length (k : Int) (zs : List Int) (i : Nat) (h : i ≤ zs.length) : (marked k zs i).length = zs.length := by simp [marked]; omega
theorem marked_set (k : Int) (zs : List Int) (i : Nat) (h : i < zs.length) : (bv (marked k zs i)).set i (.int .u8 ((k + (i : Int)) % 256)) = bv (marked k zs (i + 1)) := by
  unfold marked bv
  rw [List.range_succ]
  simp only [List.map_append, List.map_cons, List.map_nil]
  rw [List.set_append_right _ _ (by simp)]
  have e : (List.map (Value.int .u8) (zs.drop i)) = Value.int .u8 zs[i] :: List.map (Value.int .u8) (zs.drop (i + 1)) := by
    rw [List.drop_eq_getElem_cons h]; rfl
  rw [e]
  simp
theorem marked_get (k : Int) (zs : List Int) (i : Nat) (h : i < zs.length) : (marked k zs zs.length).getD i 0 = (k + (i : Int)) % 256 := by
  simp [marked, List.getD, h]
theorem marked_wf (k : Int) (zs : List Int) : ∀ z ∈ marked k zs zs.length, 0 ≤ z ∧ z ≤ 255 := by
  intro z hz
  simp [marked] at hz
  obtain ⟨j, _, rfl⟩ := hz
  omega

set_option maxHeartbeats 400000 in
theorem mark_any (v : Value) (k : Int) (base : Nat) (zs : List Int) (w : World) (h : w.ownsRow base 5 1 v zs.length (bv zs)) (hm : zs.length ≤ 140737488351232) (hk0 : 0 ≤ k) (hk : k ≤ 4611686018427387904) :
    Calls Try.prog 10 #[v, .int .i64 k] w fun e w' => e = .returned (.int .i64 (k + zs.length)) ∧ w'.ownsRow base 5 1 v zs.length (bv (marked k zs zs.length)) ∧ Below base w w' := by
  rcases h.2 with ⟨rfl, h0⟩ | ⟨g, cap, cur, rfl, hb, hg, hnc, hcm, hcs, htake⟩
  · have : zs = [] := List.eq_nil_of_length_eq_zero h0
    subst this
    go_enter Try.func10, Try.ntmps10
    go_wp2
    refine wp_loop_rounds 1 ?_
    rw [rounds_succ]
    go_wp2
    go_ret
    exact ⟨by simp, h, Below.refl _ _⟩
  · clear hg hcs htake
    go_enter Try.func10, Try.ntmps10
    go_wp2
    go_loopw [1, 5] (fun q i wr => ∃ j : Nat, j ≤ zs.length ∧ i = .int .i64 j ∧ q = .int .i64 (k + j) ∧ wr.ownsRow base 5 1 (.slice (some ⟨g, 0, none⟩) zs.length cap) zs.length (bv (marked k zs j)) ∧ Below base w wr) (fun _ i _ => zs.length - (intOf i).toNat)
    case atStart => exact ⟨0, by omega, rfl, by simp, by rw [marked_zero]; exact h, Below.refl _ _⟩
    case round =>
      obtain ⟨j, hj, rfl, rfl, hown, hbel⟩ := hrel
      by_cases hlt : j < zs.length
      · have hc := hown.cellAt j (by omega)
        rw [bv_get _ _ (by rw [marked_length _ _ _ hj]; exact hlt)] at hc
        have hf := hown.frozenAt j
        have hs := hown.stored j (.int .u8 (((k + (j : Int)) % 256)))
        go_wp2
        go_roundw
        case rel =>
          refine ⟨j + 1, by omega, by go_num, by go_num, ?_, hbel.setCell hb _⟩
          rw [← marked_set k zs j hlt]
          exact hs.1
        case measure => simp [intOf]; omega
      · go_wp2
        go_ret
        have : j = zs.length := by omega
        subst this
        exact ⟨rfl, hown, hbel⟩

set_option maxHeartbeats 400000 in
theorem held_any (v : Value) (k : Int) (ys : List Int) (w : World) (h : Row w v (marked k ys ys.length)) (hk0 : 0 ≤ k) (hk : k ≤ 4611686018427387904) :
    Calls Try.prog 11 #[v, .int .i64 k] w fun e w' => e = .returned (.int .i64 (k + ys.length)) ∧ w' = w := by
  obtain ⟨ao, cap, rfl, hcap, hm, hz, hcell⟩ := h
  rw [marked_length _ _ _ (Nat.le_refl _)] at hm hcap hcell ⊢
  by_cases hne : ys = []
  · subst hne
    go_enter Try.func11, Try.ntmps11
    go_wp2
    refine wp_loop_rounds 1 ?_
    rw [rounds_succ]
    go_wp2
    go_ret
    exact ⟨by simp, rfl⟩
  · obtain ⟨g, o, rfl, hg, hcell⟩ := hcell (by intro e; apply hne; have := congrArg List.length e; rw [marked_length _ _ _ (Nat.le_refl _)] at this; exact List.eq_nil_of_length_eq_zero this)
    clear hne
    go_enter Try.func11, Try.ntmps11
    go_wp2
    go_loop [1, 5] (fun q i => ∃ j : Nat, j ≤ ys.length ∧ i = .int .i64 j ∧ q = .int .i64 (k + j)) (fun _ i => ys.length - (intOf i).toNat)
    case atStart => exact ⟨0, by omega, rfl, by simp⟩
    case round =>
      obtain ⟨j, hj, rfl, rfl⟩ := hrel
      by_cases hlt : j < ys.length
      · have hc := hcell j hlt
        rw [marked_get _ _ _ hlt] at hc
        clear hcell
        go_wp2
        go_round
        case rel => exact ⟨j + 1, by omega, by go_num, by go_num⟩
        case measure => simp [intOf]; omega
      · go_wp2
        go_ret
        have : j = ys.length := by omega
        subst this
        exact ⟨rfl, rfl⟩

end Go.Proofs.Ythaimhgjfjcbeaj
