/-
  What is reached: all roots are, and all that a reached node has. Condition: the pool is right.
-/
import Derived.Test.YtbdgdeoecnhcdabRcMath
import Derived.Test.YtbdgdeoecnhcdabSizeI
namespace Go.Proofs.Ytbdgdeoecnhcdab
open Go.RowKit

theorem getD_set_true (bs : List Bool) (i j : Nat) (h : bs.getD j false = true) : (bs.set i true).getD j false = true := by
  simp only [List.getD_eq_getElem?_getD] at h ⊢
  rw [List.getElem?_set]
  split
  · split
    · rfl
    · rename_i e hl; subst e; rw [List.getElem?_eq_none (by omega)] at h; exact h
  · exact h
theorem getD_set_same (bs : List Bool) (i : Nat) (h : i < bs.length) : (bs.set i true).getD i false = true := by
  simp only [List.getD_eq_getElem?_getD]
  rw [List.getElem?_set, if_pos rfl, if_pos h]
  rfl
theorem getD_set_other (bs : List Bool) (i j : Nat) (h : i ≠ j) : (bs.set i true).getD j false = bs.getD j false := by
  simp only [List.getD_eq_getElem?_getD]
  rw [List.getElem?_set, if_neg h]
theorem setB_mono (bs : List Bool) (i : Int) (j : Nat) (h : bs.getD j false = true) : (setB bs i).getD j false = true := getD_set_true bs _ j h
theorem fold_mono (rs : List Int) (bs : List Bool) (j : Nat) (h : bs.getD j false = true) : (rs.foldl setB bs).getD j false = true := by
  induction rs generalizing bs with
  | nil => exact h
  | cons r rs ih => exact ih _ (setB_mono bs r j h)
theorem fold_mem (rs : List Int) (bs : List Bool) (r : Int) (hr : r ∈ rs) (h : r.toNat < bs.length) : (rs.foldl setB bs).getD r.toNat false = true := by
  induction rs generalizing bs with
  | nil => simp at hr
  | cons q rs ih =>
    rw [List.foldl_cons]
    rcases List.mem_cons.1 hr with rfl | hr
    · exact fold_mono rs _ _ (getD_set_same bs _ h)
    · exact ih (setB bs q) hr (by rw [setB_length]; exact h)
theorem step_mono (x : Nd) (b : Bool) (bs : List Bool) (j : Nat) (h : bs.getD j false = true) : (hungStep x b bs).getD j false = true := by
  unfold hungStep
  split
  · apply setB_mono
    split
    · exact setB_mono bs _ j h
    · exact h
  · split
    · exact setB_mono bs _ j h
    · exact h
theorem down_mono (xs : List Nd) (k : Nat) (bs : List Bool) (j : Nat) (h : bs.getD j false = true) : (down xs k bs).getD j false = true := by
  induction k generalizing bs with
  | zero => exact h
  | succ k ih => exact ih _ (step_mono _ _ bs j h)
theorem step_keep (x : Nd) (k : Nat) (b : Bool) (bs : List Bool) (j : Nat) (hn : nodeB x k = true) (hj : k ≤ j) : (hungStep x b bs).getD j false = bs.getD j false := by
  have ha : hasA x.k = true → x.a.toNat ≠ j := fun h => by have := nodeB_A hn h; omega
  have hb : hasB x.k = true → x.b.toNat ≠ j := fun h => by have := nodeB_B hn h; omega
  unfold hungStep setB
  split
  · rename_i h1
    rw [Bool.and_eq_true] at h1
    rw [getD_set_other _ _ _ (hb h1.2)]
    split
    · rename_i h2
      rw [Bool.and_eq_true] at h2
      rw [getD_set_other _ _ _ (ha h2.2)]
    · rfl
  · split
    · rename_i h2
      rw [Bool.and_eq_true] at h2
      rw [getD_set_other _ _ _ (ha h2.2)]
    · rfl
theorem down_keep (xs : List Nd) (k : Nat) (bs : List Bool) (j : Nat) (hk : k ≤ xs.length) (hp : ∀ (i : Nat) (x : Nd), xs[i]? = some x → nodeB x i = true) (hj : k ≤ j) : (down xs k bs).getD j false = bs.getD j false := by
  induction k generalizing bs with
  | zero => rfl
  | succ k ih =>
    have hx : xs[k]? = some xs[k] := List.getElem?_eq_getElem (by omega)
    rw [down_at xs bs k _ hx, ih _ (by omega) (by omega), step_keep _ k _ _ _ (hp k _ hx) (by omega)]
theorem down_parts (xs : List Nd) (k : Nat) (bs : List Bool) (hk : k ≤ xs.length) (hl : bs.length = xs.length) (hp : ∀ (i : Nat) (x : Nd), xs[i]? = some x → nodeB x i = true) (i : Nat) (hi : i < k) (x : Nd) (hx : xs[i]? = some x) (ht : (down xs k bs).getD i false = true) :
    (hasA x.k = true → (down xs k bs).getD x.a.toNat false = true) ∧ (hasB x.k = true → (down xs k bs).getD x.b.toNat false = true) := by
  induction k generalizing bs with
  | zero => omega
  | succ k ih =>
    have hxk : xs[k]? = some xs[k] := List.getElem?_eq_getElem (by omega)
    rw [down_at xs bs k _ hxk] at ht ⊢
    by_cases hik : i < k
    · exact ih _ (by omega) (by rw [hungStep_length]; exact hl) hik ht
    · have hie : i = k := by omega
      subst hie
      rw [hx] at hxk
      injection hxk with hxk
      rw [← hxk] at ht ⊢
      have hn := hp i x hx
      rw [down_keep xs i _ i (by omega) hp (Nat.le_refl _), step_keep x i _ _ i hn (Nat.le_refl _)] at ht
      rw [ht]
      constructor
      · intro hA
        have hr := nodeB_A hn hA
        apply down_mono
        unfold hungStep
        rw [hA]
        split
        · exact setB_mono _ _ _ (getD_set_same _ _ (by omega))
        · exact getD_set_same _ _ (by omega)
      · intro hB
        have hr := nodeB_B hn hB
        apply down_mono
        unfold hungStep
        rw [hB]
        simp only [Bool.and_self, if_true]
        refine getD_set_same _ _ ?_
        split <;> (try rw [setB_length]) <;> omega
theorem reach_root (xs : List Nd) (rs : List Int) (r : Int) (hr : r ∈ rs) (h0 : 0 ≤ r) (h1 : r < xs.length) : (reachL xs rs).getD r.toNat false = true := by
  unfold reachL
  apply down_mono
  unfold rootsB
  exact fold_mem rs _ r hr (by simp; omega)
theorem reach_parts (xs : List Nd) (rs : List Int) (hp : ∀ (i : Nat) (x : Nd), xs[i]? = some x → nodeB x i = true) (i : Nat) (x : Nd) (hx : xs[i]? = some x) (ht : (reachL xs rs).getD i false = true) :
    (hasA x.k = true → (reachL xs rs).getD x.a.toNat false = true) ∧ (hasB x.k = true → (reachL xs rs).getD x.b.toNat false = true) :=
  down_parts xs xs.length _ (Nat.le_refl _) (rootsB_length _ _) hp i (List.getElem?_eq_some_iff.1 hx).1 x hx ht
end Go.Proofs.Ytbdgdeoecnhcdab
