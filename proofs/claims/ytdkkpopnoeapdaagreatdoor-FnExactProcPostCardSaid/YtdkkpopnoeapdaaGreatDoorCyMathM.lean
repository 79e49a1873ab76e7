/-
  Texts that stood by themselves, laid into one.
-/
import Derived.Test.YtdkkpopnoeapdaaGreatDoorMvMathM
import Derived.Test.YtdkkpopnoeapdaaGreatDoorListOfM
/-
  What is reached: all roots are, and all that a reached node has. Condition: the pool is right.
-/
namespace Go.Proofs.YtdkkpopnoeapdaaGreatDoor
open Go.RowKit

theorem getD_set_true (bs : List Bool) (i j : Nat) (h : bs.getD j false = true) : (bs.set i true).getD j false = true := by
  simp only [List.getD_eq_getElem?_getD] at h ⊢
  rw [List.getElem?_set]
  split
  · split
    · rfl
    · rename_i e hl; subst e; rw [List.getElem?_eq_none (by omega)] at h; exact h
  · exact h
theorem getD_set_same (bs : List Bool) (i : Nat) (h : i < bs.length) : (bs.set i true).getD i false = true := by
  simp only [List.getD_eq_getElem?_getD]
  rw [List.getElem?_set, if_pos rfl, if_pos h]
  rfl
theorem getD_set_other (bs : List Bool) (i j : Nat) (h : i ≠ j) : (bs.set i true).getD j false = bs.getD j false := by
  simp only [List.getD_eq_getElem?_getD]
  rw [List.getElem?_set, if_neg h]
theorem setB_mono (bs : List Bool) (i : Int) (j : Nat) (h : bs.getD j false = true) : (setB bs i).getD j false = true := getD_set_true bs _ j h
theorem fold_mono (rs : List Int) (bs : List Bool) (j : Nat) (h : bs.getD j false = true) : (rs.foldl setB bs).getD j false = true := by
  induction rs generalizing bs with
  | nil => exact h
  | cons r rs ih => exact ih _ (setB_mono bs r j h)
theorem fold_mem (rs : List Int) (bs : List Bool) (r : Int) (hr : r ∈ rs) (h : r.toNat < bs.length) : (rs.foldl setB bs).getD r.toNat false = true := by
  induction rs generalizing bs with
  | nil => simp at hr
  | cons q rs ih =>
    rw [List.foldl_cons]
    rcases List.mem_cons.1 hr with rfl | hr
    · exact fold_mono rs _ _ (getD_set_same bs _ h)
    · exact ih (setB bs q) hr (by rw [setB_length]; exact h)
theorem step_mono (x : Nd) (b : Bool) (bs : List Bool) (j : Nat) (h : bs.getD j false = true) : (hungStep x b bs).getD j false = true := by
  unfold hungStep
  split
  · apply setB_mono
    split
    · exact setB_mono bs _ j h
    · exact h
  · split
    · exact setB_mono bs _ j h
    · exact h
theorem down_mono (xs : List Nd) (k : Nat) (bs : List Bool) (j : Nat) (h : bs.getD j false = true) : (down xs k bs).getD j false = true := by
  induction k generalizing bs with
  | zero => exact h
  | succ k ih => exact ih _ (step_mono _ _ bs j h)
theorem step_keep (x : Nd) (k : Nat) (b : Bool) (bs : List Bool) (j : Nat) (hn : nodeB x k = true) (hj : k ≤ j) : (hungStep x b bs).getD j false = bs.getD j false := by
  have ha : hasA x.k = true → x.a.toNat ≠ j := fun h => by have := nodeB_A hn h; omega
  have hb : hasB x.k = true → x.b.toNat ≠ j := fun h => by have := nodeB_B hn h; omega
  unfold hungStep setB
  split
  · rename_i h1
    rw [Bool.and_eq_true] at h1
    rw [getD_set_other _ _ _ (hb h1.2)]
    split
    · rename_i h2
      rw [Bool.and_eq_true] at h2
      rw [getD_set_other _ _ _ (ha h2.2)]
    · rfl
  · split
    · rename_i h2
      rw [Bool.and_eq_true] at h2
      rw [getD_set_other _ _ _ (ha h2.2)]
    · rfl
theorem down_keep (xs : List Nd) (k : Nat) (bs : List Bool) (j : Nat) (hk : k ≤ xs.length) (hp : ∀ (i : Nat) (x : Nd), xs[i]? = some x → nodeB x i = true) (hj : k ≤ j) : (down xs k bs).getD j false = bs.getD j false := by
  induction k generalizing bs with
  | zero => rfl
  | succ k ih =>
    have hx : xs[k]? = some xs[k] := List.getElem?_eq_getElem (by omega)
    rw [down_at xs bs k _ hx, ih _ (by omega) (by omega), step_keep _ k _ _ _ (hp k _ hx) (by omega)]
theorem down_parts (xs : List Nd) (k : Nat) (bs : List Bool) (hk : k ≤ xs.length) (hl : bs.length = xs.length) (hp : ∀ (i : Nat) (x : Nd), xs[i]? = some x → nodeB x i = true) (i : Nat) (hi : i < k) (x : Nd) (hx : xs[i]? = some x) (ht : (down xs k bs).getD i false = true) :
    (hasA x.k = true → (down xs k bs).getD x.a.toNat false = true) ∧ (hasB x.k = true → (down xs k bs).getD x.b.toNat false = true) := by
  induction k generalizing bs with
  | zero => omega
  | succ k ih =>
    have hxk : xs[k]? = some xs[k] := List.getElem?_eq_getElem (by omega)
    rw [down_at xs bs k _ hxk] at ht ⊢
    by_cases hik : i < k
    · exact ih _ (by omega) (by rw [hungStep_length]; exact hl) hik ht
    · have hie : i = k := by omega
      subst hie
      rw [hx] at hxk
      injection hxk with hxk
      rw [← hxk] at ht ⊢
      have hn := hp i x hx
      rw [down_keep xs i _ i (by omega) hp (Nat.le_refl _), step_keep x i _ _ i hn (Nat.le_refl _)] at ht
      rw [ht]
      constructor
      · intro hA
        have hr := nodeB_A hn hA
        apply down_mono
        unfold hungStep
        rw [hA]
        split
        · exact setB_mono _ _ _ (getD_set_same _ _ (by omega))
        · exact getD_set_same _ _ (by omega)
      · intro hB
        have hr := nodeB_B hn hB
        apply down_mono
        unfold hungStep
        rw [hB]
        simp only [Bool.and_self, if_true]
        refine getD_set_same _ _ ?_
        split <;> (try rw [setB_length]) <;> omega
theorem reach_root (xs : List Nd) (rs : List Int) (r : Int) (hr : r ∈ rs) (h0 : 0 ≤ r) (h1 : r < xs.length) : (reachL xs rs).getD r.toNat false = true := by
  unfold reachL
  apply down_mono
  unfold rootsB
  exact fold_mem rs _ r hr (by simp; omega)
theorem reach_parts (xs : List Nd) (rs : List Int) (hp : ∀ (i : Nat) (x : Nd), xs[i]? = some x → nodeB x i = true) (i : Nat) (x : Nd) (hx : xs[i]? = some x) (ht : (reachL xs rs).getD i false = true) :
    (hasA x.k = true → (reachL xs rs).getD x.a.toNat false = true) ∧ (hasB x.k = true → (reachL xs rs).getD x.b.toNat false = true) :=
  down_parts xs xs.length _ (Nat.le_refl _) (rootsB_length _ _) hp i (List.getElem?_eq_some_iff.1 hx).1 x hx ht
end Go.Proofs.YtdkkpopnoeapdaaGreatDoor

/-
  What is copied: plain mathematics. What stands behind a value v it does not hang on. Condition: the pool is right.
-/
namespace Go.Proofs.YtdkkpopnoeapdaaGreatDoor
open Go.RowKit

theorem nodesB_take (xs : List Nd) (i m : Nat) (h : nodesB xs i = true) : nodesB (xs.take m) i = true := by
  induction xs generalizing i m with
  | nil => simp [nodesB]
  | cons x xs ih =>
    cases m with
    | zero => simp [nodesB]
    | succ m =>
      simp only [nodesB, List.take_succ_cons, Bool.and_eq_true] at h ⊢
      exact ⟨h.1, ih (i + 1) m h.2⟩
theorem poolB_take {xs : List Nd} (h : poolB xs = true) (m : Nat) : poolB (xs.take m) = true := by
  simp only [poolB, Bool.and_eq_true, decide_eq_true_eq] at h ⊢
  exact ⟨by simp; omega, nodesB_take xs 0 m h.2⟩
theorem step_false (x : Nd) (bs : List Bool) : hungStep x false bs = bs := by simp [hungStep]
theorem down_above (xs : List Nd) (n m : Nat) (bs : List Bool) (hm : m ≤ n) (hf : ∀ j, m ≤ j → bs.getD j false = false) : down xs n bs = down xs m bs := by
  induction n with
  | zero => have : m = 0 := by omega
            subst this; rfl
  | succ n ih =>
    by_cases h : m = n + 1
    · subst h; rfl
    · simp only [down]
      rw [hf n (by omega), step_false]
      exact ih (by omega)
theorem getD_take {α : Type} (l : List α) (m i : Nat) (d : α) (h : i < m) : (l.take m).getD i d = l.getD i d := by
  simp only [List.getD_eq_getElem?_getD, List.getElem?_take, if_pos h]
theorem setB_take (bs : List Bool) (m : Nat) (i : Int) : setB (bs.take m) i = (setB bs i).take m := by unfold setB; rw [List.take_set]
theorem step_take (x : Nd) (b : Bool) (bs : List Bool) (m : Nat) : hungStep x b (bs.take m) = (hungStep x b bs).take m := by
  unfold hungStep
  split <;> (split <;> simp [setB_take])
theorem down_take (xs : List Nd) (m k : Nat) (bs : List Bool) (h : k ≤ m) : down (xs.take m) k (bs.take m) = (down xs k bs).take m := by
  induction k generalizing bs with
  | zero => rfl
  | succ k ih =>
    simp only [down]
    rw [getD_take _ _ _ _ (by omega), getD_take _ _ _ _ (by omega), step_take, ih _ (by omega)]
theorem roots_one (n v : Nat) : rootsB n [(v : Int)] = (List.replicate n false).set v true := by simp [rootsB, setB]
theorem roots_above (n v j : Nat) (h : v + 1 ≤ j) : (rootsB n [(v : Int)]).getD j false = false := by
  rw [roots_one]
  simp only [List.getD_eq_getElem?_getD]
  rw [List.getElem?_set_ne (by omega)]
  simp only [List.getElem?_replicate]
  split <;> rfl
theorem reach_take (xs : List Nd) (v : Nat) (h : v < xs.length) : reachL (xs.take (v + 1)) [(v : Int)] = (reachL xs [(v : Int)]).take (v + 1) := by
  have hl : (xs.take (v + 1)).length = v + 1 := by simp; omega
  unfold reachL
  rw [hl, down_above xs xs.length (v + 1) _ (by omega) (fun j hj => roots_above xs.length v j hj), ← down_take xs (v + 1) (v + 1) _ (Nat.le_refl _)]
  congr 1
  rw [roots_one, roots_one, List.take_set, List.take_replicate]
  congr 2
  omega
theorem reach_above (xs : List Nd) (v j : Nat) (h : v < xs.length) (hp : ∀ (i : Nat) (x : Nd), xs[i]? = some x → nodeB x i = true) (hj : v + 1 ≤ j) : (reachL xs [(v : Int)]).getD j false = false := by
  unfold reachL
  rw [down_above xs xs.length (v + 1) _ (by omega) (fun j hj => roots_above xs.length v j hj), down_keep xs (v + 1) _ j (by omega) hp hj, roots_above _ _ _ hj]
theorem its_append (l1 l2 : List Nd) (bs : List Bool) (k : Nat) : its (l1 ++ l2) bs k = its l1 bs k ++ its l2 bs (k + l1.length) := by
  induction l1 generalizing k with
  | nil => simp [its]
  | cons x l ih =>
    simp only [List.cons_append, its, List.length_cons]
    rw [ih, show k + 1 + l.length = k + (l.length + 1) by omega]
    split <;> simp
theorem its_none (l : List Nd) (bs : List Bool) (k : Nat) (h : ∀ j, k ≤ j → bs.getD j false = false) : its l bs k = [] := by
  induction l generalizing k with
  | nil => rfl
  | cons x l ih =>
    simp only [its]
    rw [h k (Nat.le_refl _)]
    exact ih (k + 1) (fun j hj => h j (by omega))
theorem its_congr (l : List Nd) (bs cs : List Bool) (k : Nat) (h : ∀ j, k ≤ j → j < k + l.length → bs.getD j false = cs.getD j false) : its l bs k = its l cs k := by
  induction l generalizing k with
  | nil => rfl
  | cons x l ih =>
    simp only [its]
    rw [h k (Nat.le_refl _) (by simp), ih (k + 1) (fun j h1 h2 => h j (by omega) (by simp; omega))]
theorem its_lt (l : List Nd) (bs : List Bool) (k : Nat) : ∀ p ∈ its l bs k, p.1 < k + l.length := by
  induction l generalizing k with
  | nil => simp [its]
  | cons x l ih =>
    intro p hp
    simp only [its] at hp
    simp only [List.length_cons]
    split at hp
    · rcases List.mem_cons.1 hp with rfl | hp
      · simp
      · have := ih (k + 1) p hp; omega
    · have := ih (k + 1) p hp; omega
theorem its_cut (xs : List Nd) (v : Nat) (h : v < xs.length) (hp : ∀ (i : Nat) (x : Nd), xs[i]? = some x → nodeB x i = true) : its xs (reachL xs [(v : Int)]) 0 = its (xs.take (v + 1)) (reachL (xs.take (v + 1)) [(v : Int)]) 0 := by
  have e : its xs (reachL xs [(v : Int)]) 0 = its (xs.take (v + 1) ++ xs.drop (v + 1)) (reachL xs [(v : Int)]) 0 := by rw [List.take_append_drop]
  rw [e, its_append, its_none (xs.drop (v + 1)) _ _ (fun j hj => reach_above xs v j h hp (by simp at hj; omega)), List.append_nil, reach_take xs v h]
  exact its_congr _ _ _ 0 (fun j _ hj => by rw [getD_take _ _ _ _ (by simp at hj; omega)])
/-- Two states alike but for how many places there are. -/
def Alm (s t : List Nd × List Int) : Prop := s.1 = t.1 ∧ ∀ j, s.2.getD j 0 = t.2.getD j 0
theorem alm_step (a : Nat) (s t : List Nd × List Int) (p : Nat × Nd) (h : Alm s t) (hs : p.1 < s.2.length) (ht : p.1 < t.2.length) : Alm (mvS a s p) (mvS a t p) := by
  obtain ⟨h1, h2⟩ := h
  refine ⟨?_, fun j => ?_⟩
  · simp only [mvS, h1]
    congr 2
    unfold nrm
    rw [h2, h2]
  · simp only [mvS, h1, List.getD_eq_getElem?_getD, List.getElem?_set]
    have := h2 j
    simp only [List.getD_eq_getElem?_getD] at this
    split
    · rename_i e; subst e; simp
    · exact this
theorem alm_fold (a : Nat) (l : List (Nat × Nd)) (s t : List Nd × List Int) (h : Alm s t) (hs : ∀ p ∈ l, p.1 < s.2.length) (ht : ∀ p ∈ l, p.1 < t.2.length) : Alm (l.foldl (mvS a) s) (l.foldl (mvS a) t) := by
  induction l generalizing s t with
  | nil => exact h
  | cons p l ih =>
    rw [List.foldl_cons, List.foldl_cons]
    refine ih _ _ (alm_step a s t p h (hs p List.mem_cons_self) (ht p List.mem_cons_self)) (fun q hq => ?_) (fun q hq => ?_)
    · simpa [mvS] using hs q (List.mem_cons_of_mem _ hq)
    · simpa [mvS] using ht q (List.mem_cons_of_mem _ hq)
theorem getD_rep (n j : Nat) : (List.replicate n (0 : Int)).getD j 0 = 0 := by
  simp only [List.getD_eq_getElem?_getD, List.getElem?_replicate]
  split <;> rfl
theorem mv_cut (a : Nat) (xs : List Nd) (v : Nat) (h : v < xs.length) (hp : ∀ (i : Nat) (x : Nd), xs[i]? = some x → nodeB x i = true) :
    mvN a (xs.take (v + 1)) [(v : Int)] = mvN a xs [(v : Int)] ∧ (mvAll a (xs.take (v + 1)) (reachL (xs.take (v + 1)) [(v : Int)])).2.getD v 0 = (mvAll a xs (reachL xs [(v : Int)])).2.getD v 0 := by
  have hl : (xs.take (v + 1)).length = v + 1 := by simp; omega
  have hlt := its_lt (xs.take (v + 1)) (reachL (xs.take (v + 1)) [(v : Int)]) 0
  rw [hl, Nat.zero_add] at hlt
  have := alm_fold a (its (xs.take (v + 1)) (reachL (xs.take (v + 1)) [(v : Int)]) 0) ([], List.replicate (v + 1) 0) ([], List.replicate xs.length 0) ⟨rfl, fun j => by rw [getD_rep, getD_rep]⟩ (fun p hp' => by simpa using hlt p hp') (fun p hp' => by have := hlt p hp'; simp; omega)
  unfold mvN mvAll mvF
  rw [hl, its_cut xs v h hp]
  exact ⟨this.1, this.2 v⟩
theorem its_some (xs : List Nd) (v : Nat) (h : v < xs.length) : its xs (reachL xs [(v : Int)]) 0 ≠ [] := by
  have hr := reach_root xs [(v : Int)] v (by simp) (by omega) (by omega)
  rw [Int.toNat_natCast] at hr
  intro e
  have e2 : its (xs.take v ++ xs.drop v) (reachL xs [(v : Int)]) 0 = [] := by rw [List.take_append_drop]; exact e
  rw [its_append, List.append_eq_nil_iff, List.length_take, show 0 + min v xs.length = v by omega, its_at xs _ v _ (List.getElem?_eq_getElem h), hr] at e2
  simp at e2

/-- What Copy leaves, and where the value is then. -/
def cyOk (ps xs : List Nd) (v : Int) : Bool := poolB xs && hasI xs v && decide (ps.length + (mvN ps.length xs [v]).length ≤ 3000)
def cyL (ps xs : List Nd) (v : Int) : List Nd := if poolB ps then (if cyOk ps xs v then ps ++ mvN ps.length xs [v] else ps) else []
def cyI (ps xs : List Nd) (v : Int) : Int := if poolB ps then (if cyOk ps xs v then (mvAll ps.length xs (reachL xs [v])).2.getD v.toNat 0 else -1) else -1
end Go.Proofs.YtdkkpopnoeapdaaGreatDoor
