/-
  Texts that stood by themselves, laid into one.
-/
import Derived.Test.YtjnhocefnfmhmaaGreatDoorMvMathM
import Derived.Test.YtjnhocefnfmhmaaGreatDoorSizeIM
import Derived.Test.YtjnhocefnfmhmaaGreatDoorAddM
import Derived.Test.YtjnhocefnfmhmaaGreatDoorIWireM
import Derived.Test.YtjnhocefnfmhmaaGreatDoorPrRegM
/-
  What is reached: all roots are, and all that a reached node has. Condition: the pool is right.
-/
namespace Go.Proofs.YtjnhocefnfmhmaaGreatDoor
open Go.RowKit

theorem getD_set_true (bs : List Bool) (i j : Nat) (h : bs.getD j false = true) : (bs.set i true).getD j false = true := by
  simp only [List.getD_eq_getElem?_getD] at h ⊢
  rw [List.getElem?_set]
  split
  · split
    · rfl
    · rename_i e hl; subst e; rw [List.getElem?_eq_none (by omega)] at h; exact h
  · exact h
theorem getD_set_same (bs : List Bool) (i : Nat) (h : i < bs.length) : (bs.set i true).getD i false = true := by
  simp only [List.getD_eq_getElem?_getD]
  rw [List.getElem?_set, if_pos rfl, if_pos h]
  rfl
theorem getD_set_other (bs : List Bool) (i j : Nat) (h : i ≠ j) : (bs.set i true).getD j false = bs.getD j false := by
  simp only [List.getD_eq_getElem?_getD]
  rw [List.getElem?_set, if_neg h]
theorem setB_mono (bs : List Bool) (i : Int) (j : Nat) (h : bs.getD j false = true) : (setB bs i).getD j false = true := getD_set_true bs _ j h
theorem fold_mono (rs : List Int) (bs : List Bool) (j : Nat) (h : bs.getD j false = true) : (rs.foldl setB bs).getD j false = true := by
  induction rs generalizing bs with
  | nil => exact h
  | cons r rs ih => exact ih _ (setB_mono bs r j h)
theorem fold_mem (rs : List Int) (bs : List Bool) (r : Int) (hr : r ∈ rs) (h : r.toNat < bs.length) : (rs.foldl setB bs).getD r.toNat false = true := by
  induction rs generalizing bs with
  | nil => simp at hr
  | cons q rs ih =>
    rw [List.foldl_cons]
    rcases List.mem_cons.1 hr with rfl | hr
    · exact fold_mono rs _ _ (getD_set_same bs _ h)
    · exact ih (setB bs q) hr (by rw [setB_length]; exact h)
theorem step_mono (x : Nd) (b : Bool) (bs : List Bool) (j : Nat) (h : bs.getD j false = true) : (hungStep x b bs).getD j false = true := by
  unfold hungStep
  split
  · apply setB_mono
    split
    · exact setB_mono bs _ j h
    · exact h
  · split
    · exact setB_mono bs _ j h
    · exact h
theorem down_mono (xs : List Nd) (k : Nat) (bs : List Bool) (j : Nat) (h : bs.getD j false = true) : (down xs k bs).getD j false = true := by
  induction k generalizing bs with
  | zero => exact h
  | succ k ih => exact ih _ (step_mono _ _ bs j h)
theorem step_keep (x : Nd) (k : Nat) (b : Bool) (bs : List Bool) (j : Nat) (hn : nodeB x k = true) (hj : k ≤ j) : (hungStep x b bs).getD j false = bs.getD j false := by
  have ha : hasA x.k = true → x.a.toNat ≠ j := fun h => by have := nodeB_A hn h; omega
  have hb : hasB x.k = true → x.b.toNat ≠ j := fun h => by have := nodeB_B hn h; omega
  unfold hungStep setB
  split
  · rename_i h1
    rw [Bool.and_eq_true] at h1
    rw [getD_set_other _ _ _ (hb h1.2)]
    split
    · rename_i h2
      rw [Bool.and_eq_true] at h2
      rw [getD_set_other _ _ _ (ha h2.2)]
    · rfl
  · split
    · rename_i h2
      rw [Bool.and_eq_true] at h2
      rw [getD_set_other _ _ _ (ha h2.2)]
    · rfl
theorem down_keep (xs : List Nd) (k : Nat) (bs : List Bool) (j : Nat) (hk : k ≤ xs.length) (hp : ∀ (i : Nat) (x : Nd), xs[i]? = some x → nodeB x i = true) (hj : k ≤ j) : (down xs k bs).getD j false = bs.getD j false := by
  induction k generalizing bs with
  | zero => rfl
  | succ k ih =>
    have hx : xs[k]? = some xs[k] := List.getElem?_eq_getElem (by omega)
    rw [down_at xs bs k _ hx, ih _ (by omega) (by omega), step_keep _ k _ _ _ (hp k _ hx) (by omega)]
theorem down_parts (xs : List Nd) (k : Nat) (bs : List Bool) (hk : k ≤ xs.length) (hl : bs.length = xs.length) (hp : ∀ (i : Nat) (x : Nd), xs[i]? = some x → nodeB x i = true) (i : Nat) (hi : i < k) (x : Nd) (hx : xs[i]? = some x) (ht : (down xs k bs).getD i false = true) :
    (hasA x.k = true → (down xs k bs).getD x.a.toNat false = true) ∧ (hasB x.k = true → (down xs k bs).getD x.b.toNat false = true) := by
  induction k generalizing bs with
  | zero => omega
  | succ k ih =>
    have hxk : xs[k]? = some xs[k] := List.getElem?_eq_getElem (by omega)
    rw [down_at xs bs k _ hxk] at ht ⊢
    by_cases hik : i < k
    · exact ih _ (by omega) (by rw [hungStep_length]; exact hl) hik ht
    · have hie : i = k := by omega
      subst hie
      rw [hx] at hxk
      injection hxk with hxk
      rw [← hxk] at ht ⊢
      have hn := hp i x hx
      rw [down_keep xs i _ i (by omega) hp (Nat.le_refl _), step_keep x i _ _ i hn (Nat.le_refl _)] at ht
      rw [ht]
      constructor
      · intro hA
        have hr := nodeB_A hn hA
        apply down_mono
        unfold hungStep
        rw [hA]
        split
        · exact setB_mono _ _ _ (getD_set_same _ _ (by omega))
        · exact getD_set_same _ _ (by omega)
      · intro hB
        have hr := nodeB_B hn hB
        apply down_mono
        unfold hungStep
        rw [hB]
        simp only [Bool.and_self, if_true]
        refine getD_set_same _ _ ?_
        split <;> (try rw [setB_length]) <;> omega
theorem reach_root (xs : List Nd) (rs : List Int) (r : Int) (hr : r ∈ rs) (h0 : 0 ≤ r) (h1 : r < xs.length) : (reachL xs rs).getD r.toNat false = true := by
  unfold reachL
  apply down_mono
  unfold rootsB
  exact fold_mem rs _ r hr (by simp; omega)
theorem reach_parts (xs : List Nd) (rs : List Int) (hp : ∀ (i : Nat) (x : Nd), xs[i]? = some x → nodeB x i = true) (i : Nat) (x : Nd) (hx : xs[i]? = some x) (ht : (reachL xs rs).getD i false = true) :
    (hasA x.k = true → (reachL xs rs).getD x.a.toNat false = true) ∧ (hasB x.k = true → (reachL xs rs).getD x.b.toNat false = true) :=
  down_parts xs xs.length _ (Nat.le_refl _) (rootsB_length _ _) hp i (List.getElem?_eq_some_iff.1 hx).1 x hx ht
end Go.Proofs.YtjnhocefnfmhmaaGreatDoor

/-
  What is copied: plain mathematics. What stands behind a value v it does not hang on. Condition: the pool is right.
-/
namespace Go.Proofs.YtjnhocefnfmhmaaGreatDoor
open Go.RowKit

theorem nodesB_take (xs : List Nd) (i m : Nat) (h : nodesB xs i = true) : nodesB (xs.take m) i = true := by
  induction xs generalizing i m with
  | nil => simp [nodesB]
  | cons x xs ih =>
    cases m with
    | zero => simp [nodesB]
    | succ m =>
      simp only [nodesB, List.take_succ_cons, Bool.and_eq_true] at h ⊢
      exact ⟨h.1, ih (i + 1) m h.2⟩
theorem poolB_take {xs : List Nd} (h : poolB xs = true) (m : Nat) : poolB (xs.take m) = true := by
  simp only [poolB, Bool.and_eq_true, decide_eq_true_eq] at h ⊢
  exact ⟨by simp; omega, nodesB_take xs 0 m h.2⟩
theorem step_false (x : Nd) (bs : List Bool) : hungStep x false bs = bs := by simp [hungStep]
theorem down_above (xs : List Nd) (n m : Nat) (bs : List Bool) (hm : m ≤ n) (hf : ∀ j, m ≤ j → bs.getD j false = false) : down xs n bs = down xs m bs := by
  induction n with
  | zero => have : m = 0 := by omega
            subst this; rfl
  | succ n ih =>
    by_cases h : m = n + 1
    · subst h; rfl
    · simp only [down]
      rw [hf n (by omega), step_false]
      exact ih (by omega)
theorem getD_take {α : Type} (l : List α) (m i : Nat) (d : α) (h : i < m) : (l.take m).getD i d = l.getD i d := by
  simp only [List.getD_eq_getElem?_getD, List.getElem?_take, if_pos h]
theorem setB_take (bs : List Bool) (m : Nat) (i : Int) : setB (bs.take m) i = (setB bs i).take m := by unfold setB; rw [List.take_set]
theorem step_take (x : Nd) (b : Bool) (bs : List Bool) (m : Nat) : hungStep x b (bs.take m) = (hungStep x b bs).take m := by
  unfold hungStep
  split <;> (split <;> simp [setB_take])
theorem down_take (xs : List Nd) (m k : Nat) (bs : List Bool) (h : k ≤ m) : down (xs.take m) k (bs.take m) = (down xs k bs).take m := by
  induction k generalizing bs with
  | zero => rfl
  | succ k ih =>
    simp only [down]
    rw [getD_take _ _ _ _ (by omega), getD_take _ _ _ _ (by omega), step_take, ih _ (by omega)]
theorem roots_one (n v : Nat) : rootsB n [(v : Int)] = (List.replicate n false).set v true := by simp [rootsB, setB]
theorem roots_above (n v j : Nat) (h : v + 1 ≤ j) : (rootsB n [(v : Int)]).getD j false = false := by
  rw [roots_one]
  simp only [List.getD_eq_getElem?_getD]
  rw [List.getElem?_set_ne (by omega)]
  simp only [List.getElem?_replicate]
  split <;> rfl
theorem reach_take (xs : List Nd) (v : Nat) (h : v < xs.length) : reachL (xs.take (v + 1)) [(v : Int)] = (reachL xs [(v : Int)]).take (v + 1) := by
  have hl : (xs.take (v + 1)).length = v + 1 := by simp; omega
  unfold reachL
  rw [hl, down_above xs xs.length (v + 1) _ (by omega) (fun j hj => roots_above xs.length v j hj), ← down_take xs (v + 1) (v + 1) _ (Nat.le_refl _)]
  congr 1
  rw [roots_one, roots_one, List.take_set, List.take_replicate]
  congr 2
  omega
theorem reach_above (xs : List Nd) (v j : Nat) (h : v < xs.length) (hp : ∀ (i : Nat) (x : Nd), xs[i]? = some x → nodeB x i = true) (hj : v + 1 ≤ j) : (reachL xs [(v : Int)]).getD j false = false := by
  unfold reachL
  rw [down_above xs xs.length (v + 1) _ (by omega) (fun j hj => roots_above xs.length v j hj), down_keep xs (v + 1) _ j (by omega) hp hj, roots_above _ _ _ hj]
theorem its_append (l1 l2 : List Nd) (bs : List Bool) (k : Nat) : its (l1 ++ l2) bs k = its l1 bs k ++ its l2 bs (k + l1.length) := by
  induction l1 generalizing k with
  | nil => simp [its]
  | cons x l ih =>
    simp only [List.cons_append, its, List.length_cons]
    rw [ih, show k + 1 + l.length = k + (l.length + 1) by omega]
    split <;> simp
theorem its_none (l : List Nd) (bs : List Bool) (k : Nat) (h : ∀ j, k ≤ j → bs.getD j false = false) : its l bs k = [] := by
  induction l generalizing k with
  | nil => rfl
  | cons x l ih =>
    simp only [its]
    rw [h k (Nat.le_refl _)]
    exact ih (k + 1) (fun j hj => h j (by omega))
theorem its_congr (l : List Nd) (bs cs : List Bool) (k : Nat) (h : ∀ j, k ≤ j → j < k + l.length → bs.getD j false = cs.getD j false) : its l bs k = its l cs k := by
  induction l generalizing k with
  | nil => rfl
  | cons x l ih =>
    simp only [its]
    rw [h k (Nat.le_refl _) (by simp), ih (k + 1) (fun j h1 h2 => h j (by omega) (by simp; omega))]
theorem its_lt (l : List Nd) (bs : List Bool) (k : Nat) : ∀ p ∈ its l bs k, p.1 < k + l.length := by
  induction l generalizing k with
  | nil => simp [its]
  | cons x l ih =>
    intro p hp
    simp only [its] at hp
    simp only [List.length_cons]
    split at hp
    · rcases List.mem_cons.1 hp with rfl | hp
      · simp
      · have := ih (k + 1) p hp; omega
    · have := ih (k + 1) p hp; omega
theorem its_cut (xs : List Nd) (v : Nat) (h : v < xs.length) (hp : ∀ (i : Nat) (x : Nd), xs[i]? = some x → nodeB x i = true) : its xs (reachL xs [(v : Int)]) 0 = its (xs.take (v + 1)) (reachL (xs.take (v + 1)) [(v : Int)]) 0 := by
  have e : its xs (reachL xs [(v : Int)]) 0 = its (xs.take (v + 1) ++ xs.drop (v + 1)) (reachL xs [(v : Int)]) 0 := by rw [List.take_append_drop]
  rw [e, its_append, its_none (xs.drop (v + 1)) _ _ (fun j hj => reach_above xs v j h hp (by simp at hj; omega)), List.append_nil, reach_take xs v h]
  exact its_congr _ _ _ 0 (fun j _ hj => by rw [getD_take _ _ _ _ (by simp at hj; omega)])
/-- Two states alike but for how many places there are. -/
def Alm (s t : List Nd × List Int) : Prop := s.1 = t.1 ∧ ∀ j, s.2.getD j 0 = t.2.getD j 0
theorem alm_step (a : Nat) (s t : List Nd × List Int) (p : Nat × Nd) (h : Alm s t) (hs : p.1 < s.2.length) (ht : p.1 < t.2.length) : Alm (mvS a s p) (mvS a t p) := by
  obtain ⟨h1, h2⟩ := h
  refine ⟨?_, fun j => ?_⟩
  · simp only [mvS, h1]
    congr 2
    unfold nrm
    rw [h2, h2]
  · simp only [mvS, h1, List.getD_eq_getElem?_getD, List.getElem?_set]
    have := h2 j
    simp only [List.getD_eq_getElem?_getD] at this
    split
    · rename_i e; subst e; simp
    · exact this
theorem alm_fold (a : Nat) (l : List (Nat × Nd)) (s t : List Nd × List Int) (h : Alm s t) (hs : ∀ p ∈ l, p.1 < s.2.length) (ht : ∀ p ∈ l, p.1 < t.2.length) : Alm (l.foldl (mvS a) s) (l.foldl (mvS a) t) := by
  induction l generalizing s t with
  | nil => exact h
  | cons p l ih =>
    rw [List.foldl_cons, List.foldl_cons]
    refine ih _ _ (alm_step a s t p h (hs p List.mem_cons_self) (ht p List.mem_cons_self)) (fun q hq => ?_) (fun q hq => ?_)
    · simpa [mvS] using hs q (List.mem_cons_of_mem _ hq)
    · simpa [mvS] using ht q (List.mem_cons_of_mem _ hq)
theorem getD_rep (n j : Nat) : (List.replicate n (0 : Int)).getD j 0 = 0 := by
  simp only [List.getD_eq_getElem?_getD, List.getElem?_replicate]
  split <;> rfl
theorem mv_cut (a : Nat) (xs : List Nd) (v : Nat) (h : v < xs.length) (hp : ∀ (i : Nat) (x : Nd), xs[i]? = some x → nodeB x i = true) :
    mvN a (xs.take (v + 1)) [(v : Int)] = mvN a xs [(v : Int)] ∧ (mvAll a (xs.take (v + 1)) (reachL (xs.take (v + 1)) [(v : Int)])).2.getD v 0 = (mvAll a xs (reachL xs [(v : Int)])).2.getD v 0 := by
  have hl : (xs.take (v + 1)).length = v + 1 := by simp; omega
  have hlt := its_lt (xs.take (v + 1)) (reachL (xs.take (v + 1)) [(v : Int)]) 0
  rw [hl, Nat.zero_add] at hlt
  have := alm_fold a (its (xs.take (v + 1)) (reachL (xs.take (v + 1)) [(v : Int)]) 0) ([], List.replicate (v + 1) 0) ([], List.replicate xs.length 0) ⟨rfl, fun j => by rw [getD_rep, getD_rep]⟩ (fun p hp' => by simpa using hlt p hp') (fun p hp' => by have := hlt p hp'; simp; omega)
  unfold mvN mvAll mvF
  rw [hl, its_cut xs v h hp]
  exact ⟨this.1, this.2 v⟩
theorem its_some (xs : List Nd) (v : Nat) (h : v < xs.length) : its xs (reachL xs [(v : Int)]) 0 ≠ [] := by
  have hr := reach_root xs [(v : Int)] v (by simp) (by omega) (by omega)
  rw [Int.toNat_natCast] at hr
  intro e
  have e2 : its (xs.take v ++ xs.drop v) (reachL xs [(v : Int)]) 0 = [] := by rw [List.take_append_drop]; exact e
  rw [its_append, List.append_eq_nil_iff, List.length_take, show 0 + min v xs.length = v by omega, its_at xs _ v _ (List.getElem?_eq_getElem h), hr] at e2
  simp at e2

/-- What Copy leaves, and where the value is then. -/
def cyOk (ps xs : List Nd) (v : Int) : Bool := poolB xs && hasI xs v && decide (ps.length + (mvN ps.length xs [v]).length ≤ 3000)
def cyL (ps xs : List Nd) (v : Int) : List Nd := if poolB ps then (if cyOk ps xs v then ps ++ mvN ps.length xs [v] else ps) else []
def cyI (ps xs : List Nd) (v : Int) : Int := if poolB ps then (if cyOk ps xs v then (mvAll ps.length xs (reachL xs [v])).2.getD v.toNat 0 else -1) else -1
end Go.Proofs.YtjnhocefnfmhmaaGreatDoor

/-
  What is moved is right, and where it was told: plain mathematics. Nothing of the program; no condition.
-/
namespace Go.Proofs.YtjnhocefnfmhmaaGreatDoor
open Go.RowKit

/-- What bs tells is told with its parts. -/
def ClosedB (xs : List Nd) (bs : List Bool) : Prop := ∀ (i : Nat) (x : Nd), xs[i]? = some x → bs.getD i false = true → (hasA x.k = true → bs.getD x.a.toNat false = true) ∧ (hasB x.k = true → bs.getD x.b.toNat false = true)
/-- What is there when the first k nodes have been gone through. -/
structure MvInv (a : Nat) (xs : List Nd) (bs : List Bool) (k : Nat) (s : List Nd × List Int) : Prop where
  len : s.2.length = xs.length
  at_ : ∀ (i : Nat) (x : Nd), i < k → xs[i]? = some x → bs.getD i false = true → ∃ p : Nat, s.2.getD i 0 = ((a + p : Nat) : Int) ∧ p ≤ i ∧ s.1[p]? = some (nrm s.2 x)
  ok : ∀ (j : Nat) (y : Nd), s.1[j]? = some y → nodeB y ((a + j : Nat) : Int) = true
  from_ : ∀ j, j < s.1.length → ∃ i, i < k ∧ bs.getD i false = true ∧ s.2.getD i 0 = ((a + j : Nat) : Int)
  cnt : s.1.length ≤ k

theorem getD_setI (l : List Int) (i j : Nat) (z : Int) (h : i ≠ j) : (l.set i z).getD j 0 = l.getD j 0 := by
  simp only [List.getD_eq_getElem?_getD]; rw [List.getElem?_set, if_neg h]
theorem getD_setI_same (l : List Int) (i : Nat) (z : Int) (h : i < l.length) : (l.set i z).getD i 0 = z := by
  simp only [List.getD_eq_getElem?_getD]; rw [List.getElem?_set]; simp [h]

theorem nodeB_nrm {x : Nd} {i : Int} {fs : List Int} {q : Int} (hn : nodeB x i = true) (hA : hasA x.k = true → 0 ≤ fs.getD x.a.toNat 0 ∧ fs.getD x.a.toNat 0 < q) (hB : hasB x.k = true → 0 ≤ fs.getD x.b.toNat 0 ∧ fs.getD x.b.toNat 0 < q) : nodeB (nrm fs x) q = true := by
  obtain ⟨xk, xn, xs, xa, xb⟩ := x
  simp only [nodeB, nrm, Bool.and_eq_true] at hn hA hB ⊢
  obtain ⟨h1, ⟨h2, h3⟩, h4⟩ := hn
  refine ⟨h1, ⟨h2, ?_⟩, ?_⟩
  · cases hh : hasA xk with
    | false => rw [hh] at h3; simpa [partB] using h3
    | true => simpa [partB] using hA hh
  · cases hh : hasB xk with
    | false => rw [hh] at h4; simpa [partB] using h4
    | true => simpa [partB] using hB hh

theorem its_takeS (xs : List Nd) (bs : List Bool) (k : Nat) (x : Nd) (h : xs[k]? = some x) : its (xs.take (k + 1)) bs 0 = its (xs.take k) bs 0 ++ (if bs.getD k false then [(k, x)] else []) := by
  have hl := (List.getElem?_eq_some_iff.1 h).1
  rw [List.take_add_one, h, Option.toList_some, its_append]
  congr 1
  rw [List.length_take, Nat.min_eq_left (by omega), Nat.zero_add]
  simp [its]

theorem mv_inv (a : Nat) (xs : List Nd) (bs : List Bool) (hp : ∀ (i : Nat) (x : Nd), xs[i]? = some x → nodeB x i = true) (hc : ClosedB xs bs) (k : Nat) (hk : k ≤ xs.length) : MvInv a xs bs k (mvF a xs.length (its (xs.take k) bs 0)) := by
  induction k with
  | zero =>
    refine ⟨(mvF_len _ _ _).2, fun i x h => absurd h (by omega), fun j y h => ?_, fun j h => ?_, ?_⟩
    · simp [its, mvF] at h
    · simp [its, mvF] at h
    · simp [its, mvF]
  | succ k ih =>
    have I := ih (by omega)
    obtain ⟨x, hx⟩ : ∃ x, xs[k]? = some x := ⟨xs[k], by simp⟩
    rw [its_takeS xs bs k x hx]
    cases hb : bs.getD k false with
    | false =>
      simp only [Bool.false_eq_true, if_false, List.append_nil]
      refine ⟨I.len, fun i y hi hy ht => ?_, I.ok, fun j hj => ?_, by have := I.cnt; omega⟩
      · rcases Nat.lt_or_ge i k with h | h
        · exact I.at_ i y h hy ht
        · have : i = k := by omega
          subst this
          rw [hb] at ht; cases ht
      · obtain ⟨i, h1, h2, h3⟩ := I.from_ j hj
        exact ⟨i, by omega, h2, h3⟩
    | true =>
      simp only [if_true]
      rw [mvF_snoc]
      generalize mvF a xs.length (its (xs.take k) bs 0) = s at I
      have hn := hp k x hx
      obtain ⟨cA, cB⟩ := hc k x hx hb
      have hlk : k < s.2.length := by rw [I.len]; omega
      have up : ∀ (i : Nat) (y : Nd), i ≤ k → xs[i]? = some y → nrm (s.2.set k ((a + s.1.length : Nat) : Int)) y = nrm s.2 y := fun i y hi hy => by
        have hy' := hp i y hy
        refine nrm_set _ _ _ _ (fun h => ?_) (fun h => ?_)
        · have := nodeB_A hy' h; omega
        · have := nodeB_B hy' h; omega
      have pA : hasA x.k = true → ∃ p : Nat, s.2.getD x.a.toNat 0 = ((a + p : Nat) : Int) ∧ p < s.1.length := fun h => by
        have h1 := nodeB_A hn h
        obtain ⟨z, hz⟩ : ∃ z, xs[x.a.toNat]? = some z := ⟨xs[x.a.toNat]'(by omega), by simp⟩
        obtain ⟨p, e1, e2, e3⟩ := I.at_ x.a.toNat z (by omega) hz (cA h)
        exact ⟨p, e1, (List.getElem?_eq_some_iff.1 e3).1⟩
      have pB : hasB x.k = true → ∃ p : Nat, s.2.getD x.b.toNat 0 = ((a + p : Nat) : Int) ∧ p < s.1.length := fun h => by
        have h1 := nodeB_B hn h
        obtain ⟨z, hz⟩ : ∃ z, xs[x.b.toNat]? = some z := ⟨xs[x.b.toNat]'(by omega), by simp⟩
        obtain ⟨p, e1, e2, e3⟩ := I.at_ x.b.toNat z (by omega) hz (cB h)
        exact ⟨p, e1, (List.getElem?_eq_some_iff.1 e3).1⟩
      refine ⟨by simp [mvS, I.len], fun i y hi hy ht => ?_, fun j y hj => ?_, fun j hj => ?_, by have := I.cnt; simp [mvS]; omega⟩
      · rcases Nat.lt_or_ge i k with h | h
        · obtain ⟨p, e1, e2, e3⟩ := I.at_ i y h hy ht
          have hpl := (List.getElem?_eq_some_iff.1 e3).1
          refine ⟨p, ?_, e2, ?_⟩
          · simp only [mvS]; rw [getD_setI _ _ _ _ (by omega)]; exact e1
          · simp only [mvS]; rw [List.getElem?_append_left hpl, up i y (by omega) hy]; exact e3
        · have : i = k := by omega
          subst this
          rw [hx] at hy; cases hy
          refine ⟨s.1.length, ?_, I.cnt, ?_⟩
          · simp only [mvS]; rw [getD_setI_same _ _ _ hlk]
          · simp only [mvS]; rw [List.getElem?_append_right (Nat.le_refl _), up i x (Nat.le_refl _) hx]; simp
      · simp only [mvS] at hj
        rcases Nat.lt_or_ge j s.1.length with h | h
        · rw [List.getElem?_append_left h] at hj; exact I.ok j y hj
        · rw [List.getElem?_append_right h] at hj
          have hj' := (List.getElem?_eq_some_iff.1 hj).1
          simp at hj'
          have : j = s.1.length := by omega
          subst this
          simp at hj
          subst hj
          refine nodeB_nrm hn (fun h => ?_) (fun h => ?_)
          · obtain ⟨p, e1, e2⟩ := pA h; rw [e1]; omega
          · obtain ⟨p, e1, e2⟩ := pB h; rw [e1]; omega
      · simp only [mvS, List.length_append, List.length_singleton] at hj
        rcases Nat.lt_or_ge j s.1.length with h | h
        · obtain ⟨i, h1, h2, h3⟩ := I.from_ j h
          exact ⟨i, by omega, h2, by simp only [mvS]; rw [getD_setI _ _ _ _ (by omega)]; exact h3⟩
        · have : j = s.1.length := by omega
          subst this
          exact ⟨k, by omega, hb, by simp only [mvS]; rw [getD_setI_same _ _ _ hlk]⟩

theorem mv_all (a : Nat) (xs : List Nd) (bs : List Bool) (hp : ∀ (i : Nat) (x : Nd), xs[i]? = some x → nodeB x i = true) (hc : ClosedB xs bs) : MvInv a xs bs xs.length (mvAll a xs bs) := by
  have := mv_inv a xs bs hp hc xs.length (Nat.le_refl _)
  rw [List.take_length] at this
  exact this

theorem reach_closed (xs : List Nd) (rs : List Int) (hp : ∀ (i : Nat) (x : Nd), xs[i]? = some x → nodeB x i = true) : ClosedB xs (reachL xs rs) := fun i x hx ht => reach_parts xs rs hp i x hx ht

theorem nodesB_of (ys : List Nd) (k : Nat) (h : ∀ (j : Nat) (y : Nd), ys[j]? = some y → nodeB y ((k + j : Nat) : Int) = true) : nodesB ys k = true := by
  induction ys generalizing k with
  | nil => rfl
  | cons y ys ih =>
    rw [nodesB, Bool.and_eq_true]
    refine ⟨by simpa using h 0 y rfl, ih (k + 1) (fun j z hz => ?_)⟩
    have := h (j + 1) z (by simpa using hz)
    rw [show k + 1 + j = k + (j + 1) by omega]
    exact this

/-- Where all is told, all stays where it is. -/
theorem mv_id (xs : List Nd) (bs : List Bool) (hp : ∀ (i : Nat) (x : Nd), xs[i]? = some x → nodeB x i = true) (hb : ∀ i, i < xs.length → bs.getD i false = true) (k : Nat) (hk : k ≤ xs.length) :
    (mvF 0 xs.length (its (xs.take k) bs 0)).1 = xs.take k ∧ ∀ i, i < k → (mvF 0 xs.length (its (xs.take k) bs 0)).2.getD i 0 = (i : Int) := by
  induction k with
  | zero => exact ⟨by simp [its, mvF], fun i h => absurd h (by omega)⟩
  | succ k ih =>
    obtain ⟨h1, h2⟩ := ih (by omega)
    have hlen := (mvF_len 0 xs.length (its (xs.take k) bs 0)).2
    obtain ⟨x, hx⟩ : ∃ x, xs[k]? = some x := ⟨xs[k], by simp⟩
    rw [its_takeS xs bs k x hx, hb k (by omega), if_pos rfl, mvF_snoc]
    generalize mvF 0 xs.length (its (xs.take k) bs 0) = s at h1 h2 hlen
    have hn := hp k x hx
    have e : nrm s.2 x = x := by
      obtain ⟨xk, xn, xs', xa, xb⟩ := x
      simp only [nrm, Nd.mk.injEq, true_and]
      constructor
      · split
        · rename_i h
          have := nodeB_A hn h
          dsimp only at this
          rw [h2 xa.toNat (by omega)]; omega
        · rfl
      · split
        · rename_i h
          have := nodeB_B hn h
          dsimp only at this
          rw [h2 xb.toNat (by omega)]; omega
        · rfl
    have hl : s.1.length = k := by rw [h1]; simp; omega
    refine ⟨?_, fun i hi => ?_⟩
    · simp only [mvS]
      rw [e, h1, List.take_add_one, hx, Option.toList_some]
    · simp only [mvS]
      rcases Nat.lt_or_ge i k with h | h
      · rw [getD_setI _ _ _ _ (by omega)]; exact h2 i h
      · have : i = k := by omega
        subst this
        rw [getD_setI_same _ _ _ (by omega), hl]; simp
end Go.Proofs.YtjnhocefnfmhmaaGreatDoor

/-
  What is moved is within bounds; bytes of one's own; helpers. No condition.
-/
namespace Go.Proofs.YtjnhocefnfmhmaaGreatDoor
open Go.RowKit

theorem mv_right (a : Nat) (xs : List Nd) (rs : List Int) (hp : poolB xs = true) (ha : a + (mvN a xs rs).length ≤ 3000) : ∀ x ∈ mvN a xs rs, NdOk x := by
  have I := mv_all a xs (reachL xs rs) (fun i x h => poolB_at hp h) (reach_closed xs rs (fun i x h => poolB_at hp h))
  intro x hx
  obtain ⟨j, hj⟩ := List.getElem?_of_mem hx
  have hjl : j < (mvN a xs rs).length := (List.getElem?_eq_some_iff.1 hj).1
  exact ndok_of (I.ok j x hj) (by omega)
theorem pool_small {xs : List Nd} (h : poolB xs = true) : xs.length ≤ 3000 := by simp only [poolB, Bool.and_eq_true, decide_eq_true_eq] at h; exact h.1
theorem ndok_max {xs : List Nd} (h : ∀ x ∈ xs, NdOk x) : ∀ x ∈ xs, x.s.size ≤ maxLen := fun x hx => by have := (h x hx).2.2.1; unfold maxLen; omega

/-- The bytes of an own row are there. -/
theorem own_text {w : World} {base : Nat} {ao : Option Addr} {c : Nat} {zs : List Int} (h : w.ownsRow base 5 1 (.slice ao zs.length c) zs.length (bv zs)) : zs.length ≠ 0 → ∃ g o', ao = some ⟨g, o', none⟩ ∧ ∀ i, i < zs.length → w.cell? ⟨g, o' + i, none⟩ = some (.int .u8 (zs.getD i 0)) := by
  intro hn
  obtain ⟨g, cap, e, _⟩ := h.form (by omega)
  simp only [Value.slice.injEq] at e
  obtain ⟨rfl, _, _⟩ := e
  refine ⟨g, 0, rfl, fun i hi => ?_⟩
  have := h.cellAt i (by omega)
  rw [Nat.zero_add, this, bv_get zs i hi]
theorem irow_one {w : World} {z : Int} {g : Nat} (h : w.heap[g]? = some (.cells #[.int .i64 z] 3 (0, 0))) : IRow w (.slice (some ⟨g, 0, none⟩) 1 1) [z] := by
  refine ⟨_, 1, rfl, ⟨by simp, fun h => by cases h⟩, by simp, fun _ => ⟨g, 0, rfl, (Array.getElem?_eq_some_iff.1 h).1, fun i hi => ?_⟩⟩
  have : i = 0 := by simpa using hi
  subst this
  rw [cell_of_row w _ 0 _ _ _ h]
  rfl

theorem nrow_same {w w' : World} {v : Value} {xs : List Nd} (R : NRow w v xs) (h : ∀ g, v.ownBlock = some g → w'.heap[g]? = w.heap[g]?) (hs : w.heap.size ≤ w'.heap.size) : NRow w' v xs := by
  obtain ⟨ao, cap, rfl, hc, hm, hz, hcell⟩ := R
  refine ⟨ao, cap, rfl, hc, hm, hz, fun hne => ?_⟩
  obtain ⟨g, o, rfl, hg, hcell⟩ := hcell hne
  have e := h g rfl
  refine ⟨g, o, rfl, Nat.lt_of_lt_of_le hg hs, fun i x hi => ?_⟩
  have hk := fun (j : Nat) => World.cell?_of_block (a := ⟨g, j, none⟩) e
  obtain ⟨h0, h1, h2, h3, h4⟩ := hcell i x hi
  exact ⟨(hk _).trans h0, (hk _).trans h1, (hk _).trans h2, (hk _).trans h3, (hk _).trans h4⟩
end Go.Proofs.YtjnhocefnfmhmaaGreatDoor

/-
  Slices of bools: how one reads, and the contracts of the laws' own helpers eqBoolS, markBoolS, heldBoolS.
-/
namespace Go.Proofs.YtjnhocefnfmhmaaGreatDoor
open Go.RowKit

/-- Bools as cells. -/
def vb (zs : List Bool) : List Value := zs.map .bool
theorem vb_length (zs : List Bool) : (vb zs).length = zs.length := by simp [vb]
theorem vb_get (zs : List Bool) (i : Nat) (h : i < zs.length) : (vb zs)[i]? = some (.bool (zs.getD i false)) := by simp [vb, List.getD, h]
theorem vb_set (zs : List Bool) (i : Nat) (z : Bool) : (vb zs).set i (.bool z) = vb (zs.set i z) := by simp [vb, List.map_set]

/-- The slice value v reads in w as the bools zs. -/
def BRow (w : World) (v : Value) (zs : List Bool) : Prop :=
  ∃ ao cap, v = .slice ao zs.length cap ∧ (zs.length ≤ cap ∧ (ao = none → cap = 0)) ∧ zs.length ≤ 9223372036854775807 ∧ (zs ≠ [] → ∃ g o, ao = some ⟨g, o, none⟩ ∧ g < w.heap.size ∧ ∀ i, i < zs.length → w.cell? ⟨g, o + i, none⟩ = some (.bool (zs.getD i false)))
theorem BRow.below {w w' : World} {v : Value} {zs : List Bool} (h : BRow w v zs) (hb : Below w.heap.size w w') : BRow w' v zs := by
  obtain ⟨ao, cap, rfl, hc, hm, hcell⟩ := h
  refine ⟨ao, cap, rfl, hc, hm, fun hne => ?_⟩
  obtain ⟨g, o, rfl, hg, hcell⟩ := hcell hne
  exact ⟨g, o, rfl, Nat.lt_of_lt_of_le hg hb.size, fun i hi => (hb.cell (p := ⟨g, o + i, none⟩) hg).trans (hcell i hi)⟩
theorem BRow.of_own {w : World} {base : Nat} {v : Value} {zs : List Bool} (h : w.ownsRow base 4 1 v zs.length (vb zs)) (hm : zs.length ≤ 9223372036854775807) : BRow w v zs := by
  rcases h.2 with ⟨rfl, h0⟩ | ⟨g, cap, cur, rfl, hb, hg, hnc, hcm, hcs, htake⟩
  · have : zs = [] := List.eq_nil_of_length_eq_zero h0
    subst this
    exact ⟨none, 0, rfl, by simp, by simp, fun h => absurd rfl h⟩
  · refine ⟨_, cap, rfl, ⟨hnc, fun h => by cases h⟩, hm, fun _ => ⟨g, 0, rfl, (Array.getElem?_eq_some_iff.1 hg).1, fun i hi => ?_⟩⟩
    have := h.cellAt i (by omega)
    rw [Nat.zero_add, this, vb_get zs i hi]

theorem bne_same (b : Bool) : (b != b) = false := by cases b <;> rfl

/-- What markBoolS writes at the number k. -/
def mk3 (k : Int) : Bool := k % 3 == 0
/-- What lies in a slice of bools behind markBoolS from k on, when i of them are written and zs stood there. -/
def bmarked (k : Int) (zs : List Bool) (i : Nat) : List Bool := (List.range i).map (fun (j : Nat) => mk3 (k + (j : Int))) ++ zs.drop i
theorem bmarked_zero (k : Int) (zs : List Bool) : bmarked k zs 0 = zs := by simp [bmarked]
theorem bmarked_length (k : Int) (zs : List Bool) (i : Nat) (h : i ≤ zs.length) : (bmarked k zs i).length = zs.length := by simp [bmarked]; omega
theorem bmarked_set (k : Int) (zs : List Bool) (i : Nat) (h : i < zs.length) : (bmarked k zs i).set i (mk3 (k + (i : Int))) = bmarked k zs (i + 1) := by
  unfold bmarked
  rw [List.range_succ, List.map_append, List.set_append_right _ _ (by simp), List.drop_eq_getElem_cons h, List.append_assoc]
  have e : i - (List.map (fun (j : Nat) => mk3 (k + (j : Int))) (List.range i)).length = 0 := by simp
  rw [e]
  rfl
theorem bmarked_get (k : Int) (zs : List Bool) (i : Nat) (h : i < zs.length) : (bmarked k zs zs.length).getD i false = mk3 (k + (i : Int)) := by
  simp [bmarked, List.getD, h]

end Go.Proofs.YtjnhocefnfmhmaaGreatDoor
