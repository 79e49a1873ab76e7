/-
  Texts that stood by themselves, laid into one.
-/
import Derived.Test.YtdkkpopnoeapdaaGreatDoorMvMathM
import Derived.Test.YtdkkpopnoeapdaaGreatDoorCyMathM
import Derived.Test.YtdkkpopnoeapdaaGreatDoorMkListM
/-
  What is moved is right, and where it was told: plain mathematics. Nothing of the program; no condition.
-/
namespace Go.Proofs.YtdkkpopnoeapdaaGreatDoor
open Go.RowKit

/-- What bs tells is told with its parts. -/
def ClosedB (xs : List Nd) (bs : List Bool) : Prop := ∀ (i : Nat) (x : Nd), xs[i]? = some x → bs.getD i false = true → (hasA x.k = true → bs.getD x.a.toNat false = true) ∧ (hasB x.k = true → bs.getD x.b.toNat false = true)
/-- What is there when the first k nodes have been gone through. -/
structure MvInv (a : Nat) (xs : List Nd) (bs : List Bool) (k : Nat) (s : List Nd × List Int) : Prop where
  len : s.2.length = xs.length
  at_ : ∀ (i : Nat) (x : Nd), i < k → xs[i]? = some x → bs.getD i false = true → ∃ p : Nat, s.2.getD i 0 = ((a + p : Nat) : Int) ∧ p ≤ i ∧ s.1[p]? = some (nrm s.2 x)
  ok : ∀ (j : Nat) (y : Nd), s.1[j]? = some y → nodeB y ((a + j : Nat) : Int) = true
  from_ : ∀ j, j < s.1.length → ∃ i, i < k ∧ bs.getD i false = true ∧ s.2.getD i 0 = ((a + j : Nat) : Int)
  cnt : s.1.length ≤ k

theorem getD_setI (l : List Int) (i j : Nat) (z : Int) (h : i ≠ j) : (l.set i z).getD j 0 = l.getD j 0 := by
  simp only [List.getD_eq_getElem?_getD]; rw [List.getElem?_set, if_neg h]
theorem getD_setI_same (l : List Int) (i : Nat) (z : Int) (h : i < l.length) : (l.set i z).getD i 0 = z := by
  simp only [List.getD_eq_getElem?_getD]; rw [List.getElem?_set]; simp [h]

theorem nodeB_nrm {x : Nd} {i : Int} {fs : List Int} {q : Int} (hn : nodeB x i = true) (hA : hasA x.k = true → 0 ≤ fs.getD x.a.toNat 0 ∧ fs.getD x.a.toNat 0 < q) (hB : hasB x.k = true → 0 ≤ fs.getD x.b.toNat 0 ∧ fs.getD x.b.toNat 0 < q) : nodeB (nrm fs x) q = true := by
  obtain ⟨xk, xn, xs, xa, xb⟩ := x
  simp only [nodeB, nrm, Bool.and_eq_true] at hn hA hB ⊢
  obtain ⟨h1, ⟨h2, h3⟩, h4⟩ := hn
  refine ⟨h1, ⟨h2, ?_⟩, ?_⟩
  · cases hh : hasA xk with
    | false => rw [hh] at h3; simpa [partB] using h3
    | true => simpa [partB] using hA hh
  · cases hh : hasB xk with
    | false => rw [hh] at h4; simpa [partB] using h4
    | true => simpa [partB] using hB hh

theorem its_takeS (xs : List Nd) (bs : List Bool) (k : Nat) (x : Nd) (h : xs[k]? = some x) : its (xs.take (k + 1)) bs 0 = its (xs.take k) bs 0 ++ (if bs.getD k false then [(k, x)] else []) := by
  have hl := (List.getElem?_eq_some_iff.1 h).1
  rw [List.take_add_one, h, Option.toList_some, its_append]
  congr 1
  rw [List.length_take, Nat.min_eq_left (by omega), Nat.zero_add]
  simp [its]

theorem mv_inv (a : Nat) (xs : List Nd) (bs : List Bool) (hp : ∀ (i : Nat) (x : Nd), xs[i]? = some x → nodeB x i = true) (hc : ClosedB xs bs) (k : Nat) (hk : k ≤ xs.length) : MvInv a xs bs k (mvF a xs.length (its (xs.take k) bs 0)) := by
  induction k with
  | zero =>
    refine ⟨(mvF_len _ _ _).2, fun i x h => absurd h (by omega), fun j y h => ?_, fun j h => ?_, ?_⟩
    · simp [its, mvF] at h
    · simp [its, mvF] at h
    · simp [its, mvF]
  | succ k ih =>
    have I := ih (by omega)
    obtain ⟨x, hx⟩ : ∃ x, xs[k]? = some x := ⟨xs[k], by simp⟩
    rw [its_takeS xs bs k x hx]
    cases hb : bs.getD k false with
    | false =>
      simp only [Bool.false_eq_true, if_false, List.append_nil]
      refine ⟨I.len, fun i y hi hy ht => ?_, I.ok, fun j hj => ?_, by have := I.cnt; omega⟩
      · rcases Nat.lt_or_ge i k with h | h
        · exact I.at_ i y h hy ht
        · have : i = k := by omega
          subst this
          rw [hb] at ht; cases ht
      · obtain ⟨i, h1, h2, h3⟩ := I.from_ j hj
        exact ⟨i, by omega, h2, h3⟩
    | true =>
      simp only [if_true]
      rw [mvF_snoc]
      generalize mvF a xs.length (its (xs.take k) bs 0) = s at I
      have hn := hp k x hx
      obtain ⟨cA, cB⟩ := hc k x hx hb
      have hlk : k < s.2.length := by rw [I.len]; omega
      have up : ∀ (i : Nat) (y : Nd), i ≤ k → xs[i]? = some y → nrm (s.2.set k ((a + s.1.length : Nat) : Int)) y = nrm s.2 y := fun i y hi hy => by
        have hy' := hp i y hy
        refine nrm_set _ _ _ _ (fun h => ?_) (fun h => ?_)
        · have := nodeB_A hy' h; omega
        · have := nodeB_B hy' h; omega
      have pA : hasA x.k = true → ∃ p : Nat, s.2.getD x.a.toNat 0 = ((a + p : Nat) : Int) ∧ p < s.1.length := fun h => by
        have h1 := nodeB_A hn h
        obtain ⟨z, hz⟩ : ∃ z, xs[x.a.toNat]? = some z := ⟨xs[x.a.toNat]'(by omega), by simp⟩
        obtain ⟨p, e1, e2, e3⟩ := I.at_ x.a.toNat z (by omega) hz (cA h)
        exact ⟨p, e1, (List.getElem?_eq_some_iff.1 e3).1⟩
      have pB : hasB x.k = true → ∃ p : Nat, s.2.getD x.b.toNat 0 = ((a + p : Nat) : Int) ∧ p < s.1.length := fun h => by
        have h1 := nodeB_B hn h
        obtain ⟨z, hz⟩ : ∃ z, xs[x.b.toNat]? = some z := ⟨xs[x.b.toNat]'(by omega), by simp⟩
        obtain ⟨p, e1, e2, e3⟩ := I.at_ x.b.toNat z (by omega) hz (cB h)
        exact ⟨p, e1, (List.getElem?_eq_some_iff.1 e3).1⟩
      refine ⟨by simp [mvS, I.len], fun i y hi hy ht => ?_, fun j y hj => ?_, fun j hj => ?_, by have := I.cnt; simp [mvS]; omega⟩
      · rcases Nat.lt_or_ge i k with h | h
        · obtain ⟨p, e1, e2, e3⟩ := I.at_ i y h hy ht
          have hpl := (List.getElem?_eq_some_iff.1 e3).1
          refine ⟨p, ?_, e2, ?_⟩
          · simp only [mvS]; rw [getD_setI _ _ _ _ (by omega)]; exact e1
          · simp only [mvS]; rw [List.getElem?_append_left hpl, up i y (by omega) hy]; exact e3
        · have : i = k := by omega
          subst this
          rw [hx] at hy; cases hy
          refine ⟨s.1.length, ?_, I.cnt, ?_⟩
          · simp only [mvS]; rw [getD_setI_same _ _ _ hlk]
          · simp only [mvS]; rw [List.getElem?_append_right (Nat.le_refl _), up i x (Nat.le_refl _) hx]; simp
      · simp only [mvS] at hj
        rcases Nat.lt_or_ge j s.1.length with h | h
        · rw [List.getElem?_append_left h] at hj; exact I.ok j y hj
        · rw [List.getElem?_append_right h] at hj
          have hj' := (List.getElem?_eq_some_iff.1 hj).1
          simp at hj'
          have : j = s.1.length := by omega
          subst this
          simp at hj
          subst hj
          refine nodeB_nrm hn (fun h => ?_) (fun h => ?_)
          · obtain ⟨p, e1, e2⟩ := pA h; rw [e1]; omega
          · obtain ⟨p, e1, e2⟩ := pB h; rw [e1]; omega
      · simp only [mvS, List.length_append, List.length_singleton] at hj
        rcases Nat.lt_or_ge j s.1.length with h | h
        · obtain ⟨i, h1, h2, h3⟩ := I.from_ j h
          exact ⟨i, by omega, h2, by simp only [mvS]; rw [getD_setI _ _ _ _ (by omega)]; exact h3⟩
        · have : j = s.1.length := by omega
          subst this
          exact ⟨k, by omega, hb, by simp only [mvS]; rw [getD_setI_same _ _ _ hlk]⟩

theorem mv_all (a : Nat) (xs : List Nd) (bs : List Bool) (hp : ∀ (i : Nat) (x : Nd), xs[i]? = some x → nodeB x i = true) (hc : ClosedB xs bs) : MvInv a xs bs xs.length (mvAll a xs bs) := by
  have := mv_inv a xs bs hp hc xs.length (Nat.le_refl _)
  rw [List.take_length] at this
  exact this

theorem reach_closed (xs : List Nd) (rs : List Int) (hp : ∀ (i : Nat) (x : Nd), xs[i]? = some x → nodeB x i = true) : ClosedB xs (reachL xs rs) := fun i x hx ht => reach_parts xs rs hp i x hx ht

theorem nodesB_of (ys : List Nd) (k : Nat) (h : ∀ (j : Nat) (y : Nd), ys[j]? = some y → nodeB y ((k + j : Nat) : Int) = true) : nodesB ys k = true := by
  induction ys generalizing k with
  | nil => rfl
  | cons y ys ih =>
    rw [nodesB, Bool.and_eq_true]
    refine ⟨by simpa using h 0 y rfl, ih (k + 1) (fun j z hz => ?_)⟩
    have := h (j + 1) z (by simpa using hz)
    rw [show k + 1 + j = k + (j + 1) by omega]
    exact this

/-- Where all is told, all stays where it is. -/
theorem mv_id (xs : List Nd) (bs : List Bool) (hp : ∀ (i : Nat) (x : Nd), xs[i]? = some x → nodeB x i = true) (hb : ∀ i, i < xs.length → bs.getD i false = true) (k : Nat) (hk : k ≤ xs.length) :
    (mvF 0 xs.length (its (xs.take k) bs 0)).1 = xs.take k ∧ ∀ i, i < k → (mvF 0 xs.length (its (xs.take k) bs 0)).2.getD i 0 = (i : Int) := by
  induction k with
  | zero => exact ⟨by simp [its, mvF], fun i h => absurd h (by omega)⟩
  | succ k ih =>
    obtain ⟨h1, h2⟩ := ih (by omega)
    have hlen := (mvF_len 0 xs.length (its (xs.take k) bs 0)).2
    obtain ⟨x, hx⟩ : ∃ x, xs[k]? = some x := ⟨xs[k], by simp⟩
    rw [its_takeS xs bs k x hx, hb k (by omega), if_pos rfl, mvF_snoc]
    generalize mvF 0 xs.length (its (xs.take k) bs 0) = s at h1 h2 hlen
    have hn := hp k x hx
    have e : nrm s.2 x = x := by
      obtain ⟨xk, xn, xs', xa, xb⟩ := x
      simp only [nrm, Nd.mk.injEq, true_and]
      constructor
      · split
        · rename_i h
          have := nodeB_A hn h
          dsimp only at this
          rw [h2 xa.toNat (by omega)]; omega
        · rfl
      · split
        · rename_i h
          have := nodeB_B hn h
          dsimp only at this
          rw [h2 xb.toNat (by omega)]; omega
        · rfl
    have hl : s.1.length = k := by rw [h1]; simp; omega
    refine ⟨?_, fun i hi => ?_⟩
    · simp only [mvS]
      rw [e, h1, List.take_add_one, hx, Option.toList_some]
    · simp only [mvS]
      rcases Nat.lt_or_ge i k with h | h
      · rw [getD_setI _ _ _ _ (by omega)]; exact h2 i h
      · have : i = k := by omega
        subst this
        rw [getD_setI_same _ _ _ (by omega), hl]; simp
end Go.Proofs.YtdkkpopnoeapdaaGreatDoor

/-
  Why something is reached, and where it is then: plain mathematics. Nothing of the program; no condition.
-/
namespace Go.Proofs.YtdkkpopnoeapdaaGreatDoor
open Go.RowKit

theorem step_why (x : Nd) (bs : List Bool) (i : Nat) (h : (hungStep x true bs).getD i false = true) : bs.getD i false = true ∨ (hasA x.k = true ∧ x.a.toNat = i) ∨ (hasB x.k = true ∧ x.b.toNat = i) := by
  unfold hungStep at h
  simp only [Bool.true_and] at h
  have one : ∀ (l : List Bool) (q : Int), (setB l q).getD i false = true → l.getD i false = true ∨ q.toNat = i := fun l q hh => by
    by_cases e : q.toNat = i
    · exact Or.inr e
    · unfold setB at hh
      rw [getD_set_other _ _ _ e] at hh
      exact Or.inl hh
  have two : (if hasA x.k = true then setB bs x.a else bs).getD i false = true → bs.getD i false = true ∨ (hasA x.k = true ∧ x.a.toNat = i) := fun h1 => by
    split at h1
    · rename_i hA
      rcases one _ _ h1 with h2 | e
      · exact Or.inl h2
      · exact Or.inr ⟨hA, e⟩
    · exact Or.inl h1
  split at h
  · rename_i hB
    rcases one _ _ h with h1 | e
    · rcases two h1 with h2 | h2
      · exact Or.inl h2
      · exact Or.inr (Or.inl h2)
    · exact Or.inr (Or.inr ⟨hB, e⟩)
  · rcases two h with h2 | h2
    · exact Or.inl h2
    · exact Or.inr (Or.inl h2)
/-- Why something is reached. -/
theorem down_why (xs : List Nd) (k : Nat) (hk : k ≤ xs.length) (bs : List Bool) (i : Nat) (h : (down xs k bs).getD i false = true) :
    bs.getD i false = true ∨ ∃ j x, j < k ∧ xs[j]? = some x ∧ (down xs k bs).getD j false = true ∧ ((hasA x.k = true ∧ x.a.toNat = i) ∨ (hasB x.k = true ∧ x.b.toNat = i)) := by
  induction k generalizing bs with
  | zero => exact Or.inl h
  | succ k ih =>
    obtain ⟨x, hx⟩ : ∃ x, xs[k]? = some x := ⟨xs[k], by simp⟩
    rw [down_at xs bs k x hx] at h ⊢
    rcases ih (by omega) _ h with h1 | ⟨j, z, hj, hz, ht, hpart⟩
    · cases hb : bs.getD k false with
      | false => rw [hb, step_false] at h1; exact Or.inl h1
      | true =>
        have hk' : (down xs k (hungStep x (bs.getD k false) bs)).getD k false = true := down_mono xs k _ k (step_mono x _ bs k hb)
        rw [hb] at h1 hk'
        rcases step_why x bs i h1 with h2 | h2
        · exact Or.inl h2
        · exact Or.inr ⟨k, x, by omega, hx, hk', h2⟩
    · exact Or.inr ⟨j, z, by omega, hz, ht, hpart⟩
theorem fold_why (rs : List Int) (bs : List Bool) (i : Nat) (h : (rs.foldl setB bs).getD i false = true) : bs.getD i false = true ∨ ∃ r ∈ rs, r.toNat = i := by
  induction rs generalizing bs with
  | nil => exact Or.inl h
  | cons r rs ih =>
    rw [List.foldl_cons] at h
    rcases ih _ h with h1 | ⟨q, hq, e⟩
    · by_cases e : r.toNat = i
      · exact Or.inr ⟨r, List.mem_cons_self, e⟩
      · unfold setB at h1
        rw [getD_set_other _ _ _ e] at h1
        exact Or.inl h1
    · exact Or.inr ⟨q, List.mem_cons_of_mem _ hq, e⟩
theorem reach_why (xs : List Nd) (rs : List Int) (i : Nat) (h : (reachL xs rs).getD i false = true) :
    (∃ r ∈ rs, r.toNat = i) ∨ ∃ j x, xs[j]? = some x ∧ (reachL xs rs).getD j false = true ∧ ((hasA x.k = true ∧ x.a.toNat = i) ∨ (hasB x.k = true ∧ x.b.toNat = i)) := by
  unfold reachL at h ⊢
  rcases down_why xs xs.length (Nat.le_refl _) _ i h with h1 | ⟨j, x, _, hx, ht, hp⟩
  · unfold rootsB at h1
    rcases fold_why rs _ i h1 with h2 | h2
    · exfalso
      have : (List.replicate xs.length false).getD i false = false := by
        simp only [List.getD_eq_getElem?_getD, List.getElem?_replicate]
        split <;> rfl
      rw [this] at h2
      cases h2
    · exact Or.inl h2
  · exact Or.inr ⟨j, x, hx, ht, hp⟩

/-- Where the reached nodes are then. -/
def At8 (xs : List Nd) (rs : List Int) (a : Nat) (i j : Nat) : Prop := i < xs.length ∧ (reachL xs rs).getD i false = true ∧ (mvAll a xs (reachL xs rs)).2.getD i 0 = (j : Int)

theorem keep_pool (xs : List Nd) (rs : List Int) (hp : poolB xs = true) (a : Nat) : ∀ (j : Nat) (y : Nd), (mvN a xs rs)[j]? = some y → nodeB y ((a + j : Nat) : Int) = true :=
  (mv_all a xs (reachL xs rs) (fun _ _ h => poolB_at hp h) (reach_closed xs rs (fun _ _ h => poolB_at hp h))).ok
theorem keep_right (xs : List Nd) (rs : List Int) (hp : poolB xs = true) : poolB (mvN 0 xs rs) = true := by
  have hl : xs.length ≤ 3000 := by simp only [poolB, Bool.and_eq_true, decide_eq_true_eq] at hp; exact hp.1
  have := mvN_len 0 xs rs
  unfold poolB
  rw [Bool.and_eq_true]
  refine ⟨by simp; omega, nodesB_of _ 0 (keep_pool xs rs hp 0)⟩

theorem at8_step (xs : List Nd) (rs : List Int) (hp : poolB xs = true) (a i j : Nat) (h : At8 xs rs a i j) : ∃ x p, xs[i]? = some x ∧ j = a + p ∧ (mvN a xs rs)[p]? = some (nrm (mvAll a xs (reachL xs rs)).2 x) ∧
    (hasA x.k = true → At8 xs rs a x.a.toNat (nrm (mvAll a xs (reachL xs rs)).2 x).a.toNat) ∧ (hasB x.k = true → At8 xs rs a x.b.toNat (nrm (mvAll a xs (reachL xs rs)).2 x).b.toNat) := by
  have hc := reach_closed xs rs (fun _ _ h => poolB_at hp h)
  have I := mv_all a xs (reachL xs rs) (fun _ _ h => poolB_at hp h) hc
  obtain ⟨hi, ht, hj⟩ := h
  obtain ⟨x, hx⟩ : ∃ x, xs[i]? = some x := ⟨xs[i], by simp⟩
  obtain ⟨p, e1, _, e3⟩ := I.at_ i x hi hx ht
  have hn := poolB_at hp hx
  obtain ⟨cA, cB⟩ := hc i x hx ht
  have low : ∀ q : Nat, q < xs.length → (reachL xs rs).getD q false = true → At8 xs rs a q ((mvAll a xs (reachL xs rs)).2.getD q 0).toNat := fun q hq hqt => by
    obtain ⟨z, hz⟩ : ∃ z, xs[q]? = some z := ⟨xs[q], by simp⟩
    obtain ⟨p', e1', _, _⟩ := I.at_ q z hq hz hqt
    exact ⟨hq, hqt, by rw [e1']; omega⟩
  refine ⟨x, p, hx, by rw [e1] at hj; omega, e3, fun hA => ?_, fun hB => ?_⟩
  · have := nodeB_A hn hA
    have := low x.a.toNat (by omega) (cA hA)
    simp only [nrm, hA, if_true]
    exact this
  · have := nodeB_B hn hB
    have := low x.b.toNat (by omega) (cB hB)
    simp only [nrm, hB, if_true]
    exact this
theorem at8_root (xs : List Nd) (rs : List Int) (hp : poolB xs = true) (hr : allI xs rs = true) (a : Nat) (r : Int) (h : r ∈ rs) : At8 xs rs a r.toNat ((mvAll a xs (reachL xs rs)).2.getD r.toNat 0).toNat ∧ 0 ≤ r ∧ 0 ≤ (mvAll a xs (reachL xs rs)).2.getD r.toNat 0 := by
  have hh : hasI xs r = true := by
    unfold allI at hr
    exact List.all_eq_true.1 hr r h
  simp only [hasI, Bool.and_eq_true, decide_eq_true_eq] at hh
  have ht := reach_root xs rs r h hh.1 hh.2
  have I := mv_all a xs (reachL xs rs) (fun _ _ h => poolB_at hp h) (reach_closed xs rs (fun _ _ h => poolB_at hp h))
  obtain ⟨z, hz⟩ : ∃ z, xs[r.toNat]? = some z := ⟨xs[r.toNat]'(by omega), by simp⟩
  obtain ⟨p', e1', _, _⟩ := I.at_ r.toNat z (by omega) hz ht
  exact ⟨⟨by omega, ht, by rw [e1']; omega⟩, hh.1, by rw [e1']; omega⟩

/-- All that is kept is reached. -/
theorem keep_all (xs : List Nd) (rs : List Int) (hp : poolB xs = true) (i j : Nat) (h : At8 xs rs 0 i j) : (reachL (mvN 0 xs rs) (mvR 0 xs rs rs)).getD j false = true := by
  have hq := keep_right xs rs hp
  obtain ⟨n, hn⟩ : ∃ n, n = xs.length - i := ⟨_, rfl⟩
  induction n using Nat.strongRecOn generalizing i j with
  | _ n ih =>
    obtain ⟨x, p, hx, rfl, e3, _, _⟩ := at8_step xs rs hp 0 i j h
    obtain ⟨hi, ht, hj⟩ := h
    rcases reach_why xs rs i ht with ⟨r, hr1, rfl⟩ | ⟨k, z, hz, hkt, hpart⟩
    · have hm : ((0 + p : Nat) : Int) ∈ mvR 0 xs rs rs := by
        unfold mvR
        exact List.mem_map.2 ⟨r, hr1, hj⟩
      have hl := (List.getElem?_eq_some_iff.1 e3).1
      have := reach_root (mvN 0 xs rs) (mvR 0 xs rs rs) _ hm (by omega) (by omega)
      simpa using this
    · have hkl := (List.getElem?_eq_some_iff.1 hz).1
      have hnz := poolB_at hp hz
      have hik : i < k := by
        rcases hpart with ⟨hA, e⟩ | ⟨hB, e⟩
        · have := nodeB_A hnz hA; omega
        · have := nodeB_B hnz hB; omega
      have I := mv_all 0 xs (reachL xs rs) (fun _ _ h => poolB_at hp h) (reach_closed xs rs (fun _ _ h => poolB_at hp h))
      obtain ⟨p', e1', _, e3'⟩ := I.at_ k z hkl hz hkt
      have hk8 : At8 xs rs 0 k (0 + p') := ⟨hkl, hkt, e1'⟩
      have hrk := ih (xs.length - k) (by omega) k (0 + p') hk8 rfl
      rw [Nat.zero_add] at hrk
      have hprt := reach_parts (mvN 0 xs rs) (mvR 0 xs rs rs) (fun _ _ h => poolB_at hq h) p' _ e3' hrk
      rcases hpart with ⟨hA, e⟩ | ⟨hB, e⟩
      · have h1 := hprt.1 hA
        simp only [nrm, hA, if_true] at h1
        rw [e] at h1
        have hj' : (mvAll 0 xs (reachL xs rs)).2.getD i 0 = ((0 + p : Nat) : Int) := hj
        rw [hj'] at h1
        simpa using h1
      · have h1 := hprt.2 hB
        simp only [nrm, hB, if_true] at h1
        rw [e] at h1
        have hj' : (mvAll 0 xs (reachL xs rs)).2.getD i 0 = ((0 + p : Nat) : Int) := hj
        rw [hj'] at h1
        simpa using h1
/-- Where all is reached, all is kept as it is. -/
theorem keep_same (xs : List Nd) (rs : List Int) (hp : poolB xs = true) (hr : allI xs rs = true) (hb : ∀ i, i < xs.length → (reachL xs rs).getD i false = true) : mvN 0 xs rs = xs ∧ mvR 0 xs rs rs = rs := by
  have I := mv_id xs (reachL xs rs) (fun _ _ h => poolB_at hp h) hb xs.length (Nat.le_refl _)
  rw [List.take_length] at I
  refine ⟨I.1, ?_⟩
  unfold mvR
  have : ∀ r ∈ rs, (mvAll 0 xs (reachL xs rs)).2.getD r.toNat 0 = r := fun r h => by
    have hh : hasI xs r = true := by
      unfold allI at hr
      exact List.all_eq_true.1 hr r h
    simp only [hasI, Bool.and_eq_true, decide_eq_true_eq] at hh
    have := I.2 r.toNat (by omega)
    unfold mvAll
    rw [this]
    omega
  rw [List.map_congr_left (g := id) (fun r h => this r h)]
  exact List.map_id rs
theorem keep_again (xs : List Nd) (rs : List Int) (hp : poolB xs = true) (hr : allI xs rs = true) : allI (mvN 0 xs rs) (mvR 0 xs rs rs) = true ∧ mvN 0 (mvN 0 xs rs) (mvR 0 xs rs rs) = mvN 0 xs rs ∧ mvR 0 (mvN 0 xs rs) (mvR 0 xs rs rs) (mvR 0 xs rs rs) = mvR 0 xs rs rs := by
  have hq := keep_right xs rs hp
  have ha : allI (mvN 0 xs rs) (mvR 0 xs rs rs) = true := by
    unfold allI
    rw [List.all_eq_true]
    intro z hz
    unfold mvR at hz
    obtain ⟨r, hr1, rfl⟩ := List.mem_map.1 hz
    obtain ⟨h8, h0, h1⟩ := at8_root xs rs hp hr 0 r hr1
    obtain ⟨x, p, hx, e, e3, _, _⟩ := at8_step xs rs hp 0 _ _ h8
    have hl := (List.getElem?_eq_some_iff.1 e3).1
    unfold hasI
    simp only [Bool.and_eq_true, decide_eq_true_eq]
    omega
  refine ⟨ha, keep_same _ _ hq ha (fun j hj => ?_)⟩
  have I := mv_all 0 xs (reachL xs rs) (fun _ _ h => poolB_at hp h) (reach_closed xs rs (fun _ _ h => poolB_at hp h))
  obtain ⟨i, h1, h2, h3⟩ := I.from_ j hj
  exact keep_all xs rs hp i j ⟨h1, h2, by rw [h3]; simp⟩
end Go.Proofs.YtdkkpopnoeapdaaGreatDoor
