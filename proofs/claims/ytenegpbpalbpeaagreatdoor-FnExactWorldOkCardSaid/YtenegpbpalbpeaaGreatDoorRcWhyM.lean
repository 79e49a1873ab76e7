/-
  Texts that stood by themselves, laid into one.
-/
import Derived.Test.YtenegpbpalbpeaaGreatDoorRcMath2M
import Derived.Test.YtenegpbpalbpeaaGreatDoorMachM
/-
  What is copied: plain mathematics. What stands behind a value v it does not hang on. Condition: the pool is right.
-/
namespace Go.Proofs.YtenegpbpalbpeaaGreatDoor
open Go.RowKit
theorem its_append (l1 l2 : List Nd) (bs : List Bool) (k : Nat) : its (l1 ++ l2) bs k = its l1 bs k ++ its l2 bs (k + l1.length) := by
  induction l1 generalizing k with
  | nil => simp [its]
  | cons x l ih =>
    simp only [List.cons_append, its, List.length_cons]
    rw [ih, show k + 1 + l.length = k + (l.length + 1) by omega]
    split <;> simp
def Alm (s t : List Nd × List Int) : Prop := s.1 = t.1 ∧ ∀ j, s.2.getD j 0 = t.2.getD j 0
def cyOk (ps xs : List Nd) (v : Int) : Bool := poolB xs && hasI xs v && decide (ps.length + (mvN ps.length xs [v]).length ≤ 3000)
def cyL (ps xs : List Nd) (v : Int) : List Nd := if poolB ps then (if cyOk ps xs v then ps ++ mvN ps.length xs [v] else ps) else []
def cyI (ps xs : List Nd) (v : Int) : Int := if poolB ps then (if cyOk ps xs v then (mvAll ps.length xs (reachL xs [v])).2.getD v.toNat 0 else -1) else -1
end Go.Proofs.YtenegpbpalbpeaaGreatDoor
/-
  What is moved is right, and where it was told: plain mathematics. Nothing of the program; no condition.
-/
namespace Go.Proofs.YtenegpbpalbpeaaGreatDoor
open Go.RowKit
def ClosedB (xs : List Nd) (bs : List Bool) : Prop := ∀ (i : Nat) (x : Nd), xs[i]? = some x → bs.getD i false = true → (hasA x.k = true → bs.getD x.a.toNat false = true) ∧ (hasB x.k = true → bs.getD x.b.toNat false = true)
structure MvInv (a : Nat) (xs : List Nd) (bs : List Bool) (k : Nat) (s : List Nd × List Int) : Prop where
  len : s.2.length = xs.length
  at_ : ∀ (i : Nat) (x : Nd), i < k → xs[i]? = some x → bs.getD i false = true → ∃ p : Nat, s.2.getD i 0 = ((a + p : Nat) : Int) ∧ p ≤ i ∧ s.1[p]? = some (nrm s.2 x)
  ok : ∀ (j : Nat) (y : Nd), s.1[j]? = some y → nodeB y ((a + j : Nat) : Int) = true
  from_ : ∀ j, j < s.1.length → ∃ i, i < k ∧ bs.getD i false = true ∧ s.2.getD i 0 = ((a + j : Nat) : Int)
  cnt : s.1.length ≤ k
theorem getD_setI (l : List Int) (i j : Nat) (z : Int) (h : i ≠ j) : (l.set i z).getD j 0 = l.getD j 0 := by
  simp only [List.getD_eq_getElem?_getD]; rw [List.getElem?_set, if_neg h]
theorem getD_setI_same (l : List Int) (i : Nat) (z : Int) (h : i < l.length) : (l.set i z).getD i 0 = z := by
  simp only [List.getD_eq_getElem?_getD]; rw [List.getElem?_set]; simp [h]
theorem nodeB_nrm {x : Nd} {i : Int} {fs : List Int} {q : Int} (hn : nodeB x i = true) (hA : hasA x.k = true → 0 ≤ fs.getD x.a.toNat 0 ∧ fs.getD x.a.toNat 0 < q) (hB : hasB x.k = true → 0 ≤ fs.getD x.b.toNat 0 ∧ fs.getD x.b.toNat 0 < q) : nodeB (nrm fs x) q = true := by
  obtain ⟨xk, xn, xs, xa, xb⟩ := x
  simp only [nodeB, nrm, Bool.and_eq_true] at hn hA hB ⊢
  obtain ⟨h1, ⟨h2, h3⟩, h4⟩ := hn
  refine ⟨h1, ⟨h2, ?_⟩, ?_⟩
  · cases hh : hasA xk with
    | false => rw [hh] at h3; simpa [partB] using h3
    | true => simpa [partB] using hA hh
  · cases hh : hasB xk with
    | false => rw [hh] at h4; simpa [partB] using h4
    | true => simpa [partB] using hB hh
theorem its_takeS (xs : List Nd) (bs : List Bool) (k : Nat) (x : Nd) (h : xs[k]? = some x) : its (xs.take (k + 1)) bs 0 = its (xs.take k) bs 0 ++ (if bs.getD k false then [(k, x)] else []) := by
  have hl := (List.getElem?_eq_some_iff.1 h).1
  rw [List.take_add_one, h, Option.toList_some, its_append]
  congr 1
  rw [List.length_take, Nat.min_eq_left (by omega), Nat.zero_add]
  simp [its]
theorem mv_inv (a : Nat) (xs : List Nd) (bs : List Bool) (hp : ∀ (i : Nat) (x : Nd), xs[i]? = some x → nodeB x i = true) (hc : ClosedB xs bs) (k : Nat) (hk : k ≤ xs.length) : MvInv a xs bs k (mvF a xs.length (its (xs.take k) bs 0)) := by
  induction k with
  | zero =>
    refine ⟨(mvF_len _ _ _).2, fun i x h => absurd h (by omega), fun j y h => ?_, fun j h => ?_, ?_⟩
    · simp [its, mvF] at h
    · simp [its, mvF] at h
    · simp [its, mvF]
  | succ k ih =>
    have I := ih (by omega)
    obtain ⟨x, hx⟩ : ∃ x, xs[k]? = some x := ⟨xs[k], by simp⟩
    rw [its_takeS xs bs k x hx]
    cases hb : bs.getD k false with
    | false =>
      simp only [Bool.false_eq_true, if_false, List.append_nil]
      refine ⟨I.len, fun i y hi hy ht => ?_, I.ok, fun j hj => ?_, by have := I.cnt; omega⟩
      · rcases Nat.lt_or_ge i k with h | h
        · exact I.at_ i y h hy ht
        · have : i = k := by omega
          subst this
          rw [hb] at ht; cases ht
      · obtain ⟨i, h1, h2, h3⟩ := I.from_ j hj
        exact ⟨i, by omega, h2, h3⟩
    | true =>
      simp only [if_true]
      rw [mvF_snoc]
      generalize mvF a xs.length (its (xs.take k) bs 0) = s at I
      have hn := hp k x hx
      obtain ⟨cA, cB⟩ := hc k x hx hb
      have hlk : k < s.2.length := by rw [I.len]; omega
      have up : ∀ (i : Nat) (y : Nd), i ≤ k → xs[i]? = some y → nrm (s.2.set k ((a + s.1.length : Nat) : Int)) y = nrm s.2 y := fun i y hi hy => by
        have hy' := hp i y hy
        refine nrm_set _ _ _ _ (fun h => ?_) (fun h => ?_)
        · have := nodeB_A hy' h; omega
        · have := nodeB_B hy' h; omega
      have pA : hasA x.k = true → ∃ p : Nat, s.2.getD x.a.toNat 0 = ((a + p : Nat) : Int) ∧ p < s.1.length := fun h => by
        have h1 := nodeB_A hn h
        obtain ⟨z, hz⟩ : ∃ z, xs[x.a.toNat]? = some z := ⟨xs[x.a.toNat]'(by omega), by simp⟩
        obtain ⟨p, e1, e2, e3⟩ := I.at_ x.a.toNat z (by omega) hz (cA h)
        exact ⟨p, e1, (List.getElem?_eq_some_iff.1 e3).1⟩
      have pB : hasB x.k = true → ∃ p : Nat, s.2.getD x.b.toNat 0 = ((a + p : Nat) : Int) ∧ p < s.1.length := fun h => by
        have h1 := nodeB_B hn h
        obtain ⟨z, hz⟩ : ∃ z, xs[x.b.toNat]? = some z := ⟨xs[x.b.toNat]'(by omega), by simp⟩
        obtain ⟨p, e1, e2, e3⟩ := I.at_ x.b.toNat z (by omega) hz (cB h)
        exact ⟨p, e1, (List.getElem?_eq_some_iff.1 e3).1⟩
      refine ⟨by simp [mvS, I.len], fun i y hi hy ht => ?_, fun j y hj => ?_, fun j hj => ?_, by have := I.cnt; simp [mvS]; omega⟩
      · rcases Nat.lt_or_ge i k with h | h
        · obtain ⟨p, e1, e2, e3⟩ := I.at_ i y h hy ht
          have hpl := (List.getElem?_eq_some_iff.1 e3).1
          refine ⟨p, ?_, e2, ?_⟩
          · simp only [mvS]; rw [getD_setI _ _ _ _ (by omega)]; exact e1
          · simp only [mvS]; rw [List.getElem?_append_left hpl, up i y (by omega) hy]; exact e3
        · have : i = k := by omega
          subst this
          rw [hx] at hy; cases hy
          refine ⟨s.1.length, ?_, I.cnt, ?_⟩
          · simp only [mvS]; rw [getD_setI_same _ _ _ hlk]
          · simp only [mvS]; rw [List.getElem?_append_right (Nat.le_refl _), up i x (Nat.le_refl _) hx]; simp
      · simp only [mvS] at hj
        rcases Nat.lt_or_ge j s.1.length with h | h
        · rw [List.getElem?_append_left h] at hj; exact I.ok j y hj
        · rw [List.getElem?_append_right h] at hj
          have hj' := (List.getElem?_eq_some_iff.1 hj).1
          simp at hj'
          have : j = s.1.length := by omega
          subst this
          simp at hj
          subst hj
          refine nodeB_nrm hn (fun h => ?_) (fun h => ?_)
          · obtain ⟨p, e1, e2⟩ := pA h; rw [e1]; omega
          · obtain ⟨p, e1, e2⟩ := pB h; rw [e1]; omega
      · simp only [mvS, List.length_append, List.length_singleton] at hj
        rcases Nat.lt_or_ge j s.1.length with h | h
        · obtain ⟨i, h1, h2, h3⟩ := I.from_ j h
          exact ⟨i, by omega, h2, by simp only [mvS]; rw [getD_setI _ _ _ _ (by omega)]; exact h3⟩
        · have : j = s.1.length := by omega
          subst this
          exact ⟨k, by omega, hb, by simp only [mvS]; rw [getD_setI_same _ _ _ hlk]⟩
theorem mv_all (a : Nat) (xs : List Nd) (bs : List Bool) (hp : ∀ (i : Nat) (x : Nd), xs[i]? = some x → nodeB x i = true) (hc : ClosedB xs bs) : MvInv a xs bs xs.length (mvAll a xs bs) := by
  have := mv_inv a xs bs hp hc xs.length (Nat.le_refl _)
  rw [List.take_length] at this
  exact this
theorem reach_closed (xs : List Nd) (rs : List Int) (hp : ∀ (i : Nat) (x : Nd), xs[i]? = some x → nodeB x i = true) : ClosedB xs (reachL xs rs) := fun i x hx ht => reach_parts xs rs hp i x hx ht
theorem mv_id (xs : List Nd) (bs : List Bool) (hp : ∀ (i : Nat) (x : Nd), xs[i]? = some x → nodeB x i = true) (hb : ∀ i, i < xs.length → bs.getD i false = true) (k : Nat) (hk : k ≤ xs.length) :
    (mvF 0 xs.length (its (xs.take k) bs 0)).1 = xs.take k ∧ ∀ i, i < k → (mvF 0 xs.length (its (xs.take k) bs 0)).2.getD i 0 = (i : Int) := by
  induction k with
  | zero => exact ⟨by simp [its, mvF], fun i h => absurd h (by omega)⟩
  | succ k ih =>
    obtain ⟨h1, h2⟩ := ih (by omega)
    have hlen := (mvF_len 0 xs.length (its (xs.take k) bs 0)).2
    obtain ⟨x, hx⟩ : ∃ x, xs[k]? = some x := ⟨xs[k], by simp⟩
    rw [its_takeS xs bs k x hx, hb k (by omega), if_pos rfl, mvF_snoc]
    generalize mvF 0 xs.length (its (xs.take k) bs 0) = s at h1 h2 hlen
    have hn := hp k x hx
    have e : nrm s.2 x = x := by
      obtain ⟨xk, xn, xs', xa, xb⟩ := x
      simp only [nrm, Nd.mk.injEq, true_and]
      constructor
      · split
        · rename_i h
          have := nodeB_A hn h
          dsimp only at this
          rw [h2 xa.toNat (by omega)]; omega
        · rfl
      · split
        · rename_i h
          have := nodeB_B hn h
          dsimp only at this
          rw [h2 xb.toNat (by omega)]; omega
        · rfl
    have hl : s.1.length = k := by rw [h1]; simp; omega
    refine ⟨?_, fun i hi => ?_⟩
    · simp only [mvS]
      rw [e, h1, List.take_add_one, hx, Option.toList_some]
    · simp only [mvS]
      rcases Nat.lt_or_ge i k with h | h
      · rw [getD_setI _ _ _ _ (by omega)]; exact h2 i h
      · have : i = k := by omega
        subst this
        rw [getD_setI_same _ _ _ (by omega), hl]; simp
end Go.Proofs.YtenegpbpalbpeaaGreatDoor
/-
  Why something is reached, and where it is then: plain mathematics. Nothing of the program; no condition.
-/
namespace Go.Proofs.YtenegpbpalbpeaaGreatDoor
open Go.RowKit
def At8 (xs : List Nd) (rs : List Int) (a : Nat) (i j : Nat) : Prop := i < xs.length ∧ (reachL xs rs).getD i false = true ∧ (mvAll a xs (reachL xs rs)).2.getD i 0 = (j : Int)
theorem keep_same (xs : List Nd) (rs : List Int) (hp : poolB xs = true) (hr : allI xs rs = true) (hb : ∀ i, i < xs.length → (reachL xs rs).getD i false = true) : mvN 0 xs rs = xs ∧ mvR 0 xs rs rs = rs := by
  have I := mv_id xs (reachL xs rs) (fun _ _ h => poolB_at hp h) hb xs.length (Nat.le_refl _)
  rw [List.take_length] at I
  refine ⟨I.1, ?_⟩
  unfold mvR
  have : ∀ r ∈ rs, (mvAll 0 xs (reachL xs rs)).2.getD r.toNat 0 = r := fun r h => by
    have hh : hasI xs r = true := by
      unfold allI at hr
      exact List.all_eq_true.1 hr r h
    simp only [hasI, Bool.and_eq_true, decide_eq_true_eq] at hh
    have := I.2 r.toNat (by omega)
    unfold mvAll
    rw [this]
    omega
  rw [List.map_congr_left (g := id) (fun r h => this r h)]
  exact List.map_id rs
end Go.Proofs.YtenegpbpalbpeaaGreatDoor
