/-
  What PrimDo comes to, taken further: right pools, and what is put together is taken apart again. Nothing of the program; no condition.
-/
import Derived.Test.YtjigbjnahndpiaaOc5M
import Derived.Test.YtjigbjnahndpiaaBackM
namespace Go.Proofs.Ytjigbjnahndpiaa
open Go.RowKit

theorem pdC_one {xs : List Nd} {n : Int} {zs : List Int} (h : pdC xs n zs = 0) : pdOk xs n zs = true ∧ (outOc xs n zs).how = 0 := by
  unfold pdC at h
  split at h
  · exact ⟨by assumption, h⟩
  · omega
theorem pd_fail {xs : List Nd} {n : Int} {zs : List Int} (h : pdC xs n zs ≠ 0) : pdV xs n zs = -1 ∧ (pdL xs n zs = xs ∨ pdL xs n zs = []) := by
  unfold pdC at h
  unfold pdV pdL
  split
  · rename_i hok
    rw [if_pos hok] at h
    rw [if_neg h, if_neg (fun e => h e.1)]
    exact ⟨rfl, Or.inl rfl⟩
  · exact ⟨rfl, Or.inr rfl⟩
theorem pdOk_parts {xs : List Nd} {n : Int} {zs : List Int} (h : pdOk xs n zs = true) : poolB xs = true ∧ (zs.length : Int) = primArgsR n ∧ allI xs zs = true := by
  simp only [pdOk, Bool.and_eq_true, decide_eq_true_eq] at h
  exact ⟨h.1.1, h.1.2, h.2⟩
/-- What is known where it is done. -/
theorem pd_done {xs : List Nd} {n : Int} {zs : List Int} (h : pdC xs n zs = 0) :
    pdOk xs n zs = true ∧ n ≤ 12 ∧ (innerOc xs n zs).how = 0 ∧ ¬ ((innerOc xs n zs).there = -1 ∧ xs.length = 3000) ∧ outOc xs n zs = innerOc xs n zs := by
  obtain ⟨hok, ho⟩ := pdC_one h
  unfold outOc at ho
  unfold outOc
  by_cases h12 : 12 < n
  · rw [if_pos h12] at ho; exact absurd ho (by decide)
  · rw [if_neg h12] at ho ⊢
    by_cases h3 : (innerOc xs n zs).how = 0 ∧ (innerOc xs n zs).there = -1 ∧ xs.length = 3000
    · rw [if_pos h3] at ho; exact absurd ho (by decide)
    · rw [if_neg h3] at ho ⊢
      exact ⟨hok, by omega, ho, fun e => h3 ⟨ho, e⟩, rfl⟩

theorem int_good (x : Int) (k : Nat) (h : (intOc x).how = 0) : (intOc x).there = -1 ∧ nodeB (intOc x).nd k = true := by
  unfold intOc at h ⊢
  by_cases hx : x < -1000000000 ∨ 1000000000 < x
  · rw [if_pos hx] at h; exact absurd h (by decide)
  · rw [if_neg hx]
    refine ⟨rfl, ?_⟩
    simp [ocMade, nodeB, lo, hi, nameFB, partB, hasS, hasA, hasB]
    omega
theorem bool_good (b : Bool) (k : Nat) : nodeB (boolNd b) k = true := by
  cases b <;> simp [boolNd, nodeB, lo, hi, nameFB, partB, hasS, hasA, hasB]
theorem num_good (n : Int) (a b : Nd) (k : Nat) (h : (numOc n a b).how = 0) : (numOc n a b).there = -1 ∧ nodeB (numOc n a b).nd k = true := by
  unfold numOc at h ⊢
  by_cases c0 : a.k ≠ 3 ∨ b.k ≠ 3
  · rw [if_pos c0] at h; exact absurd h (by decide)
  rw [if_neg c0] at h ⊢
  by_cases c1 : n = 1
  · rw [if_pos c1] at h ⊢; exact int_good _ k h
  rw [if_neg c1] at h ⊢
  by_cases c2 : n = 2
  · rw [if_pos c2] at h ⊢; exact int_good _ k h
  rw [if_neg c2] at h ⊢
  by_cases c3 : n = 3
  · rw [if_pos c3] at h ⊢; exact int_good _ k h
  rw [if_neg c3] at h ⊢
  by_cases c4 : n = 4
  · rw [if_pos c4]; exact ⟨rfl, bool_good _ k⟩
  · rw [if_neg c4]; exact ⟨rfl, bool_good _ k⟩

theorem has_get {xs : List Nd} {a : Int} (h : hasI xs a = true) : ∃ (i : Nat) (x : Nd), a = i ∧ xs[i]? = some x := by
  simp only [hasI, Bool.and_eq_true, decide_eq_true_eq] at h
  exact ⟨a.toNat, xs[a.toNat], by omega, by simp⟩
theorem all_get {xs : List Nd} {zs : List Int} (h : allI xs zs = true) {i : Nat} (hi : i < zs.length) : hasI xs (zs.getD i 0) = true := by
  unfold allI at h
  rw [List.all_eq_true] at h
  exact h _ (by rw [List.getD_eq_getElem?_getD, List.getElem?_eq_getElem hi]; exact List.getElem_mem hi)
theorem has_two {xs : List Nd} {a : Int} (h : hasI xs a = true) : 0 ≤ a ∧ a < xs.length := by
  simpa [hasI, Bool.and_eq_true] using h

theorem inner_good {xs : List Nd} {n : Int} {zs : List Int} (hp : poolB xs = true) (hl : (zs.length : Int) = primArgsR n) (ha : allI xs zs = true) (h12 : n ≤ 12) (hh : (innerOc xs n zs).how = 0) :
    ((innerOc xs n zs).there = -1 ∧ nodeB (innerOc xs n zs).nd xs.length = true) ∨ (0 ≤ (innerOc xs n zs).there ∧ (innerOc xs n zs).there < xs.length) := by
  obtain ⟨h1, _⟩ := primArgs_ge hl
  have hn : n ≤ 5 ∨ n = 6 ∨ n = 7 ∨ n = 8 ∨ n = 9 ∨ n = 10 ∨ n = 11 ∨ n = 12 := by omega
  unfold innerOc at hh ⊢
  rcases hn with h | rfl | rfl | rfl | rfl | rfl | rfl | rfl
  · rw [if_pos h] at hh ⊢
    exact Or.inl (num_good _ _ _ _ hh)
  · have hz : zs.length = 2 := by simp [primArgsR, prims] at hl; omega
    have g0 := has_two (all_get ha (i := 0) (by omega))
    have g1 := has_two (all_get ha (i := 1) (by omega))
    simp only [show ¬ ((6 : Int) ≤ 5) by decide, if_false, if_true]
    refine Or.inl ⟨rfl, ?_⟩
    generalize zs.getD 0 0 = y0 at g0 ⊢
    generalize zs.getD 1 0 = y1 at g1 ⊢
    simp [ocMade, nodeB, lo, hi, nameFB, partB, hasS, hasA, hasB]
    exact ⟨⟨decide_eq_true g0.1, decide_eq_true g0.2⟩, decide_eq_true g1.1, decide_eq_true g1.2⟩
  · have hz : zs.length = 1 := by simp [primArgsR, prims] at hl; omega
    obtain ⟨i, x, e, hx⟩ := has_get (all_get ha (i := 0) (by omega))
    have hg : xs.getD (zs.getD 0 0).toNat z0 = x := by rw [e, List.getD_eq_getElem?_getD]; simp [hx]
    simp only [show ¬ ((7 : Int) ≤ 5) by decide, show ¬ ((7 : Int) = 6) by decide, show ((7 : Int) ≤ 8) by decide, if_false, if_true, hg] at hh ⊢
    unfold partOc at hh ⊢
    by_cases hk : x.k ≠ 5
    · rw [if_pos hk] at hh; exact absurd hh (by decide)
    · rw [if_neg hk, if_pos rfl]
      have hk5 : x.k = 5 := by omega
      have := nodeB_A (poolB_at hp hx) (by simp [hasA, hk5])
      have hil := (List.getElem?_eq_some_iff.1 hx).1
      exact Or.inr ⟨this.1, by have := this.2; show x.a < _; omega⟩
  · have hz : zs.length = 1 := by simp [primArgsR, prims] at hl; omega
    obtain ⟨i, x, e, hx⟩ := has_get (all_get ha (i := 0) (by omega))
    have hg : xs.getD (zs.getD 0 0).toNat z0 = x := by rw [e, List.getD_eq_getElem?_getD]; simp [hx]
    simp only [show ¬ ((8 : Int) ≤ 5) by decide, show ¬ ((8 : Int) = 6) by decide, show ((8 : Int) ≤ 8) by decide, if_false, if_true, hg] at hh ⊢
    unfold partOc at hh ⊢
    by_cases hk : x.k ≠ 5
    · rw [if_pos hk] at hh; exact absurd hh (by decide)
    · rw [if_neg hk, if_neg (by decide)]
      have hk5 : x.k = 5 := by omega
      have := nodeB_B (poolB_at hp hx) (by simp [hasB, hk5])
      have hil := (List.getElem?_eq_some_iff.1 hx).1
      exact Or.inr ⟨this.1, by have := this.2; show x.b < _; omega⟩
  all_goals
    simp only [show ¬ ((9 : Int) ≤ 5) by decide, show ¬ ((9 : Int) = 6) by decide, show ¬ ((9 : Int) ≤ 8) by decide, show ¬ ((10 : Int) ≤ 5) by decide, show ¬ ((10 : Int) = 6) by decide, show ¬ ((10 : Int) ≤ 8) by decide, show ¬ ((10 : Int) = 9) by decide, show ¬ ((11 : Int) ≤ 5) by decide, show ¬ ((11 : Int) = 6) by decide, show ¬ ((11 : Int) ≤ 8) by decide, show ¬ ((11 : Int) = 9) by decide, show ¬ ((11 : Int) = 10) by decide, show ¬ ((12 : Int) ≤ 5) by decide, show ¬ ((12 : Int) = 6) by decide, show ¬ ((12 : Int) ≤ 8) by decide, show ¬ ((12 : Int) = 9) by decide, show ¬ ((12 : Int) = 10) by decide, show ¬ ((12 : Int) = 11) by decide, if_false, if_true]
    exact Or.inl ⟨rfl, bool_good _ _⟩

/-- Where it is done: the value is a node of a right pool. -/
theorem pd_good {xs : List Nd} {n : Int} {zs : List Int} (h : pdC xs n zs = 0) : 0 ≤ pdV xs n zs ∧ pdV xs n zs < (pdL xs n zs).length ∧ poolB (pdL xs n zs) = true := by
  obtain ⟨hok, h12, hh, hr, ho⟩ := pd_done h
  obtain ⟨hp, hl, ha⟩ := pdOk_parts hok
  unfold pdV pdL
  rw [if_pos hok, if_pos hok, ho, if_pos hh]
  have hlen : xs.length ≤ 3000 := by simp only [poolB, Bool.and_eq_true, decide_eq_true_eq] at hp; exact hp.1
  rcases inner_good hp hl ha h12 hh with ⟨e1, e2⟩ | ⟨e1, e2⟩
  · rw [if_pos e1, if_pos ⟨hh, e1⟩]
    exact ⟨by omega, by rw [List.length_append]; simp; omega, poolB_snoc' hp e2 (by have := fun e => hr ⟨e1, e⟩; omega)⟩
  · rw [if_neg (by omega), if_neg (fun e => by omega)]
    exact ⟨e1, e2, hp⟩

theorem pd_there {L : List Nd} {n : Int} {zs : List Int} {oc : Oc} (hok : pdOk L n zs = true) (h12 : n ≤ 12) (hi : innerOc L n zs = oc) (h0 : oc.how = 0) (h1 : oc.there ≠ -1) : pdC L n zs = 0 ∧ pdV L n zs = oc.there := by
  have ho : outOc L n zs = oc := by
    unfold outOc
    rw [if_neg (by omega), hi, if_neg (fun e => h1 e.2.1)]
  unfold pdC pdV
  rw [if_pos hok, if_pos hok, ho, if_pos h0, if_neg h1]
  exact ⟨h0, rfl⟩
theorem pd_made {L : List Nd} {n : Int} {zs : List Int} {oc : Oc} (hok : pdOk L n zs = true) (h12 : n ≤ 12) (hi : innerOc L n zs = oc) (h0 : oc.how = 0) (h1 : oc.there = -1) :
    pdC L n zs = 5 ∨ (pdC L n zs = 0 ∧ pdV L n zs = L.length ∧ pdL L n zs = L ++ [oc.nd]) := by
  by_cases h3 : L.length = 3000
  · left
    have ho : outOc L n zs = ocOf 5 := by
      unfold outOc
      rw [if_neg (by omega), hi, if_pos ⟨h0, h1, h3⟩]
    unfold pdC
    rw [if_pos hok, ho]
    rfl
  · right
    have ho : outOc L n zs = oc := by
      unfold outOc
      rw [if_neg (by omega), hi, if_neg (fun e => h3 e.2.2)]
    unfold pdC pdV pdL
    rw [if_pos hok, if_pos hok, if_pos hok, ho, if_pos h0, if_pos h1, if_pos ⟨h0, h1⟩]
    exact ⟨h0, rfl, rfl⟩
/-- What is made stands at the end. -/
theorem pd_end {xs : List Nd} {n : Int} {zs : List Int} (h : pdC xs n zs = 0) (ht : (innerOc xs n zs).there = -1) : pdL xs n zs = xs ++ [(innerOc xs n zs).nd] ∧ pdV xs n zs = xs.length := by
  obtain ⟨hok, h12, hh, hr, ho⟩ := pd_done h
  unfold pdV pdL
  rw [if_pos hok, if_pos hok, ho, if_pos hh, if_pos ht, if_pos ⟨hh, ht⟩]
  exact ⟨rfl, rfl⟩
theorem getD_end (xs : List Nd) (x : Nd) : (xs ++ [x]).getD ((xs.length : Int)).toNat z0 = x := by
  rw [List.getD_eq_getElem?_getD]
  simp
theorem getD_old (xs : List Nd) (x y : Nd) (i : Nat) (h : xs[i]? = some y) : (xs ++ [x]).getD ((i : Int)).toNat z0 = y := by
  have hl := (List.getElem?_eq_some_iff.1 h).1
  rw [List.getD_eq_getElem?_getD, Int.toNat_natCast, List.getElem?_append_left hl, h]
  rfl
theorem has_end (xs : List Nd) (x : Nd) : hasI (xs ++ [x]) (xs.length : Int) = true := by simp [hasI]; omega
theorem has_old {xs : List Nd} {a : Int} (x : Nd) (h : hasI xs a = true) : hasI (xs ++ [x]) a = true := by
  have := has_two h
  simp [hasI]
  omega

/-- A pair is taken apart again. -/
theorem pd_cons {xs : List Nd} {zs : List Int} (h : pdC xs 6 zs = 0) : zs.length = 2 ∧ pdC (pdL xs 6 zs) 7 [pdV xs 6 zs] = 0 ∧ pdC (pdL xs 6 zs) 8 [pdV xs 6 zs] = 0 ∧
    pdV (pdL xs 6 zs) 7 [pdV xs 6 zs] = zs.getD 0 0 ∧ pdV (pdL xs 6 zs) 8 [pdV xs 6 zs] = zs.getD 1 0 := by
  have hg := pd_good h
  obtain ⟨hok, _, _, _, _⟩ := pd_done h
  obtain ⟨hp, hl, ha⟩ := pdOk_parts hok
  have hz : zs.length = 2 := by simp [primArgsR, prims] at hl; omega
  have g0 := has_two (all_get ha (i := 0) (by omega))
  have g1 := has_two (all_get ha (i := 1) (by omega))
  have hin : innerOc xs 6 zs = ocMade ⟨5, 0, ByteArray.empty, zs.getD 0 0, zs.getD 1 0⟩ := by
    unfold innerOc
    simp
  obtain ⟨eL, eV⟩ := pd_end h (by rw [hin]; rfl)
  rw [hin] at eL
  rw [eL] at hg
  rw [eL, eV]
  generalize zs.getD 0 0 = y0 at *
  generalize zs.getD 1 0 = y1 at *
  have hx := getD_end xs (ocMade ⟨5, 0, ByteArray.empty, y0, y1⟩).nd
  have hh := has_end xs (ocMade ⟨5, 0, ByteArray.empty, y0, y1⟩).nd
  have ok7 : pdOk (xs ++ [(ocMade ⟨5, 0, ByteArray.empty, y0, y1⟩).nd]) 7 [(xs.length : Int)] = true := by
    unfold pdOk allI
    rw [hg.2.2]
    simp only [List.all_cons, List.all_nil, hh, Bool.and_true]
    rfl
  have ok8 : pdOk (xs ++ [(ocMade ⟨5, 0, ByteArray.empty, y0, y1⟩).nd]) 8 [(xs.length : Int)] = true := by
    unfold pdOk allI
    rw [hg.2.2]
    simp only [List.all_cons, List.all_nil, hh, Bool.and_true]
    rfl
  have i7 : innerOc (xs ++ [(ocMade ⟨5, 0, ByteArray.empty, y0, y1⟩).nd]) 7 [(xs.length : Int)] = ocThere y0 := by
    unfold innerOc
    simp only [List.getD_cons_zero, hx]
    rfl
  have i8 : innerOc (xs ++ [(ocMade ⟨5, 0, ByteArray.empty, y0, y1⟩).nd]) 8 [(xs.length : Int)] = ocThere y1 := by
    unfold innerOc
    simp only [List.getD_cons_zero, hx]
    rfl
  have r7 := pd_there ok7 (by decide) i7 rfl (by show y0 ≠ -1; omega)
  have r8 := pd_there ok8 (by decide) i8 rfl (by show y1 ≠ -1; omega)
  exact ⟨hz, r7.1, r8.1, r7.2, r8.2⟩

/-- A sum less its first part is the other one. -/
theorem pd_sum {xs : List Nd} {zs : List Int} (h : pdC xs 1 zs = 0) : zs.length = 2 ∧ ∃ (a1 : Nat) (y : Nd), zs.getD 1 0 = a1 ∧ (pdL xs 1 zs)[a1]? = some y ∧
    (pdC (pdL xs 1 zs) 2 [pdV xs 1 zs, zs.getD 0 0] = 5 ∨ (pdC (pdL xs 1 zs) 2 [pdV xs 1 zs, zs.getD 0 0] = 0 ∧ pdV (pdL xs 1 zs) 2 [pdV xs 1 zs, zs.getD 0 0] = (pdL xs 1 zs).length ∧
      pdL (pdL xs 1 zs) 2 [pdV xs 1 zs, zs.getD 0 0] = pdL xs 1 zs ++ [⟨3, y.n, ByteArray.empty, 0, 0⟩])) := by
  have hg := pd_good h
  obtain ⟨hok, _, hh, _, _⟩ := pd_done h
  obtain ⟨hp, hl, ha⟩ := pdOk_parts hok
  have hz : zs.length = 2 := by simp [primArgsR, prims] at hl; omega
  have ha0 := all_get ha (i := 0) (by omega)
  obtain ⟨i0, x, e0, hx⟩ := has_get ha0
  obtain ⟨i1, y, e1, hy⟩ := has_get (all_get ha (i := 1) (by omega))
  have hin : innerOc xs 1 zs = numOc 1 x y := by
    unfold innerOc
    rw [if_pos (by decide), e0, e1, List.getD_eq_getElem?_getD, List.getD_eq_getElem?_getD]
    simp [hx, hy]
  rw [hin] at hh
  have hk : x.k = 3 ∧ y.k = 3 := by
    by_cases c : x.k ≠ 3 ∨ y.k ≠ 3
    · unfold numOc at hh; rw [if_pos c] at hh; exact absurd hh (by decide)
    · omega
  have hnum : numOc 1 x y = intOc (x.n + y.n) := by unfold numOc; simp [hk.1, hk.2]
  rw [hnum] at hh hin
  have hb : ¬ (x.n + y.n < -1000000000 ∨ 1000000000 < x.n + y.n) := fun c => by
    unfold intOc at hh; rw [if_pos c] at hh; exact absurd hh (by decide)
  have hint : intOc (x.n + y.n) = ocMade ⟨3, x.n + y.n, ByteArray.empty, 0, 0⟩ := by unfold intOc; rw [if_neg hb]
  rw [hint] at hin
  obtain ⟨eL, eV⟩ := pd_end h (by rw [hin]; rfl)
  rw [hin] at eL
  rw [eL] at hg
  rw [eL, eV]
  have hyn := nodeB_N (poolB_at hp hy)
  have gx := getD_end xs (ocMade ⟨3, x.n + y.n, ByteArray.empty, 0, 0⟩).nd
  have g0 := getD_old xs (ocMade ⟨3, x.n + y.n, ByteArray.empty, 0, 0⟩).nd x i0 hx
  have h1 := has_end xs (ocMade ⟨3, x.n + y.n, ByteArray.empty, 0, 0⟩).nd
  have h2 := has_old (ocMade ⟨3, x.n + y.n, ByteArray.empty, 0, 0⟩).nd ha0
  rw [e0] at h2 ⊢
  have ok2 : pdOk (xs ++ [(ocMade ⟨3, x.n + y.n, ByteArray.empty, 0, 0⟩).nd]) 2 [(xs.length : Int), (i0 : Int)] = true := by
    unfold pdOk allI
    rw [hg.2.2]
    simp only [List.all_cons, List.all_nil, h1, h2, Bool.and_true]
    rfl
  have i2 : innerOc (xs ++ [(ocMade ⟨3, x.n + y.n, ByteArray.empty, 0, 0⟩).nd]) 2 [(xs.length : Int), (i0 : Int)] = ocMade ⟨3, y.n, ByteArray.empty, 0, 0⟩ := by
    unfold innerOc
    rw [if_pos (by decide)]
    simp only [List.getD_cons_zero, List.getD_cons_succ, gx, g0]
    unfold numOc
    rw [if_neg (by simp [ocMade, hk.1]), if_neg (by decide), if_pos rfl]
    show intOc (x.n + y.n - x.n) = _
    rw [show x.n + y.n - x.n = y.n by omega]
    unfold intOc
    rw [if_neg (show ¬ (y.n < -1000000000 ∨ 1000000000 < y.n) by omega)]
  refine ⟨hz, i1, y, e1, ?_, pd_made ok2 (by decide) i2 rfl rfl⟩
  rw [List.getElem?_append_left (List.getElem?_eq_some_iff.1 hy).1, hy]

/-- Not, twice. -/
theorem pd_not {xs : List Nd} {zs : List Int} (h : pdC xs 12 zs = 0) : pdV xs 12 zs = xs.length ∧ ∃ b : Bool, pdL xs 12 zs = xs ++ [boolNd b] ∧
    (pdC (pdL xs 12 zs) 12 [pdV xs 12 zs] = 5 ∨ (pdC (pdL xs 12 zs) 12 [pdV xs 12 zs] = 0 ∧ pdV (pdL xs 12 zs) 12 [pdV xs 12 zs] = (pdL xs 12 zs).length ∧
      pdL (pdL xs 12 zs) 12 [pdV xs 12 zs] = pdL xs 12 zs ++ [boolNd (!b)])) := by
  have hg := pd_good h
  obtain ⟨b, hin⟩ : ∃ b, innerOc xs 12 zs = ocMade (boolNd b) := by
    unfold innerOc
    exact ⟨(decide ((xs.getD (zs.getD 0 0).toNat z0).k = 2) && decide ((xs.getD (zs.getD 0 0).toNat z0).n = 0)), by simp⟩
  obtain ⟨eL, eV⟩ := pd_end h (by rw [hin]; rfl)
  rw [hin] at eL
  replace eL : pdL xs 12 zs = xs ++ [boolNd b] := eL
  rw [eL] at hg
  refine ⟨eV, b, eL, ?_⟩
  rw [eL, eV]
  have gx := getD_end xs (boolNd b)
  have h1 := has_end xs (boolNd b)
  have ok2 : pdOk (xs ++ [boolNd b]) 12 [(xs.length : Int)] = true := by
    unfold pdOk allI
    rw [hg.2.2]
    simp only [List.all_cons, List.all_nil, h1, Bool.and_true]
    rfl
  have i2 : innerOc (xs ++ [boolNd b]) 12 [(xs.length : Int)] = ocMade (boolNd (!b)) := by
    unfold innerOc
    simp only [List.getD_cons_zero, gx]
    cases b <;> rfl
  exact pd_made ok2 (by decide) i2 rfl rfl
end Go.Proofs.Ytjigbjnahndpiaa
