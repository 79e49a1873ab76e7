/-
  What the reading of a line comes to on impl's side: plain mathematics. No condition.
-/
import Derived.Test.YtkoiccocgejmcaaDoorIDp2
import Derived.Test.YtkoiccocgejmcaaDoorSDp3
namespace Go.Proofs.YtkoiccocgejmcaaDoor
open Go.RowKit

theorem pre_iff (p l : List UInt8) : pre p l = true ↔ ∃ r, l = p ++ r := by
  unfold pre
  rw [beq_iff_eq]
  constructor
  · intro h
    refine ⟨l.drop p.length, ?_⟩
    have := List.take_append_drop p.length l
    rw [h] at this
    exact this.symm
  · rintro ⟨r, rfl⟩
    simp
theorem pre_drop {p l : List UInt8} (h : pre p l = true) : l = p ++ l.drop p.length := by
  obtain ⟨r, rfl⟩ := (pre_iff p l).1 h
  simp
theorem rn_form {t : List UInt8} (h : rnB t = true) : t = [32] ++ Lib.itoa (rnV t) ∧ 0 ≤ rnV t ∧ rnV t ≤ 999999999 := by
  have hv : rnV t = tval (t.drop 1) := by unfold rnV; rw [h]; rfl
  unfold rnB at h
  rw [Bool.and_eq_true] at h
  obtain ⟨h1, h2⟩ := h
  have ht := pre_drop h1
  unfold n9 at h2
  simp only [Bool.and_eq_true, Bool.not_eq_true', decide_eq_false_iff_not] at h2
  obtain ⟨⟨hn, h0⟩, h9⟩ := h2
  have hi : Lib.itoa (tval (t.drop 1)) = t.drop 1 := by
    obtain ⟨x, _, hx⟩ := (numB_iff _).1 hn
    rw [← hx, tval_itoa]
  rw [hv, hi]
  exact ⟨ht, by omega, (itoa_nine (by omega)).1 (by rw [hi]; omega)⟩
theorem rn_line {x : Int} (h0 : 0 ≤ x) (h9 : x ≤ 999999999) : rnB ([32] ++ Lib.itoa x) = true ∧ rnV ([32] ++ Lib.itoa x) = x := by
  have h : rnB ([32] ++ Lib.itoa x) = true := by
    unfold rnB
    rw [(pre_iff _ _).2 ⟨_, rfl⟩]
    exact n9_itoa h0 h9
  refine ⟨h, ?_⟩
  unfold rnV
  rw [h]
  exact tval_itoa x
theorem last_of {A C : List UInt8} {n : Int} (hC : ∀ c ∈ C, c ≠ 32) (h : LastB (A ++ ([32] ++ C)) n) : n.toNat = A.length := by
  rcases h with ⟨_, h⟩ | ⟨h0, h1, h2⟩
  · exact absurd rfl (h 32 (by simp))
  · obtain ⟨m, rfl⟩ : ∃ m : Nat, n = m := ⟨n.toNat, by omega⟩
    simp only [Int.toNat_natCast] at *
    rcases Nat.lt_trichotomy m A.length with hm | hm | hm
    · refine absurd rfl (h2 32 ?_)
      rw [List.drop_append]
      simp only [List.mem_append]
      exact Or.inr (by rw [show m + 1 - A.length = 0 by omega]; simp)
    · exact hm
    · exfalso
      rw [List.getElem?_append_right (by omega), List.getElem?_append_right (by simp; omega)] at h1
      exact hC 32 (List.mem_of_getElem? h1) rfl

/-- What is read of a line, as a deed: rightly, or the line is no deed's. -/
def RlS (l : List UInt8) (k x y : Int) (ok : Bool) : Prop :=
  ((ok && dkB k x y) = true → dlB k x y = true ∧ lineL k x y = l) ∧ ((ok && dkB k x y) = false → ∀ k' a' b' : Int, dlB k' a' b' = true → lineL k' a' b' ≠ l)

theorem line_head (k a b : Int) : lineL k a b = dwL k ++ ([32] ++ (Lib.itoa a ++ (if k = 1 ∨ k = 2 then [32] ++ Lib.itoa b else []))) := rfl
theorem dwL_len {k : Int} (h : 1 ≤ k ∧ k ≤ 5) : (dwL k).length = 4 := by
  rcases dwL_cases h with rfl | rfl | rfl | rfl | rfl <;> rfl
theorem same_word {k k' : Int} {r r' : List UInt8} (h : 1 ≤ k ∧ k ≤ 5) (h' : 1 ≤ k' ∧ k' ≤ 5) (e : dwL k' ++ r' = dwL k ++ r) : k' = k ∧ r' = r := by
  have := List.append_inj e (by rw [dwL_len h, dwL_len h'])
  exact ⟨dwL_inj h' h this.1, this.2⟩

theorem rl_two {l : List UInt8} {k : Int} {n : Int} (hk : k = 1 ∨ k = 2) (hp : pre (dwL k) l = true) (hn : LastB (l.drop 4) n) :
    RlS l k (rnV ((l.drop 4).take n.toNat)) (rnV ((l.drop 4).drop n.toNat)) (rnB ((l.drop 4).take n.toNat) && rnB ((l.drop 4).drop n.toNat)) := by
  have hk5 : 1 ≤ k ∧ k ≤ 5 := by omega
  have hl := pre_drop hp
  rw [dwL_len hk5] at hl
  generalize l.drop 4 = r at *
  constructor
  · intro h
    simp only [Bool.and_eq_true] at h
    obtain ⟨⟨h1, h2⟩, h3⟩ := h
    obtain ⟨e1, _, m1⟩ := rn_form h1
    obtain ⟨e2, _, m2⟩ := rn_form h2
    refine ⟨dlB_iff.2 ⟨h3, m1, m2⟩, ?_⟩
    rw [hl, line_head, if_pos hk]
    congr 1
    have := List.take_append_drop n.toNat r
    rw [e1, e2] at this
    clear e1 e2 h1 h2 h3 m1 m2 hn hl
    generalize rnV (r.take n.toNat) = X at *
    generalize rnV (r.drop n.toNat) = Y at *
    rw [← this]
    simp
  · intro h k' a' b' hd e
    obtain ⟨d1, d2, d3⟩ := dlB_iff.1 hd
    obtain ⟨d4, d5⟩ := dkB_nonneg d1
    rw [hl, line_head] at e
    obtain ⟨ek, e2⟩ := same_word hk5 (dkB_kind d1) e
    subst ek
    rw [if_pos hk] at e2
    have e' : r = ([32] ++ Lib.itoa a') ++ ([32] ++ Lib.itoa b') := by rw [← e2]; simp
    rw [e'] at hn h
    have hm := last_of (itoa_noblank d5) hn
    rw [hm, List.take_left, List.drop_left] at h
    obtain ⟨r1, r2⟩ := rn_line d4 d2
    obtain ⟨r3, r4⟩ := rn_line d5 d3
    rw [r1, r2, r3, r4, d1] at h
    cases h
theorem rl_one {l : List UInt8} {k : Int} (hk : k = 3 ∨ k = 4 ∨ k = 5) (hp : pre (dwL k) l = true) : RlS l k (rnV (l.drop 4)) 0 (rnB (l.drop 4)) := by
  have hk5 : 1 ≤ k ∧ k ≤ 5 := by omega
  have hk2 : ¬ (k = 1 ∨ k = 2) := by omega
  have hl := pre_drop hp
  rw [dwL_len hk5] at hl
  generalize l.drop 4 = r at *
  constructor
  · intro h
    simp only [Bool.and_eq_true] at h
    obtain ⟨h1, h3⟩ := h
    obtain ⟨e1, _, m1⟩ := rn_form h1
    refine ⟨dlB_iff.2 ⟨h3, m1, by omega⟩, ?_⟩
    rw [hl, line_head, if_neg hk2, List.append_nil, ← e1]
  · intro h k' a' b' hd e
    obtain ⟨d1, d2, d3⟩ := dlB_iff.1 hd
    obtain ⟨d4, d5⟩ := dkB_nonneg d1
    rw [hl, line_head] at e
    obtain ⟨ek, e2⟩ := same_word hk5 (dkB_kind d1) e
    subst ek
    rw [if_neg hk2, List.append_nil] at e2
    obtain ⟨r1, r2⟩ := rn_line d4 d2
    rw [← e2, r1, r2] at h
    rw [dkB_one d1 hk2] at d1
    rw [d1] at h
    cases h
theorem rl_none {l : List UInt8} {k x y : Int} {ok : Bool} (hk : dkB k x y = false) (h : ∀ k' a' b' : Int, dlB k' a' b' = true → lineL k' a' b' ≠ l) : RlS l k x y ok := by
  constructor
  · intro h; rw [hk, Bool.and_false] at h; cases h
  · intro _; exact h
theorem dk_beyond {k x y : Int} (h : 6 ≤ k) : dkB k x y = false := by
  rw [Bool.eq_false_iff]
  intro e
  have := dkB_kind e
  omega
theorem no_word {c : UInt8} {p l : List UInt8} (hc : c ≠ 115 ∧ c ≠ 103 ∧ c ≠ 99 ∧ c ≠ 108) (hp : pre (c :: p) l = true) (k' a' b' : Int) (hd : dlB k' a' b' = true) : lineL k' a' b' ≠ l := by
  intro e
  obtain ⟨r, rfl⟩ := (pre_iff _ _).1 hp
  have hk := dkB_kind (dlB_iff.1 hd).1
  rw [line_head] at e
  obtain ⟨c1, c2, c3, c4⟩ := hc
  rcases dwL_cases hk with rfl | rfl | rfl | rfl | rfl
  all_goals
    have := congrArg List.head? e
    simp [dwL] at this
    first | exact c1 this.symm | exact c2 this.symm | exact c3 this.symm | exact c4 this.symm
theorem no_words {l : List UInt8} (h : ∀ k : Int, 1 ≤ k ∧ k ≤ 5 → pre (dwL k) l = false) (k' a' b' : Int) (hd : dlB k' a' b' = true) : lineL k' a' b' ≠ l := by
  intro e
  have hk := dkB_kind (dlB_iff.1 hd).1
  have := (pre_iff (dwL k') l).2 ⟨_, by rw [← e, line_head]⟩
  rw [h k' hk] at this
  cases this
theorem rl_ps {l : List UInt8} {k x y : Int} {ok : Bool} (h : RlS l k x y ok) : PsAns l (if (ok && dkB k x y) = true then k else 0) (if (ok && dkB k x y) = true then x else 0) (if (ok && dkB k x y) = true then y else 0) (ok && dkB k x y) := by
  cases hq : ok && dkB k x y with
  | true =>
    refine ⟨fun _ => ?_, fun h => (by cases h)⟩
    simp only [if_true]
    exact h.1 hq
  | false =>
    refine ⟨fun h => (by cases h), fun _ => ⟨by simp, by simp, by simp, h.2 hq⟩⟩
end Go.Proofs.YtkoiccocgejmcaaDoor
