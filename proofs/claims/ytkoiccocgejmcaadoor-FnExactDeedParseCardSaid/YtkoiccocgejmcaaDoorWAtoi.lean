/-
  What strconv.Atoi tells of the texts that are numbers: plain mathematics. Nothing of the program; no condition.
-/
import Derived.Test.YtkoiccocgejmcaaDoorWNum
import Derived.Lib.AtoiAllCases
namespace Go.Proofs.YtkoiccocgejmcaaDoor
open Go.RowKit

theorem le_dval (l : List UInt8) : ∀ a, a ≤ dval l a := by
  induction l with
  | nil => intro a; exact Nat.le_refl _
  | cons c l ih => intro a; exact Nat.le_trans (by omega) (ih _)
theorem parse_digs (l : List UInt8) : ∀ a, (∀ c ∈ l, isDig c = true) → dval l a < 1000000000000000000 → Lib.parseUint10 a l = .ok (dval l a) := by
  induction l with
  | nil => intro a _ _; rfl
  | cons c l ih =>
    intro a h hd
    have hc := h c (by simp)
    simp only [isDig, Bool.and_eq_true, decide_eq_true_eq] at hc
    simp only [dval] at hd ⊢
    have h1 := le_dval l (10 * a + (c.toNat - 48))
    simp only [Lib.parseUint10]
    rw [if_pos hc, if_neg (by omega), if_neg (by omega), show a * 10 + (c.toNat - 48) = 10 * a + (c.toNat - 48) by omega]
    exact ih _ (fun d hd => h d (by simp [hd])) hd
theorem parse_dec (n : Nat) (h : n < 1000000000000000000) : Lib.parseMag (Lib.decDigits n) = .ok n := by
  unfold Lib.parseMag
  rw [if_neg (dec_ne n), parse_digs _ 0 (dec_dig n) (by rw [dval_dec]; exact h), dval_dec]
theorem atoi_itoa (x : Int) (h : -1000000000 ≤ x ∧ x ≤ 1000000000) : Lib.atoiAll (Lib.itoa x) = .ok x := by
  have hp := parse_dec x.natAbs (by omega)
  unfold Lib.itoa
  split
  · rename_i h0
    show Lib.atoiAll (45 :: Lib.decDigits x.natAbs) = _
    rw [Lib.atoiAll_minus, hp]
    unfold Lib.signed
    simp only
    rw [if_neg (by omega)]
    congr 1
    omega
  · rename_i h0
    rw [show x.toNat = x.natAbs by omega]
    cases hd : Lib.decDigits x.natAbs with
    | nil => exact absurd hd (dec_ne _)
    | cons c r =>
      have hc := dec_dig x.natAbs c (by rw [hd]; simp)
      simp only [isDig, Bool.and_eq_true, decide_eq_true_eq] at hc
      rw [hd] at hp
      rw [Lib.atoiAll_plain c r (by omega) (by omega), hp]
      unfold Lib.signless
      simp only
      rw [if_neg (by omega)]
      congr 1
      omega
theorem atoi_bad {l : List UInt8} (h : ∀ x, Lib.atoiAll l ≠ .ok x) : numB l = false := by
  rw [Bool.eq_false_iff]
  intro hn
  obtain ⟨x, hx, rfl⟩ := (numB_iff l).1 hn
  exact h x (atoi_itoa x hx)
theorem atoi_ok {l : List UInt8} {x : Int} (h : Lib.atoiAll l = .ok x) : numB l = (decide (-1000000000 ≤ x) && decide (x ≤ 1000000000) && (Lib.itoa x == l)) ∧ (numB l = true → x = tval l) := by
  have key : numB l = true → (-1000000000 ≤ x ∧ x ≤ 1000000000) ∧ Lib.itoa x = l := by
    intro hn
    obtain ⟨y, hy, rfl⟩ := (numB_iff l).1 hn
    rw [atoi_itoa y hy] at h
    injection h with h
    subst h
    exact ⟨hy, rfl⟩
  refine ⟨?_, fun hn => ?_⟩
  · rw [Bool.eq_iff_iff]
    constructor
    · intro hn
      obtain ⟨⟨h1, h2⟩, h3⟩ := key hn
      simp only [Bool.and_eq_true, decide_eq_true_eq, beq_iff_eq]
      exact ⟨⟨h1, h2⟩, h3⟩
    · intro hn
      simp only [Bool.and_eq_true, decide_eq_true_eq, beq_iff_eq] at hn
      exact (numB_iff l).2 ⟨x, hn.1, hn.2⟩
  · rw [← (key hn).2, tval_itoa]
end Go.Proofs.YtkoiccocgejmcaaDoor
