/-
  Which texts are numbers, and what a word means: plain mathematics. Nothing of the program; no condition.
-/
import Derived.Test.YtkoiccocgejmcaaDoorTxt
namespace Go.Proofs.YtkoiccocgejmcaaDoor
open Go.RowKit

/-- The number that digits tell, behind a. -/
def dval : List UInt8 → Nat → Nat
  | [], a => a
  | c :: l, a => dval l (10 * a + (c.toNat - 48))
theorem dval_append (l m : List UInt8) (a : Nat) : dval (l ++ m) a = dval m (dval l a) := by
  induction l generalizing a with
  | nil => rfl
  | cons c l ih => exact ih _
def isDig (c : UInt8) : Bool := decide (48 ≤ c.toNat) && decide (c.toNat ≤ 57)
theorem dig_toNat {d : Nat} (h : d < 10) : (UInt8.ofNat (48 + d)).toNat = 48 + d := by
  rw [UInt8.toNat_ofNat']
  omega
theorem dval_dec (n : Nat) : dval (Lib.decDigits n) 0 = n := by
  induction n using Nat.strongRecOn with
  | _ n ih =>
    rw [Lib.decDigits]
    split
    · rename_i h
      simp only [dval]
      rw [dig_toNat h]
      omega
    · rename_i h
      rw [dval_append, ih (n / 10) (by omega)]
      simp only [dval]
      rw [dig_toNat (by omega)]
      omega
theorem dec_dig (n : Nat) : ∀ c ∈ Lib.decDigits n, isDig c = true := by
  induction n using Nat.strongRecOn with
  | _ n ih =>
    rw [Lib.decDigits]
    split
    · rename_i h
      intro c hc
      rw [List.mem_singleton] at hc
      subst hc
      simp only [isDig, dig_toNat h, Bool.and_eq_true, decide_eq_true_eq]
      omega
    · rename_i h
      intro c hc
      rw [List.mem_append, List.mem_singleton] at hc
      rcases hc with hc | rfl
      · exact ih (n / 10) (by omega) c hc
      · simp only [isDig, dig_toNat (show n % 10 < 10 by omega), Bool.and_eq_true, decide_eq_true_eq]
        omega
theorem dec_ne (n : Nat) : Lib.decDigits n ≠ [] := by
  rw [Lib.decDigits]
  split <;> simp
theorem dval_lt (l : List UInt8) : ∀ a, (∀ c ∈ l, isDig c = true) → dval l a < (a + 1) * 10 ^ l.length := by
  induction l with
  | nil => intro a _; simp [dval]
  | cons c l ih =>
    intro a h
    have hc := h c (by simp)
    simp only [isDig, Bool.and_eq_true, decide_eq_true_eq] at hc
    have := ih (10 * a + (c.toNat - 48)) (fun d hd => h d (by simp [hd]))
    simp only [dval, List.length_cons, Nat.pow_succ]
    refine Nat.lt_of_lt_of_le this ?_
    have h2 : 10 * a + (c.toNat - 48) + 1 ≤ (a + 1) * 10 := by omega
    calc (10 * a + (c.toNat - 48) + 1) * 10 ^ l.length ≤ (a + 1) * 10 * 10 ^ l.length := Nat.mul_le_mul_right _ h2
      _ = (a + 1) * (10 ^ l.length * 10) := by rw [Nat.mul_assoc, Nat.mul_comm 10 (10 ^ l.length)]

/-- The digits of a text behind its sign. -/
def body : List UInt8 → List UInt8
  | c :: d :: r => if c = 45 then d :: r else c :: d :: r
  | l => l
theorem dec_head {n : Nat} {c : UInt8} {r : List UInt8} (h : Lib.decDigits n = c :: r) : ¬ c = 45 := by
  intro e
  have := dec_dig n c (by rw [h]; simp)
  subst e
  simp [isDig] at this
theorem body_neg (n : Nat) : body (45 :: Lib.decDigits n) = Lib.decDigits n := by
  cases h : Lib.decDigits n with
  | nil => exact absurd h (dec_ne n)
  | cons d r => simp [body]
theorem body_pos (n : Nat) : body (Lib.decDigits n) = Lib.decDigits n := by
  cases h : Lib.decDigits n with
  | nil => exact absurd h (dec_ne n)
  | cons d r =>
    cases r with
    | nil => rfl
    | cons d' r' => simp [body, dec_head h]
/-- What a text's digits tell, with its sign. -/
def tval (l : List UInt8) : Int := if (body l).length = l.length then (dval (body l) 0 : Nat) else -((dval (body l) 0 : Nat) : Int)
theorem tval_itoa (x : Int) : tval (Lib.itoa x) = x := by
  unfold tval Lib.itoa
  split
  · rename_i h
    rw [body_neg, dval_dec, if_neg (by simp)]
    omega
  · rename_i h
    rw [body_pos, if_pos rfl, dval_dec]
    omega
theorem itoa_body (x : Int) (h : -1000000000 ≤ x ∧ x ≤ 1000000000) : (∀ c ∈ body (Lib.itoa x), isDig c = true) ∧ body (Lib.itoa x) ≠ [] ∧ (body (Lib.itoa x)).length ≤ 10 := by
  unfold Lib.itoa
  split
  · rw [body_neg]
    exact ⟨dec_dig _, dec_ne _, dec_len 9 _ (by omega)⟩
  · rw [body_pos]
    exact ⟨dec_dig _, dec_ne _, dec_len 9 _ (by omega)⟩

/-- The text is a number. -/
def numB (l : List UInt8) : Bool := decide (-1000000000 ≤ tval l) && decide (tval l ≤ 1000000000) && (Lib.itoa (tval l) == l)
theorem numB_iff (l : List UInt8) : numB l = true ↔ ∃ x : Int, (-1000000000 ≤ x ∧ x ≤ 1000000000) ∧ Lib.itoa x = l := by
  unfold numB
  simp only [Bool.and_eq_true, decide_eq_true_eq, beq_iff_eq]
  constructor
  · rintro ⟨h, e⟩; exact ⟨tval l, h, e⟩
  · rintro ⟨x, h, rfl⟩
    rw [tval_itoa]
    exact ⟨h, rfl⟩
theorem numB_body {l : List UInt8} (h : numB l = true) : (∀ c ∈ body l, isDig c = true) ∧ body l ≠ [] ∧ (body l).length ≤ 10 := by
  obtain ⟨x, hx, rfl⟩ := (numB_iff l).1 h
  exact itoa_body x hx
end Go.Proofs.YtkoiccocgejmcaaDoor
