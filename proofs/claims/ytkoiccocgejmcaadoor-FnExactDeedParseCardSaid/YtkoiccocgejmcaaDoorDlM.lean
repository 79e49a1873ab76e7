/-
  Lines of deeds: plain mathematics. Nothing of the program; no condition.
-/
import Derived.Test.YtkoiccocgejmcaaDoorWAtoi
namespace Go.Proofs.YtkoiccocgejmcaaDoor
open Go.RowKit

/-- The word of a kind of deeds. -/
def dwL (k : Int) : List UInt8 := if k = 1 then [115, 116, 101, 112] else if k = 2 then [115, 104, 111, 119] else if k = 3 then [103, 105, 118, 101] else if k = 4 then [99, 111, 112, 121] else if k = 5 then [108, 111, 115, 101] else []
/-- The line of a deed. -/
def lineL (k a b : Int) : List UInt8 := dwL k ++ ([32] ++ (Lib.itoa a ++ (if k = 1 ∨ k = 2 then [32] ++ Lib.itoa b else [])))
/-- Which deeds are right. -/
def dkB (k a b : Int) : Bool := !decide (a < 0) && !decide (b < 0) && (if k = 1 then decide (b ≤ 50) else if k = 2 then true else if k = 3 ∨ k = 4 ∨ k = 5 then decide (b = 0) else false)
/-- Which deeds have a line. -/
def dlB (k a b : Int) : Bool := dkB k a b && decide (a ≤ 999999999) && decide (b ≤ 999999999)

theorem dkB_kind {k a b : Int} (h : dkB k a b = true) : 1 ≤ k ∧ k ≤ 5 := by
  unfold dkB at h
  simp only [Bool.and_eq_true] at h
  have h2 := h.2
  split at h2
  · omega
  · split at h2
    · omega
    · split at h2
      · omega
      · cases h2
theorem dkB_nonneg {k a b : Int} (h : dkB k a b = true) : 0 ≤ a ∧ 0 ≤ b := by
  unfold dkB at h
  simp only [Bool.and_eq_true, Bool.not_eq_true', decide_eq_false_iff_not] at h
  omega
theorem dkB_one {k a b : Int} (h : dkB k a b = true) (h2 : ¬ (k = 1 ∨ k = 2)) : b = 0 := by
  unfold dkB at h
  simp only [Bool.and_eq_true] at h
  have h3 := h.2
  rw [if_neg (fun e => h2 (Or.inl e)), if_neg (fun e => h2 (Or.inr e))] at h3
  split at h3
  · exact of_decide_eq_true h3
  · cases h3
theorem dlB_iff {k a b : Int} : dlB k a b = true ↔ dkB k a b = true ∧ a ≤ 999999999 ∧ b ≤ 999999999 := by
  unfold dlB
  simp only [Bool.and_eq_true, decide_eq_true_eq, and_assoc]

/-- The words of a line, at blanks. -/
def spl : List UInt8 → List (List UInt8)
  | [] => [[]]
  | c :: r => if c = 32 then [] :: spl r else match spl r with
    | [] => [[c]]
    | h :: t => (c :: h) :: t
theorem spl_ne (l : List UInt8) : spl l ≠ [] := by
  cases l with
  | nil => simp [spl]
  | cons c r => unfold spl; split; · simp
                split <;> simp
/-- A part of a word ahead of words. -/
def glue (p : List UInt8) : List (List UInt8) → List (List UInt8)
  | [] => [p]
  | h :: t => (p ++ h) :: t
theorem glue_nil {x : List (List UInt8)} (h : x ≠ []) : glue [] x = x := by
  cases x with
  | nil => exact absurd rfl h
  | cons a t => rfl
theorem spl_blank (r : List UInt8) (p : List UInt8) : glue p (spl (32 :: r)) = p :: spl r := by simp [spl, glue]
theorem spl_byte {c : UInt8} (hc : c ≠ 32) (r p : List UInt8) : glue p (spl (c :: r)) = glue (p ++ [c]) (spl r) := by
  rw [spl, if_neg hc]
  cases h : spl r with
  | nil => exact absurd h (spl_ne r)
  | cons a t => simp [glue]
theorem glue_glue (p q : List UInt8) {x : List (List UInt8)} (h : x ≠ []) : glue p (glue q x) = glue (p ++ q) x := by
  cases x with
  | nil => exact absurd rfl h
  | cons a t => simp [glue]
theorem spl_word (w r : List UInt8) (hw : ∀ c ∈ w, c ≠ 32) : spl (w ++ r) = glue w (spl r) := by
  induction w with
  | nil => exact (glue_nil (spl_ne r)).symm
  | cons c w ih =>
    have hc := hw c (by simp)
    have := spl_byte hc (w ++ r) []
    rw [glue_nil (spl_ne _)] at this
    rw [List.cons_append, this, ih (fun d hd => hw d (by simp [hd])), glue_glue _ _ (spl_ne r)]
    rfl
theorem spl_one (w : List UInt8) (hw : ∀ c ∈ w, c ≠ 32) : spl w = [w] := by
  have := spl_word w [] hw
  rw [List.append_nil] at this
  rw [this]
  simp [spl, glue]
theorem spl_two (w r : List UInt8) (hw : ∀ c ∈ w, c ≠ 32) : spl (w ++ ([32] ++ r)) = w :: spl r := by
  rw [spl_word w _ hw]
  exact spl_blank r w

theorem itoa_dig {x : Int} (h : 0 ≤ x) : ∀ c ∈ Lib.itoa x, isDig c = true := by
  unfold Lib.itoa
  rw [if_neg (by omega)]
  exact dec_dig _
theorem dig_ne {c : UInt8} (h : isDig c = true) : c ≠ 32 := by
  intro e
  subst e
  simp [isDig] at h
theorem itoa_noblank {x : Int} (h : 0 ≤ x) : ∀ c ∈ Lib.itoa x, c ≠ 32 := fun c hc => dig_ne (itoa_dig h c hc)
theorem dwL_noblank (k : Int) : ∀ c ∈ dwL k, c ≠ 32 := by
  unfold dwL
  intro c hc
  repeat' split at hc
  all_goals (revert c; decide)
theorem dwL_cases {k : Int} (h : 1 ≤ k ∧ k ≤ 5) : k = 1 ∨ k = 2 ∨ k = 3 ∨ k = 4 ∨ k = 5 := by omega
theorem dwL_inj {k j : Int} (hk : 1 ≤ k ∧ k ≤ 5) (hj : 1 ≤ j ∧ j ≤ 5) (h : dwL k = dwL j) : k = j := by
  rcases dwL_cases hk with rfl | rfl | rfl | rfl | rfl <;> rcases dwL_cases hj with rfl | rfl | rfl | rfl | rfl <;> first | rfl | exact absurd h (by decide)
theorem spl_line {k a b : Int} (h : dkB k a b = true) : spl (lineL k a b) = if k = 1 ∨ k = 2 then [dwL k, Lib.itoa a, Lib.itoa b] else [dwL k, Lib.itoa a] := by
  have hn := dkB_nonneg h
  unfold lineL
  rw [spl_two _ _ (dwL_noblank k)]
  split
  · rw [spl_two _ _ (itoa_noblank hn.1), spl_one _ (itoa_noblank hn.2)]
  · rw [List.append_nil, spl_one _ (itoa_noblank hn.1)]
theorem itoa_inj {x y : Int} (h : Lib.itoa x = Lib.itoa y) : x = y := by
  have := congrArg tval h
  rwa [tval_itoa, tval_itoa] at this
theorem line_inj {k a b k' a' b' : Int} (h : dkB k a b = true) (h' : dkB k' a' b' = true) (e : lineL k a b = lineL k' a' b') : k = k' ∧ a = a' ∧ b = b' := by
  have hs := congrArg spl e
  rw [spl_line h, spl_line h'] at hs
  have kk : k = k' := by
    refine dwL_inj (dkB_kind h) (dkB_kind h') ?_
    split at hs <;> split at hs <;> simp at hs <;> exact hs.1
  subst kk
  by_cases h2 : k = 1 ∨ k = 2
  · rw [if_pos h2, if_pos h2] at hs
    simp only [List.cons.injEq, and_true, true_and] at hs
    exact ⟨rfl, itoa_inj hs.1, itoa_inj hs.2⟩
  · rw [if_neg h2, if_neg h2] at hs
    simp only [List.cons.injEq, and_true, true_and] at hs
    exact ⟨rfl, itoa_inj hs, by rw [dkB_one h h2, dkB_one h' h2]⟩

/-- What the reading of a line answers. -/
def PsAns (l : List UInt8) (k a b : Int) (ok : Bool) : Prop :=
  (ok = true → dlB k a b = true ∧ lineL k a b = l) ∧ (ok = false → k = 0 ∧ a = 0 ∧ b = 0 ∧ ∀ k' a' b' : Int, dlB k' a' b' = true → lineL k' a' b' ≠ l)
theorem PsAns.uniq {l : List UInt8} {k a b k' a' b' : Int} {ok ok' : Bool} (h : PsAns l k a b ok) (h' : PsAns l k' a' b' ok') : k = k' ∧ a = a' ∧ b = b' ∧ ok = ok' := by
  cases ok with
  | true =>
    obtain ⟨h1, h2⟩ := h.1 rfl
    cases ok' with
    | true =>
      obtain ⟨g1, g2⟩ := h'.1 rfl
      obtain ⟨e1, e2, e3⟩ := line_inj (dlB_iff.1 h1).1 (dlB_iff.1 g1).1 (h2.trans g2.symm)
      exact ⟨e1, e2, e3, rfl⟩
    | false => exact absurd h2 ((h'.2 rfl).2.2.2 _ _ _ h1)
  | false =>
    cases ok' with
    | true =>
      obtain ⟨g1, g2⟩ := h'.1 rfl
      exact absurd g2 ((h.2 rfl).2.2.2 _ _ _ g1)
    | false =>
      obtain ⟨a1, a2, a3, _⟩ := h.2 rfl
      obtain ⟨b1, b2, b3, _⟩ := h'.2 rfl
      exact ⟨by rw [a1, b1], by rw [a2, b2], by rw [a3, b3], rfl⟩

/-- How long a number is. -/
theorem dec_long : ∀ (j n : Nat), 10 ^ j ≤ n → j + 1 ≤ (Lib.decDigits n).length := by
  intro j
  induction j with
  | zero =>
    intro n _
    have := dec_ne n
    cases h : Lib.decDigits n with
    | nil => exact absurd h this
    | cons c r => simp
  | succ j ih =>
    intro n h
    rw [Nat.pow_succ] at h
    rw [Lib.decDigits]
    have h1 : 1 ≤ 10 ^ j := Nat.one_le_pow _ _ (by omega)
    rw [dif_neg (by omega), List.length_append]
    have := ih (n / 10) (by omega)
    simp
    omega
theorem itoa_nine {x : Int} (h : 0 ≤ x) : (Lib.itoa x).length ≤ 9 ↔ x ≤ 999999999 := by
  unfold Lib.itoa
  rw [if_neg (by omega)]
  constructor
  · intro h1
    refine Decidable.byContradiction fun h2 => ?_
    have := dec_long 9 x.toNat (by omega)
    omega
  · intro h1
    exact dec_len 8 x.toNat (by omega)
theorem itoa_small {x : Int} (h : 0 ≤ x ∧ x ≤ 9223372036854775807) : (Lib.itoa x).length ≤ 20 := by
  unfold Lib.itoa
  rw [if_neg (by omega)]
  exact Nat.le_trans (dec_len 18 x.toNat (by omega)) (by omega)
end Go.Proofs.YtkoiccocgejmcaaDoor
