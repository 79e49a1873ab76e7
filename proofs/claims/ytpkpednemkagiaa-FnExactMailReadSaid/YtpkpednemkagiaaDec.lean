/-
  Plain mathematics of reading a number from bytes. Nothing of the program; no condition.
-/
import Derived.Test.YtpkpednemkagiaaMath
namespace Go.Proofs.Ytpkpednemkagiaa
open Go.RowKit

/-- The bytes of the form that stands ahead, f of them at most: up to the first below 128. -/
def scan : Nat → List Int → Option (List Int)
  | 0, _ => none
  | _ + 1, [] => none
  | f + 1, b :: bs => if b < 128 then some [b] else (scan f bs).map (b :: ·)
/-- The number of a form. -/
def val : List Int → Int
  | [] => 0
  | b :: bs => b % 128 + 128 * val bs
theorem val_bounds (bs : List Int) : 0 ≤ val bs ∧ val bs < lim bs.length := by
  induction bs with
  | nil => simp [val, lim]
  | cons b bs ih => simp only [val, List.length_cons, lim]; omega
theorem val_snoc (bs : List Int) (b : Int) : val (bs ++ [b]) = val bs + b % 128 * lim bs.length := by
  induction bs with
  | nil => simp [val, lim]
  | cons c bs ih =>
    simp only [List.cons_append, val, ih, List.length_cons, lim]
    rw [Int.mul_add, ← Int.mul_assoc, ← Int.mul_assoc, Int.mul_comm (b % 128) 128]
    omega
theorem lim_mono {a b : Nat} (h : a ≤ b) : lim a ≤ lim b := by
  induction h with
  | refl => exact Int.le_refl _
  | step h ih => rename_i m; have := lim_pos m; simp only [lim]; omega
theorem mul_lim (b : Int) (k : Nat) : 0 ≤ b % 128 * lim k ∧ b % 128 * lim k ≤ 127 * lim k := by
  have h1 : 0 ≤ b % 128 := by omega
  have h2 : b % 128 ≤ 127 := by omega
  have h3 := lim_pos k
  exact ⟨Int.mul_nonneg h1 (by omega), Int.mul_le_mul_of_nonneg_right h2 (by omega)⟩

def gN (zs : List Int) (a : Int) : Int × Int × Bool :=
  if a < 0 then (0, 0, false) else
  match scan 9 (zs.drop a.toNat) with
  | none => (0, 0, false)
  | some bs => if 1 < bs.length ∧ bs.getLast? = some 0 then (0, 0, false) else (val bs, a + bs.length, true)
theorem gN_neg (zs : List Int) (a : Int) (h : a < 0) : gN zs a = (0, 0, false) := by simp [gN, h]
theorem gN_none (zs : List Int) (a : Nat) (h : scan 9 (zs.drop a) = none) : gN zs (a : Int) = (0, 0, false) := by
  have : ¬ (a : Int) < 0 := by omega
  simp [gN, h]
theorem gN_zero (zs : List Int) (a : Nat) (acc : List Int) (h : scan 9 (zs.drop a) = some (acc ++ [0])) (hk : 0 < acc.length) : gN zs (a : Int) = (0, 0, false) := by
  have : ¬ (a : Int) < 0 := by omega
  simp [gN, h]
  intro h0; subst h0; simp at hk
theorem gN_some (zs : List Int) (a : Nat) (acc : List Int) (b : Int) (h : scan 9 (zs.drop a) = some (acc ++ [b])) (hk : ¬ (b = 0 ∧ 0 < acc.length)) :
    gN zs (a : Int) = (val acc + b % 128 * lim acc.length, (a : Int) + acc.length + 1, true) := by
  have h1 : ¬ (a : Int) < 0 := by omega
  have h2 : ¬ (1 < (acc ++ [b]).length ∧ (acc ++ [b]).getLast? = some 0) := by
    simp only [List.length_append, List.length_cons, List.length_nil, List.getLast?_append, List.getLast?_singleton, Option.some_or, Option.some.injEq]
    omega
  simp only [gN, h1, if_false, Int.toNat_natCast, h]
  rw [if_neg h2, val_snoc]
  simp only [List.length_append, List.length_cons, List.length_nil]
  congr 2

/-- k bytes of the form have gone by. -/
def Sc (zs : List Int) (a k : Nat) (acc : List Int) : Prop := acc.length = k ∧ scan 9 (zs.drop a) = (scan (9 - k) (zs.drop (a + k))).map (acc ++ ·)
theorem Sc.start (zs : List Int) (a : Nat) : Sc zs a 0 [] := ⟨rfl, by simp⟩
theorem Sc.more {zs : List Int} {a k : Nat} {acc : List Int} (h : Sc zs a k acc) (hk : k < 9) (hl : a + k < zs.length) (hb : 128 ≤ zs[a + k]) : Sc zs a (k + 1) (acc ++ [zs[a + k]]) := by
  refine ⟨by simp [h.1], ?_⟩
  rw [h.2, show 9 - k = 9 - (k + 1) + 1 by omega, List.drop_eq_getElem_cons hl]
  simp only [scan]
  rw [if_neg (by omega), Option.map_map]
  congr 1
  funext x
  simp
theorem Sc.last {zs : List Int} {a k : Nat} {acc : List Int} (h : Sc zs a k acc) (hk : k < 9) (hl : a + k < zs.length) (hb : zs[a + k] < 128) : scan 9 (zs.drop a) = some (acc ++ [zs[a + k]]) := by
  rw [h.2, show 9 - k = 9 - (k + 1) + 1 by omega, List.drop_eq_getElem_cons hl]
  simp only [scan]
  rw [if_pos hb]
  rfl
theorem Sc.out {zs : List Int} {a k : Nat} {acc : List Int} (h : Sc zs a k acc) (hk : 9 ≤ k ∨ zs.length ≤ a + k) : scan 9 (zs.drop a) = none := by
  rw [h.2]
  rcases hk with hk | hk
  · rw [show 9 - k = 0 by omega]; rfl
  · rw [List.drop_eq_nil_of_le hk]
    cases 9 - k <;> rfl

/-- What GetNum answers, as a value. -/
abbrev gV (r : Int × Int × Bool) : Value := .tuple #[.int .i64 r.1, .int .i64 r.2.1, .bool r.2.2]

theorem lim_eight {k : Nat} (h : k ≤ 8) : lim k ≤ 72057594037927936 := by
  have := lim_mono h
  rw [show lim 8 = 72057594037927936 from by simp [lim]] at this
  exact this
theorem lim_seven {k : Nat} (h : k ≤ 7) : lim k ≤ 562949953421312 := by
  have := lim_mono h
  rw [show lim 7 = 562949953421312 from by simp [lim]] at this
  exact this

end Go.Proofs.Ytpkpednemkagiaa
