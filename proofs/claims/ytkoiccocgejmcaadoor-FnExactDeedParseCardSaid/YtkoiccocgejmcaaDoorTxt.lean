/-
  How values are written, as lists of bytes. Nothing of the program; no condition.
-/
import Derived.Test.YtkoiccocgejmcaaDoorNd
import Derived.Lib.ItoaNum
namespace Go.Proofs.YtkoiccocgejmcaaDoor
open Go.RowKit

theorem dec_len : ∀ (k u : Nat), u < 10 ^ (k + 1) → (Lib.decDigits u).length ≤ k + 1 := by
  intro k
  induction k with
  | zero => intro u h; rw [Lib.decDigits, dif_pos (by simpa using h)]; simp
  | succ k ih =>
    intro u h
    rw [Lib.decDigits]
    split
    · simp
    · have := ih (u / 10) (by rw [Nat.pow_succ] at h; omega)
      simp
      omega
theorem itoa_len {n : Int} (h : -1000000000 ≤ n ∧ n ≤ 1000000000) : (Lib.itoa n).length ≤ 11 := by
  unfold Lib.itoa
  split
  · have := dec_len 9 n.natAbs (by omega)
    simp; omega
  · have := dec_len 9 n.toNat (by omega)
    omega

/-- A node that is no pair, as it is written. -/
def wordL (x : Nd) : List UInt8 :=
  if x.k = 1 then [40, 41] else if x.k = 2 then (if x.n = 0 then [35, 102] else [35, 116]) else if x.k = 3 then Lib.itoa x.n
  else if x.k = 4 then x.s.data.toList else if x.k = 6 then [35, 102, 117, 110] ++ Lib.itoa x.n else if x.k = 7 then [35, 107, 111, 110, 116] ++ Lib.itoa x.n
  else if x.k = 8 then [35, 112, 114, 105, 109] ++ Lib.itoa x.n else if x.k = 9 then [35, 112, 105, 100] ++ Lib.itoa x.n else []

theorem wordL_len {x : Nd} (h : -1000000000 ≤ x.n ∧ x.n ≤ 1000000000) (hs : x.s.size ≤ 1000) : (wordL x).length ≤ 1100 := by
  have := itoa_len h
  have e : x.s.data.toList.length = x.s.size := by rw [Array.length_toList]; rfl
  unfold wordL
  split
  · simp
  · split
    · split <;> simp
    · split
      · omega
      · split
        · omega
        · split
          · simp; omega
          · split
            · simp; omega
            · split
              · simp; omega
              · split
                · simp; omega
                · simp

/-- The node v as it is written, and as it is written as the rest of a list. -/
def ft (xs : List Nd) : Nat → Nat → List UInt8 × List UInt8
  | 0, _ => ([], [])
  | f + 1, v => match xs[v]? with
    | none => ([], [])
    | some x => if x.k = 5 then ([40] ++ (ft xs f x.a.toNat).1 ++ (ft xs f x.b.toNat).2 ++ [41], [32] ++ (ft xs f x.a.toNat).1 ++ (ft xs f x.b.toNat).2)
      else (wordL x, if x.k = 1 then [] else [32, 46, 32] ++ wordL x)
def fullT (xs : List Nd) (v : Nat) : List UInt8 := (ft xs (v + 1) v).1
def restT (xs : List Nd) (v : Nat) : List UInt8 := (ft xs (v + 1) v).2

theorem nodesB_at {xs : List Nd} : ∀ {k i : Nat} {x : Nd}, nodesB xs k = true → xs[i]? = some x → nodeB x ((k + i : Nat) : Int) = true := by
  induction xs with
  | nil => intro k i x _ h; simp at h
  | cons y ys ih =>
    intro k i x h hx
    rw [nodesB, Bool.and_eq_true] at h
    cases i with
    | zero => simp at hx; subst hx; simpa using h.1
    | succ i =>
      have := ih (k := k + 1) (i := i) h.2 (by simpa using hx)
      rw [show k + (i + 1) = k + 1 + i by omega]
      exact this
theorem pool_at {xs : List Nd} (hp : poolB xs = true) {i : Nat} {x : Nd} (hx : xs[i]? = some x) : nodeB x (i : Int) = true := by
  simp only [poolB, Bool.and_eq_true] at hp
  have := nodesB_at hp.2 hx
  simpa using this
theorem pool_pair {xs : List Nd} (hp : poolB xs = true) {i : Nat} {x : Nd} (hx : xs[i]? = some x) (h5 : x.k = 5) : ∃ a b : Nat, x.a = a ∧ x.b = b ∧ a < i ∧ b < i := by
  have h := pool_at hp hx
  simp only [nodeB, Bool.and_eq_true, partB, hasA, hasB, h5] at h
  obtain ⟨_, ⟨_, hA⟩, hB⟩ := h
  simp only [true_or, decide_true, if_true, Bool.and_eq_true, decide_eq_true_eq] at hA hB
  exact ⟨x.a.toNat, x.b.toNat, by omega, by omega, by omega, by omega⟩
theorem lo_ge (k : Int) : -1000000000 ≤ lo k := by unfold lo; split <;> decide
theorem hi_le (k : Int) : hi k ≤ 1000000000 := by
  unfold hi
  split
  · decide
  · split
    · decide
    · split <;> decide
theorem pool_num {xs : List Nd} (hp : poolB xs = true) {i : Nat} {x : Nd} (hx : xs[i]? = some x) : (1 ≤ x.k ∧ x.k ≤ 9) ∧ (-1000000000 ≤ x.n ∧ x.n ≤ 1000000000) := by
  have h := pool_at hp hx
  simp only [nodeB, Bool.and_eq_true, decide_eq_true_eq] at h
  obtain ⟨⟨⟨⟨h1, h2⟩, h3⟩, h4⟩, _⟩ := h
  exact ⟨⟨h1, h2⟩, Int.le_trans (lo_ge _) h3, Int.le_trans h4 (hi_le _)⟩

theorem ft_fuel {xs : List Nd} (hp : poolB xs = true) : ∀ (v f : Nat), v < f → ft xs f v = ft xs (v + 1) v := by
  intro v
  induction v using Nat.strongRecOn with
  | _ v ih =>
    intro f hf
    cases f with
    | zero => omega
    | succ f =>
      rw [ft, ft]
      cases hx : xs[v]? with
      | none => rfl
      | some x =>
        dsimp only
        by_cases h5 : x.k = 5
        · obtain ⟨a, b, ha, hb, hal, hbl⟩ := pool_pair hp hx h5
          rw [if_pos h5, if_pos h5, ha, hb, Int.toNat_natCast, Int.toNat_natCast, ih a hal f (by omega), ih b hbl f (by omega), ih a hal v hal, ih b hbl v hbl]
        · rw [if_neg h5, if_neg h5]
theorem fullT_pair {xs : List Nd} (hp : poolB xs = true) {v : Nat} {x : Nd} (hx : xs[v]? = some x) (h5 : x.k = 5) {a b : Nat} (ha : x.a = a) (hb : x.b = b) (hal : a < v) (hbl : b < v) : fullT xs v = [40] ++ fullT xs a ++ restT xs b ++ [41] := by
  rw [fullT, ft, hx]
  dsimp only
  rw [if_pos h5, ha, hb, Int.toNat_natCast, Int.toNat_natCast, ft_fuel hp a v hal, ft_fuel hp b v hbl]
  rfl
theorem restT_pair {xs : List Nd} (hp : poolB xs = true) {v : Nat} {x : Nd} (hx : xs[v]? = some x) (h5 : x.k = 5) {a b : Nat} (ha : x.a = a) (hb : x.b = b) (hal : a < v) (hbl : b < v) : restT xs v = [32] ++ fullT xs a ++ restT xs b := by
  rw [restT, ft, hx]
  dsimp only
  rw [if_pos h5, ha, hb, Int.toNat_natCast, Int.toNat_natCast, ft_fuel hp a v hal, ft_fuel hp b v hbl]
  rfl
theorem fullT_word {xs : List Nd} {v : Nat} {x : Nd} (hx : xs[v]? = some x) (h5 : ¬ x.k = 5) : fullT xs v = wordL x := by
  rw [fullT, ft, hx]
  dsimp only
  rw [if_neg h5]
theorem restT_nil {xs : List Nd} {v : Nat} {x : Nd} (hx : xs[v]? = some x) (h1 : x.k = 1) : restT xs v = [] := by
  rw [restT, ft, hx]
  dsimp only
  rw [if_neg (by omega), if_pos h1]
theorem restT_word {xs : List Nd} {v : Nat} {x : Nd} (hx : xs[v]? = some x) (h5 : ¬ x.k = 5) (h1 : ¬ x.k = 1) : restT xs v = [32, 46, 32] ++ wordL x := by
  rw [restT, ft, hx]
  dsimp only
  rw [if_neg h5, if_neg h1]
end Go.Proofs.YtkoiccocgejmcaaDoor
