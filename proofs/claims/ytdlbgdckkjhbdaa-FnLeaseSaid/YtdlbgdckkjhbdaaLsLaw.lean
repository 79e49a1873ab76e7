/-
  What follows for lists of leases: what is dropped, asked for, given back. Nothing of the program; no condition.
-/
import Derived.Test.YtdlbgdckkjhbdaaLsKept
import Derived.Test.YtdlbgdckkjhbdaaLsAskM
import Derived.Test.YtdlbgdckkjhbdaaLsGiveM
namespace Go.Proofs.Ytdlbgdckkjhbdaa
open Go.RowKit

/-- No two of one claim. -/
def Apart (a b : Ls) : Prop := ¬ (a.i = b.i ∧ a.w = b.w)
theorem lsIdx_neg (xs : List Ls) (i q : Int) : lsIdx xs i q 0 < 0 ↔ ∀ x ∈ xs, ¬ (x.i = i ∧ x.w = q) := by
  rcases lsIdx_of xs i q 0 with ⟨h, h2⟩ | ⟨j, x, h1, h2, h3, h4, _⟩
  · refine ⟨fun _ x hx e => ?_, fun _ => by rw [h]; omega⟩
    have := h2 x hx
    simp [e.1, e.2] at this
  · refine ⟨fun h => by rw [h1] at h; omega, fun h => ?_⟩
    exact absurd ⟨h3, h4⟩ (h x (List.mem_of_getElem? h2))
theorem lsFrom_iff (xs : List Ls) : ∀ (n j : Nat), n = xs.length - j → j ≤ xs.length → (lsFrom xs (xs.drop j) j = true ↔ ∀ k x, j ≤ k → xs[k]? = some x → lsOne xs k x = true) := by
  intro n
  induction n with
  | zero =>
    intro j hn hj
    have : j = xs.length := by omega
    subst this
    rw [lsFrom_end]
    refine ⟨fun _ k x hk hx => ?_, fun _ => rfl⟩
    have := (List.getElem?_eq_some_iff.1 hx).1
    omega
  | succ n ih =>
    intro j hn hj
    have hlt : j < xs.length := by omega
    obtain ⟨x, hx⟩ : ∃ x, xs[j]? = some x := ⟨xs[j], by simp [hlt]⟩
    rw [lsFrom_at xs j x hx, Bool.and_eq_true, ih (j + 1) (by omega) (by omega)]
    refine ⟨fun ⟨h1, h2⟩ k y hk hy => ?_, fun h => ⟨h j x (Nat.le_refl _) hx, fun k y hk hy => h k y (by omega) hy⟩⟩
    by_cases e : k = j
    · subst e
      rw [hx] at hy
      cases hy
      exact h1
    · exact h2 k y (by omega) hy
theorem lsB_iff (xs : List Ls) : lsB xs = true ↔ xs.length ≤ 20 ∧ (∀ x ∈ xs, lsFit x = true) ∧ xs.Pairwise Apart := by
  unfold lsB
  rw [Bool.and_eq_true, decide_eq_true_eq]
  have h := lsFrom_iff xs xs.length 0 (by omega) (by omega)
  rw [List.drop_zero] at h
  rw [h]
  refine and_congr_right fun _ => ?_
  constructor
  · intro h
    refine ⟨fun x hx => ?_, ?_⟩
    · obtain ⟨k, hk, rfl⟩ := List.getElem_of_mem hx
      have := h k xs[k] (by omega) (by simp [hk])
      unfold lsOne at this
      rw [Bool.and_eq_true] at this
      exact this.1
    · rw [List.pairwise_iff_getElem]
      intro a b ha hb hab e
      have := h b xs[b] (by omega) (by simp [hb])
      unfold lsOne at this
      rw [Bool.and_eq_true, decide_eq_true_eq, lsIdx_neg] at this
      refine this.2 xs[a] ?_ e
      rw [List.mem_take_iff_getElem]
      exact ⟨a, by omega, rfl⟩
  · rintro ⟨h1, h2⟩ k x _ hx
    obtain ⟨hk, rfl⟩ := List.getElem?_eq_some_iff.1 hx
    unfold lsOne
    rw [Bool.and_eq_true, decide_eq_true_eq, lsIdx_neg]
    refine ⟨h1 _ (List.getElem_mem _), fun y hy e => ?_⟩
    rw [List.mem_take_iff_getElem] at hy
    obtain ⟨a, ha, rfl⟩ := hy
    rw [List.pairwise_iff_getElem] at h2
    exact h2 a k (by omega) hk (by omega) e
theorem lvL_ok {xs : List Ls} (n : Int) (h : lsB xs = true) : lsB (lvL xs n) = true := by
  rw [lsB_iff] at h ⊢
  obtain ⟨h1, h2, h3⟩ := h
  exact ⟨Nat.le_trans (lvL_len xs n) h1, fun x hx => h2 x (List.mem_filter.1 hx).1, h3.filter _⟩
theorem ktB_mem {xs : List Ls} {x : Ls} {n : Int} (h : x ∈ xs) (hn : n ≤ x.u) : ktB xs x.i n = true := by
  induction xs with
  | nil => simp at h
  | cons y ys ih =>
    rw [ktB]
    rcases List.mem_cons.1 h with rfl | h
    · simp [hn]
    · rw [ih h]; simp
/-- What is left at n is not over, and kept in both lists. -/
theorem dp_kept {xs : List Ls} {n : Int} {k : Nat} {x : Ls} (h : (dpL xs n)[k]? = some x) : n ≤ x.u ∧ (lsB (dpL xs n) && ktB (dpL xs n) x.i n) = true ∧ (lsB xs && ktB xs x.i n) = true := by
  have hm := List.mem_of_getElem? h
  have hb : lsB xs = true := by
    cases hb : lsB xs with
    | true => rfl
    | false => unfold dpL at hm; rw [hb] at hm; simp at hm
  have hd : dpL xs n = lvL xs n := by unfold dpL; rw [if_pos hb]
  rw [hd] at hm ⊢
  have hf := List.mem_filter.1 hm
  have hn : n ≤ x.u := by simpa using hf.2
  exact ⟨hn, by rw [lvL_ok n hb, ktB_mem hm hn]; rfl, by rw [hb, ktB_mem hf.1 hn]; rfl⟩
end Go.Proofs.Ytdlbgdckkjhbdaa
