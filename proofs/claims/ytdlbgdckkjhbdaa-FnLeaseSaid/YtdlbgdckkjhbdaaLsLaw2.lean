/-
  What follows for a lease that is asked for: as long as its grip is good it is kept; given back it is there no more. Nothing of the program; no condition.
-/
import Derived.Test.YtdlbgdckkjhbdaaLsLaw
namespace Go.Proofs.Ytdlbgdckkjhbdaa
open Go.RowKit

theorem ak_parts {xs : List Ls} {i q n : Int} (h : akB xs i q n = true) : 0 ≤ n ∧ n ≤ 1000000000 ∧ akL xs i q n = wlL xs ⟨i, q, n + 20⟩ ∧ lsB (akL xs i q n) = true ∧ akI xs i q n = i ∧ akU xs i q n = n + 17 := by
  have hp := h
  unfold akB at hp
  simp only [Bool.and_eq_true, decide_eq_true_eq] at hp
  have e : akL xs i q n = wlL xs ⟨i, q, n + 20⟩ := by unfold akL; rw [if_pos h]
  exact ⟨hp.1.2.1, hp.1.2.2, e, by rw [e]; exact hp.2, by unfold akI; rw [if_pos h], by unfold akU; rw [if_pos h]⟩
/-- The lease that was asked for is in the list. -/
theorem wl_mem (xs : List Ls) (l : Ls) : l ∈ wlL xs l := by
  unfold wlL
  split
  · rename_i h
    have hlt := (lsIdx_lt xs l.i l.w).2
    exact List.mem_iff_getElem?.2 ⟨(lsIdx xs l.i l.w 0).toNat, by rw [List.getElem?_set_self (by omega)]⟩
  · simp
/-- It is found where it stands. -/
theorem wl_idx {xs : List Ls} {l : Ls} (h : lsB (wlL xs l) = true) : ∃ k : Nat, lsIdx (wlL xs l) l.i l.w 0 = (k : Int) ∧ (wlL xs l)[k]? = some l := by
  have hm := wl_mem xs l
  generalize wlL xs l = Y at *
  rcases lsIdx_of Y l.i l.w 0 with ⟨h1, h2⟩ | ⟨j, x, h1, h2, h3, h4, _⟩
  · have := h2 l hm
    simp at this
  · refine ⟨j, by rw [h1]; simp, ?_⟩
    obtain ⟨k, hk, hkl⟩ := List.getElem_of_mem hm
    obtain ⟨hj, hjx⟩ := List.getElem?_eq_some_iff.1 h2
    rw [lsB_iff] at h
    have hp := List.pairwise_iff_getElem.1 h.2.2
    by_cases e : j = k
    · subst e
      rw [h2, ← hkl, hjx]
    · exfalso
      rcases Nat.lt_or_gt_of_ne e with hl | hl
      · exact hp j k hj hk hl (by rw [hjx, hkl]; exact ⟨h3, h4⟩)
      · exact hp k j hk hj hl (by rw [hjx, hkl]; exact ⟨h3.symm, h4.symm⟩)
/-- As long as the grip is good it is kept, whatever is dropped. -/
theorem ak_kept {xs : List Ls} {i q n t : Int} (h : akB xs i q n = true) (ht : t ≤ n + 20) :
    (lsB (akL xs i q n) && ktB (akL xs i q n) i t) = true ∧ (lsB (dpL (akL xs i q n) t) && ktB (dpL (akL xs i q n) t) i t) = true := by
  obtain ⟨_, _, e, hb, _, _⟩ := ak_parts h
  have hm := wl_mem xs ⟨i, q, n + 20⟩
  rw [← e] at hm
  have hk := ktB_mem (n := t) hm ht
  have hd : dpL (akL xs i q n) t = lvL (akL xs i q n) t := by unfold dpL; rw [if_pos hb]
  have hm2 : (⟨i, q, n + 20⟩ : Ls) ∈ lvL (akL xs i q n) t := List.mem_filter.2 ⟨hm, by simpa using ht⟩
  have hk2 := ktB_mem (n := t) hm2 ht
  refine ⟨by rw [hb, hk]; rfl, ?_⟩
  rw [hd, lvL_ok t hb, hk2]
  rfl
/-- Given back it is there no more. -/
theorem ak_back {xs : List Ls} {i q n : Int} (h : akB xs i q n = true) :
    gvB (akL xs i q n) i q n = true ∧ (gvL (akL xs i q n) i q n).length + 1 = (akL xs i q n).length ∧ gvB (gvL (akL xs i q n) i q n) i q n = false := by
  obtain ⟨_, _, e, hb, _, _⟩ := ak_parts h
  have hb' := hb
  rw [e] at hb'
  obtain ⟨k, h1, h2⟩ := wl_idx hb'
  rw [← e] at h1 h2
  simp only at h1
  obtain ⟨g1, g2⟩ := gv_yes (n := n) hb h1 h2 (by simp only; omega)
  have hk := (List.getElem?_eq_some_iff.1 h2).1
  refine ⟨g1, by rw [g2, List.length_eraseIdx_of_lt hk]; omega, ?_⟩
  rw [g2]
  generalize akL xs i q n = Y at *
  by_cases hbe : lsB (Y.eraseIdx k) = true
  · refine (gv_none hbe ?_).1
    intro hneg
    have hn : ¬ lsIdx (Y.eraseIdx k) i q 0 < 0 := by omega
    rw [lsIdx_neg] at hn
    apply hn
    intro x hx ex
    obtain ⟨a, ha, hax⟩ := List.getElem_of_mem hx
    rw [lsB_iff] at hb
    have hp := List.pairwise_iff_getElem.1 hb.2.2
    obtain ⟨hkl, hkx⟩ := List.getElem?_eq_some_iff.1 h2
    rw [List.getElem_eraseIdx] at hax
    split at hax
    · rename_i hak
      exact hp a k (by omega) hkl hak (by rw [hax, hkx]; exact ex)
    · rename_i hak
      have hlen := List.length_eraseIdx_of_lt hk
      exact hp k (a + 1) hkl (by omega) (by omega) (by rw [hax, hkx]; exact ⟨ex.1.symm, ex.2.symm⟩)
  · exact (gv_bad (by simpa using hbe)).1
end Go.Proofs.Ytdlbgdckkjhbdaa
