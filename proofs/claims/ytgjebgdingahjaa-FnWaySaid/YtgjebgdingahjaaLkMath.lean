/-
  What stays right of a link that is right. Nothing of the program; no condition.
-/
import Derived.Test.YtgjebgdingahjaaLkTakeM
import Derived.Test.YtgjebgdingahjaaLkAckM
namespace Go.Proofs.Ytgjebgdingahjaa
open Go.RowKit

theorem linkB_iff (l : Lk) : linkB l = true ↔ (0 ≤ l.acked ∧ l.acked ≤ l.got ∧ l.got ≤ l.sent ∧ l.sent ≤ 100000 ∧ (l.q.length : Int) = l.sent - l.acked ∧ l.q.length ≤ 30) ∧ heldB (lend l) l.got l.h = true := by
  unfold linkB
  simp only [Bool.and_eq_true, decide_eq_true_eq]
theorem zeroLk_ok : linkB zeroLk = true := by rw [linkB_iff]; simp [zeroLk, heldB]
theorem heldB_more {e e' z : Int} {h : List Pc} (hb : heldB e z h = true) (he : e ≤ e') : heldB e' z h = true := by
  induction h generalizing z with
  | nil => rfl
  | cons p ps ih =>
    simp only [heldB, Bool.and_eq_true, decide_eq_true_eq] at hb ⊢
    exact ⟨hb.1, by omega, ih hb.2.2⟩
theorem holdL_held {e z : Int} {h : List Pc} {x : Pc} (hb : heldB e z h = true) (h1 : z < x.n) (h2 : x.n < e) : heldB e z (holdL x h) = true := by
  induction h generalizing z with
  | nil => simp [holdL, heldB, h1, h2]
  | cons p ps ih =>
    simp only [heldB, Bool.and_eq_true, decide_eq_true_eq] at hb
    simp only [holdL]
    split
    · simp only [heldB, Bool.and_eq_true, decide_eq_true_eq]
      exact ⟨hb.1, hb.2.1, ih hb.2.2 (by assumption)⟩
    · split
      · simp only [heldB, Bool.and_eq_true, decide_eq_true_eq]
        exact hb
      · simp only [heldB, Bool.and_eq_true, decide_eq_true_eq]
        exact ⟨h1, h2, by omega, hb.2.1, hb.2.2⟩
theorem upGo_held {e g : Int} {h : List Pc} (hb : heldB e (g - 1) h = true) (hg : g ≤ e) : heldB e (upGo g h).2.1 (upGo g h).2.2 = true ∧ g ≤ (upGo g h).2.1 ∧ (upGo g h).2.1 ≤ e ∧ (upGo g h).2.1 = g + (upGo g h).1.length := by
  induction h generalizing g with
  | nil => simp [upGo, heldB, hg]
  | cons p ps ih =>
    simp only [heldB, Bool.and_eq_true, decide_eq_true_eq] at hb
    simp only [upGo]
    split
    · rename_i hp
      have i := ih (g := g + 1) (by rw [show g + 1 - 1 = p.n by omega]; exact hb.2.2) (by omega)
      simp only [List.length_cons]
      exact ⟨i.1, by omega, i.2.2.1, by have := i.2.2.2; omega⟩
    · refine ⟨?_, by simp, hg, by simp⟩
      simp only [heldB, Bool.and_eq_true, decide_eq_true_eq]
      exact ⟨by omega, hb.2.1, hb.2.2⟩
theorem sendR_lb {l : Lk} (s : ByteArray) (h : linkB l = true) : linkB (sendR l s).1 = true := by
  unfold sendR
  rw [if_pos h]
  split
  · assumption
  · exact h
theorem ackR_lb {l : Lk} (no : Int) (h : linkB l = true) : linkB (ackR l no).1 = true := by
  unfold ackR
  rw [if_pos h]
  split
  · rename_i hin
    have hn := linkB_nums h
    rw [linkB_held hn] at h
    rw [linkB_iff]
    refine ⟨?_, h⟩
    simp only [ackL, List.length_drop]
    omega
  · exact h
theorem takeR_lb {l : Lk} (x : Pc) (h : linkB l = true) : linkB (takeR l x).1 = true := by
  unfold takeR
  rw [if_pos h]
  split
  · rename_i hin
    have hn := linkB_nums h
    have hh := h
    rw [linkB_held hn] at hh
    split
    · rename_i hgt
      rw [linkB_iff]
      exact ⟨hn, holdL_held (e := lend l) hh hgt (by omega)⟩
    · have hE : lend l ≤ l.sent := by unfold lend; split <;> omega
      have u := upGo_held (e := lend l) (g := l.got + 1) (h := l.h) (by rw [show l.got + 1 - 1 = l.got by omega]; exact hh) (by omega)
      rw [linkB_iff]
      refine ⟨⟨hn.1, by simp only; omega, by simp only; omega, hn.2.2.2.1, hn.2.2.2.2.1, hn.2.2.2.2.2⟩, ?_⟩
      refine heldB_more u.1 ?_
      unfold lend
      simp only
      split <;> split <;> omega
  · exact h
end Go.Proofs.Ytgjebgdingahjaa
