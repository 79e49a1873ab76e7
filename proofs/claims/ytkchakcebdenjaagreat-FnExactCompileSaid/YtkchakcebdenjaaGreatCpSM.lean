/-
  How great what is compiled may be: plain mathematics. Nothing of the program; no condition.
-/
import Derived.Test.YtkchakcebdenjaaGreatIc8M
namespace Go.Proofs.YtkchakcebdenjaaGreat
open Go.RowKit
theorem ctops_sm {xs : List Nd} (hp : poolB xs = true) : ∀ (l : List Int) (i : Nat) (s : CS), Sm s → Sm (ctops xs l i s).1
  | [], _, _, h => h
  | v :: l, i, s, h => by
    have h1 := ctop_sm xs (fun v => ndAt_s hp v) v s h
    rw [ctops]
    split
    · exact ctops_sm hp l (i + 1) _ h1
    · exact h1
theorem codeB_len {ns : List Nd} {is : List In} {ds : List Df} (h : codeB ns is ds = true) : ns.length ≤ 3000 ∧ is.length ≤ 400 ∧ ds.length ≤ 20 := by
  unfold codeB poolB at h
  simp only [Bool.and_eq_true, decide_eq_true_eq] at h
  exact ⟨h.1.1.1, h.1.2.1, h.2.1⟩
theorem compR_ok (xs : List Nd) (l : List Int) (hz : ∀ x ∈ xs, x.s.size ≤ maxLen) :
    ((compR xs l).1.1.length ≤ 3000 ∧ (compR xs l).1.2.1.length ≤ 400 ∧ (compR xs l).1.2.2.length ≤ 20) ∧ (∀ x ∈ (compR xs l).1.1, x.s.size ≤ maxLen) ∧ (∀ x ∈ (compR xs l).1.2.1, x.s.size ≤ maxLen) ∧ (∀ x ∈ (compR xs l).1.2.2, x.s.size ≤ maxLen) := by
  have h0 : ((([] : List Nd), ([] : List In), ([] : List Df)).1.length ≤ 3000 ∧ (([] : List Nd), ([] : List In), ([] : List Df)).2.1.length ≤ 400 ∧ (([] : List Nd), ([] : List In), ([] : List Df)).2.2.length ≤ 20) ∧ (∀ x ∈ (([] : List Nd), ([] : List In), ([] : List Df)).1, x.s.size ≤ maxLen) ∧ (∀ x ∈ (([] : List Nd), ([] : List In), ([] : List Df)).2.1, x.s.size ≤ maxLen) ∧ (∀ x ∈ (([] : List Nd), ([] : List In), ([] : List Df)).2.2, x.s.size ≤ maxLen) := by simp
  unfold compR
  split
  · rename_i hpa
    simp only [Bool.and_eq_true] at hpa
    have hS := ctops_sm hpa.1 l 0 ⟨[], [], 0⟩ ⟨by simp, by simp⟩
    split
    · split
      · rename_i hc
        refine ⟨codeB_len hc, hz, fun x hx => ?_, fun x hx => ?_⟩
        · exact Nat.le_trans (hS.1 x hx) (by unfold maxLen; omega)
        · exact Nat.le_trans (hS.2 x hx) (by unfold maxLen; omega)
      · exact h0
    · split
      · exact h0
      · exact h0
  · exact h0
end Go.Proofs.YtkchakcebdenjaaGreat
