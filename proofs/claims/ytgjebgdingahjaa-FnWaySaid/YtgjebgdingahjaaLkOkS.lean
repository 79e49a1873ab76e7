/-
  Contract of spec's LinkOk. No condition.
-/
import Derived.Test.YtgjebgdingahjaaLkOk
namespace Go.Proofs.Ytgjebgdingahjaa
open Go.RowKit

theorem in_yes {x a b : Int} (h : a ≤ x ∧ x ≤ b) : (decide (a ≤ x) && decide (x ≤ b)) = true := by simp [h.1, h.2]
theorem in_no {x a b : Int} (h : ¬ (a ≤ x ∧ x ≤ b)) : (decide (a ≤ x) && decide (x ≤ b)) = false := by
  rw [Bool.eq_false_iff]
  intro e
  simp only [Bool.and_eq_true, decide_eq_true_eq] at e
  exact h e

end Go.Proofs.Ytgjebgdingahjaa
