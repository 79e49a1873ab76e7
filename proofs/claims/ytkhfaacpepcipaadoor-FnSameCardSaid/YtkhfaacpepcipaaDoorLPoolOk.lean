/-
  The laws FnExactPoolOk and FnExactNameOk, walked: at every argument the law returns true.
-/
import Derived.Test.YtkhfaacpepcipaaDoorTo2
import Derived.Test.YtkhfaacpepcipaaDoorSNode
namespace Go.Proofs.YtkhfaacpepcipaaDoor
open Go.RowKit

theorem NRow.small {w : World} {v : Value} {xs : List Nd} (R : NRow w v xs) : ∃ ao cap, v = .slice ao xs.length cap := by
  obtain ⟨ao, cap, rfl, _⟩ := R
  exact ⟨ao, cap, rfl⟩

end Go.Proofs.YtkhfaacpepcipaaDoor
