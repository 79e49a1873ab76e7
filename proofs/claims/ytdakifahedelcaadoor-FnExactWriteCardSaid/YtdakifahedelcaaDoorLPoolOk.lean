/-
  The laws FnExactPoolOk and FnExactNameOk, walked: at every argument the law returns true.
-/
import Derived.Test.YtdakifahedelcaaDoorTo2
import Derived.Test.YtdakifahedelcaaDoorSNode
namespace Go.Proofs.YtdakifahedelcaaDoor
open Go.RowKit

theorem NRow.small {w : World} {v : Value} {xs : List Nd} (R : NRow w v xs) : ∃ ao cap, v = .slice ao xs.length cap := by
  obtain ⟨ao, cap, rfl, _⟩ := R
  exact ⟨ao, cap, rfl⟩

end Go.Proofs.YtdakifahedelcaaDoor
