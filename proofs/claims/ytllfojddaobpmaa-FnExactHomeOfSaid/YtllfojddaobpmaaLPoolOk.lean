/-
  The laws FnExactPoolOk and FnExactNameOk, walked: at every argument the law returns true.
-/
import Derived.Test.YtllfojddaobpmaaTo2
import Derived.Test.YtllfojddaobpmaaSNode
namespace Go.Proofs.Ytllfojddaobpmaa
open Go.RowKit

theorem NRow.small {w : World} {v : Value} {xs : List Nd} (R : NRow w v xs) : ∃ ao cap, v = .slice ao xs.length cap := by
  obtain ⟨ao, cap, rfl, _⟩ := R
  exact ⟨ao, cap, rfl⟩

end Go.Proofs.Ytllfojddaobpmaa
