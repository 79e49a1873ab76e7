/-
  Contracts of the draws' l2DrawAt and DrawSizeOf.
-/
import Derived.Test.YtlnfhcfdcocepaaDraw9
namespace Go.Proofs.Ytlnfhcfdcocepaa
open Go.RowKit

theorem wrapB (x : Int) : -9223372036854775808 ≤ IntKind.i64.wrap x ∧ IntKind.i64.wrap x ≤ 9223372036854775807 := by rw [IntKind.wrap_i64]; omega

end Go.Proofs.Ytlnfhcfdcocepaa
