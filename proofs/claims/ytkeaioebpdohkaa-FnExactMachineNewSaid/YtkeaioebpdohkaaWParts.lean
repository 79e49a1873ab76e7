/-
  Contract of impl's withParts: a node with its parts where they are told to be. Conditions: the node's kind is one, its parts are told of.
-/
import Derived.Test.YtkeaioebpdohkaaShape
import Derived.Test.YtkeaioebpdohkaaGrow
import Derived.Test.YtkeaioebpdohkaaSizeI
import Derived.Test.YtkeaioebpdohkaaCls
namespace Go.Proofs.Ytkeaioebpdohkaa
open Go.RowKit

theorem Try.sizeNW : (Try.prog.info? 60).map (·.size) = some 5 := by kernel_rfl

end Go.Proofs.Ytkeaioebpdohkaa
