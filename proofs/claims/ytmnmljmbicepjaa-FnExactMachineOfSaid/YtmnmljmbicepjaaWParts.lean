/-
  Contract of impl's withParts: a node with its parts where they are told to be. Conditions: the node's kind is one, its parts are told of.
-/
import Derived.Test.YtmnmljmbicepjaaShape
import Derived.Test.YtmnmljmbicepjaaGrow
import Derived.Test.YtmnmljmbicepjaaSizeI
import Derived.Test.YtmnmljmbicepjaaCls
namespace Go.Proofs.Ytmnmljmbicepjaa
open Go.RowKit

theorem Try.sizeNW : (Try.prog.info? 60).map (·.size) = some 5 := by kernel_rfl

end Go.Proofs.Ytmnmljmbicepjaa
