/-
  Contracts of spec's l2Node and PoolOk: when a node and a pool are right.
-/
import Derived.Test.YtgjebgdingahjaaNodeFits
namespace Go.Proofs.Ytgjebgdingahjaa
open Go.RowKit

end Go.Proofs.Ytgjebgdingahjaa
