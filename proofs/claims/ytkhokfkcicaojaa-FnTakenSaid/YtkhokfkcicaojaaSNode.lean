/-
  Contracts of spec's l2Node and PoolOk: when a node and a pool are right.
-/
import Derived.Test.YtkhokfkcicaojaaNodeFits
namespace Go.Proofs.Ytkhokfkcicaojaa
open Go.RowKit

end Go.Proofs.Ytkhokfkcicaojaa
