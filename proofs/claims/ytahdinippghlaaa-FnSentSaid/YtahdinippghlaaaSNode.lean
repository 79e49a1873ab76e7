/-
  Contracts of spec's l2Node and PoolOk: when a node and a pool are right.
-/
import Derived.Test.YtahdinippghlaaaNodeFits
namespace Go.Proofs.Ytahdinippghlaaa
open Go.RowKit

end Go.Proofs.Ytahdinippghlaaa
