/-
  Contracts of impl's nodeFits and PoolOk: when a node and a pool are right.
-/
import Derived.Test.YtahdinippghlaabShape
namespace Go.Proofs.Ytahdinippghlaab
open Go.RowKit

end Go.Proofs.Ytahdinippghlaab
