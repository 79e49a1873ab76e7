/-
  Contracts of impl's nodeFits and PoolOk: when a node and a pool are right.
-/
import Derived.Test.YtahdinippghlaaaShape
namespace Go.Proofs.Ytahdinippghlaaa
open Go.RowKit

end Go.Proofs.Ytahdinippghlaaa
