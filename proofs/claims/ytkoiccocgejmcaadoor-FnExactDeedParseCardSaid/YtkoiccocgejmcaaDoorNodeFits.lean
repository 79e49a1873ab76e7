/-
  Contracts of impl's nodeFits and PoolOk: when a node and a pool are right.
-/
import Derived.Test.YtkoiccocgejmcaaDoorShape
namespace Go.Proofs.YtkoiccocgejmcaaDoor
open Go.RowKit

end Go.Proofs.YtkoiccocgejmcaaDoor
