/-
  Contracts of spec's l2Node and PoolOk: when a node and a pool are right.
-/
import Derived.Test.YtkoiccocgejmcaaDoorNodeFits
namespace Go.Proofs.YtkoiccocgejmcaaDoor
open Go.RowKit

end Go.Proofs.YtkoiccocgejmcaaDoor
