/-
  Contracts of spec's l2Node and PoolOk: when a node and a pool are right.
-/
import Derived.Test.YtllfojddaobpmaaNodeFits
namespace Go.Proofs.Ytllfojddaobpmaa
open Go.RowKit

end Go.Proofs.Ytllfojddaobpmaa
