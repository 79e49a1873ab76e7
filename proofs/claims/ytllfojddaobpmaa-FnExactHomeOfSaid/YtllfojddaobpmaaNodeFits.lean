/-
  Contracts of impl's nodeFits and PoolOk: when a node and a pool are right.
-/
import Derived.Test.YtllfojddaobpmaaShape
namespace Go.Proofs.Ytllfojddaobpmaa
open Go.RowKit

end Go.Proofs.Ytllfojddaobpmaa
