/-
  Contracts of impl's nodeFits and PoolOk: when a node and a pool are right.
-/
import Derived.Test.YtgjebgdingahjaaShape
namespace Go.Proofs.Ytgjebgdingahjaa
open Go.RowKit

end Go.Proofs.Ytgjebgdingahjaa
