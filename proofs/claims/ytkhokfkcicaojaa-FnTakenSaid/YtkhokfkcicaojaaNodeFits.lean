/-
  Contracts of impl's nodeFits and PoolOk: when a node and a pool are right.
-/
import Derived.Test.YtkhokfkcicaojaaShape
namespace Go.Proofs.Ytkhokfkcicaojaa
open Go.RowKit

end Go.Proofs.Ytkhokfkcicaojaa
