/-
  Contracts of impl's nodeFits and PoolOk: when a node and a pool are right.
-/
import Derived.Test.YtdlbgdckkjhbdabShape
namespace Go.Proofs.Ytdlbgdckkjhbdab
open Go.RowKit

end Go.Proofs.Ytdlbgdckkjhbdab
