/-
  Contracts of spec's l2Node and PoolOk: when a node and a pool are right.
-/
import Derived.Test.YtdlbgdckkjhbdabNodeFits
namespace Go.Proofs.Ytdlbgdckkjhbdab
open Go.RowKit

end Go.Proofs.Ytdlbgdckkjhbdab
