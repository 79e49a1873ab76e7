/-
  Contracts of spec's l2Node and PoolOk: when a node and a pool are right.
-/
import Derived.Test.YtdlbgdckkjhbdaaNodeFits
namespace Go.Proofs.Ytdlbgdckkjhbdaa
open Go.RowKit

end Go.Proofs.Ytdlbgdckkjhbdaa
