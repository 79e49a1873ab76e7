/-
  Contracts of impl's nodeFits and PoolOk: when a node and a pool are right.
-/
import Derived.Test.YtdlbgdckkjhbdaaShape
namespace Go.Proofs.Ytdlbgdckkjhbdaa
open Go.RowKit

end Go.Proofs.Ytdlbgdckkjhbdaa
