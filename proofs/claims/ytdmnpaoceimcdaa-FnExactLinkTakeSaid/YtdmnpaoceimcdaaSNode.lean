/-
  Contracts of spec's l2Node and PoolOk: when a node and a pool are right.
-/
import Derived.Test.YtdmnpaoceimcdaaNodeFits
namespace Go.Proofs.Ytdmnpaoceimcdaa
open Go.RowKit

end Go.Proofs.Ytdmnpaoceimcdaa
