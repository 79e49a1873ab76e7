/-
  Contracts of impl's nodeFits and PoolOk: when a node and a pool are right.
-/
import Derived.Test.YtpkpednemkagiaaShape
namespace Go.Proofs.Ytpkpednemkagiaa
open Go.RowKit

end Go.Proofs.Ytpkpednemkagiaa
