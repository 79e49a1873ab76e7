/-
  Contract of spec's l1Min.
-/
import Derived.Test.YtgjebgdingahjaaName
namespace Go.Proofs.Ytgjebgdingahjaa
open Go.RowKit

end Go.Proofs.Ytgjebgdingahjaa
