/-
  Contract of spec's l2List: a list behind the pool that a pointer leads to.
-/
import Derived.Test.YtbdgdeoecnhcdabSAdd
import Derived.Test.YtbdgdeoecnhcdabMkList
namespace Go.Proofs.Ytbdgdeoecnhcdab
open Go.RowKit

end Go.Proofs.Ytbdgdeoecnhcdab
