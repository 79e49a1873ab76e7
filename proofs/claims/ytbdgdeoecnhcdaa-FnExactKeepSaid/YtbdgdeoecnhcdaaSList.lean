/-
  Contract of spec's l2List: a list behind the pool that a pointer leads to.
-/
import Derived.Test.YtbdgdeoecnhcdaaSAdd
import Derived.Test.YtbdgdeoecnhcdaaMkList
namespace Go.Proofs.Ytbdgdeoecnhcdaa
open Go.RowKit

end Go.Proofs.Ytbdgdeoecnhcdaa
