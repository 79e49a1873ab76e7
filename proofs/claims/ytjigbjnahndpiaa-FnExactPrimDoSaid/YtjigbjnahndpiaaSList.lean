/-
  Contract of spec's l2List: a list behind the pool that a pointer leads to.
-/
import Derived.Test.YtjigbjnahndpiaaSAdd
import Derived.Test.YtjigbjnahndpiaaMkList
namespace Go.Proofs.Ytjigbjnahndpiaa
open Go.RowKit

end Go.Proofs.Ytjigbjnahndpiaa
