/-
  Contract of spec's l2List: a list behind the pool that a pointer leads to.
-/
import Derived.Test.YtiblpjpmiclohaaSAdd
import Derived.Test.YtiblpjpmiclohaaMkList
namespace Go.Proofs.Ytiblpjpmiclohaa
open Go.RowKit

end Go.Proofs.Ytiblpjpmiclohaa
