/-
  Contract of spec.MakeList.
-/
import Derived.Test.YtjigbjnahndpiaaSList
import Derived.Test.YtjigbjnahndpiaaListOf
import Derived.Deep.RegionWith
namespace Go.Proofs.Ytjigbjnahndpiaa
open Go.RowKit

end Go.Proofs.Ytjigbjnahndpiaa
