/-
  Contract of spec.MakeList.
-/
import Derived.Test.YtiblpjpmiclohaaSList
import Derived.Test.YtiblpjpmiclohaaListOf
import Derived.Deep.RegionWith
namespace Go.Proofs.Ytiblpjpmiclohaa
open Go.RowKit

end Go.Proofs.Ytiblpjpmiclohaa
