/-
  The law FnExactMake, walked: at every argument the law returns true.
-/
import Derived.Test.YtfmafkebddojjaaGreatDoorIWire2M
import Derived.Test.YtfmafkebddojjaaGreatDoorBsM
import Derived.Test.YtfmafkebddojjaaGreatDoorInM
import Derived.Deep.CutRange
import Derived.Deep.DeepCutAuto
import Derived.Deep.RegionHeld
namespace Go.Proofs.YtfmafkebddojjaaGreatDoor
open Go.RowKit
end Go.Proofs.YtfmafkebddojjaaGreatDoor
