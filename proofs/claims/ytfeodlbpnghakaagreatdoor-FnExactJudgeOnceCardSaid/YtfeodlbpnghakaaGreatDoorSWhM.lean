/-
  Texts that stood by themselves, laid into one.
-/
import Derived.Test.YtfeodlbpnghakaaGreatDoorWhMvM
import Derived.Test.YtfeodlbpnghakaaGreatDoorMRgM
/-
  The region of spec.WhereIs that draws its order. No condition.
-/
namespace Go.Proofs.YtfeodlbpnghakaaGreatDoor
open Go.RowKit
end Go.Proofs.YtfeodlbpnghakaaGreatDoor
