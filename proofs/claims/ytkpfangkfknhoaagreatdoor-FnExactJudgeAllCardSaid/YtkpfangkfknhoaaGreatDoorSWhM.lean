/-
  Texts that stood by themselves, laid into one.
-/
import Derived.Test.YtkpfangkfknhoaaGreatDoorWhMvM
import Derived.Test.YtkpfangkfknhoaaGreatDoorMRgM
/-
  The region of spec.WhereIs that draws its order. No condition.
-/
namespace Go.Proofs.YtkpfangkfknhoaaGreatDoor
open Go.RowKit
end Go.Proofs.YtkpfangkfknhoaaGreatDoor
