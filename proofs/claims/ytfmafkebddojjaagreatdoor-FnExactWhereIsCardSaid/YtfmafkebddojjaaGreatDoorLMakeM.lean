/-
  The law FnExactMake, walked: at every argument the law returns true.
-/
import Derived.Test.YtfmafkebddojjaaGreatDoorIWire2M
import Derived.Test.YtfmafkebddojjaaGreatDoorBsM
import Derived.Test.YtfmafkebddojjaaGreatDoorInM
import Derived.Deep.CutRange
import Derived.Deep.DeepCutAuto
import Derived.Deep.RegionHeld
namespace Go.Proofs.YtfmafkebddojjaaGreatDoor
open Go.RowKit
def Var (w : World) (b lo hi : Nat) (v : Value) (xs : List Nd) : Prop :=
 w.heap[b]? = some (.cells #[v] 40 (0, 0)) /\ w.ownsRow lo 210 5 v xs.length (ncs xs) /\ (∀ k, v.ownBlock = some k -> k < hi) /\ hi <= w.heap.size
end Go.Proofs.YtfmafkebddojjaaGreatDoor
