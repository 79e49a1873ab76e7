/-
  The law FnExactMake, walked: at every argument the law returns true.
-/
import Derived.Test.YtanhoamdlhaaeaaGreatDoorSWireM
import Derived.Test.YtanhoamdlhaaeaaGreatDoorNodeFitsM
import Derived.Test.YtanhoamdlhaaeaaGreatDoorSubM
import Derived.Deep.CutRange
import Derived.Deep.DeepCutAuto
import Derived.Deep.RegionHeld
namespace Go.Proofs.YtanhoamdlhaaeaaGreatDoor
open Go.RowKit
def Var (w:World)(b lo hi:Nat)(v:Value)(xs:List Nd):Prop :=
 w.heap[b]? = some (.cells #[v] 41 (0,0))/\w.ownsRow lo 176 5 v xs.length (ncs xs)/\(∀ k,v.ownBlock=some k -> k < hi)/\hi <= w.heap.size
end Go.Proofs.YtanhoamdlhaaeaaGreatDoor
