/-
  The contract of impl.nodeWord: a node that is no pair, as it is written. The table of powers of ten reads as it is laid.
-/
import Derived.Test.YtkoiccocgejmcaaDoorSDig
import Derived.Test.YtkoiccocgejmcaaDoorShelf
import Derived.Lib.AppendIntMem
namespace Go.Proofs.YtkoiccocgejmcaaDoor
open Go.RowKit

/-- The library's table of powers of ten reads as it is laid, whatever is done from B on. -/
def Pow (B : Nat) (w : World) : Prop := Lib.TabBelow Tryd.prog B w "internal/strconv.uint64pow10" .u64 Lib.pow10Tab
theorem Pow.on {B : Nat} {w w' : World} (h : Pow B w) (hb : Below B w w') : Pow B w' := Lib.TabBelow.on h hb

end Go.Proofs.YtkoiccocgejmcaaDoor
