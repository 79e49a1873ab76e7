/-
  Texts that stood by themselves, laid into one.
-/
import Derived.Test.YtanhoamdlhaaeaaGreatDoorSAddM
import Derived.Test.YtanhoamdlhaaeaaGreatDoorMkListM
import Derived.Test.YtanhoamdlhaaeaaGreatDoorIReachM
import Derived.Test.YtanhoamdlhaaeaaGreatDoorShapeM
import Derived.OneCell
import Derived.Test.YtanhoamdlhaaeaaGreatDoorMachRecM
import Derived.Test.YtanhoamdlhaaeaaGreatDoorSWireM
import Derived.Deep.CutBlock
import Derived.Deep.CutRange
/-
  Contract of spec's l2List: a list behind the pool that a pointer leads to.
-/
set_option maxHeartbeats 400000
namespace Go.Proofs.YtanhoamdlhaaeaaGreatDoor
open Go.Proofs.Tryz
open Go.RowKit
end Go.Proofs.YtanhoamdlhaaeaaGreatDoor
namespace Go.Proofs.YtanhoamdlhaaeaaGreatDoor
open Go.Proofs.Tryz
open Go.RowKit Go.Maps
def padI (l:List Int)(n:Nat):List Int:=l ++ List.replicate (n - l.length) 0
end Go.Proofs.YtanhoamdlhaaeaaGreatDoor
namespace Go.Proofs.YtanhoamdlhaaeaaGreatDoor
open Go.Proofs.Tryz
open Go.RowKit
def Zlx (xs:List Nd)(k n:Nat):List Int:=ZiF xs k ++ List.replicate (n - k) 0
theorem Zjt (x y:Int)(w:World):Calls prog 123 #[.int .i64 x,.int .i64 y] w fun e b=>e=.returned (.int .i64 (min x y))/\b=w:=by
 by_cases h:x < y
 ·have a:Hid (min x y=x):=by unfold Hid;omega
  go_enter func123,ntmps123
  go_wp2;go_ret;exact ⟨by rw [a.out];rfl,rfl⟩
 ·have a:Hid (min x y=y):=by unfold Hid;omega
  go_enter func123,ntmps123
  go_wp2;go_ret;exact ⟨by rw [a.out];rfl,rfl⟩
theorem ZjR (v:Value)(b:List Nd)(a:Int)(w:World)(R:NRow w v b) :
  Calls prog 119 #[.agg #[v],.int .i64 a] w fun e d=>e=.returned (.bool (hasI b a))/\Below w.heap.size w d:=by
 obtain ⟨f,c,rfl,_,g,_⟩:=R
 go_enter func119,ntmps119
 go_wp2_with fail;refine (Zao _ _ _ _).mono ?_;rintro e i ⟨rfl,rfl⟩;go_wp2;go_ret;refine ⟨retB ?_,(cf _ _).alloc (ce _) _⟩;rw [Bool.eq_iff_iff];simp [hasI];omega
end Go.Proofs.YtanhoamdlhaaeaaGreatDoor
namespace Go.Proofs.YtanhoamdlhaaeaaGreatDoor
open Go.Proofs.Tryz
open Go.RowKit Go.Maps
def nblk (y:Nd):Obj:=.cells #[.int .i64 y.k,.int .i64 y.n,.string y.s,.int .i64 y.a,.int .i64 y.b] 176 (0,0)
end Go.Proofs.YtanhoamdlhaaeaaGreatDoor
