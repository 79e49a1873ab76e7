/-
  Texts that stood by themselves, laid into one.
-/
import Derived.Test.YtanhoamdlhaaeaaGreatDoorMachRecM
import Derived.Test.YtanhoamdlhaaeaaGreatDoorLMakeM
import Derived.Test.YtanhoamdlhaaeaaGreatDoorPcM
import Derived.Test.YtanhoamdlhaaeaaGreatDoorPrRegM
import Derived.Test.YtanhoamdlhaaeaaGreatDoorWWM
import Derived.Test.YtanhoamdlhaaeaaGreatDoorMkListM
import Derived.Test.YtanhoamdlhaaeaaGreatDoorShapeM
import Derived.Lib.SliceRun
import Derived.Test.YtanhoamdlhaaeaaGreatDoorMkXM
import Derived.Test.YtanhoamdlhaaeaaGreatDoorPcMarkM
/-
  A machine's variable (VarM), and the contracts of the laws' helpers markMachine and heldMachine. No condition.
-/
namespace Go.Proofs.YtanhoamdlhaaeaaGreatDoor
open Go.RowKit
def VarM (w:World)(b lo hi:Nat)(v:Value)(xs:List Nd)(m:Mc):Prop :=
 w.heap[b]? = some (.cells #[v,.int .i64 m.p,.int .i64 m.s,.int .i64 m.e,.int .i64 m.d,.int .i64 m.t,.int .i64 m.q,.int .i64 m.r] 66 (0,0))/\w.ownsRow lo 176 5 v xs.length (ncs xs)/\(∀ k,v.ownBlock=some k -> k < hi)/\hi <= w.heap.size
structure VarPr (w:World)(b lo hi:Nat)(v vb vo:Value)(i:Int)(xs:List Nd)(m:Mc)(bx ox:List ByteArray):Prop where
 blk:w.heap[b]? = some (.cells #[.int .i64 i,v,.int .i64 m.p,.int .i64 m.s,.int .i64 m.e,.int .i64 m.d,.int .i64 m.t,.int .i64 m.q,.int .i64 m.r,vb,vo] 68 (0,0))
 o1:w.ownsRow lo 176 5 v xs.length (ncs xs)
 o2:w.ownsRow lo 9 1 vb bx.length (stv bx)
 o3:w.ownsRow lo 9 1 vo ox.length (stv ox)
 t1:∀ k,v.ownBlock=some k -> k < hi
 t2:∀ k,vb.ownBlock=some k -> k < hi
 t3:∀ k,vo.ownBlock=some k -> k < hi
 ap:∀ g,vo.ownBlock=some g -> vb.ownBlock ≠ some g
 top:hi <= w.heap.size
section
variable {w w':World} {b lo hi:Nat} {v vb vo:Value} {i:Int} {xs:List Nd} {m:Mc} {bx ox:List ByteArray}
end
def zls (n:Nat):List Value:=(List.replicate n [Value.int .i64 0,.int .i64 0,.slice none 0 0,.int .i64 0,.slice none 0 0]).flatten
structure EW (B:Nat)(w:World)(b:Nat)(y1 y2 y3 vl va vt:Value)(ns:List Nd)(is:List In)(ds:List Df)(pl:Int)(nl na nt:Nat):Prop where
 x:w.heap[b]? = some (.cells #[y1,y2,y3,.int .i64 pl,.slice none 0 0,vl,.slice none 0 0,.slice none 0 0,.int .i64 2,va,vt] 51 (0,0))
 bb:B <= b
 o1:w.ownsRow B 176 5 y1 ns.length (ncs ns)
 o2:w.ownsRow B 163 4 y2 is.length (incs is)
 o3:w.ownsRow B 157 3 y3 ds.length (dfcs ds)
 l:w.ownsRow B 120 5 vl nl (zls nl)
 a:w.ownsRow B 37 1 va na (List.replicate na (.slice none 0 0))
 t:w.ownsRow B 37 1 vt nt (List.replicate nt (.slice none 0 0))
 ap:∀ k,va.ownBlock=some k -> vt.ownBlock ≠ some k
end Go.Proofs.YtanhoamdlhaaeaaGreatDoor
