/-
  What a right world is; and the contracts of impl's placesFit, hasPlace, isKnown, parkedFits, gramsFit. No condition.
-/
import Derived.Test.YtkpfangkfknhoaaGreatDoorS12tM
import Derived.Test.YtkpfangkfknhoaaGreatDoorMRgM
set_option maxRecDepth 100000
set_option maxHeartbeats 800000
namespace Go.Proofs.YtkpfangkfknhoaaGreatDoor
open Go.Proofs.Tryz
open Go.RowKit
def hasP (pl a:Int):Bool:=decide (0 <= a) && decide (a < pl)
def knB (g:Gm):Bool:=(decide (0 <= g.n) && decide (g.n <= 100000)) && (decide (g.k=1) || (decide (g.k=2) && g.s.toList.isEmpty))
def gmB (pl:Int)(g:Gm):Bool:=(hasP pl g.f && hasP pl g.t) && knB g
def pdB (pl:Int)(p:Pd):Bool:=hasP pl p.p
def ZbA (pl:Int):Bool:=decide (1 <= pl) && decide (pl <= 3)
theorem Zbb {α:Type}{f:α -> Bool}{a:List α}{k:Nat}{x:α}(h:(a.take k).all f=true)(b:a[k]? = some x)(c:f x=true):(a.take (k+1)).all f=true:=by
 rw [List.take_add_one,b,List.all_append,h];simp [c]
theorem Zay {α:Type}{f:α -> Bool}{a:List α}{k:Nat}{x:α}(b:a[k]? = some x)(c:f x=false):a.all f=false:=by
 rw [List.all_eq_false];exact ⟨x,List.mem_of_getElem? b,by simp [c]⟩
theorem ZbI {α:Type}{f:α -> Bool}{a:List α}{k:Nat}(h:(a.take k).all f=true)(b:a.length <= k):a.all f=true:=by
 rwa [List.take_of_length_le b] at h
theorem ZeQ (a:Int)(w:World):Calls prog 89 #[.int .i64 a] w fun e d=>e=.returned (.bool (ZbA a))/\d=w:=by
 by_cases c:1 <= a
 ·have b:Hid (ZbA a=decide (a <= 3)):=by unfold Hid ZbA;simp [c]
  go_enter func89,ntmps89
  go_wp2;go_ret;exact ⟨by rw [b.out];rfl,rfl⟩
 ·have b:Hid (ZbA a=false):=by unfold Hid ZbA;simp [c]
  go_enter func89,ntmps89
  go_wp2;go_ret;exact ⟨by rw [b.out];rfl,rfl⟩
theorem ZbH (b m f l n i c g j:Value)(d:Wd)(a:Int)(w:World) :
  Calls prog 123 #[.agg #[b,m,f,.int .i64 d.pl,l,n,i,c,.int .i64 d.nx,g,j],.int .i64 a] w fun e p=>e=.returned (.bool (hasP d.pl a))/\Below w.heap.size w p:=by
 have o:=Zap w (Obj.cells #[b,m,f,.int .i64 d.pl,l,n,i,c,.int .i64 d.nx,g,j] 50);have c1:(w.alloc (Obj.cells #[b,m,f,.int .i64 d.pl,l,n,i,c,.int .i64 d.nx,g,j] 50)).cell? ⟨w.heap.size,0+3,none⟩=some (.int .i64 d.pl):=cd _ _ 3 _ _ _ (co _ _)
 go_enter func123,ntmps123
 by_cases h:0 <= a
 ·have k:Hid (hasP d.pl a=decide (a < d.pl)):=by unfold Hid hasP;simp [h]
  go_wp2;go_ret;exact ⟨by rw [k.out];rfl,o⟩
 ·have k:Hid (hasP d.pl a=false):=by unfold Hid hasP;simp [h]
  go_wp2;go_ret;exact ⟨by rw [k.out];rfl,o⟩
theorem Zg1 (g:Gm)(w:World) :
  Calls prog 126 #[.agg #[.int .i64 g.k,.int .i64 g.f,.int .i64 g.t,.int .i64 g.n,.string g.s]] w fun e i=>e=.returned (.bool (knB g))/\Below w.heap.size w i:=by
 have h:=Zap w (Obj.cells #[.int .i64 g.k,.int .i64 g.f,.int .i64 g.t,.int .i64 g.n,.string g.s] 116)
 go_enter func126,ntmps126
 by_cases o:g.n < 0
 ·have a:Hid (knB g=false):=by unfold Hid knB;simp;omega
  go_wp2;go_ret;exact ⟨by rw [a.out];rfl,h⟩
 ·by_cases m:100000 < g.n
  ·have a:Hid (knB g=false):=by unfold Hid knB;simp;omega
   go_wp2;go_ret;exact ⟨by rw [a.out];rfl,h⟩
  ·have c:(decide (0 <= g.n) && decide (g.n <= 100000))=true:=by simp;omega
   by_cases b:g.k=1
   ·have a:Hid (knB g=true):=by unfold Hid knB;rw [c];simp [b]
    have j:(g.k == 1)=true:=by simp [b]
    clear b c;go_wp2;go_ret;exact ⟨by rw [a.out];rfl,h⟩
   ·have j:(g.k == 1)=false:=by simp [b]
    by_cases d:g.k=2
    ·have l:(g.k == 2)=true:=by simp [d]
     have a:Hid (knB g=g.s.toList.isEmpty):=by unfold Hid knB;rw [c];simp [d]
     clear d b c;go_wp2;go_ret;exact ⟨by rw [a.out];rfl,h⟩
    ·have l:(g.k == 2)=false:=by simp [d]
     have a:Hid (knB g=false):=by unfold Hid knB;rw [c];simp [b,d]
     clear d b c;go_wp2;go_ret;exact ⟨by rw [a.out];rfl,h⟩
end Go.Proofs.YtkpfangkfknhoaaGreatDoor
