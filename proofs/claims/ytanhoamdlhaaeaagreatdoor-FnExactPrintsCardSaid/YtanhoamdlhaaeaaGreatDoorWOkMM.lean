/-
  What a right world is; and the contracts of impl's placesFit, hasPlace, isKnown, parkedFits, gramsFit. No condition.
-/
import Derived.Test.YtanhoamdlhaaeaaGreatDoorWWM
import Derived.Test.YtanhoamdlhaaeaaGreatDoorPrRegM
set_option maxRecDepth 100000
set_option maxHeartbeats 800000
namespace Go.Proofs.YtanhoamdlhaaeaaGreatDoor
open Go.Proofs.Tryz
open Go.RowKit
def hasP (pl a:Int):Bool:=decide (0 <= a) && decide (a < pl)
def knB (g:Gm):Bool:=(decide (0 <= g.n) && decide (g.n <= 100000)) && (decide (g.k=1) || (decide (g.k=2) && g.s.toList.isEmpty))
def gmB (pl:Int)(g:Gm):Bool:=(hasP pl g.f && hasP pl g.t) && knB g
def pdB (pl:Int)(p:Pd):Bool:=hasP pl p.p
def Zbp (pl:Int):Bool:=decide (1 <= pl) && decide (pl <= 3)
theorem Za5 {α:Type}{f:α -> Bool}{a:List α}{k:Nat}{x:α}(h:(a.take k).all f=true)(c:a[k]? = some x)(b:f x=true):(a.take (k+1)).all f=true:=by
 rw [List.take_add_one,c,List.all_append,h];simp [b]
theorem Zar {α:Type}{f:α -> Bool}{a:List α}{k:Nat}{x:α}(c:a[k]? = some x)(b:f x=false):a.all f=false:=by
 rw [List.all_eq_false];exact ⟨x,List.mem_of_getElem? c,by simp [b]⟩
theorem Zbv {α:Type}{f:α -> Bool}{a:List α}{k:Nat}(h:(a.take k).all f=true)(b:a.length <= k):a.all f=true:=by
 rwa [List.take_of_length_le b] at h
theorem Zeh (a:Int)(w:World):Calls prog 67 #[.int .i64 a] w fun e d=>e=.returned (.bool (Zbp a))/\d=w:=by
 by_cases c:1 <= a
 ·have b:Hid (Zbp a=decide (a <= 3)):=by unfold Hid Zbp;simp [c]
  go_enter func67,ntmps67
  go_wp2;go_ret;exact ⟨by rw [b.out];rfl,rfl⟩
 ·have b:Hid (Zbp a=false):=by unfold Hid Zbp;simp [c]
  go_enter func67,ntmps67
  go_wp2;go_ret;exact ⟨by rw [b.out];rfl,rfl⟩
theorem Zbu (l j f i k g m c n:Value)(d:Wd)(a:Int)(w:World) :
  Calls prog 106 #[.agg #[l,j,f,.int .i64 d.pl,i,k,g,m,.int .i64 d.nx,c,n],.int .i64 a] w fun e p=>e=.returned (.bool (hasP d.pl a))/\Below w.heap.size w p:=by
 have o:=Zaw w (Obj.cells #[l,j,f,.int .i64 d.pl,i,k,g,m,.int .i64 d.nx,c,n] 51);have q:(w.alloc (Obj.cells #[l,j,f,.int .i64 d.pl,i,k,g,m,.int .i64 d.nx,c,n] 51)).cell? ⟨w.heap.size,0+3,none⟩=some (.int .i64 d.pl):=cd _ _ 3 _ _ _ (cg _ _)
 go_enter func106,ntmps106
 by_cases h:0 <= a
 ·have b:Hid (hasP d.pl a=decide (a < d.pl)):=by unfold Hid hasP;simp [h]
  go_wp2;go_ret;exact ⟨by rw [b.out];rfl,o⟩
 ·have b:Hid (hasP d.pl a=false):=by unfold Hid hasP;simp [h]
  go_wp2;go_ret;exact ⟨by rw [b.out];rfl,o⟩
theorem ZfP (g:Gm)(w:World) :
  Calls prog 109 #[.agg #[.int .i64 g.k,.int .i64 g.f,.int .i64 g.t,.int .i64 g.n,.string g.s]] w fun e m=>e=.returned (.bool (knB g))/\Below w.heap.size w m:=by
 have i:=Zaw w (Obj.cells #[.int .i64 g.k,.int .i64 g.f,.int .i64 g.t,.int .i64 g.n,.string g.s] 124)
 go_enter func109,ntmps109
 by_cases o:g.n < 0
 ·have a:Hid (knB g=false):=by unfold Hid knB;simp;omega
  go_wp2;go_ret;exact ⟨by rw [a.out];rfl,i⟩
 ·by_cases p:100000 < g.n
  ·have a:Hid (knB g=false):=by unfold Hid knB;simp;omega
   go_wp2;go_ret;exact ⟨by rw [a.out];rfl,i⟩
  ·have d:(decide (0 <= g.n) && decide (g.n <= 100000))=true:=by simp;omega
   by_cases b:g.k=1
   ·have a:Hid (knB g=true):=by unfold Hid knB;rw [d];simp [b]
    have j:(g.k == 1)=true:=by simp [b]
    clear b d;go_wp2;go_ret;exact ⟨by rw [a.out];rfl,i⟩
   ·have j:(g.k == 1)=false:=by simp [b]
    by_cases c:g.k=2
    ·have l:(g.k == 2)=true:=by simp [c]
     have a:Hid (knB g=g.s.toList.isEmpty):=by unfold Hid knB;rw [d];simp [c]
     clear c b d;go_wp2;go_ret;exact ⟨by rw [a.out];rfl,i⟩
    ·have l:(g.k == 2)=false:=by simp [c]
     have a:Hid (knB g=false):=by unfold Hid knB;rw [d];simp [b,c]
     clear c b d;go_wp2;go_ret;exact ⟨by rw [a.out];rfl,i⟩
end Go.Proofs.YtanhoamdlhaaeaaGreatDoor
