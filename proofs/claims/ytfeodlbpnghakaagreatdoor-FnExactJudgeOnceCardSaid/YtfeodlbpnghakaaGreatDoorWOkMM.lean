/-
  What a right world is; and the contracts of impl's placesFit, hasPlace, isKnown, parkedFits, gramsFit. No condition.
-/
import Derived.Test.YtfeodlbpnghakaaGreatDoorS12tM
import Derived.Test.YtfeodlbpnghakaaGreatDoorMRgM
set_option maxRecDepth 100000
set_option maxHeartbeats 800000
namespace Go.Proofs.YtfeodlbpnghakaaGreatDoor
open Go.RowKit
def hasP (pl a:Int):Bool:=decide (0 <= a) && decide (a < pl)
def knB (g:Gm):Bool:=(decide (0 <= g.n) && decide (g.n <= 100000)) && (decide (g.k=1) || (decide (g.k=2) && g.s.toList.isEmpty))
def gmB (pl:Int)(g:Gm):Bool:=(hasP pl g.f && hasP pl g.t) && knB g
def pdB (pl:Int)(p:Pd):Bool:=hasP pl p.p
def ZdP (pl:Int):Bool:=decide (1 <= pl) && decide (pl <= 3)
theorem Za8 {α:Type}{f:α -> Bool}{a:List α}{k:Nat}{x:α}(h:(a.take k).all f=true)(c:a[k]? = some x)(b:f x=true):(a.take (k+1)).all f=true:=by
 rw [List.take_add_one,c,List.all_append,h]
 simp [b]
theorem Zax {α:Type}{f:α -> Bool}{a:List α}{k:Nat}{x:α}(c:a[k]? = some x)(b:f x=false):a.all f=false:=by
 rw [List.all_eq_false]
 exact ⟨x,List.mem_of_getElem? c,by simp [b]⟩
theorem ZbF {α:Type}{f:α -> Bool}{a:List α}{k:Nat}(h:(a.take k).all f=true)(b:a.length <= k):a.all f=true:=by
 rwa [List.take_of_length_le b] at h
theorem Zkq (a:Int)(w:World):Calls Tryz.prog 92 #[.int .i64 a] w fun e d=>e=.returned (.bool (ZdP a))/\d=w:=by
 by_cases c:1 <= a
 ·have b:Hid (ZdP a=decide (a <= 3)):=by unfold Hid ZdP;simp [c]
  go_enter Tryz.func92,Tryz.ntmps92
  go_wp2
  go_ret
  exact ⟨by rw [b.out];rfl,rfl⟩
 ·have b:Hid (ZdP a=false):=by unfold Hid ZdP;simp [c]
  go_enter Tryz.func92,Tryz.ntmps92
  go_wp2
  go_ret
  exact ⟨by rw [b.out];rfl,rfl⟩
theorem ZbE (j k g c f i l b m:Value)(d:Wd)(a:Int)(w:World) :
  Calls Tryz.prog 126 #[.agg #[j,k,g,.int .i64 d.pl,c,f,i,l,.int .i64 d.nx,b,m],.int .i64 a] w fun e p=>e=.returned (.bool (hasP d.pl a))/\Below w.heap.size w p:=by
 have o:=Zap w (Obj.cells #[j,k,g,.int .i64 d.pl,c,f,i,l,.int .i64 d.nx,b,m] 50)
 have c1:(w.alloc (Obj.cells #[j,k,g,.int .i64 d.pl,c,f,i,l,.int .i64 d.nx,b,m] 50)).cell? ⟨w.heap.size,0+3,none⟩=some (.int .i64 d.pl):=cell_of_row _ _ 3 _ _ _ (heap_alloc_new _ _)
 go_enter Tryz.func126,Tryz.ntmps126
 by_cases h:0 <= a
 ·have n:Hid (hasP d.pl a=decide (a < d.pl)):=by unfold Hid hasP;simp [h]
  go_wp2
  go_ret
  exact ⟨by rw [n.out];rfl,o⟩
 ·have n:Hid (hasP d.pl a=false):=by unfold Hid hasP;simp [h]
  go_wp2
  go_ret
  exact ⟨by rw [n.out];rfl,o⟩
theorem Zf9 (g:Gm)(w:World) :
  Calls Tryz.prog 129 #[.agg #[.int .i64 g.k,.int .i64 g.f,.int .i64 g.t,.int .i64 g.n,.string g.s]] w fun e l=>e=.returned (.bool (knB g))/\Below w.heap.size w l:=by
 have h:=Zap w (Obj.cells #[.int .i64 g.k,.int .i64 g.f,.int .i64 g.t,.int .i64 g.n,.string g.s] 122)
 go_enter Tryz.func129,Tryz.ntmps129
 by_cases o:g.n < 0
 ·have a:Hid (knB g=false):=by unfold Hid knB;simp;omega
  go_wp2
  go_ret
  exact ⟨by rw [a.out];rfl,h⟩
 ·by_cases m:100000 < g.n
  ·have a:Hid (knB g=false):=by unfold Hid knB;simp;omega
   go_wp2
   go_ret
   exact ⟨by rw [a.out];rfl,h⟩
  ·have d:(decide (0 <= g.n) && decide (g.n <= 100000))=true:=by simp;omega
   by_cases b:g.k=1
   ·have a:Hid (knB g=true):=by unfold Hid knB;rw [d];simp [b]
    have i:(g.k == 1)=true:=by simp [b]
    clear b d
    go_wp2
    go_ret
    exact ⟨by rw [a.out];rfl,h⟩
   ·have i:(g.k == 1)=false:=by simp [b]
    by_cases c:g.k=2
    ·have j:(g.k == 2)=true:=by simp [c]
     have a:Hid (knB g=g.s.toList.isEmpty):=by unfold Hid knB;rw [d];simp [c]
     clear c b d
     go_wp2
     go_ret
     exact ⟨by rw [a.out];rfl,h⟩
    ·have j:(g.k == 2)=false:=by simp [c]
     have a:Hid (knB g=false):=by unfold Hid knB;rw [d];simp [b,c]
     clear c b d
     go_wp2
     go_ret
     exact ⟨by rw [a.out];rfl,h⟩
end Go.Proofs.YtfeodlbpnghakaaGreatDoor
