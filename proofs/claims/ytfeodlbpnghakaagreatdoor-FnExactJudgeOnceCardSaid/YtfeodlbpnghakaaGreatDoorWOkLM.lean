/-
  Texts that stood by themselves, laid into one.
-/
import Derived.Test.YtfeodlbpnghakaaGreatDoorLinkM
import Derived.Test.YtfeodlbpnghakaaGreatDoorSIntoM
import Derived.Test.YtfeodlbpnghakaaGreatDoorWOkRM
/-
  Contracts of impl's windowEnd, heldFits and LinkOk, and of spec's LinkOk: which links are right. No condition.
-/
set_option maxRecDepth 100000
set_option maxHeartbeats 6400000
namespace Go.Proofs.YtfeodlbpnghakaaGreatDoor
open Go.RowKit
def ZbP (e:Int):Int -> List Pc -> Bool
 | _,[]=>true
 | last,p :: ps=>decide (last < p.n) && (decide (p.n < e) && ZbP e p.n ps)
def lend (l:Lk):Int:=if l.got+4 <= l.sent then l.got+4 else l.sent
def Zbi (l:Lk):Bool :=
 decide (0 <= l.acked/\l.acked <= l.got/\l.got <= l.sent/\l.sent <= 100000/\(l.q.length:Int)=l.sent - l.acked/\l.q.length <= 30) && ZbP (lend l) l.got l.h
theorem Zbh {l:Lk}(h:Zbi l=true):0 <= l.acked/\l.acked <= l.got/\l.got <= l.sent/\l.sent <= 100000/\(l.q.length:Int)=l.sent - l.acked/\l.q.length <= 30:=by
 unfold Zbi at h
 simp only [Bool.and_eq_true,decide_eq_true_eq] at h
 exact h.1
theorem ZaR {l:Lk}(h:¬ (0 <= l.acked/\l.acked <= l.got/\l.got <= l.sent/\l.sent <= 100000/\(l.q.length:Int)=l.sent - l.acked/\l.q.length <= 30)):Zbi l=false:=by
 unfold Zbi
 rw [decide_eq_false h]
 rfl
theorem Zd4 {l:Lk}(h:0 <= l.acked/\l.acked <= l.got/\l.got <= l.sent/\l.sent <= 100000/\(l.q.length:Int)=l.sent - l.acked/\l.q.length <= 30):Zbi l=ZbP (lend l) l.got l.h:=by
 unfold Zbi
 rw [decide_eq_true h]
 rfl
theorem Zf8 (f g:Value)(l:Lk)(w:World)(n:0 <= l.got)(m:l.got <= l.sent)(o:l.sent <= 100000)(h:Option Addr)(n1 c1:Nat)(i:f=.slice h n1 c1)(d:Option Addr)(n2 c2:Nat)(j:g=.slice d n2 c2) :
  Calls Tryz.prog 191 #[.agg #[.int .i64 l.sent,.int .i64 l.acked,f,.int .i64 l.got,g]] w fun e k=>e=.returned (.int .i64 (lend l))/\Below w.heap.size w k:=by
 subst i j
 have b:Below w.heap.size w (w.alloc (Obj.cells #[.int .i64 l.sent,.int .i64 l.acked,.slice h n1 c1,.int .i64 l.got,.slice d n2 c2] 70)):=(Below.refl _ _).alloc (Nat.le_refl _) _
 by_cases a:l.got+4 <= l.sent
 ·have c:Hid (lend l=l.got+4):=by unfold Hid lend;rw [if_pos a]
  go_enter Tryz.func191,Tryz.ntmps191
  go_wp2
  go_ret
  exact ⟨by rw [c.out];rfl,b⟩
 ·have c:Hid (lend l=l.sent):=by unfold Hid lend;rw [if_neg a]
  go_enter Tryz.func191,Tryz.ntmps191
  go_wp2
  go_ret
  exact ⟨by rw [c.out];rfl,b⟩
theorem Zem {e z:Int}{h:List Pc}{j:Nat}{x:Pc}(b:h[j]? = some x):ZbP e z (h.drop j)=(decide (z < x.n) && (decide (x.n < e) && ZbP e x.n (h.drop (j+1)))):=by
 obtain ⟨a,rfl⟩:=List.getElem?_eq_some_iff.1 b
 rw [List.drop_eq_getElem_cons a]
 rfl
theorem Zfa {e z:Int}{h:List Pc}:ZbP e z (h.drop h.length)=true:=by rw [List.drop_length];rfl
theorem ZeI (J K:Value)(l:Lk)(w:World)(O:0 <= l.got)(Q:l.got <= l.sent)(S:l.sent <= 100000)(u:Option Addr)(n1 c1:Nat)(M:J=.slice u n1 c1)(R:PcRow w K l.h) :
  Calls Tryz.prog 158 #[.agg #[.int .i64 l.sent,.int .i64 l.acked,J,.int .i64 l.got,K]] w fun e U=>e=.returned (.bool (ZbP (lend l) l.got l.h))/\Below w.heap.size w U:=by
 subst M
 obtain ⟨v,c2,rfl,L,Z,X,a⟩:=R
 have t:Below w.heap.size w (w.alloc (Obj.cells #[.int .i64 l.sent,.int .i64 l.acked,.slice u n1 c1,.int .i64 l.got,.slice v l.h.length c2] 70)):=(Below.refl _ _).alloc (Nat.le_refl _) _
 have I:=fun w=>Zf8 (.slice u n1 c1) (.slice v l.h.length c2) l w O Q S u n1 c1 rfl v l.h.length c2 rfl
 obtain ⟨r,y⟩:∃ r,ZbP (lend l) l.got l.h=r:=⟨_,rfl⟩
 rw [y]
 generalize lend l=E at I y
 have H:Hid (ZbP E l.got l.h=r):=y
 clear y
 go_enter Tryz.func158,Tryz.ntmps158
 go_wp2_with fail
 go_region_with (go_at_call 191;refine (I _).mono ?_;rintro e k ⟨rfl,f⟩;have b:k.heap[w.heap.size]? = some (.cells #[.int .i64 l.sent,.int .i64 l.acked,.slice u n1 c1,.int .i64 l.got,.slice v l.h.length c2] 70 (0,0)):=(f.block _ (by simp)).trans (heap_alloc_new _ _);have B:k.cell? ⟨w.heap.size,0+3,none⟩=some (.int .i64 l.got):=by rw [cell_of_row k _ 3 _ _ _ b];rfl)
 all_goals
  have m:Below w.heap.size w k:=t.drew.trans (f.mono (by simp))
  have G:k.cell? ⟨w.heap.size,0+4,none⟩=some (.slice v l.h.length c2):=by rw [cell_of_row k _ 4 _ _ _ b];rfl
  clear f
  go_wp2
  go_loopw [3,14] (fun q i wr=>∃ (j:Nat) (z:Int),j <= l.h.length/\i=.int .i64 j/\q=.int .i64 z/\Hid (ZbP E l.got l.h=ZbP E z (l.h.drop j))/\Below w.heap.size w wr) (fun _ i _=>l.h.length - (intOf i).toNat)
  case atStart=>exact ⟨0,l.got,by omega,rfl,rfl,rfl,m⟩
  case round =>
   clear b B G m t
   obtain ⟨j,z,W,rfl,rfl,C,A⟩:=hrel
   by_cases d:j < l.h.length
   ·obtain ⟨g,o,rfl,T,a⟩:=a (by intro e;rw [e] at d;simp at d)
    obtain ⟨x,F⟩:∃ x,l.h[j]? = some x:=⟨l.h[j],by simp [d]⟩
    obtain ⟨Y,V⟩:=(a j x F).below A T
    have D:Hid (ZbP E l.got l.h=(decide (z < x.n) && (decide (x.n < E) && ZbP E x.n (l.h.drop (j+1))))):=by unfold Hid;rw [C.out,Zem F]
    clear a C F
    have c:=A.alloc A.size (Obj.cells #[.int .i64 x.n,.string x.s] 120)
    by_cases N:x.n <= z
    ·go_wp2
     go_ret
     exact ⟨retB (by rw [<- H.out,D.out,decide_eq_false (p:=z < x.n) (by omega)];rfl),c⟩
    ·by_cases P:E <= x.n
     ·go_wp2
      go_ret
      exact ⟨retB (by rw [<- H.out,D.out,decide_eq_false (p:=x.n < E) (by omega),Bool.false_and,Bool.and_false]),c⟩
     ·go_wp2
      go_roundw
      case rel=>exact ⟨j+1,x.n,by omega,by go_num,rfl,by unfold Hid;rw [D.out,decide_eq_true (p:=z < x.n) (by omega),decide_eq_true (p:=x.n < E) (by omega),Bool.true_and,Bool.true_and],c⟩
      case measure=>simp [intOf];omega
   ·go_wp2
    go_ret
    have:j=l.h.length:=by omega
    subst this
    exact ⟨retB (by rw [<- H.out,C.out,Zfa]),A⟩
theorem ZbT (k p:Value)(l:Lk)(w:World)(o:StRow w k l.q)(m:PcRow w p l.h) :
  Calls Tryz.prog 128 #[.agg #[.int .i64 l.sent,.int .i64 l.acked,k,.int .i64 l.got,p]] w fun e t=>e=.returned (.bool (Zbi l))/\Below w.heap.size w t:=by
 obtain ⟨n,c1,rfl⟩:=o.small
 obtain ⟨v,c2,rfl⟩:=m.small
 have y:=o.le
 have a:Below w.heap.size w (w.alloc (Obj.cells #[.int .i64 l.sent,.int .i64 l.acked,.slice n l.q.length c1,.int .i64 l.got,.slice v l.h.length c2] 70)):=(Below.refl _ _).alloc (Nat.le_refl _) _
 by_cases s:0 <= l.acked
 rotate_left
 ·have b:Hid (Zbi l=false):=ZaR (by omega)
  go_enter Tryz.func128,Tryz.ntmps128
  go_wp2
  go_ret
  exact ⟨retB b.out.symm,a⟩
 by_cases x:l.acked <= l.got
 rotate_left
 ·have b:Hid (Zbi l=false):=ZaR (by omega)
  go_enter Tryz.func128,Tryz.ntmps128
  go_wp2
  go_ret
  exact ⟨retB b.out.symm,a⟩
 by_cases i:l.got <= l.sent
 rotate_left
 ·have b:Hid (Zbi l=false):=ZaR (by omega)
  go_enter Tryz.func128,Tryz.ntmps128
  go_wp2
  go_ret
  exact ⟨retB b.out.symm,a⟩
 by_cases j:l.sent <= 100000
 rotate_left
 ·have b:Hid (Zbi l=false):=ZaR (by omega)
  go_enter Tryz.func128,Tryz.ntmps128
  go_wp2
  go_ret
  exact ⟨retB b.out.symm,a⟩
 by_cases c:(l.q.length:Int)=l.sent - l.acked
 rotate_left
 ·have b:Hid (Zbi l=false):=ZaR (by omega)
  have c5:((l.q.length:Int) == l.sent - l.acked)=false:=by simpa using c
  go_enter Tryz.func128,Tryz.ntmps128
  go_wp2
  go_ret
  exact ⟨retB b.out.symm,a⟩
 have c5:((l.q.length:Int) == l.sent - l.acked)=true:=by simpa using c
 by_cases u:l.q.length <= 30
 rotate_left
 ·have b:Hid (Zbi l=false):=ZaR (by omega)
  have f:¬ (l.q.length:Int) <= 30:=by omega
  have A:Hid ((l.q.length:Int)=l.sent - l.acked):=c
  clear c
  go_enter Tryz.func128,Tryz.ntmps128
  go_wp2
  go_ret
  exact ⟨retB b.out.symm,a⟩
 have b:Hid (Zbi l=ZbP (lend l) l.got l.h):=Zd4 ⟨s,x,i,j,c,u⟩
 have f:(l.q.length:Int) <= 30:=by omega
 clear c
 go_enter Tryz.func128,Tryz.ntmps128
 go_wp2_with fail
 refine (ZeI _ _ l _ (by omega) i j n l.q.length c1 rfl (m.below a)).mono ?_
 rintro e z ⟨rfl,d⟩
 have g:=a.trans (d.mono a.size)
 generalize ZbP (lend l) l.got l.h=r at *
 clear d a
 cases r
 all_goals
  go_wp2
  go_ret
  exact ⟨retB b.out.symm,g⟩
theorem ZjS (l:Lk)(w:World):Calls Tryz.prog 116 #[.int .i64 (l.got+4),.int .i64 l.sent] w fun e a=>e=.returned (.int .i64 (lend l))/\a=w:=by
 refine (ZkZ _ _ _).mono ?_
 rintro e a ⟨rfl,rfl⟩
 refine ⟨?_,rfl⟩
 have:min (l.got+4) l.sent=lend l:=by unfold lend;split <;> omega
 rw [this]
theorem Zc4 (x a b:Int)(r:Bool)(h:(decide (a <= x) && decide (x <= b))=r)(w:World):Calls Tryz.prog 40 #[.int .i64 x,.int .i64 a,.int .i64 b] w fun e c=>e=.returned (.bool r)/\c=w:=by
 rw [<- h]
 exact Zar x a b w
theorem Zhe {x a b:Int}(h:a <= x/\x <= b):(decide (a <= x) && decide (x <= b))=true:=by simp [h.1,h.2]
theorem Zkb {x a b:Int}(h:¬ (a <= x/\x <= b)):(decide (a <= x) && decide (x <= b))=false:=by
 rw [Bool.eq_false_iff]
 intro e
 simp only [Bool.and_eq_true,decide_eq_true_eq] at e
 exact h e
theorem ZbS (v1 v2:Value)(l:Lk)(w:World)(R1:StRow w v1 l.q)(R2:PcRow w v2 l.h) :
  Calls Tryz.prog 80 #[.agg #[.int .i64 l.sent,.int .i64 l.acked,v1,.int .i64 l.got,v2]] w fun e w'=>e=.returned (.bool (Zbi l))/\Below w.heap.size w w':=by
 obtain ⟨a1,c1,rfl⟩:=R1.small
 have hq:=R1.le
 obtain ⟨a2,c2,rfl,aj,hm,hz,a⟩:=R2
 have d:Below w.heap.size w (w.alloc (Obj.cells #[.int .i64 l.sent,.int .i64 l.acked,.slice a1 l.q.length c1,.int .i64 l.got,.slice a2 l.h.length c2] 70)):=(Below.refl _ _).alloc (Nat.le_refl _) _
 by_cases F:0 <= l.sent/\l.sent <= 100000
 rotate_left
 ·have c:Hid (Zbi l=false):=ZaR (by omega)
  have y:=Zc4 l.sent 0 100000 false (Zkb F)
  go_enter Tryz.func80,Tryz.ntmps80
  go_wp2_with fail
  refine (y _).mono ?_
  rintro e f ⟨rfl,rfl⟩
  go_wp2
  go_ret
  exact ⟨retB c.out.symm,d⟩
 have y:=Zc4 l.sent 0 100000 true (Zhe F)
 by_cases H:0 <= l.got/\l.got <= l.sent
 rotate_left
 ·have c:Hid (Zbi l=false):=ZaR (by omega)
  have C:=Zc4 l.got 0 l.sent false (Zkb H)
  go_enter Tryz.func80,Tryz.ntmps80
  go_wp2_with fail
  refine (y _).mono ?_
  rintro e f ⟨rfl,rfl⟩
  go_wp2_with fail
  refine (C _).mono ?_
  rintro e f ⟨rfl,rfl⟩
  go_wp2
  go_ret
  exact ⟨retB c.out.symm,d⟩
 have C:=Zc4 l.got 0 l.sent true (Zhe H)
 by_cases A:0 <= l.acked/\l.acked <= l.got
 rotate_left
 ·have c:Hid (Zbi l=false):=ZaR (by omega)
  have I:=Zc4 l.acked 0 l.got false (Zkb A)
  go_enter Tryz.func80,Tryz.ntmps80
  go_wp2_with fail
  refine (y _).mono ?_
  rintro e f ⟨rfl,rfl⟩
  go_wp2_with fail
  refine (C _).mono ?_
  rintro e f ⟨rfl,rfl⟩
  go_wp2_with fail
  refine (I _).mono ?_
  rintro e f ⟨rfl,rfl⟩
  go_wp2
  go_ret
  exact ⟨retB c.out.symm,d⟩
 have I:=Zc4 l.acked 0 l.got true (Zhe A)
 by_cases O:(l.q.length:Int)=l.sent - l.acked
 rotate_left
 ·have c:Hid (Zbi l=false):=ZaR (by omega)
  have c5:((l.q.length:Int) != l.sent - l.acked)=true:=by simpa using O
  go_enter Tryz.func80,Tryz.ntmps80
  go_wp2_with fail
  refine (y _).mono ?_
  rintro e f ⟨rfl,rfl⟩
  go_wp2_with fail
  refine (C _).mono ?_
  rintro e f ⟨rfl,rfl⟩
  go_wp2_with fail
  refine (I _).mono ?_
  rintro e f ⟨rfl,rfl⟩
  obtain ⟨W,aa⟩:=F
  obtain ⟨ab,Y⟩:=H
  obtain ⟨L,K⟩:=A
  go_wp2
  go_ret
  exact ⟨retB c.out.symm,d⟩
 have c5:((l.q.length:Int) != l.sent - l.acked)=false:=by simpa using O
 by_cases i6:l.q.length <= 30
 rotate_left
 ·have c:Hid (Zbi l=false):=ZaR (by omega)
  have ai:30 < (l.q.length:Int):=by omega
  clear O
  go_enter Tryz.func80,Tryz.ntmps80
  go_wp2_with fail
  refine (y _).mono ?_
  rintro e f ⟨rfl,rfl⟩
  go_wp2_with fail
  refine (C _).mono ?_
  rintro e f ⟨rfl,rfl⟩
  go_wp2_with fail
  refine (I _).mono ?_
  rintro e f ⟨rfl,rfl⟩
  obtain ⟨W,aa⟩:=F
  obtain ⟨ab,Y⟩:=H
  obtain ⟨L,K⟩:=A
  go_wp2
  go_ret
  exact ⟨retB c.out.symm,d⟩
 have c:Hid (Zbi l=ZbP (lend l) l.got l.h):=Zd4 ⟨A.1,A.2,H.2,F.2,O,i6⟩
 have ai:¬ 30 < (l.q.length:Int):=by omega
 clear O
 obtain ⟨W,aa⟩:=F
 obtain ⟨ab,Y⟩:=H
 obtain ⟨L,K⟩:=A
 have Z:=ZjS l
 have hE:0 <= lend l/\lend l <= 100000:=by unfold lend;split <;> omega
 obtain ⟨r,hr⟩:∃ r,Zbi l=r:=⟨_,rfl⟩
 rw [hr]
 rw [hr] at c
 clear hr
 generalize lend l=E at Z c hE
 obtain ⟨ak,al⟩:=hE
 have W1:IntKind.i64.wrap (l.got+4)=l.got+4:=by rw [IntKind.wrap_i64];omega
 have W2:IntKind.i64.wrap (l.got+1)=l.got+1:=by rw [IntKind.wrap_i64];omega
 have W3:IntKind.i64.wrap (E - 1)=E - 1:=by rw [IntKind.wrap_i64];omega
 go_enter Tryz.func80,Tryz.ntmps80
 go_wp2_with fail
 refine (y _).mono ?_
 rintro e f ⟨rfl,rfl⟩
 go_wp2_with fail
 refine (C _).mono ?_
 rintro e f ⟨rfl,rfl⟩
 go_wp2_with fail
 refine (I _).mono ?_
 rintro e f ⟨rfl,rfl⟩
 have k:=heap_alloc_new w (Obj.cells #[.int .i64 l.sent,.int .i64 l.acked,.slice a1 l.q.length c1,.int .i64 l.got,.slice a2 l.h.length c2] 70)
 generalize V:w.alloc (Obj.cells #[.int .i64 l.sent,.int .i64 l.acked,.slice a1 l.q.length c1,.int .i64 l.got,.slice a2 l.h.length c2] 70)=b at *
 have S:b.cell? ⟨w.heap.size,0,none⟩=some (.int .i64 l.sent):=by rw [cell_of_row b _ 0 _ _ _ k];rfl
 have af:b.cell? ⟨w.heap.size,0+1,none⟩=some (.int .i64 l.acked):=by rw [cell_of_row b _ 1 _ _ _ k];rfl
 have ae:b.cell? ⟨w.heap.size,0+2,none⟩=some (.slice a1 l.q.length c1):=by rw [cell_of_row b _ 2 _ _ _ k];rfl
 have P:b.cell? ⟨w.heap.size,0+3,none⟩=some (.int .i64 l.got):=by rw [cell_of_row b _ 3 _ _ _ k];rfl
 have J:b.cell? ⟨w.heap.size,0+4,none⟩=some (.slice a2 l.h.length c2):=by rw [cell_of_row b _ 4 _ _ _ k];rfl
 have HW:Hid (b.heap.size=w.heap.size+1):=by unfold Hid;rw [<- V];simp
 clear k V y C I
 go_wp2
 go_loopw [3] (fun i wr=>∃ (j:Nat) (z:Int),j <= l.h.length/\i=.int .i64 j/\l.got <= z/\(j=0 -> z=l.got)/\Hid (∀ s,j=s+1 -> ∃ x,l.h[s]? = some x/\x.n=z)/\Hid (ZbP E l.got l.h=ZbP E z (l.h.drop j))/\Below b.heap.size b wr) (fun i _=>l.h.length - (intOf i).toNat)
 case atStart=>exact ⟨0,l.got,by omega,rfl,by omega,fun _=>rfl,fun s e=>by omega,rfl,Below.refl _ _⟩
 case round =>
  obtain ⟨j,z,hj,rfl,ao,B,HJ,X,t⟩:=hrel
  have u:w.heap.size < b.heap.size:=by have:=HW.out;omega
  have v:Below w.heap.size w wr:=d.trans (t.mono d.size)
  replace S:=(t.cell (p:=⟨w.heap.size,0,none⟩) u).trans S
  replace P:=(t.cell (p:=⟨w.heap.size,0+3,none⟩) u).trans P
  replace J:=(t.cell (p:=⟨w.heap.size,0+4,none⟩) u).trans J
  clear af ae
  have dn:∀ m,Below b.heap.size b (wr.drewN m):=fun m=>t.trans ⟨rfl,rfl,rfl,Nat.le_refl _,fun _ _=>rfl⟩
  have dN:∀ m,Below w.heap.size w (wr.drewN m):=fun m=>v.trans ⟨rfl,rfl,rfl,Nat.le_refl _,fun _ _=>rfl⟩
  clear u
  by_cases D:j < l.h.length
  ·obtain ⟨g,o,rfl,hg,a⟩:=a (by intro e;rw [e] at D;simp at D)
   obtain ⟨x,G⟩:∃ x,l.h[j]? = some x:=⟨l.h[j],by simp [D]⟩
   obtain ⟨k0,_⟩:=(a j x G).below v hg
   have HC:Hid (ZbP E l.got l.h=(decide (z < x.n) && (decide (x.n < E) && ZbP E x.n (l.h.drop (j+1))))):=by unfold Hid;rw [X.out,Zem G]
   have HX:Hid (l.h[j]? = some x):=G
   by_cases Q:l.got+1 <= x.n/\x.n <= E - 1
   ·have R:=Zc4 x.n (l.got+1) (E - 1) true (Zhe Q)
    by_cases M:j=0
    ·have am:=B M
     subst M
     clear a X G
     simp only [Nat.zero_mul,Nat.add_zero] at k0
     have g0:(decide ((0:Int) < 0))=false:=by decide
     go_wp2
     go_quiet (first | (go_at_call 116;refine Calls.quiet_of_same (Z _)) | (go_at_call 40;refine Calls.quiet_of_same (R _)))
     go_wp2
     go_roundw
     case rel=>exact ⟨1,x.n,by omega,by go_num,by omega,fun e=>by omega,fun s e=>⟨x,by rw [<- HX.out];congr 1;omega,rfl⟩,by unfold Hid;rw [HC.out,decide_eq_true (p:=z < x.n) (by omega),decide_eq_true (p:=x.n < E) (by omega),Bool.true_and,Bool.true_and],dn _⟩
     case measure=>simp [intOf];omega
    ·obtain ⟨s,N⟩:∃ s,j=s+1:=⟨j - 1,by omega⟩
     obtain ⟨x',T,U⟩:=HJ.out s N
     obtain ⟨d0,_⟩:=(a s x' T).below v hg
     rw [U] at d0
     have ad:(j:Int) - 1=(s:Int):=by omega
     have an:s < l.h.length:=by omega
     have ag:(0:Int) < (j:Int):=by omega
     have ap:decide ((0:Int) < (j:Int))=true:=by simpa using ag
     have aq:0 < j:=by omega
     have W4:IntKind.i64.wrap ((j:Int) - 1)=(s:Int):=by rw [ad,IntKind.wrap_i64];omega
     clear a X G HJ B T U N
     by_cases ac:x.n <= z
     ·go_wp2
      go_quiet (first | (go_at_call 116;refine Calls.quiet_of_same (Z _)) | (go_at_call 40;refine Calls.quiet_of_same (R _)))
      go_wp2
      go_ret
      exact ⟨retB (by rw [c.out,HC.out,decide_eq_false (p:=z < x.n) (by omega)];rfl),dN _⟩
     ·go_wp2
      go_quiet (first | (go_at_call 116;refine Calls.quiet_of_same (Z _)) | (go_at_call 40;refine Calls.quiet_of_same (R _)))
      go_wp2
      go_roundw
      case rel=>exact ⟨j+1,x.n,by omega,by go_num,by omega,fun e=>by omega,fun s e=>⟨x,by rw [<- HX.out];congr 1;omega,rfl⟩,by unfold Hid;rw [HC.out,decide_eq_true (p:=z < x.n) (by omega),decide_eq_true (p:=x.n < E) (by omega),Bool.true_and,Bool.true_and],dn _⟩
      case measure=>simp [intOf];omega
   ·have R:=Zc4 x.n (l.got+1) (E - 1) false (Zkb Q)
    clear a X G HJ B
    go_wp2
    go_quiet (first | (go_at_call 116;refine Calls.quiet_of_same (Z _)) | (go_at_call 40;refine Calls.quiet_of_same (R _)))
    go_wp2
    go_ret
    refine ⟨retB ?_,dN _⟩
    rw [c.out,HC.out]
    by_cases ah:z < x.n
    ·rw [decide_eq_false (p:=x.n < E) (by omega),Bool.false_and,Bool.and_false]
    ·rw [decide_eq_false ah,Bool.false_and]
  ·go_wp2
   go_ret
   have:j=l.h.length:=by omega
   subst this
   exact ⟨retB (by rw [c.out,X.out,Zfa]),v⟩
def lkB (ga tk:List (List ByteArray))(p:Lk × Nat):Bool:=Zbi p.1 && (decide (((ga.getD p.2 []).length:Int)=p.1.sent) && decide (((tk.getD p.2 []).length:Int)=p.1.got))
def lksB (d:Wd):Bool:=(decide ((d.ls.length:Int)=d.pl * d.pl) && (decide ((d.ga.length:Int)=d.pl * d.pl) && decide ((d.tk.length:Int)=d.pl * d.pl))) && d.ls.zipIdx.all (lkB d.ga d.tk)
theorem Zla {α:Type}{a:List α}{k:Nat}{x:α}(h:a[k]? = some x):a.zipIdx[k]? = some (x,k):=by
 rw [List.getElem?_zipIdx,h]
 simp
theorem ZjP {α:Type}(a:List α):a.zipIdx.length=a.length:=by simp
theorem Zlh (vn vi vf vh vl vg vp va vt:Value)(d:Wd)(B:Nat)(w:World)(R:WR B w vn vi vf vh vl vg vp va vt d)(aH:1 <= d.pl)(aF:d.pl <= 3) :
  Calls Tryz.prog 94 #[.agg #[vn,vi,vf,.int .i64 d.pl,vh,vl,vg,vp,.int .i64 d.nx,va,vt]] w fun e w'=>e=.returned (.bool (lksB d))/\Below w.heap.size w w':=by
 have R0:=R
 obtain ⟨⟨o,s,rfl⟩,⟨C,j,rfl⟩,⟨u,A,rfl⟩,⟨r,H,rfl⟩,⟨Y,n,rfl⟩,⟨z,G,rfl⟩,⟨F,D,rfl⟩,⟨T,E,rfl⟩,⟨X,m,rfl⟩⟩:=R.form
 have O:=Zap w (Obj.cells #[.slice o d.ns.length s,.slice C d.is.length j,.slice u d.ds.length A,.int .i64 d.pl,.slice r d.hs.length H,.slice Y d.ls.length n,.slice z d.gs.length G,.slice F d.ps.length D,.int .i64 d.nx,.slice T d.ga.length E,.slice X d.tk.length m] 50)
 have ab:=heap_alloc_new w (Obj.cells #[.slice o d.ns.length s,.slice C d.is.length j,.slice u d.ds.length A,.int .i64 d.pl,.slice r d.hs.length H,.slice Y d.ls.length n,.slice z d.gs.length G,.slice F d.ps.length D,.int .i64 d.nx,.slice T d.ga.length E,.slice X d.tk.length m] 50)
 obtain ⟨q,hq⟩:∃ q:Nat,(q:Int)=d.pl * d.pl:=by
  have K:d.pl=1 \/ d.pl=2 \/ d.pl=3:=by omega
  rcases K with h | h | h
  ·exact ⟨1,by rw [h];rfl⟩
  ·exact ⟨4,by rw [h];rfl⟩
  ·exact ⟨9,by rw [h];rfl⟩
 have aD:q <= 9:=by
  have K:d.pl=1 \/ d.pl=2 \/ d.pl=3:=by omega
  rcases K with h | h | h <;> rw [h] at hq <;> omega
 have ar:d.pl * d.pl=(q:Int):=hq.symm
 have HL:Hid (lksB d=((decide ((d.ls.length:Int)=(q:Int)) && (decide ((d.ga.length:Int)=(q:Int)) && decide ((d.tk.length:Int)=(q:Int)))) && d.ls.zipIdx.all (lkB d.ga d.tk))):=by unfold Hid lksB;rw [ar]
 clear hq
 have c3:(w.alloc (Obj.cells #[.slice o d.ns.length s,.slice C d.is.length j,.slice u d.ds.length A,.int .i64 d.pl,.slice r d.hs.length H,.slice Y d.ls.length n,.slice z d.gs.length G,.slice F d.ps.length D,.int .i64 d.nx,.slice T d.ga.length E,.slice X d.tk.length m] 50)).cell? ⟨w.heap.size,0+3,none⟩=some (.int .i64 d.pl):=cell_of_row _ _ 3 _ _ _ ab
 go_enter Tryz.func94,Tryz.ntmps94
 by_cases J:d.ls.length=q
 ·by_cases Q:d.ga.length=q
  ·by_cases K:d.tk.length=q
   ·have S:Hid (lksB d=d.ls.zipIdx.all (lkB d.ga d.tk)):=by unfold Hid;rw [HL.out];simp [J,Q,K]
    have n1:((d.ls.length:Int) != (q:Int))=false:=by simp [J]
    have n2:((d.ga.length:Int) != (q:Int))=false:=by simp [Q]
    have n3:((d.tk.length:Int) != (q:Int))=false:=by simp [K]
    replace J:Hid (d.ls.length=q):=J
    replace Q:Hid (d.ga.length=q):=Q
    replace K:Hid (d.tk.length=q):=K
    clear HL
    go_wp2_with fail
    generalize w.alloc (Obj.cells #[.slice o d.ns.length s,.slice C d.is.length j,.slice u d.ds.length A,.int .i64 d.pl,.slice r d.hs.length H,.slice Y d.ls.length n,.slice z d.gs.length G,.slice F d.ps.length D,.int .i64 d.nx,.slice T d.ga.length E,.slice X d.tk.length m] 50)=w0 at *
    have aB:=Zao ab
    obtain ⟨aE,az,am,_,_,c⟩:=R0.rl
    obtain ⟨aC,ay,ak,_,_,f⟩:=R0.ra
    obtain ⟨aG,aw,aj,_,_,b⟩:=R0.rt
    simp only [Value.slice.injEq] at am ak aj
    obtain ⟨rfl,_,rfl⟩:=am
    obtain ⟨rfl,_,rfl⟩:=ak
    obtain ⟨rfl,_,rfl⟩:=aj
    go_loopw [33] (fun i wr=>∃ k:Nat,k <= q/\i=.int .i64 k/\Hid ((d.ls.zipIdx.take k).all (lkB d.ga d.tk)=true)/\Below w0.heap.size w0 wr) (fun i _=>q - (intOf i).toNat)
    case atStart=>exact ⟨0,by omega,rfl,by simp [Hid],Below.refl _ _⟩
    case round =>
     obtain ⟨k,hk,rfl,HK,hb⟩:=hrel
     have Z:=O.trans (hb.mono O.size)
     have hx:=Zae ab hb
     by_cases I:k < q
     ·have aI:k < d.ls.length:=by rw [J.out];exact I
      have V:k < d.ga.length:=by rw [Q.out];exact I
      have U:k < d.tk.length:=by rw [K.out];exact I
      obtain ⟨gl,ol,rfl,_,ap,c⟩:=c (by intro e;have hh:=J.out;rw [e] at hh;simp at hh;omega)
      obtain ⟨ga,oa,rfl,_,ah,f⟩:=f (by intro e;have hh:=Q.out;rw [e] at hh;simp at hh;omega)
      obtain ⟨gt,ot,rfl,_,al,b⟩:=b (by intro e;have hh:=K.out;rw [e] at hh;simp at hh;omega)
      obtain ⟨l,hl⟩:∃ x,d.ls[k]? = some x:=⟨d.ls[k]'(by rw [J.out];exact I),List.getElem?_eq_getElem _⟩
      obtain ⟨ta,af⟩:∃ x,d.ga[k]? = some x:=⟨d.ga[k]'(by rw [Q.out];exact I),List.getElem?_eq_getElem _⟩
      obtain ⟨tt,ac⟩:∃ x,d.tk[k]? = some x:=⟨d.tk[k]'(by rw [K.out];exact I),List.getElem?_eq_getElem _⟩
      obtain ⟨cs,av,hr,vq,vh,hc,L1,L2,_,_⟩:=c k l hl
      obtain ⟨ca,_,an,ua,rfl,A1,_⟩:=f k ta af
      obtain ⟨ct,_,ag,ut,rfl,T1,_⟩:=b k tt ac
      obtain ⟨pq,qq,rfl⟩:=L1.small
      obtain ⟨ph,qh,rfl⟩:=L2.small
      obtain ⟨pa,qa,rfl⟩:=A1.small
      obtain ⟨pt,qt,rfl⟩:=T1.small
      obtain rfl:cs=(#[.int .i64 l.sent,.int .i64 l.acked,.slice pq l.q.length qq,.int .i64 l.got,.slice ph l.h.length qh]:Array Value).toList:=congrArg Array.toList hc
      have HZ:Hid (d.ls.zipIdx[k]? = some (l,k)):=Zla hl
      have y:Hid (lkB d.ga d.tk (l,k)=(Zbi l && (decide ((ta.length:Int)=l.sent) && decide ((tt.length:Int)=l.got)))):=by
       unfold Hid lkB
       simp [List.getD_eq_getElem?_getD,af,ac]
      have ax:=Nat.lt_of_lt_of_le ap Z.size
      have aq:=Nat.lt_of_lt_of_le ah Z.size
      have ai:=Nat.lt_of_lt_of_le al Z.size
      replace hr:=Zaf hr Z ap
      have ka:=ZaQ (Zaf an Z ah)
      have kt:=ZaQ (Zaf ag Z al)
      rw [Nat.mul_one] at ka kt
      clear c f b hl af ac hc av an ag
      have v:=Zap wr (Obj.cells #[.int .i64 l.sent,.int .i64 l.acked,.slice pq l.q.length qq,.int .i64 l.got,.slice ph l.h.length qh] 70)
      have N:(wr.alloc (Obj.cells #[.int .i64 l.sent,.int .i64 l.acked,.slice pq l.q.length qq,.int .i64 l.got,.slice ph l.h.length qh] 70)).heap[wr.heap.size]? = some (Obj.cells #[.int .i64 l.sent,.int .i64 l.acked,.slice pq l.q.length qq,.int .i64 l.got,.slice ph l.h.length qh] 70):=heap_alloc_new _ _
      have M:=Zae hx v
      have a:=Z.trans (v.mono Z.size)
      have ae:=hb.trans (v.mono hb.size)
      have P:=(v.cell (p:=⟨ga,oa+k,none⟩) aq).trans ka
      have L:=(v.cell (p:=⟨gt,ot+k,none⟩) ai).trans kt
      have au:=v.size
      obtain ⟨W3,ao⟩:∃ W3,Hid (wr.alloc (Obj.cells #[.int .i64 l.sent,.int .i64 l.acked,.slice pq l.q.length qq,.int .i64 l.got,.slice ph l.h.length qh] 70)=W3):=⟨_,rfl⟩
      go_wp2_with (refine wpList_load_mid rfl 70 _ rfl gl (ol+k * 5) rfl _ _ hr Tryz.underlying70 rfl (by kernel_rfl) ?_)
      rw [ao.out] at v N M a ae P L au ⊢
      clear ao hr v ka kt
      cases t:Zbi l with
      | false =>
       have HF:lkB d.ga d.tk (l,k)=false:=by rw [y.out,t];rfl
       refine ZlG w.heap.size wr.heap.size ga oa gt ot k ta.length tt.length pa pt qa qt o C u r (some ⟨gl,ol,none⟩) z F s j A H n G D E m d l _ _ W3 _ M N (by omega) (by omega) P L V U (fun W g=>by have h:=ZbT _ _ l W (L1.below (a.trans (g.mono a.size))) (L2.below (a.trans (g.mono a.size)));rw [t] at h;exact h) ?_
       intro u38 u39 u40 u41 u42 u43 u44 u45 u46 u47 u48 u49 u50 u51 u52 u53 u54 u55 u56 u57 u58 u59 u60 u61 W g
       have HR:Hid (d.ls.zipIdx.all (lkB d.ga d.tk)=false):=Zax HZ.out HF
       clear HK HZ y
       go_wp2
       go_ret
       exact ⟨by rw [S.out,HR.out];rfl,a.trans (g.mono a.size)⟩
      | true =>
       cases e1:((ta.length:Int) != l.sent) with
       | true =>
        have HF:lkB d.ga d.tk (l,k)=false:=by rw [y.out,t];simp at e1;simp [e1]
        refine Zlt w.heap.size wr.heap.size ga oa gt ot k ta.length tt.length pa pt qa qt o C u r (some ⟨gl,ol,none⟩) z F s j A H n G D E m d l _ _ W3 _ M N (by omega) (by omega) P L V U (fun W g=>by have h:=ZbT _ _ l W (L1.below (a.trans (g.mono a.size))) (L2.below (a.trans (g.mono a.size)));rw [t] at h;exact h) e1 ?_
        intro u38 u39 u40 u41 u42 u43 u44 u45 u46 u47 u48 u49 u50 u51 u52 u53 u54 u55 u56 u57 u58 u59 u60 u61 W g
        have HR:Hid (d.ls.zipIdx.all (lkB d.ga d.tk)=false):=Zax HZ.out HF
        clear HK HZ y
        go_wp2
        go_ret
        exact ⟨by rw [S.out,HR.out];rfl,a.trans (g.mono a.size)⟩
       | false =>
        cases e2:((tt.length:Int) != l.got) with
        | true =>
         have HF:lkB d.ga d.tk (l,k)=false:=by rw [y.out,t];simp at e2;simp [e2]
         refine Zjv w.heap.size wr.heap.size ga oa gt ot k ta.length tt.length pa pt qa qt o C u r (some ⟨gl,ol,none⟩) z F s j A H n G D E m d l _ _ W3 _ M N (by omega) (by omega) P L V U (fun W g=>by have h:=ZbT _ _ l W (L1.below (a.trans (g.mono a.size))) (L2.below (a.trans (g.mono a.size)));rw [t] at h;exact h) true e1 e2 ?_
         intro u38 u39 u40 u41 u42 u43 u44 u45 u46 u47 u48 u49 u50 u51 u52 u53 u54 u55 u56 u57 u58 u59 u60 u61 W g
         have HR:Hid (d.ls.zipIdx.all (lkB d.ga d.tk)=false):=Zax HZ.out HF
         clear HK HZ y
         go_wp2
         go_ret
         exact ⟨by rw [S.out,HR.out];rfl,a.trans (g.mono a.size)⟩
        | false =>
         have HF:lkB d.ga d.tk (l,k)=true:=by rw [y.out,t];simp at e1 e2;simp [e1,e2]
         refine Zjv w.heap.size wr.heap.size ga oa gt ot k ta.length tt.length pa pt qa qt o C u r (some ⟨gl,ol,none⟩) z F s j A H n G D E m d l _ _ W3 _ M N (by omega) (by omega) P L V U (fun W g=>by have h:=ZbT _ _ l W (L1.below (a.trans (g.mono a.size))) (L2.below (a.trans (g.mono a.size)));rw [t] at h;exact h) false e1 e2 ?_
         intro u38 u39 u40 u41 u42 u43 u44 u45 u46 u47 u48 u49 u50 u51 u52 u53 u54 u55 u56 u57 u58 u59 u60 u61 W g
         have ad:Hid ((d.ls.zipIdx.take (k+1)).all (lkB d.ga d.tk)=true):=Za8 HK.out HZ.out HF
         have aa:=ae.trans (g.mono ae.size)
         clear HK HZ y
         go_wp2
         go_roundw
         case rel=>first | exact ⟨k+1,by omega,by go_num,ad,aa⟩ | exact ⟨_,⟨k+1,by omega,by go_num,ad,aa⟩,rfl⟩ | exact ⟨_,_,⟨k+1,by omega,by go_num,ad,aa⟩,rfl,rfl⟩
         case measure=>simp [intOf];omega
     ·have HR:Hid (d.ls.zipIdx.all (lkB d.ga d.tk)=true):=ZbF HK.out (by rw [ZjP,J.out];omega)
      have aA:¬ k < d.ls.length:=by rw [J.out];exact I
      clear HK c f b
      go_wp2
      go_ret
      exact ⟨by rw [S.out,HR.out];rfl,Z⟩
   ·have S:Hid (lksB d=false):=by unfold Hid;rw [HL.out];simp [show ¬ ((d.tk.length:Int)=(q:Int)) by omega]
    have n1:((d.ls.length:Int) != (q:Int))=false:=by simp [J]
    have n2:((d.ga.length:Int) != (q:Int))=false:=by simp [Q]
    have n3:((d.tk.length:Int) != (q:Int))=true:=by simp;omega
    clear HL J Q K
    go_wp2
    go_ret
    exact ⟨by rw [S.out];rfl,O⟩
  ·have S:Hid (lksB d=false):=by unfold Hid;rw [HL.out];simp [show ¬ ((d.ga.length:Int)=(q:Int)) by omega]
   have n1:((d.ls.length:Int) != (q:Int))=false:=by simp [J]
   have n2:((d.ga.length:Int) != (q:Int))=true:=by simp;omega
   clear HL J Q
   go_wp2
   go_ret
   exact ⟨by rw [S.out];rfl,O⟩
 ·have S:Hid (lksB d=false):=by unfold Hid;rw [HL.out];simp [show ¬ ((d.ls.length:Int)=(q:Int)) by omega]
  have n1:((d.ls.length:Int) != (q:Int))=true:=by simp;omega
  clear HL J
  go_wp2
  go_ret
  exact ⟨by rw [S.out];rfl,O⟩
theorem Zls (vn vi vf vh vl vg vp va vt:Value)(d:Wd)(B:Nat)(w:World)(R:WR B w vn vi vf vh vl vg vp va vt d)(aC:1 <= d.pl)(aA:d.pl <= 3) :
  Calls Tryz.prog 43 #[.agg #[vn,vi,vf,.int .i64 d.pl,vh,vl,vg,vp,.int .i64 d.nx,va,vt]] w fun e w'=>e=.returned (.bool (lksB d))/\Below w.heap.size w w':=by
 have R0:=R
 obtain ⟨⟨o,r,rfl⟩,⟨z,j,rfl⟩,⟨t,y,rfl⟩,⟨p,F,rfl⟩,⟨U,n,rfl⟩,⟨v,E,rfl⟩,⟨D,A,rfl⟩,⟨P,C,rfl⟩,⟨T,m,rfl⟩⟩:=R.form
 have M:=Zap w (Obj.cells #[.slice o d.ns.length r,.slice z d.is.length j,.slice t d.ds.length y,.int .i64 d.pl,.slice p d.hs.length F,.slice U d.ls.length n,.slice v d.gs.length E,.slice D d.ps.length A,.int .i64 d.nx,.slice P d.ga.length C,.slice T d.tk.length m] 50)
 have ab:=heap_alloc_new w (Obj.cells #[.slice o d.ns.length r,.slice z d.is.length j,.slice t d.ds.length y,.int .i64 d.pl,.slice p d.hs.length F,.slice U d.ls.length n,.slice v d.gs.length E,.slice D d.ps.length A,.int .i64 d.nx,.slice P d.ga.length C,.slice T d.tk.length m] 50)
 obtain ⟨q,hq⟩:∃ q:Nat,(q:Int)=d.pl * d.pl:=by
  have L:d.pl=1 \/ d.pl=2 \/ d.pl=3:=by omega
  rcases L with h | h | h
  ·exact ⟨1,by rw [h];rfl⟩
  ·exact ⟨4,by rw [h];rfl⟩
  ·exact ⟨9,by rw [h];rfl⟩
 have ay:q <= 9:=by
  have L:d.pl=1 \/ d.pl=2 \/ d.pl=3:=by omega
  rcases L with h | h | h <;> rw [h] at hq <;> omega
 have ao:d.pl * d.pl=(q:Int):=hq.symm
 have HL:Hid (lksB d=((decide ((d.ls.length:Int)=(q:Int)) && (decide ((d.ga.length:Int)=(q:Int)) && decide ((d.tk.length:Int)=(q:Int)))) && d.ls.zipIdx.all (lkB d.ga d.tk))):=by unfold Hid lksB;rw [ao]
 clear hq
 have c3:(w.alloc (Obj.cells #[.slice o d.ns.length r,.slice z d.is.length j,.slice t d.ds.length y,.int .i64 d.pl,.slice p d.hs.length F,.slice U d.ls.length n,.slice v d.gs.length E,.slice D d.ps.length A,.int .i64 d.nx,.slice P d.ga.length C,.slice T d.tk.length m] 50)).cell? ⟨w.heap.size,0+3,none⟩=some (.int .i64 d.pl):=cell_of_row _ _ 3 _ _ _ ab
 go_enter Tryz.func43,Tryz.ntmps43
 by_cases J:d.ls.length=q
 ·by_cases N:d.ga.length=q
  ·by_cases L:d.tk.length=q
   ·have O:Hid (lksB d=d.ls.zipIdx.all (lkB d.ga d.tk)):=by unfold Hid;rw [HL.out];simp [J,N,L]
    have n1:((d.ls.length:Int) != (q:Int))=false:=by simp [J]
    have n2:((d.ga.length:Int) != (q:Int))=false:=by simp [N]
    have n3:((d.tk.length:Int) != (q:Int))=false:=by simp [L]
    replace J:Hid (d.ls.length=q):=J
    replace N:Hid (d.ga.length=q):=N
    replace L:Hid (d.tk.length=q):=L
    clear HL
    go_wp2_with fail
    generalize w.alloc (Obj.cells #[.slice o d.ns.length r,.slice z d.is.length j,.slice t d.ds.length y,.int .i64 d.pl,.slice p d.hs.length F,.slice U d.ls.length n,.slice v d.gs.length E,.slice D d.ps.length A,.int .i64 d.nx,.slice P d.ga.length C,.slice T d.tk.length m] 50)=w0 at *
    have aw:=Zao ab
    obtain ⟨az,au,ak,_,_,c⟩:=R0.rl
    obtain ⟨ax,ar,ai,_,_,f⟩:=R0.ra
    obtain ⟨aB,aq,ah,_,_,b⟩:=R0.rt
    simp only [Value.slice.injEq] at ak ai ah
    obtain ⟨rfl,_,rfl⟩:=ak
    obtain ⟨rfl,_,rfl⟩:=ai
    obtain ⟨rfl,_,rfl⟩:=ah
    go_loopw [4] (fun i wr=>∃ k:Nat,k <= q/\i=.int .i64 k/\Hid ((d.ls.zipIdx.take k).all (lkB d.ga d.tk)=true)/\Below w0.heap.size w0 wr) (fun i _=>q - (intOf i).toNat)
    case atStart=>exact ⟨0,by omega,rfl,by simp [Hid],Below.refl _ _⟩
    case round =>
     obtain ⟨k,hk,rfl,HK,hb⟩:=hrel
     have Y:=M.trans (hb.mono M.size)
     have hx:=Zae ab hb
     by_cases G:k < q
     ·have V:k < d.ls.length:=by rw [J.out];exact G
      have S:k < d.ga.length:=by rw [N.out];exact G
      have Q:k < d.tk.length:=by rw [L.out];exact G
      obtain ⟨gl,ol,rfl,_,am,c⟩:=c (by intro e;have X:=J.out;rw [e] at X;simp at X;omega)
      obtain ⟨ga,oa,rfl,_,ag,f⟩:=f (by intro e;have X:=N.out;rw [e] at X;simp at X;omega)
      obtain ⟨gt,ot,rfl,_,aj,b⟩:=b (by intro e;have X:=L.out;rw [e] at X;simp at X;omega)
      obtain ⟨l,hl⟩:∃ x,d.ls[k]? = some x:=⟨d.ls[k]'(by rw [J.out];exact G),List.getElem?_eq_getElem _⟩
      obtain ⟨ta,ae⟩:∃ x,d.ga[k]? = some x:=⟨d.ga[k]'(by rw [N.out];exact G),List.getElem?_eq_getElem _⟩
      obtain ⟨tt,ac⟩:∃ x,d.tk[k]? = some x:=⟨d.tk[k]'(by rw [L.out];exact G),List.getElem?_eq_getElem _⟩
      obtain ⟨cs,ap,hr,vq,vh,hc,L1,L2,_,_⟩:=c k l hl
      obtain ⟨ca,_,al,ua,rfl,A1,_⟩:=f k ta ae
      obtain ⟨ct,_,af,ut,rfl,T1,_⟩:=b k tt ac
      obtain ⟨pq,qq,rfl⟩:=L1.small
      obtain ⟨ph,qh,rfl⟩:=L2.small
      obtain ⟨pa,qa,rfl⟩:=A1.small
      obtain ⟨pt,qt,rfl⟩:=T1.small
      obtain rfl:cs=(#[.int .i64 l.sent,.int .i64 l.acked,.slice pq l.q.length qq,.int .i64 l.got,.slice ph l.h.length qh]:Array Value).toList:=congrArg Array.toList hc
      have Z:Hid (d.ls.zipIdx[k]? = some (l,k)):=Zla hl
      have u:Hid (lkB d.ga d.tk (l,k)=(Zbi l && (decide ((ta.length:Int)=l.sent) && decide ((tt.length:Int)=l.got)))):=by
       unfold Hid lkB
       simp [List.getD_eq_getElem?_getD,ae,ac]
      have I:=Nat.lt_of_lt_of_le am Y.size
      have K:=Nat.lt_of_lt_of_le ag Y.size
      have H:=Nat.lt_of_lt_of_le aj Y.size
      replace hr:=Zaf hr Y am
      have ka:=ZaQ (Zaf al Y ag)
      have kt:=ZaQ (Zaf af Y aj)
      rw [Nat.mul_one] at ka kt
      clear c f b hl ae ac hc ap al af
      have an:=hb
      have a:=Y
      go_wp2_with fail
      cases s:Zbi l with
      | false =>
       have HF:lkB d.ga d.tk (l,k)=false:=by rw [u.out,s];rfl
       refine ZkG w.heap.size gl ol ga oa gt ot k ta.length tt.length pa pt qa qt o z t p v D r j y F n E A C m d l _ _ wr _ hx hr I V K H ka kt S Q (fun W g=>by have h:=ZbS _ _ l W (L1.below (a.trans (g.mono a.size))) (L2.below (a.trans (g.mono a.size)));rw [s] at h;exact h) ?_
       intro u34 u35 u36 u37 u38 u39 u40 u41 u42 u43 u44 u45 u46 u47 u48 u49 u50 u51 u52 u53 u54 u55 u56 u57 u58 u59 u60 u61 u62 u63 u64 u65 u66 u67 u68 u69 W g
       have HR:Hid (d.ls.zipIdx.all (lkB d.ga d.tk)=false):=Zax Z.out HF
       clear HK Z u
       go_wp2
       go_ret
       exact ⟨by rw [O.out,HR.out];rfl,a.trans (g.mono a.size)⟩
      | true =>
       cases e1:((ta.length:Int) != l.sent) with
       | true =>
        have HF:lkB d.ga d.tk (l,k)=false:=by rw [u.out,s];simp at e1;simp [e1]
        refine Zk8 w.heap.size gl ol ga oa gt ot k ta.length tt.length pa pt qa qt o z t p v D r j y F n E A C m d l _ _ wr _ hx hr I V K H ka kt S Q (fun W g=>by have h:=ZbS _ _ l W (L1.below (a.trans (g.mono a.size))) (L2.below (a.trans (g.mono a.size)));rw [s] at h;exact h) e1 ?_
        intro u34 u35 u36 u37 u38 u39 u40 u41 u42 u43 u44 u45 u46 u47 u48 u49 u50 u51 u52 u53 u54 u55 u56 u57 u58 u59 u60 u61 u62 u63 u64 u65 u66 u67 u68 u69 W g
        have HR:Hid (d.ls.zipIdx.all (lkB d.ga d.tk)=false):=Zax Z.out HF
        clear HK Z u
        go_wp2
        go_ret
        exact ⟨by rw [O.out,HR.out];rfl,a.trans (g.mono a.size)⟩
       | false =>
        cases e2:((tt.length:Int) != l.got) with
        | true =>
         have HF:lkB d.ga d.tk (l,k)=false:=by rw [u.out,s];simp at e2;simp [e2]
         refine ZgL w.heap.size gl ol ga oa gt ot k ta.length tt.length pa pt qa qt o z t p v D r j y F n E A C m d l _ _ wr _ hx hr I V K H ka kt S Q (fun W g=>by have h:=ZbS _ _ l W (L1.below (a.trans (g.mono a.size))) (L2.below (a.trans (g.mono a.size)));rw [s] at h;exact h) true e1 e2 ?_
         intro u34 u35 u36 u37 u38 u39 u40 u41 u42 u43 u44 u45 u46 u47 u48 u49 u50 u51 u52 u53 u54 u55 u56 u57 u58 u59 u60 u61 u62 u63 u64 u65 u66 u67 u68 u69 W g
         have HR:Hid (d.ls.zipIdx.all (lkB d.ga d.tk)=false):=Zax Z.out HF
         clear HK Z u
         go_wp2
         go_ret
         exact ⟨by rw [O.out,HR.out];rfl,a.trans (g.mono a.size)⟩
        | false =>
         have HF:lkB d.ga d.tk (l,k)=true:=by rw [u.out,s];simp at e1 e2;simp [e1,e2]
         refine ZgL w.heap.size gl ol ga oa gt ot k ta.length tt.length pa pt qa qt o z t p v D r j y F n E A C m d l _ _ wr _ hx hr I V K H ka kt S Q (fun W g=>by have h:=ZbS _ _ l W (L1.below (a.trans (g.mono a.size))) (L2.below (a.trans (g.mono a.size)));rw [s] at h;exact h) false e1 e2 ?_
         intro u34 u35 u36 u37 u38 u39 u40 u41 u42 u43 u44 u45 u46 u47 u48 u49 u50 u51 u52 u53 u54 u55 u56 u57 u58 u59 u60 u61 u62 u63 u64 u65 u66 u67 u68 u69 W g
         have ad:Hid ((d.ls.zipIdx.take (k+1)).all (lkB d.ga d.tk)=true):=Za8 HK.out Z.out HF
         have aa:=an.trans (g.mono an.size)
         clear HK Z u
         go_wp2
         go_roundw
         case rel=>first | exact ⟨k+1,by omega,by go_num,ad,aa⟩ | exact ⟨_,⟨k+1,by omega,by go_num,ad,aa⟩,rfl⟩ | exact ⟨_,_,⟨k+1,by omega,by go_num,ad,aa⟩,rfl,rfl⟩
         case measure=>simp [intOf];omega
     ·have HR:Hid (d.ls.zipIdx.all (lkB d.ga d.tk)=true):=ZbF HK.out (by rw [ZjP,J.out];omega)
      have av:¬ k < d.ls.length:=by rw [J.out];exact G
      clear HK c f b
      go_wp2
      go_ret
      exact ⟨by rw [O.out,HR.out];rfl,Y⟩
   ·have O:Hid (lksB d=false):=by unfold Hid;rw [HL.out];simp [show ¬ ((d.tk.length:Int)=(q:Int)) by omega]
    have n1:((d.ls.length:Int) != (q:Int))=false:=by simp [J]
    have n2:((d.ga.length:Int) != (q:Int))=false:=by simp [N]
    have n3:((d.tk.length:Int) != (q:Int))=true:=by simp;omega
    clear HL J N L
    go_wp2
    go_ret
    exact ⟨by rw [O.out];rfl,M⟩
  ·have O:Hid (lksB d=false):=by unfold Hid;rw [HL.out];simp [show ¬ ((d.ga.length:Int)=(q:Int)) by omega]
   have n1:((d.ls.length:Int) != (q:Int))=false:=by simp [J]
   have n2:((d.ga.length:Int) != (q:Int))=true:=by simp;omega
   clear HL J N
   go_wp2
   go_ret
   exact ⟨by rw [O.out];rfl,M⟩
 ·have O:Hid (lksB d=false):=by unfold Hid;rw [HL.out];simp [show ¬ ((d.ls.length:Int)=(q:Int)) by omega]
  have n1:((d.ls.length:Int) != (q:Int))=true:=by simp;omega
  clear HL J
  go_wp2
  go_ret
  exact ⟨by rw [O.out];rfl,M⟩
end Go.Proofs.YtfeodlbpnghakaaGreatDoor
