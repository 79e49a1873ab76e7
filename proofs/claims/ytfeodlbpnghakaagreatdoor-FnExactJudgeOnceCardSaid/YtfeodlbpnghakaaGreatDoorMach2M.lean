/-
  Texts that stood by themselves, laid into one.
-/
import Derived.Test.YtfeodlbpnghakaaGreatDoorRulesM
import Derived.Test.YtfeodlbpnghakaaGreatDoorMark2M
import Derived.Test.YtfeodlbpnghakaaGreatDoorMcTM
/-
  The contracts of impl.defsFit, impl.CodeOk and spec.CodeOk. No condition.
-/
set_option maxRecDepth 100000
set_option maxHeartbeats 4000000
namespace Go.Proofs.YtfeodlbpnghakaaGreatDoor
open Go.RowKit
def dfB (ds:List Df)(n2:Nat)(d:Df)(i:Nat):Bool :=
 Zb1 d.s && (Zbg ds d.s 0 == (i:Int)) && (decide (0 <= d.p) && decide (d.p < n2)) && (decide (0 <= d.m) && decide (d.m <= 4))
def dfsB (all:List Df)(n2:Nat)(ds:List Df)(i:Nat):Bool:=match ds with
 | []=>true
 | d :: ds=>dfB all n2 d i && dfsB all n2 ds (i+1)
theorem Zdn (ds:List Df)(i n2:Nat)(x:Df)(h:ds[i]? = some x):dfsB ds n2 (ds.drop i) i=(dfB ds n2 x i && dfsB ds n2 (ds.drop (i+1)) (i+1)):=by
 obtain ⟨a,b⟩:=List.getElem?_eq_some_iff.1 h
 rw [List.drop_eq_getElem_cons a,b]
 rfl
def Za5 (ns:List Nd)(is:List In)(ds:List Df):Bool :=
 Zas ns && (decide (is.length <= 400) && insB is 0 ns.length is.length) && (decide (ds.length <= 20) && dfsB ds is.length ds 0)
theorem ZgA (n:Int)(w:World):Calls Tryz.prog 154 #[.int .i64 n] w fun e a=>e=.returned (.bool (decide (0 <= n) && decide (n <= 4)))/\a=w:=by
 go_enter Tryz.func154,Tryz.ntmps154
 go_wp2
 all_goals
  go_ret
  refine ⟨retB ?_,rfl⟩
  first | (simp [*];done) | (simp [*];omega)
theorem ZcI (d a b:Option Addr)(n1 n2 c c1 c2 c3:Nat)(n:Int)(w:World):Calls Tryz.prog 153 #[.agg #[.slice d n1 c1,.slice a n2 c2,.slice b c c3],.int .i64 n] w fun e f=>e=.returned (.bool (decide (0 <= n) && decide (n < n2)))/\Below w.heap.size w f:=by
 go_enter Tryz.func153,Tryz.ntmps153
 go_wp2
 all_goals
  go_ret
  refine ⟨retB ?_,(Below.refl _ _).alloc (Nat.le_refl _) _⟩
  first | (simp [*];done) | (simp [*];omega)
theorem Zgm (t u:Option Addr)(n1 c1 n2 c2:Nat)(Y:Value)(ds:List Df)(w:World)(R:DfRow w Y ds) :
  Calls Tryz.prog 125 #[.agg #[.slice t n1 c1,.slice u n2 c2,Y]] w fun e w'=>e=.returned (.bool (decide (ds.length <= 20) && dfsB ds n2 ds 0))/\Below w.heap.size w w':=by
 have R':=R
 obtain ⟨O,c3,rfl,Z,hm,hz,a⟩:=R'
 have y:Below w.heap.size w (w.alloc (Obj.cells #[.slice t n1 c1,.slice u n2 c2,.slice O ds.length c3] 44)):=(Below.refl _ _).alloc (Nat.le_refl _) _
 by_cases V:ds.length <= 20
 ·have z:Hid (decide (ds.length <= 20)=true):=by unfold Hid;simp [V]
  go_enter Tryz.func125,Tryz.ntmps125
  have D:=heap_alloc_new w (Obj.cells #[.slice t n1 c1,.slice u n2 c2,.slice O ds.length c3] 44)
  have H:w.heap.size < (w.alloc (Obj.cells #[.slice t n1 c1,.slice u n2 c2,.slice O ds.length c3] 44)).heap.size:=by simp
  go_wp2_with fail
  generalize w.alloc (Obj.cells #[.slice t n1 c1,.slice u n2 c2,.slice O ds.length c3] 44)=S at *
  go_loopw [12] (fun i wr=>∃ k:Nat,k <= ds.length/\i=.int .i64 k/\Hid (dfsB ds n2 ds 0=dfsB ds n2 (ds.drop k) k)/\Below S.heap.size S wr) (fun i _=>ds.length - (intOf i).toNat)
  case atStart=>exact ⟨0,by omega,rfl,rfl,Below.refl _ _⟩
  case round =>
   obtain ⟨k,hk,rfl,Q,G⟩:=hrel
   have N:=y.trans (G.mono y.size)
   by_cases I:k < ds.length
   ·obtain ⟨g,o,rfl,hg,a⟩:=a (by intro e;subst e;simp at I)
    obtain ⟨x,P⟩:∃ x,ds[k]? = some x:=⟨ds[k],by simp [I]⟩
    obtain ⟨d0,d1,d2⟩:=(a k x P).below N hg
    have T:=hz x (List.mem_of_getElem? P)
    have K:Hid (dfsB ds n2 ds 0=(dfB ds n2 x k && dfsB ds n2 (ds.drop (k+1)) (k+1))):=by unfold Hid;rw [Q.out,Zdn ds k n2 x P]
    have q:=(G.block _ H).trans D
    have F:=Nat.lt_of_lt_of_le H G.size
    clear a P Q D
    have q0:wr.cell? ⟨w.heap.size,0,none⟩=some (.slice t n1 c1):=by rw [cell_of_row wr _ 0 _ _ _ q];rfl
    have q1:wr.cell? ⟨w.heap.size,0+1,none⟩=some (.slice u n2 c2):=by rw [cell_of_row wr _ 1 _ _ _ q];rfl
    have q2:wr.cell? ⟨w.heap.size,0+2,none⟩=some (.slice (some ⟨g,o,none⟩) ds.length c3):=by rw [cell_of_row wr _ 2 _ _ _ q];rfl
    go_wp2_with fail
    refine (Zdo x.s _ T).mono ?_
    rintro e w1 ⟨rfl,rfl⟩
    have c:Below w.heap.size w (wr.alloc (Obj.cells #[.string x.s,.int .i64 x.p,.int .i64 x.m] 155)):=N.alloc N.size _
    have A:Below S.heap.size S (wr.alloc (Obj.cells #[.string x.s,.int .i64 x.p,.int .i64 x.m] 155)):=G.alloc G.size _
    cases J:Zb1 x.s with
    | false =>
     have f:Hid (dfsB ds n2 ds 0=false):=by unfold Hid;rw [K.out];simp [dfB,J]
     go_wp2
     go_ret
     exact ⟨by rw [z.out,f.out];rfl,c⟩
    | true =>
     go_wp2_with fail
     refine (Zhl _ _ _ _ _ _ _ ds x.s _ (R.below c)).mono ?_
     rintro e b ⟨rfl,h⟩
     have r:=c.trans (h.mono c.size)
     have d:=A.trans (h.mono A.size)
     have l:b.heap[w.heap.size]? = some (.cells #[.slice t n1 c1,.slice u n2 c2,.slice (some ⟨g,o,none⟩) ds.length c3] 44 (0,0)):=(h.block _ (by simp;omega)).trans ((heap_alloc_old _ _ F).trans q)
     have v:b.heap[wr.heap.size]? = some (.cells #[.string x.s,.int .i64 x.p,.int .i64 x.m] 155 (0,0)):=(h.block _ (by simp)).trans (heap_alloc_new _ _)
     have W:=(bl l)
     have C:=(bl v)
     have r0:b.cell? ⟨w.heap.size,0,none⟩=some (.slice t n1 c1):=by rw [cell_of_row b _ 0 _ _ _ l];rfl
     have r1:b.cell? ⟨w.heap.size,0+1,none⟩=some (.slice u n2 c2):=by rw [cell_of_row b _ 1 _ _ _ l];rfl
     have r2:b.cell? ⟨w.heap.size,0+2,none⟩=some (.slice (some ⟨g,o,none⟩) ds.length c3):=by rw [cell_of_row b _ 2 _ _ _ l];rfl
     have t1:b.cell? ⟨wr.heap.size,0+1,none⟩=some (.int .i64 x.p):=by rw [cell_of_row b _ 1 _ _ _ v];rfl
     have X:b.cell? ⟨wr.heap.size,0+2,none⟩=some (.int .i64 x.m):=by rw [cell_of_row b _ 2 _ _ _ v];rfl
     clear h c A q0 q1 q2
     by_cases n:Zbg ds x.s 0=(k:Int)
     ·rw [n]
      go_wp2_with fail
      refine (ZcI _ _ _ _ _ _ _ _ _ _ _).mono ?_
      rintro e w3 ⟨rfl,j⟩
      have B:=r.trans (j.mono r.size)
      have M:=d.trans (j.mono d.size)
      have U:=(j.cell (p:=⟨wr.heap.size,0+2,none⟩) C).trans X
      clear r0 r1 r2 t1 X j r d
      cases E:(decide (0 <= x.p) && decide (x.p < n2)) with
      | false =>
       have f:Hid (dfsB ds n2 ds 0=false):=by unfold Hid;rw [K.out,dfB,E];simp
       go_wp2
       go_ret
       exact ⟨by rw [z.out,f.out];rfl,B⟩
      | true =>
       go_wp2_with fail
       refine (ZgA _ _).mono ?_
       rintro e w4 ⟨rfl,rfl⟩
       clear U
       cases L:(decide (0 <= x.m) && decide (x.m <= 4)) with
       | false =>
        have f:Hid (dfsB ds n2 ds 0=false):=by unfold Hid;rw [K.out,dfB,L];simp
        go_wp2
        go_ret
        exact ⟨by rw [z.out,f.out];rfl,B⟩
       | true =>
        have f:Hid (dfsB ds n2 ds 0=dfsB ds n2 (ds.drop (k+1)) (k+1)):=by unfold Hid;rw [K.out,dfB,L,E,J,n];simp
        go_wp2
        go_roundw
        case rel=>exact ⟨k+1,by omega,by go_num,f,M⟩
        case measure=>simp [intOf];omega
     ·have f:Hid (dfsB ds n2 ds 0=false):=by unfold Hid;rw [K.out];simp [dfB,n]
      generalize Zbg ds x.s 0=ix at n
      go_wp2
      go_ret
      exact ⟨by rw [z.out,f.out];rfl,r⟩
   ·have f:Hid (dfsB ds n2 ds 0=true):=by unfold Hid;rw [Q.out,List.drop_eq_nil_of_le (by omega)];rfl
    clear Q a
    go_wp2
    go_ret
    exact ⟨by rw [z.out,f.out];rfl,N⟩
 ·have z:Hid (decide (ds.length <= 20)=false):=by unfold Hid;simp [V]
  go_enter Tryz.func125,Tryz.ntmps125
  go_wp2
  go_ret
  exact ⟨by rw [z.out];rfl,y⟩
theorem Zgt (s y x:Value)(ns:List Nd)(is:List In)(ds:List Df)(w:World)(v:NRow w s ns)(t:InRow w y is)(u:DfRow w x ds) :
  Calls Tryz.prog 91 #[.agg #[s,y,x]] w fun e D=>e=.returned (.bool (Za5 ns is ds))/\Below w.heap.size w D:=by
 obtain ⟨o,c1,rfl⟩:=v.small
 obtain ⟨p,c2,rfl⟩:=t.small
 obtain ⟨n,c3,rfl⟩:=u.small
 have d:Below w.heap.size w (w.alloc (Obj.cells #[.slice o ns.length c1,.slice p is.length c2,.slice n ds.length c3] 44)):=(Below.refl _ _).alloc (Nat.le_refl _) _
 go_enter Tryz.func91,Tryz.ntmps91
 go_wp2_with fail
 refine (ZfK _ ns _ (v.below d)).mono ?_
 rintro e g ⟨rfl,i⟩
 have a:g.heap[w.heap.size]? = some (.cells #[.slice o ns.length c1,.slice p is.length c2,.slice n ds.length c3] 44 (0,0)):=(i.block _ (by simp)).trans (heap_alloc_new _ _)
 have b:=d.trans (i.mono d.size)
 have l:=(bl a)
 have C:g.cell? ⟨w.heap.size,0,none⟩=some (.slice o ns.length c1):=by rw [cell_of_row g _ 0 _ _ _ a];rfl
 have A:g.cell? ⟨w.heap.size,0+1,none⟩=some (.slice p is.length c2):=by rw [cell_of_row g _ 1 _ _ _ a];rfl
 have E:g.cell? ⟨w.heap.size,0+2,none⟩=some (.slice n ds.length c3):=by rw [cell_of_row g _ 2 _ _ _ a];rfl
 clear d i
 cases r:Zas ns with
 | false =>
  have m:Hid (Za5 ns is ds=false):=by unfold Hid;simp [Za5,r]
  go_wp2
  go_ret
  exact ⟨by rw [m.out];rfl,b⟩
 | true =>
  go_wp2_with fail
  refine (Ze0 _ _ _ _ _ _ _ is _ (t.below b)).mono ?_
  rintro e j ⟨rfl,h⟩
  have f:=(h.block _ l).trans a
  have c:=b.trans (h.mono b.size)
  have z:j.cell? ⟨w.heap.size,0,none⟩=some (.slice o ns.length c1):=by rw [cell_of_row j _ 0 _ _ _ f];rfl
  have F:j.cell? ⟨w.heap.size,0+1,none⟩=some (.slice p is.length c2):=by rw [cell_of_row j _ 1 _ _ _ f];rfl
  have B:j.cell? ⟨w.heap.size,0+2,none⟩=some (.slice n ds.length c3):=by rw [cell_of_row j _ 2 _ _ _ f];rfl
  clear h a C A E b l
  cases hi:(decide (is.length <= 400) && insB is 0 ns.length is.length) with
  | false =>
   have m:Hid (Za5 ns is ds=false):=by unfold Hid;rw [Za5,hi];simp
   go_wp2
   go_ret
   exact ⟨by rw [m.out];rfl,c⟩
  | true =>
   have m:Hid (Za5 ns is ds=(decide (ds.length <= 20) && dfsB ds is.length ds 0)):=by unfold Hid;rw [Za5,hi,r];simp
   go_wp2_with fail
   refine (Zgm _ _ _ _ _ _ _ ds _ (u.below c)).mono ?_
   rintro e G ⟨rfl,k⟩
   have q:=c.trans (k.mono c.size)
   clear k f z F B c
   rw [<- m.out]
   go_wp2
   go_ret
   exact ⟨rfl,q⟩
theorem Zf5 (v1 v2 v3:Value)(ns:List Nd)(is:List In)(ds:List Df)(w:World)(X:NRow w v1 ns)(W:InRow w v2 is)(R3:DfRow w v3 ds) :
  Calls Tryz.prog 41 #[.agg #[v1,v2,v3]] w fun e w'=>e=.returned (.bool (Za5 ns is ds))/\Below w.heap.size w w':=by
 have ab:ns.length <= 9223372036854775807:=by obtain ⟨_,_,_,_,U,_⟩:=X;exact U
 have ah:is.length <= 9223372036854775807:=by obtain ⟨_,_,_,_,U,_⟩:=W;exact U
 obtain ⟨L,c1,rfl⟩:=X.small
 obtain ⟨D,c2,rfl⟩:=W.small
 have V:=R3
 obtain ⟨H,c3,rfl,af,U,hz,a⟩:=V
 have z:Below w.heap.size w (w.alloc (Obj.cells #[.slice L ns.length c1,.slice D is.length c2,.slice H ds.length c3] 44)):=(Below.refl _ _).alloc (Nat.le_refl _) _
 go_enter Tryz.func41,Tryz.ntmps41
 go_wp2_with fail
 refine (Zce _ ns _ (X.below z)).mono ?_
 rintro e F ⟨rfl,E⟩
 have l:F.heap[w.heap.size]? = some (.cells #[.slice L ns.length c1,.slice D is.length c2,.slice H ds.length c3] 44 (0,0)):=(E.block _ (by simp)).trans (heap_alloc_new _ _)
 have n:=z.trans (E.mono z.size)
 have ac:=(bl l)
 have R:F.cell? ⟨w.heap.size,0+1,none⟩=some (.slice D is.length c2):=by rw [cell_of_row F _ 1 _ _ _ l];rfl
 have r2:F.cell? ⟨w.heap.size,0+2,none⟩=some (.slice H ds.length c3):=by rw [cell_of_row F _ 2 _ _ _ l];rfl
 clear z E
 cases hp:Zas ns with
 | false =>
  have c:Hid (Za5 ns is ds=false):=by unfold Hid;simp [Za5,hp]
  go_wp2
  go_ret
  exact ⟨by rw [c.out];rfl,n⟩
 | true =>
  by_cases h4:is.length <= 400
  ·by_cases h2:ds.length <= 20
   ·have Z:Hid (Za5 ns is ds=(insB is 0 ns.length is.length && dfsB ds is.length ds 0)):=by unfold Hid;simp [Za5,hp,h4,h2]
    go_wp2_with fail
    go_loopw [3] (fun i wr=>∃ k:Nat,k <= is.length/\i=.int .i64 k/\Hid (insB is 0 ns.length is.length=insB (is.drop k) k ns.length is.length)/\Below F.heap.size F wr) (fun i _=>is.length - (intOf i).toNat)
    case atStart=>exact ⟨0,by omega,rfl,rfl,Below.refl _ _⟩
    case round =>
     obtain ⟨k,hk,rfl,y,S⟩:=hrel
     have M:=n.trans (S.mono n.size)
     have h:=(S.block _ ac).trans l
     have q0:wr.cell? ⟨w.heap.size,0,none⟩=some (.slice L ns.length c1):=by rw [cell_of_row wr _ 0 _ _ _ h];rfl
     have q1:wr.cell? ⟨w.heap.size,0+1,none⟩=some (.slice D is.length c2):=by rw [cell_of_row wr _ 1 _ _ _ h];rfl
     have q2:wr.cell? ⟨w.heap.size,0+2,none⟩=some (.slice H ds.length c3):=by rw [cell_of_row wr _ 2 _ _ _ h];rfl
     by_cases ad:k < is.length
     ·obtain ⟨x,r⟩:∃ x,is[k]? = some x:=⟨is[k],by simp [ad]⟩
      have G:Hid (insB is 0 ns.length is.length=(Zay x k ns.length is.length && insB (is.drop (k+1)) (k+1) ns.length is.length)):=by unfold Hid;rw [y.out,Zfy is k ns.length is.length x r]
      have HX:Hid (is[k]? = some x):=r
      clear a y r
      go_wp2_with fail
      refine (Zij _ _ _ _ _ _ _ is k x _ (W.below M) HX.out ab).mono ?_
      rintro e w2 ⟨rfl,d⟩
      have f:=M.trans (d.mono M.size)
      have K:=S.trans (d.mono S.size)
      clear q0 q1 q2 d R r2
      generalize Zay x k ns.length is.length=b at G
      cases b with
      | false =>
       have c:Hid (Za5 ns is ds=false):=by unfold Hid;rw [Z.out,G.out];rfl
       go_wp2
       go_ret
       exact ⟨by rw [c.out];rfl,f⟩
      | true =>
       go_wp2
       go_roundw
       case rel=>exact ⟨k+1,by omega,by go_num,(by unfold Hid;rw [G.out,Bool.true_and]),K⟩
       case measure=>simp [intOf];omega
     ·have G:Hid (Za5 ns is ds=dfsB ds is.length ds 0):=by unfold Hid;rw [Z.out,y.out,List.drop_eq_nil_of_le (by omega)];simp [insB]
      have O:=(bl h)
      clear y Z R r2 l
      go_wp2_with fail
      go_loopw [4] (fun i wq=>∃ k:Nat,k <= ds.length/\i=.int .i64 k/\Hid (dfsB ds is.length ds 0=dfsB ds is.length (ds.drop k) k)/\Below wr.heap.size wr wq) (fun i _=>ds.length - (intOf i).toNat)
      case atStart=>exact ⟨0,by omega,rfl,rfl,Below.refl _ _⟩
      case round =>
       obtain ⟨k2,ag,rfl,y,j⟩:=hrel
       have u:=M.trans (j.mono M.size)
       have v:=(j.block _ O).trans h
       have ae:=Nat.lt_of_lt_of_le O j.size
       have p0:wr.cell? ⟨w.heap.size,0,none⟩=some (.slice L ns.length c1):=by rw [cell_of_row wr _ 0 _ _ _ v];rfl
       have p1:wr.cell? ⟨w.heap.size,0+1,none⟩=some (.slice D is.length c2):=by rw [cell_of_row wr _ 1 _ _ _ v];rfl
       have p2:wr.cell? ⟨w.heap.size,0+2,none⟩=some (.slice H ds.length c3):=by rw [cell_of_row wr _ 2 _ _ _ v];rfl
       clear q0 q1 q2 h
       by_cases A:k2 < ds.length
       ·obtain ⟨g,o,rfl,hg,a⟩:=a (by intro e;subst e;simp at A)
        obtain ⟨x,r⟩:∃ x,ds[k2]? = some x:=⟨ds[k2],by simp [A]⟩
        obtain ⟨d0,d1,d2⟩:=(a k2 x r).below u hg
        have Y:=hz x (List.mem_of_getElem? r)
        have T:Hid (Za5 ns is ds=(dfB ds is.length x k2 && dfsB ds is.length (ds.drop (k2+1)) (k2+1))):=by unfold Hid;rw [G.out,y.out,Zdn ds k2 is.length x r]
        have HD:Hid (dfsB ds is.length (ds.drop k2) k2=(dfB ds is.length x k2 && dfsB ds is.length (ds.drop (k2+1)) (k2+1))):=Zdn ds k2 is.length x r
        clear a r
        go_wp2_with fail
        refine (ZaT x.s _ Y).mono ?_
        rintro e w2 ⟨rfl,rfl⟩
        have f:Below w.heap.size w (wr.alloc (Obj.cells #[.string x.s,.int .i64 x.p,.int .i64 x.m] 155)):=u.alloc u.size _
        have d:Below _ _ (wr.alloc (Obj.cells #[.string x.s,.int .i64 x.p,.int .i64 x.m] 155)):=j.alloc j.size _
        cases J:Zb1 x.s with
        | false =>
         have c:Hid (Za5 ns is ds=false):=by unfold Hid;rw [T.out];simp [dfB,J]
         go_wp2
         go_ret
         exact ⟨by rw [c.out];rfl,f⟩
        | true =>
         go_wp2_with fail
         refine (ZhE _ _ _ _ _ _ _ ds x.s _ (R3.below f)).mono ?_
         rintro e B ⟨rfl,q⟩
         have C:=f.trans (q.mono f.size)
         have P:=d.trans (q.mono d.size)
         have aa:B.heap[w.heap.size]? = some (.cells #[.slice L ns.length c1,.slice D is.length c2,.slice (some ⟨g,o,none⟩) ds.length c3] 44 (0,0)):=(q.block _ (by simp;omega)).trans ((heap_alloc_old _ _ ae).trans v)
         have N:B.heap[wr.heap.size]? = some (.cells #[.string x.s,.int .i64 x.p,.int .i64 x.m] 155 (0,0)):=(q.block _ (by simp)).trans (heap_alloc_new _ _)
         have R:B.cell? ⟨w.heap.size,0+1,none⟩=some (.slice D is.length c2):=by rw [cell_of_row B _ 1 _ _ _ aa];rfl
         have t1:B.cell? ⟨wr.heap.size,0+1,none⟩=some (.int .i64 x.p):=by rw [cell_of_row B _ 1 _ _ _ N];rfl
         have t2:B.cell? ⟨wr.heap.size,0+2,none⟩=some (.int .i64 x.m):=by rw [cell_of_row B _ 2 _ _ _ N];rfl
         clear q f d p0 p1 p2
         by_cases t:Zbg ds x.s 0=(k2:Int)
         ·rw [t]
          go_wp2_with fail
          refine (Zar _ _ _ _).mono ?_
          rintro e w4 ⟨rfl,rfl⟩
          have HP:Hid ((decide (0 <= x.p) && decide (x.p <= (is.length:Int) - 1))=(decide (0 <= x.p) && decide (x.p < is.length))):=by unfold Hid;rw [Bool.eq_iff_iff];simp;omega
          rw [HP.out]
          clear R t1
          cases I:(decide (0 <= x.p) && decide (x.p < is.length)) with
          | false =>
           have c:Hid (Za5 ns is ds=false):=by unfold Hid;rw [T.out,dfB,I];simp
           go_wp2
           go_ret
           exact ⟨by rw [c.out];rfl,C⟩
          | true =>
           go_wp2_with fail
           refine (Zar _ _ _ _).mono ?_
           rintro e w4 ⟨rfl,rfl⟩
           clear t2
           cases Q:(decide (0 <= x.m) && decide (x.m <= 4)) with
           | false =>
            have c:Hid (Za5 ns is ds=false):=by unfold Hid;rw [T.out,dfB,Q];simp
            go_wp2
            go_ret
            exact ⟨by rw [c.out];rfl,C⟩
           | true =>
            have c:Hid (dfsB ds is.length ds 0=dfsB ds is.length (ds.drop (k2+1)) (k2+1)):=by unfold Hid;rw [y.out,HD.out,dfB,Q,I,J,t];simp
            go_wp2
            go_roundw
            case rel=>exact ⟨k2+1,by omega,by go_num,c,P⟩
            case measure=>simp [intOf];omega
         ·have c:Hid (Za5 ns is ds=false):=by unfold Hid;rw [T.out];simp [dfB,t]
          generalize Zbg ds x.s 0=ix at t
          go_wp2
          go_ret
          exact ⟨by rw [c.out];rfl,C⟩
       ·have c:Hid (Za5 ns is ds=true):=by unfold Hid;rw [G.out,y.out,List.drop_eq_nil_of_le (by omega)];rfl
        clear y a
        go_wp2
        go_ret
        exact ⟨by rw [c.out];rfl,u⟩
   ·have c:Hid (Za5 ns is ds=false):=by unfold Hid;simp [Za5,h2]
    go_wp2
    go_ret
    exact ⟨by rw [c.out];rfl,n⟩
  ·have c:Hid (Za5 ns is ds=false):=by unfold Hid;simp [Za5,h4]
   go_wp2
   go_ret
   exact ⟨by rw [c.out];rfl,n⟩
theorem ZaA {P:Program}(w:World){ops:Array Oper}{g:List Oper}{o:Oper}{a:Act}{Q:Exit -> Act -> World -> Prop}(I:o.guard=none)(s x:Operand)(t:TypeId)(p:o.op=Op.call { callee:=Callee.builtin Builtin.append,args:=#[s,x],argTypes:=#[t,t] })(base:Nat)(e:TypeId)(i:TypeInfo)(z:Value)(size d:Nat)(y:P.underlying t=some (.slice e))(A:P.info? e=some i)(N:i.zero=some z)(U:i.size=size)(O:i.bytes=d)(R:z.cells.size=size)(V:0 < size)(v:Value)(k:Nat)(D:List Value)(G:a.eval s=v)(f:w.ownsRow base e size v k D)(C:Option Addr)(m c:Nat)(b:List Value)(H:a.eval x=.slice C m c)(J:b.length=m * size)(h:C=none -> m=0/\c=0)(M:∀ n,C=some n -> ∀ j u,b[j]? = some u -> w.cell? (n.add j)=some u)(F:∀ u ∈ b,u.oneCell'=true)(T:k+m <= maxLen)(S:(k+m) * d <= 140737488355328)(W:base <= w.heap.size)(L:∀ B r,r.ownsRow base e size B (k+m) (D ++ b) -> w.grownBy r v.ownBlock -> wpList P ops Q g (a.put o.dst B) r) :
  wpList P ops Q (o :: g) a w:=by
 cases C with
 | some n=>exact wpList_append_own w I s x t p base e i z size d y A N U O R V v k D G f n m c b H J (M n rfl) F T S W (fun B r y A _=>L B r y A)
 | none =>
  obtain ⟨rfl,rfl⟩:=h rfl
  have l:b=[]:=List.eq_nil_of_length_eq_zero (by simpa using J)
  subst l
  refine wpList_plain I fun K E=>?_
  have q:=run_append_owned_none (P:=P) w base t o.type e i size y A _ k D f
  unfold Oper.wp
  simp [execOp,p,resolve,invoke,builtin,G,H,q,Result.andThen]
  exact E _ _ (by simpa using L v w (by simpa using f) (World.grownBy.refl _ _))
theorem NRow.nilcap {w:World}{c:Option Addr}{n a:Nat}{f:List Nd}(h:NRow w (.slice c n a) f):c=none -> n=0/\a=0:=by
 obtain ⟨g,b,e,⟨i,d⟩,_⟩:=h
 simp only [Value.slice.injEq] at e
 obtain ⟨rfl,rfl,rfl⟩:=e
 intro h
 have:=d h
 omega
theorem Znn:(Tryz.prog.info? 40).map (·.size)=some 1:=by kernel_rfl
theorem ZiN (v:Value)(c:List Nd)(w:World)(R:NRow w v c)(F:c.length <= 4194304) :
  Calls Tryz.prog 200 #[.agg #[v]] w fun e z=>∃ y,e=.returned (.agg #[y])/\z.ownsRow w.heap.size 194 5 y c.length (ncs c)/\Below w.heap.size w z:=by
 have D:=R
 obtain ⟨o,f,rfl,A,_,_,_⟩:=D
 obtain ⟨B,hi,s,q,r⟩:=info_parts Zno
 have n:Below w.heap.size w (((w.alloc (Obj.cells #[.slice o c.length f] 40)).alloc (Obj.cells #[.slice none 0 0] 40)).alloc (Obj.cells #[] 194)):=(((Below.refl _ _).alloc (Nat.le_refl _) _).alloc (by simp) _).alloc (by simp;omega) _
 have u:=R.below n
 have g:(((w.alloc (Obj.cells #[.slice o c.length f] 40)).alloc (Obj.cells #[.slice none 0 0] 40)).alloc (Obj.cells #[] 194)).ownsRow (w.heap.size+2) 194 5 (.slice (some ⟨w.heap.size+1+1,0,none⟩) 0 0) 0 (ncs []):=by
  have:=World.ownsRow_made (base:=w.heap.size+2) (e:=194) (size:=5) ((w.alloc (Obj.cells #[.slice o c.length f] 40)).alloc (Obj.cells #[.slice none 0 0] 40)) #[] 0 (by simp) (by simp) (by simp)
  simpa [Zjk] using this
 go_enter Tryz.func200,Tryz.ntmps200
 go_wp2_with (at_builtin;refine ZaA _ rfl _ _ 38 rfl (w.heap.size+2) 194 B _ 5 48 Tryz.underlying38 hi s q r rfl (by decide) _ 0 _ rfl g o c.length f (ncs c) rfl (by rw [Zcq]) u.nilcap u.cells (Za2 c) (by unfold maxLen;omega) (by omega) (by simp) ?_)
 intro G i d m
 obtain ⟨l,h,rfl⟩:=Zag d
 have b:Below (w.heap.size+2) (((w.alloc (Obj.cells #[.slice o c.length f] 40)).alloc (Obj.cells #[.slice none 0 0] 40)).alloc (Obj.cells #[] 194)) i:=(Below.refl _ _).grown m (by simp) (fun k C=>by simp [Value.ownBlock] at C;omega)
 have x:=n.trans (b.mono (by omega))
 have j:i.heap[w.heap.size+1]? = some (.cells #[.slice none 0 0] 40 (0,0)):=(b.block _ (by omega)).trans ((heap_alloc_old _ _ (by simp)).trans (heap_alloc2_new _ _ _))
 have c3:i.cell? ⟨w.heap.size+1,0,none⟩=some (.slice none 0 0):=by rw [cell_of_row i _ 0 _ _ _ j];rfl
 have E:i.frozen? ⟨w.heap.size+1,0,none⟩=false:=frozen_of_row i _ 0 _ _ j
 clear m u g b
 go_wp2
 have t:=heap_setCell_same i (w.heap.size+1) 0 _ _ (.slice l c.length h) j
 refine bodyPost_ret (results_cell_row rfl _ _ (w.heap.size+1) 40 _ (0,0) _ (by simp) t Tryz.underlying40 rfl Znn) rfl ⟨_,rfl,?_,?_⟩
 ·have:=Zah (B':=w.heap.size) (ownsRow_setCell_below d (a:=⟨w.heap.size+1,0,none⟩) (by simp) (.slice l c.length h)) (by omega)
  simpa [Zjk] using this
 ·exact x.setCell (p:=⟨w.heap.size+1,0,none⟩) (by simp) _
def ZmL (xs:List Nd)(x:Nd):List Nd:=if Zas xs=true then (if xs.length ≠ 3000/\Zaz x xs.length=true then xs ++ [x] else xs) else []
def ZmJ (xs:List Nd)(x:Nd):Int:=if Zas xs=true then (if xs.length ≠ 3000/\Zaz x xs.length=true then xs.length else -1) else -1
theorem ZkX {B b d n c:Nat}{g e:World}{f:Option Addr}{h:List Value}(l:e.heap[B]? = some (.cells #[.slice none 0 0] 40 (0,0)))(j:e.ownsRow d 194 5 (.slice f n c) n h)(m:Below b g e)(i:B < d)(k:b <= B) :
  (e.setCell ⟨B,0,none⟩ (.slice f n c)).heap[B]? = some (.cells #[.slice f n c] 40 (0,0))/\(e.setCell ⟨B,0,none⟩ (.slice f n c)).ownsRow b 194 5 (.slice f n c) n h/\Below b g (e.setCell ⟨B,0,none⟩ (.slice f n c)) :=
 ⟨heap_setCell_same e B 0 _ _ _ l,Zah (ownsRow_setCell_below j (a:=⟨B,0,none⟩) i _) (by omega),m.setCell (p:=⟨B,0,none⟩) k _⟩
def IRow (w:World)(v:Value)(zs:List Int):Prop :=
 ∃ ao cap,v=.slice ao zs.length cap/\(zs.length <= cap/\(ao=none -> cap=0))/\zs.length <= 9223372036854775807/\(zs ≠ [] -> ∃ g o,ao=some ⟨g,o,none⟩/\g < w.heap.size/\∀ i,i < zs.length -> w.cell? ⟨g,o+i,none⟩=some (.int .i64 (zs.getD i 0)))
theorem IRow.below {w f:World}{v:Value}{zs:List Int}(h:IRow w v zs)(d:Below w.heap.size w f):IRow f v zs:=by
 obtain ⟨l,c,rfl,k,j,a⟩:=h
 refine ⟨l,c,rfl,k,j,fun b=>?_⟩
 obtain ⟨g,o,rfl,e,a⟩:=a b
 exact ⟨g,o,rfl,Nat.lt_of_lt_of_le e d.size,fun i hi=>(d.cell (p:=⟨g,o+i,none⟩) e).trans (a i hi)⟩
theorem IRow.of_own {w:World}{base:Nat}{v:Value}{zs:List Int}(h:w.ownsRow base 3 1 v zs.length (iv zs))(e:zs.length <= 9223372036854775807):IRow w v zs:=by
 rcases h.2 with ⟨rfl,d⟩ | ⟨g,b,cur,rfl,l,f,c,j,k,a⟩
 ·have:zs=[]:=List.eq_nil_of_length_eq_zero d
  subst this
  exact ⟨none,0,rfl,by simp,by simp,fun h=>absurd rfl h⟩
 ·refine ⟨_,b,rfl,⟨c,fun h=>by cases h⟩,e,fun _=>⟨g,0,rfl,(bl f),fun i hi=>?_⟩⟩
  have:=h.cellAt i (by omega)
  rw [Nat.zero_add,this,ZcT zs i hi]
def Zmr (k:Int)(zs:List Int)(i:Nat):List Int:=(List.range i).map (fun (j:Nat)=>k+(j:Int)) ++ zs.drop i
def nilN:Nd:=⟨1,0,ByteArray.empty,0,0⟩
def Zmx (z:Int)(last:Nat):Nd:=⟨5,0,ByteArray.empty,z,last⟩
def Zlq:List Int -> Nat -> List Nd
 | [],_=>[]
 | z :: r,last=>Zmx z last :: Zlq r (last+1)
def more (zs:List Int)(n m:Nat):List Nd:=nilN :: Zlq (zs.drop m).reverse n
def allI (xs:List Nd)(zs:List Int):Bool:=zs.all (hasI xs)
def mlOk (xs:List Nd)(zs:List Int):Bool:=decide (xs.length+1+zs.length <= 3000) && allI xs zs
def mlL (xs:List Nd)(zs:List Int):List Nd:=if Zas xs=true then (if mlOk xs zs=true then xs ++ more zs xs.length 0 else xs) else []
def mlI (xs:List Nd)(zs:List Int):Int:=if Zas xs=true then (if mlOk xs zs=true then ((xs.length+zs.length:Nat):Int) else -1) else -1
theorem Zg4 (p:Int -> Bool)(zs:List Int)(k:Nat)(h:k < zs.length):(zs.drop k).all p=(p (zs.getD k 0) && (zs.drop (k+1)).all p):=by
 rw [List.drop_eq_getElem_cons h,List.all_cons,List.getD_eq_getElem?_getD,List.getElem?_eq_getElem h]
 rfl
theorem Zh9 (v t:Value)(b:List Nd)(zs:List Int)(w:World)(R:NRow w v b)(L:IRow w t zs) :
  Calls Tryz.prog 189 #[.agg #[v],t] w fun e F=>e=.returned (.bool (allI b zs))/\Below w.heap.size w F:=by
 have D:=R
 obtain ⟨E,s,rfl,_⟩:=D
 obtain ⟨I,G,rfl,x,y,a⟩:=L
 go_enter Tryz.func189,Tryz.ntmps189
 go_wp2_with fail
 go_loopw [9] (fun i wr=>∃ k:Nat,k <= zs.length/\i=.int .i64 k/\Hid (allI b zs=(zs.drop k).all (hasI b))/\wr.cell? ⟨w.heap.size,0,none⟩=some (.slice E b.length s)/\w.heap.size < wr.heap.size/\Below w.heap.size w wr) (fun i _=>zs.length - (intOf i).toNat)
 case atStart=>exact ⟨0,by omega,rfl,by simp [Hid,allI],by simp,by simp,(Below.refl _ _).alloc (Nat.le_refl _) _⟩
 case round =>
  obtain ⟨k,J,rfl,r,d,m,j⟩:=hrel
  by_cases h:k < zs.length
  ·obtain ⟨g,o,rfl,C,a⟩:=a (by intro e;subst e;simp at h)
   have c0:=(j.cell (p:=⟨g,o+k,none⟩) C).trans (a k h)
   have q:Hid (allI b zs=(hasI b (zs.getD k 0) && (zs.drop (k+1)).all (hasI b))):=by unfold Hid;rw [r.out,Zg4 _ _ _ h]
   clear a r
   generalize zs.getD k 0=z at c0 q
   go_wp2_with fail
   refine (ZgG _ b _ _ (R.below j)).mono ?_
   rintro e H ⟨rfl,c⟩
   have n:=j.trans (c.mono j.size)
   have f:=(c.cell (p:=⟨w.heap.size,0,none⟩) m).trans d
   have l:=Nat.lt_of_lt_of_le m c.size
   clear c0 c d j
   generalize u:hasI b z=A at q ⊢
   clear u
   cases A with
   | false =>
    go_wp2
    go_ret
    exact ⟨by rw [q.out];rfl,n⟩
   | true =>
    go_wp2
    go_roundw
    case rel=>exact ⟨k+1,by omega,by go_num,by rw [q.out];rfl,f,l,n⟩
    case measure=>simp [intOf];omega
  ·have e:k=zs.length:=by omega
   subst e
   have B:Hid (allI b zs=true):=by unfold Hid;rw [r.out,List.drop_length];rfl
   clear r
   go_wp2
   go_ret
   exact ⟨by rw [B.out];rfl,j⟩
def Zcg (n:Nat)(p:Int):Bool:=decide (0 <= p) && decide (p < n)
def askB (q:Int):Bool:=decide (12 < q) && decide (q <= 19) && decide (q ≠ 18)
def ZbG (n:Nat)(xs:List Nd)(m:Mc):Bool :=
  if m.t=0 then Zcg n m.p && decide (m.q=0) && decide (m.r=0)
  else if m.t=1 then Zcg n m.p && askB m.q && hasI xs m.r
  else if m.t=2 then decide (m.p=0) && decide (m.q=0) && hasI xs m.r
  else if m.t=3 then decide (m.p=0) && decide (1 <= m.q) && decide (m.q <= 7) && decide (m.r=0)
  else false
theorem ZgF (q:Int)(w:World):Calls Tryz.prog 204 #[.int .i64 q] w fun e d=>e=.returned (.bool (askB q))/\d=w:=by
  go_enter Tryz.func204,Tryz.ntmps204
  by_cases b:12 < q
  · by_cases c:q <= 19
    · by_cases a:q=18
      · subst a
        go_wp2
        go_ret
        exact ⟨rfl,rfl⟩
      · have f:(q == 18)=false:=by simp [a]
        have g:decide (q=18)=false:=by simp [a]
        go_wp2
        go_ret
        exact ⟨by simp [askB,b,c,a],rfl⟩
    · go_wp2
      go_ret
      exact ⟨by simp [askB];omega,rfl⟩
  · go_wp2
    go_ret
    exact ⟨by simp [askB];omega,rfl⟩
theorem ZdX (O Q L:Option Addr)(n1 n2 K c1 c2 c3:Nat)(v:Value)(j:List Nd)(m:Mc)(w:World)(R:NRow w v j) :
    Calls Tryz.prog 190 #[.agg #[.slice O n1 c1,.slice Q n2 c2,.slice L K c3],.agg #[v,.int .i64 m.p,.int .i64 m.s,.int .i64 m.e,.int .i64 m.d,.int .i64 m.t,.int .i64 m.q,.int .i64 m.r]] w fun e Z=>e=.returned (.bool (ZbG n2 j m))/\Below w.heap.size w Z:=by
  have X:=R
  obtain ⟨P,z,rfl,_⟩:=X
  obtain ⟨b,y,B,C,mt,f,g⟩:=m
  have a:Below w.heap.size w ((w.alloc (Obj.cells #[.slice O n1 c1,.slice Q n2 c2,.slice L K c3] 44)).alloc (Obj.cells #[.slice P j.length z,.int .i64 b,.int .i64 y,.int .i64 B,.int .i64 C,.int .i64 mt,.int .i64 f,.int .i64 g] 61)):=((Below.refl _ _).alloc (Nat.le_refl _) _).alloc (by simp) _
  have l:=heap_alloc2_new w (Obj.cells #[.slice O n1 c1,.slice Q n2 c2,.slice L K c3] 44) (Obj.cells #[.slice P j.length z,.int .i64 b,.int .i64 y,.int .i64 B,.int .i64 C,.int .i64 mt,.int .i64 f,.int .i64 g] 61)
  have N:=R.below a
  have D:=(bl l)
  go_enter Tryz.func190,Tryz.ntmps190
  by_cases G:mt=0
  · subst G
    go_wp2_with fail
    refine (ZcI _ _ _ _ _ _ _ _ _ b _).mono ?_
    rintro e n ⟨rfl,k⟩
    have i:=a.trans (k.mono a.size)
    have h:=(k.block _ D).trans l
    have U:n.cell? ⟨w.heap.size+1,0+6,none⟩=some (.int .i64 f):=by rw [cell_of_row n _ 6 _ _ _ h];rfl
    have T:n.cell? ⟨w.heap.size+1,0+7,none⟩=some (.int .i64 g):=by rw [cell_of_row n _ 7 _ _ _ h];rfl
    have c:Hid (ZbG n2 j ⟨b,y,B,C,0,f,g⟩=((decide (0 <= b) && decide (b < n2)) && decide (f=0) && decide (g=0))):=rfl
    generalize (decide (0 <= b) && decide (b < n2))=bb at c ⊢
    clear l h k a N
    cases bb with
    | true =>
      go_wp2
      all_goals
        go_ret
        refine ⟨retB ?_,i⟩
        rw [c.out]
        first | (simp [*];done) | (simp [*];rfl)
    | false =>
      go_wp2
      go_ret
      exact ⟨retB (by rw [c.out];rfl),i⟩
  · by_cases H:mt=1
    · subst H
      go_wp2_with fail
      refine (ZcI _ _ _ _ _ _ _ _ _ b _).mono ?_
      rintro e n ⟨rfl,k⟩
      have i:=a.trans (k.mono a.size)
      have h:=(k.block _ D).trans l
      have W:n.cell? ⟨w.heap.size+1,0,none⟩=some (.slice P j.length z):=by rw [cell_of_row n _ 0 _ _ _ h];rfl
      have U:n.cell? ⟨w.heap.size+1,0+6,none⟩=some (.int .i64 f):=by rw [cell_of_row n _ 6 _ _ _ h];rfl
      have T:n.cell? ⟨w.heap.size+1,0+7,none⟩=some (.int .i64 g):=by rw [cell_of_row n _ 7 _ _ _ h];rfl
      have c:Hid (ZbG n2 j ⟨b,y,B,C,1,f,g⟩=((decide (0 <= b) && decide (b < n2)) && askB f && hasI j g)):=rfl
      generalize (decide (0 <= b) && decide (b < n2))=bb at c ⊢
      clear l h k a N
      cases bb with
      | true =>
        go_wp2_with fail
        refine (ZgF f _).mono ?_
        rintro e w2 ⟨rfl,rfl⟩
        generalize askB f=Y at c ⊢
        cases Y with
        | true =>
          go_wp2_with fail
          refine (ZgG _ j g _ (R.below i)).mono ?_
          rintro e w3 ⟨rfl,x⟩
          have u:=i.trans (x.mono i.size)
          generalize hasI j g=S at c ⊢
          clear W U T
          cases S <;>
            (go_wp2
             go_ret
             exact ⟨retB (by rw [c.out];rfl),u⟩)
        | false =>
          go_wp2
          go_ret
          exact ⟨retB (by rw [c.out];rfl),i⟩
      | false =>
        go_wp2
        go_ret
        exact ⟨retB (by rw [c.out];rfl),i⟩
    · by_cases I:mt=2
      · subst I
        have c:Hid (ZbG n2 j ⟨b,y,B,C,2,f,g⟩=(decide (b=0) && decide (f=0) && hasI j g)):=rfl
        by_cases A:b=0
        · subst A
          by_cases J:f=0
          · subst J
            go_wp2_with fail
            refine (ZgG _ j g _ N).mono ?_
            rintro e w3 ⟨rfl,x⟩
            have u:=a.trans (x.mono a.size)
            generalize hasI j g=S at c ⊢
            cases S <;>
              (go_wp2
               go_ret
               exact ⟨retB (by rw [c.out];rfl),u⟩)
          · have F:(f == 0)=false:=by simp [J]
            have o:decide (f=0)=false:=by simp [J]
            go_wp2
            go_ret
            exact ⟨retB (by rw [c.out,o];rfl),a⟩
        · have F:(b == 0)=false:=by simp [A]
          have o:decide (b=0)=false:=by simp [A]
          go_wp2
          go_ret
          exact ⟨retB (by rw [c.out,o];rfl),a⟩
      · by_cases E:mt=3
        · subst E
          have c:Hid (ZbG n2 j ⟨b,y,B,C,3,f,g⟩=(decide (b=0) && decide (1 <= f) && decide (f <= 7) && decide (g=0))):=rfl
          by_cases A:b=0
          · subst A
            by_cases q1:1 <= f
            · by_cases V:f <= 7
              · by_cases M:g=0
                · subst M
                  go_wp2
                  go_ret
                  exact ⟨retB (by rw [c.out];simp [q1,V]),a⟩
                · have F:(g == 0)=false:=by simp [M]
                  have o:decide (g=0)=false:=by simp [M]
                  go_wp2
                  go_ret
                  exact ⟨retB (by rw [c.out,o];simp),a⟩
              · go_wp2
                go_ret
                exact ⟨retB (by rw [c.out];simp;omega),a⟩
            · go_wp2
              go_ret
              exact ⟨retB (by rw [c.out];simp;omega),a⟩
          · have F:(b == 0)=false:=by simp [A]
            have o:decide (b=0)=false:=by simp [A]
            go_wp2
            go_ret
            exact ⟨retB (by rw [c.out,o];rfl),a⟩
        · have c:Hid (ZbG n2 j ⟨b,y,B,C,mt,f,g⟩=false):=by unfold Hid ZbG;simp [G,H,I,E]
          have g0:(mt == 0)=false:=by simp [G]
          have F:(mt == 1)=false:=by simp [H]
          have o:(mt == 2)=false:=by simp [I]
          have g3:(mt == 3)=false:=by simp [E]
          have f0:decide (mt=0)=false:=by simp [G]
          have f1:decide (mt=1)=false:=by simp [H]
          have f2:decide (mt=2)=false:=by simp [I]
          have f3:decide (mt=3)=false:=by simp [E]
          go_wp2
          go_ret
          exact ⟨retB (by rw [c.out]),a⟩
def Za3 (ns:List Nd)(is:List In)(ds:List Df)(xs:List Nd)(m:Mc):Bool:=Za5 ns is ds && Zas xs && allI xs [m.s,m.e,m.d] && ZbG is.length xs m
theorem ZmT:(Tryz.prog.info? 44).map (·.size)=some 3:=by kernel_rfl
theorem IRow.lit3 (w:World)(a b c:Int):IRow (w.alloc (Obj.cells #[.int .i64 a,.int .i64 b,.int .i64 c] 3)) (.slice (some ⟨w.heap.size,0,none⟩) 3 3) [a,b,c]:=by
  refine ⟨_,3,rfl,⟨by simp,fun h=>by cases h⟩,by simp,fun _=>⟨_,0,rfl,by simp,fun i hi=>?_⟩⟩
  rw [cell_of_row _ w.heap.size (0+i) _ 3 (0,0) (heap_alloc_new w _)]
  have:i=0 \/ i=1 \/ i=2:=by simp at hi;omega
  rcases this with rfl | rfl | rfl <;> rfl
theorem ZcF (N W V v:Value)(ns:List Nd)(is:List In)(ds:List Df)(c:List Nd)(m:Mc)(w:World)(T:NRow w N ns)(O:InRow w W is)(Q:DfRow w V ds)(R:NRow w v c) :
    Calls Tryz.prog 157 #[.agg #[N,W,V],.agg #[v,.int .i64 m.p,.int .i64 m.s,.int .i64 m.e,.int .i64 m.d,.int .i64 m.t,.int .i64 m.q,.int .i64 m.r]] w fun e w'=>e=.returned (.bool (Za3 ns is ds c m))/\Below w.heap.size w w':=by
  have Y:=R
  obtain ⟨H,o,rfl,_⟩:=Y
  obtain ⟨S,c1,rfl⟩:=T.small
  obtain ⟨U,c2,rfl⟩:=O.small
  obtain ⟨M,c3,rfl⟩:=Q.small
  obtain ⟨g,E,D⟩:=Zav w (Obj.cells #[.slice S ns.length c1,.slice U is.length c2,.slice M ds.length c3] 44) (Obj.cells #[.slice H c.length o,.int .i64 m.p,.int .i64 m.s,.int .i64 m.e,.int .i64 m.d,.int .i64 m.t,.int .i64 m.q,.int .i64 m.r] 61)
  go_enter Tryz.func157,Tryz.ntmps157
  go_wp2_with fail
  refine (Zgt _ _ _ ns is ds _ (T.below g) (O.below g) (Q.below g)).mono ?_
  rintro e P ⟨rfl,x⟩
  have k:=g.trans (x.mono g.size)
  have C:=(bb E x)
  have z:=(bb D x)
  clear g E D x
  have y:Hid (Za3 ns is ds c m=(Za5 ns is ds && Zas c && allI c [m.s,m.e,m.d] && ZbG is.length c m)):=rfl
  have G:P.cell? ⟨w.heap.size+1,0,none⟩=some (.slice H c.length o):=by rw [cell_of_row P _ 0 _ _ _ z];rfl
  generalize Za5 ns is ds=b1 at y ⊢
  cases b1 with
  | false =>
    go_wp2
    go_ret
    exact ⟨retB (by rw [y.out];rfl),k⟩
  | true =>
    go_wp2_with fail
    refine (ZfK _ c _ (R.below k)).mono ?_
    rintro e j ⟨rfl,u⟩
    have i:=k.trans (u.mono k.size)
    have F:=(bb C u)
    have h:=(bb z u)
    clear k C z u G
    have G:j.cell? ⟨w.heap.size+1,0,none⟩=some (.slice H c.length o):=by rw [cell_of_row j _ 0 _ _ _ h];rfl
    have k2:j.cell? ⟨w.heap.size+1,0+2,none⟩=some (.int .i64 m.s):=by rw [cell_of_row j _ 2 _ _ _ h];rfl
    have L:j.cell? ⟨w.heap.size+1,0+3,none⟩=some (.int .i64 m.e):=by rw [cell_of_row j _ 3 _ _ _ h];rfl
    have K:j.cell? ⟨w.heap.size+1,0+4,none⟩=some (.int .i64 m.d):=by rw [cell_of_row j _ 4 _ _ _ h];rfl
    generalize Zas c=Z at y ⊢
    cases Z with
    | false =>
      go_wp2
      go_ret
      exact ⟨retB (by rw [y.out];rfl),i⟩
    | true =>
      have n:Below j.heap.size j (j.alloc (Obj.cells #[.int .i64 m.s,.int .i64 m.e,.int .i64 m.d] 3)):=(Below.refl _ _).alloc (Nat.le_refl _) _
      go_wp2_with fail
      refine (Zh9 _ _ c [m.s,m.e,m.d] _ (R.below (i.trans (n.mono i.size))) (IRow.lit3 j m.s m.e m.d)).mono ?_
      rintro e a ⟨rfl,B⟩
      have f:=n.trans (B.mono n.size)
      have l:=i.trans (f.mono i.size)
      have A:=(bb F f)
      have b:=(bb h f)
      clear i F h B f n G k2 L K
      generalize allI c [m.s,m.e,m.d]=b3 at y ⊢
      cases b3 with
      | false =>
        go_wp2
        go_ret
        exact ⟨retB (by rw [y.out];rfl),l⟩
      | true =>
        have l0:a.cell? ⟨w.heap.size,0,none⟩=some (.slice S ns.length c1):=cell_of_row a _ 0 _ _ _ A
        have l1:a.cell? ⟨w.heap.size,1,none⟩=some (.slice U is.length c2):=cell_of_row a _ 1 _ _ _ A
        have l2:a.cell? ⟨w.heap.size,2,none⟩=some (.slice M ds.length c3):=cell_of_row a _ 2 _ _ _ A
        have G:a.cell? ⟨w.heap.size+1,0,none⟩=some (.slice H c.length o):=cell_of_row a _ 0 _ _ _ b
        have k1:a.cell? ⟨w.heap.size+1,1,none⟩=some (.int .i64 m.p):=cell_of_row a _ 1 _ _ _ b
        have k2:a.cell? ⟨w.heap.size+1,2,none⟩=some (.int .i64 m.s):=cell_of_row a _ 2 _ _ _ b
        have L:a.cell? ⟨w.heap.size+1,3,none⟩=some (.int .i64 m.e):=cell_of_row a _ 3 _ _ _ b
        have K:a.cell? ⟨w.heap.size+1,4,none⟩=some (.int .i64 m.d):=cell_of_row a _ 4 _ _ _ b
        have k5:a.cell? ⟨w.heap.size+1,5,none⟩=some (.int .i64 m.t):=cell_of_row a _ 5 _ _ _ b
        have k6:a.cell? ⟨w.heap.size+1,6,none⟩=some (.int .i64 m.q):=cell_of_row a _ 6 _ _ _ b
        have k7:a.cell? ⟨w.heap.size+1,7,none⟩=some (.int .i64 m.r):=cell_of_row a _ 7 _ _ _ b
        go_wp2_with fail
        refine (ZdX _ _ _ _ _ _ _ _ _ _ c m _ (R.below l)).mono ?_
        rintro e w4 ⟨rfl,J⟩
        have I:=l.trans (J.mono l.size)
        generalize ZbG is.length c m=X at y ⊢
        cases X <;>
          (go_wp2
           go_ret
           exact ⟨retB (by rw [y.out];rfl),I⟩)
end Go.Proofs.YtfeodlbpnghakaaGreatDoor
