/-
  Texts that stood by themselves, laid into one.
-/
import Derived.Test.YtkpfangkfknhoaaGreatDoorRulesM
import Derived.Test.YtkpfangkfknhoaaGreatDoorMark2M
import Derived.Test.YtkpfangkfknhoaaGreatDoorMcTM
/-
  The contracts of impl.defsFit, impl.CodeOk and spec.CodeOk. No condition.
-/
set_option maxRecDepth 100000
set_option maxHeartbeats 4000000
namespace Go.Proofs.YtkpfangkfknhoaaGreatDoor
open Go.Proofs.Tryz
open Go.RowKit
def dfB (ds:List Df)(n2:Nat)(d:Df)(i:Nat):Bool :=
 Zb3 d.s && (Zbj ds d.s 0 == (i:Int)) && (decide (0 <= d.p) && decide (d.p < n2)) && (decide (0 <= d.m) && decide (d.m <= 4))
def dfsB (all:List Df)(n2:Nat)(ds:List Df)(i:Nat):Bool:=match ds with
 | []=>true
 | d :: ds=>dfB all n2 d i && dfsB all n2 ds (i+1)
theorem ZdM (ds:List Df)(i n2:Nat)(x:Df)(h:ds[i]? = some x):dfsB ds n2 (ds.drop i) i=(dfB ds n2 x i && dfsB ds n2 (ds.drop (i+1)) (i+1)):=by
 obtain ⟨a,b⟩:=List.getElem?_eq_some_iff.1 h;rw [List.drop_eq_getElem_cons a,b];rfl
def ZaY (ns:List Nd)(is:List In)(ds:List Df):Bool :=
 Zau ns && (decide (is.length <= 400) && insB is 0 ns.length is.length) && (decide (ds.length <= 20) && dfsB ds is.length ds 0)
theorem ZgZ (n:Int)(w:World):Calls prog 157 #[.int .i64 n] w fun e a=>e=.returned (.bool (decide (0 <= n) && decide (n <= 4)))/\a=w:=by
 go_enter func157,ntmps157
 go_wp2
 all_goals
  go_ret;refine ⟨retB ?_,rfl⟩
  first | (simp [*];done) | (simp [*];omega)
theorem ZcL (c d f:Option Addr)(n1 n2 a c1 c2 c3:Nat)(n:Int)(w:World):Calls prog 156 #[.agg #[.slice c n1 c1,.slice d n2 c2,.slice f a c3],.int .i64 n] w fun e b=>e=.returned (.bool (decide (0 <= n) && decide (n < n2)))/\Below w.heap.size w b:=by
 go_enter func156,ntmps156
 go_wp2
 all_goals
  go_ret;refine ⟨retB ?_,(cj _ _).alloc (ce _) _⟩
  first | (simp [*];done) | (simp [*];omega)
theorem Zgv (t u:Option Addr)(n1 c1 n2 c2:Nat)(Z:Value)(ds:List Df)(w:World)(R:DfRow w Z ds) :
  Calls prog 122 #[.agg #[.slice t n1 c1,.slice u n2 c2,Z]] w fun e w'=>e=.returned (.bool (decide (ds.length <= 20) && dfsB ds n2 ds 0))/\Below w.heap.size w w':=by
 have R':=R;obtain ⟨Q,c3,rfl,Y,hm,hz,a⟩:=R';have A:Below w.heap.size w (w.alloc (Obj.cells #[.slice t n1 c1,.slice u n2 c2,.slice Q ds.length c3] 44)):=(cj _ _).alloc (ce _) _
 by_cases X:ds.length <= 20
 ·have y:Hid (decide (ds.length <= 20)=true):=by unfold Hid;simp [X]
  go_enter func122,ntmps122
  have F:=co w (Obj.cells #[.slice t n1 c1,.slice u n2 c2,.slice Q ds.length c3] 44);have M:w.heap.size < (w.alloc (Obj.cells #[.slice t n1 c1,.slice u n2 c2,.slice Q ds.length c3] 44)).heap.size:=by simp
  go_wp2_with fail;generalize w.alloc (Obj.cells #[.slice t n1 c1,.slice u n2 c2,.slice Q ds.length c3] 44)=N at *
  go_loopw [12] (fun i wr=>∃ k:Nat,k <= ds.length/\i=.int .i64 k/\Hid (dfsB ds n2 ds 0=dfsB ds n2 (ds.drop k) k)/\Below N.heap.size N wr) (fun i _=>ds.length - (intOf i).toNat)
  case atStart=>exact ⟨0,by omega,rfl,rfl,cj _ _⟩
  case round =>
   obtain ⟨k,hk,rfl,O,K⟩:=hrel;have P:=A.trans (K.mono A.size)
   by_cases E:k < ds.length
   ·obtain ⟨g,o,rfl,hg,a⟩:=a (by intro e;subst e;simp at E)
    obtain ⟨x,S⟩:∃ x,ds[k]? = some x:=⟨ds[k],by simp [E]⟩;obtain ⟨d0,d1,d2⟩:=(a k x S).below P hg;have U:=hz x (List.mem_of_getElem? S);have L:Hid (dfsB ds n2 ds 0=(dfB ds n2 x k && dfsB ds n2 (ds.drop (k+1)) (k+1))):=by unfold Hid;rw [O.out,ZdM ds k n2 x S]
    have q:=(K.block _ M).trans F;have H:=cy M K.size;clear a S O F;have q0:wr.cell? ⟨w.heap.size,0,none⟩=some (.slice t n1 c1):=by rw [cd wr _ 0 _ _ _ q];rfl
    have q1:wr.cell? ⟨w.heap.size,0+1,none⟩=some (.slice u n2 c2):=by rw [cd wr _ 1 _ _ _ q];rfl
    have q2:wr.cell? ⟨w.heap.size,0+2,none⟩=some (.slice (some ⟨g,o,none⟩) ds.length c3):=by rw [cd wr _ 2 _ _ _ q];rfl
    go_wp2_with fail;refine (ZdO x.s _ U).mono ?_;rintro e w1 ⟨rfl,rfl⟩;have h:Below w.heap.size w (wr.alloc (Obj.cells #[.string x.s,.int .i64 x.p,.int .i64 x.m] 157)):=P.alloc P.size _;have v:Below N.heap.size N (wr.alloc (Obj.cells #[.string x.s,.int .i64 x.p,.int .i64 x.m] 157)):=K.alloc K.size _;cases B:Zb3 x.s with
    | false =>
     have f:Hid (dfsB ds n2 ds 0=false):=by unfold Hid;rw [L.out];simp [dfB,B]
     go_wp2;go_ret;exact ⟨by rw [y.out,f.out];rfl,h⟩
    | true =>
     go_wp2_with fail;refine (Zik _ _ _ _ _ _ _ ds x.s _ (R.below h)).mono ?_;rintro e b ⟨rfl,c⟩;have n:=h.trans (c.mono h.size);have d:=v.trans (c.mono v.size);have r:b.heap[w.heap.size]? = some (.cells #[.slice t n1 c1,.slice u n2 c2,.slice (some ⟨g,o,none⟩) ds.length c3] 44 (0,0)):=(c.block _ (by simp;omega)).trans ((cz _ _ H).trans q);have z:b.heap[wr.heap.size]? = some (.cells #[.string x.s,.int .i64 x.p,.int .i64 x.m] 157 (0,0)):=(c.block _ (by simp)).trans (co _ _);have W:=(bl r);have J:=(bl z);have r0:b.cell? ⟨w.heap.size,0,none⟩=some (.slice t n1 c1):=by rw [cd b _ 0 _ _ _ r];rfl
     have r1:b.cell? ⟨w.heap.size,0+1,none⟩=some (.slice u n2 c2):=by rw [cd b _ 1 _ _ _ r];rfl
     have r2:b.cell? ⟨w.heap.size,0+2,none⟩=some (.slice (some ⟨g,o,none⟩) ds.length c3):=by rw [cd b _ 2 _ _ _ r];rfl
     have t1:b.cell? ⟨wr.heap.size,0+1,none⟩=some (.int .i64 x.p):=by rw [cd b _ 1 _ _ _ z];rfl
     have V:b.cell? ⟨wr.heap.size,0+2,none⟩=some (.int .i64 x.m):=by rw [cd b _ 2 _ _ _ z];rfl
     clear c h v q0 q1 q2
     by_cases l:Zbj ds x.s 0=(k:Int)
     ·rw [l]
      go_wp2_with fail;refine (ZcL _ _ _ _ _ _ _ _ _ _ _).mono ?_;rintro e w3 ⟨rfl,j⟩;have C:=n.trans (j.mono n.size);have D:=d.trans (j.mono d.size);have T:=(j.cell (p:=⟨wr.heap.size,0+2,none⟩) J).trans V;clear r0 r1 r2 t1 V j n d;cases I:(decide (0 <= x.p) && decide (x.p < n2)) with
      | false =>
       have f:Hid (dfsB ds n2 ds 0=false):=by unfold Hid;rw [L.out,dfB,I];simp
       go_wp2;go_ret;exact ⟨by rw [y.out,f.out];rfl,C⟩
      | true =>
       go_wp2_with fail;refine (ZgZ _ _).mono ?_;rintro e w4 ⟨rfl,rfl⟩;clear T;cases G:(decide (0 <= x.m) && decide (x.m <= 4)) with
       | false =>
        have f:Hid (dfsB ds n2 ds 0=false):=by unfold Hid;rw [L.out,dfB,G];simp
        go_wp2;go_ret;exact ⟨by rw [y.out,f.out];rfl,C⟩
       | true =>
        have f:Hid (dfsB ds n2 ds 0=dfsB ds n2 (ds.drop (k+1)) (k+1)):=by unfold Hid;rw [L.out,dfB,G,I,B,l];simp
        go_wp2
        go_roundw
        case rel=>exact ⟨k+1,by omega,by go_num,f,D⟩
        case measure=>simp [intOf];omega
     ·have f:Hid (dfsB ds n2 ds 0=false):=by unfold Hid;rw [L.out];simp [dfB,l]
      generalize Zbj ds x.s 0=ix at l;go_wp2;go_ret;exact ⟨by rw [y.out,f.out];rfl,n⟩
   ·have f:Hid (dfsB ds n2 ds 0=true):=by unfold Hid;rw [O.out,List.drop_eq_nil_of_le (by omega)];rfl
    clear O a;go_wp2;go_ret;exact ⟨by rw [y.out,f.out];rfl,P⟩
 ·have y:Hid (decide (ds.length <= 20)=false):=by unfold Hid;simp [X]
  go_enter func122,ntmps122
  go_wp2;go_ret;exact ⟨by rw [y.out];rfl,A⟩
theorem Zd0 (s t x:Value)(ns:List Nd)(is:List In)(ds:List Df)(w:World)(u:NRow w s ns)(y:InRow w t is)(v:DfRow w x ds) :
  Calls prog 88 #[.agg #[s,t,x]] w fun e D=>e=.returned (.bool (ZaY ns is ds))/\Below w.heap.size w D:=by
 obtain ⟨n,c1,rfl⟩:=u.small;obtain ⟨o,c2,rfl⟩:=y.small;obtain ⟨p,c3,rfl⟩:=v.small;have d:Below w.heap.size w (w.alloc (Obj.cells #[.slice n ns.length c1,.slice o is.length c2,.slice p ds.length c3] 44)):=(cj _ _).alloc (ce _) _
 go_enter func88,ntmps88
 go_wp2_with fail;refine (Zft _ ns _ (u.below d)).mono ?_;rintro e i ⟨rfl,h⟩;have a:i.heap[w.heap.size]? = some (.cells #[.slice n ns.length c1,.slice o is.length c2,.slice p ds.length c3] 44 (0,0)):=(h.block _ (by simp)).trans (co _ _);have b:=d.trans (h.mono d.size);have m:=(bl a);have A:i.cell? ⟨w.heap.size,0,none⟩=some (.slice n ns.length c1):=by rw [cd i _ 0 _ _ _ a];rfl
 have C:i.cell? ⟨w.heap.size,0+1,none⟩=some (.slice o is.length c2):=by rw [cd i _ 1 _ _ _ a];rfl
 have B:i.cell? ⟨w.heap.size,0+2,none⟩=some (.slice p ds.length c3):=by rw [cd i _ 2 _ _ _ a];rfl
 clear d h;cases r:Zau ns with
 | false =>
  have l:Hid (ZaY ns is ds=false):=by unfold Hid;simp [ZaY,r]
  go_wp2;go_ret;exact ⟨by rw [l.out];rfl,b⟩
 | true =>
  go_wp2_with fail;refine (Zfk _ _ _ _ _ _ _ is _ (y.below b)).mono ?_;rintro e j ⟨rfl,g⟩;have f:=(g.block _ m).trans a;have c:=b.trans (g.mono b.size);have F:j.cell? ⟨w.heap.size,0,none⟩=some (.slice n ns.length c1):=by rw [cd j _ 0 _ _ _ f];rfl
  have E:j.cell? ⟨w.heap.size,0+1,none⟩=some (.slice o is.length c2):=by rw [cd j _ 1 _ _ _ f];rfl
  have z:j.cell? ⟨w.heap.size,0+2,none⟩=some (.slice p ds.length c3):=by rw [cd j _ 2 _ _ _ f];rfl
  clear g a A C B b m;cases hi:(decide (is.length <= 400) && insB is 0 ns.length is.length) with
  | false =>
   have l:Hid (ZaY ns is ds=false):=by unfold Hid;rw [ZaY,hi];simp
   go_wp2;go_ret;exact ⟨by rw [l.out];rfl,c⟩
  | true =>
   have l:Hid (ZaY ns is ds=(decide (ds.length <= 20) && dfsB ds is.length ds 0)):=by unfold Hid;rw [ZaY,hi,r];simp
   go_wp2_with fail;refine (Zgv _ _ _ _ _ _ _ ds _ (v.below c)).mono ?_;rintro e G ⟨rfl,k⟩;have q:=c.trans (k.mono c.size);clear k f F E z c;rw [<- l.out];go_wp2;go_ret;exact ⟨rfl,q⟩
theorem Zd2 (v1 v2 v3:Value)(ns:List Nd)(is:List In)(ds:List Df)(w:World)(R1:NRow w v1 ns)(R2:InRow w v2 is)(R3:DfRow w v3 ds) :
  Calls prog 76 #[.agg #[v1,v2,v3]] w fun e w'=>e=.returned (.bool (ZaY ns is ds))/\Below w.heap.size w w':=by
 have ab:ns.length <= 9223372036854775807:=by obtain ⟨_,_,_,_,S,_⟩:=R1;exact S
 have ae:is.length <= 9223372036854775807:=by obtain ⟨_,_,_,_,S,_⟩:=R2;exact S
 obtain ⟨L,c1,rfl⟩:=R1.small;obtain ⟨F,c2,rfl⟩:=R2.small;have aa:=R3;obtain ⟨O,c3,rfl,ac,S,hz,a⟩:=aa;have z:Below w.heap.size w (w.alloc (Obj.cells #[.slice L ns.length c1,.slice F is.length c2,.slice O ds.length c3] 44)):=(cj _ _).alloc (ce _) _
 go_enter func76,ntmps76
 go_wp2_with fail;refine (Zcc _ ns _ (R1.below z)).mono ?_;rintro e D ⟨rfl,E⟩;have q:D.heap[w.heap.size]? = some (.cells #[.slice L ns.length c1,.slice F is.length c2,.slice O ds.length c3] 44 (0,0)):=(E.block _ (by simp)).trans (co _ _);have n:=z.trans (E.mono z.size);have V:=(bl q);have T:D.cell? ⟨w.heap.size,0+1,none⟩=some (.slice F is.length c2):=by rw [cd D _ 1 _ _ _ q];rfl
 have r2:D.cell? ⟨w.heap.size,0+2,none⟩=some (.slice O ds.length c3):=by rw [cd D _ 2 _ _ _ q];rfl
 clear z E;cases hp:Zau ns with
 | false =>
  have c:Hid (ZaY ns is ds=false):=by unfold Hid;simp [ZaY,hp]
  go_wp2;go_ret;exact ⟨by rw [c.out];rfl,n⟩
 | true =>
  by_cases h4:is.length <= 400
  ·by_cases h2:ds.length <= 20
   ·have HC:Hid (ZaY ns is ds=(insB is 0 ns.length is.length && dfsB ds is.length ds 0)):=by unfold Hid;simp [ZaY,hp,h4,h2]
    go_wp2_with fail
    go_loopw [3] (fun i wr=>∃ k:Nat,k <= is.length/\i=.int .i64 k/\Hid (insB is 0 ns.length is.length=insB (is.drop k) k ns.length is.length)/\Below D.heap.size D wr) (fun i _=>is.length - (intOf i).toNat)
    case atStart=>exact ⟨0,by omega,rfl,rfl,cj _ _⟩
    case round =>
     obtain ⟨k,hk,rfl,v,R⟩:=hrel;have I:=n.trans (R.mono n.size);have h:=(R.block _ V).trans q;have q0:wr.cell? ⟨w.heap.size,0,none⟩=some (.slice L ns.length c1):=by rw [cd wr _ 0 _ _ _ h];rfl
     have q1:wr.cell? ⟨w.heap.size,0+1,none⟩=some (.slice F is.length c2):=by rw [cd wr _ 1 _ _ _ h];rfl
     have q2:wr.cell? ⟨w.heap.size,0+2,none⟩=some (.slice O ds.length c3):=by rw [cd wr _ 2 _ _ _ h];rfl
     by_cases Z:k < is.length
     ·obtain ⟨x,u⟩:∃ x,is[k]? = some x:=⟨is[k],by simp [Z]⟩
      have G:Hid (insB is 0 ns.length is.length=(Zaz x k ns.length is.length && insB (is.drop (k+1)) (k+1) ns.length is.length)):=by unfold Hid;rw [v.out,ZfG is k ns.length is.length x u]
      have HX:Hid (is[k]? = some x):=u;clear a v u;go_wp2_with fail;refine (ZiJ _ _ _ _ _ _ _ is k x _ (R2.below I) HX.out ab).mono ?_;rintro e w2 ⟨rfl,f⟩;have d:=I.trans (f.mono I.size);have Q:=R.trans (f.mono R.size);clear q0 q1 q2 f T r2;generalize Zaz x k ns.length is.length=b at G;cases b with
      | false =>
       have c:Hid (ZaY ns is ds=false):=by unfold Hid;rw [HC.out,G.out];rfl
       go_wp2;go_ret;exact ⟨by rw [c.out];rfl,d⟩
      | true =>
       go_wp2
       go_roundw
       case rel=>exact ⟨k+1,by omega,by go_num,(by unfold Hid;rw [G.out,Bool.true_and]),Q⟩
       case measure=>simp [intOf];omega
     ·have G:Hid (ZaY ns is ds=dfsB ds is.length ds 0):=by unfold Hid;rw [HC.out,v.out,List.drop_eq_nil_of_le (by omega)];simp [insB]
      have K:=(bl h);clear v HC T r2 q;go_wp2_with fail
      go_loopw [4] (fun i wq=>∃ k:Nat,k <= ds.length/\i=.int .i64 k/\Hid (dfsB ds is.length ds 0=dfsB ds is.length (ds.drop k) k)/\Below wr.heap.size wr wq) (fun i _=>ds.length - (intOf i).toNat)
      case atStart=>exact ⟨0,by omega,rfl,rfl,cj _ _⟩
      case round =>
       obtain ⟨k2,ad,rfl,v,j⟩:=hrel;have r:=I.trans (j.mono I.size);have y:=(j.block _ K).trans h;have Y:=cy K j.size;have p0:wr.cell? ⟨w.heap.size,0,none⟩=some (.slice L ns.length c1):=by rw [cd wr _ 0 _ _ _ y];rfl
       have p1:wr.cell? ⟨w.heap.size,0+1,none⟩=some (.slice F is.length c2):=by rw [cd wr _ 1 _ _ _ y];rfl
       have p2:wr.cell? ⟨w.heap.size,0+2,none⟩=some (.slice O ds.length c3):=by rw [cd wr _ 2 _ _ _ y];rfl
       clear q0 q1 q2 h
       by_cases B:k2 < ds.length
       ·obtain ⟨g,o,rfl,hg,a⟩:=a (by intro e;subst e;simp at B)
        obtain ⟨x,u⟩:∃ x,ds[k2]? = some x:=⟨ds[k2],by simp [B]⟩;obtain ⟨d0,d1,d2⟩:=(a k2 x u).below r hg;have W:=hz x (List.mem_of_getElem? u);have U:Hid (ZaY ns is ds=(dfB ds is.length x k2 && dfsB ds is.length (ds.drop (k2+1)) (k2+1))):=by unfold Hid;rw [G.out,v.out,ZdM ds k2 is.length x u]
        have HD:Hid (dfsB ds is.length (ds.drop k2) k2=(dfB ds is.length x k2 && dfsB ds is.length (ds.drop (k2+1)) (k2+1))):=ZdM ds k2 is.length x u;clear a u;go_wp2_with fail;refine (ZaS x.s _ W).mono ?_;rintro e w2 ⟨rfl,rfl⟩;have d:Below w.heap.size w (wr.alloc (Obj.cells #[.string x.s,.int .i64 x.p,.int .i64 x.m] 157)):=r.alloc r.size _;have f:Below _ _ (wr.alloc (Obj.cells #[.string x.s,.int .i64 x.p,.int .i64 x.m] 157)):=j.alloc j.size _;cases P:Zb3 x.s with
        | false =>
         have c:Hid (ZaY ns is ds=false):=by unfold Hid;rw [U.out];simp [dfB,P]
         go_wp2;go_ret;exact ⟨by rw [c.out];rfl,d⟩
        | true =>
         go_wp2_with fail;refine (ZiP _ _ _ _ _ _ _ ds x.s _ (R3.below d)).mono ?_;rintro e A ⟨rfl,l⟩;have C:=d.trans (l.mono d.size);have M:=f.trans (l.mono f.size);have X:A.heap[w.heap.size]? = some (.cells #[.slice L ns.length c1,.slice F is.length c2,.slice (some ⟨g,o,none⟩) ds.length c3] 44 (0,0)):=(l.block _ (by simp;omega)).trans ((cz _ _ Y).trans y);have H:A.heap[wr.heap.size]? = some (.cells #[.string x.s,.int .i64 x.p,.int .i64 x.m] 157 (0,0)):=(l.block _ (by simp)).trans (co _ _);have T:A.cell? ⟨w.heap.size,0+1,none⟩=some (.slice F is.length c2):=by rw [cd A _ 1 _ _ _ X];rfl
         have t1:A.cell? ⟨wr.heap.size,0+1,none⟩=some (.int .i64 x.p):=by rw [cd A _ 1 _ _ _ H];rfl
         have t2:A.cell? ⟨wr.heap.size,0+2,none⟩=some (.int .i64 x.m):=by rw [cd A _ 2 _ _ _ H];rfl
         clear l d f p0 p1 p2
         by_cases t:Zbj ds x.s 0=(k2:Int)
         ·rw [t]
          go_wp2_with fail;refine (Zas _ _ _ _).mono ?_;rintro e w4 ⟨rfl,rfl⟩;have HP:Hid ((decide (0 <= x.p) && decide (x.p <= (is.length:Int) - 1))=(decide (0 <= x.p) && decide (x.p < is.length))):=by unfold Hid;rw [Bool.eq_iff_iff];simp;omega
          rw [HP.out];clear T t1;cases N:(decide (0 <= x.p) && decide (x.p < is.length)) with
          | false =>
           have c:Hid (ZaY ns is ds=false):=by unfold Hid;rw [U.out,dfB,N];simp
           go_wp2;go_ret;exact ⟨by rw [c.out];rfl,C⟩
          | true =>
           go_wp2_with fail;refine (Zas _ _ _ _).mono ?_;rintro e w4 ⟨rfl,rfl⟩;clear t2;cases J:(decide (0 <= x.m) && decide (x.m <= 4)) with
           | false =>
            have c:Hid (ZaY ns is ds=false):=by unfold Hid;rw [U.out,dfB,J];simp
            go_wp2;go_ret;exact ⟨by rw [c.out];rfl,C⟩
           | true =>
            have c:Hid (dfsB ds is.length ds 0=dfsB ds is.length (ds.drop (k2+1)) (k2+1)):=by unfold Hid;rw [v.out,HD.out,dfB,J,N,P,t];simp
            go_wp2
            go_roundw
            case rel=>exact ⟨k2+1,by omega,by go_num,c,M⟩
            case measure=>simp [intOf];omega
         ·have c:Hid (ZaY ns is ds=false):=by unfold Hid;rw [U.out];simp [dfB,t]
          generalize Zbj ds x.s 0=ix at t;go_wp2;go_ret;exact ⟨by rw [c.out];rfl,C⟩
       ·have c:Hid (ZaY ns is ds=true):=by unfold Hid;rw [G.out,v.out,List.drop_eq_nil_of_le (by omega)];rfl
        clear v a;go_wp2;go_ret;exact ⟨by rw [c.out];rfl,r⟩
   ·have c:Hid (ZaY ns is ds=false):=by unfold Hid;simp [ZaY,h2]
    go_wp2;go_ret;exact ⟨by rw [c.out];rfl,n⟩
  ·have c:Hid (ZaY ns is ds=false):=by unfold Hid;simp [ZaY,h4]
   go_wp2;go_ret;exact ⟨by rw [c.out];rfl,n⟩
theorem ZaB {P:Program}(w:World){ops:Array Oper}{g:List Oper}{o:Oper}{a:Act}{Q:Exit -> Act -> World -> Prop}(L:o.guard=none)(s x:Operand)(t:TypeId)(n:o.op=Op.call { callee:=Callee.builtin Builtin.append,args:=#[s,x],argTypes:=#[t,t] })(base:Nat)(e:TypeId)(i:TypeInfo)(z:Value)(size d:Nat)(C:P.underlying t=some (.slice e))(y:P.info? e=some i)(R:i.zero=some z)(T:i.size=size)(M:i.bytes=d)(W:z.cells.size=size)(O:0 < size)(v:Value)(k:Nat)(A:List Value)(G:a.eval s=v)(f:w.ownsRow base e size v k A)(D:Option Addr)(m c:Nat)(b:List Value)(J:a.eval x=.slice D m c)(H:b.length=m * size)(l:D=none -> m=0/\c=0)(V:∀ p,D=some p -> ∀ j u,b[j]? = some u -> w.cell? (p.add j)=some u)(E:∀ u ∈ b,u.oneCell'=true)(N:k+m <= maxLen)(S:(k+m) * d <= 140737488355328)(U:base <= w.heap.size)(I:∀ B r,r.ownsRow base e size B (k+m) (A ++ b) -> w.grownBy r v.ownBlock -> wpList P ops Q g (a.put o.dst B) r) :
  wpList P ops Q (o :: g) a w:=by
 cases D with
 | some p=>exact wpList_append_own w L s x t n base e i z size d C y R T M W O v k A G f p m c b J H (V p rfl) E N S U (fun B r C y _=>I B r C y)
 | none =>
  obtain ⟨rfl,rfl⟩:=l rfl;have h:b=[]:=List.eq_nil_of_length_eq_zero (by simpa using H);subst h;refine wpList_plain L fun K F=>?_
  have q:=run_append_owned_none (P:=P) w base t o.type e i size C y _ k A f;unfold Oper.wp;simp [execOp,n,resolve,invoke,builtin,G,J,q,Result.andThen];exact F _ _ (by simpa using I v w (by simpa using f) (World.grownBy.refl _ _))
theorem NRow.nilcap {w:World}{b:Option Addr}{n a:Nat}{g:List Nd}(h:NRow w (.slice b n a) g):b=none -> n=0/\a=0:=by
 obtain ⟨f,c,e,⟨i,d⟩,_⟩:=h;simp only [Value.slice.injEq] at e;obtain ⟨rfl,rfl,rfl⟩:=e;intro h;have:=d h;omega
theorem ZnX:(prog.info? 40).map (·.size)=some 1:=by kernel_rfl
theorem ZjK (v:Value)(c:List Nd)(w:World)(R:NRow w v c)(E:c.length <= 4194304) :
  Calls prog 212 #[.agg #[v]] w fun e A=>∃ z,e=.returned (.agg #[z])/\A.ownsRow w.heap.size 194 5 z c.length (ncs c)/\Below w.heap.size w A:=by
 have D:=R;obtain ⟨l,f,rfl,y,_,_,_⟩:=D;obtain ⟨C,hi,t,x,r⟩:=info_parts Zn1;have o:Below w.heap.size w (((w.alloc (Obj.cells #[.slice l c.length f] 40)).alloc (Obj.cells #[.slice none 0 0] 40)).alloc (Obj.cells #[] 194)):=(((cj _ _).alloc (ce _) _).alloc (by simp) _).alloc (by simp;omega) _;have s:=R.below o
 have h:(((w.alloc (Obj.cells #[.slice l c.length f] 40)).alloc (Obj.cells #[.slice none 0 0] 40)).alloc (Obj.cells #[] 194)).ownsRow (w.heap.size+2) 194 5 (.slice (some ⟨w.heap.size+1+1,0,none⟩) 0 0) 0 (ncs []):=by
  have:=World.ownsRow_made (base:=w.heap.size+2) (e:=194) (size:=5) ((w.alloc (Obj.cells #[.slice l c.length f] 40)).alloc (Obj.cells #[.slice none 0 0] 40)) #[] 0 (by simp) (by simp) (by simp)
  simpa [Zjh] using this
 go_enter func212,ntmps212
 go_wp2_with (at_builtin;refine ZaB _ rfl _ _ 38 rfl (w.heap.size+2) 194 C _ 5 48 underlying38 hi t x r rfl (by decide) _ 0 _ rfl h l c.length f (ncs c) rfl (by rw [Zcx]) s.nilcap s.cells (Za6 c) (by unfold maxLen;omega) (by omega) (by simp) ?_)
 intro F j d m;obtain ⟨n,g,rfl⟩:=Zag d;have b:Below (w.heap.size+2) (((w.alloc (Obj.cells #[.slice l c.length f] 40)).alloc (Obj.cells #[.slice none 0 0] 40)).alloc (Obj.cells #[] 194)) j:=(cj _ _).grown m (by simp) (fun k B=>by simp [Value.ownBlock] at B;omega);have u:=o.trans (b.mono (by omega));have i:j.heap[w.heap.size+1]? = some (.cells #[.slice none 0 0] 40 (0,0)):=(b.block _ (by omega)).trans ((cz _ _ (by simp)).trans (cH _ _ _));have c3:j.cell? ⟨w.heap.size+1,0,none⟩=some (.slice none 0 0):=by rw [cd j _ 0 _ _ _ i];rfl
 have G:j.frozen? ⟨w.heap.size+1,0,none⟩=false:=cw j _ 0 _ _ i;clear m s h b;go_wp2;have q:=cu j (w.heap.size+1) 0 _ _ (.slice n c.length g) i;refine cx (results_cell_row rfl _ _ (w.heap.size+1) 40 _ (0,0) _ (by simp) q underlying40 rfl ZnX) rfl ⟨_,rfl,?_,?_⟩
 ·have:=Zah (B':=w.heap.size) (cI d (a:=⟨w.heap.size+1,0,none⟩) (by simp) (.slice n c.length g)) (by omega)
  simpa [Zjh] using this
 ·exact u.setCell (p:=⟨w.heap.size+1,0,none⟩) (by simp) _
def Znm (xs:List Nd)(x:Nd):List Nd:=if Zau xs=true then (if xs.length ≠ 3000/\ZaA x xs.length=true then xs ++ [x] else xs) else []
def Znq (xs:List Nd)(x:Nd):Int:=if Zau xs=true then (if xs.length ≠ 3000/\ZaA x xs.length=true then xs.length else -1) else -1
theorem ZkP {B b d n c:Nat}{g e:World}{f:Option Addr}{h:List Value}(i:e.heap[B]? = some (.cells #[.slice none 0 0] 40 (0,0)))(k:e.ownsRow d 194 5 (.slice f n c) n h)(l:Below b g e)(m:B < d)(j:b <= B) :
  (e.setCell ⟨B,0,none⟩ (.slice f n c)).heap[B]? = some (.cells #[.slice f n c] 40 (0,0))/\(e.setCell ⟨B,0,none⟩ (.slice f n c)).ownsRow b 194 5 (.slice f n c) n h/\Below b g (e.setCell ⟨B,0,none⟩ (.slice f n c)) :=
 ⟨cu e B 0 _ _ _ i,Zah (cI k (a:=⟨B,0,none⟩) m _) (by omega),l.setCell (p:=⟨B,0,none⟩) j _⟩
def IRow (w:World)(v:Value)(zs:List Int):Prop :=
 ∃ ao cap,v=.slice ao zs.length cap/\(zs.length <= cap/\(ao=none -> cap=0))/\zs.length <= 9223372036854775807/\(zs ≠ [] -> ∃ g o,ao=some ⟨g,o,none⟩/\g < w.heap.size/\∀ i,i < zs.length -> w.cell? ⟨g,o+i,none⟩=some (.int .i64 (zs.getD i 0)))
theorem IRow.below {w d:World}{v:Value}{zs:List Int}(h:IRow w v zs)(e:Below w.heap.size w d):IRow d v zs:=by
 obtain ⟨l,c,rfl,k,j,a⟩:=h;refine ⟨l,c,rfl,k,j,fun b=>?_⟩;obtain ⟨g,o,rfl,f,a⟩:=a b;exact ⟨g,o,rfl,cy f e.size,fun i hi=>(e.cell (p:=⟨g,o+i,none⟩) f).trans (a i hi)⟩
theorem IRow.of_own {w:World}{base:Nat}{v:Value}{zs:List Int}(h:w.ownsRow base 3 1 v zs.length (iv zs))(d:zs.length <= 9223372036854775807):IRow w v zs:=by
 rcases h.2 with ⟨rfl,f⟩ | ⟨g,c,cur,rfl,l,j,b,k,e,a⟩
 ·have:zs=[]:=List.eq_nil_of_length_eq_zero f
  subst this;exact ⟨none,0,rfl,by simp,by simp,fun h=>absurd rfl h⟩
 ·refine ⟨_,c,rfl,⟨b,fun h=>by cases h⟩,d,fun _=>⟨g,0,rfl,(bl j),fun i hi=>?_⟩⟩
  have:=h.cellAt i (by omega);rw [Nat.zero_add,this,Zc0 zs i hi]
def Znc (k:Int)(zs:List Int)(i:Nat):List Int:=(List.range i).map (fun (j:Nat)=>k+(j:Int)) ++ zs.drop i
def nilN:Nd:=⟨1,0,ByteArray.empty,0,0⟩
def Zne (z:Int)(last:Nat):Nd:=⟨5,0,ByteArray.empty,z,last⟩
def ZlO:List Int -> Nat -> List Nd
 | [],_=>[]
 | z :: r,last=>Zne z last :: ZlO r (last+1)
def more (zs:List Int)(n m:Nat):List Nd:=nilN :: ZlO (zs.drop m).reverse n
def allI (xs:List Nd)(zs:List Int):Bool:=zs.all (hasI xs)
def mlOk (xs:List Nd)(zs:List Int):Bool:=decide (xs.length+1+zs.length <= 3000) && allI xs zs
def mlL (xs:List Nd)(zs:List Int):List Nd:=if Zau xs=true then (if mlOk xs zs=true then xs ++ more zs xs.length 0 else xs) else []
def mlI (xs:List Nd)(zs:List Int):Int:=if Zau xs=true then (if mlOk xs zs=true then ((xs.length+zs.length:Nat):Int) else -1) else -1
theorem Zhd (p:Int -> Bool)(zs:List Int)(k:Nat)(h:k < zs.length):(zs.drop k).all p=(p (zs.getD k 0) && (zs.drop (k+1)).all p):=by
 rw [List.drop_eq_getElem_cons h,List.all_cons,List.getD_eq_getElem?_getD,List.getElem?_eq_getElem h];rfl
theorem Zid (v t:Value)(b:List Nd)(zs:List Int)(w:World)(R:NRow w v b)(L:IRow w t zs) :
  Calls prog 192 #[.agg #[v],t] w fun e B=>e=.returned (.bool (allI b zs))/\Below w.heap.size w B:=by
 have A:=R;obtain ⟨F,s,rfl,_⟩:=A;obtain ⟨H,J,rfl,u,C,a⟩:=L
 go_enter func192,ntmps192
 go_wp2_with fail
 go_loopw [9] (fun i wr=>∃ k:Nat,k <= zs.length/\i=.int .i64 k/\Hid (allI b zs=(zs.drop k).all (hasI b))/\wr.cell? ⟨w.heap.size,0,none⟩=some (.slice F b.length s)/\w.heap.size < wr.heap.size/\Below w.heap.size w wr) (fun i _=>zs.length - (intOf i).toNat)
 case atStart=>exact ⟨0,by omega,rfl,by simp [Hid,allI],by simp,by simp,(cj _ _).alloc (ce _) _⟩
 case round =>
  obtain ⟨k,G,rfl,q,d,m,j⟩:=hrel
  by_cases f:k < zs.length
  ·obtain ⟨g,o,rfl,D,a⟩:=a (by intro e;subst e;simp at f)
   have c0:=(j.cell (p:=⟨g,o+k,none⟩) D).trans (a k f);have r:Hid (allI b zs=(hasI b (zs.getD k 0) && (zs.drop (k+1)).all (hasI b))):=by unfold Hid;rw [q.out,Zhd _ _ _ f]
   clear a q;generalize zs.getD k 0=z at c0 r;go_wp2_with fail;refine (Zgz _ b _ _ (R.below j)).mono ?_;rintro e I ⟨rfl,c⟩;have n:=j.trans (c.mono j.size);have h:=(c.cell (p:=⟨w.heap.size,0,none⟩) m).trans d;have l:=cy m c.size;clear c0 c d j;generalize E:hasI b z=x at r ⊢;clear E;cases x with
   | false =>
    go_wp2;go_ret;exact ⟨by rw [r.out];rfl,n⟩
   | true =>
    go_wp2
    go_roundw
    case rel=>exact ⟨k+1,by omega,by go_num,by rw [r.out];rfl,h,l,n⟩
    case measure=>simp [intOf];omega
  ·have e:k=zs.length:=by omega
   subst e;have y:Hid (allI b zs=true):=by unfold Hid;rw [q.out,List.drop_length];rfl
   clear q;go_wp2;go_ret;exact ⟨by rw [y.out];rfl,j⟩
def Zb6 (n:Nat)(p:Int):Bool:=decide (0 <= p) && decide (p < n)
def askB (q:Int):Bool:=decide (12 < q) && decide (q <= 19) && decide (q ≠ 18)
def ZbJ (n:Nat)(xs:List Nd)(m:Mc):Bool :=
  if m.t=0 then Zb6 n m.p && decide (m.q=0) && decide (m.r=0)
  else if m.t=1 then Zb6 n m.p && askB m.q && hasI xs m.r
  else if m.t=2 then decide (m.p=0) && decide (m.q=0) && hasI xs m.r
  else if m.t=3 then decide (m.p=0) && decide (1 <= m.q) && decide (m.q <= 7) && decide (m.r=0)
  else false
theorem ZgN (q:Int)(w:World):Calls prog 208 #[.int .i64 q] w fun e b=>e=.returned (.bool (askB q))/\b=w:=by
  go_enter func208,ntmps208
  by_cases d:12 < q
  · by_cases c:q <= 19
    · by_cases a:q=18
      · subst a
        go_wp2;go_ret;exact ⟨rfl,rfl⟩
      · have g:(q == 18)=false:=by simp [a]
        have f:decide (q=18)=false:=by simp [a]
        go_wp2;go_ret;exact ⟨by simp [askB,d,c,a],rfl⟩
    · go_wp2
      go_ret;exact ⟨by simp [askB];omega,rfl⟩
  · go_wp2
    go_ret;exact ⟨by simp [askB];omega,rfl⟩
theorem Zd6 (L P Q:Option Addr)(n1 n2 J c1 c2 c3:Nat)(v:Value)(j:List Nd)(m:Mc)(w:World)(R:NRow w v j) :
    Calls prog 193 #[.agg #[.slice L n1 c1,.slice P n2 c2,.slice Q J c3],.agg #[v,.int .i64 m.p,.int .i64 m.s,.int .i64 m.e,.int .i64 m.d,.int .i64 m.t,.int .i64 m.q,.int .i64 m.r]] w fun e w'=>e=.returned (.bool (ZbJ n2 j m))/\Below w.heap.size w w':=by
  have Z:=R;obtain ⟨K,C,rfl,_⟩:=Z;obtain ⟨b,A,B,y,mt,f,g⟩:=m;have a:Below w.heap.size w ((w.alloc (Obj.cells #[.slice L n1 c1,.slice P n2 c2,.slice Q J c3] 44)).alloc (Obj.cells #[.slice K j.length C,.int .i64 b,.int .i64 A,.int .i64 B,.int .i64 y,.int .i64 mt,.int .i64 f,.int .i64 g] 99)):=((cj _ _).alloc (ce _) _).alloc (by simp) _;have l:=cH w (Obj.cells #[.slice L n1 c1,.slice P n2 c2,.slice Q J c3] 44) (Obj.cells #[.slice K j.length C,.int .i64 b,.int .i64 A,.int .i64 B,.int .i64 y,.int .i64 mt,.int .i64 f,.int .i64 g] 99);have M:=R.below a;have D:=(bl l)
  go_enter func193,ntmps193
  by_cases E:mt=0
  · subst E
    go_wp2_with fail;refine (ZcL _ _ _ _ _ _ _ _ _ b _).mono ?_;rintro e n ⟨rfl,k⟩;have i:=a.trans (k.mono a.size);have h:=(k.block _ D).trans l;have U:n.cell? ⟨w.heap.size+1,0+6,none⟩=some (.int .i64 f):=by rw [cd n _ 6 _ _ _ h];rfl
    have T:n.cell? ⟨w.heap.size+1,0+7,none⟩=some (.int .i64 g):=by rw [cd n _ 7 _ _ _ h];rfl
    have c:Hid (ZbJ n2 j ⟨b,A,B,y,0,f,g⟩=((decide (0 <= b) && decide (b < n2)) && decide (f=0) && decide (g=0))):=rfl;generalize (decide (0 <= b) && decide (b < n2))=bb at c ⊢;clear l h k a M;cases bb with
    | true =>
      go_wp2
      all_goals
        go_ret;refine ⟨retB ?_,i⟩;rw [c.out]
        first | (simp [*];done) | (simp [*];rfl)
    | false =>
      go_wp2;go_ret;exact ⟨retB (by rw [c.out];rfl),i⟩
  · by_cases F:mt=1
    · subst F
      go_wp2_with fail;refine (ZcL _ _ _ _ _ _ _ _ _ b _).mono ?_;rintro e n ⟨rfl,k⟩;have i:=a.trans (k.mono a.size);have h:=(k.block _ D).trans l;have W:n.cell? ⟨w.heap.size+1,0,none⟩=some (.slice K j.length C):=by rw [cd n _ 0 _ _ _ h];rfl
      have U:n.cell? ⟨w.heap.size+1,0+6,none⟩=some (.int .i64 f):=by rw [cd n _ 6 _ _ _ h];rfl
      have T:n.cell? ⟨w.heap.size+1,0+7,none⟩=some (.int .i64 g):=by rw [cd n _ 7 _ _ _ h];rfl
      have c:Hid (ZbJ n2 j ⟨b,A,B,y,1,f,g⟩=((decide (0 <= b) && decide (b < n2)) && askB f && hasI j g)):=rfl;generalize (decide (0 <= b) && decide (b < n2))=bb at c ⊢;clear l h k a M;cases bb with
      | true =>
        go_wp2_with fail;refine (ZgN f _).mono ?_;rintro e w2 ⟨rfl,rfl⟩;generalize askB f=X at c ⊢;cases X with
        | true =>
          go_wp2_with fail;refine (Zgz _ j g _ (R.below i)).mono ?_;rintro e Y ⟨rfl,x⟩;have u:=i.trans (x.mono i.size);generalize hasI j g=O at c ⊢;clear W U T
          cases O <;>
            (go_wp2
             go_ret
             exact ⟨retB (by rw [c.out];rfl),u⟩)
        | false =>
          go_wp2;go_ret;exact ⟨retB (by rw [c.out];rfl),i⟩
      | false =>
        go_wp2;go_ret;exact ⟨retB (by rw [c.out];rfl),i⟩
    · by_cases G:mt=2
      · subst G
        have c:Hid (ZbJ n2 j ⟨b,A,B,y,2,f,g⟩=(decide (b=0) && decide (f=0) && hasI j g)):=rfl
        by_cases z:b=0
        · subst z
          by_cases S:f=0
          · subst S
            go_wp2_with fail;refine (Zgz _ j g _ M).mono ?_;rintro e Y ⟨rfl,x⟩;have u:=a.trans (x.mono a.size);generalize hasI j g=O at c ⊢
            cases O <;>
              (go_wp2
               go_ret
               exact ⟨retB (by rw [c.out];rfl),u⟩)
          · have H:(f == 0)=false:=by simp [S]
            have o:decide (f=0)=false:=by simp [S]
            go_wp2;go_ret;exact ⟨retB (by rw [c.out,o];rfl),a⟩
        · have H:(b == 0)=false:=by simp [z]
          have o:decide (b=0)=false:=by simp [z]
          go_wp2;go_ret;exact ⟨retB (by rw [c.out,o];rfl),a⟩
      · by_cases I:mt=3
        · subst I
          have c:Hid (ZbJ n2 j ⟨b,A,B,y,3,f,g⟩=(decide (b=0) && decide (1 <= f) && decide (f <= 7) && decide (g=0))):=rfl
          by_cases z:b=0
          · subst z
            by_cases q1:1 <= f
            · by_cases V:f <= 7
              · by_cases N:g=0
                · subst N
                  go_wp2;go_ret;exact ⟨retB (by rw [c.out];simp [q1,V]),a⟩
                · have H:(g == 0)=false:=by simp [N]
                  have o:decide (g=0)=false:=by simp [N]
                  go_wp2;go_ret;exact ⟨retB (by rw [c.out,o];simp),a⟩
              · go_wp2
                go_ret;exact ⟨retB (by rw [c.out];simp;omega),a⟩
            · go_wp2
              go_ret;exact ⟨retB (by rw [c.out];simp;omega),a⟩
          · have H:(b == 0)=false:=by simp [z]
            have o:decide (b=0)=false:=by simp [z]
            go_wp2;go_ret;exact ⟨retB (by rw [c.out,o];rfl),a⟩
        · have c:Hid (ZbJ n2 j ⟨b,A,B,y,mt,f,g⟩=false):=by unfold Hid ZbJ;simp [E,F,G,I]
          have g0:(mt == 0)=false:=by simp [E]
          have H:(mt == 1)=false:=by simp [F]
          have o:(mt == 2)=false:=by simp [G]
          have g3:(mt == 3)=false:=by simp [I]
          have f0:decide (mt=0)=false:=by simp [E]
          have f1:decide (mt=1)=false:=by simp [F]
          have f2:decide (mt=2)=false:=by simp [G]
          have f3:decide (mt=3)=false:=by simp [I]
          go_wp2;go_ret;exact ⟨retB (by rw [c.out]),a⟩
def Za5 (ns:List Nd)(is:List In)(ds:List Df)(xs:List Nd)(m:Mc):Bool:=ZaY ns is ds && Zau xs && allI xs [m.s,m.e,m.d] && ZbJ is.length xs m
theorem Znw:(prog.info? 44).map (·.size)=some 3:=by kernel_rfl
theorem IRow.lit3 (w:World)(a b c:Int):IRow (w.alloc (Obj.cells #[.int .i64 a,.int .i64 b,.int .i64 c] 3)) (.slice (some ⟨w.heap.size,0,none⟩) 3 3) [a,b,c]:=by
  refine ⟨_,3,rfl,⟨by simp,fun h=>by cases h⟩,by simp,fun _=>⟨_,0,rfl,by simp,fun i hi=>?_⟩⟩;rw [cd _ w.heap.size (0+i) _ 3 (0,0) (co w _)];have:i=0 \/ i=1 \/ i=2:=by simp at hi;omega
  rcases this with rfl | rfl | rfl <;> rfl
theorem ZcM (L N V v:Value)(ns:List Nd)(is:List In)(ds:List Df)(c:List Nd)(m:Mc)(w:World)(O:NRow w L ns)(W:InRow w N is)(S:DfRow w V ds)(R:NRow w v c) :
    Calls prog 160 #[.agg #[L,N,V],.agg #[v,.int .i64 m.p,.int .i64 m.s,.int .i64 m.e,.int .i64 m.d,.int .i64 m.t,.int .i64 m.q,.int .i64 m.r]] w fun e w'=>e=.returned (.bool (Za5 ns is ds c m))/\Below w.heap.size w w':=by
  have R':=R;obtain ⟨G,x,rfl,_⟩:=R';obtain ⟨K,c1,rfl⟩:=O.small;obtain ⟨P,c2,rfl⟩:=W.small;obtain ⟨Q,c3,rfl⟩:=S.small;obtain ⟨h,F,D⟩:=Zax w (Obj.cells #[.slice K ns.length c1,.slice P is.length c2,.slice Q ds.length c3] 44) (Obj.cells #[.slice G c.length x,.int .i64 m.p,.int .i64 m.s,.int .i64 m.e,.int .i64 m.d,.int .i64 m.t,.int .i64 m.q,.int .i64 m.r] 99)
  go_enter func160,ntmps160
  go_wp2_with fail;refine (Zd0 _ _ _ ns is ds _ (O.below h) (W.below h) (S.below h)).mono ?_;rintro e U ⟨rfl,o⟩;have k:=h.trans (o.mono h.size);have C:=(bb F o);have z:=(bb D o);clear h F D o;have y:Hid (Za5 ns is ds c m=(ZaY ns is ds && Zau c && allI c [m.s,m.e,m.d] && ZbJ is.length c m)):=rfl;have H:U.cell? ⟨w.heap.size+1,0,none⟩=some (.slice G c.length x):=by rw [cd U _ 0 _ _ _ z];rfl
  generalize ZaY ns is ds=X at y ⊢;cases X with
  | false =>
    go_wp2;go_ret;exact ⟨retB (by rw [y.out];rfl),k⟩
  | true =>
    go_wp2_with fail;refine (Zft _ c _ (R.below k)).mono ?_;rintro e j ⟨rfl,l⟩;have g:=k.trans (l.mono k.size);have E:=(bb C l);have i:=(bb z l);clear k C z l H;have H:j.cell? ⟨w.heap.size+1,0,none⟩=some (.slice G c.length x):=by rw [cd j _ 0 _ _ _ i];rfl
    have k2:j.cell? ⟨w.heap.size+1,0+2,none⟩=some (.int .i64 m.s):=by rw [cd j _ 2 _ _ _ i];rfl
    have T:j.cell? ⟨w.heap.size+1,0+3,none⟩=some (.int .i64 m.e):=by rw [cd j _ 3 _ _ _ i];rfl
    have M:j.cell? ⟨w.heap.size+1,0+4,none⟩=some (.int .i64 m.d):=by rw [cd j _ 4 _ _ _ i];rfl
    generalize Zau c=Z at y ⊢;cases Z with
    | false =>
      go_wp2;go_ret;exact ⟨retB (by rw [y.out];rfl),g⟩
    | true =>
      have u:Below j.heap.size j (j.alloc (Obj.cells #[.int .i64 m.s,.int .i64 m.e,.int .i64 m.d] 3)):=(cj _ _).alloc (ce _) _;go_wp2_with fail;refine (Zid _ _ c [m.s,m.e,m.d] _ (R.below (g.trans (u.mono g.size))) (IRow.lit3 j m.s m.e m.d)).mono ?_;rintro e a ⟨rfl,B⟩;have f:=u.trans (B.mono u.size);have n:=g.trans (f.mono g.size);have A:=(bb E f);have b:=(bb i f);clear g E i B f u H k2 T M;generalize allI c [m.s,m.e,m.d]=b3 at y ⊢;cases b3 with
      | false =>
        go_wp2;go_ret;exact ⟨retB (by rw [y.out];rfl),n⟩
      | true =>
        have l0:a.cell? ⟨w.heap.size,0,none⟩=some (.slice K ns.length c1):=cd a _ 0 _ _ _ A;have l1:a.cell? ⟨w.heap.size,1,none⟩=some (.slice P is.length c2):=cd a _ 1 _ _ _ A;have l2:a.cell? ⟨w.heap.size,2,none⟩=some (.slice Q ds.length c3):=cd a _ 2 _ _ _ A;have H:a.cell? ⟨w.heap.size+1,0,none⟩=some (.slice G c.length x):=cd a _ 0 _ _ _ b;have k1:a.cell? ⟨w.heap.size+1,1,none⟩=some (.int .i64 m.p):=cd a _ 1 _ _ _ b;have k2:a.cell? ⟨w.heap.size+1,2,none⟩=some (.int .i64 m.s):=cd a _ 2 _ _ _ b;have T:a.cell? ⟨w.heap.size+1,3,none⟩=some (.int .i64 m.e):=cd a _ 3 _ _ _ b;have M:a.cell? ⟨w.heap.size+1,4,none⟩=some (.int .i64 m.d):=cd a _ 4 _ _ _ b;have k5:a.cell? ⟨w.heap.size+1,5,none⟩=some (.int .i64 m.t):=cd a _ 5 _ _ _ b
        have k6:a.cell? ⟨w.heap.size+1,6,none⟩=some (.int .i64 m.q):=cd a _ 6 _ _ _ b;have k7:a.cell? ⟨w.heap.size+1,7,none⟩=some (.int .i64 m.r):=cd a _ 7 _ _ _ b;go_wp2_with fail;refine (Zd6 _ _ _ _ _ _ _ _ _ _ c m _ (R.below n)).mono ?_;rintro e w4 ⟨rfl,I⟩;have J:=n.trans (I.mono n.size);generalize ZbJ is.length c m=Y at y ⊢
        cases Y <;>
          (go_wp2
           go_ret
           exact ⟨retB (by rw [y.out];rfl),J⟩)
end Go.Proofs.YtkpfangkfknhoaaGreatDoor
