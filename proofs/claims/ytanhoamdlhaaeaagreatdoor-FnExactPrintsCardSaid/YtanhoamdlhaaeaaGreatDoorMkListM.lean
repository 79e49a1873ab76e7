/-
  Texts that stood by themselves, laid into one.
-/
import Derived.Test.YtanhoamdlhaaeaaGreatDoorRulesM
import Derived.Test.YtanhoamdlhaaeaaGreatDoorMachRecM
/-
  The contracts of impl.defsFit, impl.CodeOk and spec.CodeOk. No condition.
-/
set_option maxRecDepth 100000
set_option maxHeartbeats 4000000
namespace Go.Proofs.YtanhoamdlhaaeaaGreatDoor
open Go.Proofs.Tryz
open Go.RowKit
def dfB (ds:List Df)(n2:Nat)(d:Df)(i:Nat):Bool :=
 ZbQ d.s && (Za6 ds d.s 0 == (i:Int)) && (decide (0 <= d.p) && decide (d.p < n2)) && (decide (0 <= d.m) && decide (d.m <= 4))
def dfsB (all:List Df)(n2:Nat)(ds:List Df)(i:Nat):Bool:=match ds with
 | []=>true
 | d :: ds=>dfB all n2 d i && dfsB all n2 ds (i+1)
theorem ZcV (a:List Df)(i b:Nat)(x:Df)(h:a[i]? = some x):dfsB a b (a.drop i) i=(dfB a b x i && dfsB a b (a.drop (i+1)) (i+1)):=by
 obtain ⟨d,c⟩:=List.getElem?_eq_some_iff.1 h;rw [List.drop_eq_getElem_cons d,c];rfl
def ZaO (ns:List Nd)(is:List In)(ds:List Df):Bool :=
 Zap ns && (decide (is.length <= 400) && insB is 0 ns.length is.length) && (decide (ds.length <= 20) && dfsB ds is.length ds 0)
theorem ZfA (n:Int)(w:World):Calls prog 131 #[.int .i64 n] w fun e a=>e=.returned (.bool (decide (0 <= n) && decide (n <= 4)))/\a=w:=by
 go_enter func131,ntmps131
 go_wp2
 all_goals
  go_ret;refine ⟨retB ?_,rfl⟩
  first | (simp [*];done) | (simp [*];omega)
theorem Zcd (b c d:Option Addr)(j a k f g i:Nat)(n:Int)(w:World):Calls prog 130 #[.agg #[.slice b j f,.slice c a g,.slice d k i],.int .i64 n] w fun e l=>e=.returned (.bool (decide (0 <= n) && decide (n < a)))/\Below w.heap.size w l:=by
 go_enter func130,ntmps130
 go_wp2
 all_goals
  go_ret;refine ⟨retB ?_,(cf _ _).alloc (ce _) _⟩
  first | (simp [*];done) | (simp [*];omega)
theorem ZfD (y z:Option Addr)(C A c B:Nat)(v3:Value)(a:List Df)(w:World)(R:DfRow w v3 a) :
  Calls prog 105 #[.agg #[.slice y C A,.slice z c B,v3]] w fun e w'=>e=.returned (.bool (decide (a.length <= 20) && dfsB a c a 0))/\Below w.heap.size w w':=by
 have R':=R;obtain ⟨V,E,rfl,ab,hm,hz,b⟩:=R';have F:Below w.heap.size w (w.alloc (Obj.cells #[.slice y C A,.slice z c B,.slice V a.length E] 45)):=(cf _ _).alloc (ce _) _
 by_cases hl:a.length <= 20
 ·have D:Hid (decide (a.length <= 20)=true):=by unfold Hid;simp [hl]
  go_enter func105,ntmps105
  have T:=cg w (Obj.cells #[.slice y C A,.slice z c B,.slice V a.length E] 45);have P:w.heap.size < (w.alloc (Obj.cells #[.slice y C A,.slice z c B,.slice V a.length E] 45)).heap.size:=by simp
  go_wp2_with fail;generalize w.alloc (Obj.cells #[.slice y C A,.slice z c B,.slice V a.length E] 45)=Y at *
  go_loopw [12] (fun i wr=>∃ k:Nat,k <= a.length/\i=.int .i64 k/\Hid (dfsB a c a 0=dfsB a c (a.drop k) k)/\Below Y.heap.size Y wr) (fun i _=>a.length - (intOf i).toNat)
  case atStart=>exact ⟨0,by omega,rfl,rfl,cf _ _⟩
  case round =>
   obtain ⟨k,hk,rfl,U,K⟩:=hrel;have W:=F.trans (K.mono F.size)
   by_cases M:k < a.length
   ·obtain ⟨g,o,rfl,hg,b⟩:=b (by intro e;subst e;simp at M)
    obtain ⟨x,X⟩:∃ x,a[k]? = some x:=⟨a[k],by simp [M]⟩;obtain ⟨d0,d1,d2⟩:=(b k x X).below W hg;have Z:=hz x (List.mem_of_getElem? X);have HI:Hid (dfsB a c a 0=(dfB a c x k && dfsB a c (a.drop (k+1)) (k+1))):=by unfold Hid;rw [U.out,ZcV a k c x X]
    have v:=(K.block _ P).trans T;have Q:=cm P K.size;clear b X U T;have q0:wr.cell? ⟨w.heap.size,0,none⟩=some (.slice y C A):=by rw [cd wr _ 0 _ _ _ v];rfl
    have q1:wr.cell? ⟨w.heap.size,0+1,none⟩=some (.slice z c B):=by rw [cd wr _ 1 _ _ _ v];rfl
    have q2:wr.cell? ⟨w.heap.size,0+2,none⟩=some (.slice (some ⟨g,o,none⟩) a.length E):=by rw [cd wr _ 2 _ _ _ v];rfl
    go_wp2_with fail;refine (ZcZ x.s _ Z).mono ?_;rintro e w1 ⟨rfl,rfl⟩;have j:Below w.heap.size w (wr.alloc (Obj.cells #[.string x.s,.int .i64 x.p,.int .i64 x.m] 157)):=W.alloc W.size _;have G:Below Y.heap.size Y (wr.alloc (Obj.cells #[.string x.s,.int .i64 x.p,.int .i64 x.m] 157)):=K.alloc K.size _;cases N:ZbQ x.s with
    | false =>
     have f:Hid (dfsB a c a 0=false):=by unfold Hid;rw [HI.out];simp [dfB,N]
     go_wp2;go_ret;exact ⟨by rw [D.out,f.out];rfl,j⟩
    | true =>
     go_wp2_with fail;refine (Zg0 _ _ _ _ _ _ _ a x.s _ (R.below j)).mono ?_;rintro e d ⟨rfl,l⟩;have q:=j.trans (l.mono j.size);have n:=G.trans (l.mono G.size);have u:d.heap[w.heap.size]? = some (.cells #[.slice y C A,.slice z c B,.slice (some ⟨g,o,none⟩) a.length E] 45 (0,0)):=(l.block _ (by simp;omega)).trans ((cn _ _ Q).trans v);have H:d.heap[wr.heap.size]? = some (.cells #[.string x.s,.int .i64 x.p,.int .i64 x.m] 157 (0,0)):=(l.block _ (by simp)).trans (cg _ _);have ac:=(bl u);have S:=(bl H);have r0:d.cell? ⟨w.heap.size,0,none⟩=some (.slice y C A):=by rw [cd d _ 0 _ _ _ u];rfl
     have r1:d.cell? ⟨w.heap.size,0+1,none⟩=some (.slice z c B):=by rw [cd d _ 1 _ _ _ u];rfl
     have r2:d.cell? ⟨w.heap.size,0+2,none⟩=some (.slice (some ⟨g,o,none⟩) a.length E):=by rw [cd d _ 2 _ _ _ u];rfl
     have t1:d.cell? ⟨wr.heap.size,0+1,none⟩=some (.int .i64 x.p):=by rw [cd d _ 1 _ _ _ H];rfl
     have t2:d.cell? ⟨wr.heap.size,0+2,none⟩=some (.int .i64 x.m):=by rw [cd d _ 2 _ _ _ H];rfl
     clear l j G q0 q1 q2
     by_cases t:Za6 a x.s 0=(k:Int)
     ·rw [t]
      go_wp2_with fail;refine (Zcd _ _ _ _ _ _ _ _ _ _ _).mono ?_;rintro e w3 ⟨rfl,r⟩;have I:=q.trans (r.mono q.size);have L:=n.trans (r.mono n.size);have aa:=(r.cell (p:=⟨wr.heap.size,0+2,none⟩) S).trans t2;clear r0 r1 r2 t1 t2 r q n;cases O:(decide (0 <= x.p) && decide (x.p < c)) with
      | false =>
       have f:Hid (dfsB a c a 0=false):=by unfold Hid;rw [HI.out,dfB,O];simp
       go_wp2;go_ret;exact ⟨by rw [D.out,f.out];rfl,I⟩
      | true =>
       go_wp2_with fail;refine (ZfA _ _).mono ?_;rintro e w4 ⟨rfl,rfl⟩;clear aa;cases J:(decide (0 <= x.m) && decide (x.m <= 4)) with
       | false =>
        have f:Hid (dfsB a c a 0=false):=by unfold Hid;rw [HI.out,dfB,J];simp
        go_wp2;go_ret;exact ⟨by rw [D.out,f.out];rfl,I⟩
       | true =>
        have f:Hid (dfsB a c a 0=dfsB a c (a.drop (k+1)) (k+1)):=by unfold Hid;rw [HI.out,dfB,J,O,N,t];simp
        go_wp2
        go_roundw
        case rel=>exact ⟨k+1,by omega,by go_num,f,L⟩
        case measure=>simp [intOf];omega
     ·have f:Hid (dfsB a c a 0=false):=by unfold Hid;rw [HI.out];simp [dfB,t]
      generalize Za6 a x.s 0=ix at t;go_wp2;go_ret;exact ⟨by rw [D.out,f.out];rfl,q⟩
   ·have f:Hid (dfsB a c a 0=true):=by unfold Hid;rw [U.out,List.drop_eq_nil_of_le (by omega)];rfl
    clear U b;go_wp2;go_ret;exact ⟨by rw [D.out,f.out];rfl,W⟩
 ·have D:Hid (decide (a.length <= 20)=false):=by unfold Hid;simp [hl]
  go_enter func105,ntmps105
  go_wp2;go_ret;exact ⟨by rw [D.out];rfl,F⟩
theorem ZcY (D E F:Value)(d:List Nd)(a:List In)(b:List Df)(w:World)(z:NRow w D d)(A:InRow w E a)(B:DfRow w F b) :
  Calls prog 66 #[.agg #[D,E,F]] w fun e M=>e=.returned (.bool (ZaO d a b))/\Below w.heap.size w M:=by
 obtain ⟨r,u,rfl⟩:=z.small;obtain ⟨s,v,rfl⟩:=A.small;obtain ⟨t,x,rfl⟩:=B.small;have i:Below w.heap.size w (w.alloc (Obj.cells #[.slice r d.length u,.slice s a.length v,.slice t b.length x] 45)):=(cf _ _).alloc (ce _) _
 go_enter func66,ntmps66
 go_wp2_with fail;refine (ZeK _ d _ (z.below i)).mono ?_;rintro e m ⟨rfl,k⟩;have c:m.heap[w.heap.size]? = some (.cells #[.slice r d.length u,.slice s a.length v,.slice t b.length x] 45 (0,0)):=(k.block _ (by simp)).trans (cg _ _);have f:=i.trans (k.mono i.size);have q:=(bl c);have J:m.cell? ⟨w.heap.size,0,none⟩=some (.slice r d.length u):=by rw [cd m _ 0 _ _ _ c];rfl
 have K:m.cell? ⟨w.heap.size,0+1,none⟩=some (.slice s a.length v):=by rw [cd m _ 1 _ _ _ c];rfl
 have L:m.cell? ⟨w.heap.size,0+2,none⟩=some (.slice t b.length x):=by rw [cd m _ 2 _ _ _ c];rfl
 clear i k;cases C:Zap d with
 | false =>
  have o:Hid (ZaO d a b=false):=by unfold Hid;simp [ZaO,C]
  go_wp2;go_ret;exact ⟨by rw [o.out];rfl,f⟩
 | true =>
  go_wp2_with fail;refine (Zd4 _ _ _ _ _ _ _ a _ (A.below f)).mono ?_;rintro e n ⟨rfl,l⟩;have j:=(l.block _ q).trans c;have g:=f.trans (l.mono f.size);have G:n.cell? ⟨w.heap.size,0,none⟩=some (.slice r d.length u):=by rw [cd n _ 0 _ _ _ j];rfl
  have H:n.cell? ⟨w.heap.size,0+1,none⟩=some (.slice s a.length v):=by rw [cd n _ 1 _ _ _ j];rfl
  have I:n.cell? ⟨w.heap.size,0+2,none⟩=some (.slice t b.length x):=by rw [cd n _ 2 _ _ _ j];rfl
  clear l c J K L f q;cases hi:(decide (a.length <= 400) && insB a 0 d.length a.length) with
  | false =>
   have o:Hid (ZaO d a b=false):=by unfold Hid;rw [ZaO,hi];simp
   go_wp2;go_ret;exact ⟨by rw [o.out];rfl,g⟩
  | true =>
   have o:Hid (ZaO d a b=(decide (b.length <= 20) && dfsB b a.length b 0)):=by unfold Hid;rw [ZaO,hi,C];simp
   go_wp2_with fail;refine (ZfD _ _ _ _ _ _ _ b _ (B.below g)).mono ?_;rintro e N ⟨rfl,p⟩;have y:=g.trans (p.mono g.size);clear p j G H I g;rw [<- o.out];go_wp2;go_ret;exact ⟨rfl,y⟩
theorem Zdg (v1 v2 v3:Value)(d:List Nd)(a:List In)(c:List Df)(w:World)(R1:NRow w v1 d)(R2:InRow w v2 a)(R3:DfRow w v3 c) :
  Calls prog 52 #[.agg #[v1,v2,v3]] w fun e w'=>e=.returned (.bool (ZaO d a c))/\Below w.heap.size w w':=by
 have ac:d.length <= 9223372036854775807:=by obtain ⟨_,_,_,_,Z,_⟩:=R1;exact Z
 have aj:a.length <= 9223372036854775807:=by obtain ⟨_,_,_,_,Z,_⟩:=R2;exact Z
 obtain ⟨M,O,rfl⟩:=R1.small;obtain ⟨G,H,rfl⟩:=R2.small;have aa:=R3;obtain ⟨N,L,rfl,ah,Z,hz,f⟩:=aa;have A:Below w.heap.size w (w.alloc (Obj.cells #[.slice M d.length O,.slice G a.length H,.slice N c.length L] 45)):=(cf _ _).alloc (ce _) _
 go_enter func52,ntmps52
 go_wp2_with fail;refine (Zct _ d _ (R1.below A)).mono ?_;rintro e K ⟨rfl,J⟩;have v:K.heap[w.heap.size]? = some (.cells #[.slice M d.length O,.slice G a.length H,.slice N c.length L] 45 (0,0)):=(J.block _ (by simp)).trans (cg _ _);have r:=A.trans (J.mono A.size);have ad:=(bl v);have r1:K.cell? ⟨w.heap.size,0+1,none⟩=some (.slice G a.length H):=by rw [cd K _ 1 _ _ _ v];rfl
 have r2:K.cell? ⟨w.heap.size,0+2,none⟩=some (.slice N c.length L):=by rw [cd K _ 2 _ _ _ v];rfl
 clear A J;cases hp:Zap d with
 | false =>
  have j:Hid (ZaO d a c=false):=by unfold Hid;simp [ZaO,hp]
  go_wp2;go_ret;exact ⟨by rw [j.out];rfl,r⟩
 | true =>
  by_cases h4:a.length <= 400
  ·by_cases h2:c.length <= 20
   ·have HC:Hid (ZaO d a c=(insB a 0 d.length a.length && dfsB c a.length c 0)):=by unfold Hid;simp [ZaO,hp,h4,h2]
    go_wp2_with fail
    go_loopw [3] (fun i wr=>∃ k:Nat,k <= a.length/\i=.int .i64 k/\Hid (insB a 0 d.length a.length=insB (a.drop k) k d.length a.length)/\Below K.heap.size K wr) (fun i _=>a.length - (intOf i).toNat)
    case atStart=>exact ⟨0,by omega,rfl,rfl,cf _ _⟩
    case round =>
     obtain ⟨k,hk,rfl,y,Y⟩:=hrel;have P:=r.trans (Y.mono r.size);have q:=(Y.block _ ad).trans v;have q0:wr.cell? ⟨w.heap.size,0,none⟩=some (.slice M d.length O):=by rw [cd wr _ 0 _ _ _ q];rfl
     have q1:wr.cell? ⟨w.heap.size,0+1,none⟩=some (.slice G a.length H):=by rw [cd wr _ 1 _ _ _ q];rfl
     have q2:wr.cell? ⟨w.heap.size,0+2,none⟩=some (.slice N c.length L):=by rw [cd wr _ 2 _ _ _ q];rfl
     by_cases ab:k < a.length
     ·obtain ⟨x,C⟩:∃ x,a[k]? = some x:=⟨a[k],by simp [ab]⟩
      have HI:Hid (insB a 0 d.length a.length=(Zau x k d.length a.length && insB (a.drop (k+1)) (k+1) d.length a.length)):=by unfold Hid;rw [y.out,ZeJ a k d.length a.length x C]
      have HX:Hid (a[k]? = some x):=C;clear f y C;go_wp2_with fail;refine (Zht _ _ _ _ _ _ _ a k x _ (R2.below P) HX.out ac).mono ?_;rintro e w2 ⟨rfl,n⟩;have l:=P.trans (n.mono P.size);have R:=Y.trans (n.mono Y.size);clear q0 q1 q2 n r1 r2;generalize Zau x k d.length a.length=b at HI;cases b with
      | false =>
       have j:Hid (ZaO d a c=false):=by unfold Hid;rw [HC.out,HI.out];rfl
       go_wp2;go_ret;exact ⟨by rw [j.out];rfl,l⟩
      | true =>
       go_wp2
       go_roundw
       case rel=>exact ⟨k+1,by omega,by go_num,(by unfold Hid;rw [HI.out,Bool.true_and]),R⟩
       case measure=>simp [intOf];omega
     ·have HI:Hid (ZaO d a c=dfsB c a.length c 0):=by unfold Hid;rw [HC.out,y.out,List.drop_eq_nil_of_le (by omega)];simp [insB]
      have V:=(bl q);clear y HC r1 r2 v;go_wp2_with fail
      go_loopw [4] (fun i wq=>∃ k:Nat,k <= c.length/\i=.int .i64 k/\Hid (dfsB c a.length c 0=dfsB c a.length (c.drop k) k)/\Below wr.heap.size wr wq) (fun i _=>c.length - (intOf i).toNat)
      case atStart=>exact ⟨0,by omega,rfl,rfl,cf _ _⟩
      case round =>
       obtain ⟨k2,ai,rfl,y,t⟩:=hrel;have z:=P.trans (t.mono P.size);have D:=(t.block _ V).trans q;have ae:=cm V t.size;have p0:wr.cell? ⟨w.heap.size,0,none⟩=some (.slice M d.length O):=by rw [cd wr _ 0 _ _ _ D];rfl
       have p1:wr.cell? ⟨w.heap.size,0+1,none⟩=some (.slice G a.length H):=by rw [cd wr _ 1 _ _ _ D];rfl
       have p2:wr.cell? ⟨w.heap.size,0+2,none⟩=some (.slice N c.length L):=by rw [cd wr _ 2 _ _ _ D];rfl
       clear q0 q1 q2 q
       by_cases E:k2 < c.length
       ·obtain ⟨g,o,rfl,hg,f⟩:=f (by intro e;subst e;simp at E)
        obtain ⟨x,C⟩:∃ x,c[k2]? = some x:=⟨c[k2],by simp [E]⟩;obtain ⟨d0,d1,d2⟩:=(f k2 x C).below z hg;have ag:=hz x (List.mem_of_getElem? C);have X:Hid (ZaO d a c=(dfB c a.length x k2 && dfsB c a.length (c.drop (k2+1)) (k2+1))):=by unfold Hid;rw [HI.out,y.out,ZcV c k2 a.length x C]
        have HD:Hid (dfsB c a.length (c.drop k2) k2=(dfB c a.length x k2 && dfsB c a.length (c.drop (k2+1)) (k2+1))):=ZcV c k2 a.length x C;clear f C;go_wp2_with fail;refine (ZaK x.s _ ag).mono ?_;rintro e w2 ⟨rfl,rfl⟩;have l:Below w.heap.size w (wr.alloc (Obj.cells #[.string x.s,.int .i64 x.p,.int .i64 x.m] 157)):=z.alloc z.size _;have n:Below _ _ (wr.alloc (Obj.cells #[.string x.s,.int .i64 x.p,.int .i64 x.m] 157)):=t.alloc t.size _;cases T:ZbQ x.s with
        | false =>
         have j:Hid (ZaO d a c=false):=by unfold Hid;rw [X.out];simp [dfB,T]
         go_wp2;go_ret;exact ⟨by rw [j.out];rfl,l⟩
        | true =>
         go_wp2_with fail;refine (Zhr _ _ _ _ _ _ _ c x.s _ (R3.below l)).mono ?_;rintro e F ⟨rfl,u⟩;have I:=l.trans (u.mono l.size);have S:=n.trans (u.mono n.size);have af:F.heap[w.heap.size]? = some (.cells #[.slice M d.length O,.slice G a.length H,.slice (some ⟨g,o,none⟩) c.length L] 45 (0,0)):=(u.block _ (by simp;omega)).trans ((cn _ _ ae).trans D);have W:F.heap[wr.heap.size]? = some (.cells #[.string x.s,.int .i64 x.p,.int .i64 x.m] 157 (0,0)):=(u.block _ (by simp)).trans (cg _ _);have r1:F.cell? ⟨w.heap.size,0+1,none⟩=some (.slice G a.length H):=by rw [cd F _ 1 _ _ _ af];rfl
         have t1:F.cell? ⟨wr.heap.size,0+1,none⟩=some (.int .i64 x.p):=by rw [cd F _ 1 _ _ _ W];rfl
         have t2:F.cell? ⟨wr.heap.size,0+2,none⟩=some (.int .i64 x.m):=by rw [cd F _ 2 _ _ _ W];rfl
         clear u l n p0 p1 p2
         by_cases B:Za6 c x.s 0=(k2:Int)
         ·rw [B]
          go_wp2_with fail;refine (Zao _ _ _ _).mono ?_;rintro e w4 ⟨rfl,rfl⟩;have HP:Hid ((decide (0 <= x.p) && decide (x.p <= (a.length:Int) - 1))=(decide (0 <= x.p) && decide (x.p < a.length))):=by unfold Hid;rw [Bool.eq_iff_iff];simp;omega
          rw [HP.out];clear r1 t1;cases U:(decide (0 <= x.p) && decide (x.p < a.length)) with
          | false =>
           have j:Hid (ZaO d a c=false):=by unfold Hid;rw [X.out,dfB,U];simp
           go_wp2;go_ret;exact ⟨by rw [j.out];rfl,I⟩
          | true =>
           go_wp2_with fail;refine (Zao _ _ _ _).mono ?_;rintro e w4 ⟨rfl,rfl⟩;clear t2;cases Q:(decide (0 <= x.m) && decide (x.m <= 4)) with
           | false =>
            have j:Hid (ZaO d a c=false):=by unfold Hid;rw [X.out,dfB,Q];simp
            go_wp2;go_ret;exact ⟨by rw [j.out];rfl,I⟩
           | true =>
            have j:Hid (dfsB c a.length c 0=dfsB c a.length (c.drop (k2+1)) (k2+1)):=by unfold Hid;rw [y.out,HD.out,dfB,Q,U,T,B];simp
            go_wp2
            go_roundw
            case rel=>exact ⟨k2+1,by omega,by go_num,j,S⟩
            case measure=>simp [intOf];omega
         ·have j:Hid (ZaO d a c=false):=by unfold Hid;rw [X.out];simp [dfB,B]
          generalize Za6 c x.s 0=ix at B;go_wp2;go_ret;exact ⟨by rw [j.out];rfl,I⟩
       ·have j:Hid (ZaO d a c=true):=by unfold Hid;rw [HI.out,y.out,List.drop_eq_nil_of_le (by omega)];rfl
        clear y f;go_wp2;go_ret;exact ⟨by rw [j.out];rfl,z⟩
   ·have j:Hid (ZaO d a c=false):=by unfold Hid;simp [ZaO,h2]
    go_wp2;go_ret;exact ⟨by rw [j.out];rfl,r⟩
  ·have j:Hid (ZaO d a c=false):=by unfold Hid;simp [ZaO,h4]
   go_wp2;go_ret;exact ⟨by rw [j.out];rfl,r⟩
theorem ZaL {P:Program}(w:World){ops:Array Oper}{n:List Oper}{o:Oper}{a:Act}{Q:Exit -> Act -> World -> Prop}(L:o.guard=none)(s x:Operand)(t:TypeId)(y:o.op=Op.call { callee:=Callee.builtin Builtin.append,args:=#[s,x],argTypes:=#[t,t] })(f:Nat)(e:TypeId)(i:TypeInfo)(z:Value)(b g:Nat)(D:P.underlying t=some (.slice e))(E:P.info? e=some i)(U:i.zero=some z)(V:i.size=b)(W:i.bytes=g)(X:z.cells.size=b)(Y:0 < b)(v:Value)(k:Nat)(G:List Value)(N:a.eval s=v)(l:w.ownsRow f e b v k G)(C:Option Addr)(m c:Nat)(d:List Value)(O:a.eval x=.slice C m c)(M:d.length=m * b)(q:C=none -> m=0/\c=0)(Z:∀ r,C=some r -> ∀ j u,d[j]? = some u -> w.cell? (r.add j)=some u)(H:∀ u ∈ d,u.oneCell'=true)(R:k+m <= maxLen)(S:(k+m) * g <= 140737488355328)(T:f <= w.heap.size)(J:∀ F B,B.ownsRow f e b F (k+m) (G ++ d) -> w.grownBy B v.ownBlock -> wpList P ops Q n (a.put o.dst F) B) :
  wpList P ops Q (o :: n) a w:=by
 cases C with
 | some r=>exact wpList_append_own w L s x t y f e i z b g D E U V W X Y v k G N l r m c d O M (Z r rfl) H R S T (fun F B D E _=>J F B D E)
 | none =>
  obtain ⟨rfl,rfl⟩:=q rfl;have p:d=[]:=List.eq_nil_of_length_eq_zero (by simpa using M);subst p;refine wpList_plain L fun K I=>?_
  have A:=run_append_owned_none (P:=P) w f t o.type e i b D E _ k G l;unfold Oper.wp;simp [execOp,y,resolve,invoke,builtin,N,O,A,Result.andThen];exact I _ _ (by simpa using J v w (by simpa using l) (World.grownBy.refl _ _))
theorem Zmf:(prog.info? 41).map (·.size)=some 1:=by kernel_rfl
def ZlE (xs:List Nd)(x:Nd):List Nd:=if Zap xs=true then (if xs.length ≠ 3000/\Zav x xs.length=true then xs ++ [x] else xs) else []
def ZlD (xs:List Nd)(x:Nd):Int:=if Zap xs=true then (if xs.length ≠ 3000/\Zav x xs.length=true then xs.length else -1) else -1
theorem ZjC {B b d n c:Nat}{g e:World}{f:Option Addr}{i:List Value}(o:e.heap[B]? = some (.cells #[.slice none 0 0] 41 (0,0)))(m:e.ownsRow d 176 5 (.slice f n c) n i)(l:Below b g e)(j:B < d)(k:b <= B) :
  (e.setCell ⟨B,0,none⟩ (.slice f n c)).heap[B]? = some (.cells #[.slice f n c] 41 (0,0))/\(e.setCell ⟨B,0,none⟩ (.slice f n c)).ownsRow b 176 5 (.slice f n c) n i/\Below b g (e.setCell ⟨B,0,none⟩ (.slice f n c)) :=
 ⟨ci e B 0 _ _ _ o,Zae (cx m (a:=⟨B,0,none⟩) j _) (by omega),l.setCell (p:=⟨B,0,none⟩) k _⟩
def IRow (w:World)(v:Value)(zs:List Int):Prop :=
 ∃ ao cap,v=.slice ao zs.length cap/\(zs.length <= cap/\(ao=none -> cap=0))/\zs.length <= 9223372036854775807/\(zs ≠ [] -> ∃ g o,ao=some ⟨g,o,none⟩/\g < w.heap.size/\∀ i,i < zs.length -> w.cell? ⟨g,o+i,none⟩=some (.int .i64 (zs.getD i 0)))
theorem IRow.below {w f:World}{v:Value}{j:List Int}(h:IRow w v j)(d:Below w.heap.size w f):IRow f v j:=by
 obtain ⟨k,b,rfl,l,m,a⟩:=h;refine ⟨k,b,rfl,l,m,fun c=>?_⟩;obtain ⟨g,o,rfl,e,a⟩:=a c;exact ⟨g,o,rfl,cm e d.size,fun i hi=>(d.cell (p:=⟨g,o+i,none⟩) e).trans (a i hi)⟩
def Zlj (k:Int)(zs:List Int)(i:Nat):List Int:=(List.range i).map (fun (j:Nat)=>k+(j:Int)) ++ zs.drop i
def nilN:Nd:=⟨1,0,ByteArray.empty,0,0⟩
def Zln (z:Int)(last:Nat):Nd:=⟨5,0,ByteArray.empty,z,last⟩
def Zkd:List Int -> Nat -> List Nd
 | [],_=>[]
 | z :: r,last=>Zln z last :: Zkd r (last+1)
def more (zs:List Int)(n m:Nat):List Nd:=nilN :: Zkd (zs.drop m).reverse n
def allI (xs:List Nd)(zs:List Int):Bool:=zs.all (hasI xs)
def mlOk (xs:List Nd)(zs:List Int):Bool:=decide (xs.length+1+zs.length <= 3000) && allI xs zs
def mlL (xs:List Nd)(zs:List Int):List Nd:=if Zap xs=true then (if mlOk xs zs=true then xs ++ more zs xs.length 0 else xs) else []
def mlI (xs:List Nd)(zs:List Int):Int:=if Zap xs=true then (if mlOk xs zs=true then ((xs.length+zs.length:Nat):Int) else -1) else -1
theorem Zjb (p:Int -> Bool)(a:List Int)(k:Nat)(h:k < a.length):(a.drop k).all p=(p (a.getD k 0) && (a.drop (k+1)).all p):=by
 rw [List.drop_eq_getElem_cons h,List.all_cons,List.getD_eq_getElem?_getD,List.getElem?_eq_getElem h];rfl
theorem ZgX (v x:Value)(c:List Nd)(b:List Int)(w:World)(R:NRow w v c)(L:IRow w x b) :
  Calls prog 154 #[.agg #[v],x] w fun e H=>e=.returned (.bool (allI c b))/\Below w.heap.size w H:=by
 have A:=R;obtain ⟨B,u,rfl,_⟩:=A;obtain ⟨I,J,rfl,E,G,a⟩:=L
 go_enter func154,ntmps154
 go_wp2_with fail
 go_loopw [9] (fun i wr=>∃ k:Nat,k <= b.length/\i=.int .i64 k/\Hid (allI c b=(b.drop k).all (hasI c))/\wr.cell? ⟨w.heap.size,0,none⟩=some (.slice B c.length u)/\w.heap.size < wr.heap.size/\Below w.heap.size w wr) (fun i _=>b.length - (intOf i).toNat)
 case atStart=>exact ⟨0,by omega,rfl,by simp [Hid,allI],by simp,by simp,(cf _ _).alloc (ce _) _⟩
 case round =>
  obtain ⟨k,K,rfl,s,f,q,m⟩:=hrel
  by_cases l:k < b.length
  ·obtain ⟨g,o,rfl,F,a⟩:=a (by intro e;subst e;simp at l)
   have c0:=(m.cell (p:=⟨g,o+k,none⟩) F).trans (a k l);have t:Hid (allI c b=(hasI c (b.getD k 0) && (b.drop (k+1)).all (hasI c))):=by unfold Hid;rw [s.out,Zjb _ _ _ l]
   clear a s;generalize b.getD k 0=z at c0 t;go_wp2_with fail;refine (ZfJ _ c _ _ (R.below m)).mono ?_;rintro e M ⟨rfl,d⟩;have n:=m.trans (d.mono m.size);have j:=(d.cell (p:=⟨w.heap.size,0,none⟩) q).trans f;have r:=cm q d.size;clear c0 d f m;generalize D:hasI c z=C at t ⊢;clear D;cases C with
   | false =>
    go_wp2;go_ret;exact ⟨by rw [t.out];rfl,n⟩
   | true =>
    go_wp2
    go_roundw
    case rel=>exact ⟨k+1,by omega,by go_num,by rw [t.out];rfl,j,r,n⟩
    case measure=>simp [intOf];omega
  ·have e:k=b.length:=by omega
   subst e;have y:Hid (allI c b=true):=by unfold Hid;rw [s.out,List.drop_length];rfl
   clear s;go_wp2;go_ret;exact ⟨by rw [y.out];rfl,m⟩
end Go.Proofs.YtanhoamdlhaaeaaGreatDoor
