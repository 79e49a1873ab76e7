/-
  Texts that stood by themselves, laid into one.
-/
import Derived.Test.YtanhoamdlhaaeaaGreatDoorNodeFitsM
import Derived.Test.YtanhoamdlhaaeaaGreatDoorMkListM
import Derived.Test.YtanhoamdlhaaeaaGreatDoorMachRecM
import Derived.Test.YtanhoamdlhaaeaaGreatDoorShapeM
/-
  A machine that is right, on impl's side: isAsked, stateFits. No condition.
-/
set_option maxRecDepth 100000
set_option maxHeartbeats 6400000
namespace Go.Proofs.YtanhoamdlhaaeaaGreatDoor
open Go.Proofs.Tryz
open Go.RowKit
def Zcn (n:Nat)(p:Int):Bool:=decide (0 <= p) && decide (p < n)
def askB (q:Int):Bool:=decide (12 < q) && decide (q <= 19) && decide (q ≠ 18)
def ZbB (n:Nat)(xs:List Nd)(m:Mc):Bool :=
  if m.t=0 then Zcn n m.p && decide (m.q=0) && decide (m.r=0)
  else if m.t=1 then Zcn n m.p && askB m.q && hasI xs m.r
  else if m.t=2 then decide (m.p=0) && decide (m.q=0) && hasI xs m.r
  else if m.t=3 then decide (m.p=0) && decide (1 <= m.q) && decide (m.q <= 7) && decide (m.r=0)
  else false
theorem ZfO (q:Int)(w:World):Calls prog 165 #[.int .i64 q] w fun e d=>e=.returned (.bool (askB q))/\d=w:=by
  go_enter func165,ntmps165
  by_cases b:12 < q
  · by_cases c:q <= 19
    · by_cases a:q=18
      · subst a
        go_wp2;go_ret;exact ⟨rfl,rfl⟩
      · have f:(q == 18)=false:=by simp [a]
        have g:decide (q=18)=false:=by simp [a]
        go_wp2;go_ret;exact ⟨by simp [askB,b,c,a],rfl⟩
    · go_wp2
      go_ret;exact ⟨by simp [askB];omega,rfl⟩
  · go_wp2
    go_ret;exact ⟨by simp [askB];omega,rfl⟩
theorem Zdp (M N O:Option Addr)(V n W S T U:Nat)(v:Value)(k:List Nd)(m:Mc)(w:World)(R:NRow w v k) :
    Calls prog 155 #[.agg #[.slice M V S,.slice N n T,.slice O W U],.agg #[v,.int .i64 m.p,.int .i64 m.s,.int .i64 m.e,.int .i64 m.d,.int .i64 m.t,.int .i64 m.q,.int .i64 m.r]] w fun e w'=>e=.returned (.bool (ZbB n k m))/\Below w.heap.size w w':=by
  have R':=R;obtain ⟨P,y,rfl,_⟩:=R';obtain ⟨b,D,C,B,mt,f,g⟩:=m;have a:Below w.heap.size w ((w.alloc (Obj.cells #[.slice M V S,.slice N n T,.slice O W U] 45)).alloc (Obj.cells #[.slice P k.length y,.int .i64 b,.int .i64 D,.int .i64 C,.int .i64 B,.int .i64 mt,.int .i64 f,.int .i64 g] 66)):=((cf _ _).alloc (ce _) _).alloc (by simp) _;have o:=cw w (Obj.cells #[.slice M V S,.slice N n T,.slice O W U] 45) (Obj.cells #[.slice P k.length y,.int .i64 b,.int .i64 D,.int .i64 C,.int .i64 B,.int .i64 mt,.int .i64 f,.int .i64 g] 66);have L:=R.below a;have F:=(bl o)
  go_enter func155,ntmps155
  by_cases H:mt=0
  · subst H
    go_wp2_with fail;refine (Zcd _ _ _ _ _ _ _ _ _ b _).mono ?_;rintro e u ⟨rfl,l⟩;have i:=a.trans (l.mono a.size);have j:=(l.block _ F).trans o;have Z:u.cell? ⟨w.heap.size+1,0+6,none⟩=some (.int .i64 f):=by rw [cd u _ 6 _ _ _ j];rfl
    have k7:u.cell? ⟨w.heap.size+1,0+7,none⟩=some (.int .i64 g):=by rw [cd u _ 7 _ _ _ j];rfl
    have c:Hid (ZbB n k ⟨b,D,C,B,0,f,g⟩=((decide (0 <= b) && decide (b < n)) && decide (f=0) && decide (g=0))):=rfl;generalize (decide (0 <= b) && decide (b < n))=bb at c ⊢;clear o j l a L;cases bb with
    | true =>
      go_wp2
      all_goals
        go_ret;refine ⟨retB ?_,i⟩;rw [c.out]
        first | (simp [*];done) | (simp [*];rfl)
    | false =>
      go_wp2;go_ret;exact ⟨retB (by rw [c.out];rfl),i⟩
  · by_cases I:mt=1
    · subst I
      go_wp2_with fail;refine (Zcd _ _ _ _ _ _ _ _ _ b _).mono ?_;rintro e u ⟨rfl,l⟩;have i:=a.trans (l.mono a.size);have j:=(l.block _ F).trans o;have k0:u.cell? ⟨w.heap.size+1,0,none⟩=some (.slice P k.length y):=by rw [cd u _ 0 _ _ _ j];rfl
      have Z:u.cell? ⟨w.heap.size+1,0+6,none⟩=some (.int .i64 f):=by rw [cd u _ 6 _ _ _ j];rfl
      have k7:u.cell? ⟨w.heap.size+1,0+7,none⟩=some (.int .i64 g):=by rw [cd u _ 7 _ _ _ j];rfl
      have c:Hid (ZbB n k ⟨b,D,C,B,1,f,g⟩=((decide (0 <= b) && decide (b < n)) && askB f && hasI k g)):=rfl;generalize (decide (0 <= b) && decide (b < n))=bb at c ⊢;clear o j l a L;cases bb with
      | true =>
        go_wp2_with fail;refine (ZfO f _).mono ?_;rintro e w2 ⟨rfl,rfl⟩;generalize askB f=b2 at c ⊢;cases b2 with
        | true =>
          go_wp2_with fail;refine (ZfJ _ k g _ (R.below i)).mono ?_;rintro e w3 ⟨rfl,A⟩;have z:=i.trans (A.mono i.size);generalize hasI k g=Q at c ⊢;clear k0 Z k7
          cases Q <;>
            (go_wp2
             go_ret
             exact ⟨retB (by rw [c.out];rfl),z⟩)
        | false =>
          go_wp2;go_ret;exact ⟨retB (by rw [c.out];rfl),i⟩
      | false =>
        go_wp2;go_ret;exact ⟨retB (by rw [c.out];rfl),i⟩
    · by_cases J:mt=2
      · subst J
        have c:Hid (ZbB n k ⟨b,D,C,B,2,f,g⟩=(decide (b=0) && decide (f=0) && hasI k g)):=rfl
        by_cases E:b=0
        · subst E
          by_cases X:f=0
          · subst X
            go_wp2_with fail;refine (ZfJ _ k g _ L).mono ?_;rintro e w3 ⟨rfl,A⟩;have z:=a.trans (A.mono a.size);generalize hasI k g=Q at c ⊢
            cases Q <;>
              (go_wp2
               go_ret
               exact ⟨retB (by rw [c.out];rfl),z⟩)
          · have G:(f == 0)=false:=by simp [X]
            have x:decide (f=0)=false:=by simp [X]
            go_wp2;go_ret;exact ⟨retB (by rw [c.out,x];rfl),a⟩
        · have G:(b == 0)=false:=by simp [E]
          have x:decide (b=0)=false:=by simp [E]
          go_wp2;go_ret;exact ⟨retB (by rw [c.out,x];rfl),a⟩
      · by_cases K:mt=3
        · subst K
          have c:Hid (ZbB n k ⟨b,D,C,B,3,f,g⟩=(decide (b=0) && decide (1 <= f) && decide (f <= 7) && decide (g=0))):=rfl
          by_cases E:b=0
          · subst E
            by_cases q1:1 <= f
            · by_cases q7:f <= 7
              · by_cases Y:g=0
                · subst Y
                  go_wp2;go_ret;exact ⟨retB (by rw [c.out];simp [q1,q7]),a⟩
                · have G:(g == 0)=false:=by simp [Y]
                  have x:decide (g=0)=false:=by simp [Y]
                  go_wp2;go_ret;exact ⟨retB (by rw [c.out,x];simp),a⟩
              · go_wp2
                go_ret;exact ⟨retB (by rw [c.out];simp;omega),a⟩
            · go_wp2
              go_ret;exact ⟨retB (by rw [c.out];simp;omega),a⟩
          · have G:(b == 0)=false:=by simp [E]
            have x:decide (b=0)=false:=by simp [E]
            go_wp2;go_ret;exact ⟨retB (by rw [c.out,x];rfl),a⟩
        · have c:Hid (ZbB n k ⟨b,D,C,B,mt,f,g⟩=false):=by unfold Hid ZbB;simp [H,I,J,K]
          have g0:(mt == 0)=false:=by simp [H]
          have G:(mt == 1)=false:=by simp [I]
          have x:(mt == 2)=false:=by simp [J]
          have g3:(mt == 3)=false:=by simp [K]
          have f0:decide (mt=0)=false:=by simp [H]
          have f1:decide (mt=1)=false:=by simp [I]
          have f2:decide (mt=2)=false:=by simp [J]
          have f3:decide (mt=3)=false:=by simp [K]
          go_wp2;go_ret;exact ⟨retB (by rw [c.out]),a⟩
def Zb9 (ns:List Nd)(is:List In)(ds:List Df)(xs:List Nd)(m:Mc):Bool:=ZaO ns is ds && Zap xs && allI xs [m.s,m.e,m.d] && ZbB is.length xs m
theorem ZlK:(prog.info? 45).map (·.size)=some 3:=by kernel_rfl
theorem IRow.lit3 (w:World)(a b c:Int):IRow (w.alloc (Obj.cells #[.int .i64 a,.int .i64 b,.int .i64 c] 3)) (.slice (some ⟨w.heap.size,0,none⟩) 3 3) [a,b,c]:=by
  refine ⟨_,3,rfl,⟨by simp,fun h=>by cases h⟩,by simp,fun _=>⟨_,0,rfl,by simp,fun i hi=>?_⟩⟩;rw [cd _ w.heap.size (0+i) _ 3 (0,0) (cg w _)];have:i=0 \/ i=1 \/ i=2:=by simp at hi;omega
  rcases this with rfl | rfl | rfl <;> rfl
theorem ZfL (v1 v2 v3 v:Value)(C:List Nd)(n:List In)(B:List Df)(c:List Nd)(m:Mc)(w:World)(O:NRow w v1 C)(P:InRow w v2 n)(Q:DfRow w v3 B)(R:NRow w v c) :
    Calls prog 134 #[.agg #[v1,v2,v3],.agg #[v,.int .i64 m.p,.int .i64 m.s,.int .i64 m.e,.int .i64 m.d,.int .i64 m.t,.int .i64 m.q,.int .i64 m.r]] w fun e w'=>e=.returned (.bool (Zb9 C n B c m))/\Below w.heap.size w w':=by
  have R':=R;obtain ⟨K,o,rfl,_⟩:=R';obtain ⟨S,V,rfl⟩:=O.small;obtain ⟨T,W,rfl⟩:=P.small;obtain ⟨U,X,rfl⟩:=Q.small;obtain ⟨g,G,J⟩:=ZaC w (Obj.cells #[.slice S C.length V,.slice T n.length W,.slice U B.length X] 45) (Obj.cells #[.slice K c.length o,.int .i64 m.p,.int .i64 m.s,.int .i64 m.e,.int .i64 m.d,.int .i64 m.t,.int .i64 m.q,.int .i64 m.r] 66)
  go_enter func134,ntmps134
  go_wp2_with fail;refine (ZcY _ _ _ C n B _ (O.below g) (P.below g) (Q.below g)).mono ?_;rintro e w1 ⟨rfl,y⟩;have l:=g.trans (y.mono g.size);have H:=(bb G y);have E:=(bb J y);clear g G J y;have A:Hid (Zb9 C n B c m=(ZaO C n B && Zap c && allI c [m.s,m.e,m.d] && ZbB n.length c m)):=rfl;have L:w1.cell? ⟨w.heap.size+1,0,none⟩=some (.slice K c.length o):=by rw [cd w1 _ 0 _ _ _ E];rfl
  generalize ZaO C n B=b1 at A ⊢;cases b1 with
  | false =>
    go_wp2;go_ret;exact ⟨retB (by rw [A.out];rfl),l⟩
  | true =>
    go_wp2_with fail;refine (ZeK _ c _ (R.below l)).mono ?_;rintro e k ⟨rfl,z⟩;have i:=l.trans (z.mono l.size);have I:=(bb H z);have j:=(bb E z);clear l H E z L;have L:k.cell? ⟨w.heap.size+1,0,none⟩=some (.slice K c.length o):=by rw [cd k _ 0 _ _ _ j];rfl
    have k2:k.cell? ⟨w.heap.size+1,0+2,none⟩=some (.int .i64 m.s):=by rw [cd k _ 2 _ _ _ j];rfl
    have Y:k.cell? ⟨w.heap.size+1,0+3,none⟩=some (.int .i64 m.e):=by rw [cd k _ 3 _ _ _ j];rfl
    have Z:k.cell? ⟨w.heap.size+1,0+4,none⟩=some (.int .i64 m.d):=by rw [cd k _ 4 _ _ _ j];rfl
    generalize Zap c=b2 at A ⊢;cases b2 with
    | false =>
      go_wp2;go_ret;exact ⟨retB (by rw [A.out];rfl),i⟩
    | true =>
      have x:Below k.heap.size k (k.alloc (Obj.cells #[.int .i64 m.s,.int .i64 m.e,.int .i64 m.d] 3)):=(cf _ _).alloc (ce _) _;go_wp2_with fail;refine (ZgX _ _ c [m.s,m.e,m.d] _ (R.below (i.trans (x.mono i.size))) (IRow.lit3 k m.s m.e m.d)).mono ?_;rintro e a ⟨rfl,F⟩;have f:=x.trans (F.mono x.size);have u:=i.trans (f.mono i.size);have D:=(bb I f);have b:=(bb j f);clear i I j F f x L k2 Y Z;generalize allI c [m.s,m.e,m.d]=b3 at A ⊢;cases b3 with
      | false =>
        go_wp2;go_ret;exact ⟨retB (by rw [A.out];rfl),u⟩
      | true =>
        have l0:a.cell? ⟨w.heap.size,0,none⟩=some (.slice S C.length V):=cd a _ 0 _ _ _ D;have l1:a.cell? ⟨w.heap.size,1,none⟩=some (.slice T n.length W):=cd a _ 1 _ _ _ D;have l2:a.cell? ⟨w.heap.size,2,none⟩=some (.slice U B.length X):=cd a _ 2 _ _ _ D;have L:a.cell? ⟨w.heap.size+1,0,none⟩=some (.slice K c.length o):=cd a _ 0 _ _ _ b;have k1:a.cell? ⟨w.heap.size+1,1,none⟩=some (.int .i64 m.p):=cd a _ 1 _ _ _ b;have k2:a.cell? ⟨w.heap.size+1,2,none⟩=some (.int .i64 m.s):=cd a _ 2 _ _ _ b;have Y:a.cell? ⟨w.heap.size+1,3,none⟩=some (.int .i64 m.e):=cd a _ 3 _ _ _ b;have Z:a.cell? ⟨w.heap.size+1,4,none⟩=some (.int .i64 m.d):=cd a _ 4 _ _ _ b;have k5:a.cell? ⟨w.heap.size+1,5,none⟩=some (.int .i64 m.t):=cd a _ 5 _ _ _ b
        have k6:a.cell? ⟨w.heap.size+1,6,none⟩=some (.int .i64 m.q):=cd a _ 6 _ _ _ b;have k7:a.cell? ⟨w.heap.size+1,7,none⟩=some (.int .i64 m.r):=cd a _ 7 _ _ _ b;go_wp2_with fail;refine (Zdp _ _ _ _ _ _ _ _ _ _ c m _ (R.below u)).mono ?_;rintro e w4 ⟨rfl,N⟩;have M:=u.trans (N.mono u.size);generalize ZbB n.length c m=b4 at A ⊢
        cases b4 <;>
          (go_wp2
           go_ret
           exact ⟨retB (by rw [A.out];rfl),M⟩)
structure MBox (w:World)(b:Nat)(cc mc:Array Value):Prop where
  code:w.heap[b]? = some (.cells cc 45 (0,0))
  mach:w.heap[b+1]? = some (.cells mc 66 (0,0))
theorem MBox.below {w e:World}{b:Nat}{a d:Array Value}(h:MBox w b a d)(c:Below w.heap.size w e):MBox e b a d :=
  ⟨(c.block _ (Array.getElem?_eq_some_iff.1 h.code).1).trans h.code,(c.block _ (Array.getElem?_eq_some_iff.1 h.mach).1).trans h.mach⟩
theorem Zf4 (v1 v2 v3 v:Value)(x:List Nd)(i:List In)(l:List Df)(c:List Nd)(m:Mc)(w:World)(R1:NRow w v1 x)(R2:InRow w v2 i)(R3:DfRow w v3 l)(R:NRow w v c) :
    Calls prog 121 #[.agg #[v1,v2,v3],.agg #[v,.int .i64 m.p,.int .i64 m.s,.int .i64 m.e,.int .i64 m.d,.int .i64 m.t,.int .i64 m.q,.int .i64 m.r]] w fun e w'=>e=.returned (.bool (Zb9 x i l c m))/\Below w.heap.size w w':=by
  have ab:i.length <= 9223372036854775807:=by obtain ⟨_,_,_,_,hm,_⟩:=R2;exact hm
  have R':=R;obtain ⟨J,k,rfl,_⟩:=R';obtain ⟨a1,c1,rfl⟩:=R1.small;obtain ⟨a2,c2,rfl⟩:=R2.small;obtain ⟨a3,c3,rfl⟩:=R3.small;obtain ⟨g,u,o,n,mt,a,j⟩:=m;obtain ⟨z,Y,Z⟩:=ZaC w (Obj.cells #[.slice a1 x.length c1,.slice a2 i.length c2,.slice a3 l.length c3] 45) (Obj.cells #[.slice J c.length k,.int .i64 g,.int .i64 u,.int .i64 o,.int .i64 n,.int .i64 mt,.int .i64 a,.int .i64 j] 66);have X0:MBox _ w.heap.size #[.slice a1 x.length c1,.slice a2 i.length c2,.slice a3 l.length c3] #[.slice J c.length k,.int .i64 g,.int .i64 u,.int .i64 o,.int .i64 n,.int .i64 mt,.int .i64 a,.int .i64 j]:=⟨Y,Z⟩
  go_enter func121,ntmps121
  go_wp2_with fail;refine (Zdg _ _ _ x i l _ (R1.below z) (R2.below z) (R3.below z)).mono ?_;rintro e w1 ⟨rfl,N⟩;have C:=z.trans (N.mono z.size);have X1:=X0.below N;clear z Y Z N X0;have A:Hid (Zb9 x i l c ⟨g,u,o,n,mt,a,j⟩=(ZaO x i l && Zap c && (hasI c u && (hasI c o && (hasI c n && true))) && ZbB i.length c ⟨g,u,o,n,mt,a,j⟩)):=rfl;have H:w1.cell? ⟨w.heap.size+1,0,none⟩=some (.slice J c.length k):=cd w1 _ 0 _ _ _ X1.mach;generalize ZaO x i l=b1 at A ⊢;cases b1 with
  | false =>
    go_wp2;go_ret;exact ⟨retB (by rw [A.out];rfl),C⟩
  | true =>
    go_wp2_with fail;refine (Zct _ c _ (R.below C)).mono ?_;rintro e w2 ⟨rfl,O⟩;have D:=C.trans (O.mono C.size);have X2:=X1.below O;clear C X1 O H;have H:w2.cell? ⟨w.heap.size+1,0,none⟩=some (.slice J c.length k):=cd w2 _ 0 _ _ _ X2.mach;have k2:w2.cell? ⟨w.heap.size+1,0+2,none⟩=some (.int .i64 u):=cd w2 _ 2 _ _ _ X2.mach;generalize Zap c=b2 at A ⊢;cases b2 with
    | false =>
      go_wp2;go_ret;exact ⟨retB (by rw [A.out];rfl),D⟩
    | true =>
      go_wp2_with fail;refine (Zcs _ c _ _ (R.below D)).mono ?_;rintro e w3 ⟨rfl,P⟩;have E:=D.trans (P.mono D.size);have X3:=X2.below P;clear D X2 P H k2;have H:w3.cell? ⟨w.heap.size+1,0,none⟩=some (.slice J c.length k):=cd w3 _ 0 _ _ _ X3.mach;have k3:w3.cell? ⟨w.heap.size+1,0+3,none⟩=some (.int .i64 o):=cd w3 _ 3 _ _ _ X3.mach;generalize hasI c u=b3 at A ⊢;cases b3 with
      | false =>
        go_wp2;go_ret;exact ⟨retB (by rw [A.out];simp),E⟩
      | true =>
        go_wp2_with fail;refine (Zcs _ c _ _ (R.below E)).mono ?_;rintro e w4 ⟨rfl,Q⟩;have F:=E.trans (Q.mono E.size);have X4:=X3.below Q;clear E X3 Q H k3;have H:w4.cell? ⟨w.heap.size+1,0,none⟩=some (.slice J c.length k):=cd w4 _ 0 _ _ _ X4.mach;have k4:w4.cell? ⟨w.heap.size+1,0+4,none⟩=some (.int .i64 n):=cd w4 _ 4 _ _ _ X4.mach;generalize hasI c o=b4 at A ⊢;cases b4 with
        | false =>
          go_wp2;go_ret;exact ⟨retB (by rw [A.out];simp),F⟩
        | true =>
          go_wp2_with fail;refine (Zcs _ c _ _ (R.below F)).mono ?_;rintro e B ⟨rfl,S⟩;have L:=F.trans (S.mono F.size);have I:=X4.below S;clear F X4 S H k4;have H:B.cell? ⟨w.heap.size+1,0,none⟩=some (.slice J c.length k):=cd B _ 0 _ _ _ I.mach;generalize hasI c n=b5 at A ⊢;cases b5 with
          | false =>
            go_wp2;go_ret;exact ⟨retB (by rw [A.out];simp),L⟩
          | true =>
            have f:Hid (Zb9 x i l c ⟨g,u,o,n,mt,a,j⟩=ZbB i.length c ⟨g,u,o,n,mt,a,j⟩):=by unfold Hid;rw [A.out];simp
            clear A;have b:=L;have k1:B.cell? ⟨w.heap.size+1,0+1,none⟩=some (.int .i64 g):=cd B _ 1 _ _ _ I.mach;have k5:B.cell? ⟨w.heap.size+1,0+5,none⟩=some (.int .i64 mt):=cd B _ 5 _ _ _ I.mach;have k6:B.cell? ⟨w.heap.size+1,0+6,none⟩=some (.int .i64 a):=cd B _ 6 _ _ _ I.mach;have k7:B.cell? ⟨w.heap.size+1,0+7,none⟩=some (.int .i64 j):=cd B _ 7 _ _ _ I.mach;have l1:B.cell? ⟨w.heap.size,0+1,none⟩=some (.slice a2 i.length c2):=cd B _ 1 _ _ _ I.code;have R5:=R.below L;clear I;go_wp2_with fail;refine (Zao g 0 ((i.length:Int) - 1) _).mono ?_;rintro e w6 ⟨rfl,rfl⟩
            have aa:(decide (0 <= g) && decide (g <= (i.length:Int) - 1))=Zcn i.length g:=by
              unfold Zcn
              congr 1
              rw [decide_eq_decide];omega
            rw [aa]
            by_cases t0:mt=0
            · subst t0
              replace f:Hid (Zb9 x i l c ⟨g,u,o,n,0,a,j⟩=(Zcn i.length g && decide (a=0) && decide (j=0))):=f;generalize Zcn i.length g=bb at f ⊢;cases bb with
              | true =>
                by_cases V:a=0
                · subst V
                  by_cases W:j=0
                  · subst W
                    go_wp2;go_ret;exact ⟨retB (by rw [f.out];rfl),b⟩
                  · have K:(j == 0)=false:=by simp [W]
                    have y:decide (j=0)=false:=by simp [W]
                    go_wp2;go_ret;exact ⟨retB (by rw [f.out,y];rfl),b⟩
                · have K:(a == 0)=false:=by simp [V]
                  have y:decide (a=0)=false:=by simp [V]
                  go_wp2;go_ret;exact ⟨retB (by rw [f.out,y];rfl),b⟩
              | false =>
                go_wp2;go_ret;exact ⟨retB (by rw [f.out];rfl),b⟩
            · by_cases t1:mt=1
              · subst t1
                replace f:Hid (Zb9 x i l c ⟨g,u,o,n,1,a,j⟩=(Zcn i.length g && askB a && hasI c j)):=f;generalize Zcn i.length g=bb at f ⊢;cases bb with
                | true =>
                  go_wp2_with fail;refine (Zao a 13 19 _).mono ?_;rintro e w7 ⟨rfl,rfl⟩
                  have X:askB a=((decide (13 <= a) && decide (a <= 19)) && decide (a ≠ 18)):=by
                    unfold askB
                    congr 2
                  rw [X] at f;generalize (decide (13 <= a) && decide (a <= 19))=b7 at f ⊢;cases b7 with
                  | true =>
                    by_cases G:a=18
                    · subst G
                      go_wp2;go_ret;exact ⟨retB (by rw [f.out];rfl),b⟩
                    · have K:(a == 18)=false:=by simp [G]
                      have y:decide (a=18)=false:=by simp [G]
                      have g3:decide (a ≠ 18)=true:=by simp [G]
                      go_wp2_with fail;refine (Zcs _ c _ _ R5).mono ?_;rintro e w8 ⟨rfl,T⟩;have M:=b.trans (T.mono b.size);generalize hasI c j=b8 at f ⊢
                      cases b8 <;>
                        (go_wp2
                         go_ret
                         exact ⟨retB (by rw [f.out,g3];first | rfl | simp [G]),M⟩)
                  | false =>
                    go_wp2;go_ret;exact ⟨retB (by rw [f.out];rfl),b⟩
                | false =>
                  go_wp2;go_ret;exact ⟨retB (by rw [f.out];rfl),b⟩
              · generalize Zcn i.length g=bb
                by_cases t2:mt=2
                · subst t2
                  replace f:Hid (Zb9 x i l c ⟨g,u,o,n,2,a,j⟩=(decide (g=0) && decide (a=0) && hasI c j)):=f
                  by_cases U:g=0
                  · subst U
                    by_cases V:a=0
                    · subst V
                      go_wp2_with fail;refine (Zcs _ c _ _ R5).mono ?_;rintro e w8 ⟨rfl,T⟩;have M:=b.trans (T.mono b.size);generalize hasI c j=b8 at f ⊢
                      cases b8 <;>
                        (go_wp2
                         go_ret
                         exact ⟨retB (by rw [f.out];rfl),M⟩)
                    · have K:(a == 0)=false:=by simp [V]
                      have y:decide (a=0)=false:=by simp [V]
                      go_wp2;go_ret;exact ⟨retB (by rw [f.out,y];rfl),b⟩
                  · have K:(g == 0)=false:=by simp [U]
                    have y:decide (g=0)=false:=by simp [U]
                    go_wp2;go_ret;exact ⟨retB (by rw [f.out,y];rfl),b⟩
                · by_cases t3:mt=3
                  · subst t3
                    replace f:Hid (Zb9 x i l c ⟨g,u,o,n,3,a,j⟩=(decide (g=0) && decide (1 <= a) && decide (a <= 7) && decide (j=0))):=f
                    by_cases U:g=0
                    · subst U
                      go_wp2_with fail;refine (Zao a 1 7 _).mono ?_;rintro e w7 ⟨rfl,rfl⟩;replace f:Hid (Zb9 x i l c ⟨0,u,o,n,3,a,j⟩=((decide (1 <= a) && decide (a <= 7)) && decide (j=0))):=by unfold Hid;rw [f.out];simp
                      generalize (decide (1 <= a) && decide (a <= 7))=b7 at f ⊢;cases b7 with
                      | true =>
                        by_cases W:j=0
                        · subst W
                          go_wp2;go_ret;exact ⟨retB (by rw [f.out];rfl),b⟩
                        · have K:(j == 0)=false:=by simp [W]
                          have y:decide (j=0)=false:=by simp [W]
                          go_wp2;go_ret;exact ⟨retB (by rw [f.out,y];rfl),b⟩
                      | false =>
                        go_wp2;go_ret;exact ⟨retB (by rw [f.out];rfl),b⟩
                    · have K:(g == 0)=false:=by simp [U]
                      have y:decide (g=0)=false:=by simp [U]
                      go_wp2;go_ret;exact ⟨retB (by rw [f.out,y];rfl),b⟩
                  · replace f:Hid (Zb9 x i l c ⟨g,u,o,n,mt,a,j⟩=false):=by unfold Hid;rw [f.out];unfold ZbB;simp [t0,t1,t2,t3]
                    have g0:(mt == 0)=false:=by simp [t0]
                    have K:(mt == 1)=false:=by simp [t1]
                    have y:(mt == 2)=false:=by simp [t2]
                    have g3:(mt == 3)=false:=by simp [t3]
                    have f0:decide (mt=0)=false:=by simp [t0]
                    have f1:decide (mt=1)=false:=by simp [t1]
                    have f2:decide (mt=2)=false:=by simp [t2]
                    have f3:decide (mt=3)=false:=by simp [t3]
                    go_wp2;go_ret;exact ⟨retB (by rw [f.out]),b⟩
end Go.Proofs.YtanhoamdlhaaeaaGreatDoor
namespace Go.Proofs.YtanhoamdlhaaeaaGreatDoor
open Go.Proofs.Tryz
def enc:Nat -> Int -> List Int
 | 0,_=>[]
 | f+1,x=>if x < 128 then [x] else (x % 128+128) :: enc f (x / 128)
def lim:Nat -> Int
 | 0=>1
 | f+1=>128 * lim f
theorem Zd9:lim 9=9223372036854775808:=by simp [lim]
theorem ZfR (f:Nat):1 <= lim f:=by
 induction f with
 | zero=>simp [lim]
 | succ f ih=>simp only [lim];omega
theorem ZaW (f:Nat)(x:Int)(h:x < 128):enc (f+1) x=[x]:=by simp [enc,h]
theorem Zb4 (f:Nat)(x:Int)(h:128 <= x):enc (f+1) x=(x % 128+128) :: enc f (x / 128):=by
 have:¬ x < 128:=by omega
 simp [enc,this]
theorem ZcQ (f:Nat)(y:Int)(h:128 <= y)(b:y < lim (f+1)):∃ a,f=a+1/\y / 128 < lim f:=by
 cases f with
 | zero=>simp [lim] at b;omega
 | succ a=>exact ⟨a,rfl,by simp only [lim] at b ⊢;omega⟩
theorem ZgK (f:Nat)(x:Int):(enc f x).length <= f:=by
 induction f generalizing x with
 | zero=>simp [enc]
 | succ f ih =>
  simp only [enc];split
  ·simp
  ·simp only [List.length_cons];have:=ih (x / 128);omega
theorem ZkP (f:Nat)(x:Int)(h:0 <= x):∀ z ∈ enc f x,0 <= z/\z <= 255:=by
 induction f generalizing x with
 | zero=>simp [enc]
 | succ f ih =>
  simp only [enc];split
  ·intro z a;simp at a;omega
  ·intro z a
   simp only [List.mem_cons] at a;rcases a with rfl | a
   ·omega
   ·exact ih _ (by omega) z a
def encI (x:Int):List Int:=if x < 0 then [] else enc 9 x
theorem Zjf (x:Int)(h:x < 0):encI x=[]:=by simp [encI,h]
theorem Zck (x:Int)(h:0 <= x):encI x=enc 9 x:=by
 have:¬ x < 0:=by omega
 simp [encI,this]
theorem Zaq (x:Int):(encI x).length <= 9:=by
 unfold encI;split
 ·simp
 ·exact ZgK 9 x
theorem ZbU (x:Int):∀ z ∈ encI x,0 <= z/\z <= 255:=by
 unfold encI;split
 ·simp
 ·exact ZkP 9 x (by omega)
end Go.Proofs.YtanhoamdlhaaeaaGreatDoor
namespace Go.Proofs.YtanhoamdlhaaeaaGreatDoor
open Go.Proofs.Tryz
open Go.RowKit
def scan:Nat -> List Int -> Option (List Int)
 | 0,_=>none
 | _+1,[]=>none
 | f+1,b :: bs=>if b < 128 then some [b] else (scan f bs).map (b :: ·)
def val:List Int -> Int
 | []=>0
 | b :: bs=>b % 128+128 * val bs
theorem ZbD (a:List Int):0 <= val a/\val a < lim a.length:=by
 induction a with
 | nil=>simp [val,lim]
 | cons b a ih=>simp only [val,List.length_cons,lim];omega
theorem ZgF (a:List Int)(b:Int):val (a ++ [b])=val a+b % 128 * lim a.length:=by
 induction a with
 | nil=>simp [val,lim]
 | cons c a ih =>
  simp only [List.cons_append,val,ih,List.length_cons,lim];rw [Int.mul_add,<- Int.mul_assoc,<- Int.mul_assoc,Int.mul_comm (b % 128) 128];omega
theorem Zd8 {a b:Nat}(h:a <= b):lim a <= lim b:=by
 induction h with
 | refl=>exact Int.le_refl _
 | step h ih=>rename_i m;have:=ZfR m;simp only [lim];omega
theorem Zkv (b:Int)(k:Nat):0 <= b % 128 * lim k/\b % 128 * lim k <= 127 * lim k:=by
 have a:0 <= b % 128:=by omega
 have c:b % 128 <= 127:=by omega
 have d:=ZfR k;exact ⟨Int.mul_nonneg a (by omega),Int.mul_le_mul_of_nonneg_right c (by omega)⟩
def gN (zs:List Int)(a:Int):Int × Int × Bool :=
 if a < 0 then (0,0,false) else
 match scan 9 (zs.drop a.toNat) with
 | none=>(0,0,false)
 | some bs=>if 1 < bs.length/\bs.getLast? = some 0 then (0,0,false) else (val bs,a+bs.length,true)
theorem Zkb (b:List Int)(a:Int)(h:a < 0):gN b a=(0,0,false):=by simp [gN,h]
theorem Zcx (b:List Int)(a:Nat)(h:scan 9 (b.drop a)=none):gN b (a:Int)=(0,0,false):=by
 have:¬ (a:Int) < 0:=by omega
 simp [gN,h]
theorem Zkn (c:List Int)(a:Nat)(b:List Int)(h:scan 9 (c.drop a)=some (b ++ [0]))(e:0 < b.length):gN c (a:Int)=(0,0,false):=by
 have:¬ (a:Int) < 0:=by omega
 simp [gN,h];intro d;subst d;simp at e
theorem Zh3 (d:List Int)(a:Nat)(c:List Int)(b:Int)(h:scan 9 (d.drop a)=some (c ++ [b]))(g:¬ (b=0/\0 < c.length)) :
  gN d (a:Int)=(val c+b % 128 * lim c.length,(a:Int)+c.length+1,true):=by
 have e:¬ (a:Int) < 0:=by omega
 have f:¬ (1 < (c ++ [b]).length/\(c ++ [b]).getLast? = some 0):=by
  simp only [List.length_append,List.length_cons,List.length_nil,List.getLast?_append,List.getLast?_singleton,Option.some_or,Option.some.injEq];omega
 simp only [gN,e,if_false,Int.toNat_natCast,h];rw [if_neg f,ZgF];simp only [List.length_append,List.length_cons,List.length_nil]
 congr 2
def Sc (zs:List Int)(a k:Nat)(acc:List Int):Prop:=acc.length=k/\scan 9 (zs.drop a)=(scan (9 - k) (zs.drop (a+k))).map (acc ++ ·)
theorem Sc.start (b:List Int)(a:Nat):Sc b a 0 []:=⟨rfl,by simp⟩
theorem Sc.more {c:List Int}{a k:Nat}{b:List Int}(h:Sc c a k b)(f:k < 9)(d:a+k < c.length)(e:128 <= c[a+k]):Sc c a (k+1) (b ++ [c[a+k]]):=by
 refine ⟨by simp [h.1],?_⟩;rw [h.2,show 9 - k=9 - (k+1)+1 by omega,List.drop_eq_getElem_cons d];simp only [scan];rw [if_neg (by omega),Option.map_map]
 congr 1
 funext x
 simp
theorem Sc.last {c:List Int}{a k:Nat}{b:List Int}(h:Sc c a k b)(f:k < 9)(e:a+k < c.length)(d:c[a+k] < 128):scan 9 (c.drop a)=some (b ++ [c[a+k]]):=by
 rw [h.2,show 9 - k=9 - (k+1)+1 by omega,List.drop_eq_getElem_cons e];simp only [scan];rw [if_pos d];rfl
theorem Sc.out {d:List Int}{a k:Nat}{c:List Int}(h:Sc d a k c)(b:9 <= k \/ d.length <= a+k):scan 9 (d.drop a)=none:=by
 rw [h.2];rcases b with b | b
 ·rw [show 9 - k=0 by omega];rfl
 ·rw [List.drop_eq_nil_of_le b]
  cases 9 - k <;> rfl
abbrev gV (r:Int × Int × Bool):Value:=.tuple #[.int .i64 r.1,.int .i64 r.2.1,.bool r.2.2]
theorem Zc4 {k:Nat}(h:k <= 8):lim k <= 72057594037927936:=by
 have:=Zd8 h;rw [show lim 8=72057594037927936 from by simp [lim]] at this;exact this
theorem Zie {k:Nat}(h:k <= 7):lim k <= 562949953421312:=by
 have:=Zd8 h;rw [show lim 7=562949953421312 from by simp [lim]] at this;exact this
end Go.Proofs.YtanhoamdlhaaeaaGreatDoor
namespace Go.Proofs.YtanhoamdlhaaeaaGreatDoor
open Go.Proofs.Tryz
theorem Zek:∀ (f:Nat) (c d:List Int),scan f c=some d -> d ≠ []/\d.length <= f/\∃ a,c=d ++ a
 | 0,_,_,h=>by simp [scan] at h
 | _+1,[],_,h=>by simp [scan] at h
 | f+1,b :: c,d,h=>by
  simp only [scan] at h;split at h
  ·cases h;exact ⟨by simp,by simp,c,rfl⟩
  ·cases e:scan f c with
   | none=>rw [e] at h;cases h
   | some cs =>
    rw [e] at h;cases h;obtain ⟨i,j,a,g⟩:=Zek f c cs e;exact ⟨by simp,by simp;omega,a,by rw [g];rfl⟩
theorem Zgh:∀ (f:Nat) (i g:List Int),(∀ z ∈ i,0 <= z/\z <= 255) -> scan f i=some g -> (1 < g.length -> g.getLast? ≠ some 0) -> enc f (val g)=g
 | 0,_,_,_,h,_=>by simp [scan] at h
 | _+1,[],_,_,h,_=>by simp [scan] at h
 | f+1,b :: i,g,hz,h,hl=>by
  have t:=hz b (by simp);simp only [scan] at h;split at h
  ·rename_i m
   cases h;have e:val [b]=b:=by simp only [val];omega
   rw [e,ZaW f b m]
  ·rename_i r
   cases k:scan f i with
   | none=>rw [k] at h;cases h
   | some cs =>
    rw [k] at h;cases h;obtain ⟨a,n,_⟩:=Zek f i cs k;have d:(b :: cs).getLast? = cs.getLast?:=List.getLast?_cons_of_ne_nil a
    have c:cs.getLast? ≠ some 0:=by
     rw [<- d];apply hl;have:=List.length_pos_iff.2 a;simp;omega
    have j:=Zgh f i cs (fun z h=>hz z (by simp [h])) k (fun _=>c);have u:=(ZbD cs).1
    have s:1 <= val cs:=by
     rcases Int.lt_or_le 0 (val cs) with q | q
     ·omega
     ·have l:val cs=0:=by omega
      rw [l] at j;cases f with
      | zero=>rw [<- j] at a;simp [enc] at a
      | succ f =>
       rw [ZaW f 0 (by omega)] at j;rw [<- j] at c;simp at c
    have e:val (b :: cs)=b % 128+128 * val cs:=rfl;rw [e,Zb4 f _ (by omega)];have o:(b % 128+128 * val cs) % 128+128=b:=by omega
    have p:(b % 128+128 * val cs) / 128=val cs:=by omega
    rw [o,p,j]
theorem Zgj {c:List Int}{a x next:Int}(n:∀ z ∈ c,0 <= z/\z <= 255)(h:gN c a=(x,next,true)):0 <= a/\0 <= x/\next=a+(encI x).length/\∃ b,c.drop a.toNat=encI x ++ b:=by
 unfold gN at h;split at h
 ·cases h
 ·rename_i o
  cases d:scan 9 (c.drop a.toNat) with
  | none=>rw [d] at h;cases h
  | some bs =>
   rw [d] at h;simp only at h;split at h
   ·cases h
   ·rename_i j
    cases h;have k:∀ z ∈ c.drop a.toNat,0 <= z/\z <= 255:=fun z h=>n z (List.mem_of_mem_drop h)
    have l:=Zgh 9 _ bs k d (fun g i=>j ⟨g,i⟩);obtain ⟨_,_,b,m⟩:=Zek 9 _ bs d;have f:=(ZbD bs).1;have e:encI (val bs)=bs:=by rw [Zck _ f,l]
    exact ⟨by omega,f,by rw [e],b,by rw [e];exact m⟩
end Go.Proofs.YtanhoamdlhaaeaaGreatDoor
