/-
  Texts that stood by themselves, laid into one.
-/
import Derived.Test.YtanhoamdlhaaeaaGreatDoorWLsM
import Derived.Test.YtanhoamdlhaaeaaGreatDoorNodeFitsM
/-
  Slices of slices of texts: the contracts of the laws' helpers. No condition.
-/
set_option maxRecDepth 100000
set_option maxHeartbeats 3200000
namespace Go.Proofs.YtanhoamdlhaaeaaGreatDoor
open Go.Proofs.Tryz
open Go.RowKit
def ES (B:Nat)(w:World)(cs:List Value)(ts:List ByteArray):Prop:=∃ v,cs=[v]/\StRow w v ts/\Fr B v
theorem stbS:Stb ES:=⟨fun _ _ _ _ _ ⟨v,h,r,f⟩ hk=>⟨v,h,r.kp f hk,f⟩,fun _ _ _ _ _ ⟨v,h,r,f⟩ hc=>⟨v,h,r,f.mono hc⟩⟩
def SmS (ts:List ByteArray):Prop:=ts.length <= 1048576/\∀ x ∈ ts,x.size <= 1048576
theorem ZlS:(prog.info? 37).map (fun i=>(i.zero,i.size,i.bytes))=some (some (.slice none 0 0),1,24):=by kernel_rfl
theorem Zbc {w:World}{g o:Nat}{v:Value}(h:w.rangeAt g o [v]):w.cell? ⟨g,o,none⟩=some v:=h 0 v rfl
theorem Zex (a:List Value):(a.map fun u=>[u]).flatten=a:=by
 induction a with
 | nil=>rfl
 | cons u a ih=>simp [ih]
theorem Zfu (v:Value)(d:List (List ByteArray))(B:Nat)(w:World)(R:XRow B 1 ES w v d)(hm:d.length <= 2097152)(hs:∀ x ∈ d,SmS x) :
  Calls prog 26 #[v] w fun e O=>∃ (v':Value) (n:List Value),e=.returned v'/\O.ownsRow w.heap.size 37 1 v' d.length n/\n.length=d.length/\(∀ (i:Nat) u x,n[i]? = some u -> d[i]? = some x -> StRow O u x/\O.ownsRow w.heap.size 9 1 u x.length (stv x))/\Below w.heap.size w O:=by
 obtain ⟨ao,ad,rfl,ac,af,f⟩:=R;obtain ⟨i0,hi,Z,aa,ab⟩:=info_parts ZlS;have m:i0.bytes * d.length <= 281474976710656:=by rw [ab];omega
 have A:d.length <= maxLen:=by unfold maxLen;omega
 go_enter func26,ntmps26
 go_wp2_with (at_make;refine wpList_make_full _ rfl _ _ 33 rfl w.heap.size 37 i0 _ 1 underlying33 hi Z aa _ _ _ _ d.length rfl rfl rfl rfl m A (ce _) ?_)
 intro w1 b q;have a:Below w.heap.size w w1:=(cf _ _).grown q (ce _) (by intro k hk;cases hk);clear q;go_wp2
 go_loopw [4] (fun i wr=>∃ (j:Nat) (n:List Value),j <= d.length/\i=.int .i64 j/\Hid (n.length=d.length)/\Hid (∀ (i:Nat) c x,i < j -> n[i]? = some c -> d[i]? = some x -> StRow wr c x/\wr.ownsRow (w.heap.size+1) 9 1 c x.length (stv x))/\wr.ownsRow w.heap.size 37 1 (.slice (some ⟨w.heap.size,0,none⟩) d.length d.length) d.length n/\Below w.heap.size w wr) (fun i _=>d.length - (intOf i).toNat)
 case atStart=>exact ⟨0,_,by omega,rfl,by unfold Hid;simp [madeCells],fun i c x h=>by omega,b,a⟩
 case round =>
  clear b a m A;obtain ⟨j,n,hj,rfl,H,P,b,a⟩:=hrel
  by_cases t:j < d.length
  ·obtain ⟨g,o,rfl,_,hg,f⟩:=f (by intro e;subst e;simp at t)
   obtain ⟨x,D⟩:∃ x,d[j]? = some x:=⟨d[j],by simp [t]⟩;obtain ⟨cs,X,N,hE⟩:=f j x D;have HX:Hid (d[j]? = some x):=D;replace N:=Zab N a hg;obtain ⟨u,rfl,T,_⟩:=stbS.1 _ _ _ _ _ hE (Kp.of_below a);have c0:=Zbc N;rw [Nat.mul_one] at c0;have K:=hs x (List.mem_of_getElem? D);obtain ⟨p0,q0,rfl⟩:=T.small;have L:w.heap.size+1 <= wr.heap.size:=(b.lt w.heap.size rfl).2;clear f D X N hE;go_wp2_with fail;refine (Zb8 _ x _ T (by have:=K.1;omega)).mono ?_;rintro e G ⟨u2,rfl,I,s⟩;have F2:=Fr.of_own I;have P2:=StRow.of_own I (by have:=K.1;omega) T.szs;obtain ⟨E,F,rfl⟩:=Zad I;have l:=Zac b s;have V:=a.trans (s.mono a.size);have C:Kp (w.heap.size+1) wr G:=Kp.of_below s;have d0:=l.cellAt j (by omega);obtain ⟨y,hy⟩:∃ y,n[j]? = some y:=⟨_,List.getElem?_eq_getElem (by rw [H.out];exact t)⟩;rw [hy] at d0;have f0:=l.frozenAt j
   obtain ⟨S0,g0⟩:=l.stored j (.slice E x.length F);have W:Below w.heap.size w (G.setCell ⟨w.heap.size,j,none⟩ (.slice E x.length F)):=V.setCell (p:=⟨w.heap.size,j,none⟩) (by simp) _;have r:Kp (w.heap.size+1) G (G.setCell ⟨w.heap.size,j,none⟩ (.slice E x.length F)):=Kp.of_set (by omega);have S:Hid ((n.set j (.slice E x.length F)).length=d.length):=by unfold Hid;rw [List.length_set];exact H.out
   have Q:Hid (∀ (i:Nat) c y,i < j+1 -> (n.set j (.slice E x.length F))[i]? = some c -> d[i]? = some y -> StRow (G.setCell ⟨w.heap.size,j,none⟩ (.slice E x.length F)) c y/\(G.setCell ⟨w.heap.size,j,none⟩ (.slice E x.length F)).ownsRow (w.heap.size+1) 9 1 c y.length (stv y)):=by
    intro i c z ae M Y
    by_cases e:i=j
    ·subst e
     rw [List.getElem?_set_self (by rw [H.out];exact t)] at M;rw [HX.out] at Y;cases M;cases Y;exact ⟨P2.kp (F2.mono L) r,Zai (Zae I L) r⟩
    ·rw [List.getElem?_set_ne (fun h=>e h.symm)] at M
     obtain ⟨U,J⟩:=P.out i c z (by omega) M Y;exact ⟨(U.kp (Fr.of_own J) C).kp (Fr.of_own J) r,Zai (Zai J C) r⟩
   clear b l s a g0 hy P H HX P2 F2 I C r c0;go_wp2
   go_roundw
   case rel=>exact ⟨j+1,_,by omega,by go_num,S,Q,S0,W⟩
   case measure=>simp [intOf];omega
  ·go_wp2
   go_ret;have:j=d.length:=by omega
   subst this;refine ⟨_,n,rfl,b,H.out,fun i u x hu D=>?_,a⟩;obtain ⟨U,J⟩:=P.out i u x (List.getElem?_eq_some_iff.1 D).1 hu D;exact ⟨U,Zae J (by omega)⟩
theorem Zft (v:Value)(d:List (List ByteArray))(B:Nat)(w:World)(R:XRow B 1 ES w v d)(m:d.length <= 2097152)(n:∀ x ∈ d,SmS x) :
  Calls prog 26 #[v] w fun e k=>∃ f,e=.returned f/\XRow w.heap.size 1 ES k f d/\Below w.heap.size w k:=by
 refine (Zfu v d B w R m n).mono fun e k ⟨f,us,g,hown,hl,he,hb⟩=>⟨f,g,?_,hb⟩
 rw [<- Zex us] at hown;refine XRow.of_own hown (by rw [List.length_map];exact hl) (by intro c b;simp at b;obtain ⟨a,_,rfl⟩:=b;rfl) (by omega) (fun i c x b o=>?_);rw [List.getElem?_map] at b;cases j:us[i]? with
 | none=>rw [j] at b;cases b
 | some u =>
  rw [j] at b;cases b;obtain ⟨g,l⟩:=he i u x j o;exact ⟨u,rfl,g,Fr.of_own l⟩
theorem Zfn (v:Value)(b:List (List ByteArray))(B:Nat)(l:Int)(w:World)(R:XRow B 1 ES w v b)(N:0 <= l)(O:l <= 1048576) :
  Calls prog 18 #[v,.int .i64 l] w fun e Q=>∃ r:Int,e=.returned (.int .i64 r) /\ -1 <= r/\r <= 1048576/\(0 <= r -> b.length <= 1048576/\∀ x ∈ b,SmS x)/\Below w.heap.size w Q:=by
 obtain ⟨T,L,rfl,G,X,a⟩:=R
 by_cases I:(b.length:Int) <= l
 ·go_enter func18,ntmps18
  go_wp2
  go_loopw [1,5] (fun l i wr=>∃ (k:Nat) (r:Int),k <= b.length/\i=.int .i64 k/\l=.int .i64 r/\0 <= r/\r <= 1048576/\Hid (∀ (j:Nat) x,b[j]? = some x -> j < k -> SmS x)/\Below w.heap.size w wr) (fun _ i _=>b.length - (intOf i).toNat)
  case atStart=>exact ⟨0,_,by omega,rfl,rfl,by omega,by omega,fun j x _ h=>by omega,cf _ _⟩
  case round =>
   obtain ⟨k,r,W,rfl,rfl,z,A,D,d⟩:=hrel
   by_cases m:k < b.length
   ·obtain ⟨g,o,rfl,_,M,a⟩:=a (by intro e;subst e;simp at m)
    obtain ⟨x,n⟩:∃ x,b[k]? = some x:=⟨b[k],by simp [m]⟩;obtain ⟨cs,t,p,F⟩:=a k x n;have K:Hid (b[k]? = some x):=n;replace p:=Zab p d M;obtain ⟨u,rfl,E,_⟩:=stbS.1 _ _ _ _ _ F (Kp.of_below d);have c0:=Zbc p;rw [Nat.mul_one] at c0;obtain ⟨Y,Z,rfl⟩:=E.small;clear a n t p F;go_wp2_with fail;refine (Zb7 _ x r _ E z A).mono ?_;rintro e w2 ⟨J,rfl,U,V,s,f⟩;have c:=d.trans (f.mono d.size);clear f c0
    by_cases P:J < 0
    ·have S:Hid (J = -1):=by unfold Hid;omega
     go_wp2;go_ret;exact ⟨-1,rfl,by omega,by omega,fun h=>by omega,c⟩
    ·have s:SmS x:=s (by omega)
     have q:Hid (∀ (j:Nat) x,b[j]? = some x -> j < k+1 -> SmS x):=by
      intro j y C H
      by_cases e:j=k
      ·subst e
       rw [K.out] at C;cases C;exact s
      ·exact D.out j y C (by omega)
     go_wp2
     go_roundw
     case rel=>exact ⟨k+1,_,by omega,by go_num,rfl,by omega,by omega,q,c⟩
     case measure=>simp [intOf];omega
   ·go_wp2
    go_ret;refine ⟨r,rfl,by omega,by omega,fun _=>⟨by omega,fun x n=>?_⟩,d⟩;obtain ⟨j,H,e⟩:=List.getElem_of_mem n;exact D.out j x (by rw [<- e];simp [H]) (by omega)
 ·go_enter func18,ntmps18
  go_wp2;go_ret;exact ⟨-1,rfl,by omega,by omega,fun h=>by omega,cf _ _⟩
theorem Zev (E vb:Value)(c:List (List ByteArray))(B C:Nat)(w:World)(H:XRow B 1 ES w E c)(I:XRow C 1 ES w vb c) :
  Calls prog 35 #[E,vb] w fun e y=>e=.returned (.bool true)/\Below w.heap.size w y:=by
 obtain ⟨T,J,rfl,N,Y,a⟩:=H;obtain ⟨U,K,rfl,O,_,b⟩:=I;have Z:((c.length:Int) != (c.length:Int))=false:=by simp
 go_enter func35,ntmps35
 go_wp2
 go_loopw [5] (fun i wr=>∃ k:Nat,k <= c.length/\i=.int .i64 k/\Below w.heap.size w wr) (fun i _=>c.length - (intOf i).toNat)
 case atStart=>exact ⟨0,by omega,rfl,cf _ _⟩
 case round =>
  obtain ⟨k,X,rfl,d⟩:=hrel
  by_cases f:k < c.length
  ·obtain ⟨L,R,rfl,_,l,a⟩:=a (by intro e;subst e;simp at f)
   obtain ⟨M,S,rfl,_,n,b⟩:=b (by intro e;subst e;simp at f);obtain ⟨x,v⟩:∃ x,c[k]? = some x:=⟨c[k],by simp [f]⟩;obtain ⟨cs,P,q,g⟩:=a k x v;obtain ⟨V,Q,r,j⟩:=b k x v;replace q:=Zab q d l;replace r:=Zab r d n;obtain ⟨A,rfl,F,_⟩:=stbS.1 _ _ _ _ _ g (Kp.of_below d);obtain ⟨D,rfl,G,_⟩:=stbS.1 _ _ _ _ _ j (Kp.of_below d);have s:=Zbc q;have t:=Zbc r;rw [Nat.mul_one] at s t;have z:∀ W,Below wr.heap.size wr W -> Calls prog 8 #[A,D] W fun e y=>e=.returned (.bool true)/\Below W.heap.size W y:=fun W p=>Za7 _ _ x W (F.below p) (G.below p)
   have m:=cm l d.size;have o:=cm n d.size;clear a b v g j q r;go_wp2_with fail;refine ZkU L R M S c.length J K k A D wr _ f m o s t z ?_;intro u17 u18 u19 u20 u21 u22 u23 u24 u25 W p;have u:Below w.heap.size w W:=d.trans (p.mono d.size);clear z s t;go_wp2
   go_roundw
   case rel=>exact ⟨k+1,by omega,by go_num,u⟩
   case measure=>simp [intOf];omega
  ·go_wp2
   go_ret;exact ⟨rfl,d⟩
structure In where
 o:Int
 n:Int
 i:Int
 s:ByteArray
def In.cs (x:In):List Value:=[.int .i64 x.o,.int .i64 x.n,.int .i64 x.i,.string x.s]
def incs (xs:List In):List Value:=xs.flatMap In.cs
theorem Zc1 (x:In)(a:List In):incs (x :: a)=x.cs ++ incs a:=rfl
theorem Zc2 (a:List In):(incs a).length=a.length * 4:=by
 induction a with
 | nil=>rfl
 | cons x a ih=>rw [Zc1,List.length_append,ih,List.length_cons];simp [In.cs];omega
theorem Zgn (a:List In)(i:Nat)(x:In)(h:a[i]? = some x)(j:Nat)(b:j < 4):(incs a)[i * 4+j]? = x.cs[j]?:=by
 induction a generalizing i with
 | nil=>simp at h
 | cons y ys ih =>
  rw [Zc1];cases i with
  | zero =>
   simp at h;subst h;rw [Nat.zero_mul,Nat.zero_add,List.getElem?_append_left (by simpa [In.cs] using b)]
  | succ i =>
   rw [List.getElem?_append_right (by simp [In.cs];omega)];rw [show (i+1) * 4+j - y.cs.length=i * 4+j by simp [In.cs];omega];exact ih i (by simpa using h)
theorem ZcP (a:List In)(i:Nat)(x b:In)(h:a[i]? = some x)(j:Nat)(c:j < 4)(u:Value)(e:x.cs.set j u=b.cs):(incs a).set (i * 4+j) u=incs (a.set i b):=by
 induction a generalizing i with
 | nil=>simp at h
 | cons y ys ih =>
  rw [Zc1];cases i with
  | zero =>
   simp at h;subst h;rw [Nat.zero_mul,Nat.zero_add,List.set_append_left _ _ (by simpa [In.cs] using c),e];rfl
  | succ i =>
   rw [List.set_append_right _ _ (by simp [In.cs];omega)];rw [show (i+1) * 4+j - y.cs.length=i * 4+j by simp [In.cs];omega,ih i (by simpa using h)];rfl
theorem Zh5 (a:List In)(i:Nat)(x b:In)(h:a[i]? = some x)(u:Value)(e:x.cs.set 0 u=b.cs):(incs a).set (i * 4) u=incs (a.set i b) :=
 ZcP a i x b h 0 (by omega) u e
theorem In.one (x:In):∀ u ∈ x.cs,u.oneCell'=true:=by
 intro u a;simp only [In.cs,List.mem_cons,List.not_mem_nil,or_false] at a;rcases a with rfl | rfl | rfl | rfl <;> rfl
def InAt (w:World)(g o:Nat)(x:In):Prop :=
 w.cell? ⟨g,o,none⟩=some (.int .i64 x.o)/\w.cell? ⟨g,o+1,none⟩=some (.int .i64 x.n)/\w.cell? ⟨g,o+2,none⟩=some (.int .i64 x.i)/\w.cell? ⟨g,o+3,none⟩=some (.string x.s)
theorem InAt.below {w c:World}{g o B:Nat}{x:In}(h:InAt w g o x)(a:Below B w c)(b:g < B):InAt c g o x :=
 ⟨(a.cell (p:=⟨g,o,none⟩) b).trans h.1,(a.cell (p:=⟨g,o+1,none⟩) b).trans h.2.1,(a.cell (p:=⟨g,o+2,none⟩) b).trans h.2.2.1,(a.cell (p:=⟨g,o+3,none⟩) b).trans h.2.2.2⟩
def InRow (w:World)(v:Value)(xs:List In):Prop :=
 ∃ ao cap,v=.slice ao xs.length cap/\(xs.length <= cap/\(ao=none -> cap=0))/\xs.length <= 9223372036854775807/\(∀ x ∈ xs,x.s.size <= maxLen) /\
  (xs ≠ [] -> ∃ g o,ao=some ⟨g,o,none⟩/\g < w.heap.size/\∀ i x,xs[i]? = some x -> InAt w g (o+i * 4) x)
theorem InRow.small {w:World}{v:Value}{c:List In}(R:InRow w v c):∃ b a,v=.slice b c.length a:=by
 obtain ⟨b,a,rfl,_⟩:=R;exact ⟨b,a,rfl⟩
theorem InRow.below {w f:World}{v:Value}{j:List In}(h:InRow w v j)(d:Below w.heap.size w f):InRow f v j:=by
 obtain ⟨k,b,rfl,l,m,n,a⟩:=h;refine ⟨k,b,rfl,l,m,n,fun c=>?_⟩;obtain ⟨g,o,rfl,e,a⟩:=a c;exact ⟨g,o,rfl,cm e d.size,fun i x hi=>(a i x hi).below d e⟩
theorem InRow.of_own {w:World}{b:Nat}{v:Value}{a:List In}(h:w.ownsRow b 163 4 v a.length (incs a))(q:a.length <= 9223372036854775807)(r:∀ x ∈ a,x.s.size <= maxLen):InRow w v a:=by
 rcases h.2 with ⟨rfl,l⟩ | ⟨g,c,k,rfl,t,o,d,m,n,f⟩
 ·have:a=[]:=List.eq_nil_of_length_eq_zero l
  subst this;exact ⟨none,0,rfl,by simp,by simp,by simp,fun h=>absurd rfl h⟩
 ·refine ⟨_,c,rfl,⟨d,fun h=>by cases h⟩,q,r,fun _=>⟨g,0,rfl,(bl o),fun i x hi=>?_⟩⟩
  have u:i < a.length:=(List.getElem?_eq_some_iff.1 hi).1
  have e:∀ j,j < 4 -> w.cell? ⟨g,0+i * 4+j,none⟩=x.cs[j]?:=fun j p=>by
   have:=h.cellAt (i * 4+j) (by omega);rw [Nat.zero_add,this,Zgn a i x hi j p]
  exact ⟨e 0 (by omega),e 1 (by omega),e 2 (by omega),e 3 (by omega)⟩
theorem Zl9:(prog.info? 163).map (fun i=>(i.zero,i.size,i.bytes))=some (some (.agg #[.int .i64 0,.int .i64 0,.int .i64 0,.string ByteArray.empty]),4,40):=by kernel_rfl
theorem ZlX:(prog.info? 163).map (·.size)=some 4:=by kernel_rfl
theorem Zdl {ops:Array Oper}{f:List Oper}{op:Oper}{a:Act}{w:World}{Q:Exit -> Act -> World -> Prop}(m:op.guard=none)(x y:Operand)(z:op.op=.store 163 x y)(e g i l:Nat)(c:List In)(b:In)(B:a.eval x=.pointer (some ⟨g,i * 4,none⟩))(C:a.eval y=.agg #[.int .i64 b.o,.int .i64 b.n,.int .i64 b.i,.string b.s])(hi:i < c.length)(d:w.ownsRow e 163 4 (.slice (some ⟨g,0,none⟩) c.length l) c.length (incs c))(h:∀ u:World,u.ownsRow e 163 4 (.slice (some ⟨g,0,none⟩) c.length l) c.length (incs (c.set i b)) -> w.grownBy u (some g) -> wpList prog ops Q f (a.put op.dst undef) u):wpList prog ops Q (op :: f) a w:=by
 have A:w.there g (i * 4) 4:=fun j D=>by
  have:=d.cellAt (i * 4+j) (by omega);refine ⟨?_,d.frozenAt _⟩;rw [this,List.getElem?_eq_getElem (by rw [Zc2];omega)];rfl
 refine wpList_store_mid m 163 x y z g (i * 4) _ B C A ZlX (all_oneCell_toArray b.one) ?_;have v:c[i]? = some c[i]:=List.getElem?_eq_getElem hi;have k:∀ y:In,(c.set i y)[i]? = some y:=fun y=>by simp [hi]
 have p:=d.stored (i * 4) (.int .i64 b.o);rw [Zh5 c i c[i] ⟨b.o,c[i].n,c[i].i,c[i].s⟩ v _ rfl] at p;have q:=p.1.stored (i * 4+1) (.int .i64 b.n);rw [ZcP (c.set i ⟨b.o,c[i].n,c[i].i,c[i].s⟩) i ⟨b.o,c[i].n,c[i].i,c[i].s⟩ ⟨b.o,b.n,c[i].i,c[i].s⟩ (k _) 1 (by omega) (.int .i64 b.n) rfl,List.set_set] at q;have r:=q.1.stored (i * 4+2) (.int .i64 b.i);rw [ZcP (c.set i ⟨b.o,b.n,c[i].i,c[i].s⟩) i ⟨b.o,b.n,c[i].i,c[i].s⟩ ⟨b.o,b.n,b.i,c[i].s⟩ (k _) 2 (by omega) (.int .i64 b.i) rfl,List.set_set] at r;have t:=r.1.stored (i * 4+3) (.string b.s);rw [ZcP (c.set i ⟨b.o,b.n,b.i,c[i].s⟩) i ⟨b.o,b.n,b.i,c[i].s⟩ ⟨b.o,b.n,b.i,b.s⟩ (k _) 3 (by omega) (.string b.s) rfl,List.set_set] at t;exact h _ t.1 (((p.2.trans q.2).trans r.2).trans t.2)
theorem Zj1 (x:In)(w:World) :
  Calls prog 98 #[.agg #[.int .i64 x.o,.int .i64 x.n,.int .i64 x.i,.string x.s]] w fun e a=>e=.returned (.agg #[.int .i64 x.o,.int .i64 x.n,.int .i64 x.i,.string x.s])/\Below w.heap.size w a:=by
 go_enter func98,ntmps98
 go_wp2
 exact ck (results_cell_row rfl _ _ (w.heap.size+1) 163 _ (0,0) _ rfl ((cn _ _ (by simp)).trans (cw _ _ _)) underlying163 rfl ZlX) rfl
  ⟨rfl,(((cf _ _).alloc (ce _) _).alloc (by simp) _).alloc (by simp;omega) _⟩
theorem ZjW (x:In)(l:Int)(w:World)(c:x.s.size <= maxLen)(f:0 <= l)(b:l <= 1048576) :
  Calls prog 86 #[.agg #[.int .i64 x.o,.int .i64 x.n,.int .i64 x.i,.string x.s],.int .i64 l] w fun e d=>e=.returned (.int .i64 (less l x.s.size))/\Below w.heap.size w d:=by
 unfold maxLen at c
 go_enter func86,ntmps86
 by_cases h:l < x.s.size
 ·have a:Hid (less l x.s.size = -1):=by unfold Hid less;rw [if_pos h]
  go_wp2;go_ret;exact ⟨by rw [a.out];rfl,(cf _ _).alloc (ce _) _⟩
 ·have a:Hid (less l x.s.size=l - x.s.size):=by unfold Hid less;rw [if_neg h]
  go_wp2;go_ret;exact ⟨by rw [a.out];rfl,(cf _ _).alloc (ce _) _⟩
theorem Zjh (x:In)(w:World) :
  Calls prog 111 #[.agg #[.int .i64 x.o,.int .i64 x.n,.int .i64 x.i,.string x.s],.agg #[.int .i64 x.o,.int .i64 x.n,.int .i64 x.i,.string x.s]] w fun e a=>e=.returned (.bool true)/\Below w.heap.size w a:=by
 go_enter func111,ntmps111
 go_wp2;go_ret;exact ⟨rfl,((cf _ _).alloc (ce _) _).alloc (by simp) _⟩
def Zfw:In:=⟨0,0,0,ByteArray.empty⟩
def ZaH (xs:List In)(j:Nat):List In:=xs.take j ++ List.replicate (xs.length - j) Zfw
theorem Zc0 (a:List In)(j:Nat)(h:j <= a.length):(ZaH a j).length=a.length:=by simp [ZaH];omega
theorem Zd1 (a:List In):ZaH a a.length=a:=by simp [ZaH]
theorem Zg1 (n:Nat):incs (List.replicate n Zfw)=(madeCells #[Value.int .i64 0,.int .i64 0,.int .i64 0,.string ByteArray.empty] (n * 4)).toList:=by
 apply List.ext_getElem?;intro j
 by_cases b:j < n * 4
 ·have c:j / 4 < n:=by omega
  rw [show j=j / 4 * 4+j % 4 by omega,Zgn _ (j / 4) Zfw (by simp [c]) (j % 4) (by omega)];rw [show j / 4 * 4+j % 4=j by omega];have a:j % 4=0 \/ j % 4=1 \/ j % 4=2 \/ j % 4=3:=by omega
  rcases a with a | a | a | a <;> simp [madeCells,b,a,Zfw,In.cs]
 ·rw [List.getElem?_eq_none (by rw [Zc2,List.length_replicate];omega),List.getElem?_eq_none (by simp [madeCells];omega)]
theorem Zd2 (a:List In):incs (ZaH a 0)=(madeCells #[Value.int .i64 0,.int .i64 0,.int .i64 0,.string ByteArray.empty] (a.length * 4)).toList:=by
 rw [<- Zg1];simp [ZaH]
theorem ZeI (a:List In)(j:Nat)(h:j < a.length):(ZaH a j).set j a[j]=ZaH a (j+1):=by
 unfold ZaH;rw [show a.length - j=a.length - (j+1)+1 by omega,List.replicate_succ,List.take_succ_eq_append_getElem h];rw [List.set_append_right _ _ (by simp;omega)];have e:j - (List.take j a).length=0:=by simp;omega
 rw [e,List.set_cons_zero,List.append_assoc];rfl
theorem ZiX (v:Value)(b:List In)(w:World)(R:InRow w v b)(Q:b.length <= 2097152) :
  Calls prog 57 #[v] w fun e E=>∃ D,e=.returned D/\E.ownsRow w.heap.size 163 4 D b.length (incs b)/\Below w.heap.size w E:=by
 obtain ⟨P,J,rfl,B,_,S,d⟩:=R;obtain ⟨C,hi,y,z,A⟩:=info_parts Zl9;have f:C.bytes * b.length <= 281474976710656:=by rw [A];omega
 have p:b.length <= maxLen:=by unfold maxLen;omega
 go_enter func57,ntmps57
 go_wp2_with (at_make;refine wpList_make_full _ rfl _ _ 42 rfl w.heap.size 163 C _ 4 underlying42 hi y z _ _ _ _ b.length rfl rfl rfl rfl f p (ce _) ?_)
 intro M c l;have a:Below w.heap.size w M:=(cf _ _).grown l (ce _) (by intro k x;cases x);clear l;go_wp2
 go_loopw [4] (fun i wr=>∃ j:Nat,j <= b.length/\i=.int .i64 j/\wr.ownsRow w.heap.size 163 4 (.slice (some ⟨w.heap.size,0,none⟩) b.length b.length) b.length (incs (ZaH b j))/\Below w.heap.size w wr) (fun i _=>b.length - (intOf i).toNat)
 case atStart=>exact ⟨0,by omega,rfl,by rw [Zd2];exact c,a⟩
 case round =>
  clear c a f p;obtain ⟨j,L,rfl,c,a⟩:=hrel
  by_cases r:j < b.length
  ·obtain ⟨g,o,rfl,K,d⟩:=d (by intro e;subst e;simp at r)
   obtain ⟨c0,G,H,I⟩:=(d j b[j] (by simp [r])).below a K;have F:=Zc0 b j L;clear d;go_wp2_with fail;refine (Zj1 b[j] _).mono ?_;rintro e N ⟨rfl,q⟩
   have m:N.ownsRow w.heap.size 163 4 (.slice (some ⟨w.heap.size,0,none⟩) (ZaH b j).length b.length) (ZaH b j).length (incs (ZaH b j)):=by
    rw [F];exact Zac c q
   have s:=a.trans (q.mono a.size);clear c0 G H I c q a
   go_wp2_with (refine Zdl rfl _ _ rfl w.heap.size w.heap.size j b.length (ZaH b j) b[j] rfl rfl (by omega) m ?_)
   intro O n t;rw [ZeI b j r] at n;have u:Below w.heap.size w O:=s.grown t s.size (fun k x=>by simp at x;omega);clear m t;go_wp2
   go_roundw
   case rel=>exact ⟨j+1,by omega,by go_num,n,u⟩
   case measure=>simp [intOf];omega
  ·go_wp2
   go_ret;have:j=b.length:=by omega
   subst this;rw [Zd1] at c;exact ⟨_,rfl,c,a⟩
theorem ZiQ (v:Value)(b:List In)(l:Int)(w:World)(R:InRow w v b)(K:0 <= l)(L:l <= 1048576) :
  Calls prog 44 #[v,.int .i64 l] w fun e N=>∃ r:Int,e=.returned (.int .i64 r) /\ -1 <= r/\r <= 1048576/\(0 <= r -> b.length <= 1048576/\∀ x ∈ b,x.s.size <= 1048576)/\Below w.heap.size w N:=by
 obtain ⟨O,I,rfl,A,Q,M,a⟩:=R
 by_cases D:(b.length:Int) <= l
 ·go_enter func44,ntmps44
  go_wp2
  go_loopw [1,5] (fun l i wr=>∃ (k:Nat) (r:Int),k <= b.length/\i=.int .i64 k/\l=.int .i64 r/\0 <= r/\r <= 1048576/\Hid (∀ j x,b[j]? = some x -> j < k -> x.s.size <= 1048576)/\Below w.heap.size w wr) (fun _ i _=>b.length - (intOf i).toNat)
  case atStart=>exact ⟨0,_,by omega,rfl,rfl,by omega,by omega,fun j x _ h=>by omega,cf _ _⟩
  case round =>
   obtain ⟨k,r,P,rfl,rfl,p,q,z,n⟩:=hrel
   by_cases m:k < b.length
   ·obtain ⟨g,o,rfl,J,a⟩:=a (by intro e;subst e;simp at m)
    obtain ⟨x,c⟩:∃ x,b[k]? = some x:=⟨b[k],by simp [m]⟩;obtain ⟨c0,F,G,H⟩:=(a k x c).below n J;have t:=M x (List.mem_of_getElem? c);have E:Hid (b[k]? = some x):=c;clear a c;go_wp2_with fail;refine (ZjW x _ _ t p q).mono ?_;rintro e S ⟨rfl,f⟩;have d:=n.trans (f.mono n.size);clear c0 F G H f
    by_cases C:r < x.s.size
    ·rw [less,if_pos C]
     go_wp2;go_ret;exact ⟨-1,rfl,by omega,by omega,fun h=>by omega,d⟩
    ·rw [less,if_neg C]
     go_wp2
     go_roundw
     case rel =>
      refine ⟨k+1,_,by omega,by go_num,rfl,by omega,by omega,fun j y u B=>?_,d⟩
      by_cases e:j=k
      ·subst e
       rw [E.out] at u;cases u;omega
      ·exact z.out j y u (by omega)
     case measure=>simp [intOf];omega
   ·go_wp2
    go_ret;refine ⟨r,rfl,by omega,by omega,fun _=>⟨by omega,fun x c=>?_⟩,n⟩;obtain ⟨j,B,e⟩:=List.getElem_of_mem c;exact z.out j x (by rw [<- e];simp [B]) (by omega)
 ·go_enter func44,ntmps44
  go_wp2;go_ret;exact ⟨-1,rfl,by omega,by omega,fun h=>by omega,cf _ _⟩
theorem ZhX (o vb:Value)(c:List In)(w:World)(p:InRow w o c)(q:InRow w vb c) :
  Calls prog 74 #[o,vb] w fun e C=>e=.returned (.bool true)/\Below w.heap.size w C:=by
 obtain ⟨E,G,rfl,A,L,N,a⟩:=p;obtain ⟨F,H,rfl,B,_,_,b⟩:=q;have M:((c.length:Int) != (c.length:Int))=false:=by simp
 go_enter func74,ntmps74
 go_wp2
 go_loopw [5] (fun i wr=>∃ k:Nat,k <= c.length/\i=.int .i64 k/\Below w.heap.size w wr) (fun i _=>c.length - (intOf i).toNat)
 case atStart=>exact ⟨0,by omega,rfl,cf _ _⟩
 case round =>
  obtain ⟨k,K,rfl,f⟩:=hrel
  by_cases d:k < c.length
  ·obtain ⟨I,O,rfl,l,a⟩:=a (by intro e;subst e;simp at d)
   obtain ⟨J,P,rfl,m,b⟩:=b (by intro e;subst e;simp at d);obtain ⟨x,n⟩:∃ x,c[k]? = some x:=⟨c[k],by simp [d]⟩;obtain ⟨c0,r,s,t⟩:=(a k x n).below f l;obtain ⟨u,v,y,z⟩:=(b k x n).below f m;clear a b n;go_wp2_with fail
   go_region_with (go_at_call 111;refine (Zjh x _).mono ?_;rintro e D ⟨rfl,g⟩)
   all_goals
    have j:Below w.heap.size w D:=f.drew.trans (g.mono f.size);clear c0 r s t u v y z g;go_wp2
    go_roundw
    case rel=>exact ⟨k+1,by omega,by go_num,j⟩
    case measure=>simp [intOf];omega
  ·go_wp2
   go_ret;exact ⟨rfl,f⟩
end Go.Proofs.YtanhoamdlhaaeaaGreatDoor
