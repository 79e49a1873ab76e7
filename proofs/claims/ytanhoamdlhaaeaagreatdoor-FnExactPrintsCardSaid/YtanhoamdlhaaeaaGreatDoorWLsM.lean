/-
  Slices of homes, links, grams, parked ones, and of slices of texts: the contracts of the laws' helpers. No condition.
-/
import Derived.Test.YtanhoamdlhaaeaaGreatDoorWLsRM
set_option maxRecDepth 100000
set_option maxHeartbeats 3200000
namespace Go.Proofs.YtanhoamdlhaaeaaGreatDoor
open Go.Proofs.Tryz
open Go.RowKit
def EL (B:Nat)(w:World)(cs:List Value)(l:Lk):Prop:=∃ vq vh,cs.toArray=#[.int .i64 l.sent,.int .i64 l.acked,vq,.int .i64 l.got,vh]/\StRow w vq l.q/\PcRow w vh l.h/\Fr B vq/\Fr B vh
theorem stbL:Stb EL:=⟨fun _ _ _ _ _ ⟨vq,vh,h,r1,r2,f1,f2⟩ hk=>⟨vq,vh,h,r1.kp f1 hk,r2.kp f2 hk,f1,f2⟩,fun _ _ _ _ _ ⟨vq,vh,h,r1,r2,f1,f2⟩ hc=>⟨vq,vh,h,r1,r2,f1.mono hc,f2.mono hc⟩⟩
def SmL (l:Lk):Prop:=l.q.length <= 1048576/\l.h.length <= 1048576
def ELo (B:Nat)(w:World)(cs:List Value)(l:Lk):Prop:=∃ vq vh,cs.toArray=#[.int .i64 l.sent,.int .i64 l.acked,vq,.int .i64 l.got,vh]/\StRow w vq l.q/\PcRow w vh l.h/\w.ownsRow B 9 1 vq l.q.length (stv l.q)/\w.ownsRow B 122 2 vh l.h.length (pccs l.h)
theorem ELo.el {B:Nat}{w:World}{cs:List Value}{l:Lk}(e:ELo B w cs l):EL B w cs l:=by
 obtain ⟨g,f,h,c,d,a,b⟩:=e;exact ⟨g,f,h,c,d,Fr.of_own a,Fr.of_own b⟩
theorem ZbR:Stb ELo:=⟨fun _ _ _ _ _ ⟨vq,vh,h,r1,r2,o1,o2⟩ hk=>⟨vq,vh,h,r1.kp (Fr.of_own o1) hk,r2.kp (Fr.of_own o2) hk,Zai o1 hk,Zai o2 hk⟩,fun _ _ _ _ _ ⟨vq,vh,h,r1,r2,o1,o2⟩ hc=>⟨vq,vh,h,r1,r2,Zae o1 hc,Zae o2 hc⟩⟩
theorem PcRow.szp {w:World}{v:Value}{a:List Pc}(R:PcRow w v a):∀ x ∈ a,x.s.size <= maxLen:=by
 obtain ⟨_,_,_,_,_,h,_⟩:=R;exact h
theorem NRow.small8 {w:World}{v:Value}{c:List Nd}(R:NRow w v c):∃ b a,v=.slice b c.length a:=by
 obtain ⟨b,a,h,_⟩:=R;exact ⟨b,a,h⟩
theorem ZlU:(prog.info? 70).map (fun i=>(i.zero,i.size,i.bytes))=some (some (.agg #[.int .i64 0,.int .i64 0,.slice none 0 0,.int .i64 0,.int .i64 0,.int .i64 0,.int .i64 0,.int .i64 0,.int .i64 0,.int .i64 0,.slice none 0 0,.slice none 0 0]),12,144):=by kernel_rfl
theorem Zfp (v:Value)(b:List Hm)(B:Nat)(w:World)(R:XRow B 12 EH w v b)(hm:b.length <= 2097152)(hs:∀ x ∈ b,SmH x) :
  Calls prog 22 #[v] w fun e w'=>∃ (v':Value) (css:List (List Value)),e=.returned v'/\w'.ownsRow w.heap.size 70 12 v' b.length css.flatten/\css.length=b.length/\(∀ c ∈ css,c.length=12)/\(∀ (i:Nat) c x,css[i]? = some c -> b[i]? = some x -> EHo w.heap.size w' c x)/\Below w.heap.size w w':=by
 obtain ⟨ao,aj,rfl,ai,al,l⟩:=R;obtain ⟨i0,hi,af,ag,ah⟩:=info_parts ZlU;have n:i0.bytes * b.length <= 281474976710656:=by rw [ah];omega
 have G:b.length <= maxLen:=by unfold maxLen;omega
 go_enter func22,ntmps22
 go_wp2_with (at_make;refine wpList_make_full _ rfl _ _ 46 rfl w.heap.size 70 i0 _ 12 underlying46 hi af ag _ _ _ _ b.length rfl rfl rfl rfl n G (ce _) ?_)
 intro w1 f A;have a:Below w.heap.size w w1:=(cf _ _).grown A (ce _) (by intro k hk;cases hk)
 have C:w1.ownsRow w.heap.size 70 12 (.slice (some ⟨w.heap.size,0,none⟩) b.length b.length) b.length (List.replicate b.length (#[.int .i64 0,.int .i64 0,.slice none 0 0,.int .i64 0,.int .i64 0,.int .i64 0,.int .i64 0,.int .i64 0,.int .i64 0,.int .i64 0,.slice none 0 0,.slice none 0 0]:Array Value).toList).flatten:=by
  rw [<- Zcm (z:=#[.int .i64 0,.int .i64 0,.slice none 0 0,.int .i64 0,.int .i64 0,.int .i64 0,.int .i64 0,.int .i64 0,.int .i64 0,.int .i64 0,.slice none 0 0,.slice none 0 0]) (k:=12) rfl (by decide)];exact f
 clear A f;go_wp2
 go_loopw [4] (fun i wr=>∃ (j:Nat) (css:List (List Value)),j <= b.length/\i=.int .i64 j/\Hid (css.length=b.length)/\Hid (∀ c ∈ css,c.length=12)/\Hid (∀ (i:Nat) c x,i < j -> css[i]? = some c -> b[i]? = some x -> EHo (w.heap.size+1) wr c x)/\wr.ownsRow w.heap.size 70 12 (.slice (some ⟨w.heap.size,0,none⟩) b.length b.length) b.length css.flatten/\Below w.heap.size w wr) (fun i _=>b.length - (intOf i).toNat)
 case atStart=>exact ⟨0,_,by omega,rfl,by unfold Hid;simp,by intro c u;rw [List.eq_of_mem_replicate u];rfl,fun i c x h=>by omega,C,a⟩
 case round =>
  clear C a n G;obtain ⟨j,css,hj,rfl,L,W,Y,f,a⟩:=hrel
  by_cases F:j < b.length
  ·obtain ⟨g,o,rfl,_,hg,l⟩:=l (by intro e;subst e;simp at F)
   obtain ⟨x,K⟩:∃ x,b[j]? = some x:=⟨b[j],by simp [F]⟩;obtain ⟨cs,ad,X,hE⟩:=l j x K;have HX:Hid (b[j]? = some x):=K;replace X:=Zab X a hg;replace hE:=stbH.1 _ _ _ _ _ hE (Kp.of_below a);clear l K;obtain ⟨v1,v2,v3,u,R1,R2,R3,_,_,_⟩:=hE;obtain rfl:cs=(#[.int .i64 x.pl,.int .i64 x.i,v1,.int .i64 x.m.p,.int .i64 x.m.s,.int .i64 x.m.e,.int .i64 x.m.d,.int .i64 x.m.t,.int .i64 x.m.q,.int .i64 x.m.r,v2,v3]:Array Value).toList:=congrArg Array.toList u;clear u ad;have ae:w.heap.size+1 <= wr.heap.size:=(f.lt w.heap.size rfl).2
   go_wp2_with (refine wpList_load_mid rfl 99 _ rfl g (o+j * 12) rfl _ _ X underlying99 rfl (by kernel_rfl) ?_)
   refine (ZhH x _ _ _ _ R1 R2 R3 (hs x (List.mem_of_getElem? HX.out))).mono ?_;rintro e w2 ⟨u1,u2,u3,rfl,P1,P2,P3,F1,F2,F3,⟨o1,o2,o3⟩,E⟩;obtain ⟨P,T,rfl⟩:=P1.small8;obtain ⟨Q,U,rfl⟩:=P2.small;obtain ⟨S,V,rfl⟩:=P3.small;have N:EHo wr.heap.size w2 (#[.int .i64 x.pl,.int .i64 x.i,.slice P x.xs.length T,.int .i64 x.m.p,.int .i64 x.m.s,.int .i64 x.m.e,.int .i64 x.m.d,.int .i64 x.m.t,.int .i64 x.m.q,.int .i64 x.m.r,.slice Q x.bx.length U,.slice S x.ox.length V]:Array Value).toList x:=⟨_,_,_,rfl,P1,P2,P3,o1,o2,o3⟩;have D:=Zac f E;have M:=a.trans (E.mono a.size);have O:Kp (w.heap.size+1) wr w2:=Kp.of_below E;clear f E a X
   go_wp2_with (refine Zbb rfl 70 _ _ rfl w.heap.size w.heap.size j b.length 12 b.length css (#[.int .i64 x.pl,.int .i64 x.i,.slice P x.xs.length T,.int .i64 x.m.p,.int .i64 x.m.s,.int .i64 x.m.e,.int .i64 x.m.d,.int .i64 x.m.t,.int .i64 x.m.q,.int .i64 x.m.r,.slice Q x.bx.length U,.slice S x.ox.length V]:Array Value).toList rfl rfl rfl W.out L.out F (by simp [Value.oneCell']) (by kernel_rfl) D ?_)
   intro w3 J H;have ac:Below w.heap.size w w3:=M.grown H M.size (fun k hk=>by simp at hk;omega);have I:Kp (w.heap.size+1) w2 w3:=Kp.of_grown H (by omega);have ab:Hid ((css.set j (#[.int .i64 x.pl,.int .i64 x.i,.slice P x.xs.length T,.int .i64 x.m.p,.int .i64 x.m.s,.int .i64 x.m.e,.int .i64 x.m.d,.int .i64 x.m.t,.int .i64 x.m.q,.int .i64 x.m.r,.slice Q x.bx.length U,.slice S x.ox.length V]:Array Value).toList).length=b.length):=by unfold Hid;rw [List.length_set];exact L.out
   have aa:Hid (∀ c ∈ css.set j (#[.int .i64 x.pl,.int .i64 x.i,.slice P x.xs.length T,.int .i64 x.m.p,.int .i64 x.m.s,.int .i64 x.m.e,.int .i64 x.m.d,.int .i64 x.m.t,.int .i64 x.m.q,.int .i64 x.m.r,.slice Q x.bx.length U,.slice S x.ox.length V]:Array Value).toList,c.length=12):=by
    intro c u;rcases List.mem_or_eq_of_mem_set u with h | h
    ·exact W.out c h
    ·rw [h];rfl
   have Z:Hid (∀ (i:Nat) c y,i < j+1 -> (css.set j (#[.int .i64 x.pl,.int .i64 x.i,.slice P x.xs.length T,.int .i64 x.m.p,.int .i64 x.m.s,.int .i64 x.m.e,.int .i64 x.m.d,.int .i64 x.m.t,.int .i64 x.m.q,.int .i64 x.m.r,.slice Q x.bx.length U,.slice S x.ox.length V]:Array Value).toList)[i]? = some c -> b[i]? = some y -> EHo (w.heap.size+1) w3 c y):=by
    intro i c y ak u hy
    by_cases e:i=j
    ·subst e
     rw [List.getElem?_set_self (by rw [L.out];exact F)] at u;rw [HX.out] at hy;cases u;cases hy;exact ZbC.1 _ _ _ _ _ (ZbC.2 _ _ _ _ _ N ae) I
    ·rw [List.getElem?_set_ne (fun h=>e h.symm)] at u
     exact ZbC.1 _ _ _ _ _ (ZbC.1 _ _ _ _ _ (Y.out i c y (by omega) u hy) O) I
   clear D H N O I L W Y HX;go_wp2
   go_roundw
   case rel=>exact ⟨j+1,_,by omega,by go_num,ab,aa,Z,J,ac⟩
   case measure=>simp [intOf];omega
  ·go_wp2
   go_ret;have:j=b.length:=by omega
   subst this;exact ⟨_,css,rfl,f,L.out,W.out,fun i c x u K=>ZbC.2 _ _ _ _ _ (Y.out i c x (List.getElem?_eq_some_iff.1 K).1 u K) (by omega),a⟩
theorem ZiW (v:Value)(d:List Hm)(B:Nat)(w:World)(R:XRow B 12 EH w v d)(j:d.length <= 2097152)(k:∀ x ∈ d,SmH x) :
  Calls prog 22 #[v] w fun e g=>∃ f,e=.returned f/\XRow w.heap.size 12 EH g f d/\Below w.heap.size w g :=
 (Zfp v d B w R j k).mono fun e g ⟨f,css,h1,o,hl,hk,he,hb⟩=>⟨f,h1,XRow.of_own o hl hk (by omega) (fun i c x a b=>(he i c x a b).eh),hb⟩
theorem ZiP (v:Value)(b:List Hm)(B:Nat)(l:Int)(w:World)(R:XRow B 12 EH w v b)(W:0 <= l)(X:l <= 1048576) :
  Calls prog 14 #[v,.int .i64 l] w fun e w'=>∃ r:Int,e=.returned (.int .i64 r) /\ -1 <= r/\r <= 1048576/\(0 <= r -> b.length <= 1048576/\∀ x ∈ b,SmH x)/\Below w.heap.size w w':=by
 obtain ⟨ao,U,rfl,L,hm,a⟩:=R
 by_cases N:(b.length:Int) <= l
 ·go_enter func14,ntmps14
  go_wp2
  go_loopw [1,5] (fun l i wr=>∃ (k:Nat) (r:Int),k <= b.length/\i=.int .i64 k/\l=.int .i64 r/\0 <= r/\r <= 1048576/\Hid (∀ (j:Nat) x,b[j]? = some x -> j < k -> SmH x)/\Below w.heap.size w wr) (fun _ i _=>b.length - (intOf i).toNat)
  case atStart=>exact ⟨0,_,by omega,rfl,rfl,by omega,by omega,fun j x _ h=>by omega,cf _ _⟩
  case round =>
   obtain ⟨k,r,hk,rfl,rfl,G,H,J,f⟩:=hrel
   by_cases u:k < b.length
   ·obtain ⟨g,o,rfl,_,V,a⟩:=a (by intro e;subst e;simp at u)
    obtain ⟨x,z⟩:∃ x,b[k]? = some x:=⟨b[k],by simp [u]⟩;obtain ⟨cs,F,A,E⟩:=a k x z;have P:Hid (b[k]? = some x):=z;replace A:=Zab A f V;replace E:=stbH.1 _ _ _ _ _ E (Kp.of_below f);clear a z;obtain ⟨Z,v2,v3,K,Q,S,T,_,_,_⟩:=E;obtain rfl:cs=(#[.int .i64 x.pl,.int .i64 x.i,Z,.int .i64 x.m.p,.int .i64 x.m.s,.int .i64 x.m.e,.int .i64 x.m.d,.int .i64 x.m.t,.int .i64 x.m.q,.int .i64 x.m.r,v2,v3]:Array Value).toList:=congrArg Array.toList K;clear K F
    go_wp2_with (refine wpList_load_mid rfl 99 _ rfl g (o+k * 12) rfl _ _ A underlying99 rfl (by kernel_rfl) ?_)
    refine (ZhA x _ _ _ r _ Q S T G H).mono ?_;rintro e w2 ⟨O,rfl,h0,h1,D,n⟩;have c:=f.trans (n.mono f.size);clear A n
    by_cases Y:O < 0
    ·have HR:Hid (O = -1):=by unfold Hid;omega
     go_wp2;go_ret;exact ⟨-1,rfl,by omega,by omega,fun h=>by omega,c⟩
    ·have D:=D (by omega)
     have C:Hid (∀ (j:Nat) x,b[j]? = some x -> j < k+1 -> SmH x):=by
      intro j y I M
      by_cases e:j=k
      ·subst e
       rw [P.out] at I;cases I;exact D
      ·exact J.out j y I (by omega)
     go_wp2
     go_roundw
     case rel=>exact ⟨k+1,_,by omega,by go_num,rfl,by omega,by omega,C,c⟩
     case measure=>simp [intOf];omega
   ·go_wp2
    go_ret;refine ⟨r,rfl,by omega,by omega,fun _=>⟨by omega,fun x z=>?_⟩,f⟩;obtain ⟨j,M,e⟩:=List.getElem_of_mem z;exact J.out j x (by rw [<- e];simp [M]) (by omega)
 ·go_enter func14,ntmps14
  go_wp2;go_ret;exact ⟨-1,rfl,by omega,by omega,fun h=>by omega,cf _ _⟩
theorem ZhW (F vb:Value)(c:List Hm)(B C:Nat)(w:World)(J:XRow B 12 EH w F c)(K:XRow C 12 EH w vb c) :
  Calls prog 31 #[F,vb] w fun e A=>e=.returned (.bool true)/\Below w.heap.size w A:=by
 obtain ⟨Y,O,rfl,m,hm,a⟩:=J;obtain ⟨Z,P,rfl,n,_,b⟩:=K;have hn:((c.length:Int) != (c.length:Int))=false:=by simp
 go_enter func31,ntmps31
 go_wp2
 go_loopw [5] (fun i wr=>∃ k:Nat,k <= c.length/\i=.int .i64 k/\Below w.heap.size w wr) (fun i _=>c.length - (intOf i).toNat)
 case atStart=>exact ⟨0,by omega,rfl,cf _ _⟩
 case round =>
  obtain ⟨k,hk,rfl,g⟩:=hrel
  by_cases j:k < c.length
  ·obtain ⟨Q,S,rfl,_,o,a⟩:=a (by intro e;subst e;simp at j)
   obtain ⟨R,T,rfl,_,q,b⟩:=b (by intro e;subst e;simp at j);obtain ⟨x,z⟩:∃ x,c[k]? = some x:=⟨c[k],by simp [j]⟩;obtain ⟨cs,v,s,d⟩:=a k x z;obtain ⟨E,y,t,f⟩:=b k x z;replace s:=Zab s g o;replace t:=Zab t g q;replace d:=stbH.1 _ _ _ _ _ d (Kp.of_below g);replace f:=stbH.1 _ _ _ _ _ f (Kp.of_below g)
   have D:∀ W,Below wr.heap.size wr W -> Calls prog 76 #[.agg cs.toArray,.agg E.toArray] W fun e A=>e=.returned (.bool true)/\Below W.heap.size W A:=by
    intro W l;obtain ⟨U,V,X,m,G,H,I,_,_,_⟩:=d;obtain ⟨b1,b2,b3,n,L,M,N,_,_,_⟩:=f;rw [m,n];exact ZgN x _ _ _ _ _ _ W (G.below l) (H.below l) (I.below l) (L.below l) (M.below l) (N.below l)
   have p:=cm o g.size;have r:=cm q g.size;clear a b z d f;go_wp2_with fail;refine ZkR Q S R T c.length O P k cs E wr _ j v y p r s t D ?_;intro u17 u18 u19 u20 u21 u22 u23 u24 u25 W l;have u:Below w.heap.size w W:=g.trans (l.mono g.size);clear D s t;go_wp2
   go_roundw
   case rel=>exact ⟨k+1,by omega,by go_num,u⟩
   case measure=>simp [intOf];omega
  ·go_wp2
   go_ret;exact ⟨rfl,g⟩
theorem ZlT:(prog.info? 120).map (fun i=>(i.zero,i.size,i.bytes))=some (some (.agg #[.int .i64 0,.int .i64 0,.slice none 0 0,.int .i64 0,.slice none 0 0]),5,72):=by kernel_rfl
theorem Zfq (v:Value)(b:List Lk)(B:Nat)(w:World)(R:XRow B 5 EL w v b)(hm:b.length <= 2097152)(Q:∀ x ∈ b,SmL x) :
  Calls prog 23 #[v] w fun e w'=>∃ (v':Value) (css:List (List Value)),e=.returned v'/\w'.ownsRow w.heap.size 120 5 v' b.length css.flatten/\css.length=b.length/\(∀ c ∈ css,c.length=5)/\(∀ (i:Nat) c x,css[i]? = some c -> b[i]? = some x -> ELo w.heap.size w' c x)/\Below w.heap.size w w':=by
 obtain ⟨ao,ag,rfl,af,ai,f⟩:=R;obtain ⟨i0,hi,ac,ad,ae⟩:=info_parts ZlT;have l:i0.bytes * b.length <= 281474976710656:=by rw [ae];omega
 have u:b.length <= maxLen:=by unfold maxLen;omega
 go_enter func23,ntmps23
 go_wp2_with (at_make;refine wpList_make_full _ rfl _ _ 47 rfl w.heap.size 120 i0 _ 5 underlying47 hi ac ad _ _ _ _ b.length rfl rfl rfl rfl l u (ce _) ?_)
 intro w1 d n;have a:Below w.heap.size w w1:=(cf _ _).grown n (ce _) (by intro k hk;cases hk)
 have p:w1.ownsRow w.heap.size 120 5 (.slice (some ⟨w.heap.size,0,none⟩) b.length b.length) b.length (List.replicate b.length (#[.int .i64 0,.int .i64 0,.slice none 0 0,.int .i64 0,.slice none 0 0]:Array Value).toList).flatten:=by
  rw [<- Zcm (z:=#[.int .i64 0,.int .i64 0,.slice none 0 0,.int .i64 0,.slice none 0 0]) (k:=5) rfl (by decide)];exact d
 clear n d;go_wp2
 go_loopw [4] (fun i wr=>∃ (j:Nat) (css:List (List Value)),j <= b.length/\i=.int .i64 j/\Hid (css.length=b.length)/\Hid (∀ c ∈ css,c.length=5)/\Hid (∀ (i:Nat) c x,i < j -> css[i]? = some c -> b[i]? = some x -> ELo (w.heap.size+1) wr c x)/\wr.ownsRow w.heap.size 120 5 (.slice (some ⟨w.heap.size,0,none⟩) b.length b.length) b.length css.flatten/\Below w.heap.size w wr) (fun i _=>b.length - (intOf i).toNat)
 case atStart=>exact ⟨0,_,by omega,rfl,by unfold Hid;simp,by intro c m;rw [List.eq_of_mem_replicate m];rfl,fun i c x h=>by omega,p,a⟩
 case round =>
  clear p a l u;obtain ⟨j,css,hj,rfl,G,O,S,d,a⟩:=hrel
  by_cases t:j < b.length
  ·obtain ⟨g,o,rfl,_,hg,f⟩:=f (by intro e;subst e;simp at t)
   obtain ⟨x,F⟩:∃ x,b[j]? = some x:=⟨b[j],by simp [t]⟩;obtain ⟨cs,aa,P,Z⟩:=f j x F;have E:Hid (b[j]? = some x):=F;replace P:=Zab P a hg;replace Z:=stbL.1 _ _ _ _ _ Z (Kp.of_below a);clear f F;obtain ⟨v1,v2,m,R1,R2,_,_⟩:=Z;obtain rfl:cs=(#[.int .i64 x.sent,.int .i64 x.acked,v1,.int .i64 x.got,v2]:Array Value).toList:=congrArg Array.toList m;clear m aa;have ab:w.heap.size+1 <= wr.heap.size:=(d.lt w.heap.size rfl).2
   go_wp2_with (refine wpList_load_mid rfl 103 _ rfl g (o+j * 5) rfl _ _ P underlying103 rfl (by kernel_rfl) ?_)
   refine (ZhI _ _ x _ R1 R2 (by have:=(Q x (List.mem_of_getElem? E.out)).1;omega) (by have:=(Q x (List.mem_of_getElem? E.out)).2;omega)).mono ?_;rintro e w2 ⟨u1,u2,rfl,W,X,s⟩;have P1:=StRow.of_own W (by have:=(Q x (List.mem_of_getElem? E.out)).1;omega) R1.szs;have P2:=PcRow.of_own X (by have:=(Q x (List.mem_of_getElem? E.out)).2;omega) R2.szp;obtain ⟨K,M,rfl⟩:=P1.small;obtain ⟨L,N,rfl⟩:=P2.small;have I:ELo wr.heap.size w2 (#[.int .i64 x.sent,.int .i64 x.acked,.slice K x.q.length M,.int .i64 x.got,.slice L x.h.length N]:Array Value).toList x:=⟨_,_,rfl,P1,P2,W,X⟩;clear W X;have r:=Zac d s;have H:=a.trans (s.mono a.size);have J:Kp (w.heap.size+1) wr w2:=Kp.of_below s;clear d s a P
   go_wp2_with (refine Zbb rfl 120 _ _ rfl w.heap.size w.heap.size j b.length 5 b.length css (#[.int .i64 x.sent,.int .i64 x.acked,.slice K x.q.length M,.int .i64 x.got,.slice L x.h.length N]:Array Value).toList rfl rfl rfl O.out G.out t (by simp [Value.oneCell']) (by kernel_rfl) r ?_)
   intro w3 D A;have Y:Below w.heap.size w w3:=H.grown A H.size (fun k hk=>by simp at hk;omega);have C:Kp (w.heap.size+1) w2 w3:=Kp.of_grown A (by omega);have V:Hid ((css.set j (#[.int .i64 x.sent,.int .i64 x.acked,.slice K x.q.length M,.int .i64 x.got,.slice L x.h.length N]:Array Value).toList).length=b.length):=by unfold Hid;rw [List.length_set];exact G.out
   have U:Hid (∀ c ∈ css.set j (#[.int .i64 x.sent,.int .i64 x.acked,.slice K x.q.length M,.int .i64 x.got,.slice L x.h.length N]:Array Value).toList,c.length=5):=by
    intro c m;rcases List.mem_or_eq_of_mem_set m with h | h
    ·exact O.out c h
    ·rw [h];rfl
   have T:Hid (∀ (i:Nat) c y,i < j+1 -> (css.set j (#[.int .i64 x.sent,.int .i64 x.acked,.slice K x.q.length M,.int .i64 x.got,.slice L x.h.length N]:Array Value).toList)[i]? = some c -> b[i]? = some y -> ELo (w.heap.size+1) w3 c y):=by
    intro i c y ah m hy
    by_cases e:i=j
    ·subst e
     rw [List.getElem?_set_self (by rw [G.out];exact t)] at m;rw [E.out] at hy;cases m;cases hy;exact ZbR.1 _ _ _ _ _ (ZbR.2 _ _ _ _ _ I ab) C
    ·rw [List.getElem?_set_ne (fun h=>e h.symm)] at m
     exact ZbR.1 _ _ _ _ _ (ZbR.1 _ _ _ _ _ (S.out i c y (by omega) m hy) J) C
   clear r A I J C G O S E;go_wp2
   go_roundw
   case rel=>exact ⟨j+1,_,by omega,by go_num,V,U,T,D,Y⟩
   case measure=>simp [intOf];omega
  ·go_wp2
   go_ret;have:j=b.length:=by omega
   subst this;exact ⟨_,css,rfl,d,G.out,O.out,fun i c x m F=>ZbR.2 _ _ _ _ _ (S.out i c x (List.getElem?_eq_some_iff.1 F).1 m F) (by omega),a⟩
theorem ZiY (v:Value)(d:List Lk)(B:Nat)(w:World)(R:XRow B 5 EL w v d)(j:d.length <= 2097152)(k:∀ x ∈ d,SmL x) :
  Calls prog 23 #[v] w fun e g=>∃ f,e=.returned f/\XRow w.heap.size 5 EL g f d/\Below w.heap.size w g :=
 (Zfq v d B w R j k).mono fun e g ⟨f,css,h1,o,hl,hk,he,hb⟩=>⟨f,h1,XRow.of_own o hl hk (by omega) (fun i c x a b=>(he i c x a b).el),hb⟩
theorem ZiR (v:Value)(b:List Lk)(B:Nat)(l:Int)(w:World)(R:XRow B 5 EL w v b)(O:0 <= l)(P:l <= 1048576) :
  Calls prog 15 #[v,.int .i64 l] w fun e U=>∃ r:Int,e=.returned (.int .i64 r) /\ -1 <= r/\r <= 1048576/\(0 <= r -> b.length <= 1048576/\∀ x ∈ b,SmL x)/\Below w.heap.size w U:=by
 obtain ⟨W,M,rfl,F,hm,a⟩:=R
 by_cases H:(b.length:Int) <= l
 ·go_enter func15,ntmps15
  go_wp2
  go_loopw [1,5] (fun l i wr=>∃ (k:Nat) (r:Int),k <= b.length/\i=.int .i64 k/\l=.int .i64 r/\0 <= r/\r <= 1048576/\Hid (∀ (j:Nat) x,b[j]? = some x -> j < k -> SmL x)/\Below w.heap.size w wr) (fun _ i _=>b.length - (intOf i).toNat)
  case atStart=>exact ⟨0,_,by omega,rfl,rfl,by omega,by omega,fun j x _ h=>by omega,cf _ _⟩
  case round =>
   obtain ⟨k,r,Z,rfl,rfl,z,A,D,d⟩:=hrel
   by_cases m:k < b.length
   ·obtain ⟨g,o,rfl,_,N,a⟩:=a (by intro e;subst e;simp at m)
    obtain ⟨x,n⟩:∃ x,b[k]? = some x:=⟨b[k],by simp [m]⟩;obtain ⟨cs,u,p,t⟩:=a k x n;have J:Hid (b[k]? = some x):=n;replace p:=Zab p d N;replace t:=stbL.1 _ _ _ _ _ t (Kp.of_below d);clear a n;obtain ⟨S,T,E,K,L,_,_⟩:=t;obtain rfl:cs=(#[.int .i64 x.sent,.int .i64 x.acked,S,.int .i64 x.got,T]:Array Value).toList:=congrArg Array.toList E;clear E u
    go_wp2_with (refine wpList_load_mid rfl 103 _ rfl g (o+k * 5) rfl _ _ p underlying103 rfl (by kernel_rfl) ?_)
    refine (ZhB r z A _ _ x _ K L).mono ?_;rintro e w2 ⟨I,rfl,X,Y,s,f⟩;have c:=d.trans (f.mono d.size);clear p f
    by_cases Q:I < 0
    ·have V:Hid (I = -1):=by unfold Hid;omega
     go_wp2;go_ret;exact ⟨-1,rfl,by omega,by omega,fun h=>by omega,c⟩
    ·have s:=s (by omega)
     have q:Hid (∀ (j:Nat) x,b[j]? = some x -> j < k+1 -> SmL x):=by
      intro j y C G
      by_cases e:j=k
      ·subst e
       rw [J.out] at C;cases C;exact s
      ·exact D.out j y C (by omega)
     go_wp2
     go_roundw
     case rel=>exact ⟨k+1,_,by omega,by go_num,rfl,by omega,by omega,q,c⟩
     case measure=>simp [intOf];omega
   ·go_wp2
    go_ret;refine ⟨r,rfl,by omega,by omega,fun _=>⟨by omega,fun x n=>?_⟩,d⟩;obtain ⟨j,G,e⟩:=List.getElem_of_mem n;exact D.out j x (by rw [<- e];simp [G]) (by omega)
 ·go_enter func15,ntmps15
  go_wp2;go_ret;exact ⟨-1,rfl,by omega,by omega,fun h=>by omega,cf _ _⟩
theorem ZhY (F vb:Value)(c:List Lk)(B C:Nat)(w:World)(I:XRow B 5 EL w F c)(J:XRow C 5 EL w vb c) :
  Calls prog 32 #[F,vb] w fun e A=>e=.returned (.bool true)/\Below w.heap.size w A:=by
 obtain ⟨U,M,rfl,m,hm,a⟩:=I;obtain ⟨V,N,rfl,n,_,b⟩:=J;have hn:((c.length:Int) != (c.length:Int))=false:=by simp
 go_enter func32,ntmps32
 go_wp2
 go_loopw [5] (fun i wr=>∃ k:Nat,k <= c.length/\i=.int .i64 k/\Below w.heap.size w wr) (fun i _=>c.length - (intOf i).toNat)
 case atStart=>exact ⟨0,by omega,rfl,cf _ _⟩
 case round =>
  obtain ⟨k,Z,rfl,g⟩:=hrel
  by_cases j:k < c.length
  ·obtain ⟨O,Q,rfl,_,o,a⟩:=a (by intro e;subst e;simp at j)
   obtain ⟨P,R,rfl,_,q,b⟩:=b (by intro e;subst e;simp at j);obtain ⟨x,z⟩:∃ x,c[k]? = some x:=⟨c[k],by simp [j]⟩;obtain ⟨cs,v,s,d⟩:=a k x z;obtain ⟨E,y,t,f⟩:=b k x z;replace s:=Zab s g o;replace t:=Zab t g q;replace d:=stbL.1 _ _ _ _ _ d (Kp.of_below g);replace f:=stbL.1 _ _ _ _ _ f (Kp.of_below g)
   have D:∀ W,Below wr.heap.size wr W -> Calls prog 77 #[.agg cs.toArray,.agg E.toArray] W fun e A=>e=.returned (.bool true)/\Below W.heap.size W A:=by
    intro W l;obtain ⟨S,T,m,G,H,_,_⟩:=d;obtain ⟨X,Y,n,K,L,_,_⟩:=f;rw [m,n];exact ZgO _ _ _ _ x W (G.below l) (H.below l) (K.below l) (L.below l)
   have p:=cm o g.size;have r:=cm q g.size;clear a b z d f;go_wp2_with fail;refine ZkS O Q P R c.length M N k cs E wr _ j v y p r s t D ?_;intro u17 u18 u19 u20 u21 u22 u23 u24 u25 W l;have u:Below w.heap.size w W:=g.trans (l.mono g.size);clear D s t;go_wp2
   go_roundw
   case rel=>exact ⟨k+1,by omega,by go_num,u⟩
   case measure=>simp [intOf];omega
  ·go_wp2
   go_ret;exact ⟨rfl,g⟩
theorem ZlQ:(prog.info? 124).map (fun i=>(i.zero,i.size,i.bytes))=some (some (.agg #[.int .i64 0,.int .i64 0,.int .i64 0,.int .i64 0,.string ByteArray.empty]),5,48):=by kernel_rfl
theorem Zfo (v:Value)(b:List Gm)(B:Nat)(w:World)(R:XRow B 5 EG w v b)(hm:b.length <= 2097152)(hs:∀ x ∈ b,SmG x) :
  Calls prog 24 #[v] w fun e w'=>∃ (v':Value) (css:List (List Value)),e=.returned v'/\w'.ownsRow w.heap.size 124 5 v' b.length css.flatten/\css.length=b.length/\(∀ c ∈ css,c.length=5)/\(∀ (i:Nat) c x,css[i]? = some c -> b[i]? = some x -> EG w.heap.size w' c x)/\Below w.heap.size w w':=by
 obtain ⟨ao,ae,rfl,ad,ag,l⟩:=R;obtain ⟨i0,hi,aa,ab,ac⟩:=info_parts ZlQ;have m:i0.bytes * b.length <= 281474976710656:=by rw [ac];omega
 have D:b.length <= maxLen:=by unfold maxLen;omega
 go_enter func24,ntmps24
 go_wp2_with (at_make;refine wpList_make_full _ rfl _ _ 48 rfl w.heap.size 124 i0 _ 5 underlying48 hi aa ab _ _ _ _ b.length rfl rfl rfl rfl m D (ce _) ?_)
 intro w1 d q;have a:Below w.heap.size w w1:=(cf _ _).grown q (ce _) (by intro k W;cases W)
 have r:w1.ownsRow w.heap.size 124 5 (.slice (some ⟨w.heap.size,0,none⟩) b.length b.length) b.length (List.replicate b.length (#[.int .i64 0,.int .i64 0,.int .i64 0,.int .i64 0,.string ByteArray.empty]:Array Value).toList).flatten:=by
  rw [<- Zcm (z:=#[.int .i64 0,.int .i64 0,.int .i64 0,.int .i64 0,.string ByteArray.empty]) (k:=5) rfl (by decide)];exact d
 clear q d;go_wp2
 go_loopw [4] (fun i wr=>∃ (j:Nat) (css:List (List Value)),j <= b.length/\i=.int .i64 j/\Hid (css.length=b.length)/\Hid (∀ c ∈ css,c.length=5)/\Hid (∀ (i:Nat) c x,i < j -> css[i]? = some c -> b[i]? = some x -> EG (w.heap.size+1) wr c x)/\wr.ownsRow w.heap.size 124 5 (.slice (some ⟨w.heap.size,0,none⟩) b.length b.length) b.length css.flatten/\Below w.heap.size w wr) (fun i _=>b.length - (intOf i).toNat)
 case atStart=>exact ⟨0,_,by omega,rfl,by unfold Hid;simp,by intro c p;rw [List.eq_of_mem_replicate p];rfl,fun i c x h=>by omega,r,a⟩
 case round =>
  clear r a m D;obtain ⟨j,css,hj,rfl,I,M,O,d,a⟩:=hrel
  by_cases C:j < b.length
  ·obtain ⟨g,o,rfl,_,hg,l⟩:=l (by intro e;subst e;simp at C)
   obtain ⟨x,H⟩:∃ x,b[j]? = some x:=⟨b[j],by simp [C]⟩;obtain ⟨cs,V,N,U⟩:=l j x H;have HX:Hid (b[j]? = some x):=H;replace N:=Zab N a hg;replace U:=stbG.1 _ _ _ _ _ U (Kp.of_below a);clear l H;obtain ⟨p,X⟩:=U;obtain rfl:cs=(#[.int .i64 x.k,.int .i64 x.f,.int .i64 x.t,.int .i64 x.n,.string x.s]:Array Value).toList:=congrArg Array.toList p;clear p V;have Y:w.heap.size+1 <= wr.heap.size:=(d.lt w.heap.size rfl).2
   go_wp2_with (refine wpList_load_mid rfl 108 _ rfl g (o+j * 5) rfl _ _ N underlying108 rfl (by kernel_rfl) ?_)
   refine (ZhG x _).mono ?_;rintro e w2 ⟨rfl,A⟩;have K:EG wr.heap.size w2 (#[.int .i64 x.k,.int .i64 x.f,.int .i64 x.t,.int .i64 x.n,.string x.s]:Array Value).toList x:=⟨rfl,X⟩;have u:=Zac d A;have J:=a.trans (A.mono a.size);have L:Kp (w.heap.size+1) wr w2:=Kp.of_below A;clear d A a N
   go_wp2_with (refine Zbb rfl 124 _ _ rfl w.heap.size w.heap.size j b.length 5 b.length css (#[.int .i64 x.k,.int .i64 x.f,.int .i64 x.t,.int .i64 x.n,.string x.s]:Array Value).toList rfl rfl rfl M.out I.out C (by simp [Value.oneCell']) (by kernel_rfl) u ?_)
   intro w3 G E;have T:Below w.heap.size w w3:=J.grown E J.size (fun k W=>by simp at W;omega);have F:Kp (w.heap.size+1) w2 w3:=Kp.of_grown E (by omega);have S:Hid ((css.set j (#[.int .i64 x.k,.int .i64 x.f,.int .i64 x.t,.int .i64 x.n,.string x.s]:Array Value).toList).length=b.length):=by unfold Hid;rw [List.length_set];exact I.out
   have Q:Hid (∀ c ∈ css.set j (#[.int .i64 x.k,.int .i64 x.f,.int .i64 x.t,.int .i64 x.n,.string x.s]:Array Value).toList,c.length=5):=by
    intro c p;rcases List.mem_or_eq_of_mem_set p with h | h
    ·exact M.out c h
    ·rw [h];rfl
   have P:Hid (∀ (i:Nat) c y,i < j+1 -> (css.set j (#[.int .i64 x.k,.int .i64 x.f,.int .i64 x.t,.int .i64 x.n,.string x.s]:Array Value).toList)[i]? = some c -> b[i]? = some y -> EG (w.heap.size+1) w3 c y):=by
    intro i c y af p Z
    by_cases e:i=j
    ·subst e
     rw [List.getElem?_set_self (by rw [I.out];exact C)] at p;rw [HX.out] at Z;cases p;cases Z;exact stbG.1 _ _ _ _ _ (stbG.2 _ _ _ _ _ K Y) F
    ·rw [List.getElem?_set_ne (fun h=>e h.symm)] at p
     exact stbG.1 _ _ _ _ _ (stbG.1 _ _ _ _ _ (O.out i c y (by omega) p Z) L) F
   clear u E K L F I M O HX;go_wp2
   go_roundw
   case rel=>exact ⟨j+1,_,by omega,by go_num,S,Q,P,G,T⟩
   case measure=>simp [intOf];omega
  ·go_wp2
   go_ret;have:j=b.length:=by omega
   subst this;exact ⟨_,css,rfl,d,I.out,M.out,fun i c x p H=>stbG.2 _ _ _ _ _ (O.out i c x (List.getElem?_eq_some_iff.1 H).1 p H) (by omega),a⟩
theorem ZiV (v:Value)(a:List Gm)(B:Nat)(w:World)(R:XRow B 5 EG w v a)(d:a.length <= 2097152)(f:∀ x ∈ a,SmG x) :
  Calls prog 24 #[v] w fun e c=>∃ b,e=.returned b/\XRow w.heap.size 5 EG c b a/\Below w.heap.size w c :=
 (Zfo v a B w R d f).mono fun e c ⟨b,css,h1,o,hl,hk,he,hb⟩=>⟨b,h1,XRow.of_own o hl hk (by omega) he,hb⟩
theorem ZiO (v:Value)(b:List Gm)(B:Nat)(l:Int)(w:World)(R:XRow B 5 EG w v b)(S:0 <= l)(T:l <= 1048576) :
  Calls prog 16 #[v,.int .i64 l] w fun e V=>∃ r:Int,e=.returned (.int .i64 r) /\ -1 <= r/\r <= 1048576/\(0 <= r -> b.length <= 1048576/\∀ x ∈ b,SmG x)/\Below w.heap.size w V:=by
 obtain ⟨X,P,rfl,K,hm,a⟩:=R
 by_cases M:(b.length:Int) <= l
 ·go_enter func16,ntmps16
  go_wp2
  go_loopw [1,5] (fun l i wr=>∃ (k:Nat) (r:Int),k <= b.length/\i=.int .i64 k/\l=.int .i64 r/\0 <= r/\r <= 1048576/\Hid (∀ (j:Nat) x,b[j]? = some x -> j < k -> SmG x)/\Below w.heap.size w wr) (fun _ i _=>b.length - (intOf i).toNat)
  case atStart=>exact ⟨0,_,by omega,rfl,rfl,by omega,by omega,fun j x _ h=>by omega,cf _ _⟩
  case round =>
   obtain ⟨k,r,hk,rfl,rfl,E,F,I,d⟩:=hrel
   by_cases p:k < b.length
   ·obtain ⟨g,o,rfl,_,Q,a⟩:=a (by intro e;subst e;simp at p)
    obtain ⟨x,q⟩:∃ x,b[k]? = some x:=⟨b[k],by simp [p]⟩;obtain ⟨cs,D,u,C⟩:=a k x q;have O:Hid (b[k]? = some x):=q;replace u:=Zab u d Q;replace C:=stbG.1 _ _ _ _ _ C (Kp.of_below d);clear a q;obtain ⟨J,G⟩:=C;obtain rfl:cs=(#[.int .i64 x.k,.int .i64 x.f,.int .i64 x.t,.int .i64 x.n,.string x.s]:Array Value).toList:=congrArg Array.toList J;clear J D
    go_wp2_with (refine wpList_load_mid rfl 108 _ rfl g (o+k * 5) rfl _ _ u underlying108 rfl (by kernel_rfl) ?_)
    refine (Zhz x r _ G E F).mono ?_;rintro e w2 ⟨N,rfl,Y,Z,A,m⟩;have c:=d.trans (m.mono d.size);clear u m
    by_cases U:N < 0
    ·have W:Hid (N = -1):=by unfold Hid;omega
     go_wp2;go_ret;exact ⟨-1,rfl,by omega,by omega,fun h=>by omega,c⟩
    ·have A:=A (by omega)
     have z:Hid (∀ (j:Nat) x,b[j]? = some x -> j < k+1 -> SmG x):=by
      intro j y H L
      by_cases e:j=k
      ·subst e
       rw [O.out] at H;cases H;exact A
      ·exact I.out j y H (by omega)
     go_wp2
     go_roundw
     case rel=>exact ⟨k+1,_,by omega,by go_num,rfl,by omega,by omega,z,c⟩
     case measure=>simp [intOf];omega
   ·go_wp2
    go_ret;refine ⟨r,rfl,by omega,by omega,fun _=>⟨by omega,fun x q=>?_⟩,d⟩;obtain ⟨j,L,e⟩:=List.getElem_of_mem q;exact I.out j x (by rw [<- e];simp [L]) (by omega)
 ·go_enter func16,ntmps16
  go_wp2;go_ret;exact ⟨-1,rfl,by omega,by omega,fun h=>by omega,cf _ _⟩
theorem ZhV (F vb:Value)(c:List Gm)(B C:Nat)(w:World)(G:XRow B 5 EG w F c)(H:XRow C 5 EG w vb c) :
  Calls prog 33 #[F,vb] w fun e z=>e=.returned (.bool true)/\Below w.heap.size w z:=by
 obtain ⟨O,I,rfl,l,R,a⟩:=G;obtain ⟨P,J,rfl,m,_,b⟩:=H;have S:((c.length:Int) != (c.length:Int))=false:=by simp
 go_enter func33,ntmps33
 go_wp2
 go_loopw [5] (fun i wr=>∃ k:Nat,k <= c.length/\i=.int .i64 k/\Below w.heap.size w wr) (fun i _=>c.length - (intOf i).toNat)
 case atStart=>exact ⟨0,by omega,rfl,cf _ _⟩
 case round =>
  obtain ⟨k,Q,rfl,g⟩:=hrel
  by_cases j:k < c.length
  ·obtain ⟨K,M,rfl,_,n,a⟩:=a (by intro e;subst e;simp at j)
   obtain ⟨L,N,rfl,_,p,b⟩:=b (by intro e;subst e;simp at j);obtain ⟨x,y⟩:∃ x,c[k]? = some x:=⟨c[k],by simp [j]⟩;obtain ⟨cs,u,r,d⟩:=a k x y;obtain ⟨D,v,s,f⟩:=b k x y;replace r:=Zab r g n;replace s:=Zab s g p;replace d:=stbG.1 _ _ _ _ _ d (Kp.of_below g);replace f:=stbG.1 _ _ _ _ _ f (Kp.of_below g)
   have A:∀ W,Below wr.heap.size wr W -> Calls prog 78 #[.agg cs.toArray,.agg D.toArray] W fun e z=>e=.returned (.bool true)/\Below W.heap.size W z:=by
    intro W E;obtain ⟨l,_⟩:=d;obtain ⟨m,_⟩:=f;rw [l,m];exact (ZgM x W)
   have o:=cm n g.size;have q:=cm p g.size;clear a b y d f;go_wp2_with fail;refine ZkQ K M L N c.length I J k cs D wr _ j u v o q r s A ?_;intro u17 u18 u19 u20 u21 u22 u23 u24 u25 W E;have t:Below w.heap.size w W:=g.trans (E.mono g.size);clear A r s;go_wp2
   go_roundw
   case rel=>exact ⟨k+1,by omega,by go_num,t⟩
   case measure=>simp [intOf];omega
  ·go_wp2
   go_ret;exact ⟨rfl,g⟩
theorem ZlP:(prog.info? 126).map (fun i=>(i.zero,i.size,i.bytes))=some (some (.agg #[.int .i64 0,.int .i64 0,.string ByteArray.empty]),3,32):=by kernel_rfl
theorem Zfs (v:Value)(b:List Pd)(B:Nat)(w:World)(R:XRow B 3 EP w v b)(hm:b.length <= 2097152)(hs:∀ x ∈ b,SmP x) :
  Calls prog 25 #[v] w fun e w'=>∃ (v':Value) (css:List (List Value)),e=.returned v'/\w'.ownsRow w.heap.size 126 3 v' b.length css.flatten/\css.length=b.length/\(∀ c ∈ css,c.length=3)/\(∀ (i:Nat) c x,css[i]? = some c -> b[i]? = some x -> EP w.heap.size w' c x)/\Below w.heap.size w w':=by
 obtain ⟨ao,ad,rfl,ac,af,f⟩:=R;obtain ⟨i0,hi,Z,aa,ab⟩:=info_parts ZlP;have l:i0.bytes * b.length <= 281474976710656:=by rw [ab];omega
 have C:b.length <= maxLen:=by unfold maxLen;omega
 go_enter func25,ntmps25
 go_wp2_with (at_make;refine wpList_make_full _ rfl _ _ 49 rfl w.heap.size 126 i0 _ 3 underlying49 hi Z aa _ _ _ _ b.length rfl rfl rfl rfl l C (ce _) ?_)
 intro w1 d n;have a:Below w.heap.size w w1:=(cf _ _).grown n (ce _) (by intro k V;cases V)
 have q:w1.ownsRow w.heap.size 126 3 (.slice (some ⟨w.heap.size,0,none⟩) b.length b.length) b.length (List.replicate b.length (#[.int .i64 0,.int .i64 0,.string ByteArray.empty]:Array Value).toList).flatten:=by
  rw [<- Zcm (z:=#[.int .i64 0,.int .i64 0,.string ByteArray.empty]) (k:=3) rfl (by decide)];exact d
 clear n d;go_wp2
 go_loopw [4] (fun i wr=>∃ (j:Nat) (css:List (List Value)),j <= b.length/\i=.int .i64 j/\Hid (css.length=b.length)/\Hid (∀ c ∈ css,c.length=3)/\Hid (∀ (i:Nat) c x,i < j -> css[i]? = some c -> b[i]? = some x -> EP (w.heap.size+1) wr c x)/\wr.ownsRow w.heap.size 126 3 (.slice (some ⟨w.heap.size,0,none⟩) b.length b.length) b.length css.flatten/\Below w.heap.size w wr) (fun i _=>b.length - (intOf i).toNat)
 case atStart=>exact ⟨0,_,by omega,rfl,by unfold Hid;simp,by intro c m;rw [List.eq_of_mem_replicate m];rfl,fun i c x h=>by omega,q,a⟩
 case round =>
  clear q a l C;obtain ⟨j,css,hj,rfl,H,L,N,d,a⟩:=hrel
  by_cases A:j < b.length
  ·obtain ⟨g,o,rfl,_,hg,f⟩:=f (by intro e;subst e;simp at A)
   obtain ⟨x,G⟩:∃ x,b[j]? = some x:=⟨b[j],by simp [A]⟩;obtain ⟨cs,U,M,T⟩:=f j x G;have HX:Hid (b[j]? = some x):=G;replace M:=Zab M a hg;replace T:=stbP.1 _ _ _ _ _ T (Kp.of_below a);clear f G;obtain ⟨m,W⟩:=T;obtain rfl:cs=(#[.int .i64 x.p,.int .i64 x.t,.string x.s]:Array Value).toList:=congrArg Array.toList m;clear m U;have X:w.heap.size+1 <= wr.heap.size:=(d.lt w.heap.size rfl).2
   go_wp2_with (refine wpList_load_mid rfl 111 _ rfl g (o+j * 3) rfl _ _ M underlying111 rfl (by kernel_rfl) ?_)
   refine (Zfr x _).mono ?_;rintro e w2 ⟨rfl,u⟩;have J:EP wr.heap.size w2 (#[.int .i64 x.p,.int .i64 x.t,.string x.s]:Array Value).toList x:=⟨rfl,W⟩;have r:=Zac d u;have I:=a.trans (u.mono a.size);have K:Kp (w.heap.size+1) wr w2:=Kp.of_below u;clear d u a M
   go_wp2_with (refine Zbb rfl 126 _ _ rfl w.heap.size w.heap.size j b.length 3 b.length css (#[.int .i64 x.p,.int .i64 x.t,.string x.s]:Array Value).toList rfl rfl rfl L.out H.out A (by simp [Value.oneCell']) (by kernel_rfl) r ?_)
   intro w3 F D;have S:Below w.heap.size w w3:=I.grown D I.size (fun k V=>by simp at V;omega);have E:Kp (w.heap.size+1) w2 w3:=Kp.of_grown D (by omega);have Q:Hid ((css.set j (#[.int .i64 x.p,.int .i64 x.t,.string x.s]:Array Value).toList).length=b.length):=by unfold Hid;rw [List.length_set];exact H.out
   have P:Hid (∀ c ∈ css.set j (#[.int .i64 x.p,.int .i64 x.t,.string x.s]:Array Value).toList,c.length=3):=by
    intro c m;rcases List.mem_or_eq_of_mem_set m with h | h
    ·exact L.out c h
    ·rw [h];rfl
   have O:Hid (∀ (i:Nat) c y,i < j+1 -> (css.set j (#[.int .i64 x.p,.int .i64 x.t,.string x.s]:Array Value).toList)[i]? = some c -> b[i]? = some y -> EP (w.heap.size+1) w3 c y):=by
    intro i c y ae m Y
    by_cases e:i=j
    ·subst e
     rw [List.getElem?_set_self (by rw [H.out];exact A)] at m;rw [HX.out] at Y;cases m;cases Y;exact stbP.1 _ _ _ _ _ (stbP.2 _ _ _ _ _ J X) E
    ·rw [List.getElem?_set_ne (fun h=>e h.symm)] at m
     exact stbP.1 _ _ _ _ _ (stbP.1 _ _ _ _ _ (N.out i c y (by omega) m Y) K) E
   clear r D J K E H L N HX;go_wp2
   go_roundw
   case rel=>exact ⟨j+1,_,by omega,by go_num,Q,P,O,F,S⟩
   case measure=>simp [intOf];omega
  ·go_wp2
   go_ret;have:j=b.length:=by omega
   subst this;exact ⟨_,css,rfl,d,H.out,L.out,fun i c x m G=>stbP.2 _ _ _ _ _ (N.out i c x (List.getElem?_eq_some_iff.1 G).1 m G) (by omega),a⟩
theorem Zi0 (v:Value)(a:List Pd)(B:Nat)(w:World)(R:XRow B 3 EP w v a)(d:a.length <= 2097152)(f:∀ x ∈ a,SmP x) :
  Calls prog 25 #[v] w fun e c=>∃ b,e=.returned b/\XRow w.heap.size 3 EP c b a/\Below w.heap.size w c :=
 (Zfs v a B w R d f).mono fun e c ⟨b,css,h1,o,hl,hk,he,hb⟩=>⟨b,h1,XRow.of_own o hl hk (by omega) he,hb⟩
theorem ZiT (v:Value)(b:List Pd)(B:Nat)(l:Int)(w:World)(R:XRow B 3 EP w v b)(Q:0 <= l)(S:l <= 1048576) :
  Calls prog 17 #[v,.int .i64 l] w fun e U=>∃ r:Int,e=.returned (.int .i64 r) /\ -1 <= r/\r <= 1048576/\(0 <= r -> b.length <= 1048576/\∀ x ∈ b,SmP x)/\Below w.heap.size w U:=by
 obtain ⟨W,O,rfl,J,hm,a⟩:=R
 by_cases L:(b.length:Int) <= l
 ·go_enter func17,ntmps17
  go_wp2
  go_loopw [1,5] (fun l i wr=>∃ (k:Nat) (r:Int),k <= b.length/\i=.int .i64 k/\l=.int .i64 r/\0 <= r/\r <= 1048576/\Hid (∀ (j:Nat) x,b[j]? = some x -> j < k -> SmP x)/\Below w.heap.size w wr) (fun _ i _=>b.length - (intOf i).toNat)
  case atStart=>exact ⟨0,_,by omega,rfl,rfl,by omega,by omega,fun j x _ h=>by omega,cf _ _⟩
  case round =>
   obtain ⟨k,r,Z,rfl,rfl,D,E,H,d⟩:=hrel
   by_cases m:k < b.length
   ·obtain ⟨g,o,rfl,_,P,a⟩:=a (by intro e;subst e;simp at m)
    obtain ⟨x,n⟩:∃ x,b[k]? = some x:=⟨b[k],by simp [m]⟩;obtain ⟨cs,C,q,A⟩:=a k x n;have N:Hid (b[k]? = some x):=n;replace q:=Zab q d P;replace A:=stbP.1 _ _ _ _ _ A (Kp.of_below d);clear a n;obtain ⟨I,F⟩:=A;obtain rfl:cs=(#[.int .i64 x.p,.int .i64 x.t,.string x.s]:Array Value).toList:=congrArg Array.toList I;clear I C
    go_wp2_with (refine wpList_load_mid rfl 111 _ rfl g (o+k * 3) rfl _ _ q underlying111 rfl (by kernel_rfl) ?_)
    refine (Zfm x r _ F D E).mono ?_;rintro e w2 ⟨M,rfl,X,Y,z,f⟩;have c:=d.trans (f.mono d.size);clear q f
    by_cases T:M < 0
    ·have V:Hid (M = -1):=by unfold Hid;omega
     go_wp2;go_ret;exact ⟨-1,rfl,by omega,by omega,fun h=>by omega,c⟩
    ·have z:=z (by omega)
     have u:Hid (∀ (j:Nat) x,b[j]? = some x -> j < k+1 -> SmP x):=by
      intro j y G K
      by_cases e:j=k
      ·subst e
       rw [N.out] at G;cases G;exact z
      ·exact H.out j y G (by omega)
     go_wp2
     go_roundw
     case rel=>exact ⟨k+1,_,by omega,by go_num,rfl,by omega,by omega,u,c⟩
     case measure=>simp [intOf];omega
   ·go_wp2
    go_ret;refine ⟨r,rfl,by omega,by omega,fun _=>⟨by omega,fun x n=>?_⟩,d⟩;obtain ⟨j,K,e⟩:=List.getElem_of_mem n;exact H.out j x (by rw [<- e];simp [K]) (by omega)
 ·go_enter func17,ntmps17
  go_wp2;go_ret;exact ⟨-1,rfl,by omega,by omega,fun h=>by omega,cf _ _⟩
theorem Zh0 (F vb:Value)(c:List Pd)(B C:Nat)(w:World)(G:XRow B 3 EP w F c)(H:XRow C 3 EP w vb c) :
  Calls prog 34 #[F,vb] w fun e z=>e=.returned (.bool true)/\Below w.heap.size w z:=by
 obtain ⟨O,I,rfl,l,R,a⟩:=G;obtain ⟨P,J,rfl,m,_,b⟩:=H;have S:((c.length:Int) != (c.length:Int))=false:=by simp
 go_enter func34,ntmps34
 go_wp2
 go_loopw [5] (fun i wr=>∃ k:Nat,k <= c.length/\i=.int .i64 k/\Below w.heap.size w wr) (fun i _=>c.length - (intOf i).toNat)
 case atStart=>exact ⟨0,by omega,rfl,cf _ _⟩
 case round =>
  obtain ⟨k,Q,rfl,g⟩:=hrel
  by_cases j:k < c.length
  ·obtain ⟨K,M,rfl,_,n,a⟩:=a (by intro e;subst e;simp at j)
   obtain ⟨L,N,rfl,_,p,b⟩:=b (by intro e;subst e;simp at j);obtain ⟨x,y⟩:∃ x,c[k]? = some x:=⟨c[k],by simp [j]⟩;obtain ⟨cs,u,r,d⟩:=a k x y;obtain ⟨D,v,s,f⟩:=b k x y;replace r:=Zab r g n;replace s:=Zab s g p;replace d:=stbP.1 _ _ _ _ _ d (Kp.of_below g);replace f:=stbP.1 _ _ _ _ _ f (Kp.of_below g)
   have A:∀ W,Below wr.heap.size wr W -> Calls prog 79 #[.agg cs.toArray,.agg D.toArray] W fun e z=>e=.returned (.bool true)/\Below W.heap.size W z:=by
    intro W E;obtain ⟨l,_⟩:=d;obtain ⟨m,_⟩:=f;rw [l,m];exact (Zeu x W)
   have o:=cm n g.size;have q:=cm p g.size;clear a b y d f;go_wp2_with fail;refine ZkT K M L N c.length I J k cs D wr _ j u v o q r s A ?_;intro u17 u18 u19 u20 u21 u22 u23 u24 u25 W E;have t:Below w.heap.size w W:=g.trans (E.mono g.size);clear A r s;go_wp2
   go_roundw
   case rel=>exact ⟨k+1,by omega,by go_num,t⟩
   case measure=>simp [intOf];omega
  ·go_wp2
   go_ret;exact ⟨rfl,g⟩
end Go.Proofs.YtanhoamdlhaaeaaGreatDoor
