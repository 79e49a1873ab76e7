/-
  Texts that stood by themselves, laid into one.
-/
import Derived.Test.YtkpfangkfknhoaaGreatDoorWLsRM
/-
  Slices of homes, links, grams, parked ones, and of slices of texts: the contracts of the laws' helpers. No condition.
-/
set_option maxRecDepth 100000
set_option maxHeartbeats 3200000
namespace Go.Proofs.YtkpfangkfknhoaaGreatDoor
open Go.Proofs.Tryz
open Go.RowKit
def EL (B:Nat)(w:World)(cs:List Value)(l:Lk):Prop:=∃ vq vh,cs.toArray=#[.int .i64 l.sent,.int .i64 l.acked,vq,.int .i64 l.got,vh]/\StRow w vq l.q/\PcRow w vh l.h/\Fr B vq/\Fr B vh
theorem stbL:Stb EL:=⟨fun _ _ _ _ _ ⟨vq,vh,h,r1,r2,f1,f2⟩ hk=>⟨vq,vh,h,r1.kp f1 hk,r2.kp f2 hk,f1,f2⟩,fun _ _ _ _ _ ⟨vq,vh,h,r1,r2,f1,f2⟩ hc=>⟨vq,vh,h,r1,r2,f1.mono hc,f2.mono hc⟩⟩
def SmL (l:Lk):Prop:=l.q.length <= 1048576/\l.h.length <= 1048576
theorem PcRow.szp {w:World}{v:Value}{a:List Pc}(R:PcRow w v a):∀ x ∈ a,x.s.size <= maxLen:=by
 obtain ⟨_,_,_,_,_,h,_⟩:=R;exact h
theorem NRow.small8 {w:World}{v:Value}{c:List Nd}(R:NRow w v c):∃ b a,v=.slice b c.length a:=by
 obtain ⟨b,a,h,_⟩:=R;exact ⟨b,a,h⟩
theorem ZnB:(prog.info? 103).map (fun i=>(i.zero,i.size,i.bytes))=some (some (.agg #[.int .i64 0,.int .i64 0,.slice none 0 0,.int .i64 0,.int .i64 0,.int .i64 0,.int .i64 0,.int .i64 0,.int .i64 0,.int .i64 0,.slice none 0 0,.slice none 0 0]),12,144):=by kernel_rfl
theorem Zi9 (v:Value)(b:List Hm)(B:Nat)(w:World)(R:XRow B 12 EH w v b)(hm:b.length <= 2097152)(hs:∀ x ∈ b,SmH x) :
  Calls prog 19 #[v] w fun e w'=>∃ v',e=.returned v'/\XRow w.heap.size 12 EH w' v' b/\Below w.heap.size w w':=by
 obtain ⟨ao,am,rfl,ak,ad,l⟩:=R;obtain ⟨i0,hi,ag,ai,ac⟩:=info_parts ZnB;have n:i0.bytes * b.length <= 281474976710656:=by rw [ac];omega
 have G:b.length <= maxLen:=by unfold maxLen;omega
 go_enter func19,ntmps19
 go_wp2_with (at_make;refine wpList_make_full _ rfl _ _ 45 rfl w.heap.size 103 i0 _ 12 underlying45 hi ag ai _ _ _ _ b.length rfl rfl rfl rfl n G (ce _) ?_)
 intro w1 f D;have a:Below w.heap.size w w1:=(cj _ _).grown D (ce _) (by intro k hk;cases hk)
 have C:w1.ownsRow w.heap.size 103 12 (.slice (some ⟨w.heap.size,0,none⟩) b.length b.length) b.length (List.replicate b.length (#[.int .i64 0,.int .i64 0,.slice none 0 0,.int .i64 0,.int .i64 0,.int .i64 0,.int .i64 0,.int .i64 0,.int .i64 0,.int .i64 0,.slice none 0 0,.slice none 0 0]:Array Value).toList).flatten:=by
  rw [<- ZcS (z:=#[.int .i64 0,.int .i64 0,.slice none 0 0,.int .i64 0,.int .i64 0,.int .i64 0,.int .i64 0,.int .i64 0,.int .i64 0,.int .i64 0,.slice none 0 0,.slice none 0 0]) (k:=12) rfl (by decide)];exact f
 clear D f;go_wp2
 go_loopw [4] (fun i wr=>∃ (j:Nat) (css:List (List Value)),j <= b.length/\i=.int .i64 j/\Hid (css.length=b.length)/\Hid (∀ c ∈ css,c.length=12)/\Hid (∀ (i:Nat) c x,i < j -> css[i]? = some c -> b[i]? = some x -> EH (w.heap.size+1) wr c x)/\wr.ownsRow w.heap.size 103 12 (.slice (some ⟨w.heap.size,0,none⟩) b.length b.length) b.length css.flatten/\Below w.heap.size w wr) (fun i _=>b.length - (intOf i).toNat)
 case atStart=>exact ⟨0,_,by omega,rfl,by unfold Hid;simp,by intro c u;rw [List.eq_of_mem_replicate u];rfl,fun i c x h=>by omega,C,a⟩
 case round =>
  clear C a n G;obtain ⟨j,css,hj,rfl,P,X,HE,f,a⟩:=hrel
  by_cases F:j < b.length
  ·obtain ⟨g,o,rfl,_,hg,l⟩:=l (by intro e;subst e;simp at F)
   obtain ⟨x,K⟩:∃ x,b[j]? = some x:=⟨b[j],by simp [F]⟩;obtain ⟨cs,af,W,Z⟩:=l j x K;have HX:Hid (b[j]? = some x):=K;replace W:=Zaf W a hg;replace Z:=stbH.1 _ _ _ _ _ Z (Kp.of_below a);clear l K;obtain ⟨v1,v2,v3,u,R1,R2,R3,_,_,_⟩:=Z;obtain rfl:cs=(#[.int .i64 x.pl,.int .i64 x.i,v1,.int .i64 x.m.p,.int .i64 x.m.s,.int .i64 x.m.e,.int .i64 x.m.d,.int .i64 x.m.t,.int .i64 x.m.q,.int .i64 x.m.r,v2,v3]:Array Value).toList:=congrArg Array.toList u;clear u af;have ae:w.heap.size+1 <= wr.heap.size:=(f.lt w.heap.size rfl).2
   go_wp2_with (refine wpList_load_mid rfl 84 _ rfl g (o+j * 12) rfl _ _ W underlying84 rfl (by kernel_rfl) ?_)
   refine (Zir x _ _ _ _ R1 R2 R3 (hs x (List.mem_of_getElem? HX.out))).mono ?_;rintro e w2 ⟨u1,u2,u3,rfl,P1,P2,P3,F1,F2,F3,E⟩;obtain ⟨S,U,rfl⟩:=P1.small8;obtain ⟨V,L,rfl⟩:=P2.small;obtain ⟨O,M,rfl⟩:=P3.small;have N:EH wr.heap.size w2 (#[.int .i64 x.pl,.int .i64 x.i,.slice S x.xs.length U,.int .i64 x.m.p,.int .i64 x.m.s,.int .i64 x.m.e,.int .i64 x.m.d,.int .i64 x.m.t,.int .i64 x.m.q,.int .i64 x.m.r,.slice V x.bx.length L,.slice O x.ox.length M]:Array Value).toList x:=⟨_,_,_,rfl,P1,P2,P3,F1,F2,F3⟩;have A:=Zad f E;have T:=a.trans (E.mono a.size);have Q:Kp (w.heap.size+1) wr w2:=Kp.of_below E;clear f E a W
   go_wp2_with (refine Zbm rfl 103 _ _ rfl w.heap.size w.heap.size j b.length 12 b.length css (#[.int .i64 x.pl,.int .i64 x.i,.slice S x.xs.length U,.int .i64 x.m.p,.int .i64 x.m.s,.int .i64 x.m.e,.int .i64 x.m.d,.int .i64 x.m.t,.int .i64 x.m.q,.int .i64 x.m.r,.slice V x.bx.length L,.slice O x.ox.length M]:Array Value).toList rfl rfl rfl X.out P.out F (by simp [Value.oneCell']) (by kernel_rfl) A ?_)
   intro w3 H J;have aa:Below w.heap.size w w3:=T.grown J T.size (fun k hk=>by simp at hk;omega);have I:Kp (w.heap.size+1) w2 w3:=Kp.of_grown J (by omega);have ah:Hid ((css.set j (#[.int .i64 x.pl,.int .i64 x.i,.slice S x.xs.length U,.int .i64 x.m.p,.int .i64 x.m.s,.int .i64 x.m.e,.int .i64 x.m.d,.int .i64 x.m.t,.int .i64 x.m.q,.int .i64 x.m.r,.slice V x.bx.length L,.slice O x.ox.length M]:Array Value).toList).length=b.length):=by unfold Hid;rw [List.length_set];exact P.out
   have aj:Hid (∀ c ∈ css.set j (#[.int .i64 x.pl,.int .i64 x.i,.slice S x.xs.length U,.int .i64 x.m.p,.int .i64 x.m.s,.int .i64 x.m.e,.int .i64 x.m.d,.int .i64 x.m.t,.int .i64 x.m.q,.int .i64 x.m.r,.slice V x.bx.length L,.slice O x.ox.length M]:Array Value).toList,c.length=12):=by
    intro c u;rcases List.mem_or_eq_of_mem_set u with h | h
    ·exact X.out c h
    ·rw [h];rfl
   have ab:Hid (∀ (i:Nat) c y,i < j+1 -> (css.set j (#[.int .i64 x.pl,.int .i64 x.i,.slice S x.xs.length U,.int .i64 x.m.p,.int .i64 x.m.s,.int .i64 x.m.e,.int .i64 x.m.d,.int .i64 x.m.t,.int .i64 x.m.q,.int .i64 x.m.r,.slice V x.bx.length L,.slice O x.ox.length M]:Array Value).toList)[i]? = some c -> b[i]? = some y -> EH (w.heap.size+1) w3 c y):=by
    intro i c y al u Y
    by_cases e:i=j
    ·subst e
     rw [List.getElem?_set_self (by rw [P.out];exact F)] at u;rw [HX.out] at Y;cases u;cases Y;exact stbH.1 _ _ _ _ _ (stbH.2 _ _ _ _ _ N ae) I
    ·rw [List.getElem?_set_ne (fun h=>e h.symm)] at u
     exact stbH.1 _ _ _ _ _ (stbH.1 _ _ _ _ _ (HE.out i c y (by omega) u Y) Q) I
   clear A J N Q I P X HE HX;go_wp2
   go_roundw
   case rel=>exact ⟨j+1,_,by omega,by go_num,ah,aj,ab,H,aa⟩
   case measure=>simp [intOf];omega
  ·go_wp2
   go_ret;have:j=b.length:=by omega
   subst this;exact ⟨_,rfl,XRow.of_own f P.out X.out ad (fun i c x u K=>stbH.2 _ _ _ _ _ (HE.out i c x (List.getElem?_eq_some_iff.1 K).1 u K) (by omega)),a⟩
theorem Zjq (v:Value)(b:List Hm)(B:Nat)(l:Int)(w:World)(R:XRow B 12 EH w v b)(T:0 <= l)(U:l <= 1048576) :
  Calls prog 10 #[v,.int .i64 l] w fun e V=>∃ r:Int,e=.returned (.int .i64 r) /\ -1 <= r/\r <= 1048576/\(0 <= r -> b.length <= 1048576/\∀ x ∈ b,SmH x)/\Below w.heap.size w V:=by
 obtain ⟨ao,Y,rfl,N,hm,a⟩:=R
 by_cases K:(b.length:Int) <= l
 ·go_enter func10,ntmps10
  go_wp2
  go_loopw [1,5] (fun l i wr=>∃ (k:Nat) (r:Int),k <= b.length/\i=.int .i64 k/\l=.int .i64 r/\0 <= r/\r <= 1048576/\Hid (∀ (j:Nat) x,b[j]? = some x -> j < k -> SmH x)/\Below w.heap.size w wr) (fun _ i _=>b.length - (intOf i).toNat)
  case atStart=>exact ⟨0,_,by omega,rfl,rfl,by omega,by omega,fun j x _ h=>by omega,cj _ _⟩
  case round =>
   obtain ⟨k,r,hk,rfl,rfl,I,F,M,z⟩:=hrel
   by_cases f:k < b.length
   ·obtain ⟨g,o,rfl,_,hg,a⟩:=a (by intro e;subst e;simp at f)
    obtain ⟨x,u⟩:∃ x,b[k]? = some x:=⟨b[k],by simp [f]⟩;obtain ⟨cs,H,A,D⟩:=a k x u;have HX:Hid (b[k]? = some x):=u;replace A:=Zaf A z hg;replace D:=stbH.1 _ _ _ _ _ D (Kp.of_below z);clear a u;obtain ⟨P,Q,Z,O,S,R2,X,_,_,_⟩:=D;obtain rfl:cs=(#[.int .i64 x.pl,.int .i64 x.i,P,.int .i64 x.m.p,.int .i64 x.m.s,.int .i64 x.m.e,.int .i64 x.m.d,.int .i64 x.m.t,.int .i64 x.m.q,.int .i64 x.m.r,Q,Z]:Array Value).toList:=congrArg Array.toList O;clear O H
    go_wp2_with (refine wpList_load_mid rfl 84 _ rfl g (o+k * 12) rfl _ _ A underlying84 rfl (by kernel_rfl) ?_)
    refine (ZiG x _ _ _ r _ S R2 X I F).mono ?_;rintro e w2 ⟨L,rfl,h0,h1,E,c⟩;have n:=z.trans (c.mono z.size);clear A c
    by_cases W:L < 0
    ·have HR:Hid (L = -1):=by unfold Hid;omega
     go_wp2;go_ret;exact ⟨-1,rfl,by omega,by omega,fun h=>by omega,n⟩
    ·have E:=E (by omega)
     have G:Hid (∀ (j:Nat) x,b[j]? = some x -> j < k+1 -> SmH x):=by
      intro j y C J
      by_cases e:j=k
      ·subst e
       rw [HX.out] at C;cases C;exact E
      ·exact M.out j y C (by omega)
     go_wp2
     go_roundw
     case rel=>exact ⟨k+1,_,by omega,by go_num,rfl,by omega,by omega,G,n⟩
     case measure=>simp [intOf];omega
   ·go_wp2
    go_ret;refine ⟨r,rfl,by omega,by omega,fun _=>⟨by omega,fun x u=>?_⟩,z⟩;obtain ⟨j,J,e⟩:=List.getElem_of_mem u;exact M.out j x (by rw [<- e];simp [J]) (by omega)
 ·go_enter func10,ntmps10
  go_wp2;go_ret;exact ⟨-1,rfl,by omega,by omega,fun h=>by omega,cj _ _⟩
theorem Zjz (A vb:Value)(c:List Hm)(B C:Nat)(w:World)(Q:XRow B 12 EH w A c)(P:XRow C 12 EH w vb c) :
  Calls prog 29 #[A,vb] w fun e y=>e=.returned (.bool true)/\Below w.heap.size w y:=by
 obtain ⟨aa,J,rfl,o,V,a⟩:=Q;obtain ⟨X,N,rfl,m,_,b⟩:=P;have hn:((c.length:Int) != (c.length:Int))=false:=by simp
 go_enter func29,ntmps29
 go_wp2
 go_loopw [5] (fun i wr=>∃ k:Nat,k <= c.length/\i=.int .i64 k/\Below w.heap.size w wr) (fun i _=>c.length - (intOf i).toNat)
 case atStart=>exact ⟨0,by omega,rfl,cj _ _⟩
 case round =>
  obtain ⟨k,S,rfl,g⟩:=hrel
  by_cases d:k < c.length
  ·obtain ⟨M,F,rfl,_,l,a⟩:=a (by intro e;subst e;simp at d)
   obtain ⟨G,R,rfl,_,q,b⟩:=b (by intro e;subst e;simp at d);obtain ⟨x,z⟩:∃ x,c[k]? = some x:=⟨c[k],by simp [d]⟩;obtain ⟨cs,u,r,h⟩:=a k x z;obtain ⟨ds,t,s,f⟩:=b k x z;replace r:=Zaf r g l;replace s:=Zaf s g q;replace h:=stbH.1 _ _ _ _ _ h (Kp.of_below g);replace f:=stbH.1 _ _ _ _ _ f (Kp.of_below g)
   have D:∀ W,Below wr.heap.size wr W -> Calls prog 64 #[.agg cs.toArray,.agg ds.toArray] W fun e y=>e=.returned (.bool true)/\Below W.heap.size W y:=by
    intro W j;obtain ⟨U,a2,a3,o,H,O,L,_,_,_⟩:=h;obtain ⟨T,Y,Z,m,K,I,E,_,_,_⟩:=f;rw [o,m];exact Zh6 x _ _ _ _ _ _ W (H.below j) (O.below j) (L.below j) (K.below j) (I.below j) (E.below j)
   have n:=cy l g.size;have p:=cy q g.size;clear a b z h f;go_wp2_with fail;refine ZmM M F G R c.length J N k cs ds wr _ d u t n p r s D ?_;intro u17 u18 u19 u20 u21 u22 u23 u24 u25 W j;have v:Below w.heap.size w W:=g.trans (j.mono g.size);clear D r s;go_wp2
   go_roundw
   case rel=>exact ⟨k+1,by omega,by go_num,v⟩
   case measure=>simp [intOf];omega
  ·go_wp2
   go_ret;exact ⟨rfl,g⟩
theorem ZnH:(prog.info? 107).map (fun i=>(i.zero,i.size,i.bytes))=some (some (.agg #[.int .i64 0,.int .i64 0,.slice none 0 0,.int .i64 0,.slice none 0 0]),5,72):=by kernel_rfl
theorem Zj5 (v:Value)(b:List Lk)(B:Nat)(w:World)(R:XRow B 5 EL w v b)(hm:b.length <= 2097152)(Q:∀ x ∈ b,SmL x) :
  Calls prog 20 #[v] w fun e w'=>∃ v',e=.returned v'/\XRow w.heap.size 5 EL w' v' b/\Below w.heap.size w w':=by
 obtain ⟨ao,ak,rfl,ai,ab,f⟩:=R;obtain ⟨i0,hi,ae,ag,aa⟩:=info_parts ZnH;have l:i0.bytes * b.length <= 281474976710656:=by rw [aa];omega
 have u:b.length <= maxLen:=by unfold maxLen;omega
 go_enter func20,ntmps20
 go_wp2_with (at_make;refine wpList_make_full _ rfl _ _ 46 rfl w.heap.size 107 i0 _ 5 underlying46 hi ae ag _ _ _ _ b.length rfl rfl rfl rfl l u (ce _) ?_)
 intro w1 d r;have a:Below w.heap.size w w1:=(cj _ _).grown r (ce _) (by intro k U;cases U)
 have p:w1.ownsRow w.heap.size 107 5 (.slice (some ⟨w.heap.size,0,none⟩) b.length b.length) b.length (List.replicate b.length (#[.int .i64 0,.int .i64 0,.slice none 0 0,.int .i64 0,.slice none 0 0]:Array Value).toList).flatten:=by
  rw [<- ZcS (z:=#[.int .i64 0,.int .i64 0,.slice none 0 0,.int .i64 0,.slice none 0 0]) (k:=5) rfl (by decide)];exact d
 clear r d;go_wp2
 go_loopw [4] (fun i wr=>∃ (j:Nat) (css:List (List Value)),j <= b.length/\i=.int .i64 j/\Hid (css.length=b.length)/\Hid (∀ c ∈ css,c.length=5)/\Hid (∀ (i:Nat) c x,i < j -> css[i]? = some c -> b[i]? = some x -> EL (w.heap.size+1) wr c x)/\wr.ownsRow w.heap.size 107 5 (.slice (some ⟨w.heap.size,0,none⟩) b.length b.length) b.length css.flatten/\Below w.heap.size w wr) (fun i _=>b.length - (intOf i).toNat)
 case atStart=>exact ⟨0,_,by omega,rfl,by unfold Hid;simp,by intro c m;rw [List.eq_of_mem_replicate m];rfl,fun i c x h=>by omega,p,a⟩
 case round =>
  clear p a l u;obtain ⟨j,css,hj,rfl,I,P,X,d,a⟩:=hrel
  by_cases t:j < b.length
  ·obtain ⟨g,o,rfl,_,hg,f⟩:=f (by intro e;subst e;simp at t)
   obtain ⟨x,F⟩:∃ x,b[j]? = some x:=⟨b[j],by simp [t]⟩;obtain ⟨cs,ad,O,T⟩:=f j x F;have E:Hid (b[j]? = some x):=F;replace O:=Zaf O a hg;replace T:=stbL.1 _ _ _ _ _ T (Kp.of_below a);clear f F;obtain ⟨v1,v2,m,R1,R2,_,_⟩:=T;obtain rfl:cs=(#[.int .i64 x.sent,.int .i64 x.acked,v1,.int .i64 x.got,v2]:Array Value).toList:=congrArg Array.toList m;clear m ad;have ac:w.heap.size+1 <= wr.heap.size:=(d.lt w.heap.size rfl).2
   go_wp2_with (refine wpList_load_mid rfl 88 _ rfl g (o+j * 5) rfl _ _ O underlying88 rfl (by kernel_rfl) ?_)
   refine (Zh2 _ _ x _ R1 R2 (by have:=(Q x (List.mem_of_getElem? E.out)).1;omega) (by have:=(Q x (List.mem_of_getElem? E.out)).2;omega)).mono ?_;rintro e Z ⟨u1,u2,rfl,Y,O2,s⟩;have F1:=Fr.of_own Y;have F2:=Fr.of_own O2;have P1:=StRow.of_own Y (by have:=(Q x (List.mem_of_getElem? E.out)).1;omega) R1.szs;have P2:=PcRow.of_own O2 (by have:=(Q x (List.mem_of_getElem? E.out)).2;omega) R2.szp;obtain ⟨K,M,rfl⟩:=P1.small;obtain ⟨N,G,rfl⟩:=P2.small;clear Y O2;have H:EL wr.heap.size Z (#[.int .i64 x.sent,.int .i64 x.acked,.slice K x.q.length M,.int .i64 x.got,.slice N x.h.length G]:Array Value).toList x:=⟨_,_,rfl,P1,P2,F1,F2⟩;have n:=Zad d s;have L:=a.trans (s.mono a.size);have J:Kp (w.heap.size+1) wr Z:=Kp.of_below s;clear d s a O
   go_wp2_with (refine Zbm rfl 107 _ _ rfl w.heap.size w.heap.size j b.length 5 b.length css (#[.int .i64 x.sent,.int .i64 x.acked,.slice K x.q.length M,.int .i64 x.got,.slice N x.h.length G]:Array Value).toList rfl rfl rfl P.out I.out t (by simp [Value.oneCell']) (by kernel_rfl) n ?_)
   intro w3 A D;have V:Below w.heap.size w w3:=L.grown D L.size (fun k U=>by simp at U;omega);have C:Kp (w.heap.size+1) Z w3:=Kp.of_grown D (by omega);have af:Hid ((css.set j (#[.int .i64 x.sent,.int .i64 x.acked,.slice K x.q.length M,.int .i64 x.got,.slice N x.h.length G]:Array Value).toList).length=b.length):=by unfold Hid;rw [List.length_set];exact I.out
   have ah:Hid (∀ c ∈ css.set j (#[.int .i64 x.sent,.int .i64 x.acked,.slice K x.q.length M,.int .i64 x.got,.slice N x.h.length G]:Array Value).toList,c.length=5):=by
    intro c m;rcases List.mem_or_eq_of_mem_set m with h | h
    ·exact P.out c h
    ·rw [h];rfl
   have W:Hid (∀ (i:Nat) c y,i < j+1 -> (css.set j (#[.int .i64 x.sent,.int .i64 x.acked,.slice K x.q.length M,.int .i64 x.got,.slice N x.h.length G]:Array Value).toList)[i]? = some c -> b[i]? = some y -> EL (w.heap.size+1) w3 c y):=by
    intro i c y aj m S
    by_cases e:i=j
    ·subst e
     rw [List.getElem?_set_self (by rw [I.out];exact t)] at m;rw [E.out] at S;cases m;cases S;exact stbL.1 _ _ _ _ _ (stbL.2 _ _ _ _ _ H ac) C
    ·rw [List.getElem?_set_ne (fun h=>e h.symm)] at m
     exact stbL.1 _ _ _ _ _ (stbL.1 _ _ _ _ _ (X.out i c y (by omega) m S) J) C
   clear n D H J C I P X E;go_wp2
   go_roundw
   case rel=>exact ⟨j+1,_,by omega,by go_num,af,ah,W,A,V⟩
   case measure=>simp [intOf];omega
  ·go_wp2
   go_ret;have:j=b.length:=by omega
   subst this;exact ⟨_,rfl,XRow.of_own d I.out P.out ab (fun i c x m F=>stbL.2 _ _ _ _ _ (X.out i c x (List.getElem?_eq_some_iff.1 F).1 m F) (by omega)),a⟩
theorem Zj1 (v:Value)(b:List Lk)(B:Nat)(l:Int)(w:World)(R:XRow B 5 EL w v b)(M:0 <= l)(N:l <= 1048576) :
  Calls prog 11 #[v,.int .i64 l] w fun e O=>∃ r:Int,e=.returned (.int .i64 r) /\ -1 <= r/\r <= 1048576/\(0 <= r -> b.length <= 1048576/\∀ x ∈ b,SmL x)/\Below w.heap.size w O:=by
 obtain ⟨ao,Q,rfl,H,X,a⟩:=R
 by_cases E:(b.length:Int) <= l
 ·go_enter func11,ntmps11
  go_wp2
  go_loopw [1,5] (fun l i wr=>∃ (k:Nat) (r:Int),k <= b.length/\i=.int .i64 k/\l=.int .i64 r/\0 <= r/\r <= 1048576/\Hid (∀ (j:Nat) x,b[j]? = some x -> j < k -> SmL x)/\Below w.heap.size w wr) (fun _ i _=>b.length - (intOf i).toNat)
  case atStart=>exact ⟨0,_,by omega,rfl,rfl,by omega,by omega,fun j x _ h=>by omega,cj _ _⟩
  case round =>
   obtain ⟨k,r,V,rfl,rfl,C,u,G,n⟩:=hrel
   by_cases d:k < b.length
   ·obtain ⟨g,o,rfl,_,T,a⟩:=a (by intro e;subst e;simp at d)
    obtain ⟨x,m⟩:∃ x,b[k]? = some x:=⟨b[k],by simp [d]⟩;obtain ⟨cs,A,p,s⟩:=a k x m;have U:Hid (b[k]? = some x):=m;replace p:=Zaf p n T;replace s:=stbL.1 _ _ _ _ _ s (Kp.of_below n);clear a m;obtain ⟨J,K,I,L,S,_,_⟩:=s;obtain rfl:cs=(#[.int .i64 x.sent,.int .i64 x.acked,J,.int .i64 x.got,K]:Array Value).toList:=congrArg Array.toList I;clear I A
    go_wp2_with (refine wpList_load_mid rfl 88 _ rfl g (o+k * 5) rfl _ _ p underlying88 rfl (by kernel_rfl) ?_)
    refine (ZiX r C u _ _ x _ L S).mono ?_;rintro e Z ⟨F,rfl,W,h1,t,c⟩;have f:=n.trans (c.mono n.size);clear p c
    by_cases P:F < 0
    ·have Y:Hid (F = -1):=by unfold Hid;omega
     go_wp2;go_ret;exact ⟨-1,rfl,by omega,by omega,fun h=>by omega,f⟩
    ·have t:=t (by omega)
     have z:Hid (∀ (j:Nat) x,b[j]? = some x -> j < k+1 -> SmL x):=by
      intro j y q D
      by_cases e:j=k
      ·subst e
       rw [U.out] at q;cases q;exact t
      ·exact G.out j y q (by omega)
     go_wp2
     go_roundw
     case rel=>exact ⟨k+1,_,by omega,by go_num,rfl,by omega,by omega,z,f⟩
     case measure=>simp [intOf];omega
   ·go_wp2
    go_ret;refine ⟨r,rfl,by omega,by omega,fun _=>⟨by omega,fun x m=>?_⟩,n⟩;obtain ⟨j,D,e⟩:=List.getElem_of_mem m;exact G.out j x (by rw [<- e];simp [D]) (by omega)
 ·go_enter func11,ntmps11
  go_wp2;go_ret;exact ⟨-1,rfl,by omega,by omega,fun h=>by omega,cj _ _⟩
theorem Zko (A vb:Value)(c:List Lk)(B C:Nat)(w:World)(O:XRow B 5 EL w A c)(N:XRow C 5 EL w vb c) :
  Calls prog 30 #[A,vb] w fun e y=>e=.returned (.bool true)/\Below w.heap.size w y:=by
 obtain ⟨Z,I,rfl,o,T,a⟩:=O;obtain ⟨U,L,rfl,m,_,b⟩:=N;have X:((c.length:Int) != (c.length:Int))=false:=by simp
 go_enter func30,ntmps30
 go_wp2
 go_loopw [5] (fun i wr=>∃ k:Nat,k <= c.length/\i=.int .i64 k/\Below w.heap.size w wr) (fun i _=>c.length - (intOf i).toNat)
 case atStart=>exact ⟨0,by omega,rfl,cj _ _⟩
 case round =>
  obtain ⟨k,Q,rfl,g⟩:=hrel
  by_cases d:k < c.length
  ·obtain ⟨K,E,rfl,_,l,a⟩:=a (by intro e;subst e;simp at d)
   obtain ⟨F,P,rfl,_,q,b⟩:=b (by intro e;subst e;simp at d);obtain ⟨x,z⟩:∃ x,c[k]? = some x:=⟨c[k],by simp [d]⟩;obtain ⟨cs,u,r,h⟩:=a k x z;obtain ⟨ds,t,s,f⟩:=b k x z;replace r:=Zaf r g l;replace s:=Zaf s g q;replace h:=stbL.1 _ _ _ _ _ h (Kp.of_below g);replace f:=stbL.1 _ _ _ _ _ f (Kp.of_below g)
   have D:∀ W,Below wr.heap.size wr W -> Calls prog 65 #[.agg cs.toArray,.agg ds.toArray] W fun e y=>e=.returned (.bool true)/\Below W.heap.size W y:=by
    intro W j;obtain ⟨S,Y,o,G,M,_,_⟩:=h;obtain ⟨R,V,m,J,H,_,_⟩:=f;rw [o,m];exact Zh7 _ _ _ _ x W (G.below j) (M.below j) (J.below j) (H.below j)
   have n:=cy l g.size;have p:=cy q g.size;clear a b z h f;go_wp2_with fail;refine ZmA K E F P c.length I L k cs ds wr _ d u t n p r s D ?_;intro u17 u18 u19 u20 u21 u22 u23 u24 u25 W j;have v:Below w.heap.size w W:=g.trans (j.mono g.size);clear D r s;go_wp2
   go_roundw
   case rel=>exact ⟨k+1,by omega,by go_num,v⟩
   case measure=>simp [intOf];omega
  ·go_wp2
   go_ret;exact ⟨rfl,g⟩
theorem ZnE:(prog.info? 116).map (fun i=>(i.zero,i.size,i.bytes))=some (some (.agg #[.int .i64 0,.int .i64 0,.int .i64 0,.int .i64 0,.string ByteArray.empty]),5,48):=by kernel_rfl
theorem Zkz (v:Value)(b:List Gm)(B:Nat)(w:World)(R:XRow B 5 EG w v b)(hm:b.length <= 2097152)(hs:∀ x ∈ b,SmG x) :
  Calls prog 21 #[v] w fun e w'=>∃ v',e=.returned v'/\XRow w.heap.size 5 EG w' v' b/\Below w.heap.size w w':=by
 obtain ⟨ao,ag,rfl,af,W,l⟩:=R;obtain ⟨i0,hi,ab,ad,X⟩:=info_parts ZnE;have m:i0.bytes * b.length <= 281474976710656:=by rw [X];omega
 have D:b.length <= maxLen:=by unfold maxLen;omega
 go_enter func21,ntmps21
 go_wp2_with (at_make;refine wpList_make_full _ rfl _ _ 47 rfl w.heap.size 116 i0 _ 5 underlying47 hi ab ad _ _ _ _ b.length rfl rfl rfl rfl m D (ce _) ?_)
 intro w1 d u;have a:Below w.heap.size w w1:=(cj _ _).grown u (ce _) (by intro k Q;cases Q)
 have r:w1.ownsRow w.heap.size 116 5 (.slice (some ⟨w.heap.size,0,none⟩) b.length b.length) b.length (List.replicate b.length (#[.int .i64 0,.int .i64 0,.int .i64 0,.int .i64 0,.string ByteArray.empty]:Array Value).toList).flatten:=by
  rw [<- ZcS (z:=#[.int .i64 0,.int .i64 0,.int .i64 0,.int .i64 0,.string ByteArray.empty]) (k:=5) rfl (by decide)];exact d
 clear u d;go_wp2
 go_loopw [4] (fun i wr=>∃ (j:Nat) (css:List (List Value)),j <= b.length/\i=.int .i64 j/\Hid (css.length=b.length)/\Hid (∀ c ∈ css,c.length=5)/\Hid (∀ (i:Nat) c x,i < j -> css[i]? = some c -> b[i]? = some x -> EG (w.heap.size+1) wr c x)/\wr.ownsRow w.heap.size 116 5 (.slice (some ⟨w.heap.size,0,none⟩) b.length b.length) b.length css.flatten/\Below w.heap.size w wr) (fun i _=>b.length - (intOf i).toNat)
 case atStart=>exact ⟨0,_,by omega,rfl,by unfold Hid;simp,by intro c p;rw [List.eq_of_mem_replicate p];rfl,fun i c x h=>by omega,r,a⟩
 case round =>
  clear r a m D;obtain ⟨j,css,hj,rfl,J,N,V,d,a⟩:=hrel
  by_cases C:j < b.length
  ·obtain ⟨g,o,rfl,_,hg,l⟩:=l (by intro e;subst e;simp at C)
   obtain ⟨x,H⟩:∃ x,b[j]? = some x:=⟨b[j],by simp [C]⟩;obtain ⟨cs,aa,M,P⟩:=l j x H;have HX:Hid (b[j]? = some x):=H;replace M:=Zaf M a hg;replace P:=stbG.1 _ _ _ _ _ P (Kp.of_below a);clear l H;obtain ⟨p,S⟩:=P;obtain rfl:cs=(#[.int .i64 x.k,.int .i64 x.f,.int .i64 x.t,.int .i64 x.n,.string x.s]:Array Value).toList:=congrArg Array.toList p;clear p aa;have Z:w.heap.size+1 <= wr.heap.size:=(d.lt w.heap.size rfl).2
   go_wp2_with (refine wpList_load_mid rfl 93 _ rfl g (o+j * 5) rfl _ _ M underlying93 rfl (by kernel_rfl) ?_)
   refine (ZiS x _).mono ?_;rintro e w2 ⟨rfl,A⟩;have I:EG wr.heap.size w2 (#[.int .i64 x.k,.int .i64 x.f,.int .i64 x.t,.int .i64 x.n,.string x.s]:Array Value).toList x:=⟨rfl,S⟩;have q:=Zad d A;have L:=a.trans (A.mono a.size);have K:Kp (w.heap.size+1) wr w2:=Kp.of_below A;clear d A a M
   go_wp2_with (refine Zbm rfl 116 _ _ rfl w.heap.size w.heap.size j b.length 5 b.length css (#[.int .i64 x.k,.int .i64 x.f,.int .i64 x.t,.int .i64 x.n,.string x.s]:Array Value).toList rfl rfl rfl N.out J.out C (by simp [Value.oneCell']) (by kernel_rfl) q ?_)
   intro Y E G;have T:Below w.heap.size w Y:=L.grown G L.size (fun k Q=>by simp at Q;omega);have F:Kp (w.heap.size+1) w2 Y:=Kp.of_grown G (by omega);have ac:Hid ((css.set j (#[.int .i64 x.k,.int .i64 x.f,.int .i64 x.t,.int .i64 x.n,.string x.s]:Array Value).toList).length=b.length):=by unfold Hid;rw [List.length_set];exact J.out
   have ae:Hid (∀ c ∈ css.set j (#[.int .i64 x.k,.int .i64 x.f,.int .i64 x.t,.int .i64 x.n,.string x.s]:Array Value).toList,c.length=5):=by
    intro c p;rcases List.mem_or_eq_of_mem_set p with h | h
    ·exact N.out c h
    ·rw [h];rfl
   have U:Hid (∀ (i:Nat) c y,i < j+1 -> (css.set j (#[.int .i64 x.k,.int .i64 x.f,.int .i64 x.t,.int .i64 x.n,.string x.s]:Array Value).toList)[i]? = some c -> b[i]? = some y -> EG (w.heap.size+1) Y c y):=by
    intro i c y ah p O
    by_cases e:i=j
    ·subst e
     rw [List.getElem?_set_self (by rw [J.out];exact C)] at p;rw [HX.out] at O;cases p;cases O;exact stbG.1 _ _ _ _ _ (stbG.2 _ _ _ _ _ I Z) F
    ·rw [List.getElem?_set_ne (fun h=>e h.symm)] at p
     exact stbG.1 _ _ _ _ _ (stbG.1 _ _ _ _ _ (V.out i c y (by omega) p O) K) F
   clear q G I K F J N V HX;go_wp2
   go_roundw
   case rel=>exact ⟨j+1,_,by omega,by go_num,ac,ae,U,E,T⟩
   case measure=>simp [intOf];omega
  ·go_wp2
   go_ret;have:j=b.length:=by omega
   subst this;exact ⟨_,rfl,XRow.of_own d J.out N.out W (fun i c x p H=>stbG.2 _ _ _ _ _ (V.out i c x (List.getElem?_eq_some_iff.1 H).1 p H) (by omega)),a⟩
theorem Zkv (v:Value)(b:List Gm)(B:Nat)(l:Int)(w:World)(R:XRow B 5 EG w v b)(O:0 <= l)(P:l <= 1048576) :
  Calls prog 12 #[v,.int .i64 l] w fun e Q=>∃ r:Int,e=.returned (.int .i64 r) /\ -1 <= r/\r <= 1048576/\(0 <= r -> b.length <= 1048576/\∀ x ∈ b,SmG x)/\Below w.heap.size w Q:=by
 obtain ⟨ao,T,rfl,M,Y,a⟩:=R
 by_cases J:(b.length:Int) <= l
 ·go_enter func12,ntmps12
  go_wp2
  go_loopw [1,5] (fun l i wr=>∃ (k:Nat) (r:Int),k <= b.length/\i=.int .i64 k/\l=.int .i64 r/\0 <= r/\r <= 1048576/\Hid (∀ (j:Nat) x,b[j]? = some x -> j < k -> SmG x)/\Below w.heap.size w wr) (fun _ i _=>b.length - (intOf i).toNat)
  case atStart=>exact ⟨0,_,by omega,rfl,rfl,by omega,by omega,fun j x _ h=>by omega,cj _ _⟩
  case round =>
   obtain ⟨k,r,W,rfl,rfl,H,E,L,q⟩:=hrel
   by_cases d:k < b.length
   ·obtain ⟨g,o,rfl,_,U,a⟩:=a (by intro e;subst e;simp at d)
    obtain ⟨x,p⟩:∃ x,b[k]? = some x:=⟨b[k],by simp [d]⟩;obtain ⟨cs,G,u,A⟩:=a k x p;have V:Hid (b[k]? = some x):=p;replace u:=Zaf u q U;replace A:=stbG.1 _ _ _ _ _ A (Kp.of_below q);clear a p;obtain ⟨N,D⟩:=A;obtain rfl:cs=(#[.int .i64 x.k,.int .i64 x.f,.int .i64 x.t,.int .i64 x.n,.string x.s]:Array Value).toList:=congrArg Array.toList N;clear N G
    go_wp2_with (refine wpList_load_mid rfl 93 _ rfl g (o+k * 5) rfl _ _ u underlying93 rfl (by kernel_rfl) ?_)
    refine (Zia x r _ D H E).mono ?_;rintro e w2 ⟨K,rfl,X,h1,C,c⟩;have m:=q.trans (c.mono q.size);clear u c
    by_cases S:K < 0
    ·have Z:Hid (K = -1):=by unfold Hid;omega
     go_wp2;go_ret;exact ⟨-1,rfl,by omega,by omega,fun h=>by omega,m⟩
    ·have C:=C (by omega)
     have F:Hid (∀ (j:Nat) x,b[j]? = some x -> j < k+1 -> SmG x):=by
      intro j y z I
      by_cases e:j=k
      ·subst e
       rw [V.out] at z;cases z;exact C
      ·exact L.out j y z (by omega)
     go_wp2
     go_roundw
     case rel=>exact ⟨k+1,_,by omega,by go_num,rfl,by omega,by omega,F,m⟩
     case measure=>simp [intOf];omega
   ·go_wp2
    go_ret;refine ⟨r,rfl,by omega,by omega,fun _=>⟨by omega,fun x p=>?_⟩,q⟩;obtain ⟨j,I,e⟩:=List.getElem_of_mem p;exact L.out j x (by rw [<- e];simp [I]) (by omega)
 ·go_enter func12,ntmps12
  go_wp2;go_ret;exact ⟨-1,rfl,by omega,by omega,fun h=>by omega,cj _ _⟩
theorem ZjO (z vb:Value)(c:List Gm)(B C:Nat)(w:World)(K:XRow B 5 EG w z c)(J:XRow C 5 EG w vb c) :
  Calls prog 31 #[z,vb] w fun e v=>e=.returned (.bool true)/\Below w.heap.size w v:=by
 obtain ⟨Q,G,rfl,n,N,a⟩:=K;obtain ⟨O,I,rfl,l,_,b⟩:=J;have P:((c.length:Int) != (c.length:Int))=false:=by simp
 go_enter func31,ntmps31
 go_wp2
 go_loopw [5] (fun i wr=>∃ k:Nat,k <= c.length/\i=.int .i64 k/\Below w.heap.size w wr) (fun i _=>c.length - (intOf i).toNat)
 case atStart=>exact ⟨0,by omega,rfl,cj _ _⟩
 case round =>
  obtain ⟨k,M,rfl,g⟩:=hrel
  by_cases d:k < c.length
  ·obtain ⟨H,E,rfl,_,j,a⟩:=a (by intro e;subst e;simp at d)
   obtain ⟨F,L,rfl,_,p,b⟩:=b (by intro e;subst e;simp at d);obtain ⟨x,y⟩:∃ x,c[k]? = some x:=⟨c[k],by simp [d]⟩;obtain ⟨cs,t,q,h⟩:=a k x y;obtain ⟨ds,s,r,f⟩:=b k x y;replace q:=Zaf q g j;replace r:=Zaf r g p;replace h:=stbG.1 _ _ _ _ _ h (Kp.of_below g);replace f:=stbG.1 _ _ _ _ _ f (Kp.of_below g)
   have D:∀ W,Below wr.heap.size wr W -> Calls prog 66 #[.agg cs.toArray,.agg ds.toArray] W fun e v=>e=.returned (.bool true)/\Below W.heap.size W v:=by
    intro W A;obtain ⟨n,_⟩:=h;obtain ⟨l,_⟩:=f;rw [n,l];exact (ZiT x W)
   have m:=cy j g.size;have o:=cy p g.size;clear a b y h f;go_wp2_with fail;refine Zmy H E F L c.length G I k cs ds wr _ d t s m o q r D ?_;intro u17 u18 u19 u20 u21 u22 u23 u24 u25 W A;have u:Below w.heap.size w W:=g.trans (A.mono g.size);clear D q r;go_wp2
   go_roundw
   case rel=>exact ⟨k+1,by omega,by go_num,u⟩
   case measure=>simp [intOf];omega
  ·go_wp2
   go_ret;exact ⟨rfl,g⟩
theorem ZnF:(prog.info? 118).map (fun i=>(i.zero,i.size,i.bytes))=some (some (.agg #[.int .i64 0,.int .i64 0,.string ByteArray.empty]),3,32):=by kernel_rfl
theorem Zkb (v:Value)(b:List Pd)(B:Nat)(w:World)(R:XRow B 3 EP w v b)(hm:b.length <= 2097152)(hs:∀ x ∈ b,SmP x) :
  Calls prog 22 #[v] w fun e w'=>∃ v',e=.returned v'/\XRow w.heap.size 3 EP w' v' b/\Below w.heap.size w w':=by
 obtain ⟨ao,af,rfl,ae,V,f⟩:=R;obtain ⟨i0,hi,aa,ac,W⟩:=info_parts ZnF;have l:i0.bytes * b.length <= 281474976710656:=by rw [W];omega
 have C:b.length <= maxLen:=by unfold maxLen;omega
 go_enter func22,ntmps22
 go_wp2_with (at_make;refine wpList_make_full _ rfl _ _ 48 rfl w.heap.size 118 i0 _ 3 underlying48 hi aa ac _ _ _ _ b.length rfl rfl rfl rfl l C (ce _) ?_)
 intro w1 d r;have a:Below w.heap.size w w1:=(cj _ _).grown r (ce _) (by intro k P;cases P)
 have q:w1.ownsRow w.heap.size 118 3 (.slice (some ⟨w.heap.size,0,none⟩) b.length b.length) b.length (List.replicate b.length (#[.int .i64 0,.int .i64 0,.string ByteArray.empty]:Array Value).toList).flatten:=by
  rw [<- ZcS (z:=#[.int .i64 0,.int .i64 0,.string ByteArray.empty]) (k:=3) rfl (by decide)];exact d
 clear r d;go_wp2
 go_loopw [4] (fun i wr=>∃ (j:Nat) (css:List (List Value)),j <= b.length/\i=.int .i64 j/\Hid (css.length=b.length)/\Hid (∀ c ∈ css,c.length=3)/\Hid (∀ (i:Nat) c x,i < j -> css[i]? = some c -> b[i]? = some x -> EP (w.heap.size+1) wr c x)/\wr.ownsRow w.heap.size 118 3 (.slice (some ⟨w.heap.size,0,none⟩) b.length b.length) b.length css.flatten/\Below w.heap.size w wr) (fun i _=>b.length - (intOf i).toNat)
 case atStart=>exact ⟨0,_,by omega,rfl,by unfold Hid;simp,by intro c m;rw [List.eq_of_mem_replicate m];rfl,fun i c x h=>by omega,q,a⟩
 case round =>
  clear q a l C;obtain ⟨j,css,hj,rfl,I,M,U,d,a⟩:=hrel
  by_cases A:j < b.length
  ·obtain ⟨g,o,rfl,_,hg,f⟩:=f (by intro e;subst e;simp at A)
   obtain ⟨x,G⟩:∃ x,b[j]? = some x:=⟨b[j],by simp [A]⟩;obtain ⟨cs,Z,L,O⟩:=f j x G;have HX:Hid (b[j]? = some x):=G;replace L:=Zaf L a hg;replace O:=stbP.1 _ _ _ _ _ O (Kp.of_below a);clear f G;obtain ⟨m,Q⟩:=O;obtain rfl:cs=(#[.int .i64 x.p,.int .i64 x.t,.string x.s]:Array Value).toList:=congrArg Array.toList m;clear m Z;have Y:w.heap.size+1 <= wr.heap.size:=(d.lt w.heap.size rfl).2
   go_wp2_with (refine wpList_load_mid rfl 96 _ rfl g (o+j * 3) rfl _ _ L underlying96 rfl (by kernel_rfl) ?_)
   refine (ZfS x _).mono ?_;rintro e w2 ⟨rfl,u⟩;have H:EP wr.heap.size w2 (#[.int .i64 x.p,.int .i64 x.t,.string x.s]:Array Value).toList x:=⟨rfl,Q⟩;have n:=Zad d u;have K:=a.trans (u.mono a.size);have J:Kp (w.heap.size+1) wr w2:=Kp.of_below u;clear d u a L
   go_wp2_with (refine Zbm rfl 118 _ _ rfl w.heap.size w.heap.size j b.length 3 b.length css (#[.int .i64 x.p,.int .i64 x.t,.string x.s]:Array Value).toList rfl rfl rfl M.out I.out A (by simp [Value.oneCell']) (by kernel_rfl) n ?_)
   intro X D F;have S:Below w.heap.size w X:=K.grown F K.size (fun k P=>by simp at P;omega);have E:Kp (w.heap.size+1) w2 X:=Kp.of_grown F (by omega);have ab:Hid ((css.set j (#[.int .i64 x.p,.int .i64 x.t,.string x.s]:Array Value).toList).length=b.length):=by unfold Hid;rw [List.length_set];exact I.out
   have ad:Hid (∀ c ∈ css.set j (#[.int .i64 x.p,.int .i64 x.t,.string x.s]:Array Value).toList,c.length=3):=by
    intro c m;rcases List.mem_or_eq_of_mem_set m with h | h
    ·exact M.out c h
    ·rw [h];rfl
   have T:Hid (∀ (i:Nat) c y,i < j+1 -> (css.set j (#[.int .i64 x.p,.int .i64 x.t,.string x.s]:Array Value).toList)[i]? = some c -> b[i]? = some y -> EP (w.heap.size+1) X c y):=by
    intro i c y ag m N
    by_cases e:i=j
    ·subst e
     rw [List.getElem?_set_self (by rw [I.out];exact A)] at m;rw [HX.out] at N;cases m;cases N;exact stbP.1 _ _ _ _ _ (stbP.2 _ _ _ _ _ H Y) E
    ·rw [List.getElem?_set_ne (fun h=>e h.symm)] at m
     exact stbP.1 _ _ _ _ _ (stbP.1 _ _ _ _ _ (U.out i c y (by omega) m N) J) E
   clear n F H J E I M U HX;go_wp2
   go_roundw
   case rel=>exact ⟨j+1,_,by omega,by go_num,ab,ad,T,D,S⟩
   case measure=>simp [intOf];omega
  ·go_wp2
   go_ret;have:j=b.length:=by omega
   subst this;exact ⟨_,rfl,XRow.of_own d I.out M.out V (fun i c x m G=>stbP.2 _ _ _ _ _ (U.out i c x (List.getElem?_eq_some_iff.1 G).1 m G) (by omega)),a⟩
theorem Zkd (v:Value)(b:List Pd)(B:Nat)(l:Int)(w:World)(R:XRow B 3 EP w v b)(N:0 <= l)(O:l <= 1048576) :
  Calls prog 13 #[v,.int .i64 l] w fun e P=>∃ r:Int,e=.returned (.int .i64 r) /\ -1 <= r/\r <= 1048576/\(0 <= r -> b.length <= 1048576/\∀ x ∈ b,SmP x)/\Below w.heap.size w P:=by
 obtain ⟨ao,S,rfl,L,X,a⟩:=R
 by_cases I:(b.length:Int) <= l
 ·go_enter func13,ntmps13
  go_wp2
  go_loopw [1,5] (fun l i wr=>∃ (k:Nat) (r:Int),k <= b.length/\i=.int .i64 k/\l=.int .i64 r/\0 <= r/\r <= 1048576/\Hid (∀ (j:Nat) x,b[j]? = some x -> j < k -> SmP x)/\Below w.heap.size w wr) (fun _ i _=>b.length - (intOf i).toNat)
  case atStart=>exact ⟨0,_,by omega,rfl,rfl,by omega,by omega,fun j x _ h=>by omega,cj _ _⟩
  case round =>
   obtain ⟨k,r,V,rfl,rfl,G,D,K,n⟩:=hrel
   by_cases d:k < b.length
   ·obtain ⟨g,o,rfl,_,T,a⟩:=a (by intro e;subst e;simp at d)
    obtain ⟨x,m⟩:∃ x,b[k]? = some x:=⟨b[k],by simp [d]⟩;obtain ⟨cs,F,q,z⟩:=a k x m;have U:Hid (b[k]? = some x):=m;replace q:=Zaf q n T;replace z:=stbP.1 _ _ _ _ _ z (Kp.of_below n);clear a m;obtain ⟨M,C⟩:=z;obtain rfl:cs=(#[.int .i64 x.p,.int .i64 x.t,.string x.s]:Array Value).toList:=congrArg Array.toList M;clear M F
    go_wp2_with (refine wpList_load_mid rfl 96 _ rfl g (o+k * 3) rfl _ _ q underlying96 rfl (by kernel_rfl) ?_)
    refine (ZfW x r _ C G D).mono ?_;rintro e Z ⟨J,rfl,W,h1,A,c⟩;have f:=n.trans (c.mono n.size);clear q c
    by_cases Q:J < 0
    ·have Y:Hid (J = -1):=by unfold Hid;omega
     go_wp2;go_ret;exact ⟨-1,rfl,by omega,by omega,fun h=>by omega,f⟩
    ·have A:=A (by omega)
     have E:Hid (∀ (j:Nat) x,b[j]? = some x -> j < k+1 -> SmP x):=by
      intro j y u H
      by_cases e:j=k
      ·subst e
       rw [U.out] at u;cases u;exact A
      ·exact K.out j y u (by omega)
     go_wp2
     go_roundw
     case rel=>exact ⟨k+1,_,by omega,by go_num,rfl,by omega,by omega,E,f⟩
     case measure=>simp [intOf];omega
   ·go_wp2
    go_ret;refine ⟨r,rfl,by omega,by omega,fun _=>⟨by omega,fun x m=>?_⟩,n⟩;obtain ⟨j,H,e⟩:=List.getElem_of_mem m;exact K.out j x (by rw [<- e];simp [H]) (by omega)
 ·go_enter func13,ntmps13
  go_wp2;go_ret;exact ⟨-1,rfl,by omega,by omega,fun h=>by omega,cj _ _⟩
theorem Zjp (z vb:Value)(c:List Pd)(B C:Nat)(w:World)(K:XRow B 3 EP w z c)(J:XRow C 3 EP w vb c) :
  Calls prog 32 #[z,vb] w fun e v=>e=.returned (.bool true)/\Below w.heap.size w v:=by
 obtain ⟨Q,G,rfl,n,N,a⟩:=K;obtain ⟨O,I,rfl,l,_,b⟩:=J;have P:((c.length:Int) != (c.length:Int))=false:=by simp
 go_enter func32,ntmps32
 go_wp2
 go_loopw [5] (fun i wr=>∃ k:Nat,k <= c.length/\i=.int .i64 k/\Below w.heap.size w wr) (fun i _=>c.length - (intOf i).toNat)
 case atStart=>exact ⟨0,by omega,rfl,cj _ _⟩
 case round =>
  obtain ⟨k,M,rfl,g⟩:=hrel
  by_cases d:k < c.length
  ·obtain ⟨H,E,rfl,_,j,a⟩:=a (by intro e;subst e;simp at d)
   obtain ⟨F,L,rfl,_,p,b⟩:=b (by intro e;subst e;simp at d);obtain ⟨x,y⟩:∃ x,c[k]? = some x:=⟨c[k],by simp [d]⟩;obtain ⟨cs,t,q,h⟩:=a k x y;obtain ⟨ds,s,r,f⟩:=b k x y;replace q:=Zaf q g j;replace r:=Zaf r g p;replace h:=stbP.1 _ _ _ _ _ h (Kp.of_below g);replace f:=stbP.1 _ _ _ _ _ f (Kp.of_below g)
   have D:∀ W,Below wr.heap.size wr W -> Calls prog 67 #[.agg cs.toArray,.agg ds.toArray] W fun e v=>e=.returned (.bool true)/\Below W.heap.size W v:=by
    intro W A;obtain ⟨n,_⟩:=h;obtain ⟨l,_⟩:=f;rw [n,l];exact (Zf6 x W)
   have m:=cy j g.size;have o:=cy p g.size;clear a b y h f;go_wp2_with fail;refine ZmC H E F L c.length G I k cs ds wr _ d t s m o q r D ?_;intro u17 u18 u19 u20 u21 u22 u23 u24 u25 W A;have u:Below w.heap.size w W:=g.trans (A.mono g.size);clear D q r;go_wp2
   go_roundw
   case rel=>exact ⟨k+1,by omega,by go_num,u⟩
   case measure=>simp [intOf];omega
  ·go_wp2
   go_ret;exact ⟨rfl,g⟩
def ES (B:Nat)(w:World)(cs:List Value)(ts:List ByteArray):Prop:=∃ v,cs=[v]/\StRow w v ts/\Fr B v
theorem stbS:Stb ES:=⟨fun _ _ _ _ _ ⟨v,h,r,f⟩ hk=>⟨v,h,r.kp f hk,f⟩,fun _ _ _ _ _ ⟨v,h,r,f⟩ hc=>⟨v,h,r,f.mono hc⟩⟩
def SmS (ts:List ByteArray):Prop:=ts.length <= 1048576/\∀ x ∈ ts,x.size <= 1048576
theorem ZnC:(prog.info? 80).map (fun i=>(i.zero,i.size,i.bytes))=some (some (.slice none 0 0),1,24):=by kernel_rfl
theorem ZaT {w:World}{g o:Nat}{v:Value}(h:w.rangeAt g o [v]):w.cell? ⟨g,o,none⟩=some v:=h 0 v rfl
theorem Zkk (us:List Value):(us.map fun u=>[u]).flatten=us:=by
 induction us with
 | nil=>rfl
 | cons u us ih=>simp [ih]
theorem ZfD (v:Value)(f:List (List ByteArray))(B:Nat)(w:World)(R:XRow B 1 ES w v f)(hm:f.length <= 2097152)(hs:∀ x ∈ f,SmS x) :
  Calls prog 23 #[v] w fun e w'=>∃ v',e=.returned v'/\XRow w.heap.size 1 ES w' v' f/\Below w.heap.size w w':=by
 obtain ⟨ao,af,rfl,ad,V,m⟩:=R;obtain ⟨i0,hi,Y,ac,U⟩:=info_parts ZnC;have n:i0.bytes * f.length <= 281474976710656:=by rw [U];omega
 have A:f.length <= maxLen:=by unfold maxLen;omega
 go_enter func23,ntmps23
 go_wp2_with (at_make;refine wpList_make_full _ rfl _ _ 33 rfl w.heap.size 80 i0 _ 1 underlying33 hi Y ac _ _ _ _ f.length rfl rfl rfl rfl n A (ce _) ?_)
 intro w1 d r;have b:Below w.heap.size w w1:=(cj _ _).grown r (ce _) (by intro k hk;cases hk);clear r;go_wp2
 go_loopw [4] (fun i wr=>∃ (j:Nat) (us:List Value),j <= f.length/\i=.int .i64 j/\Hid (us.length=f.length)/\Hid (∀ (i:Nat) c x,i < j -> us[i]? = some c -> f[i]? = some x -> StRow wr c x/\Fr (w.heap.size+1) c)/\wr.ownsRow w.heap.size 80 1 (.slice (some ⟨w.heap.size,0,none⟩) f.length f.length) f.length us/\Below w.heap.size w wr) (fun i _=>f.length - (intOf i).toNat)
 case atStart=>exact ⟨0,_,by omega,rfl,by unfold Hid;simp [madeCells],fun i c x h=>by omega,d,b⟩
 case round =>
  clear d b n A;obtain ⟨j,us,hj,rfl,H,T,d,b⟩:=hrel
  by_cases t:j < f.length
  ·obtain ⟨g,o,rfl,_,hg,m⟩:=m (by intro e;subst e;simp at t)
   obtain ⟨x,D⟩:∃ x,f[j]? = some x:=⟨f[j],by simp [t]⟩;obtain ⟨cs,X,M,hE⟩:=m j x D;have HX:Hid (f[j]? = some x):=D;replace M:=Zaf M b hg;obtain ⟨u,rfl,W,_⟩:=stbS.1 _ _ _ _ _ hE (Kp.of_below b);have c0:=ZaT M;rw [Nat.mul_one] at c0;have I:=hs x (List.mem_of_getElem? D);obtain ⟨p0,q0,rfl⟩:=W.small;have L:w.heap.size+1 <= wr.heap.size:=(d.lt w.heap.size rfl).2;clear m D X M hE;go_wp2_with fail;refine (ZcA _ x _ W (by have:=I.1;omega)).mono ?_;rintro e K ⟨u2,rfl,N,s⟩;have S:=Fr.of_own N;have P2:=StRow.of_own N (by have:=I.1;omega) W.szs;obtain ⟨F,E,rfl⟩:=Zag N;have l:=Zad d s;have aa:=b.trans (s.mono b.size);have J:Kp (w.heap.size+1) wr K:=Kp.of_below s;have d0:=l.cellAt j (by omega);obtain ⟨y,hy⟩:∃ y,us[j]? = some y:=⟨_,List.getElem?_eq_getElem (by rw [H.out];exact t)⟩;rw [hy] at d0;have f0:=l.frozenAt j
   obtain ⟨S0,g0⟩:=l.stored j (.slice F x.length E);have O:Below w.heap.size w (K.setCell ⟨w.heap.size,j,none⟩ (.slice F x.length E)):=aa.setCell (p:=⟨w.heap.size,j,none⟩) (by simp) _;have C:Kp (w.heap.size+1) K (K.setCell ⟨w.heap.size,j,none⟩ (.slice F x.length E)):=Kp.of_set (by omega);have ab:Hid ((us.set j (.slice F x.length E)).length=f.length):=by unfold Hid;rw [List.length_set];exact H.out
   have Q:Hid (∀ (i:Nat) c y,i < j+1 -> (us.set j (.slice F x.length E))[i]? = some c -> f[i]? = some y -> StRow (K.setCell ⟨w.heap.size,j,none⟩ (.slice F x.length E)) c y/\Fr (w.heap.size+1) c):=by
    intro i c z ae q P
    by_cases e:i=j
    ·subst e
     rw [List.getElem?_set_self (by rw [H.out];exact t)] at q;rw [HX.out] at P;cases q;cases P;exact ⟨P2.kp (S.mono L) C,S.mono L⟩
    ·rw [List.getElem?_set_ne (fun h=>e h.symm)] at q
     obtain ⟨Z,G⟩:=T.out i c z (by omega) q P;exact ⟨(Z.kp G J).kp G C,G⟩
   clear d l s b g0 hy T H HX P2 S N J C c0;go_wp2
   go_roundw
   case rel=>exact ⟨j+1,_,by omega,by go_num,ab,Q,S0,O⟩
   case measure=>simp [intOf];omega
  ·go_wp2
   go_ret;have:j=f.length:=by omega
   subst this;rw [<- Zkk us] at d;refine ⟨_,rfl,XRow.of_own d (by rw [List.length_map];exact H.out) (by intro c q;simp at q;obtain ⟨a,_,rfl⟩:=q;rfl) V (fun i c x q D=>?_),b⟩;rw [List.getElem?_map] at q;cases hu:us[i]? with
   | none=>rw [hu] at q;cases q
   | some u =>
    rw [hu] at q;cases q;obtain ⟨Z,G⟩:=T.out i u x (List.getElem?_eq_some_iff.1 D).1 hu D;exact ⟨u,rfl,Z,G.mono (by omega)⟩
theorem Zgd (v:Value)(b:List (List ByteArray))(B:Nat)(l:Int)(w:World)(R:XRow B 1 ES w v b)(K:0 <= l)(L:l <= 1048576) :
  Calls prog 14 #[v,.int .i64 l] w fun e M=>∃ r:Int,e=.returned (.int .i64 r) /\ -1 <= r/\r <= 1048576/\(0 <= r -> b.length <= 1048576/\∀ x ∈ b,SmS x)/\Below w.heap.size w M:=by
 obtain ⟨ao,O,rfl,I,U,a⟩:=R
 by_cases F:(b.length:Int) <= l
 ·go_enter func14,ntmps14
  go_wp2
  go_loopw [1,5] (fun l i wr=>∃ (k:Nat) (r:Int),k <= b.length/\i=.int .i64 k/\l=.int .i64 r/\0 <= r/\r <= 1048576/\Hid (∀ (j:Nat) x,b[j]? = some x -> j < k -> SmS x)/\Below w.heap.size w wr) (fun _ i _=>b.length - (intOf i).toNat)
  case atStart=>exact ⟨0,_,by omega,rfl,rfl,by omega,by omega,fun j x _ h=>by omega,cj _ _⟩
  case round =>
   obtain ⟨k,r,S,rfl,rfl,C,t,H,n⟩:=hrel
   by_cases d:k < b.length
   ·obtain ⟨g,o,rfl,_,P,a⟩:=a (by intro e;subst e;simp at d)
    obtain ⟨x,m⟩:∃ x,b[k]? = some x:=⟨b[k],by simp [d]⟩;obtain ⟨cs,A,p,D⟩:=a k x m;have Q:Hid (b[k]? = some x):=m;replace p:=Zaf p n P;obtain ⟨u,rfl,J,_⟩:=stbS.1 _ _ _ _ _ D (Kp.of_below n);have c0:=ZaT p;rw [Nat.mul_one] at c0;obtain ⟨V,Z,rfl⟩:=J.small;clear a m A p D;go_wp2_with fail;refine (Zcr _ x r _ J C t).mono ?_;rintro e X ⟨G,rfl,T,Y,s,c⟩;have f:=n.trans (c.mono n.size);clear c c0
    by_cases N:G < 0
    ·have W:Hid (G = -1):=by unfold Hid;omega
     go_wp2;go_ret;exact ⟨-1,rfl,by omega,by omega,fun h=>by omega,f⟩
    ·have s:SmS x:=s (by omega)
     have z:Hid (∀ (j:Nat) x,b[j]? = some x -> j < k+1 -> SmS x):=by
      intro j y q E
      by_cases e:j=k
      ·subst e
       rw [Q.out] at q;cases q;exact s
      ·exact H.out j y q (by omega)
     go_wp2
     go_roundw
     case rel=>exact ⟨k+1,_,by omega,by go_num,rfl,by omega,by omega,z,f⟩
     case measure=>simp [intOf];omega
   ·go_wp2
    go_ret;refine ⟨r,rfl,by omega,by omega,fun _=>⟨by omega,fun x m=>?_⟩,n⟩;obtain ⟨j,E,e⟩:=List.getElem_of_mem m;exact H.out j x (by rw [<- e];simp [E]) (by omega)
 ·go_enter func14,ntmps14
  go_wp2;go_ret;exact ⟨-1,rfl,by omega,by omega,fun h=>by omega,cj _ _⟩
theorem Zgh (u vb:Value)(c:List (List ByteArray))(B C:Nat)(w:World)(O:XRow B 1 ES w u c)(N:XRow C 1 ES w vb c) :
  Calls prog 33 #[u,vb] w fun e s=>e=.returned (.bool true)/\Below w.heap.size w s:=by
 obtain ⟨U,J,rfl,G,R,a⟩:=O;obtain ⟨S,L,rfl,D,_,b⟩:=N;have T:((c.length:Int) != (c.length:Int))=false:=by simp
 go_enter func33,ntmps33
 go_wp2
 go_loopw [5] (fun i wr=>∃ k:Nat,k <= c.length/\i=.int .i64 k/\Below w.heap.size w wr) (fun i _=>c.length - (intOf i).toNat)
 case atStart=>exact ⟨0,by omega,rfl,cj _ _⟩
 case round =>
  obtain ⟨k,Q,rfl,f⟩:=hrel
  by_cases d:k < c.length
  ·obtain ⟨K,E,rfl,_,g,a⟩:=a (by intro e;subst e;simp at d)
   obtain ⟨F,P,rfl,_,m,b⟩:=b (by intro e;subst e;simp at d);obtain ⟨x,t⟩:∃ x,c[k]? = some x:=⟨c[k],by simp [d]⟩;obtain ⟨cs,I,o,n⟩:=a k x t;obtain ⟨ds,A,q,l⟩:=b k x t;replace o:=Zaf o f g;replace q:=Zaf q f m;obtain ⟨y,rfl,H,_⟩:=stbS.1 _ _ _ _ _ n (Kp.of_below f);obtain ⟨v,rfl,M,_⟩:=stbS.1 _ _ _ _ _ l (Kp.of_below f);have c1:=ZaT o;have c2:=ZaT q;rw [Nat.mul_one] at c1 c2;have z:∀ W,Below wr.heap.size wr W -> Calls prog 68 #[y,v] W fun e s=>e=.returned (.bool true)/\Below W.heap.size W s:=fun W p=>Zcs _ _ x W (H.below p) (M.below p)
   have h:=cy g f.size;have j:=cy m f.size;clear a b t n l o q;go_wp2_with fail;refine ZmF K E F P c.length J L k y v wr _ d h j c1 c2 z ?_;intro u17 u18 u19 u20 u21 u22 u23 u24 u25 W p;have r:Below w.heap.size w W:=f.trans (p.mono f.size);clear z c1 c2;go_wp2
   go_roundw
   case rel=>exact ⟨k+1,by omega,by go_num,r⟩
   case measure=>simp [intOf];omega
  ·go_wp2
   go_ret;exact ⟨rfl,f⟩
end Go.Proofs.YtkpfangkfknhoaaGreatDoor
