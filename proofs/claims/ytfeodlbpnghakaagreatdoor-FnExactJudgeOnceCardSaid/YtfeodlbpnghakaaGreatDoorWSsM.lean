/-
  Texts that stood by themselves, laid into one.
-/
import Derived.Test.YtfeodlbpnghakaaGreatDoorWLsRM
/-
  Slices of homes, links, grams, parked ones, and of slices of texts: the contracts of the laws' helpers. No condition.
-/
set_option maxRecDepth 100000
set_option maxHeartbeats 3200000
namespace Go.Proofs.YtfeodlbpnghakaaGreatDoor
open Go.RowKit
def EL (B:Nat)(w:World)(cs:List Value)(l:Lk):Prop:=∃ vq vh,cs.toArray=#[.int .i64 l.sent,.int .i64 l.acked,vq,.int .i64 l.got,vh]/\StRow w vq l.q/\PcRow w vh l.h/\Fr B vq/\Fr B vh
theorem stbL:Stb EL:=⟨fun _ _ _ _ _ ⟨vq,vh,h,r1,r2,f1,f2⟩ hk=>⟨vq,vh,h,r1.kp f1 hk,r2.kp f2 hk,f1,f2⟩,fun _ _ _ _ _ ⟨vq,vh,h,r1,r2,f1,f2⟩ hc=>⟨vq,vh,h,r1,r2,f1.mono hc,f2.mono hc⟩⟩
def SmL (l:Lk):Prop:=l.q.length <= 1048576/\l.h.length <= 1048576
theorem PcRow.szp {w:World}{v:Value}{a:List Pc}(R:PcRow w v a):∀ x ∈ a,x.s.size <= maxLen:=by
 obtain ⟨_,_,_,_,_,h,_⟩:=R
 exact h
theorem NRow.small8 {w:World}{v:Value}{c:List Nd}(R:NRow w v c):∃ b a,v=.slice b c.length a:=by
 obtain ⟨b,a,h,_⟩:=R
 exact ⟨b,a,h⟩
theorem ZmX:(Tryz.prog.info? 66).map (fun i=>(i.zero,i.size,i.bytes))=some (some (.agg #[.int .i64 0,.int .i64 0,.slice none 0 0,.int .i64 0,.int .i64 0,.int .i64 0,.int .i64 0,.int .i64 0,.int .i64 0,.int .i64 0,.slice none 0 0,.slice none 0 0]),12,144):=by kernel_rfl
theorem ZiH (v:Value)(b:List Hm)(B:Nat)(w:World)(R:XRow B 12 EH w v b)(hm:b.length <= 2097152)(hs:∀ x ∈ b,SmH x) :
  Calls Tryz.prog 19 #[v] w fun e w'=>∃ v',e=.returned v'/\XRow w.heap.size 12 EH w' v' b/\Below w.heap.size w w':=by
 obtain ⟨ao,ak,rfl,ai,ah,l⟩:=R
 obtain ⟨i0,hi,ag,aa,ae⟩:=info_parts ZmX
 have n:i0.bytes * b.length <= 281474976710656:=by rw [ae];omega
 have G:b.length <= maxLen:=by unfold maxLen;omega
 go_enter Tryz.func19,Tryz.ntmps19
 go_wp2_with (at_make;refine wpList_make_full _ rfl _ _ 45 rfl w.heap.size 66 i0 _ 12 Tryz.underlying45 hi ag aa _ _ _ _ b.length rfl rfl rfl rfl n G (Nat.le_refl _) ?_)
 intro w1 f A
 have a:Below w.heap.size w w1:=(Below.refl _ _).grown A (Nat.le_refl _) (by intro k hk;cases hk)
 have D:w1.ownsRow w.heap.size 66 12 (.slice (some ⟨w.heap.size,0,none⟩) b.length b.length) b.length (List.replicate b.length (#[.int .i64 0,.int .i64 0,.slice none 0 0,.int .i64 0,.int .i64 0,.int .i64 0,.int .i64 0,.int .i64 0,.int .i64 0,.int .i64 0,.slice none 0 0,.slice none 0 0]:Array Value).toList).flatten:=by
  rw [<- ZcO (z:=#[.int .i64 0,.int .i64 0,.slice none 0 0,.int .i64 0,.int .i64 0,.int .i64 0,.int .i64 0,.int .i64 0,.int .i64 0,.int .i64 0,.slice none 0 0,.slice none 0 0]) (k:=12) rfl (by decide)]
  exact f
 clear A f
 go_wp2
 go_loopw [4] (fun i wr=>∃ (j:Nat) (css:List (List Value)),j <= b.length/\i=.int .i64 j/\Hid (css.length=b.length)/\Hid (∀ c ∈ css,c.length=12)/\Hid (∀ (i:Nat) c x,i < j -> css[i]? = some c -> b[i]? = some x -> EH (w.heap.size+1) wr c x)/\wr.ownsRow w.heap.size 66 12 (.slice (some ⟨w.heap.size,0,none⟩) b.length b.length) b.length css.flatten/\Below w.heap.size w wr) (fun i _=>b.length - (intOf i).toNat)
 case atStart=>exact ⟨0,_,by omega,rfl,by unfold Hid;simp,by intro c u;rw [List.eq_of_mem_replicate u];rfl,fun i c x h=>by omega,D,a⟩
 case round =>
  clear D a n G
  obtain ⟨j,css,hj,rfl,V,X,HE,f,a⟩:=hrel
  by_cases F:j < b.length
  ·obtain ⟨g,o,rfl,_,hg,l⟩:=l (by intro e;subst e;simp at F)
   obtain ⟨x,K⟩:∃ x,b[j]? = some x:=⟨b[j],by simp [F]⟩
   obtain ⟨cs,ac,W,hE⟩:=l j x K
   have HX:Hid (b[j]? = some x):=K
   replace W:=Zaf W a hg
   replace hE:=stbH.1 _ _ _ _ _ hE (Kp.of_below a)
   clear l K
   obtain ⟨v1,v2,v3,u,R1,R2,R3,_,_,_⟩:=hE
   obtain rfl:cs=(#[.int .i64 x.pl,.int .i64 x.i,v1,.int .i64 x.m.p,.int .i64 x.m.s,.int .i64 x.m.e,.int .i64 x.m.d,.int .i64 x.m.t,.int .i64 x.m.q,.int .i64 x.m.r,v2,v3]:Array Value).toList:=congrArg Array.toList u
   clear u ac
   have Z:w.heap.size+1 <= wr.heap.size:=(f.lt w.heap.size rfl).2
   go_wp2_with (refine wpList_load_mid rfl 95 _ rfl g (o+j * 12) rfl _ _ W Tryz.underlying95 rfl (by kernel_rfl) ?_)
   refine (ZhL x _ _ _ _ R1 R2 R3 (hs x (List.mem_of_getElem? HX.out))).mono ?_
   rintro e w2 ⟨u1,u2,u3,rfl,P1,P2,P3,F1,F2,F3,E⟩
   obtain ⟨M,T,rfl⟩:=P1.small8
   obtain ⟨P,N,rfl⟩:=P2.small
   obtain ⟨S,L,rfl⟩:=P3.small
   have O:EH wr.heap.size w2 (#[.int .i64 x.pl,.int .i64 x.i,.slice M x.xs.length T,.int .i64 x.m.p,.int .i64 x.m.s,.int .i64 x.m.e,.int .i64 x.m.d,.int .i64 x.m.t,.int .i64 x.m.q,.int .i64 x.m.r,.slice P x.bx.length N,.slice S x.ox.length L]:Array Value).toList x:=⟨_,_,_,rfl,P1,P2,P3,F1,F2,F3⟩
   have C:=Zac f E
   have U:=a.trans (E.mono a.size)
   have Q:Kp (w.heap.size+1) wr w2:=Kp.of_below E
   clear f E a W
   go_wp2_with (refine Zbl rfl 66 _ _ rfl w.heap.size w.heap.size j b.length 12 b.length css (#[.int .i64 x.pl,.int .i64 x.i,.slice M x.xs.length T,.int .i64 x.m.p,.int .i64 x.m.s,.int .i64 x.m.e,.int .i64 x.m.d,.int .i64 x.m.t,.int .i64 x.m.q,.int .i64 x.m.r,.slice P x.bx.length N,.slice S x.ox.length L]:Array Value).toList rfl rfl rfl X.out V.out F (by simp [Value.oneCell']) (by kernel_rfl) C ?_)
   intro w3 H I
   have ab:Below w.heap.size w w3:=U.grown I U.size (fun k hk=>by simp at hk;omega)
   have J:Kp (w.heap.size+1) w2 w3:=Kp.of_grown I (by omega)
   have Y:Hid ((css.set j (#[.int .i64 x.pl,.int .i64 x.i,.slice M x.xs.length T,.int .i64 x.m.p,.int .i64 x.m.s,.int .i64 x.m.e,.int .i64 x.m.d,.int .i64 x.m.t,.int .i64 x.m.q,.int .i64 x.m.r,.slice P x.bx.length N,.slice S x.ox.length L]:Array Value).toList).length=b.length):=by unfold Hid;rw [List.length_set];exact V.out
   have ad:Hid (∀ c ∈ css.set j (#[.int .i64 x.pl,.int .i64 x.i,.slice M x.xs.length T,.int .i64 x.m.p,.int .i64 x.m.s,.int .i64 x.m.e,.int .i64 x.m.d,.int .i64 x.m.t,.int .i64 x.m.q,.int .i64 x.m.r,.slice P x.bx.length N,.slice S x.ox.length L]:Array Value).toList,c.length=12):=by
    intro c u
    rcases List.mem_or_eq_of_mem_set u with h | h
    ·exact X.out c h
    ·rw [h];rfl
   have af:Hid (∀ (i:Nat) c y,i < j+1 -> (css.set j (#[.int .i64 x.pl,.int .i64 x.i,.slice M x.xs.length T,.int .i64 x.m.p,.int .i64 x.m.s,.int .i64 x.m.e,.int .i64 x.m.d,.int .i64 x.m.t,.int .i64 x.m.q,.int .i64 x.m.r,.slice P x.bx.length N,.slice S x.ox.length L]:Array Value).toList)[i]? = some c -> b[i]? = some y -> EH (w.heap.size+1) w3 c y):=by
    intro i c y aj u hy
    by_cases e:i=j
    ·subst e
     rw [List.getElem?_set_self (by rw [V.out];exact F)] at u
     rw [HX.out] at hy
     cases u
     cases hy
     exact stbH.1 _ _ _ _ _ (stbH.2 _ _ _ _ _ O Z) J
    ·rw [List.getElem?_set_ne (fun h=>e h.symm)] at u
     exact stbH.1 _ _ _ _ _ (stbH.1 _ _ _ _ _ (HE.out i c y (by omega) u hy) Q) J
   clear C I O Q J V X HE HX
   go_wp2
   go_roundw
   case rel=>exact ⟨j+1,_,by omega,by go_num,Y,ad,af,H,ab⟩
   case measure=>simp [intOf];omega
  ·go_wp2
   go_ret
   have:j=b.length:=by omega
   subst this
   exact ⟨_,rfl,XRow.of_own f V.out X.out ah (fun i c x u K=>stbH.2 _ _ _ _ _ (HE.out i c x (List.getElem?_eq_some_iff.1 K).1 u K) (by omega)),a⟩
theorem Zjr (v:Value)(b:List Hm)(B:Nat)(l:Int)(w:World)(R:XRow B 12 EH w v b)(S:0 <= l)(V:l <= 1048576) :
  Calls Tryz.prog 10 #[v,.int .i64 l] w fun e Z=>∃ r:Int,e=.returned (.int .i64 r) /\ -1 <= r/\r <= 1048576/\(0 <= r -> b.length <= 1048576/\∀ x ∈ b,SmH x)/\Below w.heap.size w Z:=by
 obtain ⟨ao,Y,rfl,O,hm,a⟩:=R
 by_cases K:(b.length:Int) <= l
 ·go_enter Tryz.func10,Tryz.ntmps10
  go_wp2
  go_loopw [1,5] (fun l i wr=>∃ (k:Nat) (r:Int),k <= b.length/\i=.int .i64 k/\l=.int .i64 r/\0 <= r/\r <= 1048576/\Hid (∀ (j:Nat) x,b[j]? = some x -> j < k -> SmH x)/\Below w.heap.size w wr) (fun _ i _=>b.length - (intOf i).toNat)
  case atStart=>exact ⟨0,_,by omega,rfl,rfl,by omega,by omega,fun j x _ h=>by omega,Below.refl _ _⟩
  case round =>
   obtain ⟨k,r,hk,rfl,rfl,D,I,L,n⟩:=hrel
   by_cases u:k < b.length
   ·obtain ⟨g,o,rfl,_,X,a⟩:=a (by intro e;subst e;simp at u)
    obtain ⟨x,c⟩:∃ x,b[k]? = some x:=⟨b[k],by simp [u]⟩
    obtain ⟨cs,E,A,F⟩:=a k x c
    have P:Hid (b[k]? = some x):=c
    replace A:=Zaf A n X
    replace F:=stbH.1 _ _ _ _ _ F (Kp.of_below n)
    clear a c
    obtain ⟨T,v2,v3,J,R1,U,W,_,_,_⟩:=F
    obtain rfl:cs=(#[.int .i64 x.pl,.int .i64 x.i,T,.int .i64 x.m.p,.int .i64 x.m.s,.int .i64 x.m.e,.int .i64 x.m.d,.int .i64 x.m.t,.int .i64 x.m.q,.int .i64 x.m.r,v2,v3]:Array Value).toList:=congrArg Array.toList J
    clear J E
    go_wp2_with (refine wpList_load_mid rfl 95 _ rfl g (o+k * 12) rfl _ _ A Tryz.underlying95 rfl (by kernel_rfl) ?_)
    refine (Zh1 x _ _ _ r _ R1 U W D I).mono ?_
    rintro e w2 ⟨N,rfl,h0,h1,G,f⟩
    have z:=n.trans (f.mono n.size)
    clear A f
    by_cases Q:N < 0
    ·have HR:Hid (N = -1):=by unfold Hid;omega
     go_wp2
     go_ret
     exact ⟨-1,rfl,by omega,by omega,fun h=>by omega,z⟩
    ·have G:=G (by omega)
     have C:Hid (∀ (j:Nat) x,b[j]? = some x -> j < k+1 -> SmH x):=by
      intro j y H M
      by_cases e:j=k
      ·subst e
       rw [P.out] at H
       cases H
       exact G
      ·exact L.out j y H (by omega)
     go_wp2
     go_roundw
     case rel=>exact ⟨k+1,_,by omega,by go_num,rfl,by omega,by omega,C,z⟩
     case measure=>simp [intOf];omega
   ·go_wp2
    go_ret
    refine ⟨r,rfl,by omega,by omega,fun _=>⟨by omega,fun x c=>?_⟩,n⟩
    obtain ⟨j,M,e⟩:=List.getElem_of_mem c
    exact L.out j x (by rw [<- e];simp [M]) (by omega)
 ·go_enter Tryz.func10,Tryz.ntmps10
  go_wp2
  go_ret
  exact ⟨-1,rfl,by omega,by omega,fun h=>by omega,Below.refl _ _⟩
theorem Zjd (D vb:Value)(c:List Hm)(B C:Nat)(w:World)(L:XRow B 12 EH w D c)(E:XRow C 12 EH w vb c) :
  Calls Tryz.prog 27 #[D,vb] w fun e y=>e=.returned (.bool true)/\Below w.heap.size w y:=by
 obtain ⟨T,J,rfl,p,hm,b⟩:=L
 obtain ⟨U,G,rfl,m,_,a⟩:=E
 have hn:((c.length:Int) != (c.length:Int))=false:=by simp
 go_enter Tryz.func27,Tryz.ntmps27
 go_wp2
 go_loopw [5] (fun i wr=>∃ k:Nat,k <= c.length/\i=.int .i64 k/\Below w.heap.size w wr) (fun i _=>c.length - (intOf i).toNat)
 case atStart=>exact ⟨0,by omega,rfl,Below.refl _ _⟩
 case round =>
  obtain ⟨k,V,rfl,g⟩:=hrel
  by_cases h:k < c.length
  ·obtain ⟨H,R,rfl,_,n,b⟩:=b (by intro e;subst e;simp at h)
   obtain ⟨N,K,rfl,_,l,a⟩:=a (by intro e;subst e;simp at h)
   obtain ⟨x,u⟩:∃ x,c[k]? = some x:=⟨c[k],by simp [h]⟩
   obtain ⟨cs,t,s,f⟩:=b k x u
   obtain ⟨ds,v,r,d⟩:=a k x u
   replace s:=Zaf s g n
   replace r:=Zaf r g l
   replace f:=stbH.1 _ _ _ _ _ f (Kp.of_below g)
   replace d:=stbH.1 _ _ _ _ _ d (Kp.of_below g)
   have A:∀ W,Below wr.heap.size wr W -> Calls Tryz.prog 64 #[.agg cs.toArray,.agg ds.toArray] W fun e y=>e=.returned (.bool true)/\Below W.heap.size W y:=by
    intro W j
    obtain ⟨X,a2,S,p,P,I,M,_,_,_⟩:=f
    obtain ⟨Z,Y,b3,m,F,O,Q,_,_,_⟩:=d
    rw [p,m]
    exact Zig x _ _ _ _ _ _ W (P.below j) (I.below j) (M.below j) (F.below j) (O.below j) (Q.below j)
   have o:=Nat.lt_of_lt_of_le n g.size
   have q:=Nat.lt_of_lt_of_le l g.size
   clear b a u f d
   go_wp2_with fail
   refine ZlY H R N K c.length J G k cs ds wr _ h t v o q s r A ?_
   intro u17 u18 u19 u20 u21 u22 u23 u24 u25 W j
   have z:Below w.heap.size w W:=g.trans (j.mono g.size)
   clear A s r
   go_wp2
   go_roundw
   case rel=>exact ⟨k+1,by omega,by go_num,z⟩
   case measure=>simp [intOf];omega
  ·go_wp2
   go_ret
   exact ⟨rfl,g⟩
theorem Zm2:(Tryz.prog.info? 70).map (fun i=>(i.zero,i.size,i.bytes))=some (some (.agg #[.int .i64 0,.int .i64 0,.slice none 0 0,.int .i64 0,.slice none 0 0]),5,72):=by kernel_rfl
theorem ZiG (v:Value)(b:List Lk)(B:Nat)(w:World)(R:XRow B 5 EL w v b)(hm:b.length <= 2097152)(O:∀ x ∈ b,SmL x) :
  Calls Tryz.prog 20 #[v] w fun e w'=>∃ v',e=.returned v'/\XRow w.heap.size 5 EL w' v' b/\Below w.heap.size w w':=by
 obtain ⟨ao,ag,rfl,ae,ad,f⟩:=R
 obtain ⟨i0,hi,ac,V,aa⟩:=info_parts Zm2
 have l:i0.bytes * b.length <= 281474976710656:=by rw [aa];omega
 have u:b.length <= maxLen:=by unfold maxLen;omega
 go_enter Tryz.func20,Tryz.ntmps20
 go_wp2_with (at_make;refine wpList_make_full _ rfl _ _ 46 rfl w.heap.size 70 i0 _ 5 Tryz.underlying46 hi ac V _ _ _ _ b.length rfl rfl rfl rfl l u (Nat.le_refl _) ?_)
 intro w1 d n
 have a:Below w.heap.size w w1:=(Below.refl _ _).grown n (Nat.le_refl _) (by intro k hk;cases hk)
 have r:w1.ownsRow w.heap.size 70 5 (.slice (some ⟨w.heap.size,0,none⟩) b.length b.length) b.length (List.replicate b.length (#[.int .i64 0,.int .i64 0,.slice none 0 0,.int .i64 0,.slice none 0 0]:Array Value).toList).flatten:=by
  rw [<- ZcO (z:=#[.int .i64 0,.int .i64 0,.slice none 0 0,.int .i64 0,.slice none 0 0]) (k:=5) rfl (by decide)]
  exact d
 clear n d
 go_wp2
 go_loopw [4] (fun i wr=>∃ (j:Nat) (css:List (List Value)),j <= b.length/\i=.int .i64 j/\Hid (css.length=b.length)/\Hid (∀ c ∈ css,c.length=5)/\Hid (∀ (i:Nat) c x,i < j -> css[i]? = some c -> b[i]? = some x -> EL (w.heap.size+1) wr c x)/\wr.ownsRow w.heap.size 70 5 (.slice (some ⟨w.heap.size,0,none⟩) b.length b.length) b.length css.flatten/\Below w.heap.size w wr) (fun i _=>b.length - (intOf i).toNat)
 case atStart=>exact ⟨0,_,by omega,rfl,by unfold Hid;simp,by intro c m;rw [List.eq_of_mem_replicate m];rfl,fun i c x h=>by omega,r,a⟩
 case round =>
  clear r a l u
  obtain ⟨j,css,hj,rfl,N,Q,HE,d,a⟩:=hrel
  by_cases t:j < b.length
  ·obtain ⟨g,o,rfl,_,hg,f⟩:=f (by intro e;subst e;simp at t)
   obtain ⟨x,F⟩:∃ x,b[j]? = some x:=⟨b[j],by simp [t]⟩
   obtain ⟨cs,X,P,hE⟩:=f j x F
   have E:Hid (b[j]? = some x):=F
   replace P:=Zaf P a hg
   replace hE:=stbL.1 _ _ _ _ _ hE (Kp.of_below a)
   clear f F
   obtain ⟨v1,v2,m,R1,R2,_,_⟩:=hE
   obtain rfl:cs=(#[.int .i64 x.sent,.int .i64 x.acked,v1,.int .i64 x.got,v2]:Array Value).toList:=congrArg Array.toList m
   clear m X
   have U:w.heap.size+1 <= wr.heap.size:=(d.lt w.heap.size rfl).2
   go_wp2_with (refine wpList_load_mid rfl 99 _ rfl g (o+j * 5) rfl _ _ P Tryz.underlying99 rfl (by kernel_rfl) ?_)
   refine (Ziv _ _ x _ R1 R2 (by have:=(O x (List.mem_of_getElem? E.out)).1;omega) (by have:=(O x (List.mem_of_getElem? E.out)).2;omega)).mono ?_
   rintro e Z ⟨u1,u2,rfl,T,O2,s⟩
   have F1:=Fr.of_own T
   have F2:=Fr.of_own O2
   have P1:=StRow.of_own T (by have:=(O x (List.mem_of_getElem? E.out)).1;omega) R1.szs
   have P2:=PcRow.of_own O2 (by have:=(O x (List.mem_of_getElem? E.out)).2;omega) R2.szp
   obtain ⟨G,L,rfl⟩:=P1.small
   obtain ⟨J,H,rfl⟩:=P2.small
   clear T O2
   have I:EL wr.heap.size Z (#[.int .i64 x.sent,.int .i64 x.acked,.slice G x.q.length L,.int .i64 x.got,.slice J x.h.length H]:Array Value).toList x:=⟨_,_,rfl,P1,P2,F1,F2⟩
   have p:=Zac d s
   have M:=a.trans (s.mono a.size)
   have K:Kp (w.heap.size+1) wr Z:=Kp.of_below s
   clear d s a P
   go_wp2_with (refine Zbl rfl 70 _ _ rfl w.heap.size w.heap.size j b.length 5 b.length css (#[.int .i64 x.sent,.int .i64 x.acked,.slice G x.q.length L,.int .i64 x.got,.slice J x.h.length H]:Array Value).toList rfl rfl rfl Q.out N.out t (by simp [Value.oneCell']) (by kernel_rfl) p ?_)
   intro w3 A D
   have W:Below w.heap.size w w3:=M.grown D M.size (fun k hk=>by simp at hk;omega)
   have C:Kp (w.heap.size+1) Z w3:=Kp.of_grown D (by omega)
   have S:Hid ((css.set j (#[.int .i64 x.sent,.int .i64 x.acked,.slice G x.q.length L,.int .i64 x.got,.slice J x.h.length H]:Array Value).toList).length=b.length):=by unfold Hid;rw [List.length_set];exact N.out
   have Y:Hid (∀ c ∈ css.set j (#[.int .i64 x.sent,.int .i64 x.acked,.slice G x.q.length L,.int .i64 x.got,.slice J x.h.length H]:Array Value).toList,c.length=5):=by
    intro c m
    rcases List.mem_or_eq_of_mem_set m with h | h
    ·exact Q.out c h
    ·rw [h];rfl
   have ab:Hid (∀ (i:Nat) c y,i < j+1 -> (css.set j (#[.int .i64 x.sent,.int .i64 x.acked,.slice G x.q.length L,.int .i64 x.got,.slice J x.h.length H]:Array Value).toList)[i]? = some c -> b[i]? = some y -> EL (w.heap.size+1) w3 c y):=by
    intro i c y af m hy
    by_cases e:i=j
    ·subst e
     rw [List.getElem?_set_self (by rw [N.out];exact t)] at m
     rw [E.out] at hy
     cases m
     cases hy
     exact stbL.1 _ _ _ _ _ (stbL.2 _ _ _ _ _ I U) C
    ·rw [List.getElem?_set_ne (fun h=>e h.symm)] at m
     exact stbL.1 _ _ _ _ _ (stbL.1 _ _ _ _ _ (HE.out i c y (by omega) m hy) K) C
   clear p D I K C N Q HE E
   go_wp2
   go_roundw
   case rel=>exact ⟨j+1,_,by omega,by go_num,S,Y,ab,A,W⟩
   case measure=>simp [intOf];omega
  ·go_wp2
   go_ret
   have:j=b.length:=by omega
   subst this
   exact ⟨_,rfl,XRow.of_own d N.out Q.out ad (fun i c x m F=>stbL.2 _ _ _ _ _ (HE.out i c x (List.getElem?_eq_some_iff.1 F).1 m F) (by omega)),a⟩
theorem Zjp (v:Value)(b:List Lk)(B:Nat)(l:Int)(w:World)(R:XRow B 5 EL w v b)(L:0 <= l)(O:l <= 1048576) :
  Calls Tryz.prog 11 #[v,.int .i64 l] w fun e S=>∃ r:Int,e=.returned (.int .i64 r) /\ -1 <= r/\r <= 1048576/\(0 <= r -> b.length <= 1048576/\∀ x ∈ b,SmL x)/\Below w.heap.size w S:=by
 obtain ⟨Z,Q,rfl,I,hm,a⟩:=R
 by_cases E:(b.length:Int) <= l
 ·go_enter Tryz.func11,Tryz.ntmps11
  go_wp2
  go_loopw [1,5] (fun l i wr=>∃ (k:Nat) (r:Int),k <= b.length/\i=.int .i64 k/\l=.int .i64 r/\0 <= r/\r <= 1048576/\Hid (∀ (j:Nat) x,b[j]? = some x -> j < k -> SmL x)/\Below w.heap.size w wr) (fun _ i _=>b.length - (intOf i).toNat)
  case atStart=>exact ⟨0,_,by omega,rfl,rfl,by omega,by omega,fun j x _ h=>by omega,Below.refl _ _⟩
  case round =>
   obtain ⟨k,r,Y,rfl,rfl,s,C,F,f⟩:=hrel
   by_cases m:k < b.length
   ·obtain ⟨g,o,rfl,_,P,a⟩:=a (by intro e;subst e;simp at m)
    obtain ⟨x,c⟩:∃ x,b[k]? = some x:=⟨b[k],by simp [m]⟩
    obtain ⟨cs,t,p,u⟩:=a k x c
    have J:Hid (b[k]? = some x):=c
    replace p:=Zaf p f P
    replace u:=stbL.1 _ _ _ _ _ u (Kp.of_below f)
    clear a c
    obtain ⟨M,U,D,T,N,_,_⟩:=u
    obtain rfl:cs=(#[.int .i64 x.sent,.int .i64 x.acked,M,.int .i64 x.got,U]:Array Value).toList:=congrArg Array.toList D
    clear D t
    go_wp2_with (refine wpList_load_mid rfl 99 _ rfl g (o+k * 5) rfl _ _ p Tryz.underlying99 rfl (by kernel_rfl) ?_)
    refine (ZhB r s C _ _ x _ T N).mono ?_
    rintro e W ⟨H,rfl,V,X,z,d⟩
    have n:=f.trans (d.mono f.size)
    clear p d
    by_cases K:H < 0
    ·have HR:Hid (H = -1):=by unfold Hid;omega
     go_wp2
     go_ret
     exact ⟨-1,rfl,by omega,by omega,fun h=>by omega,n⟩
    ·have z:=z (by omega)
     have q:Hid (∀ (j:Nat) x,b[j]? = some x -> j < k+1 -> SmL x):=by
      intro j y A G
      by_cases e:j=k
      ·subst e
       rw [J.out] at A
       cases A
       exact z
      ·exact F.out j y A (by omega)
     go_wp2
     go_roundw
     case rel=>exact ⟨k+1,_,by omega,by go_num,rfl,by omega,by omega,q,n⟩
     case measure=>simp [intOf];omega
   ·go_wp2
    go_ret
    refine ⟨r,rfl,by omega,by omega,fun _=>⟨by omega,fun x c=>?_⟩,f⟩
    obtain ⟨j,G,e⟩:=List.getElem_of_mem c
    exact F.out j x (by rw [<- e];simp [G]) (by omega)
 ·go_enter Tryz.func11,Tryz.ntmps11
  go_wp2
  go_ret
  exact ⟨-1,rfl,by omega,by omega,fun h=>by omega,Below.refl _ _⟩
theorem ZjY (D vb:Value)(c:List Lk)(B C:Nat)(w:World)(L:XRow B 5 EL w D c)(E:XRow C 5 EL w vb c) :
  Calls Tryz.prog 28 #[D,vb] w fun e y=>e=.returned (.bool true)/\Below w.heap.size w y:=by
 obtain ⟨Q,J,rfl,p,Z,b⟩:=L
 obtain ⟨R,G,rfl,m,_,a⟩:=E
 have X:((c.length:Int) != (c.length:Int))=false:=by simp
 go_enter Tryz.func28,Tryz.ntmps28
 go_wp2
 go_loopw [5] (fun i wr=>∃ k:Nat,k <= c.length/\i=.int .i64 k/\Below w.heap.size w wr) (fun i _=>c.length - (intOf i).toNat)
 case atStart=>exact ⟨0,by omega,rfl,Below.refl _ _⟩
 case round =>
  obtain ⟨k,S,rfl,g⟩:=hrel
  by_cases h:k < c.length
  ·obtain ⟨H,P,rfl,_,n,b⟩:=b (by intro e;subst e;simp at h)
   obtain ⟨M,K,rfl,_,l,a⟩:=a (by intro e;subst e;simp at h)
   obtain ⟨x,u⟩:∃ x,c[k]? = some x:=⟨c[k],by simp [h]⟩
   obtain ⟨cs,t,s,f⟩:=b k x u
   obtain ⟨ds,v,r,d⟩:=a k x u
   replace s:=Zaf s g n
   replace r:=Zaf r g l
   replace f:=stbL.1 _ _ _ _ _ f (Kp.of_below g)
   replace d:=stbL.1 _ _ _ _ _ d (Kp.of_below g)
   have A:∀ W,Below wr.heap.size wr W -> Calls Tryz.prog 65 #[.agg cs.toArray,.agg ds.toArray] W fun e y=>e=.returned (.bool true)/\Below W.heap.size W y:=by
    intro W j
    obtain ⟨T,Y,p,O,I,_,_⟩:=f
    obtain ⟨V,U,m,F,N,_,_⟩:=d
    rw [p,m]
    exact Zix _ _ _ _ x W (O.below j) (I.below j) (F.below j) (N.below j)
   have o:=Nat.lt_of_lt_of_le n g.size
   have q:=Nat.lt_of_lt_of_le l g.size
   clear b a u f d
   go_wp2_with fail
   refine Zme H P M K c.length J G k cs ds wr _ h t v o q s r A ?_
   intro u17 u18 u19 u20 u21 u22 u23 u24 u25 W j
   have z:Below w.heap.size w W:=g.trans (j.mono g.size)
   clear A s r
   go_wp2
   go_roundw
   case rel=>exact ⟨k+1,by omega,by go_num,z⟩
   case measure=>simp [intOf];omega
  ·go_wp2
   go_ret
   exact ⟨rfl,g⟩
theorem Zm1:(Tryz.prog.info? 122).map (fun i=>(i.zero,i.size,i.bytes))=some (some (.agg #[.int .i64 0,.int .i64 0,.int .i64 0,.int .i64 0,.string ByteArray.empty]),5,48):=by kernel_rfl
theorem Zjh (v:Value)(b:List Gm)(B:Nat)(w:World)(R:XRow B 5 EG w v b)(hm:b.length <= 2097152)(hs:∀ x ∈ b,SmG x) :
  Calls Tryz.prog 21 #[v] w fun e w'=>∃ v',e=.returned v'/\XRow w.heap.size 5 EG w' v' b/\Below w.heap.size w w':=by
 obtain ⟨ao,af,rfl,ad,ac,l⟩:=R
 obtain ⟨i0,hi,ab,P,W⟩:=info_parts Zm1
 have m:i0.bytes * b.length <= 281474976710656:=by rw [W];omega
 have D:b.length <= maxLen:=by unfold maxLen;omega
 go_enter Tryz.func21,Tryz.ntmps21
 go_wp2_with (at_make;refine wpList_make_full _ rfl _ _ 47 rfl w.heap.size 122 i0 _ 5 Tryz.underlying47 hi ab P _ _ _ _ b.length rfl rfl rfl rfl m D (Nat.le_refl _) ?_)
 intro w1 d q
 have a:Below w.heap.size w w1:=(Below.refl _ _).grown q (Nat.le_refl _) (by intro k hk;cases hk)
 have u:w1.ownsRow w.heap.size 122 5 (.slice (some ⟨w.heap.size,0,none⟩) b.length b.length) b.length (List.replicate b.length (#[.int .i64 0,.int .i64 0,.int .i64 0,.int .i64 0,.string ByteArray.empty]:Array Value).toList).flatten:=by
  rw [<- ZcO (z:=#[.int .i64 0,.int .i64 0,.int .i64 0,.int .i64 0,.string ByteArray.empty]) (k:=5) rfl (by decide)]
  exact d
 clear q d
 go_wp2
 go_loopw [4] (fun i wr=>∃ (j:Nat) (css:List (List Value)),j <= b.length/\i=.int .i64 j/\Hid (css.length=b.length)/\Hid (∀ c ∈ css,c.length=5)/\Hid (∀ (i:Nat) c x,i < j -> css[i]? = some c -> b[i]? = some x -> EG (w.heap.size+1) wr c x)/\wr.ownsRow w.heap.size 122 5 (.slice (some ⟨w.heap.size,0,none⟩) b.length b.length) b.length css.flatten/\Below w.heap.size w wr) (fun i _=>b.length - (intOf i).toNat)
 case atStart=>exact ⟨0,_,by omega,rfl,by unfold Hid;simp,by intro c p;rw [List.eq_of_mem_replicate p];rfl,fun i c x h=>by omega,u,a⟩
 case round =>
  clear u a m D
  obtain ⟨j,css,hj,rfl,L,N,Z,d,a⟩:=hrel
  by_cases C:j < b.length
  ·obtain ⟨g,o,rfl,_,hg,l⟩:=l (by intro e;subst e;simp at C)
   obtain ⟨x,H⟩:∃ x,b[j]? = some x:=⟨b[j],by simp [C]⟩
   obtain ⟨cs,T,M,X⟩:=l j x H
   have HX:Hid (b[j]? = some x):=H
   replace M:=Zaf M a hg
   replace X:=stbG.1 _ _ _ _ _ X (Kp.of_below a)
   clear l H
   obtain ⟨p,Y⟩:=X
   obtain rfl:cs=(#[.int .i64 x.k,.int .i64 x.f,.int .i64 x.t,.int .i64 x.n,.string x.s]:Array Value).toList:=congrArg Array.toList p
   clear p T
   have Q:w.heap.size+1 <= wr.heap.size:=(d.lt w.heap.size rfl).2
   go_wp2_with (refine wpList_load_mid rfl 104 _ rfl g (o+j * 5) rfl _ _ M Tryz.underlying104 rfl (by kernel_rfl) ?_)
   refine (ZhX x _).mono ?_
   rintro e V ⟨rfl,A⟩
   have I:EG wr.heap.size V (#[.int .i64 x.k,.int .i64 x.f,.int .i64 x.t,.int .i64 x.n,.string x.s]:Array Value).toList x:=⟨rfl,Y⟩
   have r:=Zac d A
   have K:=a.trans (A.mono a.size)
   have J:Kp (w.heap.size+1) wr V:=Kp.of_below A
   clear d A a M
   go_wp2_with (refine Zbl rfl 122 _ _ rfl w.heap.size w.heap.size j b.length 5 b.length css (#[.int .i64 x.k,.int .i64 x.f,.int .i64 x.t,.int .i64 x.n,.string x.s]:Array Value).toList rfl rfl rfl N.out L.out C (by simp [Value.oneCell']) (by kernel_rfl) r ?_)
   intro w3 E F
   have S:Below w.heap.size w w3:=K.grown F K.size (fun k hk=>by simp at hk;omega)
   have G:Kp (w.heap.size+1) V w3:=Kp.of_grown F (by omega)
   have O:Hid ((css.set j (#[.int .i64 x.k,.int .i64 x.f,.int .i64 x.t,.int .i64 x.n,.string x.s]:Array Value).toList).length=b.length):=by unfold Hid;rw [List.length_set];exact L.out
   have U:Hid (∀ c ∈ css.set j (#[.int .i64 x.k,.int .i64 x.f,.int .i64 x.t,.int .i64 x.n,.string x.s]:Array Value).toList,c.length=5):=by
    intro c p
    rcases List.mem_or_eq_of_mem_set p with h | h
    ·exact N.out c h
    ·rw [h];rfl
   have aa:Hid (∀ (i:Nat) c y,i < j+1 -> (css.set j (#[.int .i64 x.k,.int .i64 x.f,.int .i64 x.t,.int .i64 x.n,.string x.s]:Array Value).toList)[i]? = some c -> b[i]? = some y -> EG (w.heap.size+1) w3 c y):=by
    intro i c y ae p hy
    by_cases e:i=j
    ·subst e
     rw [List.getElem?_set_self (by rw [L.out];exact C)] at p
     rw [HX.out] at hy
     cases p
     cases hy
     exact stbG.1 _ _ _ _ _ (stbG.2 _ _ _ _ _ I Q) G
    ·rw [List.getElem?_set_ne (fun h=>e h.symm)] at p
     exact stbG.1 _ _ _ _ _ (stbG.1 _ _ _ _ _ (Z.out i c y (by omega) p hy) J) G
   clear r F I J G L N Z HX
   go_wp2
   go_roundw
   case rel=>exact ⟨j+1,_,by omega,by go_num,O,U,aa,E,S⟩
   case measure=>simp [intOf];omega
  ·go_wp2
   go_ret
   have:j=b.length:=by omega
   subst this
   exact ⟨_,rfl,XRow.of_own d L.out N.out ac (fun i c x p H=>stbG.2 _ _ _ _ _ (Z.out i c x (List.getElem?_eq_some_iff.1 H).1 p H) (by omega)),a⟩
theorem Zi7 (v:Value)(b:List Gm)(B:Nat)(l:Int)(w:World)(R:XRow B 5 EG w v b)(Q:0 <= l)(S:l <= 1048576) :
  Calls Tryz.prog 12 #[v,.int .i64 l] w fun e V=>∃ r:Int,e=.returned (.int .i64 r) /\ -1 <= r/\r <= 1048576/\(0 <= r -> b.length <= 1048576/\∀ x ∈ b,SmG x)/\Below w.heap.size w V:=by
 obtain ⟨ao,U,rfl,N,hm,a⟩:=R
 by_cases J:(b.length:Int) <= l
 ·go_enter Tryz.func12,Tryz.ntmps12
  go_wp2
  go_loopw [1,5] (fun l i wr=>∃ (k:Nat) (r:Int),k <= b.length/\i=.int .i64 k/\l=.int .i64 r/\0 <= r/\r <= 1048576/\Hid (∀ (j:Nat) x,b[j]? = some x -> j < k -> SmG x)/\Below w.heap.size w wr) (fun _ i _=>b.length - (intOf i).toNat)
  case atStart=>exact ⟨0,_,by omega,rfl,rfl,by omega,by omega,fun j x _ h=>by omega,Below.refl _ _⟩
  case round =>
   obtain ⟨k,r,Z,rfl,rfl,A,H,K,m⟩:=hrel
   by_cases p:k < b.length
   ·obtain ⟨g,o,rfl,_,T,a⟩:=a (by intro e;subst e;simp at p)
    obtain ⟨x,c⟩:∃ x,b[k]? = some x:=⟨b[k],by simp [p]⟩
    obtain ⟨cs,C,u,D⟩:=a k x c
    have O:Hid (b[k]? = some x):=c
    replace u:=Zaf u m T
    replace D:=stbG.1 _ _ _ _ _ D (Kp.of_below m)
    clear a c
    obtain ⟨I,E⟩:=D
    obtain rfl:cs=(#[.int .i64 x.k,.int .i64 x.f,.int .i64 x.t,.int .i64 x.n,.string x.s]:Array Value).toList:=congrArg Array.toList I
    clear I C
    go_wp2_with (refine wpList_load_mid rfl 104 _ rfl g (o+k * 5) rfl _ _ u Tryz.underlying104 rfl (by kernel_rfl) ?_)
    refine (Zhp x r _ E A H).mono ?_
    rintro e X ⟨M,rfl,W,Y,F,d⟩
    have q:=m.trans (d.mono m.size)
    clear u d
    by_cases P:M < 0
    ·have HR:Hid (M = -1):=by unfold Hid;omega
     go_wp2
     go_ret
     exact ⟨-1,rfl,by omega,by omega,fun h=>by omega,q⟩
    ·have F:=F (by omega)
     have z:Hid (∀ (j:Nat) x,b[j]? = some x -> j < k+1 -> SmG x):=by
      intro j y G L
      by_cases e:j=k
      ·subst e
       rw [O.out] at G
       cases G
       exact F
      ·exact K.out j y G (by omega)
     go_wp2
     go_roundw
     case rel=>exact ⟨k+1,_,by omega,by go_num,rfl,by omega,by omega,z,q⟩
     case measure=>simp [intOf];omega
   ·go_wp2
    go_ret
    refine ⟨r,rfl,by omega,by omega,fun _=>⟨by omega,fun x c=>?_⟩,m⟩
    obtain ⟨j,L,e⟩:=List.getElem_of_mem c
    exact K.out j x (by rw [<- e];simp [L]) (by omega)
 ·go_enter Tryz.func12,Tryz.ntmps12
  go_wp2
  go_ret
  exact ⟨-1,rfl,by omega,by omega,fun h=>by omega,Below.refl _ _⟩
theorem Zjg (A vb:Value)(c:List Gm)(B C:Nat)(w:World)(J:XRow B 5 EG w A c)(E:XRow C 5 EG w vb c) :
  Calls Tryz.prog 29 #[A,vb] w fun e v=>e=.returned (.bool true)/\Below w.heap.size w v:=by
 obtain ⟨M,H,rfl,o,Q,b⟩:=J
 obtain ⟨N,F,rfl,l,_,a⟩:=E
 have P:((c.length:Int) != (c.length:Int))=false:=by simp
 go_enter Tryz.func29,Tryz.ntmps29
 go_wp2
 go_loopw [5] (fun i wr=>∃ k:Nat,k <= c.length/\i=.int .i64 k/\Below w.heap.size w wr) (fun i _=>c.length - (intOf i).toNat)
 case atStart=>exact ⟨0,by omega,rfl,Below.refl _ _⟩
 case round =>
  obtain ⟨k,O,rfl,g⟩:=hrel
  by_cases h:k < c.length
  ·obtain ⟨G,L,rfl,_,m,b⟩:=b (by intro e;subst e;simp at h)
   obtain ⟨K,I,rfl,_,j,a⟩:=a (by intro e;subst e;simp at h)
   obtain ⟨x,t⟩:∃ x,c[k]? = some x:=⟨c[k],by simp [h]⟩
   obtain ⟨cs,s,r,f⟩:=b k x t
   obtain ⟨ds,u,q,d⟩:=a k x t
   replace r:=Zaf r g m
   replace q:=Zaf q g j
   replace f:=stbG.1 _ _ _ _ _ f (Kp.of_below g)
   replace d:=stbG.1 _ _ _ _ _ d (Kp.of_below g)
   have z:∀ W,Below wr.heap.size wr W -> Calls Tryz.prog 66 #[.agg cs.toArray,.agg ds.toArray] W fun e v=>e=.returned (.bool true)/\Below W.heap.size W v:=by
    intro W D
    obtain ⟨o,_⟩:=f
    obtain ⟨l,_⟩:=d
    rw [o,l]
    exact (ZhP x W)
   have n:=Nat.lt_of_lt_of_le m g.size
   have p:=Nat.lt_of_lt_of_le j g.size
   clear b a t f d
   go_wp2_with fail
   refine Zmd G L K I c.length H F k cs ds wr _ h s u n p r q z ?_
   intro u17 u18 u19 u20 u21 u22 u23 u24 u25 W D
   have y:Below w.heap.size w W:=g.trans (D.mono g.size)
   clear z r q
   go_wp2
   go_roundw
   case rel=>exact ⟨k+1,by omega,by go_num,y⟩
   case measure=>simp [intOf];omega
  ·go_wp2
   go_ret
   exact ⟨rfl,g⟩
theorem ZmY:(Tryz.prog.info? 124).map (fun i=>(i.zero,i.size,i.bytes))=some (some (.agg #[.int .i64 0,.int .i64 0,.string ByteArray.empty]),3,32):=by kernel_rfl
theorem ZiI (v:Value)(b:List Pd)(B:Nat)(w:World)(R:XRow B 3 EP w v b)(hm:b.length <= 2097152)(hs:∀ x ∈ b,SmP x) :
  Calls Tryz.prog 22 #[v] w fun e w'=>∃ v',e=.returned v'/\XRow w.heap.size 3 EP w' v' b/\Below w.heap.size w w':=by
 obtain ⟨ao,ae,rfl,ac,ab,f⟩:=R
 obtain ⟨i0,hi,aa,O,V⟩:=info_parts ZmY
 have l:i0.bytes * b.length <= 281474976710656:=by rw [V];omega
 have C:b.length <= maxLen:=by unfold maxLen;omega
 go_enter Tryz.func22,Tryz.ntmps22
 go_wp2_with (at_make;refine wpList_make_full _ rfl _ _ 48 rfl w.heap.size 124 i0 _ 3 Tryz.underlying48 hi aa O _ _ _ _ b.length rfl rfl rfl rfl l C (Nat.le_refl _) ?_)
 intro w1 d n
 have a:Below w.heap.size w w1:=(Below.refl _ _).grown n (Nat.le_refl _) (by intro k hk;cases hk)
 have r:w1.ownsRow w.heap.size 124 3 (.slice (some ⟨w.heap.size,0,none⟩) b.length b.length) b.length (List.replicate b.length (#[.int .i64 0,.int .i64 0,.string ByteArray.empty]:Array Value).toList).flatten:=by
  rw [<- ZcO (z:=#[.int .i64 0,.int .i64 0,.string ByteArray.empty]) (k:=3) rfl (by decide)]
  exact d
 clear n d
 go_wp2
 go_loopw [4] (fun i wr=>∃ (j:Nat) (css:List (List Value)),j <= b.length/\i=.int .i64 j/\Hid (css.length=b.length)/\Hid (∀ c ∈ css,c.length=3)/\Hid (∀ (i:Nat) c x,i < j -> css[i]? = some c -> b[i]? = some x -> EP (w.heap.size+1) wr c x)/\wr.ownsRow w.heap.size 124 3 (.slice (some ⟨w.heap.size,0,none⟩) b.length b.length) b.length css.flatten/\Below w.heap.size w wr) (fun i _=>b.length - (intOf i).toNat)
 case atStart=>exact ⟨0,_,by omega,rfl,by unfold Hid;simp,by intro c m;rw [List.eq_of_mem_replicate m];rfl,fun i c x h=>by omega,r,a⟩
 case round =>
  clear r a l C
  obtain ⟨j,css,hj,rfl,K,M,Y,d,a⟩:=hrel
  by_cases A:j < b.length
  ·obtain ⟨g,o,rfl,_,hg,f⟩:=f (by intro e;subst e;simp at A)
   obtain ⟨x,G⟩:∃ x,b[j]? = some x:=⟨b[j],by simp [A]⟩
   obtain ⟨cs,S,L,W⟩:=f j x G
   have HX:Hid (b[j]? = some x):=G
   replace L:=Zaf L a hg
   replace W:=stbP.1 _ _ _ _ _ W (Kp.of_below a)
   clear f G
   obtain ⟨m,X⟩:=W
   obtain rfl:cs=(#[.int .i64 x.p,.int .i64 x.t,.string x.s]:Array Value).toList:=congrArg Array.toList m
   clear m S
   have P:w.heap.size+1 <= wr.heap.size:=(d.lt w.heap.size rfl).2
   go_wp2_with (refine wpList_load_mid rfl 107 _ rfl g (o+j * 3) rfl _ _ L Tryz.underlying107 rfl (by kernel_rfl) ?_)
   refine (Zfn x _).mono ?_
   rintro e U ⟨rfl,u⟩
   have H:EP wr.heap.size U (#[.int .i64 x.p,.int .i64 x.t,.string x.s]:Array Value).toList x:=⟨rfl,X⟩
   have q:=Zac d u
   have J:=a.trans (u.mono a.size)
   have I:Kp (w.heap.size+1) wr U:=Kp.of_below u
   clear d u a L
   go_wp2_with (refine Zbl rfl 124 _ _ rfl w.heap.size w.heap.size j b.length 3 b.length css (#[.int .i64 x.p,.int .i64 x.t,.string x.s]:Array Value).toList rfl rfl rfl M.out K.out A (by simp [Value.oneCell']) (by kernel_rfl) q ?_)
   intro w3 D E
   have Q:Below w.heap.size w w3:=J.grown E J.size (fun k hk=>by simp at hk;omega)
   have F:Kp (w.heap.size+1) U w3:=Kp.of_grown E (by omega)
   have N:Hid ((css.set j (#[.int .i64 x.p,.int .i64 x.t,.string x.s]:Array Value).toList).length=b.length):=by unfold Hid;rw [List.length_set];exact K.out
   have T:Hid (∀ c ∈ css.set j (#[.int .i64 x.p,.int .i64 x.t,.string x.s]:Array Value).toList,c.length=3):=by
    intro c m
    rcases List.mem_or_eq_of_mem_set m with h | h
    ·exact M.out c h
    ·rw [h];rfl
   have Z:Hid (∀ (i:Nat) c y,i < j+1 -> (css.set j (#[.int .i64 x.p,.int .i64 x.t,.string x.s]:Array Value).toList)[i]? = some c -> b[i]? = some y -> EP (w.heap.size+1) w3 c y):=by
    intro i c y ad m hy
    by_cases e:i=j
    ·subst e
     rw [List.getElem?_set_self (by rw [K.out];exact A)] at m
     rw [HX.out] at hy
     cases m
     cases hy
     exact stbP.1 _ _ _ _ _ (stbP.2 _ _ _ _ _ H P) F
    ·rw [List.getElem?_set_ne (fun h=>e h.symm)] at m
     exact stbP.1 _ _ _ _ _ (stbP.1 _ _ _ _ _ (Y.out i c y (by omega) m hy) I) F
   clear q E H I F K M Y HX
   go_wp2
   go_roundw
   case rel=>exact ⟨j+1,_,by omega,by go_num,N,T,Z,D,Q⟩
   case measure=>simp [intOf];omega
  ·go_wp2
   go_ret
   have:j=b.length:=by omega
   subst this
   exact ⟨_,rfl,XRow.of_own d K.out M.out ab (fun i c x m G=>stbP.2 _ _ _ _ _ (Y.out i c x (List.getElem?_eq_some_iff.1 G).1 m G) (by omega)),a⟩
theorem Zjm (v:Value)(b:List Pd)(B:Nat)(l:Int)(w:World)(R:XRow B 3 EP w v b)(P:0 <= l)(Q:l <= 1048576) :
  Calls Tryz.prog 13 #[v,.int .i64 l] w fun e U=>∃ r:Int,e=.returned (.int .i64 r) /\ -1 <= r/\r <= 1048576/\(0 <= r -> b.length <= 1048576/\∀ x ∈ b,SmP x)/\Below w.heap.size w U:=by
 obtain ⟨Z,T,rfl,M,hm,a⟩:=R
 by_cases I:(b.length:Int) <= l
 ·go_enter Tryz.func13,Tryz.ntmps13
  go_wp2
  go_loopw [1,5] (fun l i wr=>∃ (k:Nat) (r:Int),k <= b.length/\i=.int .i64 k/\l=.int .i64 r/\0 <= r/\r <= 1048576/\Hid (∀ (j:Nat) x,b[j]? = some x -> j < k -> SmP x)/\Below w.heap.size w wr) (fun _ i _=>b.length - (intOf i).toNat)
  case atStart=>exact ⟨0,_,by omega,rfl,rfl,by omega,by omega,fun j x _ h=>by omega,Below.refl _ _⟩
  case round =>
   obtain ⟨k,r,Y,rfl,rfl,z,G,J,f⟩:=hrel
   by_cases m:k < b.length
   ·obtain ⟨g,o,rfl,_,S,a⟩:=a (by intro e;subst e;simp at m)
    obtain ⟨x,c⟩:∃ x,b[k]? = some x:=⟨b[k],by simp [m]⟩
    obtain ⟨cs,A,q,C⟩:=a k x c
    have N:Hid (b[k]? = some x):=c
    replace q:=Zaf q f S
    replace C:=stbP.1 _ _ _ _ _ C (Kp.of_below f)
    clear a c
    obtain ⟨H,D⟩:=C
    obtain rfl:cs=(#[.int .i64 x.p,.int .i64 x.t,.string x.s]:Array Value).toList:=congrArg Array.toList H
    clear H A
    go_wp2_with (refine wpList_load_mid rfl 107 _ rfl g (o+k * 3) rfl _ _ q Tryz.underlying107 rfl (by kernel_rfl) ?_)
    refine (Zfp x r _ D z G).mono ?_
    rintro e W ⟨L,rfl,V,X,E,d⟩
    have n:=f.trans (d.mono f.size)
    clear q d
    by_cases O:L < 0
    ·have HR:Hid (L = -1):=by unfold Hid;omega
     go_wp2
     go_ret
     exact ⟨-1,rfl,by omega,by omega,fun h=>by omega,n⟩
    ·have E:=E (by omega)
     have u:Hid (∀ (j:Nat) x,b[j]? = some x -> j < k+1 -> SmP x):=by
      intro j y F K
      by_cases e:j=k
      ·subst e
       rw [N.out] at F
       cases F
       exact E
      ·exact J.out j y F (by omega)
     go_wp2
     go_roundw
     case rel=>exact ⟨k+1,_,by omega,by go_num,rfl,by omega,by omega,u,n⟩
     case measure=>simp [intOf];omega
   ·go_wp2
    go_ret
    refine ⟨r,rfl,by omega,by omega,fun _=>⟨by omega,fun x c=>?_⟩,f⟩
    obtain ⟨j,K,e⟩:=List.getElem_of_mem c
    exact J.out j x (by rw [<- e];simp [K]) (by omega)
 ·go_enter Tryz.func13,Tryz.ntmps13
  go_wp2
  go_ret
  exact ⟨-1,rfl,by omega,by omega,fun h=>by omega,Below.refl _ _⟩
theorem ZjK (A vb:Value)(c:List Pd)(B C:Nat)(w:World)(J:XRow B 3 EP w A c)(E:XRow C 3 EP w vb c) :
  Calls Tryz.prog 30 #[A,vb] w fun e v=>e=.returned (.bool true)/\Below w.heap.size w v:=by
 obtain ⟨M,H,rfl,o,Q,b⟩:=J
 obtain ⟨N,F,rfl,l,_,a⟩:=E
 have P:((c.length:Int) != (c.length:Int))=false:=by simp
 go_enter Tryz.func30,Tryz.ntmps30
 go_wp2
 go_loopw [5] (fun i wr=>∃ k:Nat,k <= c.length/\i=.int .i64 k/\Below w.heap.size w wr) (fun i _=>c.length - (intOf i).toNat)
 case atStart=>exact ⟨0,by omega,rfl,Below.refl _ _⟩
 case round =>
  obtain ⟨k,O,rfl,g⟩:=hrel
  by_cases h:k < c.length
  ·obtain ⟨G,L,rfl,_,m,b⟩:=b (by intro e;subst e;simp at h)
   obtain ⟨K,I,rfl,_,j,a⟩:=a (by intro e;subst e;simp at h)
   obtain ⟨x,t⟩:∃ x,c[k]? = some x:=⟨c[k],by simp [h]⟩
   obtain ⟨cs,s,r,f⟩:=b k x t
   obtain ⟨ds,u,q,d⟩:=a k x t
   replace r:=Zaf r g m
   replace q:=Zaf q g j
   replace f:=stbP.1 _ _ _ _ _ f (Kp.of_below g)
   replace d:=stbP.1 _ _ _ _ _ d (Kp.of_below g)
   have z:∀ W,Below wr.heap.size wr W -> Calls Tryz.prog 67 #[.agg cs.toArray,.agg ds.toArray] W fun e v=>e=.returned (.bool true)/\Below W.heap.size W v:=by
    intro W D
    obtain ⟨o,_⟩:=f
    obtain ⟨l,_⟩:=d
    rw [o,l]
    exact (Zfs x W)
   have n:=Nat.lt_of_lt_of_le m g.size
   have p:=Nat.lt_of_lt_of_le j g.size
   clear b a t f d
   go_wp2_with fail
   refine Zl1 G L K I c.length H F k cs ds wr _ h s u n p r q z ?_
   intro u17 u18 u19 u20 u21 u22 u23 u24 u25 W D
   have y:Below w.heap.size w W:=g.trans (D.mono g.size)
   clear z r q
   go_wp2
   go_roundw
   case rel=>exact ⟨k+1,by omega,by go_num,y⟩
   case measure=>simp [intOf];omega
  ·go_wp2
   go_ret
   exact ⟨rfl,g⟩
def ES (B:Nat)(w:World)(cs:List Value)(ts:List ByteArray):Prop:=∃ v,cs=[v]/\StRow w v ts/\Fr B v
theorem stbS:Stb ES:=⟨fun _ _ _ _ _ ⟨v,h,r,f⟩ hk=>⟨v,h,r.kp f hk,f⟩,fun _ _ _ _ _ ⟨v,h,r,f⟩ hc=>⟨v,h,r,f.mono hc⟩⟩
def SmS (ts:List ByteArray):Prop:=ts.length <= 1048576/\∀ x ∈ ts,x.size <= 1048576
theorem ZmZ:(Tryz.prog.info? 62).map (fun i=>(i.zero,i.size,i.bytes))=some (some (.slice none 0 0),1,24):=by kernel_rfl
theorem ZaQ {w:World}{g o:Nat}{v:Value}(h:w.rangeAt g o [v]):w.cell? ⟨g,o,none⟩=some v:=h 0 v rfl
theorem ZjR (a:List Value):(a.map fun u=>[u]).flatten=a:=by
 induction a with
 | nil=>rfl
 | cons u a ih=>simp [ih]
theorem ZfQ (v:Value)(f:List (List ByteArray))(B:Nat)(w:World)(R:XRow B 1 ES w v f)(hm:f.length <= 2097152)(hs:∀ x ∈ f,SmS x) :
  Calls Tryz.prog 23 #[v] w fun e w'=>∃ v',e=.returned v'/\XRow w.heap.size 1 ES w' v' f/\Below w.heap.size w w':=by
 obtain ⟨ao,ae,rfl,ac,aa,l⟩:=R
 obtain ⟨i0,hi,Y,Q,U⟩:=info_parts ZmZ
 have n:i0.bytes * f.length <= 281474976710656:=by rw [U];omega
 have C:f.length <= maxLen:=by unfold maxLen;omega
 go_enter Tryz.func23,Tryz.ntmps23
 go_wp2_with (at_make;refine wpList_make_full _ rfl _ _ 33 rfl w.heap.size 62 i0 _ 1 Tryz.underlying33 hi Y Q _ _ _ _ f.length rfl rfl rfl rfl n C (Nat.le_refl _) ?_)
 intro w1 d r
 have b:Below w.heap.size w w1:=(Below.refl _ _).grown r (Nat.le_refl _) (by intro k hk;cases hk)
 clear r
 go_wp2
 go_loopw [4] (fun i wr=>∃ (j:Nat) (t:List Value),j <= f.length/\i=.int .i64 j/\Hid (t.length=f.length)/\Hid (∀ (i:Nat) c x,i < j -> t[i]? = some c -> f[i]? = some x -> StRow wr c x/\Fr (w.heap.size+1) c)/\wr.ownsRow w.heap.size 62 1 (.slice (some ⟨w.heap.size,0,none⟩) f.length f.length) f.length t/\Below w.heap.size w wr) (fun i _=>f.length - (intOf i).toNat)
 case atStart=>exact ⟨0,_,by omega,rfl,by unfold Hid;simp [madeCells],fun i c x h=>by omega,d,b⟩
 case round =>
  clear d b n C
  obtain ⟨j,t,hj,rfl,M,V,d,b⟩:=hrel
  by_cases A:j < f.length
  ·obtain ⟨g,o,rfl,_,hg,l⟩:=l (by intro e;subst e;simp at A)
   obtain ⟨x,D⟩:∃ x,f[j]? = some x:=⟨f[j],by simp [A]⟩
   obtain ⟨cs,T,N,hE⟩:=l j x D
   have HX:Hid (f[j]? = some x):=D
   replace N:=Zaf N b hg
   obtain ⟨u,rfl,R1,_⟩:=stbS.1 _ _ _ _ _ hE (Kp.of_below b)
   have c0:=ZaQ N
   rw [Nat.mul_one] at c0
   have J:=hs x (List.mem_of_getElem? D)
   obtain ⟨p0,q0,rfl⟩:=R1.small
   have H:w.heap.size+1 <= wr.heap.size:=(d.lt w.heap.size rfl).2
   clear l D T N hE
   go_wp2_with fail
   refine (Zco _ x _ R1 (by have:=J.1;omega)).mono ?_
   rintro e I ⟨u2,rfl,O,s⟩
   have X:=Fr.of_own O
   have P2:=StRow.of_own O (by have:=J.1;omega) R1.szs
   obtain ⟨G,F,rfl⟩:=Zag O
   have m:=Zac d s
   have ab:=b.trans (s.mono b.size)
   have K:Kp (w.heap.size+1) wr I:=Kp.of_below s
   have d0:=m.cellAt j (by omega)
   obtain ⟨y,hy⟩:∃ y,t[j]? = some y:=⟨_,List.getElem?_eq_getElem (by rw [M.out];exact A)⟩
   rw [hy] at d0
   have f0:=m.frozenAt j
   obtain ⟨S0,g0⟩:=m.stored j (.slice G x.length F)
   have S:Below w.heap.size w (I.setCell ⟨w.heap.size,j,none⟩ (.slice G x.length F)):=ab.setCell (p:=⟨w.heap.size,j,none⟩) (by simp) _
   have E:Kp (w.heap.size+1) I (I.setCell ⟨w.heap.size,j,none⟩ (.slice G x.length F)):=Kp.of_set (by omega)
   have P:Hid ((t.set j (.slice G x.length F)).length=f.length):=by unfold Hid;rw [List.length_set];exact M.out
   have W:Hid (∀ (i:Nat) c y,i < j+1 -> (t.set j (.slice G x.length F))[i]? = some c -> f[i]? = some y -> StRow (I.setCell ⟨w.heap.size,j,none⟩ (.slice G x.length F)) c y/\Fr (w.heap.size+1) c):=by
    intro i c z ad q Z
    by_cases e:i=j
    ·subst e
     rw [List.getElem?_set_self (by rw [M.out];exact A)] at q
     rw [HX.out] at Z
     cases q
     cases Z
     exact ⟨P2.kp (X.mono H) E,X.mono H⟩
    ·rw [List.getElem?_set_ne (fun h=>e h.symm)] at q
     obtain ⟨h1,L⟩:=V.out i c z (by omega) q Z
     exact ⟨(h1.kp L K).kp L E,L⟩
   clear d m s b g0 hy V M HX P2 X O K E c0
   go_wp2
   go_roundw
   case rel=>exact ⟨j+1,_,by omega,by go_num,P,W,S0,S⟩
   case measure=>simp [intOf];omega
  ·go_wp2
   go_ret
   have:j=f.length:=by omega
   subst this
   rw [<- ZjR t] at d
   refine ⟨_,rfl,XRow.of_own d (by rw [List.length_map];exact M.out) (by intro c q;simp at q;obtain ⟨a,_,rfl⟩:=q;rfl) aa (fun i c x q D=>?_),b⟩
   rw [List.getElem?_map] at q
   cases hu:t[i]? with
   | none=>rw [hu] at q;cases q
   | some u =>
    rw [hu] at q
    cases q
    obtain ⟨h1,L⟩:=V.out i u x (List.getElem?_eq_some_iff.1 D).1 hu D
    exact ⟨u,rfl,h1,L.mono (by omega)⟩
theorem Zfb (v:Value)(b:List (List ByteArray))(B:Nat)(l:Int)(w:World)(R:XRow B 1 ES w v b)(M:0 <= l)(N:l <= 1048576) :
  Calls Tryz.prog 14 #[v,.int .i64 l] w fun e Q=>∃ r:Int,e=.returned (.int .i64 r) /\ -1 <= r/\r <= 1048576/\(0 <= r -> b.length <= 1048576/\∀ x ∈ b,SmS x)/\Below w.heap.size w Q:=by
 obtain ⟨X,P,rfl,J,Z,a⟩:=R
 by_cases D:(b.length:Int) <= l
 ·go_enter Tryz.func14,Tryz.ntmps14
  go_wp2
  go_loopw [1,5] (fun l i wr=>∃ (k:Nat) (r:Int),k <= b.length/\i=.int .i64 k/\l=.int .i64 r/\0 <= r/\r <= 1048576/\Hid (∀ (j:Nat) x,b[j]? = some x -> j < k -> SmS x)/\Below w.heap.size w wr) (fun _ i _=>b.length - (intOf i).toNat)
  case atStart=>exact ⟨0,_,by omega,rfl,rfl,by omega,by omega,fun j x _ h=>by omega,Below.refl _ _⟩
  case round =>
   obtain ⟨k,r,W,rfl,rfl,s,C,E,f⟩:=hrel
   by_cases m:k < b.length
   ·obtain ⟨g,o,rfl,_,O,a⟩:=a (by intro e;subst e;simp at m)
    obtain ⟨x,c⟩:∃ x,b[k]? = some x:=⟨b[k],by simp [m]⟩
    obtain ⟨cs,t,p,F⟩:=a k x c
    have K:Hid (b[k]? = some x):=c
    replace p:=Zaf p f O
    obtain ⟨u,rfl,I,_⟩:=stbS.1 _ _ _ _ _ F (Kp.of_below f)
    have c0:=ZaQ p
    rw [Nat.mul_one] at c0
    obtain ⟨p0,S,rfl⟩:=I.small
    clear a c t p F
    go_wp2_with fail
    refine (Zcy _ x r _ I s C).mono ?_
    rintro e U ⟨H,rfl,T,V,z,d⟩
    have n:=f.trans (d.mono f.size)
    clear d c0
    by_cases L:H < 0
    ·have Y:Hid (H = -1):=by unfold Hid;omega
     go_wp2
     go_ret
     exact ⟨-1,rfl,by omega,by omega,fun h=>by omega,n⟩
    ·have z:SmS x:=z (by omega)
     have q:Hid (∀ (j:Nat) x,b[j]? = some x -> j < k+1 -> SmS x):=by
      intro j y A G
      by_cases e:j=k
      ·subst e
       rw [K.out] at A
       cases A
       exact z
      ·exact E.out j y A (by omega)
     go_wp2
     go_roundw
     case rel=>exact ⟨k+1,_,by omega,by go_num,rfl,by omega,by omega,q,n⟩
     case measure=>simp [intOf];omega
   ·go_wp2
    go_ret
    refine ⟨r,rfl,by omega,by omega,fun _=>⟨by omega,fun x c=>?_⟩,f⟩
    obtain ⟨j,G,e⟩:=List.getElem_of_mem c
    exact E.out j x (by rw [<- e];simp [G]) (by omega)
 ·go_enter Tryz.func14,Tryz.ntmps14
  go_wp2
  go_ret
  exact ⟨-1,rfl,by omega,by omega,fun h=>by omega,Below.refl _ _⟩
theorem ZfH (y vb:Value)(c:List (List ByteArray))(B C:Nat)(w:World)(K:XRow B 1 ES w y c)(A:XRow C 1 ES w vb c) :
  Calls Tryz.prog 31 #[y,vb] w fun e s=>e=.returned (.bool true)/\Below w.heap.size w s:=by
 obtain ⟨Q,I,rfl,O,U,b⟩:=K
 obtain ⟨R,E,rfl,G,_,a⟩:=A
 have T:((c.length:Int) != (c.length:Int))=false:=by simp
 go_enter Tryz.func31,Tryz.ntmps31
 go_wp2
 go_loopw [5] (fun i wr=>∃ k:Nat,k <= c.length/\i=.int .i64 k/\Below w.heap.size w wr) (fun i _=>c.length - (intOf i).toNat)
 case atStart=>exact ⟨0,by omega,rfl,Below.refl _ _⟩
 case round =>
  obtain ⟨k,S,rfl,d⟩:=hrel
  by_cases f:k < c.length
  ·obtain ⟨F,P,rfl,_,j,b⟩:=b (by intro e;subst e;simp at f)
   obtain ⟨L,J,rfl,_,h,a⟩:=a (by intro e;subst e;simp at f)
   obtain ⟨x,r⟩:∃ x,c[k]? = some x:=⟨c[k],by simp [f]⟩
   obtain ⟨cs,D,q,m⟩:=b k x r
   obtain ⟨ds,M,o,g⟩:=a k x r
   replace q:=Zaf q d j
   replace o:=Zaf o d h
   obtain ⟨u,rfl,N,_⟩:=stbS.1 _ _ _ _ _ m (Kp.of_below d)
   obtain ⟨z,rfl,H,_⟩:=stbS.1 _ _ _ _ _ g (Kp.of_below d)
   have c1:=ZaQ q
   have c2:=ZaQ o
   rw [Nat.mul_one] at c1 c2
   have v:∀ W,Below wr.heap.size wr W -> Calls Tryz.prog 68 #[u,z] W fun e s=>e=.returned (.bool true)/\Below W.heap.size W s:=fun W p=>Zcz _ _ x W (N.below p) (H.below p)
   have l:=Nat.lt_of_lt_of_le j d.size
   have n:=Nat.lt_of_lt_of_le h d.size
   clear b a r m g q o
   go_wp2_with fail
   refine Zl8 F P L J c.length I E k u z wr _ f l n c1 c2 v ?_
   intro u17 u18 u19 u20 u21 u22 u23 u24 u25 W p
   have t:Below w.heap.size w W:=d.trans (p.mono d.size)
   clear v c1 c2
   go_wp2
   go_roundw
   case rel=>exact ⟨k+1,by omega,by go_num,t⟩
   case measure=>simp [intOf];omega
  ·go_wp2
   go_ret
   exact ⟨rfl,d⟩
end Go.Proofs.YtfeodlbpnghakaaGreatDoor
