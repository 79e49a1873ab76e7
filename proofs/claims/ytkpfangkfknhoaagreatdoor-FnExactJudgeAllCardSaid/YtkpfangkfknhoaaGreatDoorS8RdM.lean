/-
  The contract of spec.l8Read: nodes are read as the mathematics says, and whether all was right. Bounds of the form alone.
-/
import Derived.Test.YtkpfangkfknhoaaGreatDoorS8RgM
import Derived.Test.YtkpfangkfknhoaaGreatDoorSGTextM
set_option maxRecDepth 100000
set_option maxHeartbeats 12800000
namespace Go.Proofs.YtkpfangkfknhoaaGreatDoor
open Go.Proofs.Tryz
open Go.RowKit
theorem Row.apart {w:World}{zs:List Int}{g o:Nat}{t:TypeId}{c:Array Value}{b:Nat}(d:0 < zs.length)(a:∀ i,i < zs.length -> w.cell? ⟨g,o+i,none⟩=some (.int .u8 (zs.getD i 0)))(e:w.heap[b]? = some (.cells c t (0,0)))(f:∀ (i:Nat) (z:Int),c[i]? ≠ some (.int .u8 z)):g ≠ b:=by
 rintro rfl;have:=a 0 d;rw [cd w g (o+0) _ _ _ e] at this;exact f _ _ this
theorem ZlM (c:Option Addr)(n b:Nat)(a:Int)(ok:Bool):∀ (i:Nat) (z:Int),(#[Value.slice c n b,.int .i64 a,.bool ok]:Array Value)[i]? ≠ some (.int .u8 z):=by
 intro i z h
 match i with
 | 0=>simp at h
 | 1=>simp at h
 | 2=>simp at h
 | i+3=>simp at h
theorem Zl0 (b:Option Addr)(n a:Nat):∀ (i:Nat) (z:Int),(#[Value.slice b n a]:Array Value)[i]? ≠ some (.int .u8 z):=by
 intro i z h
 match i with
 | 0=>simp at h
 | i+1=>simp at h
theorem Row.k2 {W e:World}{v:Value}{zs:List Int}{C j:Nat}{a:Int}{ok:Bool}{m:Option Addr}{p t:Nat}(R:Row W v zs)(x:C8 W C v a ok)(s:W.heap[j]? = some (.cells #[.slice m p t] 40 (0,0)))(f:K2 C j W e):Row e v zs:=by
 obtain ⟨l,d,rfl,q,n,u,r⟩:=R;refine ⟨l,d,rfl,q,n,u,fun b=>?_⟩;obtain ⟨g,o,rfl,k,c⟩:=r b;have h:=List.length_pos_iff.2 b;have n1:=Row.apart h c x (ZlM _ _ _ _ _);have n2:=Row.apart h c s (Zl0 _ _ _);refine ⟨g,o,rfl,cy k f.size,fun i hi=>?_⟩;rw [World.cell?_of_block (w:=W) (f.block g k n1 n2)];exact c i hi
theorem ZaN (b:Nat)(v:Value)(zs:List Int)(a:Int)(ok:Bool)(w:World)(R:Row w v zs)(h:C8 w b v a ok)(l:0 <= a)(k:a <= zs.length) :
  ∃ x c f,num8 zs a ok=(x,c,f)/\0 <= x/\x <= 9223372036854775807/\0 <= c/\c <= zs.length/\Calls prog 114 #[.pointer (some ⟨b,0,none⟩)] w fun e g=>e=.returned (.int .i64 x)/\C8 g b v c f/\w.grownBy g (some b):=by
 obtain ⟨_,_,_,_,m,_⟩:=id R;have d:=Zc7 zs a ok l k;have j:=Zb9 b v zs a ok w R h (by omega) (by omega);obtain ⟨p,i⟩:∃ p,num8 zs a ok=p:=⟨_,rfl⟩;obtain ⟨x,c,f⟩:=p;rw [i] at d j;exact ⟨x,c,f,i,d.1,d.2.1,d.2.2.1,d.2.2.2,j⟩
theorem Zbp (zs:List Int)(k a:Int)(ok:Bool):(sB zs k a ok).1.s.size <= zs.length:=by
 unfold sB
 repeat' split
 all_goals first | exact ZcQ zs a | exact Nat.zero_le _
theorem C8.below {w b:World}{C:Nat}{v:Value}{a:Int}{ok:Bool}(h:C8 w C v a ok)(c:Below w.heap.size w b):C8 b C v a ok:=(bb h c)
theorem Zdv {w W c:World}{C n g m d:Nat}{q e:Option Addr}{f:Int}{k:Bool}{ys:List Value}(b:Bool)(E:C < w.heap.size)(o:w.grownBy W (some C))(h:Below W.heap.size W c)(s:c.heap[C]? = some (.cells #[.slice q n g,.int .i64 f,.bool k] 188 (0,0)))(j:W.heap[w.heap.size]? = some (.cells #[.slice none 0 0] 40 (0,0)))(l:W.heap[w.heap.size+1]? = some (.cells #[.slice e m d] 40 (0,0)))(r:W.ownsRow (w.heap.size+1+1) 194 5 (.slice e m d) m ys) :
  (c.setCell ⟨C,2,none⟩ (.bool b)).cell? ⟨w.heap.size+1,0,none⟩=some (.slice e m d)/\(c.setCell ⟨C,2,none⟩ (.bool b)).cell? ⟨w.heap.size,0,none⟩=some (.slice none 0 0)/\(c.setCell ⟨C,2,none⟩ (.bool b)).frozen? ⟨w.heap.size,0,none⟩=false /\
  ((c.setCell ⟨C,2,none⟩ (.bool b)).setCell ⟨w.heap.size,0,none⟩ (.slice e m d)).heap[w.heap.size]? = some (.cells #[.slice e m d] 40 (0,0))/\((c.setCell ⟨C,2,none⟩ (.bool b)).setCell ⟨w.heap.size,0,none⟩ (.slice e m d)).ownsRow w.heap.size 194 5 (.slice e m d) m ys /\
  C8 ((c.setCell ⟨C,2,none⟩ (.bool b)).setCell ⟨w.heap.size,0,none⟩ (.slice e m d)) C (.slice q n g) f b/\w.grownBy ((c.setCell ⟨C,2,none⟩ (.bool b)).setCell ⟨w.heap.size,0,none⟩ (.slice e m d)) (some C):=by
 have B:=(bl j);have x:=(bl l);have y:=(h.block _ B).trans j;have D:=(h.block _ x).trans l;have v:=Zad r h;have i:=(cr c ⟨C,2,none⟩ w.heap.size (.bool b) (by show w.heap.size ≠ C;omega)).trans y;have G:=(cr c ⟨C,2,none⟩ (w.heap.size+1) (.bool b) (by show w.heap.size+1 ≠ C;omega)).trans D;have c2:=cu c C 2 _ _ (.bool b) s;have z:=cI v (a:=⟨C,2,none⟩) (by show C < w.heap.size+1+1;omega) (.bool b);have A:w.grownBy (c.setCell ⟨C,2,none⟩ (.bool b)) (some C):=Zaj (Zal o h o.size) (Zan c C 2 _);have F:=cu (c.setCell ⟨C,2,none⟩ (.bool b)) w.heap.size 0 _ _ (.slice e m d) i;have c3:=(cr (c.setCell ⟨C,2,none⟩ (.bool b)) ⟨w.heap.size,0,none⟩ C (.slice e m d) (by show C ≠ w.heap.size;omega)).trans c2
 have u:=Zah (cI z (a:=⟨w.heap.size,0,none⟩) (by show w.heap.size < w.heap.size+1+1;omega) (.slice e m d)) (show w.heap.size <= w.heap.size+1+1 by omega);have t:w.grownBy ((c.setCell ⟨C,2,none⟩ (.bool b)).setCell ⟨w.heap.size,0,none⟩ (.slice e m d)) (some C):=Zal A ((cj w.heap.size _).setCell (p:=⟨w.heap.size,0,none⟩) (ce _) _) (ce _);exact ⟨cd _ _ 0 _ _ _ G,cd _ _ 0 _ _ _ i,cw _ _ 0 _ _ i,F,u,c3,t⟩
theorem ZeT {C nb P:Nat}{d wr W v:World}{x:Nd}{p u o:Value}{n:Nat}{l:List Value}{b:Int}{j:Bool}(y:Nd)(c:Nat)(val h:Value)(q:W.heap[nb]? = some (.cells (ndA x) 194 (0,0)))(g:W.heap[P]? = some (.cells #[p] 40 (0,0)))(f:W.ownsRow d.heap.size 194 5 u n l)(F:K2 C P d W)(i:W.grownBy v (some C))(B:C8 v C o b j)(k:∀ j,u.ownBlock=some j -> d.heap.size <= j/\j < wr.heap.size)(n1:C < d.heap.size)(n2:P < d.heap.size)(G:P ≠ C)(n4:wr.heap.size <= nb)(H:d.heap.size <= wr.heap.size)(z:(ndA x)[c]? = some h)(s:(ndA x).setIfInBounds c val=ndA y) :
  v.cell? ⟨nb,c,none⟩=some h/\v.frozen? ⟨nb,c,none⟩=false/\(v.setCell ⟨nb,c,none⟩ val).heap[nb]? = some (.cells (ndA y) 194 (0,0))/\(v.setCell ⟨nb,c,none⟩ val).heap[P]? = some (.cells #[p] 40 (0,0))/\C8 (v.setCell ⟨nb,c,none⟩ val) C o b j/\(v.setCell ⟨nb,c,none⟩ val).ownsRow d.heap.size 194 5 u n l/\K2 C P d (v.setCell ⟨nb,c,none⟩ val)/\d.heap.size <= v.heap.size:=by
 have A:=(bl q);have D:=(bl g);have m:=(i.block nb A (by simp;omega)).trans q;have w:=(i.block P D (by simp;omega)).trans g;have E:=f.kept i (Zck f (by omega));have r:=F.trans (K2.ofP i);refine ⟨(cd v nb c _ _ _ m).trans z,cw v nb c _ _ m,?_,(cr v ⟨nb,c,none⟩ P val (by show P ≠ nb;omega)).trans w,(cr v ⟨nb,c,none⟩ C val (by show C ≠ nb;omega)).trans B,ownsRow_setCell_other E (a:=⟨nb,c,none⟩) (fun e=>by have:=(k nb e).2;omega) val,r.row (Zan v nb c val) (fun j t=>by cases t;omega),r.size⟩;rw [<- s];exact cu v nb c _ _ val m
theorem Zb2 {nb P C:Nat}{V:World}{f g:Value}{b:Int}{j:Bool}(x:Nd)(A:Nat)(h:V.heap.size=A)(d:V.heap[nb]? = some (.cells (ndA x) 194 (0,0)))(c:V.heap[P]? = some (.cells #[f] 40 (0,0)))(i:C8 V C g b j) :
  V.cell? ⟨nb,0,none⟩=some (.int .i64 x.k)/\V.cell? ⟨nb,1,none⟩=some (.int .i64 x.n)/\V.cell? ⟨nb,2,none⟩=some (.string x.s)/\V.cell? ⟨nb,3,none⟩=some (.int .i64 x.a)/\V.cell? ⟨nb,4,none⟩=some (.int .i64 x.b)/\V.cell? ⟨P,0,none⟩=some f /\
  Below V.heap.size V (V.alloc (Obj.cells (ndA x) 194))/\(V.alloc (Obj.cells (ndA x) 194)).heap[P]? = some (.cells #[f] 40 (0,0))/\C8 (V.alloc (Obj.cells (ndA x) 194)) C g b j/\V.heap.size <= (V.alloc (Obj.cells (ndA x) 194)).heap.size/\∀ (j:Nat) u,(ncs [x])[j]? = some u -> (V.alloc (Obj.cells (ndA x) 194)).cell? ((⟨A,0,none⟩:Addr).add j)=some u:=by
 subst h;have e:Below V.heap.size V (V.alloc (Obj.cells (ndA x) 194)):=(cj _ _).alloc (ce _) _;exact ⟨cd V _ 0 _ _ _ d,cd V _ 1 _ _ _ d,cd V _ 2 _ _ _ d,cd V _ 3 _ _ _ d,cd V _ 4 _ _ _ d,cd V _ 0 _ _ _ c,e,(bb c e),i.below e,e.size,World.news_of_block (cs:=ndA x) (t:=194) (fr:=(0,0)) (co V _)⟩
theorem Zbq {C P:Nat}{g wr V n d:World}{p u f q:Value}{m:Nat}{l:List Value}{b:Int}{j:Bool}(w:Below V.heap.size V n)(i:n.heap[P]? = some (.cells #[p] 40 (0,0)))(r:C8 n C q b j)(s:K2 C P g V)(c:n.grownBy d u.ownBlock)(k:d.ownsRow g.heap.size 194 5 f m l)(h:∀ j,u.ownBlock=some j -> g.heap.size <= j/\j < wr.heap.size)(n1:C < g.heap.size)(n2:P < g.heap.size)(y:P ≠ C) :
  d.cell? ⟨P,0,none⟩=some p/\d.frozen? ⟨P,0,none⟩=false/\(d.setCell ⟨P,0,none⟩ f).heap[P]? = some (.cells #[f] 40 (0,0))/\K2 C P g (d.setCell ⟨P,0,none⟩ f)/\C8 (d.setCell ⟨P,0,none⟩ f) C q b j/\(d.setCell ⟨P,0,none⟩ f).ownsRow g.heap.size 194 5 f m l:=by
 have o:=(c.block P (bl i) (fun e=>by have:=(h _ e.symm).1;omega)).trans i;have v:=(c.block C (bl r) (fun e=>by have:=(h _ e.symm).1;omega)).trans r;have x:=(s.trans (K2.ofB w)).row c (fun j t=>(h j t).1);exact ⟨cd d _ 0 _ _ _ o,cw d _ 0 _ _ o,cu d P 0 _ _ f o,x.trans (K2.ofM (Zan d P 0 f)),(cr d ⟨P,0,none⟩ C _ (by show C ≠ P;omega)).trans v,cI k (a:=⟨P,0,none⟩) (by show P < g.heap.size;omega) f⟩
theorem Zbs {zs:List Int}{a e b:Int}{ok j:Bool}{m:Nat}{d:List Nd}(x:Nd)(h:Hid (sN zs e=(x,b,j)))(f:x.s.size <= zs.length)(g:Hid (sP zs a ok=sNs zs (m+1) d e true))(i:Hid (∀ x ∈ d,x.s.size <= zs.length)) :
  Hid (sP zs a ok=sNs zs m (d ++ [x]) b j)/\Hid ((d ++ [x]).length=d.length+1)/\Hid (∀ y ∈ d ++ [x],y.s.size <= zs.length):=by
 refine ⟨by unfold Hid;rw [g.out,sNs,if_pos rfl,h.out],by unfold Hid;rw [List.length_append];rfl,?_⟩;intro y c;rcases List.mem_append.1 c with c | c
 ·exact i.out y c
 ·rw [List.mem_singleton] at c;subst c;exact f
theorem ZeC (C:Nat)(v:Value)(zs:List Int)(a:Int)(ok:Bool)(w:World)(R:Row w v zs)(h:C8 w C v a ok)(h0:0 <= a)(h1:a <= zs.length) :
  Calls prog 150 #[.pointer (some ⟨C,0,none⟩)] w fun e w'=>∃ vs,e=.returned (.agg #[vs])/\w'.ownsRow w.heap.size 194 5 vs (sP zs a ok).1.length (ncs (sP zs a ok).1)/\C8 w' C v (sP zs a ok).2.1 (sOk zs a ok)/\w.grownBy w' (some C)/\∀ x ∈ (sP zs a ok).1,x.s.size <= zs.length:=by
 obtain ⟨i0,hi,aA,aC,az⟩:=info_parts Zn1;obtain ⟨ao,q,rfl,_,bZ,_⟩:=id R;have aS:=(bl h);obtain ⟨aT,x0,x1⟩:=Zax w (Obj.cells #[.slice none 0 0] 40) (Obj.cells #[.slice none 0 0] 40)
 go_enter func150,ntmps150
 go_wp2_with fail;obtain ⟨W2,bD⟩:∃ W2,(w.alloc (Obj.cells #[.slice none 0 0] 40)).alloc (Obj.cells #[.slice none 0 0] 40)=W2:=⟨_,rfl⟩;rw [bD] at aT x0 x1 ⊢;have b2:=(bl x1);obtain ⟨n,a1,k1,en,n0,n1,bH,bR,HN⟩:=ZaN C (.slice ao zs.length q) zs a ok W2 (R.below aT) (h.below aT) h0 h1;refine HN.mono ?_;rintro e w1 ⟨rfl,ah,aZ⟩;have bL:=x1;have x0:=(aZ.block _ (by omega) (by simp;omega)).trans x0;have x1:=(aZ.block _ (by omega) (by simp;omega)).trans x1;have bc:w.grownBy w1 (some C):=Zaj (ZcN aT _) aZ;have bV:=aZ.size;have HP:Hid (sP zs a ok=sNs zs n.toNat [] a1 (k1 && decide (n <= 3000))):=by unfold Hid sP Zhj;rw [en]
 have ax:Row w1 (.slice ao zs.length q) zs:=(R.below aT).k2 (h.below aT) bL (K2.ofP aZ);clear en HN aZ aT bD;have cC:w1.cell? ⟨C,2,none⟩=some (.bool k1):=cd _ _ 2 _ _ _ ah;have fC:w1.frozen? ⟨C,2,none⟩=false:=cw _ _ 2 _ _ ah
 by_cases U:3000 < n
 ·have HX:Hid (sP zs a ok=([],a1,false)):=by unfold Hid;rw [HP.out,decide_eq_false (by omega),Bool.and_false,Zcd]
  have HS:Hid (sOk zs a ok=false):=by unfold Hid sOk;rw [HX.out];rfl
  have aW:C8 (w1.setCell ⟨C,2,none⟩ (.bool false)) C (.slice ao zs.length q) a1 false:=cu w1 C 2 _ _ (.bool false) ah;have y0:=(cr w1 ⟨C,2,none⟩ w.heap.size (.bool false) (by show w.heap.size ≠ C;omega)).trans x0;have y1:=(cr w1 ⟨C,2,none⟩ (w.heap.size+1) (.bool false) (by show w.heap.size+1 ≠ C;omega)).trans x1;have bF:w.grownBy (w1.setCell ⟨C,2,none⟩ (.bool false)) (some C):=Zaj bc (Zan w1 C 2 _);have cD:(w1.setCell ⟨C,2,none⟩ (.bool false)).cell? ⟨C,2,none⟩=some (.bool false):=cd _ _ 2 _ _ _ aW;go_wp2_with fail;obtain ⟨W3,bu⟩:∃ W3,w1.setCell ⟨C,2,none⟩ (.bool false)=W3:=⟨_,rfl⟩;rw [bu] at aW y0 y1 bF cD ⊢;clear bu cC fC ah x0 x1 bc ax
  go_loopw [5] (fun i wr=>i=.int .i64 0/\wr=W3) (fun _ _=>0)
  case atStart=>exact ⟨rfl,rfl⟩
  case round =>
   obtain ⟨rfl,rfl⟩:=hrel;have n3:(0:Int) < n:=by omega
   go_wp2_with fail;refine ZcZ C (w.heap.size+1) zs.length q 0 0 ao none a1 _ _ (by omega) aW y1 ?_;intro u105 u106 u107 u108 u109 u110 u111 u112 u113 u114 u115 u116 u117 u118 u119 u120 u121 u122 u123 u124 u125 u126 u127 WF ae ab;obtain ⟨q1,q2,q3,q4,q5,q6,q7⟩:=Zdv false aS bF ae ab y0 y1 (World.ownsRow_nil _ _ _ _);clear ae ab;go_wp2;refine cx (results_cell_row rfl _ _ w.heap.size 40 _ (0,0) _ rfl q4 underlying40 rfl ZnX) rfl ⟨.slice none 0 0,rfl,?_,?_,q7,?_⟩
   ·rw [HX.out];exact q5
   ·rw [HS.out,HX.out];exact q6
   ·rw [HX.out];intro x hx;cases hx
 obtain ⟨N,rfl⟩:=cG n0;have b0:N <= 3000:=by omega
 cases k1 with
 | false =>
  have HX:Hid (sP zs a ok=([],a1,false)):=by unfold Hid;rw [HP.out,Bool.false_and,Zcd]
  have HS:Hid (sOk zs a ok=false):=by unfold Hid sOk;rw [HX.out];rfl
  go_wp2_with fail
  go_loopw [5] (fun i wr=>i=.int .i64 0/\wr=w1) (fun _ _=>0)
  case atStart=>exact ⟨rfl,rfl⟩
  case round =>
   obtain ⟨rfl,rfl⟩:=hrel;rcases Nat.eq_zero_or_pos N with bB | bB
   ·subst bB
    go_wp2_with fail;refine ZcZ C (w.heap.size+1) zs.length q 0 0 ao none a1 _ _ (by omega) ah x1 ?_;intro u105 u106 u107 u108 u109 u110 u111 u112 u113 u114 u115 u116 u117 u118 u119 u120 u121 u122 u123 u124 u125 u126 u127 WF ae ab;obtain ⟨q1,q2,q3,q4,q5,q6,q7⟩:=Zdv false aS bc ae ab x0 x1 (World.ownsRow_nil _ _ _ _);clear ae ab;go_wp2;refine cx (results_cell_row rfl _ _ w.heap.size 40 _ (0,0) _ rfl q4 underlying40 rfl ZnX) rfl ⟨.slice none 0 0,rfl,?_,?_,q7,?_⟩
    ·rw [HX.out];exact q5
    ·rw [HS.out,HX.out];exact q6
    ·rw [HX.out];intro x hx;cases hx
   ·have b3:(0:Int) < N:=by omega
    go_wp2_with fail;refine ZcZ C (w.heap.size+1) zs.length q 0 0 ao none a1 _ _ (by omega) ah x1 ?_;intro u105 u106 u107 u108 u109 u110 u111 u112 u113 u114 u115 u116 u117 u118 u119 u120 u121 u122 u123 u124 u125 u126 u127 WF ae ab;obtain ⟨q1,q2,q3,q4,q5,q6,q7⟩:=Zdv false aS bc ae ab x0 x1 (World.ownsRow_nil _ _ _ _);clear ae ab;go_wp2;refine cx (results_cell_row rfl _ _ w.heap.size 40 _ (0,0) _ rfl q4 underlying40 rfl ZnX) rfl ⟨.slice none 0 0,rfl,?_,?_,q7,?_⟩
    ·rw [HX.out];exact q5
    ·rw [HS.out,HX.out];exact q6
    ·rw [HX.out];intro x hx;cases hx
 | true =>
  have HP:Hid (sP zs a ok=sNs zs N [] a1 true):=by unfold Hid;rw [HP.out,decide_eq_true (by omega)];rfl
  go_wp2_with fail;clear cC fC
  go_loopw [5] (fun i wr=>∃ (k m:Nat) (xs:List Nd) (G:Int) (kk:Bool) (av:Option Addr) (cv:Nat),k+m=N/\i=.int .i64 k/\Hid (sP zs a ok=sNs zs m xs G kk)/\Hid (xs.length=k)/\Hid (∀ x ∈ xs,x.s.size <= zs.length)/\0 <= G/\G <= zs.length/\C8 wr C (.slice ao zs.length q) G kk/\wr.heap[w.heap.size+1]? = some (.cells #[.slice av k cv] 40 (0,0))/\wr.ownsRow w1.heap.size 194 5 (.slice av k cv) k (ncs xs)/\K2 C (w.heap.size+1) w1 wr) (fun i _=>N - (intOf i).toNat)
  case atStart=>exact ⟨0,N,[],a1,true,none,0,by omega,rfl,HP,rfl,(by intro x hx;cases hx),bH,bR,ah,x1,World.ownsRow_nil _ _ _ _,K2.refl _ _ _⟩
  case round =>
   obtain ⟨k,m,xs,G,kk,av,cv,b1,rfl,HR,HL,HZ,bO,bI,hC,aH,ap,hK⟩:=hrel;have bY:=hK.size;have bg:=(hK.block _ (by omega) (by omega) (by omega)).trans x0;have bf:w.grownBy wr (some C):=((K2.ofP bc).trans hK).grown (by omega);have cC:wr.cell? ⟨C,2,none⟩=some (.bool kk):=cd _ _ 2 _ _ _ hC;obtain rfl:xs.length=k:=HL.out;cases kk with
   | false =>
    have HX:Hid (sP zs a ok=(xs,G,false)):=by unfold Hid;rw [HR.out,Zcd]
    have HS:Hid (sOk zs a ok=false):=by unfold Hid sOk;rw [HX.out];rfl
    by_cases bP:(xs.length:Int) < N
    ·go_wp2_with fail
     refine ZcZ C (w.heap.size+1) zs.length q xs.length cv ao av G _ _ (by omega) hC aH ?_;intro u105 u106 u107 u108 u109 u110 u111 u112 u113 u114 u115 u116 u117 u118 u119 u120 u121 u122 u123 u124 u125 u126 u127 WF ae ab;obtain ⟨q1,q2,q3,q4,q5,q6,q7⟩:=Zdv false aS bf ae ab bg aH (Zah ap (show w.heap.size+1+1 <= w1.heap.size by omega));clear ae ab;go_wp2;refine cx (results_cell_row rfl _ _ w.heap.size 40 _ (0,0) _ rfl q4 underlying40 rfl ZnX) rfl ⟨.slice av xs.length cv,rfl,?_,?_,q7,?_⟩
     ·rw [HX.out];exact q5
     ·rw [HS.out,HX.out];exact q6
     ·rw [HX.out];exact HZ.out
    ·go_wp2_with fail
     refine ZcZ C (w.heap.size+1) zs.length q xs.length cv ao av G _ _ (by omega) hC aH ?_;intro u105 u106 u107 u108 u109 u110 u111 u112 u113 u114 u115 u116 u117 u118 u119 u120 u121 u122 u123 u124 u125 u126 u127 WF ae ab;obtain ⟨q1,q2,q3,q4,q5,q6,q7⟩:=Zdv false aS bf ae ab bg aH (Zah ap (show w.heap.size+1+1 <= w1.heap.size by omega));clear ae ab;go_wp2;refine cx (results_cell_row rfl _ _ w.heap.size 40 _ (0,0) _ rfl q4 underlying40 rfl ZnX) rfl ⟨.slice av xs.length cv,rfl,?_,?_,q7,?_⟩
     ·rw [HX.out];exact q5
     ·rw [HS.out,HX.out];exact q6
     ·rw [HX.out];exact HZ.out
   | true =>
    by_cases bP:(xs.length:Int) < N
    ·obtain ⟨m,rfl⟩:∃ m',m=m'+1:=⟨m - 1,by omega⟩
     have Rr:=ax.k2 ah x1 hK;have lC:=(bl hC);have bM:=(bl aH);have J:∀ j,(Value.slice av xs.length cv).ownBlock=some j -> w1.heap.size <= j/\j < wr.heap.size:=fun j hj=>ap.lt j hj
     obtain ⟨kd,a2,k2,e1,bW,bU,aP,aM,bA⟩:=ZaN C (.slice ao zs.length q) zs G true wr Rr hC bO bI;go_wp2_with fail;refine bA.mono ?_;rintro e w2 ⟨rfl,aW,a8⟩;have bj:=(a8.block _ bM (by simp;omega)).trans aH;have a9:=ap.kept a8 (Zck ap (by omega));have bx:=hK.trans (K2.ofP a8);have bG:=a8.size;clear cC bA a8
     go_wp2_with (refine Zai rfl 194 _ _ rfl w2.heap.size (ndA (nd0 kd)) rfl rfl 194 _ (co _ _) Zn0 rfl (Zb4 _) ?_)
     intro w3 au bz bt;clear bt;have aN:Below w2.heap.size w2 w3:=((cj _ _).alloc (ce _) _).trans bz;have ay:=aW.below aN;have ak:=(bb bj aN);have Y:=Zad a9 aN;have af:=bx.trans (K2.ofB aN);have bE:=(bl au);clear aN bz aW bj a9 bx ap aH hC Rr;obtain ⟨nb,bw⟩:∃ nb,Hid (w2.heap.size=nb):=⟨_,rfl⟩;rw [bw.out] at au bG bE ⊢;clear bw;have cK:w3.cell? ⟨nb,0,none⟩=some (.int .i64 kd):=cd _ _ 0 _ _ _ au;have Z:C < w1.heap.size:=by omega
     have aa:w.heap.size+1 < w1.heap.size:=by omega
     have U:w.heap.size+1 ≠ C:=by omega
     have aK:wr.heap.size <= nb:=by omega
     have aL:w1.heap.size <= wr.heap.size:=by omega
     have HN:Hid (sN zs G=sB zs kd a2 k2):=by unfold Hid sN;rw [e1]
     clear e1;rcases (show kd=2 \/ kd=8 \/ kd=9 \/ kd=3 \/ kd=4 \/ kd=5 \/ kd=6 \/ kd=7 \/ (kd ≠ 2/\kd ≠ 8/\kd ≠ 9/\kd ≠ 3/\kd ≠ 4/\kd ≠ 5/\kd ≠ 6/\kd ≠ 7) by omega) with rfl | rfl | rfl | rfl | rfl | rfl | rfl | rfl | ⟨m2,m8,m9,m3,m4,m5,m6,m7⟩
     ·have R5:=ax.k2 ah x1 af
      obtain ⟨I,b5,j5,e5,aY,a3,aq,ar,ac⟩:=ZaN C (.slice ao zs.length q) zs a2 k2 w3 R5 ay aP aM;go_wp2_with fail;refine ac.mono ?_;rintro e v5 ⟨rfl,ad,F⟩;obtain ⟨aX,a0,X,D,V,o,B,aJ⟩:=ZeT (⟨2,I,ByteArray.empty,0,0⟩:Nd) 1 (.int .i64 I) (.int .i64 0) au ak Y af F ad J Z aa U aK aL rfl rfl;clear ac F;obtain ⟨k0,k1,P,k3,k4,kp,y,f,u,aF,b⟩:=Zb2 (⟨2,I,ByteArray.empty,0,0⟩:Nd) v5.heap.size (by simp [World.setCell]) X D V;have z:Hid (sN zs G=((⟨2,I,ByteArray.empty,0,0⟩:Nd),b5,j5)):=by unfold Hid;rw [HN.out];unfold sB;rw [if_pos (Or.inl rfl),e5]
      have L:(⟨2,I,ByteArray.empty,0,0⟩:Nd).s.size <= zs.length:=by have:=congrArg (fun t=>t.1.s.size) z.out;rw [HN.out] at this;dsimp only at this;rw [<- this];exact Zbp _ _ _ _
      obtain ⟨O,Q,M⟩:=Zbs _ z L HR HZ;have aD:=B.size
      go_wp2_with (at_builtin;refine wpList_append_lies _ rfl _ _ 38 rfl w1.heap.size 194 i0 _ 5 48 underlying38 hi aA aC az rfl (by decide) _ _ _ rfl (o.alloc _) ⟨v5.heap.size,0,none⟩ 1 1 (ncs [(⟨2,I,ByteArray.empty,0,0⟩:Nd)]) rfl rfl b (Za6 _) (by omega) (by unfold maxLen;omega) (by omega) (by simp;omega) _ rfl ?_)
      intro g2 r w8 d c H ai;obtain ⟨aE,aG,A,S,T,l⟩:=Zbq y f u B c d J Z aa U;clear b k0 k1 P k3 k4 kp c H d f y u;go_wp2
      go_roundw
      case rel=>exact ⟨xs.length+1,m,_,b5,j5,_,r,by omega,by go_num,O,Q,M,aq,ar,T,A,by rw [ZaD];exact l,S⟩
      case measure=>simp [intOf];omega
     ·have R5:=ax.k2 ah x1 af
      obtain ⟨I,b5,j5,e5,aY,a3,aq,ar,ac⟩:=ZaN C (.slice ao zs.length q) zs a2 k2 w3 R5 ay aP aM;go_wp2_with fail;refine ac.mono ?_;rintro e v5 ⟨rfl,ad,F⟩;obtain ⟨aX,a0,X,D,V,o,B,aJ⟩:=ZeT (⟨8,I,ByteArray.empty,0,0⟩:Nd) 1 (.int .i64 I) (.int .i64 0) au ak Y af F ad J Z aa U aK aL rfl rfl;clear ac F;obtain ⟨k0,k1,P,k3,k4,kp,y,f,u,aF,b⟩:=Zb2 (⟨8,I,ByteArray.empty,0,0⟩:Nd) v5.heap.size (by simp [World.setCell]) X D V;have z:Hid (sN zs G=((⟨8,I,ByteArray.empty,0,0⟩:Nd),b5,j5)):=by unfold Hid;rw [HN.out];unfold sB;rw [if_pos (Or.inr (Or.inl rfl)),e5]
      have L:(⟨8,I,ByteArray.empty,0,0⟩:Nd).s.size <= zs.length:=by have:=congrArg (fun t=>t.1.s.size) z.out;rw [HN.out] at this;dsimp only at this;rw [<- this];exact Zbp _ _ _ _
      obtain ⟨O,Q,M⟩:=Zbs _ z L HR HZ;have aD:=B.size
      go_wp2_with (at_builtin;refine wpList_append_lies _ rfl _ _ 38 rfl w1.heap.size 194 i0 _ 5 48 underlying38 hi aA aC az rfl (by decide) _ _ _ rfl (o.alloc _) ⟨v5.heap.size,0,none⟩ 1 1 (ncs [(⟨8,I,ByteArray.empty,0,0⟩:Nd)]) rfl rfl b (Za6 _) (by omega) (by unfold maxLen;omega) (by omega) (by simp;omega) _ rfl ?_)
      intro g2 r w8 d c H ai;obtain ⟨aE,aG,A,S,T,l⟩:=Zbq y f u B c d J Z aa U;clear b k0 k1 P k3 k4 kp c H d f y u;go_wp2
      go_roundw
      case rel=>exact ⟨xs.length+1,m,_,b5,j5,_,r,by omega,by go_num,O,Q,M,aq,ar,T,A,by rw [ZaD];exact l,S⟩
      case measure=>simp [intOf];omega
     ·have R5:=ax.k2 ah x1 af
      obtain ⟨I,b5,j5,e5,aY,a3,aq,ar,ac⟩:=ZaN C (.slice ao zs.length q) zs a2 k2 w3 R5 ay aP aM;go_wp2_with fail;refine ac.mono ?_;rintro e v5 ⟨rfl,ad,F⟩;obtain ⟨aX,a0,X,D,V,o,B,aJ⟩:=ZeT (⟨9,I,ByteArray.empty,0,0⟩:Nd) 1 (.int .i64 I) (.int .i64 0) au ak Y af F ad J Z aa U aK aL rfl rfl;clear ac F;obtain ⟨k0,k1,P,k3,k4,kp,y,f,u,aF,b⟩:=Zb2 (⟨9,I,ByteArray.empty,0,0⟩:Nd) v5.heap.size (by simp [World.setCell]) X D V;have z:Hid (sN zs G=((⟨9,I,ByteArray.empty,0,0⟩:Nd),b5,j5)):=by unfold Hid;rw [HN.out];unfold sB;rw [if_pos (Or.inr (Or.inr rfl)),e5]
      have L:(⟨9,I,ByteArray.empty,0,0⟩:Nd).s.size <= zs.length:=by have:=congrArg (fun t=>t.1.s.size) z.out;rw [HN.out] at this;dsimp only at this;rw [<- this];exact Zbp _ _ _ _
      obtain ⟨O,Q,M⟩:=Zbs _ z L HR HZ;have aD:=B.size
      go_wp2_with (at_builtin;refine wpList_append_lies _ rfl _ _ 38 rfl w1.heap.size 194 i0 _ 5 48 underlying38 hi aA aC az rfl (by decide) _ _ _ rfl (o.alloc _) ⟨v5.heap.size,0,none⟩ 1 1 (ncs [(⟨9,I,ByteArray.empty,0,0⟩:Nd)]) rfl rfl b (Za6 _) (by omega) (by unfold maxLen;omega) (by omega) (by simp;omega) _ rfl ?_)
      intro g2 r w8 d c H ai;obtain ⟨aE,aG,A,S,T,l⟩:=Zbq y f u B c d J Z aa U;clear b k0 k1 P k3 k4 kp c H d f y u;go_wp2
      go_roundw
      case rel=>exact ⟨xs.length+1,m,_,b5,j5,_,r,by omega,by go_num,O,Q,M,aq,ar,T,A,by rw [ZaD];exact l,S⟩
      case measure=>simp [intOf];omega
     ·have R5:=ax.k2 ah x1 af
      obtain ⟨I,b5,j5,e5,aY,a3,aq,ar,ac⟩:=ZaN C (.slice ao zs.length q) zs a2 k2 w3 R5 ay aP aM;go_wp2_with fail;refine ac.mono ?_;rintro e v5 ⟨rfl,ad,F⟩;obtain ⟨aX,a0,X,D,V,o,B,aJ⟩:=ZeT (⟨3,(I - 1000000000),ByteArray.empty,0,0⟩:Nd) 1 (.int .i64 (I - 1000000000)) (.int .i64 0) au ak Y af F ad J Z aa U aK aL rfl rfl;clear ac F;obtain ⟨k0,k1,P,k3,k4,kp,y,f,u,aF,b⟩:=Zb2 (⟨3,(I - 1000000000),ByteArray.empty,0,0⟩:Nd) v5.heap.size (by simp [World.setCell]) X D V;have z:Hid (sN zs G=((⟨3,(I - 1000000000),ByteArray.empty,0,0⟩:Nd),b5,j5)):=by unfold Hid;rw [HN.out];unfold sB;rw [if_neg (by omega),if_pos rfl,e5]
      have L:(⟨3,(I - 1000000000),ByteArray.empty,0,0⟩:Nd).s.size <= zs.length:=by have:=congrArg (fun t=>t.1.s.size) z.out;rw [HN.out] at this;dsimp only at this;rw [<- this];exact Zbp _ _ _ _
      obtain ⟨O,Q,M⟩:=Zbs _ z L HR HZ;have aD:=B.size
      go_wp2_with (at_builtin;refine wpList_append_lies _ rfl _ _ 38 rfl w1.heap.size 194 i0 _ 5 48 underlying38 hi aA aC az rfl (by decide) _ _ _ rfl (o.alloc _) ⟨v5.heap.size,0,none⟩ 1 1 (ncs [(⟨3,(I - 1000000000),ByteArray.empty,0,0⟩:Nd)]) rfl rfl b (Za6 _) (by omega) (by unfold maxLen;omega) (by omega) (by simp;omega) _ rfl ?_)
      intro g2 r w8 d c H ai;obtain ⟨aE,aG,A,S,T,l⟩:=Zbq y f u B c d J Z aa U;clear b k0 k1 P k3 k4 kp c H d f y u;go_wp2
      go_roundw
      case rel=>exact ⟨xs.length+1,m,_,b5,j5,_,r,by omega,by go_num,O,Q,M,aq,ar,T,A,by rw [ZaD];exact l,S⟩
      case measure=>simp [intOf];omega
     ·have R5:=ax.k2 ah x1 af
      obtain ⟨g,hg⟩:∃ g,Hid (gT zs a2=g):=⟨_,rfl⟩;obtain ⟨K,E,gk⟩:=g
      have HG:∀ W:World,Row W (.slice ao zs.length q) zs -> Calls prog 149 #[.slice ao zs.length q,.int .i64 a2] W fun e w'=>e=.returned (.tuple #[.string K,.int .i64 E,.bool gk])/\w'=W:=fun W RW=>by
       have:=Zey _ zs a2 W RW (by omega) (by omega);rw [hg.out] at this;exact this
      have bh:0 <= E:=by have:=(gT_range zs a2).1;rw [hg.out] at this;exact this
      have bi:E <= zs.length:=by have:=(gT_range zs a2).2;rw [hg.out] at this;exact this
      have c0:w3.cell? ⟨C,0,none⟩=some (.slice ao zs.length q):=cd _ _ 0 _ _ _ ay;have c1:w3.cell? ⟨C,1,none⟩=some (.int .i64 a2):=cd _ _ 1 _ _ _ ay;go_wp2_with fail
      go_quiet (first | (go_at_call 149;refine Calls.quiet_of_same (HG _ R5)))
      all_goals
       have hd:Below w3.heap.size w3 (w3.drewN nq):=⟨rfl,rfl,rfl,ce _,fun _ _=>rfl⟩;have aB:=ay.below hd;have be:=(hd.block _ bE).trans au;have aw:=(bb ak hd);have aj:=Zad Y hd;have aO:=af.trans (K2.ofB hd);have bX:=hd.size;clear c0 c1 HG R5 hd ay au ak Y af cK;generalize w3.drewN nq=p at *;cases k2 <;> cases gk
       ·have p2:p.cell? ⟨C,2,none⟩=some (.bool false):=cd _ _ 2 _ _ _ aB
        have bs:p.frozen? ⟨C,2,none⟩=false:=cw _ _ 2 _ _ aB;have am:C8 (p.setCell ⟨C,2,none⟩ (.bool false)) C (.slice ao zs.length q) a2 false:=cu p C 2 _ _ (.bool false) aB;have pa:(p.setCell ⟨C,2,none⟩ (.bool false)).cell? ⟨C,1,none⟩=some (.int .i64 a2):=cd _ _ 1 _ _ _ am;have bq:(p.setCell ⟨C,2,none⟩ (.bool false)).frozen? ⟨C,1,none⟩=false:=cw _ _ 1 _ _ am;have ag:p.grownBy ((p.setCell ⟨C,2,none⟩ (.bool false)).setCell ⟨C,1,none⟩ (.int .i64 E)) (some C):=Zaj (Zan p C 2 _) (Zan _ C 1 _);have aR:C8 ((p.setCell ⟨C,2,none⟩ (.bool false)).setCell ⟨C,1,none⟩ (.int .i64 E)) C (.slice ao zs.length q) E false:=cu (p.setCell ⟨C,2,none⟩ (.bool false)) C 1 _ _ (.int .i64 E) am;have an:=(ag.block nb (by omega) (by simp;omega)).trans be;have aI:=(ag.block _ (bl aw) (by simp;omega)).trans aw;have al:=aj.kept ag (Zck aj (by omega))
        have aU:=aO.trans (K2.ofP ag);have a5:=aO.size;have br:((p.setCell ⟨C,2,none⟩ (.bool false)).setCell ⟨C,1,none⟩ (.int .i64 E)).cell? ⟨nb,2,none⟩=some (.string ByteArray.empty):=cd _ _ 2 _ _ _ an;have a7:((p.setCell ⟨C,2,none⟩ (.bool false)).setCell ⟨C,1,none⟩ (.int .i64 E)).frozen? ⟨nb,2,none⟩=false:=cw _ _ 2 _ _ an;have X:(((p.setCell ⟨C,2,none⟩ (.bool false)).setCell ⟨C,1,none⟩ (.int .i64 E)).setCell ⟨nb,2,none⟩ (.string K)).heap[nb]? = some (.cells (ndA (⟨4,0,K,0,0⟩:Nd)) 194 (0,0)):=cu ((p.setCell ⟨C,2,none⟩ (.bool false)).setCell ⟨C,1,none⟩ (.int .i64 E)) nb 2 _ _ (.string K) an;have D:=(cr ((p.setCell ⟨C,2,none⟩ (.bool false)).setCell ⟨C,1,none⟩ (.int .i64 E)) ⟨nb,2,none⟩ (w.heap.size+1) (.string K) (by show w.heap.size+1 ≠ nb;omega)).trans aI
        have V:C8 (((p.setCell ⟨C,2,none⟩ (.bool false)).setCell ⟨C,1,none⟩ (.int .i64 E)).setCell ⟨nb,2,none⟩ (.string K)) C (.slice ao zs.length q) E false:=(cr ((p.setCell ⟨C,2,none⟩ (.bool false)).setCell ⟨C,1,none⟩ (.int .i64 E)) ⟨nb,2,none⟩ C (.string K) (by show C ≠ nb;omega)).trans aR;have o:=ownsRow_setCell_other al (a:=⟨nb,2,none⟩) (fun e=>by have:=(J nb e).2;omega) (.string K);have B:=aU.row (Zan ((p.setCell ⟨C,2,none⟩ (.bool false)).setCell ⟨C,1,none⟩ (.int .i64 E)) nb 2 (.string K)) (fun j hj=>by cases hj;omega);obtain ⟨k0,k1,P,k3,k4,kp,y,f,u,aF,b⟩:=Zb2 (⟨4,0,K,0,0⟩:Nd) p.heap.size (by simp [World.setCell]) X D V;have z:Hid (sN zs G=((⟨4,0,K,0,0⟩:Nd),E,false)):=by unfold Hid;rw [HN.out];unfold sB;rw [if_neg (by omega),if_neg (by omega),if_pos rfl,hg.out];rfl
        have L:(⟨4,0,K,0,0⟩:Nd).s.size <= zs.length:=by have:=congrArg (fun t=>t.1.s.size) z.out;rw [HN.out] at this;dsimp only at this;rw [<- this];exact Zbp _ _ _ _
        obtain ⟨O,Q,M⟩:=Zbs _ z L HR HZ;have aD:=B.size
        go_wp2_with (at_builtin;refine wpList_append_lies _ rfl _ _ 38 rfl w1.heap.size 194 i0 _ 5 48 underlying38 hi aA aC az rfl (by decide) _ _ _ rfl (o.alloc _) ⟨p.heap.size,0,none⟩ 1 1 (ncs [(⟨4,0,K,0,0⟩:Nd)]) rfl rfl b (Za6 _) (by omega) (by unfold maxLen;omega) (by omega) (by simp;omega) _ rfl ?_)
        intro g2 r w8 d c H ai;obtain ⟨aE,aG,A,S,T,l⟩:=Zbq y f u B c d J Z aa U;clear b k0 k1 P k3 k4 kp c H d f y u;go_wp2
        go_roundw
        case rel=>exact ⟨xs.length+1,m,_,E,false,_,r,by omega,by go_num,O,Q,M,bh,bi,T,A,by rw [ZaD];exact l,S⟩
        case measure=>simp [intOf];omega
       ·have p2:p.cell? ⟨C,2,none⟩=some (.bool false):=cd _ _ 2 _ _ _ aB
        have bs:p.frozen? ⟨C,2,none⟩=false:=cw _ _ 2 _ _ aB;have am:C8 (p.setCell ⟨C,2,none⟩ (.bool false)) C (.slice ao zs.length q) a2 false:=cu p C 2 _ _ (.bool false) aB;have pa:(p.setCell ⟨C,2,none⟩ (.bool false)).cell? ⟨C,1,none⟩=some (.int .i64 a2):=cd _ _ 1 _ _ _ am;have bq:(p.setCell ⟨C,2,none⟩ (.bool false)).frozen? ⟨C,1,none⟩=false:=cw _ _ 1 _ _ am;have ag:p.grownBy ((p.setCell ⟨C,2,none⟩ (.bool false)).setCell ⟨C,1,none⟩ (.int .i64 E)) (some C):=Zaj (Zan p C 2 _) (Zan _ C 1 _);have aR:C8 ((p.setCell ⟨C,2,none⟩ (.bool false)).setCell ⟨C,1,none⟩ (.int .i64 E)) C (.slice ao zs.length q) E false:=cu (p.setCell ⟨C,2,none⟩ (.bool false)) C 1 _ _ (.int .i64 E) am;have an:=(ag.block nb (by omega) (by simp;omega)).trans be;have aI:=(ag.block _ (bl aw) (by simp;omega)).trans aw;have al:=aj.kept ag (Zck aj (by omega))
        have aU:=aO.trans (K2.ofP ag);have a5:=aO.size;have br:((p.setCell ⟨C,2,none⟩ (.bool false)).setCell ⟨C,1,none⟩ (.int .i64 E)).cell? ⟨nb,2,none⟩=some (.string ByteArray.empty):=cd _ _ 2 _ _ _ an;have a7:((p.setCell ⟨C,2,none⟩ (.bool false)).setCell ⟨C,1,none⟩ (.int .i64 E)).frozen? ⟨nb,2,none⟩=false:=cw _ _ 2 _ _ an;have X:(((p.setCell ⟨C,2,none⟩ (.bool false)).setCell ⟨C,1,none⟩ (.int .i64 E)).setCell ⟨nb,2,none⟩ (.string K)).heap[nb]? = some (.cells (ndA (⟨4,0,K,0,0⟩:Nd)) 194 (0,0)):=cu ((p.setCell ⟨C,2,none⟩ (.bool false)).setCell ⟨C,1,none⟩ (.int .i64 E)) nb 2 _ _ (.string K) an;have D:=(cr ((p.setCell ⟨C,2,none⟩ (.bool false)).setCell ⟨C,1,none⟩ (.int .i64 E)) ⟨nb,2,none⟩ (w.heap.size+1) (.string K) (by show w.heap.size+1 ≠ nb;omega)).trans aI
        have V:C8 (((p.setCell ⟨C,2,none⟩ (.bool false)).setCell ⟨C,1,none⟩ (.int .i64 E)).setCell ⟨nb,2,none⟩ (.string K)) C (.slice ao zs.length q) E false:=(cr ((p.setCell ⟨C,2,none⟩ (.bool false)).setCell ⟨C,1,none⟩ (.int .i64 E)) ⟨nb,2,none⟩ C (.string K) (by show C ≠ nb;omega)).trans aR;have o:=ownsRow_setCell_other al (a:=⟨nb,2,none⟩) (fun e=>by have:=(J nb e).2;omega) (.string K);have B:=aU.row (Zan ((p.setCell ⟨C,2,none⟩ (.bool false)).setCell ⟨C,1,none⟩ (.int .i64 E)) nb 2 (.string K)) (fun j hj=>by cases hj;omega);obtain ⟨k0,k1,P,k3,k4,kp,y,f,u,aF,b⟩:=Zb2 (⟨4,0,K,0,0⟩:Nd) p.heap.size (by simp [World.setCell]) X D V;have z:Hid (sN zs G=((⟨4,0,K,0,0⟩:Nd),E,false)):=by unfold Hid;rw [HN.out];unfold sB;rw [if_neg (by omega),if_neg (by omega),if_pos rfl,hg.out];rfl
        have L:(⟨4,0,K,0,0⟩:Nd).s.size <= zs.length:=by have:=congrArg (fun t=>t.1.s.size) z.out;rw [HN.out] at this;dsimp only at this;rw [<- this];exact Zbp _ _ _ _
        obtain ⟨O,Q,M⟩:=Zbs _ z L HR HZ;have aD:=B.size
        go_wp2_with (at_builtin;refine wpList_append_lies _ rfl _ _ 38 rfl w1.heap.size 194 i0 _ 5 48 underlying38 hi aA aC az rfl (by decide) _ _ _ rfl (o.alloc _) ⟨p.heap.size,0,none⟩ 1 1 (ncs [(⟨4,0,K,0,0⟩:Nd)]) rfl rfl b (Za6 _) (by omega) (by unfold maxLen;omega) (by omega) (by simp;omega) _ rfl ?_)
        intro g2 r w8 d c H ai;obtain ⟨aE,aG,A,S,T,l⟩:=Zbq y f u B c d J Z aa U;clear b k0 k1 P k3 k4 kp c H d f y u;go_wp2
        go_roundw
        case rel=>exact ⟨xs.length+1,m,_,E,false,_,r,by omega,by go_num,O,Q,M,bh,bi,T,A,by rw [ZaD];exact l,S⟩
        case measure=>simp [intOf];omega
       ·have p2:p.cell? ⟨C,2,none⟩=some (.bool true):=cd _ _ 2 _ _ _ aB
        have bs:p.frozen? ⟨C,2,none⟩=false:=cw _ _ 2 _ _ aB;have am:C8 (p.setCell ⟨C,2,none⟩ (.bool false)) C (.slice ao zs.length q) a2 false:=cu p C 2 _ _ (.bool false) aB;have pa:(p.setCell ⟨C,2,none⟩ (.bool false)).cell? ⟨C,1,none⟩=some (.int .i64 a2):=cd _ _ 1 _ _ _ am;have bq:(p.setCell ⟨C,2,none⟩ (.bool false)).frozen? ⟨C,1,none⟩=false:=cw _ _ 1 _ _ am;have ag:p.grownBy ((p.setCell ⟨C,2,none⟩ (.bool false)).setCell ⟨C,1,none⟩ (.int .i64 E)) (some C):=Zaj (Zan p C 2 _) (Zan _ C 1 _);have aR:C8 ((p.setCell ⟨C,2,none⟩ (.bool false)).setCell ⟨C,1,none⟩ (.int .i64 E)) C (.slice ao zs.length q) E false:=cu (p.setCell ⟨C,2,none⟩ (.bool false)) C 1 _ _ (.int .i64 E) am;have an:=(ag.block nb (by omega) (by simp;omega)).trans be;have aI:=(ag.block _ (bl aw) (by simp;omega)).trans aw;have al:=aj.kept ag (Zck aj (by omega))
        have aU:=aO.trans (K2.ofP ag);have a5:=aO.size;have br:((p.setCell ⟨C,2,none⟩ (.bool false)).setCell ⟨C,1,none⟩ (.int .i64 E)).cell? ⟨nb,2,none⟩=some (.string ByteArray.empty):=cd _ _ 2 _ _ _ an;have a7:((p.setCell ⟨C,2,none⟩ (.bool false)).setCell ⟨C,1,none⟩ (.int .i64 E)).frozen? ⟨nb,2,none⟩=false:=cw _ _ 2 _ _ an;have X:(((p.setCell ⟨C,2,none⟩ (.bool false)).setCell ⟨C,1,none⟩ (.int .i64 E)).setCell ⟨nb,2,none⟩ (.string K)).heap[nb]? = some (.cells (ndA (⟨4,0,K,0,0⟩:Nd)) 194 (0,0)):=cu ((p.setCell ⟨C,2,none⟩ (.bool false)).setCell ⟨C,1,none⟩ (.int .i64 E)) nb 2 _ _ (.string K) an;have D:=(cr ((p.setCell ⟨C,2,none⟩ (.bool false)).setCell ⟨C,1,none⟩ (.int .i64 E)) ⟨nb,2,none⟩ (w.heap.size+1) (.string K) (by show w.heap.size+1 ≠ nb;omega)).trans aI
        have V:C8 (((p.setCell ⟨C,2,none⟩ (.bool false)).setCell ⟨C,1,none⟩ (.int .i64 E)).setCell ⟨nb,2,none⟩ (.string K)) C (.slice ao zs.length q) E false:=(cr ((p.setCell ⟨C,2,none⟩ (.bool false)).setCell ⟨C,1,none⟩ (.int .i64 E)) ⟨nb,2,none⟩ C (.string K) (by show C ≠ nb;omega)).trans aR;have o:=ownsRow_setCell_other al (a:=⟨nb,2,none⟩) (fun e=>by have:=(J nb e).2;omega) (.string K);have B:=aU.row (Zan ((p.setCell ⟨C,2,none⟩ (.bool false)).setCell ⟨C,1,none⟩ (.int .i64 E)) nb 2 (.string K)) (fun j hj=>by cases hj;omega);obtain ⟨k0,k1,P,k3,k4,kp,y,f,u,aF,b⟩:=Zb2 (⟨4,0,K,0,0⟩:Nd) p.heap.size (by simp [World.setCell]) X D V;have z:Hid (sN zs G=((⟨4,0,K,0,0⟩:Nd),E,false)):=by unfold Hid;rw [HN.out];unfold sB;rw [if_neg (by omega),if_neg (by omega),if_pos rfl,hg.out];rfl
        have L:(⟨4,0,K,0,0⟩:Nd).s.size <= zs.length:=by have:=congrArg (fun t=>t.1.s.size) z.out;rw [HN.out] at this;dsimp only at this;rw [<- this];exact Zbp _ _ _ _
        obtain ⟨O,Q,M⟩:=Zbs _ z L HR HZ;have aD:=B.size
        go_wp2_with (at_builtin;refine wpList_append_lies _ rfl _ _ 38 rfl w1.heap.size 194 i0 _ 5 48 underlying38 hi aA aC az rfl (by decide) _ _ _ rfl (o.alloc _) ⟨p.heap.size,0,none⟩ 1 1 (ncs [(⟨4,0,K,0,0⟩:Nd)]) rfl rfl b (Za6 _) (by omega) (by unfold maxLen;omega) (by omega) (by simp;omega) _ rfl ?_)
        intro g2 r w8 d c H ai;obtain ⟨aE,aG,A,S,T,l⟩:=Zbq y f u B c d J Z aa U;clear b k0 k1 P k3 k4 kp c H d f y u;go_wp2
        go_roundw
        case rel=>exact ⟨xs.length+1,m,_,E,false,_,r,by omega,by go_num,O,Q,M,bh,bi,T,A,by rw [ZaD];exact l,S⟩
        case measure=>simp [intOf];omega
       ·have p2:p.cell? ⟨C,2,none⟩=some (.bool true):=cd _ _ 2 _ _ _ aB
        have bs:p.frozen? ⟨C,2,none⟩=false:=cw _ _ 2 _ _ aB;have am:C8 (p.setCell ⟨C,2,none⟩ (.bool true)) C (.slice ao zs.length q) a2 true:=cu p C 2 _ _ (.bool true) aB;have pa:(p.setCell ⟨C,2,none⟩ (.bool true)).cell? ⟨C,1,none⟩=some (.int .i64 a2):=cd _ _ 1 _ _ _ am;have bq:(p.setCell ⟨C,2,none⟩ (.bool true)).frozen? ⟨C,1,none⟩=false:=cw _ _ 1 _ _ am;have ag:p.grownBy ((p.setCell ⟨C,2,none⟩ (.bool true)).setCell ⟨C,1,none⟩ (.int .i64 E)) (some C):=Zaj (Zan p C 2 _) (Zan _ C 1 _);have aR:C8 ((p.setCell ⟨C,2,none⟩ (.bool true)).setCell ⟨C,1,none⟩ (.int .i64 E)) C (.slice ao zs.length q) E true:=cu (p.setCell ⟨C,2,none⟩ (.bool true)) C 1 _ _ (.int .i64 E) am;have an:=(ag.block nb (by omega) (by simp;omega)).trans be;have aI:=(ag.block _ (bl aw) (by simp;omega)).trans aw;have al:=aj.kept ag (Zck aj (by omega))
        have aU:=aO.trans (K2.ofP ag);have a5:=aO.size;have br:((p.setCell ⟨C,2,none⟩ (.bool true)).setCell ⟨C,1,none⟩ (.int .i64 E)).cell? ⟨nb,2,none⟩=some (.string ByteArray.empty):=cd _ _ 2 _ _ _ an;have a7:((p.setCell ⟨C,2,none⟩ (.bool true)).setCell ⟨C,1,none⟩ (.int .i64 E)).frozen? ⟨nb,2,none⟩=false:=cw _ _ 2 _ _ an;have X:(((p.setCell ⟨C,2,none⟩ (.bool true)).setCell ⟨C,1,none⟩ (.int .i64 E)).setCell ⟨nb,2,none⟩ (.string K)).heap[nb]? = some (.cells (ndA (⟨4,0,K,0,0⟩:Nd)) 194 (0,0)):=cu ((p.setCell ⟨C,2,none⟩ (.bool true)).setCell ⟨C,1,none⟩ (.int .i64 E)) nb 2 _ _ (.string K) an;have D:=(cr ((p.setCell ⟨C,2,none⟩ (.bool true)).setCell ⟨C,1,none⟩ (.int .i64 E)) ⟨nb,2,none⟩ (w.heap.size+1) (.string K) (by show w.heap.size+1 ≠ nb;omega)).trans aI
        have V:C8 (((p.setCell ⟨C,2,none⟩ (.bool true)).setCell ⟨C,1,none⟩ (.int .i64 E)).setCell ⟨nb,2,none⟩ (.string K)) C (.slice ao zs.length q) E true:=(cr ((p.setCell ⟨C,2,none⟩ (.bool true)).setCell ⟨C,1,none⟩ (.int .i64 E)) ⟨nb,2,none⟩ C (.string K) (by show C ≠ nb;omega)).trans aR;have o:=ownsRow_setCell_other al (a:=⟨nb,2,none⟩) (fun e=>by have:=(J nb e).2;omega) (.string K);have B:=aU.row (Zan ((p.setCell ⟨C,2,none⟩ (.bool true)).setCell ⟨C,1,none⟩ (.int .i64 E)) nb 2 (.string K)) (fun j hj=>by cases hj;omega);obtain ⟨k0,k1,P,k3,k4,kp,y,f,u,aF,b⟩:=Zb2 (⟨4,0,K,0,0⟩:Nd) p.heap.size (by simp [World.setCell]) X D V;have z:Hid (sN zs G=((⟨4,0,K,0,0⟩:Nd),E,true)):=by unfold Hid;rw [HN.out];unfold sB;rw [if_neg (by omega),if_neg (by omega),if_pos rfl,hg.out];rfl
        have L:(⟨4,0,K,0,0⟩:Nd).s.size <= zs.length:=by have:=congrArg (fun t=>t.1.s.size) z.out;rw [HN.out] at this;dsimp only at this;rw [<- this];exact Zbp _ _ _ _
        obtain ⟨O,Q,M⟩:=Zbs _ z L HR HZ;have aD:=B.size
        go_wp2_with (at_builtin;refine wpList_append_lies _ rfl _ _ 38 rfl w1.heap.size 194 i0 _ 5 48 underlying38 hi aA aC az rfl (by decide) _ _ _ rfl (o.alloc _) ⟨p.heap.size,0,none⟩ 1 1 (ncs [(⟨4,0,K,0,0⟩:Nd)]) rfl rfl b (Za6 _) (by omega) (by unfold maxLen;omega) (by omega) (by simp;omega) _ rfl ?_)
        intro g2 r w8 d c H ai;obtain ⟨aE,aG,A,S,T,l⟩:=Zbq y f u B c d J Z aa U;clear b k0 k1 P k3 k4 kp c H d f y u;go_wp2
        go_roundw
        case rel=>exact ⟨xs.length+1,m,_,E,true,_,r,by omega,by go_num,O,Q,M,bh,bi,T,A,by rw [ZaD];exact l,S⟩
        case measure=>simp [intOf];omega
     ·have R5:=ax.k2 ah x1 af
      obtain ⟨I,b5,j5,e5,aY,a3,aq,ar,ac⟩:=ZaN C (.slice ao zs.length q) zs a2 k2 w3 R5 ay aP aM;go_wp2_with fail;refine ac.mono ?_;rintro e v5 ⟨rfl,ad,F⟩;obtain ⟨aX,a0,X,D,V,o,B,aJ⟩:=ZeT (⟨5,0,ByteArray.empty,I,0⟩:Nd) 3 (.int .i64 I) (.int .i64 0) au ak Y af F ad J Z aa U aK aL rfl rfl;clear ac F;have R6:=ax.k2 ah x1 B;obtain ⟨x6,b6,j6,e6,bS,bQ,bm,bn,a6⟩:=ZaN C (.slice ao zs.length q) zs b5 j5 (v5.setCell ⟨nb,3,none⟩ (.int .i64 I)) R6 V aq ar;go_wp2_with fail;refine a6.mono ?_;rintro e v6 ⟨rfl,ba,aQ⟩;obtain ⟨bJ,bN,bp,bd,bo,aV,a4,bC⟩:=ZeT (⟨5,0,ByteArray.empty,I,x6⟩:Nd) 4 (.int .i64 x6) (.int .i64 0) X D o B aQ ba J Z aa U aK aL rfl rfl;clear a6 aQ;obtain ⟨k0,k1,P,k3,k4,kp,y,f,u,aF,b⟩:=Zb2 (⟨5,0,ByteArray.empty,I,x6⟩:Nd) v6.heap.size (by simp [World.setCell]) bp bd bo
      have z:Hid (sN zs G=((⟨5,0,ByteArray.empty,I,x6⟩:Nd),b6,j6)):=by unfold Hid;rw [HN.out];unfold sB;rw [if_neg (by omega),if_neg (by omega),if_neg (by omega),if_pos rfl,e5];dsimp only;rw [e6]
      have L:(⟨5,0,ByteArray.empty,I,x6⟩:Nd).s.size <= zs.length:=by have:=congrArg (fun t=>t.1.s.size) z.out;rw [HN.out] at this;dsimp only at this;rw [<- this];exact Zbp _ _ _ _
      obtain ⟨O,Q,M⟩:=Zbs _ z L HR HZ;have aD:=a4.size
      go_wp2_with (at_builtin;refine wpList_append_lies _ rfl _ _ 38 rfl w1.heap.size 194 i0 _ 5 48 underlying38 hi aA aC az rfl (by decide) _ _ _ rfl (aV.alloc _) ⟨v6.heap.size,0,none⟩ 1 1 (ncs [(⟨5,0,ByteArray.empty,I,x6⟩:Nd)]) rfl rfl b (Za6 _) (by omega) (by unfold maxLen;omega) (by omega) (by simp;omega) _ rfl ?_)
      intro g2 r w8 d c H ai;obtain ⟨aE,aG,A,S,T,l⟩:=Zbq y f u a4 c d J Z aa U;clear b k0 k1 P k3 k4 kp c H d f y u;go_wp2
      go_roundw
      case rel=>exact ⟨xs.length+1,m,_,b6,j6,_,r,by omega,by go_num,O,Q,M,bm,bn,T,A,by rw [ZaD];exact l,S⟩
      case measure=>simp [intOf];omega
     ·have R5:=ax.k2 ah x1 af
      obtain ⟨I,b5,j5,e5,aY,a3,aq,ar,ac⟩:=ZaN C (.slice ao zs.length q) zs a2 k2 w3 R5 ay aP aM;go_wp2_with fail;refine ac.mono ?_;rintro e v5 ⟨rfl,ad,F⟩;obtain ⟨aX,a0,X,D,V,o,B,aJ⟩:=ZeT (⟨6,I,ByteArray.empty,0,0⟩:Nd) 1 (.int .i64 I) (.int .i64 0) au ak Y af F ad J Z aa U aK aL rfl rfl;clear ac F;have R6:=ax.k2 ah x1 B;obtain ⟨x6,b6,j6,e6,bS,bQ,bm,bn,a6⟩:=ZaN C (.slice ao zs.length q) zs b5 j5 (v5.setCell ⟨nb,1,none⟩ (.int .i64 I)) R6 V aq ar;go_wp2_with fail;refine a6.mono ?_;rintro e v6 ⟨rfl,ba,aQ⟩;obtain ⟨bJ,bN,bp,bd,bo,aV,a4,bC⟩:=ZeT (⟨6,I,ByteArray.empty,x6,0⟩:Nd) 3 (.int .i64 x6) (.int .i64 0) X D o B aQ ba J Z aa U aK aL rfl rfl;clear a6 aQ;obtain ⟨k0,k1,P,k3,k4,kp,y,f,u,aF,b⟩:=Zb2 (⟨6,I,ByteArray.empty,x6,0⟩:Nd) v6.heap.size (by simp [World.setCell]) bp bd bo
      have z:Hid (sN zs G=((⟨6,I,ByteArray.empty,x6,0⟩:Nd),b6,j6)):=by unfold Hid;rw [HN.out];unfold sB;rw [if_neg (by omega),if_neg (by omega),if_neg (by omega),if_neg (by omega),if_pos rfl,e5];dsimp only;rw [e6]
      have L:(⟨6,I,ByteArray.empty,x6,0⟩:Nd).s.size <= zs.length:=by have:=congrArg (fun t=>t.1.s.size) z.out;rw [HN.out] at this;dsimp only at this;rw [<- this];exact Zbp _ _ _ _
      obtain ⟨O,Q,M⟩:=Zbs _ z L HR HZ;have aD:=a4.size
      go_wp2_with (at_builtin;refine wpList_append_lies _ rfl _ _ 38 rfl w1.heap.size 194 i0 _ 5 48 underlying38 hi aA aC az rfl (by decide) _ _ _ rfl (aV.alloc _) ⟨v6.heap.size,0,none⟩ 1 1 (ncs [(⟨6,I,ByteArray.empty,x6,0⟩:Nd)]) rfl rfl b (Za6 _) (by omega) (by unfold maxLen;omega) (by omega) (by simp;omega) _ rfl ?_)
      intro g2 r w8 d c H ai;obtain ⟨aE,aG,A,S,T,l⟩:=Zbq y f u a4 c d J Z aa U;clear b k0 k1 P k3 k4 kp c H d f y u;go_wp2
      go_roundw
      case rel=>exact ⟨xs.length+1,m,_,b6,j6,_,r,by omega,by go_num,O,Q,M,bm,bn,T,A,by rw [ZaD];exact l,S⟩
      case measure=>simp [intOf];omega
     ·have R5:=ax.k2 ah x1 af
      obtain ⟨I,b5,j5,e5,aY,a3,aq,ar,ac⟩:=ZaN C (.slice ao zs.length q) zs a2 k2 w3 R5 ay aP aM;go_wp2_with fail;refine ac.mono ?_;rintro e v5 ⟨rfl,ad,F⟩;obtain ⟨aX,a0,X,D,V,o,B,aJ⟩:=ZeT (⟨7,0,ByteArray.empty,I,0⟩:Nd) 3 (.int .i64 I) (.int .i64 0) au ak Y af F ad J Z aa U aK aL rfl rfl;clear ac F;obtain ⟨k0,k1,P,k3,k4,kp,y,f,u,aF,b⟩:=Zb2 (⟨7,0,ByteArray.empty,I,0⟩:Nd) v5.heap.size (by simp [World.setCell]) X D V;have z:Hid (sN zs G=((⟨7,0,ByteArray.empty,I,0⟩:Nd),b5,j5)):=by unfold Hid;rw [HN.out];unfold sB;rw [if_neg (by omega),if_neg (by omega),if_neg (by omega),if_neg (by omega),if_neg (by omega),if_pos rfl,e5]
      have L:(⟨7,0,ByteArray.empty,I,0⟩:Nd).s.size <= zs.length:=by have:=congrArg (fun t=>t.1.s.size) z.out;rw [HN.out] at this;dsimp only at this;rw [<- this];exact Zbp _ _ _ _
      obtain ⟨O,Q,M⟩:=Zbs _ z L HR HZ;have aD:=B.size
      go_wp2_with (at_builtin;refine wpList_append_lies _ rfl _ _ 38 rfl w1.heap.size 194 i0 _ 5 48 underlying38 hi aA aC az rfl (by decide) _ _ _ rfl (o.alloc _) ⟨v5.heap.size,0,none⟩ 1 1 (ncs [(⟨7,0,ByteArray.empty,I,0⟩:Nd)]) rfl rfl b (Za6 _) (by omega) (by unfold maxLen;omega) (by omega) (by simp;omega) _ rfl ?_)
      intro g2 r w8 d c H ai;obtain ⟨aE,aG,A,S,T,l⟩:=Zbq y f u B c d J Z aa U;clear b k0 k1 P k3 k4 kp c H d f y u;go_wp2
      go_roundw
      case rel=>exact ⟨xs.length+1,m,_,b5,j5,_,r,by omega,by go_num,O,Q,M,aq,ar,T,A,by rw [ZaD];exact l,S⟩
      case measure=>simp [intOf];omega
     ·obtain ⟨k0,k1,P,k3,k4,kp,y,f,u,aF,b⟩:=Zb2 (⟨kd,0,ByteArray.empty,0,0⟩:Nd) w3.heap.size rfl au ak ay
      have z:Hid (sN zs G=((⟨kd,0,ByteArray.empty,0,0⟩:Nd),a2,k2)):=by unfold Hid;rw [HN.out];unfold sB;rw [if_neg (by omega),if_neg (by omega),if_neg (by omega),if_neg (by omega),if_neg (by omega),if_neg (by omega)]
      have L:(⟨kd,0,ByteArray.empty,0,0⟩:Nd).s.size <= zs.length:=by have:=congrArg (fun t=>t.1.s.size) z.out;rw [HN.out] at this;dsimp only at this;rw [<- this];exact Zbp _ _ _ _
      obtain ⟨O,Q,M⟩:=Zbs _ z L HR HZ;have aD:=af.size
      go_wp2_with (at_builtin;refine wpList_append_lies _ rfl _ _ 38 rfl w1.heap.size 194 i0 _ 5 48 underlying38 hi aA aC az rfl (by decide) _ _ _ rfl (Y.alloc _) ⟨w3.heap.size,0,none⟩ 1 1 (ncs [(⟨kd,0,ByteArray.empty,0,0⟩:Nd)]) rfl rfl b (Za6 _) (by omega) (by unfold maxLen;omega) (by omega) (by simp;omega) _ rfl ?_)
      intro g2 r w8 d c H ai;obtain ⟨aE,aG,A,S,T,l⟩:=Zbq y f u af c d J Z aa U;clear b k0 k1 P k3 k4 kp c H d f y u;go_wp2
      go_roundw
      case rel=>exact ⟨xs.length+1,m,_,a2,k2,_,r,by omega,by go_num,O,Q,M,aP,aM,T,A,by rw [ZaD];exact l,S⟩
      case measure=>simp [intOf];omega
    ·have bT:m=0:=by omega
     subst bT;have HX:Hid (sP zs a ok=(xs,G,true)):=HR.out;have RN:NRow wr (.slice av xs.length cv) xs:=NRow.of_own ap (by omega) (fun x hx=>by have:=HZ.out x hx;unfold maxLen;omega)
     by_cases H:G=zs.length
     ·obtain ⟨pb,bk⟩:∃ pb,Hid (Zau xs=pb):=⟨_,rfl⟩
      have HS:Hid (sOk zs a ok=pb):=by unfold Hid sOk;rw [HX.out];show (true && decide (G=zs.length) && Zau xs)=pb;rw [decide_eq_true H,bk.out];rfl
      have bK:∀ W,Below wr.heap.size wr W -> Calls prog 108 #[.agg #[.slice av xs.length cv]] W fun e w'=>e=.returned (.bool pb)/\Below W.heap.size W w':=fun W hW=>by
       have:=Zcc _ xs W (RN.below hW);rw [bk.out] at this;exact this
      go_wp2_with fail;refine Zlr C (w.heap.size+1) zs.length q xs.length cv ao av G _ _ H pb bK (by omega) hC aH ?_;intro u105 u106 u107 u108 u109 u110 u111 u112 u113 u114 u115 u116 u117 u118 u119 u120 u121 u122 u123 u124 u125 u126 u127 WF ae ab;obtain ⟨q1,q2,q3,q4,q5,q6,q7⟩:=Zdv pb aS bf ae ab bg aH (Zah ap (show w.heap.size+1+1 <= w1.heap.size by omega));clear ae ab;go_wp2;refine cx (results_cell_row rfl _ _ w.heap.size 40 _ (0,0) _ rfl q4 underlying40 rfl ZnX) rfl ⟨.slice av xs.length cv,rfl,?_,?_,q7,?_⟩
      ·rw [HX.out];exact q5
      ·rw [HS.out,HX.out];exact q6
      ·rw [HX.out];exact HZ.out
     ·have HS:Hid (sOk zs a ok=false):=by unfold Hid sOk;rw [HX.out];show (true && decide (G=zs.length) && Zau xs)=false;rw [decide_eq_false H];rfl
      go_wp2_with fail;refine ZkU C (w.heap.size+1) zs.length q xs.length cv ao av G _ _ H (by omega) hC aH ?_;intro u105 u106 u107 u108 u109 u110 u111 u112 u113 u114 u115 u116 u117 u118 u119 u120 u121 u122 u123 u124 u125 u126 u127 WF ae ab;obtain ⟨q1,q2,q3,q4,q5,q6,q7⟩:=Zdv false aS bf ae ab bg aH (Zah ap (show w.heap.size+1+1 <= w1.heap.size by omega));clear ae ab;go_wp2;refine cx (results_cell_row rfl _ _ w.heap.size 40 _ (0,0) _ rfl q4 underlying40 rfl ZnX) rfl ⟨.slice av xs.length cv,rfl,?_,?_,q7,?_⟩
      ·rw [HX.out];exact q5
      ·rw [HS.out,HX.out];exact q6
      ·rw [HX.out];exact HZ.out
end Go.Proofs.YtkpfangkfknhoaaGreatDoor
