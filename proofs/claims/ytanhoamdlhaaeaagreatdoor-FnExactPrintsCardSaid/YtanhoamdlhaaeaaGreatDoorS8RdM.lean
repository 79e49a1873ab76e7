/-
  The contract of spec.l8Read: nodes are read as the mathematics says, and whether all was right. Bounds of the form alone.
-/
import Derived.Test.YtanhoamdlhaaeaaGreatDoorSR8M
import Derived.Test.YtanhoamdlhaaeaaGreatDoorS8RgM
import Derived.Test.YtanhoamdlhaaeaaGreatDoorSGTextM
set_option maxRecDepth 100000
set_option maxHeartbeats 12800000
namespace Go.Proofs.YtanhoamdlhaaeaaGreatDoor
open Go.Proofs.Tryz
open Go.RowKit
theorem Row.apart {w:World}{a:List Int}{g o:Nat}{t:TypeId}{c:Array Value}{b:Nat}(f:0 < a.length)(e:∀ i,i < a.length -> w.cell? ⟨g,o+i,none⟩=some (.int .u8 (a.getD i 0)))(d:w.heap[b]? = some (.cells c t (0,0)))(j:∀ (i:Nat) (z:Int),c[i]? ≠ some (.int .u8 z)):g ≠ b:=by
 rintro rfl;have:=e 0 f;rw [cd w g (o+0) _ _ _ d] at this;exact j _ _ this
theorem ZkO (c:Option Addr)(n b:Nat)(a:Int)(d:Bool):∀ (i:Nat) (z:Int),(#[Value.slice c n b,.int .i64 a,.bool d]:Array Value)[i]? ≠ some (.int .u8 z):=by
 intro i z h
 match i with
 | 0=>simp at h
 | 1=>simp at h
 | 2=>simp at h
 | i+3=>simp at h
theorem Zkz (b:Option Addr)(n a:Nat):∀ (i:Nat) (z:Int),(#[Value.slice b n a]:Array Value)[i]? ≠ some (.int .u8 z):=by
 intro i z h
 match i with
 | 0=>simp at h
 | i+1=>simp at h
theorem Row.k2 {W l:World}{v:Value}{m:List Int}{C e:Nat}{a:Int}{D:Bool}{p:Option Addr}{B q:Nat}(R:Row W v m)(x:C8 W C v a D)(y:W.heap[e]? = some (.cells #[.slice p B q] 41 (0,0)))(f:K2 C e W l):Row l v m:=by
 obtain ⟨n,c,rfl,r,s,t,u⟩:=R;refine ⟨n,c,rfl,r,s,t,fun b=>?_⟩;obtain ⟨g,o,rfl,j,d⟩:=u b;have k:=List.length_pos_iff.2 b;have z:=Row.apart k d x (ZkO _ _ _ _ _);have A:=Row.apart k d y (Zkz _ _ _);refine ⟨g,o,rfl,cm j f.size,fun i hi=>?_⟩;rw [World.cell?_of_block (w:=W) (f.block g j z A)];exact d i hi
theorem Zbq (b:Nat)(v:Value)(c:List Int)(a:Int)(g:Bool)(w:World)(R:Row w v c)(h:C8 w b v a g)(m:0 <= a)(n:a <= c.length) :
  ∃ x d i,num8 c a g=(x,d,i)/\0 <= x/\x <= 9223372036854775807/\0 <= d/\d <= c.length/\Calls prog 157 #[.pointer (some ⟨b,0,none⟩)] w fun e l=>e=.returned (.int .i64 x)/\C8 l b v d i/\w.grownBy l (some b):=by
 obtain ⟨_,_,_,_,o,_⟩:=id R;have f:=Zhg c a g m n;have j:=Ziz b v c a g w R h (by omega) (by omega);obtain ⟨p,k⟩:∃ p,num8 c a g=p:=⟨_,rfl⟩;obtain ⟨x,d,i⟩:=p;rw [k] at f j;exact ⟨x,d,i,k,f.1,f.2.1,f.2.2.1,f.2.2.2,j⟩
theorem Zbi (b:List Int)(k a:Int)(c:Bool):(sB b k a c).1.s.size <= b.length:=by
 unfold sB
 repeat' split
 all_goals first | exact Zh4 b a | exact Nat.zero_le _
theorem C8.below {w c:World}{C:Nat}{v:Value}{a:Int}{b:Bool}(h:C8 w C v a b)(d:Below w.heap.size w c):C8 c C v a b:=(bb h d)
theorem Zdf {w W c:World}{C n g m e:Nat}{l d:Option Addr}{f:Int}{k:Bool}{s:List Value}(b:Bool)(z:C < w.heap.size)(o:w.grownBy W (some C))(i:Below W.heap.size W c)(y:c.heap[C]? = some (.cells #[.slice l n g,.int .i64 f,.bool k] 198 (0,0)))(r:W.heap[w.heap.size]? = some (.cells #[.slice none 0 0] 41 (0,0)))(q:W.heap[w.heap.size+1]? = some (.cells #[.slice d m e] 41 (0,0)))(A:W.ownsRow (w.heap.size+1+1) 176 5 (.slice d m e) m s) :
  (c.setCell ⟨C,2,none⟩ (.bool b)).cell? ⟨w.heap.size+1,0,none⟩=some (.slice d m e)/\(c.setCell ⟨C,2,none⟩ (.bool b)).cell? ⟨w.heap.size,0,none⟩=some (.slice none 0 0)/\(c.setCell ⟨C,2,none⟩ (.bool b)).frozen? ⟨w.heap.size,0,none⟩=false /\
  ((c.setCell ⟨C,2,none⟩ (.bool b)).setCell ⟨w.heap.size,0,none⟩ (.slice d m e)).heap[w.heap.size]? = some (.cells #[.slice d m e] 41 (0,0))/\((c.setCell ⟨C,2,none⟩ (.bool b)).setCell ⟨w.heap.size,0,none⟩ (.slice d m e)).ownsRow w.heap.size 176 5 (.slice d m e) m s /\
  C8 ((c.setCell ⟨C,2,none⟩ (.bool b)).setCell ⟨w.heap.size,0,none⟩ (.slice d m e)) C (.slice l n g) f b/\w.grownBy ((c.setCell ⟨C,2,none⟩ (.bool b)).setCell ⟨w.heap.size,0,none⟩ (.slice d m e)) (some C):=by
 have D:=(bl r);have B:=(bl q);have J:=(i.block _ D).trans r;have H:=(i.block _ B).trans q;have E:=Zac A i;have j:=(ch c ⟨C,2,none⟩ w.heap.size (.bool b) (by show w.heap.size ≠ C;omega)).trans J;have I:=(ch c ⟨C,2,none⟩ (w.heap.size+1) (.bool b) (by show w.heap.size+1 ≠ C;omega)).trans H;have t:=ci c C 2 _ _ (.bool b) y;have F:=cx E (a:=⟨C,2,none⟩) (by show C < w.heap.size+1+1;omega) (.bool b);have v:w.grownBy (c.setCell ⟨C,2,none⟩ (.bool b)) (some C):=Zaj (Zal o i o.size) (Zam c C 2 _);have K:=ci (c.setCell ⟨C,2,none⟩ (.bool b)) w.heap.size 0 _ _ (.slice d m e) j;have u:=(ch (c.setCell ⟨C,2,none⟩ (.bool b)) ⟨w.heap.size,0,none⟩ C (.slice d m e) (by show C ≠ w.heap.size;omega)).trans t
 have G:=Zae (cx F (a:=⟨w.heap.size,0,none⟩) (by show w.heap.size < w.heap.size+1+1;omega) (.slice d m e)) (show w.heap.size <= w.heap.size+1+1 by omega);have x:w.grownBy ((c.setCell ⟨C,2,none⟩ (.bool b)).setCell ⟨w.heap.size,0,none⟩ (.slice d m e)) (some C):=Zal v ((cf w.heap.size _).setCell (p:=⟨w.heap.size,0,none⟩) (ce _) _) (ce _);exact ⟨cd _ _ 0 _ _ _ I,cd _ _ 0 _ _ _ j,cj _ _ 0 _ _ j,K,G,u,x⟩
theorem Zej {C nb P:Nat}{d wr W v:World}{x:Nd}{r u s:Value}{n:Nat}{l:List Value}{b:Int}{j:Bool}(y:Nd)(c:Nat)(val i:Value)(q:W.heap[nb]? = some (.cells (ndA x) 176 (0,0)))(g:W.heap[P]? = some (.cells #[r] 41 (0,0)))(f:W.ownsRow d.heap.size 176 5 u n l)(A:K2 C P d W)(k:W.grownBy v (some C))(z:C8 v C s b j)(o:∀ j,u.ownBlock=some j -> d.heap.size <= j/\j < wr.heap.size)(H:C < d.heap.size)(I:P < d.heap.size)(J:P ≠ C)(K:wr.heap.size <= nb)(L:d.heap.size <= wr.heap.size)(D:(ndA x)[c]? = some i)(E:(ndA x).setIfInBounds c val=ndA y) :
  v.cell? ⟨nb,c,none⟩=some i/\v.frozen? ⟨nb,c,none⟩=false/\(v.setCell ⟨nb,c,none⟩ val).heap[nb]? = some (.cells (ndA y) 176 (0,0))/\(v.setCell ⟨nb,c,none⟩ val).heap[P]? = some (.cells #[r] 41 (0,0))/\C8 (v.setCell ⟨nb,c,none⟩ val) C s b j/\(v.setCell ⟨nb,c,none⟩ val).ownsRow d.heap.size 176 5 u n l/\K2 C P d (v.setCell ⟨nb,c,none⟩ val)/\d.heap.size <= v.heap.size:=by
 have F:=(bl q);have G:=(bl g);have m:=(k.block nb F (by simp;omega)).trans q;have t:=(k.block P G (by simp;omega)).trans g;have w:=f.kept k (Zce f (by omega));have p:=A.trans (K2.ofP k);refine ⟨(cd v nb c _ _ _ m).trans D,cj v nb c _ _ m,?_,(ch v ⟨nb,c,none⟩ P val (by show P ≠ nb;omega)).trans t,(ch v ⟨nb,c,none⟩ C val (by show C ≠ nb;omega)).trans z,ownsRow_setCell_other w (a:=⟨nb,c,none⟩) (fun e=>by have:=(o nb e).2;omega) val,p.row (Zam v nb c val) (fun j B=>by cases B;omega),p.size⟩;rw [<- E];exact ci v nb c _ _ val m
theorem ZbO {nb P C:Nat}{V:World}{f g:Value}{b:Int}{j:Bool}(x:Nd)(A:Nat)(i:V.heap.size=A)(c:V.heap[nb]? = some (.cells (ndA x) 176 (0,0)))(d:V.heap[P]? = some (.cells #[f] 41 (0,0)))(l:C8 V C g b j) :
  V.cell? ⟨nb,0,none⟩=some (.int .i64 x.k)/\V.cell? ⟨nb,1,none⟩=some (.int .i64 x.n)/\V.cell? ⟨nb,2,none⟩=some (.string x.s)/\V.cell? ⟨nb,3,none⟩=some (.int .i64 x.a)/\V.cell? ⟨nb,4,none⟩=some (.int .i64 x.b)/\V.cell? ⟨P,0,none⟩=some f /\
  Below V.heap.size V (V.alloc (Obj.cells (ndA x) 176))/\(V.alloc (Obj.cells (ndA x) 176)).heap[P]? = some (.cells #[f] 41 (0,0))/\C8 (V.alloc (Obj.cells (ndA x) 176)) C g b j/\V.heap.size <= (V.alloc (Obj.cells (ndA x) 176)).heap.size/\∀ (j:Nat) u,(ncs [x])[j]? = some u -> (V.alloc (Obj.cells (ndA x) 176)).cell? ((⟨A,0,none⟩:Addr).add j)=some u:=by
 subst i;have e:Below V.heap.size V (V.alloc (Obj.cells (ndA x) 176)):=(cf _ _).alloc (ce _) _;exact ⟨cd V _ 0 _ _ _ c,cd V _ 1 _ _ _ c,cd V _ 2 _ _ _ c,cd V _ 3 _ _ _ c,cd V _ 4 _ _ _ c,cd V _ 0 _ _ _ d,e,(bb d e),l.below e,e.size,World.news_of_block (cs:=ndA x) (t:=176) (fr:=(0,0)) (cg V _)⟩
theorem Zbh {C P:Nat}{g wr V o d:World}{r u f s:Value}{m:Nat}{l:List Value}{b:Int}{j:Bool}(w:Below V.heap.size V o)(n:o.heap[P]? = some (.cells #[r] 41 (0,0)))(q:C8 o C s b j)(x:K2 C P g V)(c:o.grownBy d u.ownBlock)(k:d.ownsRow g.heap.size 176 5 f m l)(i:∀ j,u.ownBlock=some j -> g.heap.size <= j/\j < wr.heap.size)(z:C < g.heap.size)(A:P < g.heap.size)(B:P ≠ C) :
  d.cell? ⟨P,0,none⟩=some r/\d.frozen? ⟨P,0,none⟩=false/\(d.setCell ⟨P,0,none⟩ f).heap[P]? = some (.cells #[f] 41 (0,0))/\K2 C P g (d.setCell ⟨P,0,none⟩ f)/\C8 (d.setCell ⟨P,0,none⟩ f) C s b j/\(d.setCell ⟨P,0,none⟩ f).ownsRow g.heap.size 176 5 f m l:=by
 have p:=(c.block P (bl n) (fun e=>by have:=(i _ e.symm).1;omega)).trans n;have t:=(c.block C (bl q) (fun e=>by have:=(i _ e.symm).1;omega)).trans q;have v:=(x.trans (K2.ofB w)).row c (fun j y=>(i j y).1);exact ⟨cd d _ 0 _ _ _ p,cj d _ 0 _ _ p,ci d P 0 _ _ f p,v.trans (K2.ofM (Zam d P 0 f)),(ch d ⟨P,0,none⟩ C _ (by show C ≠ P;omega)).trans t,cx k (a:=⟨P,0,none⟩) (by show P < g.heap.size;omega) f⟩
theorem Zbg {c:List Int}{a f b:Int}{g j:Bool}{m:Nat}{e:List Nd}(x:Nd)(l:Hid (sN c f=(x,b,j)))(k:x.s.size <= c.length)(i:Hid (sP c a g=sNs c (m+1) e f true))(n:Hid (∀ x ∈ e,x.s.size <= c.length)) :
  Hid (sP c a g=sNs c m (e ++ [x]) b j)/\Hid ((e ++ [x]).length=e.length+1)/\Hid (∀ y ∈ e ++ [x],y.s.size <= c.length):=by
 refine ⟨by unfold Hid;rw [i.out,sNs,if_pos rfl,l.out],by unfold Hid;rw [List.length_append];rfl,?_⟩;intro y d;rcases List.mem_append.1 d with d | d
 ·exact n.out y d
 ·rw [List.mem_singleton] at d;subst d;exact k
theorem Zhq (C:Nat)(v:Value)(f:List Int)(a:Int)(ok:Bool)(w:World)(R:Row w v f)(h:C8 w C v a ok)(h0:0 <= a)(h1:a <= f.length) :
  Calls prog 138 #[.pointer (some ⟨C,0,none⟩)] w fun e w'=>∃ vs,e=.returned (.agg #[vs])/\w'.ownsRow w.heap.size 176 5 vs (sP f a ok).1.length (ncs (sP f a ok).1)/\C8 w' C v (sP f a ok).2.1 (sOk f a ok)/\w.grownBy w' (some C)/\∀ x ∈ (sP f a ok).1,x.s.size <= f.length:=by
 obtain ⟨i0,hi,aB,aC,aD⟩:=info_parts Zma;obtain ⟨ao,r,rfl,_,bZ,_⟩:=id R;have aU:=(bl h);obtain ⟨aS,x0,x1⟩:=ZaC w (Obj.cells #[.slice none 0 0] 41) (Obj.cells #[.slice none 0 0] 41)
 go_enter func138,ntmps138
 go_wp2_with fail;obtain ⟨W2,bA⟩:∃ W2,(w.alloc (Obj.cells #[.slice none 0 0] 41)).alloc (Obj.cells #[.slice none 0 0] 41)=W2:=⟨_,rfl⟩;rw [bA] at aS x0 x1 ⊢;have bY:=(bl x1);obtain ⟨n,a1,k1,en,n0,n1,bI,bJ,HN⟩:=Zbq C (.slice ao f.length r) f a ok W2 (R.below aS) (h.below aS) h0 h1;refine HN.mono ?_;rintro e w1 ⟨rfl,ai,a0⟩;have bS:=x1;have x0:=(a0.block _ (by omega) (by simp;omega)).trans x0;have x1:=(a0.block _ (by omega) (by simp;omega)).trans x1;have a7:w.grownBy w1 (some C):=Zaj (ZcX aS _) a0;have b0:=a0.size;have HP:Hid (sP f a ok=sNs f n.toNat [] a1 (k1 && decide (n <= 3000))):=by unfold Hid sP ZiA;rw [en]
 have aA:Row w1 (.slice ao f.length r) f:=(R.below aS).k2 (h.below aS) bS (K2.ofP a0);clear en HN a0 aS bA;have cC:w1.cell? ⟨C,2,none⟩=some (.bool k1):=cd _ _ 2 _ _ _ ai;have fC:w1.frozen? ⟨C,2,none⟩=false:=cj _ _ 2 _ _ ai
 by_cases V:3000 < n
 ·have HX:Hid (sP f a ok=([],a1,false)):=by unfold Hid;rw [HP.out,decide_eq_false (by omega),Bool.and_false,Zb2]
  have HS:Hid (sOk f a ok=false):=by unfold Hid sOk;rw [HX.out];rfl
  have aZ:C8 (w1.setCell ⟨C,2,none⟩ (.bool false)) C (.slice ao f.length r) a1 false:=ci w1 C 2 _ _ (.bool false) ai;have y0:=(ch w1 ⟨C,2,none⟩ w.heap.size (.bool false) (by show w.heap.size ≠ C;omega)).trans x0;have y1:=(ch w1 ⟨C,2,none⟩ (w.heap.size+1) (.bool false) (by show w.heap.size+1 ≠ C;omega)).trans x1;have bx:w.grownBy (w1.setCell ⟨C,2,none⟩ (.bool false)) (some C):=Zaj a7 (Zam w1 C 2 _);have cD:(w1.setCell ⟨C,2,none⟩ (.bool false)).cell? ⟨C,2,none⟩=some (.bool false):=cd _ _ 2 _ _ _ aZ;go_wp2_with fail;obtain ⟨W3,bB⟩:∃ W3,w1.setCell ⟨C,2,none⟩ (.bool false)=W3:=⟨_,rfl⟩;rw [bB] at aZ y0 y1 bx cD ⊢;clear bB cC fC ai x0 x1 a7 aA
  go_loopw [5] (fun i wr=>i=.int .i64 0/\wr=W3) (fun _ _=>0)
  case atStart=>exact ⟨rfl,rfl⟩
  case round =>
   obtain ⟨rfl,rfl⟩:=hrel;have n3:(0:Int) < n:=by omega
   go_wp2_with fail;refine Zcq C (w.heap.size+1) f.length r 0 0 ao none a1 _ _ (by omega) aZ y1 ?_;intro u105 u106 u107 u108 u109 u110 u111 u112 u113 u114 u115 u116 u117 u118 u119 u120 u121 u122 u123 u124 u125 u126 u127 WF ad ae;obtain ⟨q1,q2,q3,q4,q5,q6,q7⟩:=Zdf false aU bx ad ae y0 y1 (World.ownsRow_nil _ _ _ _);clear ad ae;go_wp2;refine ck (results_cell_row rfl _ _ w.heap.size 41 _ (0,0) _ rfl q4 underlying41 rfl Zmf) rfl ⟨.slice none 0 0,rfl,?_,?_,q7,?_⟩
   ·rw [HX.out];exact q5
   ·rw [HS.out,HX.out];exact q6
   ·rw [HX.out];intro x hx;cases hx
 obtain ⟨N,rfl⟩:=cu n0;have bW:N <= 3000:=by omega
 cases k1 with
 | false =>
  have HX:Hid (sP f a ok=([],a1,false)):=by unfold Hid;rw [HP.out,Bool.false_and,Zb2]
  have HS:Hid (sOk f a ok=false):=by unfold Hid sOk;rw [HX.out];rfl
  go_wp2_with fail
  go_loopw [5] (fun i wr=>i=.int .i64 0/\wr=w1) (fun _ _=>0)
  case atStart=>exact ⟨rfl,rfl⟩
  case round =>
   obtain ⟨rfl,rfl⟩:=hrel;rcases Nat.eq_zero_or_pos N with bw | bw
   ·subst bw
    go_wp2_with fail;refine Zcq C (w.heap.size+1) f.length r 0 0 ao none a1 _ _ (by omega) ai x1 ?_;intro u105 u106 u107 u108 u109 u110 u111 u112 u113 u114 u115 u116 u117 u118 u119 u120 u121 u122 u123 u124 u125 u126 u127 WF ad ae;obtain ⟨q1,q2,q3,q4,q5,q6,q7⟩:=Zdf false aU a7 ad ae x0 x1 (World.ownsRow_nil _ _ _ _);clear ad ae;go_wp2;refine ck (results_cell_row rfl _ _ w.heap.size 41 _ (0,0) _ rfl q4 underlying41 rfl Zmf) rfl ⟨.slice none 0 0,rfl,?_,?_,q7,?_⟩
    ·rw [HX.out];exact q5
    ·rw [HS.out,HX.out];exact q6
    ·rw [HX.out];intro x hx;cases hx
   ·have bV:(0:Int) < N:=by omega
    go_wp2_with fail;refine Zcq C (w.heap.size+1) f.length r 0 0 ao none a1 _ _ (by omega) ai x1 ?_;intro u105 u106 u107 u108 u109 u110 u111 u112 u113 u114 u115 u116 u117 u118 u119 u120 u121 u122 u123 u124 u125 u126 u127 WF ad ae;obtain ⟨q1,q2,q3,q4,q5,q6,q7⟩:=Zdf false aU a7 ad ae x0 x1 (World.ownsRow_nil _ _ _ _);clear ad ae;go_wp2;refine ck (results_cell_row rfl _ _ w.heap.size 41 _ (0,0) _ rfl q4 underlying41 rfl Zmf) rfl ⟨.slice none 0 0,rfl,?_,?_,q7,?_⟩
    ·rw [HX.out];exact q5
    ·rw [HS.out,HX.out];exact q6
    ·rw [HX.out];intro x hx;cases hx
 | true =>
  have HP:Hid (sP f a ok=sNs f N [] a1 true):=by unfold Hid;rw [HP.out,decide_eq_true (by omega)];rfl
  go_wp2_with fail;clear cC fC
  go_loopw [5] (fun i wr=>∃ (k m:Nat) (xs:List Nd) (H:Int) (kk:Bool) (av:Option Addr) (cv:Nat),k+m=N/\i=.int .i64 k/\Hid (sP f a ok=sNs f m xs H kk)/\Hid (xs.length=k)/\Hid (∀ x ∈ xs,x.s.size <= f.length)/\0 <= H/\H <= f.length/\C8 wr C (.slice ao f.length r) H kk/\wr.heap[w.heap.size+1]? = some (.cells #[.slice av k cv] 41 (0,0))/\wr.ownsRow w1.heap.size 176 5 (.slice av k cv) k (ncs xs)/\K2 C (w.heap.size+1) w1 wr) (fun i _=>N - (intOf i).toNat)
  case atStart=>exact ⟨0,N,[],a1,true,none,0,by omega,rfl,HP,rfl,(by intro x hx;cases hx),bI,bJ,ai,x1,World.ownsRow_nil _ _ _ _,K2.refl _ _ _⟩
  case round =>
   obtain ⟨k,m,xs,H,kk,av,cv,bX,rfl,HR,HL,HZ,bK,bL,hC,aE,aq,hK⟩:=hrel;have b2:=hK.size;have bj:=(hK.block _ (by omega) (by omega) (by omega)).trans x0;have bh:w.grownBy wr (some C):=((K2.ofP a7).trans hK).grown (by omega);have cC:wr.cell? ⟨C,2,none⟩=some (.bool kk):=cd _ _ 2 _ _ _ hC;obtain rfl:xs.length=k:=HL.out;cases kk with
   | false =>
    have HX:Hid (sP f a ok=(xs,H,false)):=by unfold Hid;rw [HR.out,Zb2]
    have HS:Hid (sOk f a ok=false):=by unfold Hid sOk;rw [HX.out];rfl
    by_cases bO:(xs.length:Int) < N
    ·go_wp2_with fail
     refine Zcq C (w.heap.size+1) f.length r xs.length cv ao av H _ _ (by omega) hC aE ?_;intro u105 u106 u107 u108 u109 u110 u111 u112 u113 u114 u115 u116 u117 u118 u119 u120 u121 u122 u123 u124 u125 u126 u127 WF ad ae;obtain ⟨q1,q2,q3,q4,q5,q6,q7⟩:=Zdf false aU bh ad ae bj aE (Zae aq (show w.heap.size+1+1 <= w1.heap.size by omega));clear ad ae;go_wp2;refine ck (results_cell_row rfl _ _ w.heap.size 41 _ (0,0) _ rfl q4 underlying41 rfl Zmf) rfl ⟨.slice av xs.length cv,rfl,?_,?_,q7,?_⟩
     ·rw [HX.out];exact q5
     ·rw [HS.out,HX.out];exact q6
     ·rw [HX.out];exact HZ.out
    ·go_wp2_with fail
     refine Zcq C (w.heap.size+1) f.length r xs.length cv ao av H _ _ (by omega) hC aE ?_;intro u105 u106 u107 u108 u109 u110 u111 u112 u113 u114 u115 u116 u117 u118 u119 u120 u121 u122 u123 u124 u125 u126 u127 WF ad ae;obtain ⟨q1,q2,q3,q4,q5,q6,q7⟩:=Zdf false aU bh ad ae bj aE (Zae aq (show w.heap.size+1+1 <= w1.heap.size by omega));clear ad ae;go_wp2;refine ck (results_cell_row rfl _ _ w.heap.size 41 _ (0,0) _ rfl q4 underlying41 rfl Zmf) rfl ⟨.slice av xs.length cv,rfl,?_,?_,q7,?_⟩
     ·rw [HX.out];exact q5
     ·rw [HS.out,HX.out];exact q6
     ·rw [HX.out];exact HZ.out
   | true =>
    by_cases bO:(xs.length:Int) < N
    ·obtain ⟨m,rfl⟩:∃ m',m=m'+1:=⟨m - 1,by omega⟩
     have Rr:=aA.k2 ai x1 hK;have lC:=(bl hC);have bR:=(bl aE);have K:∀ j,(Value.slice av xs.length cv).ownBlock=some j -> w1.heap.size <= j/\j < wr.heap.size:=fun j hj=>aq.lt j hj
     obtain ⟨kd,a2,k2,e1,b3,b4,aN,aO,bu⟩:=Zbq C (.slice ao f.length r) f H true wr Rr hC bK bL;go_wp2_with fail;refine bu.mono ?_;rintro e w2 ⟨rfl,aZ,a9⟩;have bk:=(a9.block _ bR (by simp;omega)).trans aE;have ba:=aq.kept a9 (Zce aq (by omega));have bz:=hK.trans (K2.ofP a9);have bQ:=a9.size;clear cC bu a9
     go_wp2_with (refine Zak rfl 176 _ _ rfl w2.heap.size (ndA (nd0 kd)) rfl rfl 176 _ (cg _ _) Zme rfl (ZbW _) ?_)
     intro w3 aw bC bE;clear bE;have aP:Below w2.heap.size w2 w3:=((cf _ _).alloc (ce _) _).trans bC;have ay:=aZ.below aP;have al:=(bb bk aP);have ab:=Zac ba aP;have ag:=bz.trans (K2.ofB aP);have bG:=(bl aw);clear aP bC aZ bk ba bz aq aE hC Rr;obtain ⟨nb,bD⟩:∃ nb,Hid (w2.heap.size=nb):=⟨_,rfl⟩;rw [bD.out] at aw bQ bG ⊢;clear bD;have cK:w3.cell? ⟨nb,0,none⟩=some (.int .i64 kd):=cd _ _ 0 _ _ _ aw;have Z:C < w1.heap.size:=by omega
     have aa:w.heap.size+1 < w1.heap.size:=by omega
     have V:w.heap.size+1 ≠ C:=by omega
     have aL:wr.heap.size <= nb:=by omega
     have aM:w1.heap.size <= wr.heap.size:=by omega
     have HN:Hid (sN f H=sB f kd a2 k2):=by unfold Hid sN;rw [e1]
     clear e1;rcases (show kd=2 \/ kd=8 \/ kd=9 \/ kd=3 \/ kd=4 \/ kd=5 \/ kd=6 \/ kd=7 \/ (kd ≠ 2/\kd ≠ 8/\kd ≠ 9/\kd ≠ 3/\kd ≠ 4/\kd ≠ 5/\kd ≠ 6/\kd ≠ 7) by omega) with rfl | rfl | rfl | rfl | rfl | rfl | rfl | rfl | ⟨m2,m8,m9,m3,m4,m5,m6,m7⟩
     ·have R5:=aA.k2 ai x1 ag
      obtain ⟨J,b5,j5,e5,a3,a4,ar,au,ac⟩:=Zbq C (.slice ao f.length r) f a2 k2 w3 R5 ay aN aO;go_wp2_with fail;refine ac.mono ?_;rintro e v5 ⟨rfl,af,G⟩;obtain ⟨aX,aY,Y,E,X,p,D,aK⟩:=Zej (⟨2,J,ByteArray.empty,0,0⟩:Nd) 1 (.int .i64 J) (.int .i64 0) aw al ab ag G af K Z aa V aL aM rfl rfl;clear ac G;obtain ⟨k0,k1,U,k3,k4,kp,z,l,A,aG,c⟩:=ZbO (⟨2,J,ByteArray.empty,0,0⟩:Nd) v5.heap.size (by simp [World.setCell]) Y E X;have u:Hid (sN f H=((⟨2,J,ByteArray.empty,0,0⟩:Nd),b5,j5)):=by unfold Hid;rw [HN.out];unfold sB;rw [if_pos (Or.inl rfl),e5]
      have P:(⟨2,J,ByteArray.empty,0,0⟩:Nd).s.size <= f.length:=by have:=congrArg (fun t=>t.1.s.size) u.out;rw [HN.out] at this;dsimp only at this;rw [<- this];exact Zbi _ _ _ _
      obtain ⟨O,M,Q⟩:=Zbg _ u P HR HZ;have aH:=D.size
      go_wp2_with (at_builtin;refine wpList_append_lies _ rfl _ _ 39 rfl w1.heap.size 176 i0 _ 5 48 underlying39 hi aB aC aD rfl (by decide) _ _ _ rfl (p.alloc _) ⟨v5.heap.size,0,none⟩ 1 1 (ncs [(⟨2,J,ByteArray.empty,0,0⟩:Nd)]) rfl rfl c (Za0 _) (by omega) (by unfold maxLen;omega) (by omega) (by simp;omega) _ rfl ?_)
      intro g2 y w8 d b I aj;obtain ⟨aJ,aI,B,T,S,o⟩:=Zbh z l A D b d K Z aa V;clear c k0 k1 U k3 k4 kp b I d l z A;go_wp2
      go_roundw
      case rel=>exact ⟨xs.length+1,m,_,b5,j5,_,y,by omega,by go_num,O,M,Q,ar,au,S,B,by rw [Zay];exact o,T⟩
      case measure=>simp [intOf];omega
     ·have R5:=aA.k2 ai x1 ag
      obtain ⟨J,b5,j5,e5,a3,a4,ar,au,ac⟩:=Zbq C (.slice ao f.length r) f a2 k2 w3 R5 ay aN aO;go_wp2_with fail;refine ac.mono ?_;rintro e v5 ⟨rfl,af,G⟩;obtain ⟨aX,aY,Y,E,X,p,D,aK⟩:=Zej (⟨8,J,ByteArray.empty,0,0⟩:Nd) 1 (.int .i64 J) (.int .i64 0) aw al ab ag G af K Z aa V aL aM rfl rfl;clear ac G;obtain ⟨k0,k1,U,k3,k4,kp,z,l,A,aG,c⟩:=ZbO (⟨8,J,ByteArray.empty,0,0⟩:Nd) v5.heap.size (by simp [World.setCell]) Y E X;have u:Hid (sN f H=((⟨8,J,ByteArray.empty,0,0⟩:Nd),b5,j5)):=by unfold Hid;rw [HN.out];unfold sB;rw [if_pos (Or.inr (Or.inl rfl)),e5]
      have P:(⟨8,J,ByteArray.empty,0,0⟩:Nd).s.size <= f.length:=by have:=congrArg (fun t=>t.1.s.size) u.out;rw [HN.out] at this;dsimp only at this;rw [<- this];exact Zbi _ _ _ _
      obtain ⟨O,M,Q⟩:=Zbg _ u P HR HZ;have aH:=D.size
      go_wp2_with (at_builtin;refine wpList_append_lies _ rfl _ _ 39 rfl w1.heap.size 176 i0 _ 5 48 underlying39 hi aB aC aD rfl (by decide) _ _ _ rfl (p.alloc _) ⟨v5.heap.size,0,none⟩ 1 1 (ncs [(⟨8,J,ByteArray.empty,0,0⟩:Nd)]) rfl rfl c (Za0 _) (by omega) (by unfold maxLen;omega) (by omega) (by simp;omega) _ rfl ?_)
      intro g2 y w8 d b I aj;obtain ⟨aJ,aI,B,T,S,o⟩:=Zbh z l A D b d K Z aa V;clear c k0 k1 U k3 k4 kp b I d l z A;go_wp2
      go_roundw
      case rel=>exact ⟨xs.length+1,m,_,b5,j5,_,y,by omega,by go_num,O,M,Q,ar,au,S,B,by rw [Zay];exact o,T⟩
      case measure=>simp [intOf];omega
     ·have R5:=aA.k2 ai x1 ag
      obtain ⟨J,b5,j5,e5,a3,a4,ar,au,ac⟩:=Zbq C (.slice ao f.length r) f a2 k2 w3 R5 ay aN aO;go_wp2_with fail;refine ac.mono ?_;rintro e v5 ⟨rfl,af,G⟩;obtain ⟨aX,aY,Y,E,X,p,D,aK⟩:=Zej (⟨9,J,ByteArray.empty,0,0⟩:Nd) 1 (.int .i64 J) (.int .i64 0) aw al ab ag G af K Z aa V aL aM rfl rfl;clear ac G;obtain ⟨k0,k1,U,k3,k4,kp,z,l,A,aG,c⟩:=ZbO (⟨9,J,ByteArray.empty,0,0⟩:Nd) v5.heap.size (by simp [World.setCell]) Y E X;have u:Hid (sN f H=((⟨9,J,ByteArray.empty,0,0⟩:Nd),b5,j5)):=by unfold Hid;rw [HN.out];unfold sB;rw [if_pos (Or.inr (Or.inr rfl)),e5]
      have P:(⟨9,J,ByteArray.empty,0,0⟩:Nd).s.size <= f.length:=by have:=congrArg (fun t=>t.1.s.size) u.out;rw [HN.out] at this;dsimp only at this;rw [<- this];exact Zbi _ _ _ _
      obtain ⟨O,M,Q⟩:=Zbg _ u P HR HZ;have aH:=D.size
      go_wp2_with (at_builtin;refine wpList_append_lies _ rfl _ _ 39 rfl w1.heap.size 176 i0 _ 5 48 underlying39 hi aB aC aD rfl (by decide) _ _ _ rfl (p.alloc _) ⟨v5.heap.size,0,none⟩ 1 1 (ncs [(⟨9,J,ByteArray.empty,0,0⟩:Nd)]) rfl rfl c (Za0 _) (by omega) (by unfold maxLen;omega) (by omega) (by simp;omega) _ rfl ?_)
      intro g2 y w8 d b I aj;obtain ⟨aJ,aI,B,T,S,o⟩:=Zbh z l A D b d K Z aa V;clear c k0 k1 U k3 k4 kp b I d l z A;go_wp2
      go_roundw
      case rel=>exact ⟨xs.length+1,m,_,b5,j5,_,y,by omega,by go_num,O,M,Q,ar,au,S,B,by rw [Zay];exact o,T⟩
      case measure=>simp [intOf];omega
     ·have R5:=aA.k2 ai x1 ag
      obtain ⟨J,b5,j5,e5,a3,a4,ar,au,ac⟩:=Zbq C (.slice ao f.length r) f a2 k2 w3 R5 ay aN aO;go_wp2_with fail;refine ac.mono ?_;rintro e v5 ⟨rfl,af,G⟩;obtain ⟨aX,aY,Y,E,X,p,D,aK⟩:=Zej (⟨3,(J - 1000000000),ByteArray.empty,0,0⟩:Nd) 1 (.int .i64 (J - 1000000000)) (.int .i64 0) aw al ab ag G af K Z aa V aL aM rfl rfl;clear ac G;obtain ⟨k0,k1,U,k3,k4,kp,z,l,A,aG,c⟩:=ZbO (⟨3,(J - 1000000000),ByteArray.empty,0,0⟩:Nd) v5.heap.size (by simp [World.setCell]) Y E X;have u:Hid (sN f H=((⟨3,(J - 1000000000),ByteArray.empty,0,0⟩:Nd),b5,j5)):=by unfold Hid;rw [HN.out];unfold sB;rw [if_neg (by omega),if_pos rfl,e5]
      have P:(⟨3,(J - 1000000000),ByteArray.empty,0,0⟩:Nd).s.size <= f.length:=by have:=congrArg (fun t=>t.1.s.size) u.out;rw [HN.out] at this;dsimp only at this;rw [<- this];exact Zbi _ _ _ _
      obtain ⟨O,M,Q⟩:=Zbg _ u P HR HZ;have aH:=D.size
      go_wp2_with (at_builtin;refine wpList_append_lies _ rfl _ _ 39 rfl w1.heap.size 176 i0 _ 5 48 underlying39 hi aB aC aD rfl (by decide) _ _ _ rfl (p.alloc _) ⟨v5.heap.size,0,none⟩ 1 1 (ncs [(⟨3,(J - 1000000000),ByteArray.empty,0,0⟩:Nd)]) rfl rfl c (Za0 _) (by omega) (by unfold maxLen;omega) (by omega) (by simp;omega) _ rfl ?_)
      intro g2 y w8 d b I aj;obtain ⟨aJ,aI,B,T,S,o⟩:=Zbh z l A D b d K Z aa V;clear c k0 k1 U k3 k4 kp b I d l z A;go_wp2
      go_roundw
      case rel=>exact ⟨xs.length+1,m,_,b5,j5,_,y,by omega,by go_num,O,M,Q,ar,au,S,B,by rw [Zay];exact o,T⟩
      case measure=>simp [intOf];omega
     ·have R5:=aA.k2 ai x1 ag
      obtain ⟨g,hg⟩:∃ g,Hid (gT f a2=g):=⟨_,rfl⟩;obtain ⟨L,F,gk⟩:=g
      have HG:∀ W:World,Row W (.slice ao f.length r) f -> Calls prog 158 #[.slice ao f.length r,.int .i64 a2] W fun e w'=>e=.returned (.tuple #[.string L,.int .i64 F,.bool gk])/\w'=W:=fun W RW=>by
       have:=Zhs _ f a2 W RW (by omega) (by omega);rw [hg.out] at this;exact this
      have bf:0 <= F:=by have:=(Zgk f a2).1;rw [hg.out] at this;exact this
      have bg:F <= f.length:=by have:=(Zgk f a2).2;rw [hg.out] at this;exact this
      have c0:w3.cell? ⟨C,0,none⟩=some (.slice ao f.length r):=cd _ _ 0 _ _ _ ay;have c1:w3.cell? ⟨C,1,none⟩=some (.int .i64 a2):=cd _ _ 1 _ _ _ ay;go_wp2_with fail
      go_quiet (first | (go_at_call 158;refine Calls.quiet_of_same (HG _ R5)))
      all_goals
       have hd:Below w3.heap.size w3 (w3.drewN nq):=⟨rfl,rfl,rfl,ce _,fun _ _=>rfl⟩;have az:=ay.below hd;have bi:=(hd.block _ bG).trans aw;have ax:=(bb al hd);have ak:=Zac ab hd;have aQ:=ag.trans (K2.ofB hd);have b1:=hd.size;clear c0 c1 HG R5 hd ay aw al ab ag cK;generalize w3.drewN nq=q at *;cases k2 <;> cases gk
       ·have p2:q.cell? ⟨C,2,none⟩=some (.bool false):=cd _ _ 2 _ _ _ az
        have bs:q.frozen? ⟨C,2,none⟩=false:=cj _ _ 2 _ _ az;have am:C8 (q.setCell ⟨C,2,none⟩ (.bool false)) C (.slice ao f.length r) a2 false:=ci q C 2 _ _ (.bool false) az;have pa:(q.setCell ⟨C,2,none⟩ (.bool false)).cell? ⟨C,1,none⟩=some (.int .i64 a2):=cd _ _ 1 _ _ _ am;have bt:(q.setCell ⟨C,2,none⟩ (.bool false)).frozen? ⟨C,1,none⟩=false:=cj _ _ 1 _ _ am;have ah:q.grownBy ((q.setCell ⟨C,2,none⟩ (.bool false)).setCell ⟨C,1,none⟩ (.int .i64 F)) (some C):=Zaj (Zam q C 2 _) (Zam _ C 1 _);have aT:C8 ((q.setCell ⟨C,2,none⟩ (.bool false)).setCell ⟨C,1,none⟩ (.int .i64 F)) C (.slice ao f.length r) F false:=ci (q.setCell ⟨C,2,none⟩ (.bool false)) C 1 _ _ (.int .i64 F) am;have an:=(ah.block nb (by omega) (by simp;omega)).trans bi;have aF:=(ah.block _ (bl ax) (by simp;omega)).trans ax;have ap:=ak.kept ah (Zce ak (by omega))
        have aV:=aQ.trans (K2.ofP ah);have bd:=aQ.size;have br:((q.setCell ⟨C,2,none⟩ (.bool false)).setCell ⟨C,1,none⟩ (.int .i64 F)).cell? ⟨nb,2,none⟩=some (.string ByteArray.empty):=cd _ _ 2 _ _ _ an;have be:((q.setCell ⟨C,2,none⟩ (.bool false)).setCell ⟨C,1,none⟩ (.int .i64 F)).frozen? ⟨nb,2,none⟩=false:=cj _ _ 2 _ _ an;have Y:(((q.setCell ⟨C,2,none⟩ (.bool false)).setCell ⟨C,1,none⟩ (.int .i64 F)).setCell ⟨nb,2,none⟩ (.string L)).heap[nb]? = some (.cells (ndA (⟨4,0,L,0,0⟩:Nd)) 176 (0,0)):=ci ((q.setCell ⟨C,2,none⟩ (.bool false)).setCell ⟨C,1,none⟩ (.int .i64 F)) nb 2 _ _ (.string L) an;have E:=(ch ((q.setCell ⟨C,2,none⟩ (.bool false)).setCell ⟨C,1,none⟩ (.int .i64 F)) ⟨nb,2,none⟩ (w.heap.size+1) (.string L) (by show w.heap.size+1 ≠ nb;omega)).trans aF
        have X:C8 (((q.setCell ⟨C,2,none⟩ (.bool false)).setCell ⟨C,1,none⟩ (.int .i64 F)).setCell ⟨nb,2,none⟩ (.string L)) C (.slice ao f.length r) F false:=(ch ((q.setCell ⟨C,2,none⟩ (.bool false)).setCell ⟨C,1,none⟩ (.int .i64 F)) ⟨nb,2,none⟩ C (.string L) (by show C ≠ nb;omega)).trans aT;have p:=ownsRow_setCell_other ap (a:=⟨nb,2,none⟩) (fun e=>by have:=(K nb e).2;omega) (.string L);have D:=aV.row (Zam ((q.setCell ⟨C,2,none⟩ (.bool false)).setCell ⟨C,1,none⟩ (.int .i64 F)) nb 2 (.string L)) (fun j hj=>by cases hj;omega);obtain ⟨k0,k1,U,k3,k4,kp,z,l,A,aG,c⟩:=ZbO (⟨4,0,L,0,0⟩:Nd) q.heap.size (by simp [World.setCell]) Y E X;have u:Hid (sN f H=((⟨4,0,L,0,0⟩:Nd),F,false)):=by unfold Hid;rw [HN.out];unfold sB;rw [if_neg (by omega),if_neg (by omega),if_pos rfl,hg.out];rfl
        have P:(⟨4,0,L,0,0⟩:Nd).s.size <= f.length:=by have:=congrArg (fun t=>t.1.s.size) u.out;rw [HN.out] at this;dsimp only at this;rw [<- this];exact Zbi _ _ _ _
        obtain ⟨O,M,Q⟩:=Zbg _ u P HR HZ;have aH:=D.size
        go_wp2_with (at_builtin;refine wpList_append_lies _ rfl _ _ 39 rfl w1.heap.size 176 i0 _ 5 48 underlying39 hi aB aC aD rfl (by decide) _ _ _ rfl (p.alloc _) ⟨q.heap.size,0,none⟩ 1 1 (ncs [(⟨4,0,L,0,0⟩:Nd)]) rfl rfl c (Za0 _) (by omega) (by unfold maxLen;omega) (by omega) (by simp;omega) _ rfl ?_)
        intro g2 y w8 d b I aj;obtain ⟨aJ,aI,B,T,S,o⟩:=Zbh z l A D b d K Z aa V;clear c k0 k1 U k3 k4 kp b I d l z A;go_wp2
        go_roundw
        case rel=>exact ⟨xs.length+1,m,_,F,false,_,y,by omega,by go_num,O,M,Q,bf,bg,S,B,by rw [Zay];exact o,T⟩
        case measure=>simp [intOf];omega
       ·have p2:q.cell? ⟨C,2,none⟩=some (.bool false):=cd _ _ 2 _ _ _ az
        have bs:q.frozen? ⟨C,2,none⟩=false:=cj _ _ 2 _ _ az;have am:C8 (q.setCell ⟨C,2,none⟩ (.bool false)) C (.slice ao f.length r) a2 false:=ci q C 2 _ _ (.bool false) az;have pa:(q.setCell ⟨C,2,none⟩ (.bool false)).cell? ⟨C,1,none⟩=some (.int .i64 a2):=cd _ _ 1 _ _ _ am;have bt:(q.setCell ⟨C,2,none⟩ (.bool false)).frozen? ⟨C,1,none⟩=false:=cj _ _ 1 _ _ am;have ah:q.grownBy ((q.setCell ⟨C,2,none⟩ (.bool false)).setCell ⟨C,1,none⟩ (.int .i64 F)) (some C):=Zaj (Zam q C 2 _) (Zam _ C 1 _);have aT:C8 ((q.setCell ⟨C,2,none⟩ (.bool false)).setCell ⟨C,1,none⟩ (.int .i64 F)) C (.slice ao f.length r) F false:=ci (q.setCell ⟨C,2,none⟩ (.bool false)) C 1 _ _ (.int .i64 F) am;have an:=(ah.block nb (by omega) (by simp;omega)).trans bi;have aF:=(ah.block _ (bl ax) (by simp;omega)).trans ax;have ap:=ak.kept ah (Zce ak (by omega))
        have aV:=aQ.trans (K2.ofP ah);have bd:=aQ.size;have br:((q.setCell ⟨C,2,none⟩ (.bool false)).setCell ⟨C,1,none⟩ (.int .i64 F)).cell? ⟨nb,2,none⟩=some (.string ByteArray.empty):=cd _ _ 2 _ _ _ an;have be:((q.setCell ⟨C,2,none⟩ (.bool false)).setCell ⟨C,1,none⟩ (.int .i64 F)).frozen? ⟨nb,2,none⟩=false:=cj _ _ 2 _ _ an;have Y:(((q.setCell ⟨C,2,none⟩ (.bool false)).setCell ⟨C,1,none⟩ (.int .i64 F)).setCell ⟨nb,2,none⟩ (.string L)).heap[nb]? = some (.cells (ndA (⟨4,0,L,0,0⟩:Nd)) 176 (0,0)):=ci ((q.setCell ⟨C,2,none⟩ (.bool false)).setCell ⟨C,1,none⟩ (.int .i64 F)) nb 2 _ _ (.string L) an;have E:=(ch ((q.setCell ⟨C,2,none⟩ (.bool false)).setCell ⟨C,1,none⟩ (.int .i64 F)) ⟨nb,2,none⟩ (w.heap.size+1) (.string L) (by show w.heap.size+1 ≠ nb;omega)).trans aF
        have X:C8 (((q.setCell ⟨C,2,none⟩ (.bool false)).setCell ⟨C,1,none⟩ (.int .i64 F)).setCell ⟨nb,2,none⟩ (.string L)) C (.slice ao f.length r) F false:=(ch ((q.setCell ⟨C,2,none⟩ (.bool false)).setCell ⟨C,1,none⟩ (.int .i64 F)) ⟨nb,2,none⟩ C (.string L) (by show C ≠ nb;omega)).trans aT;have p:=ownsRow_setCell_other ap (a:=⟨nb,2,none⟩) (fun e=>by have:=(K nb e).2;omega) (.string L);have D:=aV.row (Zam ((q.setCell ⟨C,2,none⟩ (.bool false)).setCell ⟨C,1,none⟩ (.int .i64 F)) nb 2 (.string L)) (fun j hj=>by cases hj;omega);obtain ⟨k0,k1,U,k3,k4,kp,z,l,A,aG,c⟩:=ZbO (⟨4,0,L,0,0⟩:Nd) q.heap.size (by simp [World.setCell]) Y E X;have u:Hid (sN f H=((⟨4,0,L,0,0⟩:Nd),F,false)):=by unfold Hid;rw [HN.out];unfold sB;rw [if_neg (by omega),if_neg (by omega),if_pos rfl,hg.out];rfl
        have P:(⟨4,0,L,0,0⟩:Nd).s.size <= f.length:=by have:=congrArg (fun t=>t.1.s.size) u.out;rw [HN.out] at this;dsimp only at this;rw [<- this];exact Zbi _ _ _ _
        obtain ⟨O,M,Q⟩:=Zbg _ u P HR HZ;have aH:=D.size
        go_wp2_with (at_builtin;refine wpList_append_lies _ rfl _ _ 39 rfl w1.heap.size 176 i0 _ 5 48 underlying39 hi aB aC aD rfl (by decide) _ _ _ rfl (p.alloc _) ⟨q.heap.size,0,none⟩ 1 1 (ncs [(⟨4,0,L,0,0⟩:Nd)]) rfl rfl c (Za0 _) (by omega) (by unfold maxLen;omega) (by omega) (by simp;omega) _ rfl ?_)
        intro g2 y w8 d b I aj;obtain ⟨aJ,aI,B,T,S,o⟩:=Zbh z l A D b d K Z aa V;clear c k0 k1 U k3 k4 kp b I d l z A;go_wp2
        go_roundw
        case rel=>exact ⟨xs.length+1,m,_,F,false,_,y,by omega,by go_num,O,M,Q,bf,bg,S,B,by rw [Zay];exact o,T⟩
        case measure=>simp [intOf];omega
       ·have p2:q.cell? ⟨C,2,none⟩=some (.bool true):=cd _ _ 2 _ _ _ az
        have bs:q.frozen? ⟨C,2,none⟩=false:=cj _ _ 2 _ _ az;have am:C8 (q.setCell ⟨C,2,none⟩ (.bool false)) C (.slice ao f.length r) a2 false:=ci q C 2 _ _ (.bool false) az;have pa:(q.setCell ⟨C,2,none⟩ (.bool false)).cell? ⟨C,1,none⟩=some (.int .i64 a2):=cd _ _ 1 _ _ _ am;have bt:(q.setCell ⟨C,2,none⟩ (.bool false)).frozen? ⟨C,1,none⟩=false:=cj _ _ 1 _ _ am;have ah:q.grownBy ((q.setCell ⟨C,2,none⟩ (.bool false)).setCell ⟨C,1,none⟩ (.int .i64 F)) (some C):=Zaj (Zam q C 2 _) (Zam _ C 1 _);have aT:C8 ((q.setCell ⟨C,2,none⟩ (.bool false)).setCell ⟨C,1,none⟩ (.int .i64 F)) C (.slice ao f.length r) F false:=ci (q.setCell ⟨C,2,none⟩ (.bool false)) C 1 _ _ (.int .i64 F) am;have an:=(ah.block nb (by omega) (by simp;omega)).trans bi;have aF:=(ah.block _ (bl ax) (by simp;omega)).trans ax;have ap:=ak.kept ah (Zce ak (by omega))
        have aV:=aQ.trans (K2.ofP ah);have bd:=aQ.size;have br:((q.setCell ⟨C,2,none⟩ (.bool false)).setCell ⟨C,1,none⟩ (.int .i64 F)).cell? ⟨nb,2,none⟩=some (.string ByteArray.empty):=cd _ _ 2 _ _ _ an;have be:((q.setCell ⟨C,2,none⟩ (.bool false)).setCell ⟨C,1,none⟩ (.int .i64 F)).frozen? ⟨nb,2,none⟩=false:=cj _ _ 2 _ _ an;have Y:(((q.setCell ⟨C,2,none⟩ (.bool false)).setCell ⟨C,1,none⟩ (.int .i64 F)).setCell ⟨nb,2,none⟩ (.string L)).heap[nb]? = some (.cells (ndA (⟨4,0,L,0,0⟩:Nd)) 176 (0,0)):=ci ((q.setCell ⟨C,2,none⟩ (.bool false)).setCell ⟨C,1,none⟩ (.int .i64 F)) nb 2 _ _ (.string L) an;have E:=(ch ((q.setCell ⟨C,2,none⟩ (.bool false)).setCell ⟨C,1,none⟩ (.int .i64 F)) ⟨nb,2,none⟩ (w.heap.size+1) (.string L) (by show w.heap.size+1 ≠ nb;omega)).trans aF
        have X:C8 (((q.setCell ⟨C,2,none⟩ (.bool false)).setCell ⟨C,1,none⟩ (.int .i64 F)).setCell ⟨nb,2,none⟩ (.string L)) C (.slice ao f.length r) F false:=(ch ((q.setCell ⟨C,2,none⟩ (.bool false)).setCell ⟨C,1,none⟩ (.int .i64 F)) ⟨nb,2,none⟩ C (.string L) (by show C ≠ nb;omega)).trans aT;have p:=ownsRow_setCell_other ap (a:=⟨nb,2,none⟩) (fun e=>by have:=(K nb e).2;omega) (.string L);have D:=aV.row (Zam ((q.setCell ⟨C,2,none⟩ (.bool false)).setCell ⟨C,1,none⟩ (.int .i64 F)) nb 2 (.string L)) (fun j hj=>by cases hj;omega);obtain ⟨k0,k1,U,k3,k4,kp,z,l,A,aG,c⟩:=ZbO (⟨4,0,L,0,0⟩:Nd) q.heap.size (by simp [World.setCell]) Y E X;have u:Hid (sN f H=((⟨4,0,L,0,0⟩:Nd),F,false)):=by unfold Hid;rw [HN.out];unfold sB;rw [if_neg (by omega),if_neg (by omega),if_pos rfl,hg.out];rfl
        have P:(⟨4,0,L,0,0⟩:Nd).s.size <= f.length:=by have:=congrArg (fun t=>t.1.s.size) u.out;rw [HN.out] at this;dsimp only at this;rw [<- this];exact Zbi _ _ _ _
        obtain ⟨O,M,Q⟩:=Zbg _ u P HR HZ;have aH:=D.size
        go_wp2_with (at_builtin;refine wpList_append_lies _ rfl _ _ 39 rfl w1.heap.size 176 i0 _ 5 48 underlying39 hi aB aC aD rfl (by decide) _ _ _ rfl (p.alloc _) ⟨q.heap.size,0,none⟩ 1 1 (ncs [(⟨4,0,L,0,0⟩:Nd)]) rfl rfl c (Za0 _) (by omega) (by unfold maxLen;omega) (by omega) (by simp;omega) _ rfl ?_)
        intro g2 y w8 d b I aj;obtain ⟨aJ,aI,B,T,S,o⟩:=Zbh z l A D b d K Z aa V;clear c k0 k1 U k3 k4 kp b I d l z A;go_wp2
        go_roundw
        case rel=>exact ⟨xs.length+1,m,_,F,false,_,y,by omega,by go_num,O,M,Q,bf,bg,S,B,by rw [Zay];exact o,T⟩
        case measure=>simp [intOf];omega
       ·have p2:q.cell? ⟨C,2,none⟩=some (.bool true):=cd _ _ 2 _ _ _ az
        have bs:q.frozen? ⟨C,2,none⟩=false:=cj _ _ 2 _ _ az;have am:C8 (q.setCell ⟨C,2,none⟩ (.bool true)) C (.slice ao f.length r) a2 true:=ci q C 2 _ _ (.bool true) az;have pa:(q.setCell ⟨C,2,none⟩ (.bool true)).cell? ⟨C,1,none⟩=some (.int .i64 a2):=cd _ _ 1 _ _ _ am;have bt:(q.setCell ⟨C,2,none⟩ (.bool true)).frozen? ⟨C,1,none⟩=false:=cj _ _ 1 _ _ am;have ah:q.grownBy ((q.setCell ⟨C,2,none⟩ (.bool true)).setCell ⟨C,1,none⟩ (.int .i64 F)) (some C):=Zaj (Zam q C 2 _) (Zam _ C 1 _);have aT:C8 ((q.setCell ⟨C,2,none⟩ (.bool true)).setCell ⟨C,1,none⟩ (.int .i64 F)) C (.slice ao f.length r) F true:=ci (q.setCell ⟨C,2,none⟩ (.bool true)) C 1 _ _ (.int .i64 F) am;have an:=(ah.block nb (by omega) (by simp;omega)).trans bi;have aF:=(ah.block _ (bl ax) (by simp;omega)).trans ax;have ap:=ak.kept ah (Zce ak (by omega))
        have aV:=aQ.trans (K2.ofP ah);have bd:=aQ.size;have br:((q.setCell ⟨C,2,none⟩ (.bool true)).setCell ⟨C,1,none⟩ (.int .i64 F)).cell? ⟨nb,2,none⟩=some (.string ByteArray.empty):=cd _ _ 2 _ _ _ an;have be:((q.setCell ⟨C,2,none⟩ (.bool true)).setCell ⟨C,1,none⟩ (.int .i64 F)).frozen? ⟨nb,2,none⟩=false:=cj _ _ 2 _ _ an;have Y:(((q.setCell ⟨C,2,none⟩ (.bool true)).setCell ⟨C,1,none⟩ (.int .i64 F)).setCell ⟨nb,2,none⟩ (.string L)).heap[nb]? = some (.cells (ndA (⟨4,0,L,0,0⟩:Nd)) 176 (0,0)):=ci ((q.setCell ⟨C,2,none⟩ (.bool true)).setCell ⟨C,1,none⟩ (.int .i64 F)) nb 2 _ _ (.string L) an;have E:=(ch ((q.setCell ⟨C,2,none⟩ (.bool true)).setCell ⟨C,1,none⟩ (.int .i64 F)) ⟨nb,2,none⟩ (w.heap.size+1) (.string L) (by show w.heap.size+1 ≠ nb;omega)).trans aF
        have X:C8 (((q.setCell ⟨C,2,none⟩ (.bool true)).setCell ⟨C,1,none⟩ (.int .i64 F)).setCell ⟨nb,2,none⟩ (.string L)) C (.slice ao f.length r) F true:=(ch ((q.setCell ⟨C,2,none⟩ (.bool true)).setCell ⟨C,1,none⟩ (.int .i64 F)) ⟨nb,2,none⟩ C (.string L) (by show C ≠ nb;omega)).trans aT;have p:=ownsRow_setCell_other ap (a:=⟨nb,2,none⟩) (fun e=>by have:=(K nb e).2;omega) (.string L);have D:=aV.row (Zam ((q.setCell ⟨C,2,none⟩ (.bool true)).setCell ⟨C,1,none⟩ (.int .i64 F)) nb 2 (.string L)) (fun j hj=>by cases hj;omega);obtain ⟨k0,k1,U,k3,k4,kp,z,l,A,aG,c⟩:=ZbO (⟨4,0,L,0,0⟩:Nd) q.heap.size (by simp [World.setCell]) Y E X;have u:Hid (sN f H=((⟨4,0,L,0,0⟩:Nd),F,true)):=by unfold Hid;rw [HN.out];unfold sB;rw [if_neg (by omega),if_neg (by omega),if_pos rfl,hg.out];rfl
        have P:(⟨4,0,L,0,0⟩:Nd).s.size <= f.length:=by have:=congrArg (fun t=>t.1.s.size) u.out;rw [HN.out] at this;dsimp only at this;rw [<- this];exact Zbi _ _ _ _
        obtain ⟨O,M,Q⟩:=Zbg _ u P HR HZ;have aH:=D.size
        go_wp2_with (at_builtin;refine wpList_append_lies _ rfl _ _ 39 rfl w1.heap.size 176 i0 _ 5 48 underlying39 hi aB aC aD rfl (by decide) _ _ _ rfl (p.alloc _) ⟨q.heap.size,0,none⟩ 1 1 (ncs [(⟨4,0,L,0,0⟩:Nd)]) rfl rfl c (Za0 _) (by omega) (by unfold maxLen;omega) (by omega) (by simp;omega) _ rfl ?_)
        intro g2 y w8 d b I aj;obtain ⟨aJ,aI,B,T,S,o⟩:=Zbh z l A D b d K Z aa V;clear c k0 k1 U k3 k4 kp b I d l z A;go_wp2
        go_roundw
        case rel=>exact ⟨xs.length+1,m,_,F,true,_,y,by omega,by go_num,O,M,Q,bf,bg,S,B,by rw [Zay];exact o,T⟩
        case measure=>simp [intOf];omega
     ·have R5:=aA.k2 ai x1 ag
      obtain ⟨J,b5,j5,e5,a3,a4,ar,au,ac⟩:=Zbq C (.slice ao f.length r) f a2 k2 w3 R5 ay aN aO;go_wp2_with fail;refine ac.mono ?_;rintro e v5 ⟨rfl,af,G⟩;obtain ⟨aX,aY,Y,E,X,p,D,aK⟩:=Zej (⟨5,0,ByteArray.empty,J,0⟩:Nd) 3 (.int .i64 J) (.int .i64 0) aw al ab ag G af K Z aa V aL aM rfl rfl;clear ac G;have R6:=aA.k2 ai x1 D;obtain ⟨x6,b6,j6,e6,bT,bU,bn,bo,a5⟩:=Zbq C (.slice ao f.length r) f b5 j5 (v5.setCell ⟨nb,3,none⟩ (.int .i64 J)) R6 X ar au;go_wp2_with fail;refine a5.mono ?_;rintro e v6 ⟨rfl,a6,aR⟩;obtain ⟨bM,bN,bq,bc,bp,aW,a8,bF⟩:=Zej (⟨5,0,ByteArray.empty,J,x6⟩:Nd) 4 (.int .i64 x6) (.int .i64 0) Y E p D aR a6 K Z aa V aL aM rfl rfl;clear a5 aR;obtain ⟨k0,k1,U,k3,k4,kp,z,l,A,aG,c⟩:=ZbO (⟨5,0,ByteArray.empty,J,x6⟩:Nd) v6.heap.size (by simp [World.setCell]) bq bc bp
      have u:Hid (sN f H=((⟨5,0,ByteArray.empty,J,x6⟩:Nd),b6,j6)):=by unfold Hid;rw [HN.out];unfold sB;rw [if_neg (by omega),if_neg (by omega),if_neg (by omega),if_pos rfl,e5];dsimp only;rw [e6]
      have P:(⟨5,0,ByteArray.empty,J,x6⟩:Nd).s.size <= f.length:=by have:=congrArg (fun t=>t.1.s.size) u.out;rw [HN.out] at this;dsimp only at this;rw [<- this];exact Zbi _ _ _ _
      obtain ⟨O,M,Q⟩:=Zbg _ u P HR HZ;have aH:=a8.size
      go_wp2_with (at_builtin;refine wpList_append_lies _ rfl _ _ 39 rfl w1.heap.size 176 i0 _ 5 48 underlying39 hi aB aC aD rfl (by decide) _ _ _ rfl (aW.alloc _) ⟨v6.heap.size,0,none⟩ 1 1 (ncs [(⟨5,0,ByteArray.empty,J,x6⟩:Nd)]) rfl rfl c (Za0 _) (by omega) (by unfold maxLen;omega) (by omega) (by simp;omega) _ rfl ?_)
      intro g2 y w8 d b I aj;obtain ⟨aJ,aI,B,T,S,o⟩:=Zbh z l A a8 b d K Z aa V;clear c k0 k1 U k3 k4 kp b I d l z A;go_wp2
      go_roundw
      case rel=>exact ⟨xs.length+1,m,_,b6,j6,_,y,by omega,by go_num,O,M,Q,bn,bo,S,B,by rw [Zay];exact o,T⟩
      case measure=>simp [intOf];omega
     ·have R5:=aA.k2 ai x1 ag
      obtain ⟨J,b5,j5,e5,a3,a4,ar,au,ac⟩:=Zbq C (.slice ao f.length r) f a2 k2 w3 R5 ay aN aO;go_wp2_with fail;refine ac.mono ?_;rintro e v5 ⟨rfl,af,G⟩;obtain ⟨aX,aY,Y,E,X,p,D,aK⟩:=Zej (⟨6,J,ByteArray.empty,0,0⟩:Nd) 1 (.int .i64 J) (.int .i64 0) aw al ab ag G af K Z aa V aL aM rfl rfl;clear ac G;have R6:=aA.k2 ai x1 D;obtain ⟨x6,b6,j6,e6,bT,bU,bn,bo,a5⟩:=Zbq C (.slice ao f.length r) f b5 j5 (v5.setCell ⟨nb,1,none⟩ (.int .i64 J)) R6 X ar au;go_wp2_with fail;refine a5.mono ?_;rintro e v6 ⟨rfl,a6,aR⟩;obtain ⟨bM,bN,bq,bc,bp,aW,a8,bF⟩:=Zej (⟨6,J,ByteArray.empty,x6,0⟩:Nd) 3 (.int .i64 x6) (.int .i64 0) Y E p D aR a6 K Z aa V aL aM rfl rfl;clear a5 aR;obtain ⟨k0,k1,U,k3,k4,kp,z,l,A,aG,c⟩:=ZbO (⟨6,J,ByteArray.empty,x6,0⟩:Nd) v6.heap.size (by simp [World.setCell]) bq bc bp
      have u:Hid (sN f H=((⟨6,J,ByteArray.empty,x6,0⟩:Nd),b6,j6)):=by unfold Hid;rw [HN.out];unfold sB;rw [if_neg (by omega),if_neg (by omega),if_neg (by omega),if_neg (by omega),if_pos rfl,e5];dsimp only;rw [e6]
      have P:(⟨6,J,ByteArray.empty,x6,0⟩:Nd).s.size <= f.length:=by have:=congrArg (fun t=>t.1.s.size) u.out;rw [HN.out] at this;dsimp only at this;rw [<- this];exact Zbi _ _ _ _
      obtain ⟨O,M,Q⟩:=Zbg _ u P HR HZ;have aH:=a8.size
      go_wp2_with (at_builtin;refine wpList_append_lies _ rfl _ _ 39 rfl w1.heap.size 176 i0 _ 5 48 underlying39 hi aB aC aD rfl (by decide) _ _ _ rfl (aW.alloc _) ⟨v6.heap.size,0,none⟩ 1 1 (ncs [(⟨6,J,ByteArray.empty,x6,0⟩:Nd)]) rfl rfl c (Za0 _) (by omega) (by unfold maxLen;omega) (by omega) (by simp;omega) _ rfl ?_)
      intro g2 y w8 d b I aj;obtain ⟨aJ,aI,B,T,S,o⟩:=Zbh z l A a8 b d K Z aa V;clear c k0 k1 U k3 k4 kp b I d l z A;go_wp2
      go_roundw
      case rel=>exact ⟨xs.length+1,m,_,b6,j6,_,y,by omega,by go_num,O,M,Q,bn,bo,S,B,by rw [Zay];exact o,T⟩
      case measure=>simp [intOf];omega
     ·have R5:=aA.k2 ai x1 ag
      obtain ⟨J,b5,j5,e5,a3,a4,ar,au,ac⟩:=Zbq C (.slice ao f.length r) f a2 k2 w3 R5 ay aN aO;go_wp2_with fail;refine ac.mono ?_;rintro e v5 ⟨rfl,af,G⟩;obtain ⟨aX,aY,Y,E,X,p,D,aK⟩:=Zej (⟨7,0,ByteArray.empty,J,0⟩:Nd) 3 (.int .i64 J) (.int .i64 0) aw al ab ag G af K Z aa V aL aM rfl rfl;clear ac G;obtain ⟨k0,k1,U,k3,k4,kp,z,l,A,aG,c⟩:=ZbO (⟨7,0,ByteArray.empty,J,0⟩:Nd) v5.heap.size (by simp [World.setCell]) Y E X;have u:Hid (sN f H=((⟨7,0,ByteArray.empty,J,0⟩:Nd),b5,j5)):=by unfold Hid;rw [HN.out];unfold sB;rw [if_neg (by omega),if_neg (by omega),if_neg (by omega),if_neg (by omega),if_neg (by omega),if_pos rfl,e5]
      have P:(⟨7,0,ByteArray.empty,J,0⟩:Nd).s.size <= f.length:=by have:=congrArg (fun t=>t.1.s.size) u.out;rw [HN.out] at this;dsimp only at this;rw [<- this];exact Zbi _ _ _ _
      obtain ⟨O,M,Q⟩:=Zbg _ u P HR HZ;have aH:=D.size
      go_wp2_with (at_builtin;refine wpList_append_lies _ rfl _ _ 39 rfl w1.heap.size 176 i0 _ 5 48 underlying39 hi aB aC aD rfl (by decide) _ _ _ rfl (p.alloc _) ⟨v5.heap.size,0,none⟩ 1 1 (ncs [(⟨7,0,ByteArray.empty,J,0⟩:Nd)]) rfl rfl c (Za0 _) (by omega) (by unfold maxLen;omega) (by omega) (by simp;omega) _ rfl ?_)
      intro g2 y w8 d b I aj;obtain ⟨aJ,aI,B,T,S,o⟩:=Zbh z l A D b d K Z aa V;clear c k0 k1 U k3 k4 kp b I d l z A;go_wp2
      go_roundw
      case rel=>exact ⟨xs.length+1,m,_,b5,j5,_,y,by omega,by go_num,O,M,Q,ar,au,S,B,by rw [Zay];exact o,T⟩
      case measure=>simp [intOf];omega
     ·obtain ⟨k0,k1,U,k3,k4,kp,z,l,A,aG,c⟩:=ZbO (⟨kd,0,ByteArray.empty,0,0⟩:Nd) w3.heap.size rfl aw al ay
      have u:Hid (sN f H=((⟨kd,0,ByteArray.empty,0,0⟩:Nd),a2,k2)):=by unfold Hid;rw [HN.out];unfold sB;rw [if_neg (by omega),if_neg (by omega),if_neg (by omega),if_neg (by omega),if_neg (by omega),if_neg (by omega)]
      have P:(⟨kd,0,ByteArray.empty,0,0⟩:Nd).s.size <= f.length:=by have:=congrArg (fun t=>t.1.s.size) u.out;rw [HN.out] at this;dsimp only at this;rw [<- this];exact Zbi _ _ _ _
      obtain ⟨O,M,Q⟩:=Zbg _ u P HR HZ;have aH:=ag.size
      go_wp2_with (at_builtin;refine wpList_append_lies _ rfl _ _ 39 rfl w1.heap.size 176 i0 _ 5 48 underlying39 hi aB aC aD rfl (by decide) _ _ _ rfl (ab.alloc _) ⟨w3.heap.size,0,none⟩ 1 1 (ncs [(⟨kd,0,ByteArray.empty,0,0⟩:Nd)]) rfl rfl c (Za0 _) (by omega) (by unfold maxLen;omega) (by omega) (by simp;omega) _ rfl ?_)
      intro g2 y w8 d b I aj;obtain ⟨aJ,aI,B,T,S,o⟩:=Zbh z l A ag b d K Z aa V;clear c k0 k1 U k3 k4 kp b I d l z A;go_wp2
      go_roundw
      case rel=>exact ⟨xs.length+1,m,_,a2,k2,_,y,by omega,by go_num,O,M,Q,aN,aO,S,B,by rw [Zay];exact o,T⟩
      case measure=>simp [intOf];omega
    ·have bP:m=0:=by omega
     subst bP;have HX:Hid (sP f a ok=(xs,H,true)):=HR.out;have RN:NRow wr (.slice av xs.length cv) xs:=NRow.of_own aq (by omega) (fun x hx=>by have:=HZ.out x hx;unfold maxLen;omega)
     by_cases I:H=f.length
     ·obtain ⟨pb,bm⟩:∃ pb,Hid (Zap xs=pb):=⟨_,rfl⟩
      have HS:Hid (sOk f a ok=pb):=by unfold Hid sOk;rw [HX.out];show (true && decide (H=f.length) && Zap xs)=pb;rw [decide_eq_true I,bm.out];rfl
      have bH:∀ W,Below wr.heap.size wr W -> Calls prog 91 #[.agg #[.slice av xs.length cv]] W fun e w'=>e=.returned (.bool pb)/\Below W.heap.size W w':=fun W hW=>by
       have:=Zct _ xs W (RN.below hW);rw [bm.out] at this;exact this
      go_wp2_with fail;refine ZjP C (w.heap.size+1) f.length r xs.length cv ao av H _ _ I pb bH (by omega) hC aE ?_;intro u105 u106 u107 u108 u109 u110 u111 u112 u113 u114 u115 u116 u117 u118 u119 u120 u121 u122 u123 u124 u125 u126 u127 WF ad ae;obtain ⟨q1,q2,q3,q4,q5,q6,q7⟩:=Zdf pb aU bh ad ae bj aE (Zae aq (show w.heap.size+1+1 <= w1.heap.size by omega));clear ad ae;go_wp2;refine ck (results_cell_row rfl _ _ w.heap.size 41 _ (0,0) _ rfl q4 underlying41 rfl Zmf) rfl ⟨.slice av xs.length cv,rfl,?_,?_,q7,?_⟩
      ·rw [HX.out];exact q5
      ·rw [HS.out,HX.out];exact q6
      ·rw [HX.out];exact HZ.out
     ·have HS:Hid (sOk f a ok=false):=by unfold Hid sOk;rw [HX.out];show (true && decide (H=f.length) && Zap xs)=false;rw [decide_eq_false I];rfl
      go_wp2_with fail;refine ZjO C (w.heap.size+1) f.length r xs.length cv ao av H _ _ I (by omega) hC aE ?_;intro u105 u106 u107 u108 u109 u110 u111 u112 u113 u114 u115 u116 u117 u118 u119 u120 u121 u122 u123 u124 u125 u126 u127 WF ad ae;obtain ⟨q1,q2,q3,q4,q5,q6,q7⟩:=Zdf false aU bh ad ae bj aE (Zae aq (show w.heap.size+1+1 <= w1.heap.size by omega));clear ad ae;go_wp2;refine ck (results_cell_row rfl _ _ w.heap.size 41 _ (0,0) _ rfl q4 underlying41 rfl Zmf) rfl ⟨.slice av xs.length cv,rfl,?_,?_,q7,?_⟩
      ·rw [HX.out];exact q5
      ·rw [HS.out,HX.out];exact q6
      ·rw [HX.out];exact HZ.out
end Go.Proofs.YtanhoamdlhaaeaaGreatDoor
