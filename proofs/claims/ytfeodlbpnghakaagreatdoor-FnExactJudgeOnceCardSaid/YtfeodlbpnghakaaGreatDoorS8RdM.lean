/-
  The contract of spec.l8Read: nodes are read as the mathematics says, and whether all was right. Bounds of the form alone.
-/
import Derived.Test.YtfeodlbpnghakaaGreatDoorS8RgM
import Derived.Test.YtfeodlbpnghakaaGreatDoorSGTextM
set_option maxRecDepth 100000
set_option maxHeartbeats 12800000
namespace Go.Proofs.YtfeodlbpnghakaaGreatDoor
open Go.RowKit
theorem Row.apart {w:World}{zs:List Int}{g o:Nat}{t:TypeId}{c:Array Value}{b:Nat}(d:0 < zs.length)(e:∀ i,i < zs.length -> w.cell? ⟨g,o+i,none⟩=some (.int .u8 (zs.getD i 0)))(f:w.heap[b]? = some (.cells c t (0,0)))(a:∀ (i:Nat) (z:Int),c[i]? ≠ some (.int .u8 z)):g ≠ b:=by
 rintro rfl
 have:=e 0 d
 rw [cell_of_row w g (o+0) _ _ _ f] at this
 exact a _ _ this
theorem Zlc (c:Option Addr)(n b:Nat)(a:Int)(ok:Bool):∀ (i:Nat) (z:Int),(#[Value.slice c n b,.int .i64 a,.bool ok]:Array Value)[i]? ≠ some (.int .u8 z):=by
 intro i z h
 match i with
 | 0=>simp at h
 | 1=>simp at h
 | 2=>simp at h
 | i+3=>simp at h
theorem ZlW (b:Option Addr)(n a:Nat):∀ (i:Nat) (z:Int),(#[Value.slice b n a]:Array Value)[i]? ≠ some (.int .u8 z):=by
 intro i z h
 match i with
 | 0=>simp at h
 | i+1=>simp at h
theorem Row.k2 {W f:World}{v:Value}{zs:List Int}{C k:Nat}{a:Int}{ok:Bool}{x:Option Addr}{r s:Nat}(R:Row W v zs)(q:C8 W C v a ok)(p:W.heap[k]? = some (.cells #[.slice x r s] 40 (0,0)))(j:K2 C k W f):Row f v zs:=by
 obtain ⟨t,c,rfl,m,l,n,u⟩:=R
 refine ⟨t,c,rfl,m,l,n,fun b=>?_⟩
 obtain ⟨g,o,rfl,h,d⟩:=u b
 have e:=List.length_pos_iff.2 b
 have n1:=Row.apart e d q (Zlc _ _ _ _ _)
 have n2:=Row.apart e d p (ZlW _ _ _)
 refine ⟨g,o,rfl,Nat.lt_of_lt_of_le h j.size,fun i hi=>?_⟩
 rw [World.cell?_of_block (w:=W) (j.block g h n1 n2)]
 exact d i hi
theorem ZaM (b:Nat)(v:Value)(zs:List Int)(a:Int)(ok:Bool)(w:World)(R:Row w v zs)(h:C8 w b v a ok)(l:0 <= a)(k:a <= zs.length) :
  ∃ x c f,num8 zs a ok=(x,c,f)/\0 <= x/\x <= 9223372036854775807/\0 <= c/\c <= zs.length/\Calls Tryz.prog 81 #[.pointer (some ⟨b,0,none⟩)] w fun e j=>e=.returned (.int .i64 x)/\C8 j b v c f/\w.grownBy j (some b):=by
 obtain ⟨_,_,_,_,m,_⟩:=id R
 have d:=Zc1 zs a ok l k
 have g:=Zb3 b v zs a ok w R h (by omega) (by omega)
 obtain ⟨p,i⟩:∃ p,num8 zs a ok=p:=⟨_,rfl⟩
 obtain ⟨x,c,f⟩:=p
 rw [i] at d g
 exact ⟨x,c,f,i,d.1,d.2.1,d.2.2.1,d.2.2.2,g⟩
theorem Zbo (zs:List Int)(k a:Int)(ok:Bool):(sB zs k a ok).1.s.size <= zs.length:=by
 unfold sB
 repeat' split
 all_goals first | exact ZcD zs a | exact Nat.zero_le _
theorem C8.below {w b:World}{C:Nat}{v:Value}{a:Int}{ok:Bool}(h:C8 w C v a ok)(c:Below w.heap.size w b):C8 b C v a ok:=(bb h c)
theorem ZdB {w W c:World}{C n g m d:Nat}{q e:Option Addr}{f:Int}{k:Bool}{ys:List Value}(b:Bool)(G:C < w.heap.size)(l:w.grownBy W (some C))(h:Below W.heap.size W c)(B:c.heap[C]? = some (.cells #[.slice q n g,.int .i64 f,.bool k] 163 (0,0)))(o:W.heap[w.heap.size]? = some (.cells #[.slice none 0 0] 40 (0,0)))(j:W.heap[w.heap.size+1]? = some (.cells #[.slice e m d] 40 (0,0)))(D:W.ownsRow (w.heap.size+1+1) 194 5 (.slice e m d) m ys) :
  (c.setCell ⟨C,2,none⟩ (.bool b)).cell? ⟨w.heap.size+1,0,none⟩=some (.slice e m d)/\(c.setCell ⟨C,2,none⟩ (.bool b)).cell? ⟨w.heap.size,0,none⟩=some (.slice none 0 0)/\(c.setCell ⟨C,2,none⟩ (.bool b)).frozen? ⟨w.heap.size,0,none⟩=false /\
  ((c.setCell ⟨C,2,none⟩ (.bool b)).setCell ⟨w.heap.size,0,none⟩ (.slice e m d)).heap[w.heap.size]? = some (.cells #[.slice e m d] 40 (0,0))/\((c.setCell ⟨C,2,none⟩ (.bool b)).setCell ⟨w.heap.size,0,none⟩ (.slice e m d)).ownsRow w.heap.size 194 5 (.slice e m d) m ys /\
  C8 ((c.setCell ⟨C,2,none⟩ (.bool b)).setCell ⟨w.heap.size,0,none⟩ (.slice e m d)) C (.slice q n g) f b/\w.grownBy ((c.setCell ⟨C,2,none⟩ (.bool b)).setCell ⟨w.heap.size,0,none⟩ (.slice e m d)) (some C):=by
 have t:=(bl o)
 have A:=(bl j)
 have u:=(h.block _ t).trans o
 have x:=(h.block _ A).trans j
 have s:=Zac D h
 have i:=(heap_setCell_other c ⟨C,2,none⟩ w.heap.size (.bool b) (by show w.heap.size ≠ C;omega)).trans u
 have z:=(heap_setCell_other c ⟨C,2,none⟩ (w.heap.size+1) (.bool b) (by show w.heap.size+1 ≠ C;omega)).trans x
 have c2:=heap_setCell_same c C 2 _ _ (.bool b) B
 have E:=ownsRow_setCell_below s (a:=⟨C,2,none⟩) (by show C < w.heap.size+1+1;omega) (.bool b)
 have v:w.grownBy (c.setCell ⟨C,2,none⟩ (.bool b)) (some C):=Zaj (Zal l h l.size) (Zan c C 2 _)
 have F:=heap_setCell_same (c.setCell ⟨C,2,none⟩ (.bool b)) w.heap.size 0 _ _ (.slice e m d) i
 have c3:=(heap_setCell_other (c.setCell ⟨C,2,none⟩ (.bool b)) ⟨w.heap.size,0,none⟩ C (.slice e m d) (by show C ≠ w.heap.size;omega)).trans c2
 have r:=Zah (ownsRow_setCell_below E (a:=⟨w.heap.size,0,none⟩) (by show w.heap.size < w.heap.size+1+1;omega) (.slice e m d)) (show w.heap.size <= w.heap.size+1+1 by omega)
 have y:w.grownBy ((c.setCell ⟨C,2,none⟩ (.bool b)).setCell ⟨w.heap.size,0,none⟩ (.slice e m d)) (some C):=Zal v ((Below.refl w.heap.size _).setCell (p:=⟨w.heap.size,0,none⟩) (Nat.le_refl _) _) (Nat.le_refl _)
 exact ⟨cell_of_row _ _ 0 _ _ _ z,cell_of_row _ _ 0 _ _ _ i,frozen_of_row _ _ 0 _ _ i,F,r,c3,y⟩
theorem Ze1 {C nb P:Nat}{d wr W v:World}{x:Nd}{p u q:Value}{n:Nat}{l:List Value}{b:Int}{j:Bool}(y:Nd)(c:Nat)(val g:Value)(o:W.heap[nb]? = some (.cells (ndA x) 194 (0,0)))(h:W.heap[P]? = some (.cells #[p] 40 (0,0)))(f:W.ownsRow d.heap.size 194 5 u n l)(F:K2 C P d W)(i:W.grownBy v (some C))(A:C8 v C q b j)(m:∀ j,u.ownBlock=some j -> d.heap.size <= j/\j < wr.heap.size)(n1:C < d.heap.size)(n2:P < d.heap.size)(H:P ≠ C)(n4:wr.heap.size <= nb)(G:d.heap.size <= wr.heap.size)(D:(ndA x)[c]? = some g)(B:(ndA x).setIfInBounds c val=ndA y) :
  v.cell? ⟨nb,c,none⟩=some g/\v.frozen? ⟨nb,c,none⟩=false/\(v.setCell ⟨nb,c,none⟩ val).heap[nb]? = some (.cells (ndA y) 194 (0,0))/\(v.setCell ⟨nb,c,none⟩ val).heap[P]? = some (.cells #[p] 40 (0,0))/\C8 (v.setCell ⟨nb,c,none⟩ val) C q b j/\(v.setCell ⟨nb,c,none⟩ val).ownsRow d.heap.size 194 5 u n l/\K2 C P d (v.setCell ⟨nb,c,none⟩ val)/\d.heap.size <= v.heap.size:=by
 have E:=(bl o)
 have t:=(bl h)
 have k:=(i.block nb E (by simp;omega)).trans o
 have w:=(i.block P t (by simp;omega)).trans h
 have z:=f.kept i (Zci f (by omega))
 have r:=F.trans (K2.ofP i)
 refine ⟨(cell_of_row v nb c _ _ _ k).trans D,frozen_of_row v nb c _ _ k,?_,(heap_setCell_other v ⟨nb,c,none⟩ P val (by show P ≠ nb;omega)).trans w,(heap_setCell_other v ⟨nb,c,none⟩ C val (by show C ≠ nb;omega)).trans A,ownsRow_setCell_other z (a:=⟨nb,c,none⟩) (fun e=>by have:=(m nb e).2;omega) val,r.row (Zan v nb c val) (fun j s=>by cases s;omega),r.size⟩
 rw [<- B]
 exact heap_setCell_same v nb c _ _ val k
theorem Zb0 {nb P C:Nat}{V:World}{f g:Value}{b:Int}{j:Bool}(x:Nd)(A:Nat)(i:V.heap.size=A)(c:V.heap[nb]? = some (.cells (ndA x) 194 (0,0)))(d:V.heap[P]? = some (.cells #[f] 40 (0,0)))(h:C8 V C g b j) :
  V.cell? ⟨nb,0,none⟩=some (.int .i64 x.k)/\V.cell? ⟨nb,1,none⟩=some (.int .i64 x.n)/\V.cell? ⟨nb,2,none⟩=some (.string x.s)/\V.cell? ⟨nb,3,none⟩=some (.int .i64 x.a)/\V.cell? ⟨nb,4,none⟩=some (.int .i64 x.b)/\V.cell? ⟨P,0,none⟩=some f /\
  Below V.heap.size V (V.alloc (Obj.cells (ndA x) 194))/\(V.alloc (Obj.cells (ndA x) 194)).heap[P]? = some (.cells #[f] 40 (0,0))/\C8 (V.alloc (Obj.cells (ndA x) 194)) C g b j/\V.heap.size <= (V.alloc (Obj.cells (ndA x) 194)).heap.size/\∀ (j:Nat) u,(ncs [x])[j]? = some u -> (V.alloc (Obj.cells (ndA x) 194)).cell? ((⟨A,0,none⟩:Addr).add j)=some u:=by
 subst i
 have e:Below V.heap.size V (V.alloc (Obj.cells (ndA x) 194)):=(Below.refl _ _).alloc (Nat.le_refl _) _
 exact ⟨cell_of_row V _ 0 _ _ _ c,cell_of_row V _ 1 _ _ _ c,cell_of_row V _ 2 _ _ _ c,cell_of_row V _ 3 _ _ _ c,cell_of_row V _ 4 _ _ _ c,cell_of_row V _ 0 _ _ _ d,e,(bb d e),h.below e,e.size,World.news_of_block (cs:=ndA x) (t:=194) (fr:=(0,0)) (heap_alloc_new V _)⟩
theorem Zbs {C P:Nat}{g wr V n d:World}{p u f r:Value}{m:Nat}{l:List Value}{b:Int}{j:Bool}(x:Below V.heap.size V n)(i:n.heap[P]? = some (.cells #[p] 40 (0,0)))(q:C8 n C r b j)(v:K2 C P g V)(c:n.grownBy d u.ownBlock)(k:d.ownsRow g.heap.size 194 5 f m l)(h:∀ j,u.ownBlock=some j -> g.heap.size <= j/\j < wr.heap.size)(n1:C < g.heap.size)(n2:P < g.heap.size)(y:P ≠ C) :
  d.cell? ⟨P,0,none⟩=some p/\d.frozen? ⟨P,0,none⟩=false/\(d.setCell ⟨P,0,none⟩ f).heap[P]? = some (.cells #[f] 40 (0,0))/\K2 C P g (d.setCell ⟨P,0,none⟩ f)/\C8 (d.setCell ⟨P,0,none⟩ f) C r b j/\(d.setCell ⟨P,0,none⟩ f).ownsRow g.heap.size 194 5 f m l:=by
 have o:=(c.block P (bl i) (fun e=>by have:=(h _ e.symm).1;omega)).trans i
 have s:=(c.block C (bl q) (fun e=>by have:=(h _ e.symm).1;omega)).trans q
 have t:=(v.trans (K2.ofB x)).row c (fun j w=>(h j w).1)
 exact ⟨cell_of_row d _ 0 _ _ _ o,frozen_of_row d _ 0 _ _ o,heap_setCell_same d P 0 _ _ f o,t.trans (K2.ofM (Zan d P 0 f)),(heap_setCell_other d ⟨P,0,none⟩ C _ (by show C ≠ P;omega)).trans s,ownsRow_setCell_below k (a:=⟨P,0,none⟩) (by show P < g.heap.size;omega) f⟩
theorem Zbp {zs:List Int}{a e b:Int}{ok j:Bool}{m:Nat}{d:List Nd}(x:Nd)(g:Hid (sN zs e=(x,b,j)))(f:x.s.size <= zs.length)(h:Hid (sP zs a ok=sNs zs (m+1) d e true))(i:Hid (∀ x ∈ d,x.s.size <= zs.length)) :
  Hid (sP zs a ok=sNs zs m (d ++ [x]) b j)/\Hid ((d ++ [x]).length=d.length+1)/\Hid (∀ y ∈ d ++ [x],y.s.size <= zs.length):=by
 refine ⟨by unfold Hid;rw [h.out,sNs,if_pos rfl,g.out],by unfold Hid;rw [List.length_append];rfl,?_⟩
 intro y c
 rcases List.mem_append.1 c with c | c
 ·exact i.out y c
 ·rw [List.mem_singleton] at c;subst c;exact f
theorem Zd6 (C:Nat)(v:Value)(zs:List Int)(a:Int)(ok:Bool)(w:World)(R:Row w v zs)(h:C8 w C v a ok)(h0:0 <= a)(h1:a <= zs.length) :
  Calls Tryz.prog 119 #[.pointer (some ⟨C,0,none⟩)] w fun e w'=>∃ vs,e=.returned (.agg #[vs])/\w'.ownsRow w.heap.size 194 5 vs (sP zs a ok).1.length (ncs (sP zs a ok).1)/\C8 w' C v (sP zs a ok).2.1 (sOk zs a ok)/\w.grownBy w' (some C)/\∀ x ∈ (sP zs a ok).1,x.s.size <= zs.length:=by
 obtain ⟨i0,hi,ay,aB,az⟩:=info_parts Zno
 obtain ⟨ao,q,rfl,_,bX,_⟩:=id R
 have aV:=(bl h)
 obtain ⟨aU,x0,x1⟩:=Zav w (Obj.cells #[.slice none 0 0] 40) (Obj.cells #[.slice none 0 0] 40)
 go_enter Tryz.func119,Tryz.ntmps119
 go_wp2_with fail
 obtain ⟨W2,bE⟩:∃ W2,(w.alloc (Obj.cells #[.slice none 0 0] 40)).alloc (Obj.cells #[.slice none 0 0] 40)=W2:=⟨_,rfl⟩
 rw [bE] at aU x0 x1 ⊢
 have b0:=(bl x1)
 obtain ⟨n,a1,k1,en,n0,n1,bQ,bL,HN⟩:=ZaM C (.slice ao zs.length q) zs a ok W2 (R.below aU) (h.below aU) h0 h1
 refine HN.mono ?_
 rintro e w1 ⟨rfl,ah,a3⟩
 have bG:=x1
 have x0:=(a3.block _ (by omega) (by simp;omega)).trans x0
 have x1:=(a3.block _ (by omega) (by simp;omega)).trans x1
 have bc:w.grownBy w1 (some C):=Zaj (ZcH aU _) a3
 have b3:=a3.size
 have HP:Hid (sP zs a ok=sNs zs n.toNat [] a1 (k1 && decide (n <= 3000))):=by unfold Hid sP ZgM;rw [en]
 have aA:Row w1 (.slice ao zs.length q) zs:=(R.below aU).k2 (h.below aU) bG (K2.ofP a3)
 clear en HN a3 aU bE
 have cC:w1.cell? ⟨C,2,none⟩=some (.bool k1):=cell_of_row _ _ 2 _ _ _ ah
 have fC:w1.frozen? ⟨C,2,none⟩=false:=frozen_of_row _ _ 2 _ _ ah
 by_cases U:3000 < n
 ·have HX:Hid (sP zs a ok=([],a1,false)):=by unfold Hid;rw [HP.out,decide_eq_false (by omega),Bool.and_false,Zb9]
  have HS:Hid (sOk zs a ok=false):=by unfold Hid sOk;rw [HX.out];rfl
  have a0:C8 (w1.setCell ⟨C,2,none⟩ (.bool false)) C (.slice ao zs.length q) a1 false:=heap_setCell_same w1 C 2 _ _ (.bool false) ah
  have y0:=(heap_setCell_other w1 ⟨C,2,none⟩ w.heap.size (.bool false) (by show w.heap.size ≠ C;omega)).trans x0
  have y1:=(heap_setCell_other w1 ⟨C,2,none⟩ (w.heap.size+1) (.bool false) (by show w.heap.size+1 ≠ C;omega)).trans x1
  have bB:w.grownBy (w1.setCell ⟨C,2,none⟩ (.bool false)) (some C):=Zaj bc (Zan w1 C 2 _)
  have cD:(w1.setCell ⟨C,2,none⟩ (.bool false)).cell? ⟨C,2,none⟩=some (.bool false):=cell_of_row _ _ 2 _ _ _ a0
  go_wp2_with fail
  obtain ⟨W3,bC⟩:∃ W3,w1.setCell ⟨C,2,none⟩ (.bool false)=W3:=⟨_,rfl⟩
  rw [bC] at a0 y0 y1 bB cD ⊢
  clear bC cC fC ah x0 x1 bc aA
  go_loopw [5] (fun i wr=>i=.int .i64 0/\wr=W3) (fun _ _=>0)
  case atStart=>exact ⟨rfl,rfl⟩
  case round =>
   obtain ⟨rfl,rfl⟩:=hrel
   have n3:(0:Int) < n:=by omega
   go_wp2_with fail
   refine ZcW C (w.heap.size+1) zs.length q 0 0 ao none a1 _ _ (by omega) a0 y1 ?_
   intro u105 u106 u107 u108 u109 u110 u111 u112 u113 u114 u115 u116 u117 u118 u119 u120 u121 u122 u123 u124 u125 u126 u127 WF ad ae
   obtain ⟨q1,q2,q3,q4,q5,q6,q7⟩:=ZdB false aV bB ad ae y0 y1 (World.ownsRow_nil _ _ _ _)
   clear ad ae
   go_wp2
   refine bodyPost_ret (results_cell_row rfl _ _ w.heap.size 40 _ (0,0) _ rfl q4 Tryz.underlying40 rfl Znn) rfl ⟨.slice none 0 0,rfl,?_,?_,q7,?_⟩
   ·rw [HX.out];exact q5
   ·rw [HS.out,HX.out];exact q6
   ·rw [HX.out];intro x hx;cases hx
 obtain ⟨N,rfl⟩:=Int.eq_ofNat_of_zero_le n0
 have b1:N <= 3000:=by omega
 cases k1 with
 | false =>
  have HX:Hid (sP zs a ok=([],a1,false)):=by unfold Hid;rw [HP.out,Bool.false_and,Zb9]
  have HS:Hid (sOk zs a ok=false):=by unfold Hid sOk;rw [HX.out];rfl
  go_wp2_with fail
  go_loopw [5] (fun i wr=>i=.int .i64 0/\wr=w1) (fun _ _=>0)
  case atStart=>exact ⟨rfl,rfl⟩
  case round =>
   obtain ⟨rfl,rfl⟩:=hrel
   rcases Nat.eq_zero_or_pos N with bD | bD
   ·subst bD
    go_wp2_with fail
    refine ZcW C (w.heap.size+1) zs.length q 0 0 ao none a1 _ _ (by omega) ah x1 ?_
    intro u105 u106 u107 u108 u109 u110 u111 u112 u113 u114 u115 u116 u117 u118 u119 u120 u121 u122 u123 u124 u125 u126 u127 WF ad ae
    obtain ⟨q1,q2,q3,q4,q5,q6,q7⟩:=ZdB false aV bc ad ae x0 x1 (World.ownsRow_nil _ _ _ _)
    clear ad ae
    go_wp2
    refine bodyPost_ret (results_cell_row rfl _ _ w.heap.size 40 _ (0,0) _ rfl q4 Tryz.underlying40 rfl Znn) rfl ⟨.slice none 0 0,rfl,?_,?_,q7,?_⟩
    ·rw [HX.out];exact q5
    ·rw [HS.out,HX.out];exact q6
    ·rw [HX.out];intro x hx;cases hx
   ·have bZ:(0:Int) < N:=by omega
    go_wp2_with fail
    refine ZcW C (w.heap.size+1) zs.length q 0 0 ao none a1 _ _ (by omega) ah x1 ?_
    intro u105 u106 u107 u108 u109 u110 u111 u112 u113 u114 u115 u116 u117 u118 u119 u120 u121 u122 u123 u124 u125 u126 u127 WF ad ae
    obtain ⟨q1,q2,q3,q4,q5,q6,q7⟩:=ZdB false aV bc ad ae x0 x1 (World.ownsRow_nil _ _ _ _)
    clear ad ae
    go_wp2
    refine bodyPost_ret (results_cell_row rfl _ _ w.heap.size 40 _ (0,0) _ rfl q4 Tryz.underlying40 rfl Znn) rfl ⟨.slice none 0 0,rfl,?_,?_,q7,?_⟩
    ·rw [HX.out];exact q5
    ·rw [HS.out,HX.out];exact q6
    ·rw [HX.out];intro x hx;cases hx
 | true =>
  have HP:Hid (sP zs a ok=sNs zs N [] a1 true):=by unfold Hid;rw [HP.out,decide_eq_true (by omega)];rfl
  go_wp2_with fail
  clear cC fC
  go_loopw [5] (fun i wr=>∃ (k m:Nat) (xs:List Nd) (H:Int) (kk:Bool) (av:Option Addr) (cv:Nat),k+m=N/\i=.int .i64 k/\Hid (sP zs a ok=sNs zs m xs H kk)/\Hid (xs.length=k)/\Hid (∀ x ∈ xs,x.s.size <= zs.length)/\0 <= H/\H <= zs.length/\C8 wr C (.slice ao zs.length q) H kk/\wr.heap[w.heap.size+1]? = some (.cells #[.slice av k cv] 40 (0,0))/\wr.ownsRow w1.heap.size 194 5 (.slice av k cv) k (ncs xs)/\K2 C (w.heap.size+1) w1 wr) (fun i _=>N - (intOf i).toNat)
  case atStart=>exact ⟨0,N,[],a1,true,none,0,by omega,rfl,HP,rfl,(by intro x hx;cases hx),bQ,bL,ah,x1,World.ownsRow_nil _ _ _ _,K2.refl _ _ _⟩
  case round =>
   obtain ⟨k,m,xs,H,kk,av,cv,bU,rfl,HR,HL,HZ,bT,bI,hC,aG,ap,hK⟩:=hrel
   have b2:=hK.size
   have bi:=(hK.block _ (by omega) (by omega) (by omega)).trans x0
   have bh:w.grownBy wr (some C):=((K2.ofP bc).trans hK).grown (by omega)
   have cC:wr.cell? ⟨C,2,none⟩=some (.bool kk):=cell_of_row _ _ 2 _ _ _ hC
   obtain rfl:xs.length=k:=HL.out
   cases kk with
   | false =>
    have HX:Hid (sP zs a ok=(xs,H,false)):=by unfold Hid;rw [HR.out,Zb9]
    have HS:Hid (sOk zs a ok=false):=by unfold Hid sOk;rw [HX.out];rfl
    by_cases bS:(xs.length:Int) < N
    ·go_wp2_with fail
     refine ZcW C (w.heap.size+1) zs.length q xs.length cv ao av H _ _ (by omega) hC aG ?_
     intro u105 u106 u107 u108 u109 u110 u111 u112 u113 u114 u115 u116 u117 u118 u119 u120 u121 u122 u123 u124 u125 u126 u127 WF ad ae
     obtain ⟨q1,q2,q3,q4,q5,q6,q7⟩:=ZdB false aV bh ad ae bi aG (Zah ap (show w.heap.size+1+1 <= w1.heap.size by omega))
     clear ad ae
     go_wp2
     refine bodyPost_ret (results_cell_row rfl _ _ w.heap.size 40 _ (0,0) _ rfl q4 Tryz.underlying40 rfl Znn) rfl ⟨.slice av xs.length cv,rfl,?_,?_,q7,?_⟩
     ·rw [HX.out];exact q5
     ·rw [HS.out,HX.out];exact q6
     ·rw [HX.out];exact HZ.out
    ·go_wp2_with fail
     refine ZcW C (w.heap.size+1) zs.length q xs.length cv ao av H _ _ (by omega) hC aG ?_
     intro u105 u106 u107 u108 u109 u110 u111 u112 u113 u114 u115 u116 u117 u118 u119 u120 u121 u122 u123 u124 u125 u126 u127 WF ad ae
     obtain ⟨q1,q2,q3,q4,q5,q6,q7⟩:=ZdB false aV bh ad ae bi aG (Zah ap (show w.heap.size+1+1 <= w1.heap.size by omega))
     clear ad ae
     go_wp2
     refine bodyPost_ret (results_cell_row rfl _ _ w.heap.size 40 _ (0,0) _ rfl q4 Tryz.underlying40 rfl Znn) rfl ⟨.slice av xs.length cv,rfl,?_,?_,q7,?_⟩
     ·rw [HX.out];exact q5
     ·rw [HS.out,HX.out];exact q6
     ·rw [HX.out];exact HZ.out
   | true =>
    by_cases bS:(xs.length:Int) < N
    ·obtain ⟨m,rfl⟩:∃ m',m=m'+1:=⟨m - 1,by omega⟩
     have Rr:=aA.k2 ah x1 hK
     have lC:=(bl hC)
     have bJ:=(bl aG)
     have J:∀ j,(Value.slice av xs.length cv).ownBlock=some j -> w1.heap.size <= j/\j < wr.heap.size:=fun j hj=>ap.lt j hj
     obtain ⟨kd,a2,k2,e1,bV,bY,aQ,aN,bF⟩:=ZaM C (.slice ao zs.length q) zs H true wr Rr hC bT bI
     go_wp2_with fail
     refine bF.mono ?_
     rintro e w2 ⟨rfl,a0,a9⟩
     have bk:=(a9.block _ bJ (by simp;omega)).trans aG
     have ba:=ap.kept a9 (Zci ap (by omega))
     have bx:=hK.trans (K2.ofP a9)
     have bH:=a9.size
     clear cC bF a9
     go_wp2_with (refine Zai rfl 194 _ _ rfl w2.heap.size (ndA (nd0 kd)) rfl rfl 194 _ (heap_alloc_new _ _) Znj rfl (Zb2 _) ?_)
     intro w3 ar bz bA
     clear bA
     have aM:Below w2.heap.size w2 w3:=((Below.refl _ _).alloc (Nat.le_refl _) _).trans bz
     have aC:=a0.below aM
     have ak:=(bb bk aM)
     have V:=Zac ba aM
     have af:=bx.trans (K2.ofB aM)
     have bt:=(bl ar)
     clear aM bz a0 bk ba bx ap aG hC Rr
     obtain ⟨nb,bu⟩:∃ nb,Hid (w2.heap.size=nb):=⟨_,rfl⟩
     rw [bu.out] at ar bH bt ⊢
     clear bu
     have cK:w3.cell? ⟨nb,0,none⟩=some (.int .i64 kd):=cell_of_row _ _ 0 _ _ _ ar
     have aa:C < w1.heap.size:=by omega
     have Z:w.heap.size+1 < w1.heap.size:=by omega
     have U:w.heap.size+1 ≠ C:=by omega
     have aL:wr.heap.size <= nb:=by omega
     have aK:w1.heap.size <= wr.heap.size:=by omega
     have HN:Hid (sN zs H=sB zs kd a2 k2):=by unfold Hid sN;rw [e1]
     clear e1
     rcases (show kd=2 \/ kd=8 \/ kd=9 \/ kd=3 \/ kd=4 \/ kd=5 \/ kd=6 \/ kd=7 \/ (kd ≠ 2/\kd ≠ 8/\kd ≠ 9/\kd ≠ 3/\kd ≠ 4/\kd ≠ 5/\kd ≠ 6/\kd ≠ 7) by omega) with rfl | rfl | rfl | rfl | rfl | rfl | rfl | rfl | ⟨m2,m8,m9,m3,m4,m5,m6,m7⟩
     ·have R5:=aA.k2 ah x1 af
      obtain ⟨I,b5,j5,e5,aX,aW,aq,au,ab⟩:=ZaM C (.slice ao zs.length q) zs a2 k2 w3 R5 aC aQ aN
      go_wp2_with fail
      refine ab.mono ?_
      rintro e v5 ⟨rfl,ac,F⟩
      obtain ⟨aY,aZ,Y,B,X,o,D,aJ⟩:=Ze1 (⟨2,I,ByteArray.empty,0,0⟩:Nd) 1 (.int .i64 I) (.int .i64 0) ar ak V af F ac J aa Z U aL aK rfl rfl
      clear ab F
      obtain ⟨k0,k1,L,k3,k4,kp,A,f,z,aI,c⟩:=Zb0 (⟨2,I,ByteArray.empty,0,0⟩:Nd) v5.heap.size (by simp [World.setCell]) Y B X
      have u:Hid (sN zs H=((⟨2,I,ByteArray.empty,0,0⟩:Nd),b5,j5)):=by unfold Hid;rw [HN.out];unfold sB;rw [if_pos (Or.inl rfl),e5]
      have T:(⟨2,I,ByteArray.empty,0,0⟩:Nd).s.size <= zs.length:=by have:=congrArg (fun t=>t.1.s.size) u.out;rw [HN.out] at this;dsimp only at this;rw [<- this];exact Zbo _ _ _ _
      obtain ⟨M,S,Q⟩:=Zbp _ u T HR HZ
      have aD:=D.size
      go_wp2_with (at_builtin;refine wpList_append_lies _ rfl _ _ 38 rfl w1.heap.size 194 i0 _ 5 48 Tryz.underlying38 hi ay aB az rfl (by decide) _ _ _ rfl (o.alloc _) ⟨v5.heap.size,0,none⟩ 1 1 (ncs [(⟨2,I,ByteArray.empty,0,0⟩:Nd)]) rfl rfl c (Za2 _) (by omega) (by unfold maxLen;omega) (by omega) (by simp;omega) _ rfl ?_)
      intro g2 y w8 b d G ai
      obtain ⟨aH,aF,r,O,P,l⟩:=Zbs A f z D d b J aa Z U
      clear c k0 k1 L k3 k4 kp d G b f A z
      go_wp2
      go_roundw
      case rel=>exact ⟨xs.length+1,m,_,b5,j5,_,y,by omega,by go_num,M,S,Q,aq,au,P,r,by rw [ZaB];exact l,O⟩
      case measure=>simp [intOf];omega
     ·have R5:=aA.k2 ah x1 af
      obtain ⟨I,b5,j5,e5,aX,aW,aq,au,ab⟩:=ZaM C (.slice ao zs.length q) zs a2 k2 w3 R5 aC aQ aN
      go_wp2_with fail
      refine ab.mono ?_
      rintro e v5 ⟨rfl,ac,F⟩
      obtain ⟨aY,aZ,Y,B,X,o,D,aJ⟩:=Ze1 (⟨8,I,ByteArray.empty,0,0⟩:Nd) 1 (.int .i64 I) (.int .i64 0) ar ak V af F ac J aa Z U aL aK rfl rfl
      clear ab F
      obtain ⟨k0,k1,L,k3,k4,kp,A,f,z,aI,c⟩:=Zb0 (⟨8,I,ByteArray.empty,0,0⟩:Nd) v5.heap.size (by simp [World.setCell]) Y B X
      have u:Hid (sN zs H=((⟨8,I,ByteArray.empty,0,0⟩:Nd),b5,j5)):=by unfold Hid;rw [HN.out];unfold sB;rw [if_pos (Or.inr (Or.inl rfl)),e5]
      have T:(⟨8,I,ByteArray.empty,0,0⟩:Nd).s.size <= zs.length:=by have:=congrArg (fun t=>t.1.s.size) u.out;rw [HN.out] at this;dsimp only at this;rw [<- this];exact Zbo _ _ _ _
      obtain ⟨M,S,Q⟩:=Zbp _ u T HR HZ
      have aD:=D.size
      go_wp2_with (at_builtin;refine wpList_append_lies _ rfl _ _ 38 rfl w1.heap.size 194 i0 _ 5 48 Tryz.underlying38 hi ay aB az rfl (by decide) _ _ _ rfl (o.alloc _) ⟨v5.heap.size,0,none⟩ 1 1 (ncs [(⟨8,I,ByteArray.empty,0,0⟩:Nd)]) rfl rfl c (Za2 _) (by omega) (by unfold maxLen;omega) (by omega) (by simp;omega) _ rfl ?_)
      intro g2 y w8 b d G ai
      obtain ⟨aH,aF,r,O,P,l⟩:=Zbs A f z D d b J aa Z U
      clear c k0 k1 L k3 k4 kp d G b f A z
      go_wp2
      go_roundw
      case rel=>exact ⟨xs.length+1,m,_,b5,j5,_,y,by omega,by go_num,M,S,Q,aq,au,P,r,by rw [ZaB];exact l,O⟩
      case measure=>simp [intOf];omega
     ·have R5:=aA.k2 ah x1 af
      obtain ⟨I,b5,j5,e5,aX,aW,aq,au,ab⟩:=ZaM C (.slice ao zs.length q) zs a2 k2 w3 R5 aC aQ aN
      go_wp2_with fail
      refine ab.mono ?_
      rintro e v5 ⟨rfl,ac,F⟩
      obtain ⟨aY,aZ,Y,B,X,o,D,aJ⟩:=Ze1 (⟨9,I,ByteArray.empty,0,0⟩:Nd) 1 (.int .i64 I) (.int .i64 0) ar ak V af F ac J aa Z U aL aK rfl rfl
      clear ab F
      obtain ⟨k0,k1,L,k3,k4,kp,A,f,z,aI,c⟩:=Zb0 (⟨9,I,ByteArray.empty,0,0⟩:Nd) v5.heap.size (by simp [World.setCell]) Y B X
      have u:Hid (sN zs H=((⟨9,I,ByteArray.empty,0,0⟩:Nd),b5,j5)):=by unfold Hid;rw [HN.out];unfold sB;rw [if_pos (Or.inr (Or.inr rfl)),e5]
      have T:(⟨9,I,ByteArray.empty,0,0⟩:Nd).s.size <= zs.length:=by have:=congrArg (fun t=>t.1.s.size) u.out;rw [HN.out] at this;dsimp only at this;rw [<- this];exact Zbo _ _ _ _
      obtain ⟨M,S,Q⟩:=Zbp _ u T HR HZ
      have aD:=D.size
      go_wp2_with (at_builtin;refine wpList_append_lies _ rfl _ _ 38 rfl w1.heap.size 194 i0 _ 5 48 Tryz.underlying38 hi ay aB az rfl (by decide) _ _ _ rfl (o.alloc _) ⟨v5.heap.size,0,none⟩ 1 1 (ncs [(⟨9,I,ByteArray.empty,0,0⟩:Nd)]) rfl rfl c (Za2 _) (by omega) (by unfold maxLen;omega) (by omega) (by simp;omega) _ rfl ?_)
      intro g2 y w8 b d G ai
      obtain ⟨aH,aF,r,O,P,l⟩:=Zbs A f z D d b J aa Z U
      clear c k0 k1 L k3 k4 kp d G b f A z
      go_wp2
      go_roundw
      case rel=>exact ⟨xs.length+1,m,_,b5,j5,_,y,by omega,by go_num,M,S,Q,aq,au,P,r,by rw [ZaB];exact l,O⟩
      case measure=>simp [intOf];omega
     ·have R5:=aA.k2 ah x1 af
      obtain ⟨I,b5,j5,e5,aX,aW,aq,au,ab⟩:=ZaM C (.slice ao zs.length q) zs a2 k2 w3 R5 aC aQ aN
      go_wp2_with fail
      refine ab.mono ?_
      rintro e v5 ⟨rfl,ac,F⟩
      obtain ⟨aY,aZ,Y,B,X,o,D,aJ⟩:=Ze1 (⟨3,(I - 1000000000),ByteArray.empty,0,0⟩:Nd) 1 (.int .i64 (I - 1000000000)) (.int .i64 0) ar ak V af F ac J aa Z U aL aK rfl rfl
      clear ab F
      obtain ⟨k0,k1,L,k3,k4,kp,A,f,z,aI,c⟩:=Zb0 (⟨3,(I - 1000000000),ByteArray.empty,0,0⟩:Nd) v5.heap.size (by simp [World.setCell]) Y B X
      have u:Hid (sN zs H=((⟨3,(I - 1000000000),ByteArray.empty,0,0⟩:Nd),b5,j5)):=by unfold Hid;rw [HN.out];unfold sB;rw [if_neg (by omega),if_pos rfl,e5]
      have T:(⟨3,(I - 1000000000),ByteArray.empty,0,0⟩:Nd).s.size <= zs.length:=by have:=congrArg (fun t=>t.1.s.size) u.out;rw [HN.out] at this;dsimp only at this;rw [<- this];exact Zbo _ _ _ _
      obtain ⟨M,S,Q⟩:=Zbp _ u T HR HZ
      have aD:=D.size
      go_wp2_with (at_builtin;refine wpList_append_lies _ rfl _ _ 38 rfl w1.heap.size 194 i0 _ 5 48 Tryz.underlying38 hi ay aB az rfl (by decide) _ _ _ rfl (o.alloc _) ⟨v5.heap.size,0,none⟩ 1 1 (ncs [(⟨3,(I - 1000000000),ByteArray.empty,0,0⟩:Nd)]) rfl rfl c (Za2 _) (by omega) (by unfold maxLen;omega) (by omega) (by simp;omega) _ rfl ?_)
      intro g2 y w8 b d G ai
      obtain ⟨aH,aF,r,O,P,l⟩:=Zbs A f z D d b J aa Z U
      clear c k0 k1 L k3 k4 kp d G b f A z
      go_wp2
      go_roundw
      case rel=>exact ⟨xs.length+1,m,_,b5,j5,_,y,by omega,by go_num,M,S,Q,aq,au,P,r,by rw [ZaB];exact l,O⟩
      case measure=>simp [intOf];omega
     ·have R5:=aA.k2 ah x1 af
      obtain ⟨g,hg⟩:∃ g,Hid (gT zs a2=g):=⟨_,rfl⟩
      obtain ⟨K,E,gk⟩:=g
      have HG:∀ W:World,Row W (.slice ao zs.length q) zs -> Calls Tryz.prog 118 #[.slice ao zs.length q,.int .i64 a2] W fun e w'=>e=.returned (.tuple #[.string K,.int .i64 E,.bool gk])/\w'=W:=fun W RW=>by
       have:=Zeg _ zs a2 W RW (by omega) (by omega)
       rw [hg.out] at this
       exact this
      have be:0 <= E:=by have:=(gT_range zs a2).1;rw [hg.out] at this;exact this
      have bf:E <= zs.length:=by have:=(gT_range zs a2).2;rw [hg.out] at this;exact this
      have c0:w3.cell? ⟨C,0,none⟩=some (.slice ao zs.length q):=cell_of_row _ _ 0 _ _ _ aC
      have c1:w3.cell? ⟨C,1,none⟩=some (.int .i64 a2):=cell_of_row _ _ 1 _ _ _ aC
      go_wp2_with fail
      go_quiet (first | (go_at_call 118;refine Calls.quiet_of_same (HG _ R5)))
      all_goals
       have hd:Below w3.heap.size w3 (w3.drewN nq):=⟨rfl,rfl,rfl,Nat.le_refl _,fun _ _=>rfl⟩
       have ax:=aC.below hd
       have bg:=(hd.block _ bt).trans ar
       have aw:=(bb ak hd)
       have aj:=Zac V hd
       have aO:=af.trans (K2.ofB hd)
       have bW:=hd.size
       clear c0 c1 HG R5 hd aC ar ak V af cK
       generalize w3.drewN nq=p at *
       cases k2 <;> cases gk
       ·have p2:p.cell? ⟨C,2,none⟩=some (.bool false):=cell_of_row _ _ 2 _ _ _ ax
        have bn:p.frozen? ⟨C,2,none⟩=false:=frozen_of_row _ _ 2 _ _ ax
        have am:C8 (p.setCell ⟨C,2,none⟩ (.bool false)) C (.slice ao zs.length q) a2 false:=heap_setCell_same p C 2 _ _ (.bool false) ax
        have pa:(p.setCell ⟨C,2,none⟩ (.bool false)).cell? ⟨C,1,none⟩=some (.int .i64 a2):=cell_of_row _ _ 1 _ _ _ am
        have br:(p.setCell ⟨C,2,none⟩ (.bool false)).frozen? ⟨C,1,none⟩=false:=frozen_of_row _ _ 1 _ _ am
        have ag:p.grownBy ((p.setCell ⟨C,2,none⟩ (.bool false)).setCell ⟨C,1,none⟩ (.int .i64 E)) (some C):=Zaj (Zan p C 2 _) (Zan _ C 1 _)
        have aT:C8 ((p.setCell ⟨C,2,none⟩ (.bool false)).setCell ⟨C,1,none⟩ (.int .i64 E)) C (.slice ao zs.length q) E false:=heap_setCell_same (p.setCell ⟨C,2,none⟩ (.bool false)) C 1 _ _ (.int .i64 E) am
        have al:=(ag.block nb (by omega) (by simp;omega)).trans bg
        have aE:=(ag.block _ (bl aw) (by simp;omega)).trans aw
        have an:=aj.kept ag (Zci aj (by omega))
        have aR:=aO.trans (K2.ofP ag)
        have a5:=aO.size
        have bm:((p.setCell ⟨C,2,none⟩ (.bool false)).setCell ⟨C,1,none⟩ (.int .i64 E)).cell? ⟨nb,2,none⟩=some (.string ByteArray.empty):=cell_of_row _ _ 2 _ _ _ al
        have a6:((p.setCell ⟨C,2,none⟩ (.bool false)).setCell ⟨C,1,none⟩ (.int .i64 E)).frozen? ⟨nb,2,none⟩=false:=frozen_of_row _ _ 2 _ _ al
        have Y:(((p.setCell ⟨C,2,none⟩ (.bool false)).setCell ⟨C,1,none⟩ (.int .i64 E)).setCell ⟨nb,2,none⟩ (.string K)).heap[nb]? = some (.cells (ndA (⟨4,0,K,0,0⟩:Nd)) 194 (0,0)):=heap_setCell_same ((p.setCell ⟨C,2,none⟩ (.bool false)).setCell ⟨C,1,none⟩ (.int .i64 E)) nb 2 _ _ (.string K) al
        have B:=(heap_setCell_other ((p.setCell ⟨C,2,none⟩ (.bool false)).setCell ⟨C,1,none⟩ (.int .i64 E)) ⟨nb,2,none⟩ (w.heap.size+1) (.string K) (by show w.heap.size+1 ≠ nb;omega)).trans aE
        have X:C8 (((p.setCell ⟨C,2,none⟩ (.bool false)).setCell ⟨C,1,none⟩ (.int .i64 E)).setCell ⟨nb,2,none⟩ (.string K)) C (.slice ao zs.length q) E false:=(heap_setCell_other ((p.setCell ⟨C,2,none⟩ (.bool false)).setCell ⟨C,1,none⟩ (.int .i64 E)) ⟨nb,2,none⟩ C (.string K) (by show C ≠ nb;omega)).trans aT
        have o:=ownsRow_setCell_other an (a:=⟨nb,2,none⟩) (fun e=>by have:=(J nb e).2;omega) (.string K)
        have D:=aR.row (Zan ((p.setCell ⟨C,2,none⟩ (.bool false)).setCell ⟨C,1,none⟩ (.int .i64 E)) nb 2 (.string K)) (fun j hj=>by cases hj;omega)
        obtain ⟨k0,k1,L,k3,k4,kp,A,f,z,aI,c⟩:=Zb0 (⟨4,0,K,0,0⟩:Nd) p.heap.size (by simp [World.setCell]) Y B X
        have u:Hid (sN zs H=((⟨4,0,K,0,0⟩:Nd),E,false)):=by unfold Hid;rw [HN.out];unfold sB;rw [if_neg (by omega),if_neg (by omega),if_pos rfl,hg.out];rfl
        have T:(⟨4,0,K,0,0⟩:Nd).s.size <= zs.length:=by have:=congrArg (fun t=>t.1.s.size) u.out;rw [HN.out] at this;dsimp only at this;rw [<- this];exact Zbo _ _ _ _
        obtain ⟨M,S,Q⟩:=Zbp _ u T HR HZ
        have aD:=D.size
        go_wp2_with (at_builtin;refine wpList_append_lies _ rfl _ _ 38 rfl w1.heap.size 194 i0 _ 5 48 Tryz.underlying38 hi ay aB az rfl (by decide) _ _ _ rfl (o.alloc _) ⟨p.heap.size,0,none⟩ 1 1 (ncs [(⟨4,0,K,0,0⟩:Nd)]) rfl rfl c (Za2 _) (by omega) (by unfold maxLen;omega) (by omega) (by simp;omega) _ rfl ?_)
        intro g2 y w8 b d G ai
        obtain ⟨aH,aF,r,O,P,l⟩:=Zbs A f z D d b J aa Z U
        clear c k0 k1 L k3 k4 kp d G b f A z
        go_wp2
        go_roundw
        case rel=>exact ⟨xs.length+1,m,_,E,false,_,y,by omega,by go_num,M,S,Q,be,bf,P,r,by rw [ZaB];exact l,O⟩
        case measure=>simp [intOf];omega
       ·have p2:p.cell? ⟨C,2,none⟩=some (.bool false):=cell_of_row _ _ 2 _ _ _ ax
        have bn:p.frozen? ⟨C,2,none⟩=false:=frozen_of_row _ _ 2 _ _ ax
        have am:C8 (p.setCell ⟨C,2,none⟩ (.bool false)) C (.slice ao zs.length q) a2 false:=heap_setCell_same p C 2 _ _ (.bool false) ax
        have pa:(p.setCell ⟨C,2,none⟩ (.bool false)).cell? ⟨C,1,none⟩=some (.int .i64 a2):=cell_of_row _ _ 1 _ _ _ am
        have br:(p.setCell ⟨C,2,none⟩ (.bool false)).frozen? ⟨C,1,none⟩=false:=frozen_of_row _ _ 1 _ _ am
        have ag:p.grownBy ((p.setCell ⟨C,2,none⟩ (.bool false)).setCell ⟨C,1,none⟩ (.int .i64 E)) (some C):=Zaj (Zan p C 2 _) (Zan _ C 1 _)
        have aT:C8 ((p.setCell ⟨C,2,none⟩ (.bool false)).setCell ⟨C,1,none⟩ (.int .i64 E)) C (.slice ao zs.length q) E false:=heap_setCell_same (p.setCell ⟨C,2,none⟩ (.bool false)) C 1 _ _ (.int .i64 E) am
        have al:=(ag.block nb (by omega) (by simp;omega)).trans bg
        have aE:=(ag.block _ (bl aw) (by simp;omega)).trans aw
        have an:=aj.kept ag (Zci aj (by omega))
        have aR:=aO.trans (K2.ofP ag)
        have a5:=aO.size
        have bm:((p.setCell ⟨C,2,none⟩ (.bool false)).setCell ⟨C,1,none⟩ (.int .i64 E)).cell? ⟨nb,2,none⟩=some (.string ByteArray.empty):=cell_of_row _ _ 2 _ _ _ al
        have a6:((p.setCell ⟨C,2,none⟩ (.bool false)).setCell ⟨C,1,none⟩ (.int .i64 E)).frozen? ⟨nb,2,none⟩=false:=frozen_of_row _ _ 2 _ _ al
        have Y:(((p.setCell ⟨C,2,none⟩ (.bool false)).setCell ⟨C,1,none⟩ (.int .i64 E)).setCell ⟨nb,2,none⟩ (.string K)).heap[nb]? = some (.cells (ndA (⟨4,0,K,0,0⟩:Nd)) 194 (0,0)):=heap_setCell_same ((p.setCell ⟨C,2,none⟩ (.bool false)).setCell ⟨C,1,none⟩ (.int .i64 E)) nb 2 _ _ (.string K) al
        have B:=(heap_setCell_other ((p.setCell ⟨C,2,none⟩ (.bool false)).setCell ⟨C,1,none⟩ (.int .i64 E)) ⟨nb,2,none⟩ (w.heap.size+1) (.string K) (by show w.heap.size+1 ≠ nb;omega)).trans aE
        have X:C8 (((p.setCell ⟨C,2,none⟩ (.bool false)).setCell ⟨C,1,none⟩ (.int .i64 E)).setCell ⟨nb,2,none⟩ (.string K)) C (.slice ao zs.length q) E false:=(heap_setCell_other ((p.setCell ⟨C,2,none⟩ (.bool false)).setCell ⟨C,1,none⟩ (.int .i64 E)) ⟨nb,2,none⟩ C (.string K) (by show C ≠ nb;omega)).trans aT
        have o:=ownsRow_setCell_other an (a:=⟨nb,2,none⟩) (fun e=>by have:=(J nb e).2;omega) (.string K)
        have D:=aR.row (Zan ((p.setCell ⟨C,2,none⟩ (.bool false)).setCell ⟨C,1,none⟩ (.int .i64 E)) nb 2 (.string K)) (fun j hj=>by cases hj;omega)
        obtain ⟨k0,k1,L,k3,k4,kp,A,f,z,aI,c⟩:=Zb0 (⟨4,0,K,0,0⟩:Nd) p.heap.size (by simp [World.setCell]) Y B X
        have u:Hid (sN zs H=((⟨4,0,K,0,0⟩:Nd),E,false)):=by unfold Hid;rw [HN.out];unfold sB;rw [if_neg (by omega),if_neg (by omega),if_pos rfl,hg.out];rfl
        have T:(⟨4,0,K,0,0⟩:Nd).s.size <= zs.length:=by have:=congrArg (fun t=>t.1.s.size) u.out;rw [HN.out] at this;dsimp only at this;rw [<- this];exact Zbo _ _ _ _
        obtain ⟨M,S,Q⟩:=Zbp _ u T HR HZ
        have aD:=D.size
        go_wp2_with (at_builtin;refine wpList_append_lies _ rfl _ _ 38 rfl w1.heap.size 194 i0 _ 5 48 Tryz.underlying38 hi ay aB az rfl (by decide) _ _ _ rfl (o.alloc _) ⟨p.heap.size,0,none⟩ 1 1 (ncs [(⟨4,0,K,0,0⟩:Nd)]) rfl rfl c (Za2 _) (by omega) (by unfold maxLen;omega) (by omega) (by simp;omega) _ rfl ?_)
        intro g2 y w8 b d G ai
        obtain ⟨aH,aF,r,O,P,l⟩:=Zbs A f z D d b J aa Z U
        clear c k0 k1 L k3 k4 kp d G b f A z
        go_wp2
        go_roundw
        case rel=>exact ⟨xs.length+1,m,_,E,false,_,y,by omega,by go_num,M,S,Q,be,bf,P,r,by rw [ZaB];exact l,O⟩
        case measure=>simp [intOf];omega
       ·have p2:p.cell? ⟨C,2,none⟩=some (.bool true):=cell_of_row _ _ 2 _ _ _ ax
        have bn:p.frozen? ⟨C,2,none⟩=false:=frozen_of_row _ _ 2 _ _ ax
        have am:C8 (p.setCell ⟨C,2,none⟩ (.bool false)) C (.slice ao zs.length q) a2 false:=heap_setCell_same p C 2 _ _ (.bool false) ax
        have pa:(p.setCell ⟨C,2,none⟩ (.bool false)).cell? ⟨C,1,none⟩=some (.int .i64 a2):=cell_of_row _ _ 1 _ _ _ am
        have br:(p.setCell ⟨C,2,none⟩ (.bool false)).frozen? ⟨C,1,none⟩=false:=frozen_of_row _ _ 1 _ _ am
        have ag:p.grownBy ((p.setCell ⟨C,2,none⟩ (.bool false)).setCell ⟨C,1,none⟩ (.int .i64 E)) (some C):=Zaj (Zan p C 2 _) (Zan _ C 1 _)
        have aT:C8 ((p.setCell ⟨C,2,none⟩ (.bool false)).setCell ⟨C,1,none⟩ (.int .i64 E)) C (.slice ao zs.length q) E false:=heap_setCell_same (p.setCell ⟨C,2,none⟩ (.bool false)) C 1 _ _ (.int .i64 E) am
        have al:=(ag.block nb (by omega) (by simp;omega)).trans bg
        have aE:=(ag.block _ (bl aw) (by simp;omega)).trans aw
        have an:=aj.kept ag (Zci aj (by omega))
        have aR:=aO.trans (K2.ofP ag)
        have a5:=aO.size
        have bm:((p.setCell ⟨C,2,none⟩ (.bool false)).setCell ⟨C,1,none⟩ (.int .i64 E)).cell? ⟨nb,2,none⟩=some (.string ByteArray.empty):=cell_of_row _ _ 2 _ _ _ al
        have a6:((p.setCell ⟨C,2,none⟩ (.bool false)).setCell ⟨C,1,none⟩ (.int .i64 E)).frozen? ⟨nb,2,none⟩=false:=frozen_of_row _ _ 2 _ _ al
        have Y:(((p.setCell ⟨C,2,none⟩ (.bool false)).setCell ⟨C,1,none⟩ (.int .i64 E)).setCell ⟨nb,2,none⟩ (.string K)).heap[nb]? = some (.cells (ndA (⟨4,0,K,0,0⟩:Nd)) 194 (0,0)):=heap_setCell_same ((p.setCell ⟨C,2,none⟩ (.bool false)).setCell ⟨C,1,none⟩ (.int .i64 E)) nb 2 _ _ (.string K) al
        have B:=(heap_setCell_other ((p.setCell ⟨C,2,none⟩ (.bool false)).setCell ⟨C,1,none⟩ (.int .i64 E)) ⟨nb,2,none⟩ (w.heap.size+1) (.string K) (by show w.heap.size+1 ≠ nb;omega)).trans aE
        have X:C8 (((p.setCell ⟨C,2,none⟩ (.bool false)).setCell ⟨C,1,none⟩ (.int .i64 E)).setCell ⟨nb,2,none⟩ (.string K)) C (.slice ao zs.length q) E false:=(heap_setCell_other ((p.setCell ⟨C,2,none⟩ (.bool false)).setCell ⟨C,1,none⟩ (.int .i64 E)) ⟨nb,2,none⟩ C (.string K) (by show C ≠ nb;omega)).trans aT
        have o:=ownsRow_setCell_other an (a:=⟨nb,2,none⟩) (fun e=>by have:=(J nb e).2;omega) (.string K)
        have D:=aR.row (Zan ((p.setCell ⟨C,2,none⟩ (.bool false)).setCell ⟨C,1,none⟩ (.int .i64 E)) nb 2 (.string K)) (fun j hj=>by cases hj;omega)
        obtain ⟨k0,k1,L,k3,k4,kp,A,f,z,aI,c⟩:=Zb0 (⟨4,0,K,0,0⟩:Nd) p.heap.size (by simp [World.setCell]) Y B X
        have u:Hid (sN zs H=((⟨4,0,K,0,0⟩:Nd),E,false)):=by unfold Hid;rw [HN.out];unfold sB;rw [if_neg (by omega),if_neg (by omega),if_pos rfl,hg.out];rfl
        have T:(⟨4,0,K,0,0⟩:Nd).s.size <= zs.length:=by have:=congrArg (fun t=>t.1.s.size) u.out;rw [HN.out] at this;dsimp only at this;rw [<- this];exact Zbo _ _ _ _
        obtain ⟨M,S,Q⟩:=Zbp _ u T HR HZ
        have aD:=D.size
        go_wp2_with (at_builtin;refine wpList_append_lies _ rfl _ _ 38 rfl w1.heap.size 194 i0 _ 5 48 Tryz.underlying38 hi ay aB az rfl (by decide) _ _ _ rfl (o.alloc _) ⟨p.heap.size,0,none⟩ 1 1 (ncs [(⟨4,0,K,0,0⟩:Nd)]) rfl rfl c (Za2 _) (by omega) (by unfold maxLen;omega) (by omega) (by simp;omega) _ rfl ?_)
        intro g2 y w8 b d G ai
        obtain ⟨aH,aF,r,O,P,l⟩:=Zbs A f z D d b J aa Z U
        clear c k0 k1 L k3 k4 kp d G b f A z
        go_wp2
        go_roundw
        case rel=>exact ⟨xs.length+1,m,_,E,false,_,y,by omega,by go_num,M,S,Q,be,bf,P,r,by rw [ZaB];exact l,O⟩
        case measure=>simp [intOf];omega
       ·have p2:p.cell? ⟨C,2,none⟩=some (.bool true):=cell_of_row _ _ 2 _ _ _ ax
        have bn:p.frozen? ⟨C,2,none⟩=false:=frozen_of_row _ _ 2 _ _ ax
        have am:C8 (p.setCell ⟨C,2,none⟩ (.bool true)) C (.slice ao zs.length q) a2 true:=heap_setCell_same p C 2 _ _ (.bool true) ax
        have pa:(p.setCell ⟨C,2,none⟩ (.bool true)).cell? ⟨C,1,none⟩=some (.int .i64 a2):=cell_of_row _ _ 1 _ _ _ am
        have br:(p.setCell ⟨C,2,none⟩ (.bool true)).frozen? ⟨C,1,none⟩=false:=frozen_of_row _ _ 1 _ _ am
        have ag:p.grownBy ((p.setCell ⟨C,2,none⟩ (.bool true)).setCell ⟨C,1,none⟩ (.int .i64 E)) (some C):=Zaj (Zan p C 2 _) (Zan _ C 1 _)
        have aT:C8 ((p.setCell ⟨C,2,none⟩ (.bool true)).setCell ⟨C,1,none⟩ (.int .i64 E)) C (.slice ao zs.length q) E true:=heap_setCell_same (p.setCell ⟨C,2,none⟩ (.bool true)) C 1 _ _ (.int .i64 E) am
        have al:=(ag.block nb (by omega) (by simp;omega)).trans bg
        have aE:=(ag.block _ (bl aw) (by simp;omega)).trans aw
        have an:=aj.kept ag (Zci aj (by omega))
        have aR:=aO.trans (K2.ofP ag)
        have a5:=aO.size
        have bm:((p.setCell ⟨C,2,none⟩ (.bool true)).setCell ⟨C,1,none⟩ (.int .i64 E)).cell? ⟨nb,2,none⟩=some (.string ByteArray.empty):=cell_of_row _ _ 2 _ _ _ al
        have a6:((p.setCell ⟨C,2,none⟩ (.bool true)).setCell ⟨C,1,none⟩ (.int .i64 E)).frozen? ⟨nb,2,none⟩=false:=frozen_of_row _ _ 2 _ _ al
        have Y:(((p.setCell ⟨C,2,none⟩ (.bool true)).setCell ⟨C,1,none⟩ (.int .i64 E)).setCell ⟨nb,2,none⟩ (.string K)).heap[nb]? = some (.cells (ndA (⟨4,0,K,0,0⟩:Nd)) 194 (0,0)):=heap_setCell_same ((p.setCell ⟨C,2,none⟩ (.bool true)).setCell ⟨C,1,none⟩ (.int .i64 E)) nb 2 _ _ (.string K) al
        have B:=(heap_setCell_other ((p.setCell ⟨C,2,none⟩ (.bool true)).setCell ⟨C,1,none⟩ (.int .i64 E)) ⟨nb,2,none⟩ (w.heap.size+1) (.string K) (by show w.heap.size+1 ≠ nb;omega)).trans aE
        have X:C8 (((p.setCell ⟨C,2,none⟩ (.bool true)).setCell ⟨C,1,none⟩ (.int .i64 E)).setCell ⟨nb,2,none⟩ (.string K)) C (.slice ao zs.length q) E true:=(heap_setCell_other ((p.setCell ⟨C,2,none⟩ (.bool true)).setCell ⟨C,1,none⟩ (.int .i64 E)) ⟨nb,2,none⟩ C (.string K) (by show C ≠ nb;omega)).trans aT
        have o:=ownsRow_setCell_other an (a:=⟨nb,2,none⟩) (fun e=>by have:=(J nb e).2;omega) (.string K)
        have D:=aR.row (Zan ((p.setCell ⟨C,2,none⟩ (.bool true)).setCell ⟨C,1,none⟩ (.int .i64 E)) nb 2 (.string K)) (fun j hj=>by cases hj;omega)
        obtain ⟨k0,k1,L,k3,k4,kp,A,f,z,aI,c⟩:=Zb0 (⟨4,0,K,0,0⟩:Nd) p.heap.size (by simp [World.setCell]) Y B X
        have u:Hid (sN zs H=((⟨4,0,K,0,0⟩:Nd),E,true)):=by unfold Hid;rw [HN.out];unfold sB;rw [if_neg (by omega),if_neg (by omega),if_pos rfl,hg.out];rfl
        have T:(⟨4,0,K,0,0⟩:Nd).s.size <= zs.length:=by have:=congrArg (fun t=>t.1.s.size) u.out;rw [HN.out] at this;dsimp only at this;rw [<- this];exact Zbo _ _ _ _
        obtain ⟨M,S,Q⟩:=Zbp _ u T HR HZ
        have aD:=D.size
        go_wp2_with (at_builtin;refine wpList_append_lies _ rfl _ _ 38 rfl w1.heap.size 194 i0 _ 5 48 Tryz.underlying38 hi ay aB az rfl (by decide) _ _ _ rfl (o.alloc _) ⟨p.heap.size,0,none⟩ 1 1 (ncs [(⟨4,0,K,0,0⟩:Nd)]) rfl rfl c (Za2 _) (by omega) (by unfold maxLen;omega) (by omega) (by simp;omega) _ rfl ?_)
        intro g2 y w8 b d G ai
        obtain ⟨aH,aF,r,O,P,l⟩:=Zbs A f z D d b J aa Z U
        clear c k0 k1 L k3 k4 kp d G b f A z
        go_wp2
        go_roundw
        case rel=>exact ⟨xs.length+1,m,_,E,true,_,y,by omega,by go_num,M,S,Q,be,bf,P,r,by rw [ZaB];exact l,O⟩
        case measure=>simp [intOf];omega
     ·have R5:=aA.k2 ah x1 af
      obtain ⟨I,b5,j5,e5,aX,aW,aq,au,ab⟩:=ZaM C (.slice ao zs.length q) zs a2 k2 w3 R5 aC aQ aN
      go_wp2_with fail
      refine ab.mono ?_
      rintro e v5 ⟨rfl,ac,F⟩
      obtain ⟨aY,aZ,Y,B,X,o,D,aJ⟩:=Ze1 (⟨5,0,ByteArray.empty,I,0⟩:Nd) 3 (.int .i64 I) (.int .i64 0) ar ak V af F ac J aa Z U aL aK rfl rfl
      clear ab F
      have R6:=aA.k2 ah x1 D
      obtain ⟨x6,b6,j6,e6,bO,bM,bs,bo,a4⟩:=ZaM C (.slice ao zs.length q) zs b5 j5 (v5.setCell ⟨nb,3,none⟩ (.int .i64 I)) R6 X aq au
      go_wp2_with fail
      refine a4.mono ?_
      rintro e v6 ⟨rfl,a8,aP⟩
      obtain ⟨bP,bR,bp,bd,bq,aS,a7,bw⟩:=Ze1 (⟨5,0,ByteArray.empty,I,x6⟩:Nd) 4 (.int .i64 x6) (.int .i64 0) Y B o D aP a8 J aa Z U aL aK rfl rfl
      clear a4 aP
      obtain ⟨k0,k1,L,k3,k4,kp,A,f,z,aI,c⟩:=Zb0 (⟨5,0,ByteArray.empty,I,x6⟩:Nd) v6.heap.size (by simp [World.setCell]) bp bd bq
      have u:Hid (sN zs H=((⟨5,0,ByteArray.empty,I,x6⟩:Nd),b6,j6)):=by unfold Hid;rw [HN.out];unfold sB;rw [if_neg (by omega),if_neg (by omega),if_neg (by omega),if_pos rfl,e5];dsimp only;rw [e6]
      have T:(⟨5,0,ByteArray.empty,I,x6⟩:Nd).s.size <= zs.length:=by have:=congrArg (fun t=>t.1.s.size) u.out;rw [HN.out] at this;dsimp only at this;rw [<- this];exact Zbo _ _ _ _
      obtain ⟨M,S,Q⟩:=Zbp _ u T HR HZ
      have aD:=a7.size
      go_wp2_with (at_builtin;refine wpList_append_lies _ rfl _ _ 38 rfl w1.heap.size 194 i0 _ 5 48 Tryz.underlying38 hi ay aB az rfl (by decide) _ _ _ rfl (aS.alloc _) ⟨v6.heap.size,0,none⟩ 1 1 (ncs [(⟨5,0,ByteArray.empty,I,x6⟩:Nd)]) rfl rfl c (Za2 _) (by omega) (by unfold maxLen;omega) (by omega) (by simp;omega) _ rfl ?_)
      intro g2 y w8 b d G ai
      obtain ⟨aH,aF,r,O,P,l⟩:=Zbs A f z a7 d b J aa Z U
      clear c k0 k1 L k3 k4 kp d G b f A z
      go_wp2
      go_roundw
      case rel=>exact ⟨xs.length+1,m,_,b6,j6,_,y,by omega,by go_num,M,S,Q,bs,bo,P,r,by rw [ZaB];exact l,O⟩
      case measure=>simp [intOf];omega
     ·have R5:=aA.k2 ah x1 af
      obtain ⟨I,b5,j5,e5,aX,aW,aq,au,ab⟩:=ZaM C (.slice ao zs.length q) zs a2 k2 w3 R5 aC aQ aN
      go_wp2_with fail
      refine ab.mono ?_
      rintro e v5 ⟨rfl,ac,F⟩
      obtain ⟨aY,aZ,Y,B,X,o,D,aJ⟩:=Ze1 (⟨6,I,ByteArray.empty,0,0⟩:Nd) 1 (.int .i64 I) (.int .i64 0) ar ak V af F ac J aa Z U aL aK rfl rfl
      clear ab F
      have R6:=aA.k2 ah x1 D
      obtain ⟨x6,b6,j6,e6,bO,bM,bs,bo,a4⟩:=ZaM C (.slice ao zs.length q) zs b5 j5 (v5.setCell ⟨nb,1,none⟩ (.int .i64 I)) R6 X aq au
      go_wp2_with fail
      refine a4.mono ?_
      rintro e v6 ⟨rfl,a8,aP⟩
      obtain ⟨bP,bR,bp,bd,bq,aS,a7,bw⟩:=Ze1 (⟨6,I,ByteArray.empty,x6,0⟩:Nd) 3 (.int .i64 x6) (.int .i64 0) Y B o D aP a8 J aa Z U aL aK rfl rfl
      clear a4 aP
      obtain ⟨k0,k1,L,k3,k4,kp,A,f,z,aI,c⟩:=Zb0 (⟨6,I,ByteArray.empty,x6,0⟩:Nd) v6.heap.size (by simp [World.setCell]) bp bd bq
      have u:Hid (sN zs H=((⟨6,I,ByteArray.empty,x6,0⟩:Nd),b6,j6)):=by unfold Hid;rw [HN.out];unfold sB;rw [if_neg (by omega),if_neg (by omega),if_neg (by omega),if_neg (by omega),if_pos rfl,e5];dsimp only;rw [e6]
      have T:(⟨6,I,ByteArray.empty,x6,0⟩:Nd).s.size <= zs.length:=by have:=congrArg (fun t=>t.1.s.size) u.out;rw [HN.out] at this;dsimp only at this;rw [<- this];exact Zbo _ _ _ _
      obtain ⟨M,S,Q⟩:=Zbp _ u T HR HZ
      have aD:=a7.size
      go_wp2_with (at_builtin;refine wpList_append_lies _ rfl _ _ 38 rfl w1.heap.size 194 i0 _ 5 48 Tryz.underlying38 hi ay aB az rfl (by decide) _ _ _ rfl (aS.alloc _) ⟨v6.heap.size,0,none⟩ 1 1 (ncs [(⟨6,I,ByteArray.empty,x6,0⟩:Nd)]) rfl rfl c (Za2 _) (by omega) (by unfold maxLen;omega) (by omega) (by simp;omega) _ rfl ?_)
      intro g2 y w8 b d G ai
      obtain ⟨aH,aF,r,O,P,l⟩:=Zbs A f z a7 d b J aa Z U
      clear c k0 k1 L k3 k4 kp d G b f A z
      go_wp2
      go_roundw
      case rel=>exact ⟨xs.length+1,m,_,b6,j6,_,y,by omega,by go_num,M,S,Q,bs,bo,P,r,by rw [ZaB];exact l,O⟩
      case measure=>simp [intOf];omega
     ·have R5:=aA.k2 ah x1 af
      obtain ⟨I,b5,j5,e5,aX,aW,aq,au,ab⟩:=ZaM C (.slice ao zs.length q) zs a2 k2 w3 R5 aC aQ aN
      go_wp2_with fail
      refine ab.mono ?_
      rintro e v5 ⟨rfl,ac,F⟩
      obtain ⟨aY,aZ,Y,B,X,o,D,aJ⟩:=Ze1 (⟨7,0,ByteArray.empty,I,0⟩:Nd) 3 (.int .i64 I) (.int .i64 0) ar ak V af F ac J aa Z U aL aK rfl rfl
      clear ab F
      obtain ⟨k0,k1,L,k3,k4,kp,A,f,z,aI,c⟩:=Zb0 (⟨7,0,ByteArray.empty,I,0⟩:Nd) v5.heap.size (by simp [World.setCell]) Y B X
      have u:Hid (sN zs H=((⟨7,0,ByteArray.empty,I,0⟩:Nd),b5,j5)):=by unfold Hid;rw [HN.out];unfold sB;rw [if_neg (by omega),if_neg (by omega),if_neg (by omega),if_neg (by omega),if_neg (by omega),if_pos rfl,e5]
      have T:(⟨7,0,ByteArray.empty,I,0⟩:Nd).s.size <= zs.length:=by have:=congrArg (fun t=>t.1.s.size) u.out;rw [HN.out] at this;dsimp only at this;rw [<- this];exact Zbo _ _ _ _
      obtain ⟨M,S,Q⟩:=Zbp _ u T HR HZ
      have aD:=D.size
      go_wp2_with (at_builtin;refine wpList_append_lies _ rfl _ _ 38 rfl w1.heap.size 194 i0 _ 5 48 Tryz.underlying38 hi ay aB az rfl (by decide) _ _ _ rfl (o.alloc _) ⟨v5.heap.size,0,none⟩ 1 1 (ncs [(⟨7,0,ByteArray.empty,I,0⟩:Nd)]) rfl rfl c (Za2 _) (by omega) (by unfold maxLen;omega) (by omega) (by simp;omega) _ rfl ?_)
      intro g2 y w8 b d G ai
      obtain ⟨aH,aF,r,O,P,l⟩:=Zbs A f z D d b J aa Z U
      clear c k0 k1 L k3 k4 kp d G b f A z
      go_wp2
      go_roundw
      case rel=>exact ⟨xs.length+1,m,_,b5,j5,_,y,by omega,by go_num,M,S,Q,aq,au,P,r,by rw [ZaB];exact l,O⟩
      case measure=>simp [intOf];omega
     ·obtain ⟨k0,k1,L,k3,k4,kp,A,f,z,aI,c⟩:=Zb0 (⟨kd,0,ByteArray.empty,0,0⟩:Nd) w3.heap.size rfl ar ak aC
      have u:Hid (sN zs H=((⟨kd,0,ByteArray.empty,0,0⟩:Nd),a2,k2)):=by unfold Hid;rw [HN.out];unfold sB;rw [if_neg (by omega),if_neg (by omega),if_neg (by omega),if_neg (by omega),if_neg (by omega),if_neg (by omega)]
      have T:(⟨kd,0,ByteArray.empty,0,0⟩:Nd).s.size <= zs.length:=by have:=congrArg (fun t=>t.1.s.size) u.out;rw [HN.out] at this;dsimp only at this;rw [<- this];exact Zbo _ _ _ _
      obtain ⟨M,S,Q⟩:=Zbp _ u T HR HZ
      have aD:=af.size
      go_wp2_with (at_builtin;refine wpList_append_lies _ rfl _ _ 38 rfl w1.heap.size 194 i0 _ 5 48 Tryz.underlying38 hi ay aB az rfl (by decide) _ _ _ rfl (V.alloc _) ⟨w3.heap.size,0,none⟩ 1 1 (ncs [(⟨kd,0,ByteArray.empty,0,0⟩:Nd)]) rfl rfl c (Za2 _) (by omega) (by unfold maxLen;omega) (by omega) (by simp;omega) _ rfl ?_)
      intro g2 y w8 b d G ai
      obtain ⟨aH,aF,r,O,P,l⟩:=Zbs A f z af d b J aa Z U
      clear c k0 k1 L k3 k4 kp d G b f A z
      go_wp2
      go_roundw
      case rel=>exact ⟨xs.length+1,m,_,a2,k2,_,y,by omega,by go_num,M,S,Q,aQ,aN,P,r,by rw [ZaB];exact l,O⟩
      case measure=>simp [intOf];omega
    ·have bN:m=0:=by omega
     subst bN
     have HX:Hid (sP zs a ok=(xs,H,true)):=HR.out
     have RN:NRow wr (.slice av xs.length cv) xs:=NRow.of_own ap (by omega) (fun x hx=>by have:=HZ.out x hx;unfold maxLen;omega)
     by_cases G:H=zs.length
     ·obtain ⟨pb,bj⟩:∃ pb,Hid (Zas xs=pb):=⟨_,rfl⟩
      have HS:Hid (sOk zs a ok=pb):=by unfold Hid sOk;rw [HX.out];show (true && decide (H=zs.length) && Zas xs)=pb;rw [decide_eq_true G,bj.out];rfl
      have bK:∀ W,Below wr.heap.size wr W -> Calls Tryz.prog 75 #[.agg #[.slice av xs.length cv]] W fun e w'=>e=.returned (.bool pb)/\Below W.heap.size W w':=fun W hW=>by
       have:=Zce _ xs W (RN.below hW)
       rw [bj.out] at this
       exact this
      go_wp2_with fail
      refine Zj6 C (w.heap.size+1) zs.length q xs.length cv ao av H _ _ G pb bK (by omega) hC aG ?_
      intro u105 u106 u107 u108 u109 u110 u111 u112 u113 u114 u115 u116 u117 u118 u119 u120 u121 u122 u123 u124 u125 u126 u127 WF ad ae
      obtain ⟨q1,q2,q3,q4,q5,q6,q7⟩:=ZdB pb aV bh ad ae bi aG (Zah ap (show w.heap.size+1+1 <= w1.heap.size by omega))
      clear ad ae
      go_wp2
      refine bodyPost_ret (results_cell_row rfl _ _ w.heap.size 40 _ (0,0) _ rfl q4 Tryz.underlying40 rfl Znn) rfl ⟨.slice av xs.length cv,rfl,?_,?_,q7,?_⟩
      ·rw [HX.out];exact q5
      ·rw [HS.out,HX.out];exact q6
      ·rw [HX.out];exact HZ.out
     ·have HS:Hid (sOk zs a ok=false):=by unfold Hid sOk;rw [HX.out];show (true && decide (H=zs.length) && Zas xs)=false;rw [decide_eq_false G];rfl
      go_wp2_with fail
      refine ZkP C (w.heap.size+1) zs.length q xs.length cv ao av H _ _ G (by omega) hC aG ?_
      intro u105 u106 u107 u108 u109 u110 u111 u112 u113 u114 u115 u116 u117 u118 u119 u120 u121 u122 u123 u124 u125 u126 u127 WF ad ae
      obtain ⟨q1,q2,q3,q4,q5,q6,q7⟩:=ZdB false aV bh ad ae bi aG (Zah ap (show w.heap.size+1+1 <= w1.heap.size by omega))
      clear ad ae
      go_wp2
      refine bodyPost_ret (results_cell_row rfl _ _ w.heap.size 40 _ (0,0) _ rfl q4 Tryz.underlying40 rfl Znn) rfl ⟨.slice av xs.length cv,rfl,?_,?_,q7,?_⟩
      ·rw [HX.out];exact q5
      ·rw [HS.out,HX.out];exact q6
      ·rw [HX.out];exact HZ.out
end Go.Proofs.YtfeodlbpnghakaaGreatDoor
