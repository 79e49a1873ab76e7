/-
  Texts that stood by themselves, laid into one.
-/
import Derived.Test.YtanhoamdlhaaeaaGreatDoorSClsM
import Derived.Test.YtanhoamdlhaaeaaGreatDoorSAddM
import Derived.Test.YtanhoamdlhaaeaaGreatDoorCyMathM
import Derived.Deep.RegionHeld
import Derived.Test.YtanhoamdlhaaeaaGreatDoorRNodeM
import Derived.Test.YtanhoamdlhaaeaaGreatDoorRVal2M
import Derived.Test.YtanhoamdlhaaeaaGreatDoorMachRecM
import Derived.Test.YtanhoamdlhaaeaaGreatDoorSubM
/-
  Contracts of spec's l2Add and l2List once more: where the list is a row of the call's own.
-/
set_option maxRecDepth 100000
set_option maxHeartbeats 3200000
namespace Go.Proofs.YtanhoamdlhaaeaaGreatDoor
open Go.Proofs.Tryz
open Go.RowKit
theorem ZiB (b c:Nat)(r:Option Addr)(j:Nat)(d:List Nd)(x:Nd)(w:World)(u:w.heap[b]? = some (.cells #[.slice r d.length j] 41 (0,0)))(J:w.ownsRow c 176 5 (.slice r d.length j) d.length (ncs d))(V:d.length <= 2097152)(C:c <= b) :
  Calls prog 175 #[.pointer (some ⟨b,0,none⟩),.agg #[.int .i64 x.k,.int .i64 x.n,.string x.s,.int .i64 x.a,.int .i64 x.b]] w fun e v =>
   ∃ P,e=.returned (.int .i64 d.length)/\v.heap[b]? = some (.cells #[P] 41 (0,0))/\v.ownsRow c 176 5 P (d ++ [x]).length (ncs (d ++ [x]))/\Below c w v/\(∀ k,k < w.heap.size -> k ≠ b -> (Value.slice r d.length j).ownBlock ≠ some k -> v.heap[k]? = w.heap[k]?):=by
 obtain ⟨T,hi,M,N,O⟩:=info_parts Zma;have I:b < w.heap.size:=(bl u);have D:w.cell? ⟨b,0,none⟩=some (.slice r d.length j):=by rw [cd w b 0 _ _ _ u];rfl
 have S:b ≠ w.heap.size:=by omega
 go_enter func175,ntmps175
 go_wp2_with fail
 go_region_law (refine step_append_lies _ rfl _ _ 39 rfl c 176 T _ 5 48 underlying39 hi M N O rfl (by decide) _ _ _ rfl ((J.alloc _).alloc _) ⟨w.heap.size+1,0,none⟩ 1 1 (ncs [x]) rfl rfl (World.news_of_block (cs:=#[.int .i64 x.k,.int .i64 x.n,.string x.s,.int .i64 x.a,.int .i64 x.b]) (t:=176) (fr:=(0,0)) (cw w _ _)) (Za0 _) (by omega) (by unfold maxLen;omega) (by omega) (by simp;omega) (w.heap.size+2) (by simp) ?_;intro g i m q f A R;have o:m.heap[b]? = some (.cells #[.slice r d.length j] 41 (0,0)):=(f.block b (by simp;omega) (fun e=>Zgs J u (by decide) e.symm)).trans ((cn _ _ (by simp;omega)).trans ((cn _ _ I).trans u));have U:m.cell? ⟨b,0,none⟩=some (.slice r d.length j):=cd m b 0 _ _ _ o;have Q:m.frozen? ⟨b,0,none⟩=false:=cj m b 0 _ _ o)
 all_goals
  have l:m.ownsRow c 176 5 (.slice (some ⟨g,0,none⟩) (d.length+1) i) (d ++ [x]).length (ncs (d ++ [x])):=by
   rw [Zay,List.length_append];exact q
  have L:c <= w.heap.size:=by omega
  have y:Below c w m:=(((cf c w).alloc L _).drew.alloc (by simp;omega) _).grown f (by simp;omega) (fun k E=>(J.lt k E).1);have z:=y.setCell (p:=⟨b,0,none⟩) C (.slice (some ⟨g,0,none⟩) (d.length+1) i);have K:=ownsRow_setCell_other l (a:=⟨b,0,none⟩) (Zgs l o (by decide)) (.slice (some ⟨g,0,none⟩) (d.length+1) i);have B:=ci m b 0 _ _ (.slice (some ⟨g,0,none⟩) (d.length+1) i) o
  have F:∀ k,k < w.heap.size -> k ≠ b -> (Value.slice r d.length j).ownBlock ≠ some k -> (m.setCell ⟨b,0,none⟩ (.slice (some ⟨g,0,none⟩) (d.length+1) i)).heap[k]? = w.heap[k]?:=fun k E G H=>by
   rw [ch m ⟨b,0,none⟩ k _ (fun e=>G e),f.block k (by simp;omega) (fun e=>H e.symm)];exact (cn _ _ (by simp;omega)).trans (cn _ _ E)
  clear q f A D u;go_wp2;go_ret;exact ⟨_,by simp,B,K,z,F⟩
theorem ZlW:(prog.info? 3).map (fun i=>(i.zero,i.size,i.bytes))=some (some (.int .i64 0),1,8):=by kernel_rfl
theorem Zgr {w c:World}{B:Nat}{e:TypeId}{k n:Nat}{v:Value}{d:List Value}(h:w.ownsRow B e k v n d)(l:∀ g,v.ownBlock=some g -> c.heap[g]? = w.heap[g]?):c.ownsRow B e k v n d:=by
 rcases h.2 with ⟨rfl,f⟩ | ⟨g,a,b,rfl,i,j,r⟩
 ·exact ⟨h.1,.inl ⟨rfl,f⟩⟩
 ·exact ⟨h.1,.inr ⟨g,a,b,rfl,i,(l g rfl).trans j,r⟩⟩
theorem Zb0 {w:World}{B:Nat}{e:TypeId}{k n:Nat}{v:Value}{i:List Value}(h:w.ownsRow B e k v n i)(g:Nat)(a:v.ownBlock=some g):∃ c,w.heap[g]? = some (.cells c e (0,0)):=by
 rcases h.2 with ⟨rfl,l⟩ | ⟨j,d,f,rfl,m,b,r⟩
 ·cases a
 ·simp only [Value.ownBlock,Option.some.injEq] at a
  subst a;exact ⟨_,b⟩
def IntoS (w0:World)(b base Q T N:Nat)(pv vt:Value)(L:List Nd)(S2:List Int)(bs:List Bool)(qv:Value)(w:World):Prop :=
 w.heap[b]? = some (.cells #[pv] 41 (0,0))/\w.ownsRow base 176 5 pv L.length (ncs L)/\w.ownsRow T 3 1 (.slice (some ⟨T,0,none⟩) N N) N (iv S2)/\w.ownsRow base 4 1 vt N (vb bs)/\w.heap[Q]? = some (.cells #[qv] 41 (0,0))/\Below base w0 w
theorem IntoS.below {k:World}{b a Q T N:Nat}{f i:Value}{L:List Nd}{d:List Int}{e:List Bool}{g:Value}{w j:World}(h:IntoS k b a Q T N f i L d e g w)(l:a <= w.heap.size)(c:Below w.heap.size w j):IntoS k b a Q T N f i L d e g j :=
 ⟨(c.block b (Array.getElem?_eq_some_iff.1 h.1).1).trans h.1,Zac h.2.1 c,Zac h.2.2.1 c,Zac h.2.2.2.1 c,(c.block Q (Array.getElem?_eq_some_iff.1 h.2.2.2.2.1).1).trans h.2.2.2.2.1,h.2.2.2.2.2.trans (c.mono l)⟩
theorem Zjq {J:World}{b d Q T N:Nat}{z:Option Addr}{B:Nat}{I:Value}{L:List Nd}{x:List Int}{A:List Bool}{H:Value}{w:World}(y:Nd)(h:IntoS J b d Q T N (.slice z L.length B) I L x A H w)(M:L.length <= 2097152)(q:d <= b)(p:b ≠ Q) :
  Calls prog 175 #[.pointer (some ⟨b,0,none⟩),.agg #[.int .i64 y.k,.int .i64 y.n,.string y.s,.int .i64 y.a,.int .i64 y.b]] w fun e v=>∃ u,e=.returned (.int .i64 L.length)/\IntoS J b d Q T N u I (L ++ [y]) x A H v:=by
 obtain ⟨l,C,D,E,F,K⟩:=h;refine (ZiB b d z B L y w l C M q).mono ?_;rintro e v ⟨u,rfl,o,r,m,O⟩;have f:∀ (t:TypeId) (c:Array Value) (g:Nat),t ≠ 176 -> g ≠ b -> w.heap[g]? = some (.cells c t (0,0)) -> v.heap[g]? = w.heap[g]?:=fun t c g P j G=>O g (bl G) j (Zgs C G P)
 refine ⟨u,rfl,o,r,Zgr D (fun g j=>?_),Zgr E (fun g j=>?_),(f _ _ _ (by decide) (Ne.symm p) F).trans F,K.trans m⟩
 ·obtain ⟨c,i⟩:=Zb0 D g j
  refine f _ _ _ (by decide) (fun e=>?_) i;subst e;rw [l] at i;injection i with x1;injection x1 with _ x2 _;exact absurd x2 (by decide)
 ·obtain ⟨c,i⟩:=Zb0 E g j
  refine f _ _ _ (by decide) (fun e=>?_) i;subst e;rw [l] at i;injection i with x1;injection x1 with _ x2 _;exact absurd x2 (by decide)
theorem IntoS.put {x:World}{b a Q T N:Nat}{t v:Value}{L:List Nd}{l:List Int}{m:List Bool}{u:Value}{w:World}(h:IntoS x b a Q T N t v L l m u w)(k:Nat)(z:Int)(D:a <= T)(i:b ≠ T)(f:Q ≠ T):IntoS x b a Q T N t v L (l.set k z) m u (w.setCell ⟨T,k,none⟩ (.int .i64 z)):=by
 obtain ⟨A,n,o,q,B,C⟩:=h;obtain ⟨c,r⟩:=Zb0 o T rfl;have s:=(o.stored k (.int .i64 z)).1;rw [ZkZ] at s;refine ⟨(Below.heap_setCell _ _ _ _ i).trans A,Zgr n (fun g j=>Below.heap_setCell _ _ _ _ (fun e=>?_)),s,Zgr q (fun g j=>Below.heap_setCell _ _ _ _ (fun e=>?_)),(Below.heap_setCell _ _ _ _ f).trans B,C.setCell (p:=⟨T,k,none⟩) D _⟩
 ·obtain ⟨y,d⟩:=Zb0 n g j
  simp only at e;rw [e,r] at d;injection d with x1;injection x1 with _ x2 _;exact absurd x2 (by decide)
 ·obtain ⟨y,d⟩:=Zb0 q g j
  simp only at e;rw [e,r] at d;injection d with x1;injection x1 with _ x2 _;exact absurd x2 (by decide)
theorem ZiE (b f:Nat)(ap:Option Addr)(cp:Nat)(l d:List Nd)(u:List Bool)(S:Option Addr)(v:Nat)(vt:Value)(w0 w:World)(hb:w.heap[b]? = some (.cells #[.slice ap l.length cp] 41 (0,0)))(ho:w.ownsRow f 176 5 (.slice ap l.length cp) l.length (ncs l))(ai:f <= b)(R:NRow w0 (.slice S d.length v) d)(aS:w0.heap.size <= f)(h0:Below f w0 w)(C:w.ownsRow f 4 1 vt d.length (vb u))(aO:u.length=d.length)(hp:Zap d=true)(aR:l.length <= 3001) :
  Calls prog 167 #[.pointer (some ⟨b,0,none⟩),.agg #[.slice S d.length v],vt] w fun e w'=>∃ v' vp,e=.returned v'/\w'.heap[b]? = some (.cells #[vp] 41 (0,0))/\w'.ownsRow f 176 5 vp (l ++ (Zbz l.length d u).1).length (ncs (l ++ (Zbz l.length d u).1))/\w'.ownsRow f 3 1 v' d.length (iv (Zbz l.length d u).2)/\Below f w0 w':=by
 have aG:=Za1 hp;obtain ⟨i0,hi,aA,aB,aC⟩:=info_parts ZlW;have D:i0.bytes * d.length <= 281474976710656:=by rw [aC];omega
 have N:d.length <= maxLen:=by unfold maxLen;omega
 have av:=(bl hb);have ag:Below w.heap.size w (w.alloc (Obj.cells #[.slice S d.length v] 41)):=(cf _ _).alloc (ce _) _;have ak:=cg w (Obj.cells #[.slice S d.length v] 41);obtain ⟨ac,qt,rfl⟩:=Zad C
 go_enter func167,ntmps167
 go_wp2_with (at_make;refine wpList_make_full _ rfl _ _ 211 rfl (w.heap.size+1) 3 i0 (.int .i64 0) 1 underlying211 hi aA aB _ _ _ _ d.length rfl rfl rfl rfl D N (by simp) ?_)
 intro w1 P B;have H:Below w.heap.size w w1:=ag.grown B (by simp) (by intro k hk;cases hk)
 have X:IntoS w0 b f w.heap.size (w.heap.size+1) d.length (.slice ap l.length cp) (.slice ac d.length qt) l (List.replicate d.length 0) u (.slice S d.length v) w1:=by
  refine ⟨(H.block b av).trans hb,Zac ho H,?_,Zac C H,(B.block _ (by simp) (by simp)).trans ak,h0.trans (H.mono (by omega))⟩;have e:iv (List.replicate d.length 0)=(madeCells #[Value.int .i64 0] d.length).toList:=by rw [toList_madeCells_one];simp [iv]
  rw [e]
  simpa using P
 have HA:Hid (Zbz l.length d u=(its (d.drop 0) u 0).foldl (mvS l.length) ([],List.replicate d.length 0)):=rfl;clear B P D N ag ak hb ho C h0;go_wp2_with fail
 go_loopw [8] (fun i wr=>∃ (k:Nat) (p:List Nd) (m:List Int) (T:Option Addr) (U:Nat),k <= d.length/\i=.int .i64 k/\Hid (Zbz l.length d u=(its (d.drop k) u k).foldl (mvS l.length) (p,m))/\p.length <= k/\m.length=d.length/\w.heap.size+1 < wr.heap.size/\IntoS w0 b f w.heap.size (w.heap.size+1) d.length (.slice T (l ++ p).length U) (.slice ac d.length qt) (l ++ p) m u (.slice S d.length v) wr) (fun i _=>d.length - (intOf i).toNat)
 case atStart=>exact ⟨0,[],List.replicate d.length 0,ap,cp,by omega,rfl,HA,by simp,by simp,(X.2.2.1.lt _ rfl).2,by rw [List.append_nil];exact X⟩
 case round =>
  clear X HA H;obtain ⟨k,p,m,T,U,hk,rfl,HM,aP,I,an,hS⟩:=hrel;have am:=hS;obtain ⟨hb,ho,aa,C,hq,h0⟩:=am;have cq:wr.cell? ⟨w.heap.size,0,none⟩=some (.slice S d.length v):=by rw [cd wr _ 0 _ _ _ hq];rfl
  by_cases ay:k < d.length
  ·obtain ⟨aJ,aD,e',_,_,hz,t⟩:=R
   simp only [Value.slice.injEq,true_and] at e';obtain ⟨rfl,rfl⟩:=e';obtain ⟨g,o,rfl,hg,t⟩:=t (by intro e;subst e;simp at ay);obtain ⟨x,hx⟩:∃ x,d[k]? = some x:=⟨d[k],by simp⟩;obtain ⟨c0,c1,c2,c3,c4⟩:=(t k x hx).below h0 (by omega);have L:=ZbL hp hx;have HI:=ZkY d u k x hx;rcases C.2 with ⟨aI,aQ⟩ | ⟨gt,aE,aF,et,aN,aw,_⟩
   ·omega
   simp only [Value.slice.injEq,true_and] at et;obtain ⟨rfl,rfl⟩:=et;have e0:=C.cellAt k (by omega);rw [Zcc _ _ (by omega)] at e0;cases aj:u.getD k false with
   | false =>
    rw [aj] at e0 HI;have q:Hid (Zbz l.length d u=(its (d.drop (k+1)) u (k+1)).foldl (mvS l.length) (p,m)):=by unfold Hid;rw [HM.out,HI];rfl
    clear HM HI t hx L;go_wp2_with fail
    go_roundw
    case rel=>exact ⟨k+1,p,m,T,U,by omega,by go_num,q,by omega,I,an,hS⟩
    case measure=>simp [intOf];omega
   | true =>
    rw [aj] at e0 HI;have az:f <= wr.heap.size:=Nat.le_trans ai (Nat.le_of_lt (bl hb));have au:b ≠ w.heap.size:=by omega
    have M:∀ (y:Nd) (Wc:World),Below wr.heap.size wr Wc -> Calls prog 175 #[.pointer (some ⟨b,0,none⟩),.agg #[.int .i64 y.k,.int .i64 y.n,.string y.s,.int .i64 y.a,.int .i64 y.b]] Wc fun e w'=>∃ v',e=.returned (.int .i64 (l ++ p).length)/\IntoS w0 b f w.heap.size (w.heap.size+1) d.length v' (.slice (some ⟨gt,0,none⟩) d.length qt) ((l ++ p) ++ [y]) m u (.slice (some ⟨g,o,none⟩) d.length v) w':=fun y Wc hc=>Zjq y (hS.below az hc) (by simp;omega) ai au
    have q:Hid (Zbz l.length d u=(its (d.drop (k+1)) u (k+1)).foldl (mvS l.length) (p ++ [nrm m x],m.set k ((l.length+p.length:Nat):Int))):=by unfold Hid;rw [HM.out,HI];rfl
    have F:=fun (j:Nat) (hj:j < d.length)=>(aa.cellAt j (by omega)).trans (ZdC m j (by omega))
    have z:=Zdy x.k;have hA:hasA x.k=true -> 0 <= x.a/\x.a < (k:Int):=fun h=>ZbX L h
    have K:hasB x.k=true -> 0 <= x.b/\x.b < (k:Int):=fun h=>ZbY L h
    have aH:w.heap.size+1 ≠ wr.heap.size:=by omega
    clear HM HI t hx L hS ho aa C aw
    by_cases W:x.k=5
    ·have ad:=z.1.2 (Or.inl W)
     have ae:=z.2.2 W;obtain ⟨Y,Z⟩:=hA ad;obtain ⟨na,J⟩:=cu Y;obtain ⟨aq,ar⟩:=K ae;obtain ⟨ab,O⟩:=cu aq;have ea:=F na (by omega);have eb:=F ab (by omega);have G:Hid (nrm m x=⟨x.k,x.n,x.s,m.getD na 0,m.getD ab 0⟩):=by unfold Hid nrm;rw [ad,ae,J,O];rfl
     rw [G.out,W] at q;rw [W] at c0;rw [J] at c3 Z;rw [O] at c4 ar;generalize m.getD na 0=V at *;generalize m.getD ab 0=fb at *;clear hA K z F;go_wp2_with fail;refine (M ⟨5,x.n,x.s,V,fb⟩ _ ?_).mono ?_
     ·first | exact (cf wr.heap.size wr).alloc (ce _) _ | exact ((cf wr.heap.size wr).alloc (ce _) _).setCell (ce _) _ | exact (((cf wr.heap.size wr).alloc (ce _) _).setCell (ce _) _).setCell (ce _) _
     rintro e w6 ⟨v6,rfl,c⟩;obtain ⟨Q,q6,rfl⟩:=Zad c.2.1;have A:=(c.2.2.1.lt _ rfl).2;have e6:=(c.2.2.1.cellAt k (by omega)).trans (ZdC m k (by omega));have f6:=c.2.2.1.frozenAt k;have r:=c.put k ((l.length+p.length:Nat):Int) (by omega) (by omega) (by omega);rw [List.append_assoc] at r;clear c M;go_wp2_with fail
     go_roundw
     case rel=>exact ⟨k+1,p ++ [⟨5,x.n,x.s,V,fb⟩],m.set k ((l.length+p.length:Nat):Int),Q,q6,by omega,by go_num,q,by simp;omega,by simpa using I,by simpa [World.setCell] using A,by simpa using r⟩
     case measure=>simp [intOf];omega
    have aK:(x.k == 5)=false:=by simp [W]
    have ah:hasB x.k=false:=by cases h:hasB x.k with | false=>rfl | true=>exact absurd (z.2.1 h) W
    by_cases E:x.k=6 \/ x.k=7
    ·have af:=z.1.2 (Or.inr E)
     obtain ⟨Y,Z⟩:=hA af;obtain ⟨na,J⟩:=cu Y;have ea:=F na (by omega);have G:Hid (nrm m x=⟨x.k,x.n,x.s,m.getD na 0,x.b⟩):=by unfold Hid nrm;rw [af,ah,J];rfl
     rw [G.out] at q;rw [J] at c3 Z;generalize m.getD na 0=V at *;clear hA K z F;rcases E with h6 | h6
     ·rw [h6] at c0 q
      go_wp2_with fail;refine (M ⟨6,x.n,x.s,V,x.b⟩ _ ?_).mono ?_
      ·first | exact (cf wr.heap.size wr).alloc (ce _) _ | exact ((cf wr.heap.size wr).alloc (ce _) _).setCell (ce _) _ | exact (((cf wr.heap.size wr).alloc (ce _) _).setCell (ce _) _).setCell (ce _) _
      rintro e w6 ⟨v6,rfl,c⟩;obtain ⟨Q,q6,rfl⟩:=Zad c.2.1;have A:=(c.2.2.1.lt _ rfl).2;have e6:=(c.2.2.1.cellAt k (by omega)).trans (ZdC m k (by omega));have f6:=c.2.2.1.frozenAt k;have r:=c.put k ((l.length+p.length:Nat):Int) (by omega) (by omega) (by omega);rw [List.append_assoc] at r;clear c M;go_wp2_with fail
      go_roundw
      case rel=>exact ⟨k+1,p ++ [⟨6,x.n,x.s,V,x.b⟩],m.set k ((l.length+p.length:Nat):Int),Q,q6,by omega,by go_num,q,by simp;omega,by simpa using I,by simpa [World.setCell] using A,by simpa using r⟩
      case measure=>simp [intOf];omega
     ·rw [h6] at c0 q
      go_wp2_with fail;refine (M ⟨7,x.n,x.s,V,x.b⟩ _ ?_).mono ?_
      ·first | exact (cf wr.heap.size wr).alloc (ce _) _ | exact ((cf wr.heap.size wr).alloc (ce _) _).setCell (ce _) _ | exact (((cf wr.heap.size wr).alloc (ce _) _).setCell (ce _) _).setCell (ce _) _
      rintro e w6 ⟨v6,rfl,c⟩;obtain ⟨Q,q6,rfl⟩:=Zad c.2.1;have A:=(c.2.2.1.lt _ rfl).2;have e6:=(c.2.2.1.cellAt k (by omega)).trans (ZdC m k (by omega));have f6:=c.2.2.1.frozenAt k;have r:=c.put k ((l.length+p.length:Nat):Int) (by omega) (by omega) (by omega);rw [List.append_assoc] at r;clear c M;go_wp2_with fail
      go_roundw
      case rel=>exact ⟨k+1,p ++ [⟨7,x.n,x.s,V,x.b⟩],m.set k ((l.length+p.length:Nat):Int),Q,q6,by omega,by go_num,q,by simp;omega,by simpa using I,by simpa [World.setCell] using A,by simpa using r⟩
      case measure=>simp [intOf];omega
    ·have aL:(x.k == 6)=false:=by simp;intro e;exact E (Or.inl e)
     have aM:(x.k == 7)=false:=by simp;intro e;exact E (Or.inr e)
     have al:hasA x.k=false:=by cases h:hasA x.k with | false=>rfl | true=>rcases z.1.1 h with e | e | e;exact absurd e W;exact absurd (Or.inl e) E;exact absurd (Or.inr e) E
     have G:Hid (nrm m x=⟨x.k,x.n,x.s,x.a,x.b⟩):=by unfold Hid nrm;rw [al,ah];rfl
     rw [G.out] at q;clear hA K z F;go_wp2_with fail;refine (M ⟨x.k,x.n,x.s,x.a,x.b⟩ _ ?_).mono ?_
     ·first | exact (cf wr.heap.size wr).alloc (ce _) _ | exact ((cf wr.heap.size wr).alloc (ce _) _).setCell (ce _) _
     rintro e w6 ⟨v6,rfl,c⟩;obtain ⟨Q,q6,rfl⟩:=Zad c.2.1;have A:=(c.2.2.1.lt _ rfl).2;have e6:=(c.2.2.1.cellAt k (by omega)).trans (ZdC m k (by omega));have f6:=c.2.2.1.frozenAt k;have r:=c.put k ((l.length+p.length:Nat):Int) (by omega) (by omega) (by omega);rw [List.append_assoc] at r;clear c M;go_wp2_with fail
     go_roundw
     case rel=>exact ⟨k+1,p ++ [⟨x.k,x.n,x.s,x.a,x.b⟩],m.set k ((l.length+p.length:Nat):Int),Q,q6,by omega,by go_num,q,by simp;omega,by simpa using I,by simpa [World.setCell] using A,by simpa using r⟩
     case measure=>simp [intOf];omega
  ·have ax:k=d.length:=by omega
   subst ax;have HE:Hid (Zbz l.length d u=(p,m)):=by unfold Hid;rw [HM.out,Zkq];rfl
   go_wp2_with fail;go_ret;rw [HE.out];exact ⟨_,_,rfl,hb,ho,Zae aa (by omega),h0⟩
def ZlA (xs:List Nd)(rs:List Int):List Nd:=if Zap xs && allI xs rs then mvN 0 xs rs else []
def ZlB (xs:List Nd)(rs:List Int):List Int:=if Zap xs && allI xs rs then mvR 0 xs rs rs else []
theorem ZhS {w a:World}(h:Below w.drew.heap.size w.drew a):Below w.heap.size w a:=(cf w.heap.size w).drew.trans h
theorem Zhu (f:Option Addr)(c:Nat)(vl:Value)(b:List Nd)(rs:List Int)(w:World)(R:NRow w (.slice f b.length c) b)(L:IRow w vl rs)(hp:Zap b=true)(hr:allI b rs=true)(aA:rs.length <= 1048576) :
    Calls prog 159 #[.agg #[.slice f b.length c],vl] w fun e w'=>∃ v1 v2,e=.returned (.tuple #[.agg #[v1],v2])/\w'.ownsRow w.heap.size 176 5 v1 (mvN 0 b rs).length (ncs (mvN 0 b rs))/\w'.ownsRow w.heap.size 3 1 v2 rs.length (iv (mvR 0 b rs rs))/\Below w.heap.size w w':=by
  obtain ⟨i0,hi,ak,am,an⟩:=info_parts ZlW;have av:=Za1 hp;have B:Below w.heap.size w ((w.alloc (Obj.cells #[.slice f b.length c] 41)).alloc (Obj.cells #[.slice none 0 0] 41)):=ZkM w _ _;have Y:((w.alloc (Obj.cells #[.slice f b.length c] 41)).alloc (Obj.cells #[.slice none 0 0] 41)).heap.size=w.heap.size+1+1:=by simp
  have K:=old2 w (Obj.cells #[.slice f b.length c] 41) (Obj.cells #[.slice none 0 0] 41);have Z:=cw w (Obj.cells #[.slice f b.length c] 41) (Obj.cells #[.slice none 0 0] 41);have X:=Za2 b rs
  go_enter func159,ntmps159
  go_wp2_with fail;have I:=cg ((w.alloc (Obj.cells #[.slice f b.length c] 41)).alloc (Obj.cells #[.slice none 0 0] 41)) (Obj.cells #[.slice none 0 0] 41);have A:Below (w.heap.size+1+1) ((w.alloc (Obj.cells #[.slice f b.length c] 41)).alloc (Obj.cells #[.slice none 0 0] 41)) (((w.alloc (Obj.cells #[.slice f b.length c] 41)).alloc (Obj.cells #[.slice none 0 0] 41)).alloc (Obj.cells #[.slice none 0 0] 41)):=(cf _ _).alloc (by rw [Y];exact ce _) _;have aB:(((w.alloc (Obj.cells #[.slice f b.length c] 41)).alloc (Obj.cells #[.slice none 0 0] 41)).alloc (Obj.cells #[.slice none 0 0] 41)).heap.size=w.heap.size+1+1+1:=by simp
  rw [Y] at I;generalize ((w.alloc (Obj.cells #[.slice f b.length c] 41)).alloc (Obj.cells #[.slice none 0 0] 41)).alloc (Obj.cells #[.slice none 0 0] 41)=P at *;generalize (w.alloc (Obj.cells #[.slice f b.length c] 41)).alloc (Obj.cells #[.slice none 0 0] 41)=W2 at *;have H:=B.trans (A.mono (by omega));have R2:=R.below B;have k3:P.cell? ⟨w.heap.size,0,none⟩=some (.slice f b.length c):=by rw [cd P _ 0 _ _ _ ((A.block _ (by omega)).trans K)];rfl
  have ag:w.heap.size < P.heap.size:=by omega
  go_region_held (fun w'=>w'.cell? ⟨w.heap.size,0,none⟩=some (.slice f b.length c)) (first | exact k5 | exact k4 | go_keep) (first
    | (go_at_call 168;refine (Zf3 f c vl b rs _ ?_ ?_ hp hr).mono ?_;exact R.below H.drew;exact L.below H.drew;rintro e wk ⟨vk,rfl,J,U⟩;obtain ⟨ax,ar,rfl⟩:=Zad J
       have q:Below P.heap.size P wk:=ZhS U
       have k4:=(q.cell (p:=⟨w.heap.size,0,none⟩) ag).trans k3)
    | (go_at_call 167;refine (ZiE (w.heap.size+1+1) (w.heap.size+1+1) none 0 [] b (Zat b rs) f c _ W2 _ ((q.block _ (by omega)).trans I) (World.ownsRow_nil _ _ _ _) (ce _) R2 (by omega) (A.trans (q.mono (by omega))) (Zae J (by show w.heap.size+1+1 <= P.heap.size;omega)) X hp (by simp)).mono ?_;rintro e n ⟨v5,vp,rfl,T,v,t,C⟩;obtain ⟨a5,q5,rfl⟩:=Zad t
       have k5:n.cell? ⟨w.heap.size,0,none⟩=some (.slice f b.length c):=by rw [cd n _ 0 _ _ _ ((C.block _ (by omega)).trans K)];rfl))
  have HN:Hid (mvN 0 b rs=(Zbz 0 b (Zat b rs)).1):=rfl;have HR:Hid (mvR 0 b rs rs=rs.map (fun r=>(Zbz 0 b (Zat b rs)).2.getD r.toNat 0)):=rfl;have af:(Zbz 0 b (Zat b rs)).2.length=b.length:=(Zc6 _ _ _).2;rw [List.nil_append] at v;rw [show ([]:List Nd).length=0 from rfl] at v t;generalize Zbz 0 b (Zat b rs)=M at *;obtain ⟨S1,O⟩:=M;simp only at af v t HN HR;obtain ⟨ap,qp,rfl⟩:=Zad v;have D:=B.trans (C.mono (by omega));have aj:=(C.block (w.heap.size+1) (by omega)).trans Z;have W:=(bl T);obtain ⟨al,cl,rfl,ay,_,E⟩:=L;have S:Below n.heap.size n (n.alloc (Obj.cells #[] 3)):=(cf _ _).alloc (ce _) _;have V:=Zbo n 3 1 n.heap.size (ce _);clear k5 k4 J U q k3 I A K Z H C R2 R B X;go_wp2_with fail
  go_loopw [8,9] (fun s i wr=>∃ (j:Nat),j <= rs.length/\i=.int .i64 j/\wr.ownsRow n.heap.size 3 1 s j (iv ((rs.take j).map (fun r=>O.getD r.toNat 0)))/\Below n.heap.size n wr) (fun _ i _=>rs.length - (intOf i).toNat)
  case atStart=>exact ⟨0,by omega,rfl,V,S⟩
  case round =>
    clear V S;obtain ⟨j,hj,rfl,d,m⟩:=hrel
    by_cases u:j < rs.length
    · obtain ⟨g,o,rfl,hg,E⟩:=E (by intro e;subst e;simp at u)
      have ez:=(m.cell (p:=⟨g,o+j,none⟩) (cm hg D.size)).trans ((D.cell (p:=⟨g,o+j,none⟩) hg).trans (E j u));obtain ⟨z0,z1⟩:=Zfz hr j u
      have HT:Hid (iv ((rs.take (j+1)).map (fun r=>O.getD r.toNat 0))=iv ((rs.take j).map (fun r=>O.getD r.toNat 0)) ++ [.int .i64 (O.getD (rs.getD j 0).toNat 0)]):=by
        unfold Hid;rw [List.take_succ_eq_append_getElem u,List.map_append,Zic,List.getD_eq_getElem?_getD (l:=rs),List.getElem?_eq_getElem u];rfl
      generalize rs.getD j 0=z at ez z0 z1 HT;obtain ⟨nz,rfl⟩:=cu z0;rw [Int.toNat_natCast] at HT;rcases t.2 with ⟨aw,az⟩ | ⟨g5,aq,au,e5,_,_,_⟩
      · omega
      simp only [Value.slice.injEq,true_and] at e5;obtain ⟨rfl,rfl⟩:=e5;have e9:=(m.cell (p:=⟨g5,nz,none⟩) (t.lt _ rfl).2).trans ((t.cellAt nz (by omega)).trans (ZdC _ _ (by omega)));generalize O.getD nz 0=y at e9 HT;obtain ⟨Q,aa,rfl⟩:=Zad d;clear E hr;have ai:=m.size
      go_wp2_with (at_builtin;refine wpList_append_own _ rfl _ _ 211 rfl n.heap.size 3 i0 (.int .i64 0) 1 8 underlying211 hi ak am an rfl (by decide) _ _ _ rfl (d.alloc _) ⟨wr.heap.size,0,none⟩ 1 1 [.int .i64 y] rfl rfl (cell_one_new _ _ _) (by simp [Value.oneCell']) (by unfold maxLen;omega) (by omega) (by simp;omega) ?_)
      intro v7 w8 x G _;have ab:Below n.heap.size n w8:=(m.alloc ai _).grown G (by simp;omega) (fun k hk=>(d.lt k hk).1);have F:w8.ownsRow n.heap.size 3 1 v7 (j+1) (iv ((rs.take (j+1)).map (fun r=>O.getD r.toNat 0))):=by rw [HT.out];simpa only [List.map_take,List.getD_eq_getElem?_getD] using x
      clear G x;go_wp2_with fail
      go_roundw
      case rel=>exact ⟨j+1,by omega,by go_num,F,ab⟩
      case measure=>simp [intOf];omega
    · have ae:j=rs.length:=by omega
      subst ae;have ad:=(m.block _ W).trans T;have N:=(m.block _ (by omega)).trans aj;have c6:wr.cell? ⟨w.heap.size+1+1,0,none⟩=some (.slice ap S1.length qp):=by rw [cd wr _ 0 _ _ _ ad];rfl
      have c4:wr.cell? ⟨w.heap.size+1,0,none⟩=some (.slice none 0 0):=by rw [cd wr _ 0 _ _ _ N];rfl
      have f4:wr.frozen? ⟨w.heap.size+1,0,none⟩=false:=cj wr _ 0 _ _ N;have ah:=Zac v m;rw [List.take_length,<- HR.out] at d;obtain ⟨Q,aa,rfl⟩:=Zad d;have ac:=D.trans (m.mono D.size);obtain ⟨p1,p2,p3⟩:=ZjC N ah ac (by omega) (by omega);have p4:=Zae (B':=w.heap.size) (cx d (a:=⟨w.heap.size+1,0,none⟩) (by show w.heap.size+1 < n.heap.size;omega) (.slice ap S1.length qp)) (by omega);go_wp2_with fail;refine ck (Zah rfl _ _ (w.heap.size+1) 41 _ (0,0) _ rfl p1 underlying41 rfl Zmf) rfl ⟨_,.slice Q rs.length aa,rfl,?_,p4,p3⟩;rw [HN.out];exact p2
def vpB (xs:List Nd)(v:Int):Bool:=Zap xs && hasI xs v
def vpR (xs:List Nd)(v:Int):ByteArray:=if vpB xs v then strOfNums (Zcu (mvN 0 xs [v])) else ByteArray.empty
theorem Zhw (v:Value)(b:List Nd)(a:Int)(w:World)(R:NRow w v b) :
  Calls prog 139 #[.agg #[v],.int .i64 a] w fun e T=>e=.returned (.tuple #[.string (vpR b a),.bool (vpB b a)])/\Below w.heap.size w T:=by
 have I:=R;obtain ⟨r,d,rfl,_⟩:=I;have g:Below w.heap.size w (w.alloc (Obj.cells #[.slice r b.length d] 41)):=(cf _ _).alloc (ce _) _
 go_enter func139,ntmps139
 go_wp2_with fail;refine (Zct _ b _ (R.below g)).mono ?_;rintro e F ⟨rfl,m⟩;have o:F.heap[w.heap.size]? = some (.cells #[.slice r b.length d] 41 (0,0)):=(m.block _ (by simp)).trans (cg _ _);have f:=g.trans (m.mono g.size);have M:F.cell? ⟨w.heap.size,0,none⟩=some (.slice r b.length d):=cd F _ 0 _ _ _ o;clear g m;cases z:Zap b with
 | false =>
  have k:Hid (vpB b a=false):=by unfold Hid vpB;rw [z];rfl
  have q:Hid (vpR b a=ByteArray.empty):=by unfold Hid vpR;rw [k.out];rfl
  go_wp2
  go_ret2
  exact ⟨by rw [k.out,q.out];rfl,f⟩
 | true =>
  have H:=Zhl z;go_wp2_with fail;refine (ZjR _ b a _ (R.below f)).mono ?_;rintro e p ⟨rfl,n⟩;have A:=(bb o n);have c:=f.trans (n.mono f.size);have N:p.cell? ⟨w.heap.size,0,none⟩=some (.slice r b.length d):=cd p _ 0 _ _ _ A;clear f n o M;cases E:hasI b a with
  | false =>
   have k:Hid (vpB b a=false):=by unfold Hid vpB;rw [E,Bool.and_false]
   have q:Hid (vpR b a=ByteArray.empty):=by unfold Hid vpR;rw [k.out];rfl
   go_wp2
   go_ret2
   exact ⟨by rw [k.out,q.out];rfl,c⟩
  | true =>
   have k:Hid (vpB b a=true):=by unfold Hid vpB;rw [E,z];rfl
   have q:Hid (vpR b a=strOfNums (Zcu (mvN 0 b [a]))):=by unfold Hid vpR;rw [k.out];rfl
   have s:allI b [a]=true:=by simp [allI,E]
   have P:=Zij 0 b [a];have y:=Zjv 0 b [a] z (by omega);have i:Below p.heap.size p (p.alloc (Obj.cells #[.int .i64 a] 3)):=(cf _ _).alloc (ce _) _;go_wp2_with fail;refine (Zhu r d _ b [a] _ (R.below (c.trans (i.mono c.size))) (Zgo (cg p _)) z s (by simp)).mono ?_;rintro e G ⟨U,V,rfl,u,_,t⟩;have j:=(c.trans (i.mono c.size)).trans (t.mono (c.trans (i.mono c.size)).size);clear c i t A N;generalize mvN 0 b [a]=B at *;obtain ⟨K,Q,rfl⟩:=Zad u;have l:Below G.heap.size G (G.alloc (Obj.cells #[.slice K B.length Q] 41)):=(cf _ _).alloc (ce _) _;have J:=NRow.of_own u (by omega) (Zed y);go_wp2_with fail;refine (Zf7 _ B _ (J.below l) y (by omega)).mono ?_;rintro e X ⟨W,rfl,x,D⟩;obtain ⟨L,S,rfl⟩:=Zad x;have C:=(j.trans (l.mono j.size)).trans (D.mono (j.trans (l.mono j.size)).size);have O:=ZjB x
   go_wp2_with (refine ZbE _ rfl _ 144 9 5 rfl underlying144 underlying9 underlying5 L (Zcu B).length S (Zcu B) rfl rfl O ?_)
   go_ret2
   exact ⟨by rw [k.out,q.out];rfl,C⟩
end Go.Proofs.YtanhoamdlhaaeaaGreatDoor
