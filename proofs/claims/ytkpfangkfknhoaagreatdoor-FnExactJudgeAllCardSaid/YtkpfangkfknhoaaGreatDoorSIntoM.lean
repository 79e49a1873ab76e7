/-
  Texts that stood by themselves, laid into one.
-/
import Derived.Test.YtkpfangkfknhoaaGreatDoorSAddM
import Derived.Test.YtkpfangkfknhoaaGreatDoorMach2M
import Derived.Test.YtkpfangkfknhoaaGreatDoorVMoveM
import Derived.Test.YtkpfangkfknhoaaGreatDoorNumberM
import Derived.OneCell
import Derived.Test.YtkpfangkfknhoaaGreatDoorMcTM
import Derived.Test.YtkpfangkfknhoaaGreatDoorShapeM
import Derived.Test.YtkpfangkfknhoaaGreatDoorMark2M
import Derived.Test.YtkpfangkfknhoaaGreatDoorIWire2M
import Derived.Deep.CutBlock
import Derived.Deep.CutRange
import Derived.Test.YtkpfangkfknhoaaGreatDoorRcWhyM
/-
  Contract of spec's l2List: a list behind the pool that a pointer leads to.
-/
set_option maxRecDepth 100000
set_option maxHeartbeats 3200000
namespace Go.Proofs.YtkpfangkfknhoaaGreatDoor
open Go.Proofs.Tryz
open Go.RowKit
end Go.Proofs.YtkpfangkfknhoaaGreatDoor
namespace Go.Proofs.YtkpfangkfknhoaaGreatDoor
open Go.Proofs.Tryz
open Go.RowKit Go.Maps
def padI (l:List Int)(n:Nat):List Int:=l ++ List.replicate (n - l.length) 0
end Go.Proofs.YtkpfangkfknhoaaGreatDoor
namespace Go.Proofs.YtkpfangkfknhoaaGreatDoor
open Go.Proofs.Tryz
open Go.RowKit
def Znk (xs:List Nd)(k n:Nat):List Int:=Zj9 xs k ++ List.replicate (n - k) 0
theorem Zln (x y:Int)(w:World):Calls prog 147 #[.int .i64 x,.int .i64 y] w fun e b=>e=.returned (.int .i64 (min x y))/\b=w:=by
 by_cases h:x < y
 ·have a:Hid (min x y=x):=by unfold Hid;omega
  go_enter func147,ntmps147
  go_wp2;go_ret;exact ⟨by rw [a.out];rfl,rfl⟩
 ·have a:Hid (min x y=y):=by unfold Hid;omega
  go_enter func147,ntmps147
  go_wp2;go_ret;exact ⟨by rw [a.out];rfl,rfl⟩
theorem Zlo (v:Value)(b:List Nd)(a:Int)(w:World)(R:NRow w v b) :
  Calls prog 143 #[.agg #[v],.int .i64 a] w fun e c=>e=.returned (.bool (hasI b a))/\Below w.heap.size w c:=by
 obtain ⟨h,d,rfl,_,f,_⟩:=R
 go_enter func143,ntmps143
 go_wp2_with fail;refine (Zas _ _ _ _).mono ?_;rintro e g ⟨rfl,rfl⟩;go_wp2;go_ret;refine ⟨retB ?_,(cj _ _).alloc (ce _) _⟩;rw [Bool.eq_iff_iff];simp [hasI];omega
end Go.Proofs.YtkpfangkfknhoaaGreatDoor
namespace Go.Proofs.YtkpfangkfknhoaaGreatDoor
open Go.Proofs.Tryz
open Go.RowKit Go.Maps
def nblk (y:Nd):Obj:=.cells #[.int .i64 y.k,.int .i64 y.n,.string y.s,.int .i64 y.a,.int .i64 y.b] 194 (0,0)
end Go.Proofs.YtkpfangkfknhoaaGreatDoor
namespace Go.Proofs.YtkpfangkfknhoaaGreatDoor
open Go.Proofs.Tryz
open Go.RowKit
theorem ZjM (b base:Nat)(o:Option Addr)(h:Nat)(c:List Nd)(x:Nd)(w:World)(q:w.heap[b]? = some (.cells #[.slice o c.length h] 40 (0,0)))(z:w.ownsRow base 194 5 (.slice o c.length h) c.length (ncs c))(T:c.length <= 2097152)(u:base <= b) :
  Calls prog 218 #[.pointer (some ⟨b,0,none⟩),.agg #[.int .i64 x.k,.int .i64 x.n,.string x.s,.int .i64 x.a,.int .i64 x.b]] w fun e r =>
   ∃ N,e=.returned (.int .i64 c.length)/\r.heap[b]? = some (.cells #[N] 40 (0,0))/\r.ownsRow base 194 5 N (c ++ [x]).length (ncs (c ++ [x]))/\Below base w r/\(∀ k,k < w.heap.size -> k ≠ b -> (Value.slice o c.length h).ownBlock ≠ some k -> r.heap[k]? = w.heap[k]?):=by
 obtain ⟨P,hi,J,L,H⟩:=info_parts Zn1;have D:b < w.heap.size:=(bl q);have C:w.cell? ⟨b,0,none⟩=some (.slice o c.length h):=by rw [cd w b 0 _ _ _ q];rfl
 have O:b ≠ w.heap.size:=by omega
 go_enter func218,ntmps218
 go_wp2_with fail
 go_region_law (refine step_append_lies _ rfl _ _ 38 rfl base 194 P _ 5 48 underlying38 hi J L H rfl (by decide) _ _ _ rfl ((z.alloc _).alloc _) ⟨w.heap.size+1,0,none⟩ 1 1 (ncs [x]) rfl rfl (World.news_of_block (cs:=#[.int .i64 x.k,.int .i64 x.n,.string x.s,.int .i64 x.a,.int .i64 x.b]) (t:=194) (fr:=(0,0)) (cH w _ _)) (Za6 _) (by omega) (by unfold maxLen;omega) (by omega) (by simp;omega) (w.heap.size+2) (by simp) ?_;intro g f j m d E R;have l:j.heap[b]? = some (.cells #[.slice o c.length h] 40 (0,0)):=(d.block b (by simp;omega) (fun e=>ZaI z q (by decide) e.symm)).trans ((cz _ _ (by simp;omega)).trans ((cz _ _ D).trans q));have S:j.cell? ⟨b,0,none⟩=some (.slice o c.length h):=cd j b 0 _ _ _ l;have Q:j.frozen? ⟨b,0,none⟩=false:=cw j b 0 _ _ l)
 all_goals
  have i:j.ownsRow base 194 5 (.slice (some ⟨g,0,none⟩) (c.length+1) f) (c ++ [x]).length (ncs (c ++ [x])):=by
   rw [ZaD,List.length_append];exact m
  have M:base <= w.heap.size:=by omega
  have I:Below base w j:=(((cj base w).alloc M _).drew.alloc (by simp;omega) _).grown d (by simp;omega) (fun k y=>(z.lt k y).1);have K:=I.setCell (p:=⟨b,0,none⟩) u (.slice (some ⟨g,0,none⟩) (c.length+1) f);have B:=ownsRow_setCell_other i (a:=⟨b,0,none⟩) (ZaI i l (by decide)) (.slice (some ⟨g,0,none⟩) (c.length+1) f);have A:=cu j b 0 _ _ (.slice (some ⟨g,0,none⟩) (c.length+1) f) l
  have G:∀ k,k < w.heap.size -> k ≠ b -> (Value.slice o c.length h).ownBlock ≠ some k -> (j.setCell ⟨b,0,none⟩ (.slice (some ⟨g,0,none⟩) (c.length+1) f)).heap[k]? = w.heap[k]?:=fun k y F v=>by
   rw [cr j ⟨b,0,none⟩ k _ (fun e=>F e),d.block k (by simp;omega) (fun e=>v e.symm)];exact (cz _ _ (by simp;omega)).trans (cz _ _ y)
  clear m d E C q;go_wp2;go_ret;exact ⟨_,by simp,A,B,K,G⟩
theorem ZnT:(prog.info? 3).map (fun i=>(i.zero,i.size,i.bytes))=some (some (.int .i64 0),1,8):=by kernel_rfl
theorem ZhI {w b:World}{B:Nat}{e:TypeId}{k n:Nat}{v:Value}{c:List Value}(h:w.ownsRow B e k v n c)(i:∀ g,v.ownBlock=some g -> b.heap[g]? = w.heap[g]?):b.ownsRow B e k v n c:=by
 rcases h.2 with ⟨rfl,f⟩ | ⟨g,a,cur,rfl,d,j,r⟩
 ·exact ⟨h.1,.inl ⟨rfl,f⟩⟩
 ·exact ⟨h.1,.inr ⟨g,a,cur,rfl,d,(i g rfl).trans j,r⟩⟩
theorem Zb5 {w:World}{B:Nat}{e:TypeId}{k n:Nat}{v:Value}{d:List Value}(h:w.ownsRow B e k v n d)(g:Nat)(b:v.ownBlock=some g):∃ c,w.heap[g]? = some (.cells c e (0,0)):=by
 rcases h.2 with ⟨rfl,l⟩ | ⟨i,f,cur,rfl,j,a,r⟩
 ·cases b
 ·simp only [Value.ownBlock,Option.some.injEq] at b
  subst b;exact ⟨_,a⟩
def IntoS (w0:World)(b base Q T N:Nat)(pv vt:Value)(L:List Nd)(S2:List Int)(bs:List Bool)(qv:Value)(w:World):Prop :=
 w.heap[b]? = some (.cells #[pv] 40 (0,0))/\w.ownsRow base 194 5 pv L.length (ncs L)/\w.ownsRow T 3 1 (.slice (some ⟨T,0,none⟩) N N) N (iv S2)/\w.ownsRow base 4 1 vt N (vb bs)/\w.heap[Q]? = some (.cells #[qv] 40 (0,0))/\Below base w0 w
theorem IntoS.below {d:World}{b base Q T N:Nat}{e i:Value}{L:List Nd}{g:List Int}{j:List Bool}{f:Value}{w c:World}(h:IntoS d b base Q T N e i L g j f w)(k:base <= w.heap.size)(a:Below w.heap.size w c):IntoS d b base Q T N e i L g j f c :=
 ⟨(a.block b (Array.getElem?_eq_some_iff.1 h.1).1).trans h.1,Zad h.2.1 a,Zad h.2.2.1 a,Zad h.2.2.2.1 a,(a.block Q (Array.getElem?_eq_some_iff.1 h.2.2.2.2.1).1).trans h.2.2.2.2.1,h.2.2.2.2.2.trans (a.mono k)⟩
theorem ZkI {u:World}{b base Q T N:Nat}{G:Option Addr}{B:Nat}{z:Value}{L:List Nd}{D:List Int}{F:List Bool}{H:Value}{w:World}(y:Nd)(h:IntoS u b base Q T N (.slice G L.length B) z L D F H w)(K:L.length <= 2097152)(i:base <= b)(q:b ≠ Q) :
  Calls prog 218 #[.pointer (some ⟨b,0,none⟩),.agg #[.int .i64 y.k,.int .i64 y.n,.string y.s,.int .i64 y.a,.int .i64 y.b]] w fun e r=>∃ o,e=.returned (.int .i64 L.length)/\IntoS u b base Q T N o z (L ++ [y]) D F H r:=by
 obtain ⟨p,x,C,E,v,M⟩:=h;refine (ZjM b base G B L y w p x K i).mono ?_;rintro e r ⟨o,rfl,j,l,m,J⟩;have keep:∀ (t:TypeId) (c:Array Value) (g:Nat),t ≠ 194 -> g ≠ b -> w.heap[g]? = some (.cells c t (0,0)) -> r.heap[g]? = w.heap[g]?:=fun t c g I f A=>J g (bl A) f (ZaI x A I)
 refine ⟨o,rfl,j,l,ZhI C (fun g f=>?_),ZhI E (fun g f=>?_),(keep _ _ _ (by decide) (Ne.symm q) v).trans v,M.trans m⟩
 ·obtain ⟨c,d⟩:=Zb5 C g f
  refine keep _ _ _ (by decide) (fun e=>?_) d;subst e;rw [p] at d;injection d with x1;injection x1 with _ x2 _;exact absurd x2 (by decide)
 ·obtain ⟨c,d⟩:=Zb5 E g f
  refine keep _ _ _ (by decide) (fun e=>?_) d;subst e;rw [p] at d;injection d with x1;injection x1 with _ x2 _;exact absurd x2 (by decide)
theorem IntoS.put {j:World}{b base Q T N:Nat}{q m:Value}{L:List Nd}{r:List Int}{u:List Bool}{v:Value}{w:World}(h:IntoS j b base Q T N q m L r u v w)(k:Nat)(z:Int)(B:base <= T)(d:b ≠ T)(f:Q ≠ T):IntoS j b base Q T N q m L (r.set k z) u v (w.setCell ⟨T,k,none⟩ (.int .i64 z)):=by
 obtain ⟨A,l,o,s,y,C⟩:=h;obtain ⟨c,t⟩:=Zb5 o T rfl;have n:=(o.stored k (.int .i64 z)).1;rw [ZmL] at n;refine ⟨(Below.heap_setCell _ _ _ _ d).trans A,ZhI l (fun g i=>Below.heap_setCell _ _ _ _ (fun e=>?_)),n,ZhI s (fun g i=>Below.heap_setCell _ _ _ _ (fun e=>?_)),(Below.heap_setCell _ _ _ _ f).trans y,C.setCell (p:=⟨T,k,none⟩) B _⟩
 ·obtain ⟨x,a⟩:=Zb5 l g i
  simp only at e;rw [e,t] at a;injection a with x1;injection x1 with _ x2 _;exact absurd x2 (by decide)
 ·obtain ⟨x,a⟩:=Zb5 s g i
  simp only at e;rw [e,t] at a;injection a with x1;injection x1 with _ x2 _;exact absurd x2 (by decide)
theorem Zka (b base:Nat)(ap:Option Addr)(cp:Nat)(f d:List Nd)(t:List Bool)(S:Option Addr)(v:Nat)(vt:Value)(W w:World)(hb:w.heap[b]? = some (.cells #[.slice ap f.length cp] 40 (0,0)))(ho:w.ownsRow base 194 5 (.slice ap f.length cp) f.length (ncs f))(ae:base <= b)(R:NRow W (.slice S d.length v) d)(aM:W.heap.size <= base)(h0:Below base W w)(z:w.ownsRow base 4 1 vt d.length (vb t))(aU:t.length=d.length)(hp:Zau d=true)(aN:f.length <= 3001) :
  Calls prog 210 #[.pointer (some ⟨b,0,none⟩),.agg #[.slice S d.length v],vt] w fun e w'=>∃ v' vp,e=.returned v'/\w'.heap[b]? = some (.cells #[vp] 40 (0,0))/\w'.ownsRow base 194 5 vp (f ++ (ZbC f.length d t).1).length (ncs (f ++ (ZbC f.length d t).1))/\w'.ownsRow base 3 1 v' d.length (iv (ZbC f.length d t).2)/\Below base W w':=by
 have aF:=ZaK hp;obtain ⟨i0,hi,au,aD,ar⟩:=info_parts ZnT;have C:i0.bytes * d.length <= 281474976710656:=by rw [ar];omega
 have O:d.length <= maxLen:=by unfold maxLen;omega
 have aE:=(bl hb);have am:Below w.heap.size w (w.alloc (Obj.cells #[.slice S d.length v] 40)):=(cj _ _).alloc (ce _) _;have ak:=co w (Obj.cells #[.slice S d.length v] 40);obtain ⟨al,qt,rfl⟩:=Zag z
 go_enter func210,ntmps210
 go_wp2_with (at_make;refine wpList_make_full _ rfl _ _ 124 rfl (w.heap.size+1) 3 i0 (.int .i64 0) 1 underlying124 hi au aD _ _ _ _ d.length rfl rfl rfl rfl C O (by simp) ?_)
 intro w1 N B;have G:Below w.heap.size w w1:=am.grown B (by simp) (by intro k hk;cases hk)
 have V:IntoS W b base w.heap.size (w.heap.size+1) d.length (.slice ap f.length cp) (.slice al d.length qt) f (List.replicate d.length 0) t (.slice S d.length v) w1:=by
  refine ⟨(G.block b aE).trans hb,Zad ho G,?_,Zad z G,(B.block _ (by simp) (by simp)).trans ak,h0.trans (G.mono (by omega))⟩;have e:iv (List.replicate d.length 0)=(madeCells #[Value.int .i64 0] d.length).toList:=by rw [toList_madeCells_one];simp [iv]
  rw [e]
  simpa using N
 have HA:Hid (ZbC f.length d t=(its (d.drop 0) t 0).foldl (mvS f.length) ([],List.replicate d.length 0)):=rfl;clear B N C O am ak hb ho z h0;go_wp2_with fail
 go_loopw [8] (fun i wr=>∃ (k:Nat) (m:List Nd) (l:List Int) (ac:Option Addr) (P:Nat),k <= d.length/\i=.int .i64 k/\Hid (ZbC f.length d t=(its (d.drop k) t k).foldl (mvS f.length) (m,l))/\m.length <= k/\l.length=d.length/\w.heap.size+1 < wr.heap.size/\IntoS W b base w.heap.size (w.heap.size+1) d.length (.slice ac (f ++ m).length P) (.slice al d.length qt) (f ++ m) l t (.slice S d.length v) wr) (fun i _=>d.length - (intOf i).toNat)
 case atStart=>exact ⟨0,[],List.replicate d.length 0,ap,cp,by omega,rfl,HA,by simp,by simp,(V.2.2.1.lt _ rfl).2,by rw [List.append_nil];exact V⟩
 case round =>
  clear V HA G;obtain ⟨k,m,l,ac,P,hk,rfl,HM,aS,F,an,hS⟩:=hrel;have aq:=hS;obtain ⟨hb,ho,aa,z,hq,h0⟩:=aq;have cq:wr.cell? ⟨w.heap.size,0,none⟩=some (.slice S d.length v):=by rw [cd wr _ 0 _ _ _ hq];rfl
  by_cases az:k < d.length
  ·obtain ⟨aO,aI,e',_,_,hz,p⟩:=R
   simp only [Value.slice.injEq,true_and] at e';obtain ⟨rfl,rfl⟩:=e';obtain ⟨g,o,rfl,hg,p⟩:=p (by intro e;subst e;simp at az);obtain ⟨x,hx⟩:∃ x,d[k]? = some x:=⟨d[k],by simp⟩;obtain ⟨c0,c1,c2,c3,c4⟩:=(p k x hx).below h0 (by omega);have J:=Zbe hp hx;have HI:=ZmS d t k x hx;rcases z.2 with ⟨aG,aL⟩ | ⟨gt,aH,aK,et,aR,aC,_⟩
   ·omega
   simp only [Value.slice.injEq,true_and] at et;obtain ⟨rfl,rfl⟩:=et;have e0:=z.cellAt k (by omega);rw [ZcG _ _ (by omega)] at e0;cases aj:t.getD k false with
   | false =>
    rw [aj] at e0 HI;have r:Hid (ZbC f.length d t=(its (d.drop (k+1)) t (k+1)).foldl (mvS f.length) (m,l)):=by unfold Hid;rw [HM.out,HI];rfl
    clear HM HI p hx J;go_wp2_with fail
    go_roundw
    case rel=>exact ⟨k+1,m,l,ac,P,by omega,by go_num,r,by omega,F,an,hS⟩
    case measure=>simp [intOf];omega
   | true =>
    rw [aj] at e0 HI;have aB:base <= wr.heap.size:=Nat.le_trans ae (Nat.le_of_lt (bl hb));have aw:b ≠ w.heap.size:=by omega
    have L:∀ (y:Nd) (Wc:World),Below wr.heap.size wr Wc -> Calls prog 218 #[.pointer (some ⟨b,0,none⟩),.agg #[.int .i64 y.k,.int .i64 y.n,.string y.s,.int .i64 y.a,.int .i64 y.b]] Wc fun e w'=>∃ v',e=.returned (.int .i64 (f ++ m).length)/\IntoS W b base w.heap.size (w.heap.size+1) d.length v' (.slice (some ⟨gt,0,none⟩) d.length qt) ((f ++ m) ++ [y]) l t (.slice (some ⟨g,o,none⟩) d.length v) w':=fun y Wc hc=>ZkI y (hS.below aB hc) (by simp;omega) ae aw
    have r:Hid (ZbC f.length d t=(its (d.drop (k+1)) t (k+1)).foldl (mvS f.length) (m ++ [nrm l x],l.set k ((f.length+m.length:Nat):Int))):=by unfold Hid;rw [HM.out,HI];rfl
    have E:=fun (j:Nat) (hj:j < d.length)=>(aa.cellAt j (by omega)).trans (Zc0 l j (by omega))
    have u:=Zel x.k;have hA:hasA x.k=true -> 0 <= x.a/\x.a < (k:Int):=fun h=>Zcb J h
    have K:hasB x.k=true -> 0 <= x.b/\x.b < (k:Int):=fun h=>Zcf J h
    have aJ:w.heap.size+1 ≠ wr.heap.size:=by omega
    clear HM HI p hx J hS ho aa z aC
    by_cases T:x.k=5
    ·have ai:=u.1.2 (Or.inl T)
     have ah:=u.2.2 T;obtain ⟨Q,ab⟩:=hA ai;obtain ⟨X,H⟩:=cG Q;obtain ⟨aA,ay⟩:=K ah;obtain ⟨ad,M⟩:=cG aA;have ea:=E X (by omega);have eb:=E ad (by omega);have I:Hid (nrm l x=⟨x.k,x.n,x.s,l.getD X 0,l.getD ad 0⟩):=by unfold Hid nrm;rw [ai,ah,H,M];rfl
     rw [I.out,T] at r;rw [T] at c0;rw [H] at c3 ab;rw [M] at c4 ay;generalize l.getD X 0=U at *;generalize l.getD ad 0=fb at *;clear hA K u E;go_wp2_with fail;refine (L ⟨5,x.n,x.s,U,fb⟩ _ ?_).mono ?_
     ·first | exact (cj wr.heap.size wr).alloc (ce _) _ | exact ((cj wr.heap.size wr).alloc (ce _) _).setCell (ce _) _ | exact (((cj wr.heap.size wr).alloc (ce _) _).setCell (ce _) _).setCell (ce _) _
     rintro e w6 ⟨v6,rfl,c⟩;obtain ⟨Y,Z,rfl⟩:=Zag c.2.1;have A:=(c.2.2.1.lt _ rfl).2;have e6:=(c.2.2.1.cellAt k (by omega)).trans (Zc0 l k (by omega));have f6:=c.2.2.1.frozenAt k;have q:=c.put k ((f.length+m.length:Nat):Int) (by omega) (by omega) (by omega);rw [List.append_assoc] at q;clear c L;go_wp2_with fail
     go_roundw
     case rel=>exact ⟨k+1,m ++ [⟨5,x.n,x.s,U,fb⟩],l.set k ((f.length+m.length:Nat):Int),Y,Z,by omega,by go_num,r,by simp;omega,by simpa using F,by simpa [World.setCell] using A,by simpa using q⟩
     case measure=>simp [intOf];omega
    have aQ:(x.k == 5)=false:=by simp [T]
    have ag:hasB x.k=false:=by cases h:hasB x.k with | false=>rfl | true=>exact absurd (u.2.1 h) T
    by_cases D:x.k=6 \/ x.k=7
    ·have af:=u.1.2 (Or.inr D)
     obtain ⟨Q,ab⟩:=hA af;obtain ⟨X,H⟩:=cG Q;have ea:=E X (by omega);have I:Hid (nrm l x=⟨x.k,x.n,x.s,l.getD X 0,x.b⟩):=by unfold Hid nrm;rw [af,ag,H];rfl
     rw [I.out] at r;rw [H] at c3 ab;generalize l.getD X 0=U at *;clear hA K u E;rcases D with h6 | h6
     ·rw [h6] at c0 r
      go_wp2_with fail;refine (L ⟨6,x.n,x.s,U,x.b⟩ _ ?_).mono ?_
      ·first | exact (cj wr.heap.size wr).alloc (ce _) _ | exact ((cj wr.heap.size wr).alloc (ce _) _).setCell (ce _) _ | exact (((cj wr.heap.size wr).alloc (ce _) _).setCell (ce _) _).setCell (ce _) _
      rintro e w6 ⟨v6,rfl,c⟩;obtain ⟨Y,Z,rfl⟩:=Zag c.2.1;have A:=(c.2.2.1.lt _ rfl).2;have e6:=(c.2.2.1.cellAt k (by omega)).trans (Zc0 l k (by omega));have f6:=c.2.2.1.frozenAt k;have q:=c.put k ((f.length+m.length:Nat):Int) (by omega) (by omega) (by omega);rw [List.append_assoc] at q;clear c L;go_wp2_with fail
      go_roundw
      case rel=>exact ⟨k+1,m ++ [⟨6,x.n,x.s,U,x.b⟩],l.set k ((f.length+m.length:Nat):Int),Y,Z,by omega,by go_num,r,by simp;omega,by simpa using F,by simpa [World.setCell] using A,by simpa using q⟩
      case measure=>simp [intOf];omega
     ·rw [h6] at c0 r
      go_wp2_with fail;refine (L ⟨7,x.n,x.s,U,x.b⟩ _ ?_).mono ?_
      ·first | exact (cj wr.heap.size wr).alloc (ce _) _ | exact ((cj wr.heap.size wr).alloc (ce _) _).setCell (ce _) _ | exact (((cj wr.heap.size wr).alloc (ce _) _).setCell (ce _) _).setCell (ce _) _
      rintro e w6 ⟨v6,rfl,c⟩;obtain ⟨Y,Z,rfl⟩:=Zag c.2.1;have A:=(c.2.2.1.lt _ rfl).2;have e6:=(c.2.2.1.cellAt k (by omega)).trans (Zc0 l k (by omega));have f6:=c.2.2.1.frozenAt k;have q:=c.put k ((f.length+m.length:Nat):Int) (by omega) (by omega) (by omega);rw [List.append_assoc] at q;clear c L;go_wp2_with fail
      go_roundw
      case rel=>exact ⟨k+1,m ++ [⟨7,x.n,x.s,U,x.b⟩],l.set k ((f.length+m.length:Nat):Int),Y,Z,by omega,by go_num,r,by simp;omega,by simpa using F,by simpa [World.setCell] using A,by simpa using q⟩
      case measure=>simp [intOf];omega
    ·have aT:(x.k == 6)=false:=by simp;intro e;exact D (Or.inl e)
     have aP:(x.k == 7)=false:=by simp;intro e;exact D (Or.inr e)
     have ax:hasA x.k=false:=by cases h:hasA x.k with | false=>rfl | true=>rcases u.1.1 h with e | e | e;exact absurd e T;exact absurd (Or.inl e) D;exact absurd (Or.inr e) D
     have I:Hid (nrm l x=⟨x.k,x.n,x.s,x.a,x.b⟩):=by unfold Hid nrm;rw [ax,ag];rfl
     rw [I.out] at r;clear hA K u E;go_wp2_with fail;refine (L ⟨x.k,x.n,x.s,x.a,x.b⟩ _ ?_).mono ?_
     ·first | exact (cj wr.heap.size wr).alloc (ce _) _ | exact ((cj wr.heap.size wr).alloc (ce _) _).setCell (ce _) _
     rintro e w6 ⟨v6,rfl,c⟩;obtain ⟨Y,Z,rfl⟩:=Zag c.2.1;have A:=(c.2.2.1.lt _ rfl).2;have e6:=(c.2.2.1.cellAt k (by omega)).trans (Zc0 l k (by omega));have f6:=c.2.2.1.frozenAt k;have q:=c.put k ((f.length+m.length:Nat):Int) (by omega) (by omega) (by omega);rw [List.append_assoc] at q;clear c L;go_wp2_with fail
     go_roundw
     case rel=>exact ⟨k+1,m ++ [⟨x.k,x.n,x.s,x.a,x.b⟩],l.set k ((f.length+m.length:Nat):Int),Y,Z,by omega,by go_num,r,by simp;omega,by simpa using F,by simpa [World.setCell] using A,by simpa using q⟩
     case measure=>simp [intOf];omega
  ·have av:k=d.length:=by omega
   subst av;have HE:Hid (ZbC f.length d t=(m,l)):=by unfold Hid;rw [HM.out,Zme];rfl
   go_wp2_with fail;go_ret;rw [HE.out];exact ⟨_,_,rfl,hb,ho,Zah aa (by omega),h0⟩
end Go.Proofs.YtkpfangkfknhoaaGreatDoor
