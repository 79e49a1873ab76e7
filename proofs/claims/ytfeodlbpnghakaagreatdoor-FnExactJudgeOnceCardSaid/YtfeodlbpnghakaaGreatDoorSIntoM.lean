/-
  Texts that stood by themselves, laid into one.
-/
import Derived.Test.YtfeodlbpnghakaaGreatDoorSAddM
import Derived.Test.YtfeodlbpnghakaaGreatDoorMach2M
import Derived.Test.YtfeodlbpnghakaaGreatDoorVMoveM
import Derived.Test.YtfeodlbpnghakaaGreatDoorNumberM
import Derived.OneCell
import Derived.Test.YtfeodlbpnghakaaGreatDoorMcTM
import Derived.Test.YtfeodlbpnghakaaGreatDoorShapeM
import Derived.Test.YtfeodlbpnghakaaGreatDoorMark2M
import Derived.Test.YtfeodlbpnghakaaGreatDoorIWire2M
import Derived.Deep.CutBlock
import Derived.Deep.CutRange
import Derived.Test.YtfeodlbpnghakaaGreatDoorRcWhyM
/-
  Contract of spec's l2List: a list behind the pool that a pointer leads to.
-/
set_option maxRecDepth 100000
set_option maxHeartbeats 3200000
namespace Go.Proofs.YtfeodlbpnghakaaGreatDoor
open Go.RowKit
end Go.Proofs.YtfeodlbpnghakaaGreatDoor
namespace Go.Proofs.YtfeodlbpnghakaaGreatDoor
open Go.RowKit Go.Maps
def padI (l:List Int)(n:Nat):List Int:=l ++ List.replicate (n - l.length) 0
end Go.Proofs.YtfeodlbpnghakaaGreatDoor
namespace Go.Proofs.YtfeodlbpnghakaaGreatDoor
open Go.RowKit
def ZmE (xs:List Nd)(k n:Nat):List Int:=Zji xs k ++ List.replicate (n - k) 0
theorem ZkZ (x y:Int)(w:World):Calls Tryz.prog 116 #[.int .i64 x,.int .i64 y] w fun e b=>e=.returned (.int .i64 (min x y))/\b=w:=by
 by_cases h:x < y
 ·have a:Hid (min x y=x):=by unfold Hid;omega
  go_enter Tryz.func116,Tryz.ntmps116
  go_wp2
  go_ret
  exact ⟨by rw [a.out];rfl,rfl⟩
 ·have a:Hid (min x y=y):=by unfold Hid;omega
  go_enter Tryz.func116,Tryz.ntmps116
  go_wp2
  go_ret
  exact ⟨by rw [a.out];rfl,rfl⟩
theorem Zj8 (v:Value)(b:List Nd)(a:Int)(w:World)(R:NRow w v b) :
  Calls Tryz.prog 112 #[.agg #[v],.int .i64 a] w fun e d=>e=.returned (.bool (hasI b a))/\Below w.heap.size w d:=by
 obtain ⟨g,c,rfl,_,f,_⟩:=R
 go_enter Tryz.func112,Tryz.ntmps112
 go_wp2_with fail
 refine (Zar _ _ _ _).mono ?_
 rintro e h ⟨rfl,rfl⟩
 go_wp2
 go_ret
 refine ⟨retB ?_,(Below.refl _ _).alloc (Nat.le_refl _) _⟩
 rw [Bool.eq_iff_iff]
 simp [hasI]
 omega
end Go.Proofs.YtfeodlbpnghakaaGreatDoor
namespace Go.Proofs.YtfeodlbpnghakaaGreatDoor
open Go.RowKit Go.Maps
def nblk (y:Nd):Obj:=.cells #[.int .i64 y.k,.int .i64 y.n,.string y.s,.int .i64 y.a,.int .i64 y.b] 194 (0,0)
end Go.Proofs.YtfeodlbpnghakaaGreatDoor
namespace Go.Proofs.YtfeodlbpnghakaaGreatDoor
open Go.RowKit
theorem ZjF (b base:Nat)(o:Option Addr)(h:Nat)(c:List Nd)(x:Nd)(w:World)(q:w.heap[b]? = some (.cells #[.slice o c.length h] 40 (0,0)))(H:w.ownsRow base 194 5 (.slice o c.length h) c.length (ncs c))(T:c.length <= 2097152)(M:base <= b) :
  Calls Tryz.prog 206 #[.pointer (some ⟨b,0,none⟩),.agg #[.int .i64 x.k,.int .i64 x.n,.string x.s,.int .i64 x.a,.int .i64 x.b]] w fun e r =>
   ∃ N,e=.returned (.int .i64 c.length)/\r.heap[b]? = some (.cells #[N] 40 (0,0))/\r.ownsRow base 194 5 N (c ++ [x]).length (ncs (c ++ [x]))/\Below base w r/\(∀ k,k < w.heap.size -> k ≠ b -> (Value.slice o c.length h).ownBlock ≠ some k -> r.heap[k]? = w.heap[k]?):=by
 obtain ⟨O,hi,E,u,z⟩:=info_parts Zno
 have K:b < w.heap.size:=(bl q)
 have B:w.cell? ⟨b,0,none⟩=some (.slice o c.length h):=by rw [cell_of_row w b 0 _ _ _ q];rfl
 have R:b ≠ w.heap.size:=by omega
 go_enter Tryz.func206,Tryz.ntmps206
 go_wp2_with fail
 go_region_law (refine step_append_lies _ rfl _ _ 38 rfl base 194 O _ 5 48 Tryz.underlying38 hi E u z rfl (by decide) _ _ _ rfl ((H.alloc _).alloc _) ⟨w.heap.size+1,0,none⟩ 1 1 (ncs [x]) rfl rfl (World.news_of_block (cs:=#[.int .i64 x.k,.int .i64 x.n,.string x.s,.int .i64 x.a,.int .i64 x.b]) (t:=194) (fr:=(0,0)) (heap_alloc2_new w _ _)) (Za2 _) (by omega) (by unfold maxLen;omega) (by omega) (by simp;omega) (w.heap.size+2) (by simp) ?_;intro g f j m d y Q;have l:j.heap[b]? = some (.cells #[.slice o c.length h] 40 (0,0)):=(d.block b (by simp;omega) (fun e=>ZaG H q (by decide) e.symm)).trans ((heap_alloc_old _ _ (by simp;omega)).trans ((heap_alloc_old _ _ K).trans q));have P:j.cell? ⟨b,0,none⟩=some (.slice o c.length h):=cell_of_row j b 0 _ _ _ l;have S:j.frozen? ⟨b,0,none⟩=false:=frozen_of_row j b 0 _ _ l)
 all_goals
  have i:j.ownsRow base 194 5 (.slice (some ⟨g,0,none⟩) (c.length+1) f) (c ++ [x]).length (ncs (c ++ [x])):=by
   rw [ZaB,List.length_append]
   exact m
  have J:base <= w.heap.size:=by omega
  have A:Below base w j:=(((Below.refl base w).alloc J _).drew.alloc (by simp;omega) _).grown d (by simp;omega) (fun k F=>(H.lt k F).1)
  have L:=A.setCell (p:=⟨b,0,none⟩) M (.slice (some ⟨g,0,none⟩) (c.length+1) f)
  have v:=ownsRow_setCell_other i (a:=⟨b,0,none⟩) (ZaG i l (by decide)) (.slice (some ⟨g,0,none⟩) (c.length+1) f)
  have I:=heap_setCell_same j b 0 _ _ (.slice (some ⟨g,0,none⟩) (c.length+1) f) l
  have D:∀ k,k < w.heap.size -> k ≠ b -> (Value.slice o c.length h).ownBlock ≠ some k -> (j.setCell ⟨b,0,none⟩ (.slice (some ⟨g,0,none⟩) (c.length+1) f)).heap[k]? = w.heap[k]?:=fun k F C G=>by
   rw [heap_setCell_other j ⟨b,0,none⟩ k _ (fun e=>C e),d.block k (by simp;omega) (fun e=>G e.symm)]
   exact (heap_alloc_old _ _ (by simp;omega)).trans (heap_alloc_old _ _ F)
  clear m d y B q
  go_wp2
  go_ret
  exact ⟨_,by simp,I,v,L,D⟩
theorem Zna:(Tryz.prog.info? 3).map (fun i=>(i.zero,i.size,i.bytes))=some (some (.int .i64 0),1,8):=by kernel_rfl
theorem ZgQ {w c:World}{B:Nat}{e:TypeId}{k n:Nat}{v:Value}{b:List Value}(h:w.ownsRow B e k v n b)(f:∀ g,v.ownBlock=some g -> c.heap[g]? = w.heap[g]?):c.ownsRow B e k v n b:=by
 rcases h.2 with ⟨rfl,d⟩ | ⟨g,a,cur,rfl,j,i,r⟩
 ·exact ⟨h.1,.inl ⟨rfl,d⟩⟩
 ·exact ⟨h.1,.inr ⟨g,a,cur,rfl,j,(f g rfl).trans i,r⟩⟩
theorem Zcm {w:World}{B:Nat}{e:TypeId}{k n:Nat}{v:Value}{d:List Value}(h:w.ownsRow B e k v n d)(g:Nat)(b:v.ownBlock=some g):∃ c,w.heap[g]? = some (.cells c e (0,0)):=by
 rcases h.2 with ⟨rfl,i⟩ | ⟨j,f,cur,rfl,l,a,r⟩
 ·cases b
 ·simp only [Value.ownBlock,Option.some.injEq] at b
  subst b
  exact ⟨_,a⟩
def IntoS (w0:World)(b base Q T N:Nat)(pv vt:Value)(L:List Nd)(S2:List Int)(bs:List Bool)(qv:Value)(w:World):Prop :=
 w.heap[b]? = some (.cells #[pv] 40 (0,0))/\w.ownsRow base 194 5 pv L.length (ncs L)/\w.ownsRow T 3 1 (.slice (some ⟨T,0,none⟩) N N) N (iv S2)/\w.ownsRow base 4 1 vt N (vb bs)/\w.heap[Q]? = some (.cells #[qv] 40 (0,0))/\Below base w0 w
theorem IntoS.below {f:World}{b base Q T N:Nat}{e i:Value}{L:List Nd}{d:List Int}{c:List Bool}{g:Value}{w j:World}(h:IntoS f b base Q T N e i L d c g w)(k:base <= w.heap.size)(a:Below w.heap.size w j):IntoS f b base Q T N e i L d c g j :=
 ⟨(a.block b (Array.getElem?_eq_some_iff.1 h.1).1).trans h.1,Zac h.2.1 a,Zac h.2.2.1 a,Zac h.2.2.2.1 a,(a.block Q (Array.getElem?_eq_some_iff.1 h.2.2.2.2.1).1).trans h.2.2.2.2.1,h.2.2.2.2.2.trans (a.mono k)⟩
theorem Zka {F:World}{b base Q T N:Nat}{H:Option Addr}{u:Nat}{G:Value}{L:List Nd}{D:List Int}{E:List Bool}{B:Value}{w:World}(y:Nd)(h:IntoS F b base Q T N (.slice H L.length u) G L D E B w)(J:L.length <= 2097152)(r:base <= b)(j:b ≠ Q) :
  Calls Tryz.prog 206 #[.pointer (some ⟨b,0,none⟩),.agg #[.int .i64 y.k,.int .i64 y.n,.string y.s,.int .i64 y.a,.int .i64 y.b]] w fun e q=>∃ p,e=.returned (.int .i64 L.length)/\IntoS F b base Q T N p G (L ++ [y]) D E B q:=by
 obtain ⟨o,v,x,C,A,M⟩:=h
 refine (ZjF b base H u L y w o v J r).mono ?_
 rintro e q ⟨p,rfl,m,i,l,K⟩
 have keep:∀ (t:TypeId) (c:Array Value) (g:Nat),t ≠ 194 -> g ≠ b -> w.heap[g]? = some (.cells c t (0,0)) -> q.heap[g]? = w.heap[g]?:=fun t c g I f z=>K g (bl z) f (ZaG v z I)
 refine ⟨p,rfl,m,i,ZgQ x (fun g f=>?_),ZgQ C (fun g f=>?_),(keep _ _ _ (by decide) (Ne.symm j) A).trans A,M.trans l⟩
 ·obtain ⟨c,d⟩:=Zcm x g f
  refine keep _ _ _ (by decide) (fun e=>?_) d
  subst e;rw [o] at d;injection d with x1;injection x1 with _ x2 _;exact absurd x2 (by decide)
 ·obtain ⟨c,d⟩:=Zcm C g f
  refine keep _ _ _ (by decide) (fun e=>?_) d
  subst e;rw [o] at d;injection d with x1;injection x1 with _ x2 _;exact absurd x2 (by decide)
theorem IntoS.put {u:World}{b base Q T N:Nat}{o v:Value}{L:List Nd}{s:List Int}{t:List Bool}{q:Value}{w:World}(h:IntoS u b base Q T N o v L s t q w)(k:Nat)(z:Int)(y:base <= T)(i:b ≠ T)(d:Q ≠ T):IntoS u b base Q T N o v L (s.set k z) t q (w.setCell ⟨T,k,none⟩ (.int .i64 z)):=by
 obtain ⟨A,m,n,r,B,C⟩:=h
 obtain ⟨c,j⟩:=Zcm n T rfl
 have l:=(n.stored k (.int .i64 z)).1
 rw [Zl7] at l
 refine ⟨(Below.heap_setCell _ _ _ _ i).trans A,ZgQ m (fun g f=>Below.heap_setCell _ _ _ _ (fun e=>?_)),l,ZgQ r (fun g f=>Below.heap_setCell _ _ _ _ (fun e=>?_)),(Below.heap_setCell _ _ _ _ d).trans B,C.setCell (p:=⟨T,k,none⟩) y _⟩
 ·obtain ⟨x,a⟩:=Zcm m g f
  simp only at e
  rw [e,j] at a;injection a with x1;injection x1 with _ x2 _;exact absurd x2 (by decide)
 ·obtain ⟨x,a⟩:=Zcm r g f
  simp only at e
  rw [e,j] at a;injection a with x1;injection x1 with _ x2 _;exact absurd x2 (by decide)
theorem ZiD (b base:Nat)(ap:Option Addr)(cp:Nat)(f d:List Nd)(t:List Bool)(ao:Option Addr)(u:Nat)(vt:Value)(w0 w:World)(hb:w.heap[b]? = some (.cells #[.slice ap f.length cp] 40 (0,0)))(ho:w.ownsRow base 194 5 (.slice ap f.length cp) f.length (ncs f))(ah:base <= b)(R:NRow w0 (.slice ao d.length u) d)(aM:w0.heap.size <= base)(h0:Below base w0 w)(z:w.ownsRow base 4 1 vt d.length (vb t))(aH:t.length=d.length)(hp:Zas d=true)(aN:f.length <= 3001) :
  Calls Tryz.prog 198 #[.pointer (some ⟨b,0,none⟩),.agg #[.slice ao d.length u],vt] w fun e w'=>∃ v' vp,e=.returned v'/\w'.heap[b]? = some (.cells #[vp] 40 (0,0))/\w'.ownsRow base 194 5 vp (f ++ (ZbB f.length d t).1).length (ncs (f ++ (ZbB f.length d t).1))/\w'.ownsRow base 3 1 v' d.length (iv (ZbB f.length d t).2)/\Below base w0 w':=by
 have aD:=ZaH hp
 obtain ⟨i0,hi,au,ay,ax⟩:=info_parts Zna
 have C:i0.bytes * d.length <= 281474976710656:=by rw [ax];omega
 have N:d.length <= maxLen:=by unfold maxLen;omega
 have az:=(bl hb)
 have ae:Below w.heap.size w (w.alloc (Obj.cells #[.slice ao d.length u] 40)):=(Below.refl _ _).alloc (Nat.le_refl _) _
 have ac:=heap_alloc_new w (Obj.cells #[.slice ao d.length u] 40)
 obtain ⟨ag,qt,rfl⟩:=Zag z
 go_enter Tryz.func198,Tryz.ntmps198
 go_wp2_with (at_make;refine wpList_make_full _ rfl _ _ 129 rfl (w.heap.size+1) 3 i0 (.int .i64 0) 1 Tryz.underlying129 hi au ay _ _ _ _ d.length rfl rfl rfl rfl C N (by simp) ?_)
 intro w1 L B
 have I:Below w.heap.size w w1:=ae.grown B (by simp) (by intro k hk;cases hk)
 have X:IntoS w0 b base w.heap.size (w.heap.size+1) d.length (.slice ap f.length cp) (.slice ag d.length qt) f (List.replicate d.length 0) t (.slice ao d.length u) w1:=by
  refine ⟨(I.block b az).trans hb,Zac ho I,?_,Zac z I,(B.block _ (by simp) (by simp)).trans ac,h0.trans (I.mono (by omega))⟩
  have e:iv (List.replicate d.length 0)=(madeCells #[Value.int .i64 0] d.length).toList:=by rw [toList_madeCells_one];simp [iv]
  rw [e]
  simpa using L
 have HA:Hid (ZbB f.length d t=(its (d.drop 0) t 0).foldl (mvS f.length) ([],List.replicate d.length 0)):=rfl
 clear B L C N ae ac hb ho z h0
 go_wp2_with fail
 go_loopw [8] (fun i wr=>∃ (k:Nat) (m:List Nd) (l:List Int) (Q:Option Addr) (S:Nat),k <= d.length/\i=.int .i64 k/\Hid (ZbB f.length d t=(its (d.drop k) t k).foldl (mvS f.length) (m,l))/\m.length <= k/\l.length=d.length/\w.heap.size+1 < wr.heap.size/\IntoS w0 b base w.heap.size (w.heap.size+1) d.length (.slice Q (f ++ m).length S) (.slice ag d.length qt) (f ++ m) l t (.slice ao d.length u) wr) (fun i _=>d.length - (intOf i).toNat)
 case atStart=>exact ⟨0,[],List.replicate d.length 0,ap,cp,by omega,rfl,HA,by simp,by simp,(X.2.2.1.lt _ rfl).2,by rw [List.append_nil];exact X⟩
 case round =>
  clear X HA I
  obtain ⟨k,m,l,Q,S,hk,rfl,HM,aP,F,al,hS⟩:=hrel
  have av:=hS
  obtain ⟨hb,ho,P,z,hq,h0⟩:=av
  have cq:wr.cell? ⟨w.heap.size,0,none⟩=some (.slice ao d.length u):=by rw [cell_of_row wr _ 0 _ _ _ hq];rfl
  by_cases aA:k < d.length
  ·obtain ⟨aI,aG,e',_,_,hz,q⟩:=R
   simp only [Value.slice.injEq,true_and] at e'
   obtain ⟨rfl,rfl⟩:=e'
   obtain ⟨g,o,rfl,hg,q⟩:=q (by intro e;subst e;simp at aA)
   obtain ⟨x,hx⟩:∃ x,d[k]? = some x:=⟨d[k],by simp⟩
   obtain ⟨c0,c1,c2,c3,c4⟩:=(q k x hx).below h0 (by omega)
   have J:=Za6 hp hx
   have HI:=Zl4 d t k x hx
   rcases z.2 with ⟨aB,aL⟩ | ⟨gt,aC,aF,et,aQ,aq,_⟩
   ·omega
   simp only [Value.slice.injEq,true_and] at et
   obtain ⟨rfl,rfl⟩:=et
   have e0:=z.cellAt k (by omega)
   rw [ZcC _ _ (by omega)] at e0
   cases ai:t.getD k false with
   | false =>
    rw [ai] at e0 HI
    have r:Hid (ZbB f.length d t=(its (d.drop (k+1)) t (k+1)).foldl (mvS f.length) (m,l)):=by unfold Hid;rw [HM.out,HI];rfl
    clear HM HI q hx J
    go_wp2_with fail
    go_roundw
    case rel=>exact ⟨k+1,m,l,Q,S,by omega,by go_num,r,by omega,F,al,hS⟩
    case measure=>simp [intOf];omega
   | true =>
    rw [ai] at e0 HI
    have an:base <= wr.heap.size:=Nat.le_trans ah (Nat.le_of_lt (bl hb))
    have ar:b ≠ w.heap.size:=by omega
    have O:∀ (y:Nd) (Wc:World),Below wr.heap.size wr Wc -> Calls Tryz.prog 206 #[.pointer (some ⟨b,0,none⟩),.agg #[.int .i64 y.k,.int .i64 y.n,.string y.s,.int .i64 y.a,.int .i64 y.b]] Wc fun e w'=>∃ v',e=.returned (.int .i64 (f ++ m).length)/\IntoS w0 b base w.heap.size (w.heap.size+1) d.length v' (.slice (some ⟨gt,0,none⟩) d.length qt) ((f ++ m) ++ [y]) l t (.slice (some ⟨g,o,none⟩) d.length u) w':=fun y Wc hc=>Zka y (hS.below an hc) (by simp;omega) ah ar
    have r:Hid (ZbB f.length d t=(its (d.drop (k+1)) t (k+1)).foldl (mvS f.length) (m ++ [nrm l x],l.set k ((f.length+m.length:Nat):Int))):=by unfold Hid;rw [HM.out,HI];rfl
    have D:=fun (j:Nat) (hj:j < d.length)=>(P.cellAt j (by omega)).trans (ZcT l j (by omega))
    have v:=Zej x.k
    have hA:hasA x.k=true -> 0 <= x.a/\x.a < (k:Int):=fun h=>Zch J h
    have K:hasB x.k=true -> 0 <= x.b/\x.b < (k:Int):=fun h=>Zcc J h
    have aE:w.heap.size+1 ≠ wr.heap.size:=by omega
    clear HM HI q hx J hS ho P z aq
    by_cases V:x.k=5
    ·have aa:=v.1.2 (Or.inl V)
     have ad:=v.2.2 V
     obtain ⟨Y,U⟩:=hA aa
     obtain ⟨na,G⟩:=Int.eq_ofNat_of_zero_le Y
     obtain ⟨aw,am⟩:=K ad
     obtain ⟨Z,M⟩:=Int.eq_ofNat_of_zero_le aw
     have ea:=D na (by omega)
     have eb:=D Z (by omega)
     have H:Hid (nrm l x=⟨x.k,x.n,x.s,l.getD na 0,l.getD Z 0⟩):=by unfold Hid nrm;rw [aa,ad,G,M];rfl
     rw [H.out,V] at r
     rw [V] at c0
     rw [G] at c3 U
     rw [M] at c4 am
     generalize l.getD na 0=fa at *
     generalize l.getD Z 0=fb at *
     clear hA K v D
     go_wp2_with fail
     refine (O ⟨5,x.n,x.s,fa,fb⟩ _ ?_).mono ?_
     ·first | exact (Below.refl wr.heap.size wr).alloc (Nat.le_refl _) _ | exact ((Below.refl wr.heap.size wr).alloc (Nat.le_refl _) _).setCell (Nat.le_refl _) _ | exact (((Below.refl wr.heap.size wr).alloc (Nat.le_refl _) _).setCell (Nat.le_refl _) _).setCell (Nat.le_refl _) _
     rintro e w6 ⟨v6,rfl,c⟩
     obtain ⟨W,T,rfl⟩:=Zag c.2.1
     have A:=(c.2.2.1.lt _ rfl).2
     have e6:=(c.2.2.1.cellAt k (by omega)).trans (ZcT l k (by omega))
     have f6:=c.2.2.1.frozenAt k
     have p:=c.put k ((f.length+m.length:Nat):Int) (by omega) (by omega) (by omega)
     rw [List.append_assoc] at p
     clear c O
     go_wp2_with fail
     go_roundw
     case rel=>exact ⟨k+1,m ++ [⟨5,x.n,x.s,fa,fb⟩],l.set k ((f.length+m.length:Nat):Int),W,T,by omega,by go_num,r,by simp;omega,by simpa using F,by simpa [World.setCell] using A,by simpa using p⟩
     case measure=>simp [intOf];omega
    have aJ:(x.k == 5)=false:=by simp [V]
    have af:hasB x.k=false:=by cases h:hasB x.k with | false=>rfl | true=>exact absurd (v.2.1 h) V
    by_cases E:x.k=6 \/ x.k=7
    ·have ab:=v.1.2 (Or.inr E)
     obtain ⟨Y,U⟩:=hA ab
     obtain ⟨na,G⟩:=Int.eq_ofNat_of_zero_le Y
     have ea:=D na (by omega)
     have H:Hid (nrm l x=⟨x.k,x.n,x.s,l.getD na 0,x.b⟩):=by unfold Hid nrm;rw [ab,af,G];rfl
     rw [H.out] at r
     rw [G] at c3 U
     generalize l.getD na 0=fa at *
     clear hA K v D
     rcases E with h6 | h6
     ·rw [h6] at c0 r
      go_wp2_with fail
      refine (O ⟨6,x.n,x.s,fa,x.b⟩ _ ?_).mono ?_
      ·first | exact (Below.refl wr.heap.size wr).alloc (Nat.le_refl _) _ | exact ((Below.refl wr.heap.size wr).alloc (Nat.le_refl _) _).setCell (Nat.le_refl _) _ | exact (((Below.refl wr.heap.size wr).alloc (Nat.le_refl _) _).setCell (Nat.le_refl _) _).setCell (Nat.le_refl _) _
      rintro e w6 ⟨v6,rfl,c⟩
      obtain ⟨W,T,rfl⟩:=Zag c.2.1
      have A:=(c.2.2.1.lt _ rfl).2
      have e6:=(c.2.2.1.cellAt k (by omega)).trans (ZcT l k (by omega))
      have f6:=c.2.2.1.frozenAt k
      have p:=c.put k ((f.length+m.length:Nat):Int) (by omega) (by omega) (by omega)
      rw [List.append_assoc] at p
      clear c O
      go_wp2_with fail
      go_roundw
      case rel=>exact ⟨k+1,m ++ [⟨6,x.n,x.s,fa,x.b⟩],l.set k ((f.length+m.length:Nat):Int),W,T,by omega,by go_num,r,by simp;omega,by simpa using F,by simpa [World.setCell] using A,by simpa using p⟩
      case measure=>simp [intOf];omega
     ·rw [h6] at c0 r
      go_wp2_with fail
      refine (O ⟨7,x.n,x.s,fa,x.b⟩ _ ?_).mono ?_
      ·first | exact (Below.refl wr.heap.size wr).alloc (Nat.le_refl _) _ | exact ((Below.refl wr.heap.size wr).alloc (Nat.le_refl _) _).setCell (Nat.le_refl _) _ | exact (((Below.refl wr.heap.size wr).alloc (Nat.le_refl _) _).setCell (Nat.le_refl _) _).setCell (Nat.le_refl _) _
      rintro e w6 ⟨v6,rfl,c⟩
      obtain ⟨W,T,rfl⟩:=Zag c.2.1
      have A:=(c.2.2.1.lt _ rfl).2
      have e6:=(c.2.2.1.cellAt k (by omega)).trans (ZcT l k (by omega))
      have f6:=c.2.2.1.frozenAt k
      have p:=c.put k ((f.length+m.length:Nat):Int) (by omega) (by omega) (by omega)
      rw [List.append_assoc] at p
      clear c O
      go_wp2_with fail
      go_roundw
      case rel=>exact ⟨k+1,m ++ [⟨7,x.n,x.s,fa,x.b⟩],l.set k ((f.length+m.length:Nat):Int),W,T,by omega,by go_num,r,by simp;omega,by simpa using F,by simpa [World.setCell] using A,by simpa using p⟩
      case measure=>simp [intOf];omega
    ·have aO:(x.k == 6)=false:=by simp;intro e;exact E (Or.inl e)
     have aK:(x.k == 7)=false:=by simp;intro e;exact E (Or.inr e)
     have aj:hasA x.k=false:=by cases h:hasA x.k with | false=>rfl | true=>rcases v.1.1 h with e | e | e;exact absurd e V;exact absurd (Or.inl e) E;exact absurd (Or.inr e) E
     have H:Hid (nrm l x=⟨x.k,x.n,x.s,x.a,x.b⟩):=by unfold Hid nrm;rw [aj,af];rfl
     rw [H.out] at r
     clear hA K v D
     go_wp2_with fail
     refine (O ⟨x.k,x.n,x.s,x.a,x.b⟩ _ ?_).mono ?_
     ·first | exact (Below.refl wr.heap.size wr).alloc (Nat.le_refl _) _ | exact ((Below.refl wr.heap.size wr).alloc (Nat.le_refl _) _).setCell (Nat.le_refl _) _
     rintro e w6 ⟨v6,rfl,c⟩
     obtain ⟨W,T,rfl⟩:=Zag c.2.1
     have A:=(c.2.2.1.lt _ rfl).2
     have e6:=(c.2.2.1.cellAt k (by omega)).trans (ZcT l k (by omega))
     have f6:=c.2.2.1.frozenAt k
     have p:=c.put k ((f.length+m.length:Nat):Int) (by omega) (by omega) (by omega)
     rw [List.append_assoc] at p
     clear c O
     go_wp2_with fail
     go_roundw
     case rel=>exact ⟨k+1,m ++ [⟨x.k,x.n,x.s,x.a,x.b⟩],l.set k ((f.length+m.length:Nat):Int),W,T,by omega,by go_num,r,by simp;omega,by simpa using F,by simpa [World.setCell] using A,by simpa using p⟩
     case measure=>simp [intOf];omega
  ·have ak:k=d.length:=by omega
   subst ak
   have HE:Hid (ZbB f.length d t=(m,l)):=by unfold Hid;rw [HM.out,ZlM];rfl
   go_wp2_with fail
   go_ret
   rw [HE.out]
   exact ⟨_,_,rfl,hb,ho,Zah P (by omega),h0⟩
end Go.Proofs.YtfeodlbpnghakaaGreatDoor
