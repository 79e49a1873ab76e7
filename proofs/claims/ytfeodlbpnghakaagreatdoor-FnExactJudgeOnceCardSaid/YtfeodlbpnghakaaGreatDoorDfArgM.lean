/-
  Texts that stood by themselves, laid into one.
-/
import Derived.Test.YtfeodlbpnghakaaGreatDoorJgPM
import Derived.Test.YtfeodlbpnghakaaGreatDoorShapeM
import Derived.ProofKit
import Derived.OpenShut
import Derived.ShutString
import Derived.ChangeOld
import Derived.Below
import Derived.Deep.Slices
import Derived.ChangeSame
import Derived.Test.YtfeodlbpnghakaaGreatDoorPcMarkM
import Derived.Test.YtfeodlbpnghakaaGreatDoorInM
import Derived.Test.YtfeodlbpnghakaaGreatDoorMcTM
import Derived.Test.YtfeodlbpnghakaaGreatDoorSInstrM
/-
  The law FnExactJudgeOnce, walked: for every world it returns true and writes nothing that was there. The variable errors.errorType reads as it is laid.
-/
set_option maxRecDepth 100000
set_option maxHeartbeats 6400000
namespace Go.Proofs.YtfeodlbpnghakaaGreatDoor
open Go.RowKit
theorem ZjQ {t0 t2 t3 t4 t6 t7 t8 t9 X ad ae af ai aa ac ag ab Z Y ah al aj am ak an:Value}{fs:List Deferred}(y0 b0 C:Nat)(O k a D L t H l M A y z v P q g p s:Option Addr)(c m b f n F o T I j U S r G x N u i:Nat)(d:Wd)(w:World)(Q:Exit -> Act -> World -> Prop)(hy:w.heap[y0]? = some (.cells #[.slice O d.ns.length c,.slice a d.is.length b,.slice L d.ds.length n,.int .i64 d.pl,.slice H d.hs.length o,.slice M d.ls.length I,.slice y d.gs.length U,.slice v d.ps.length r,.int .i64 d.nx,.slice q d.ga.length x,.slice p d.tk.length u] 50 (0,0)))(hk:w.heap[b0]? = some (.cells #[.slice k d.ns.length m,.slice D d.is.length f,.slice t d.ds.length F,.int .i64 d.pl,.slice l d.hs.length T,.slice A d.ls.length j,.slice z d.gs.length S,.slice P d.ps.length G,.int .i64 d.nx,.slice g d.ga.length N,.slice s d.tk.length i] 35 (0,0)))(E:WR C w (.slice O d.ns.length c) (.slice a d.is.length b) (.slice L d.ds.length n) (.slice H d.hs.length o) (.slice M d.ls.length I) (.slice y d.gs.length U) (.slice v d.ps.length r) (.slice q d.ga.length x) (.slice p d.tk.length u) d)(R:WR 0 w (.slice k d.ns.length m) (.slice D d.is.length f) (.slice t d.ds.length F) (.slice l d.hs.length T) (.slice A d.ls.length j) (.slice z d.gs.length S) (.slice P d.ps.length G) (.slice g d.ga.length N) (.slice s d.tk.length i) d)(Sm:SmW d)(hQ:∀ u22 u23 u24 u25 (W:World),Below w.heap.size w W -> Q .normal ⟨#[t0,.pointer (some ⟨b0,0,none⟩),t2,t3,t4,.pointer (some ⟨y0,0,none⟩),t6,t7,t8,t9,X,ad,ae,af,ai,aa,ac,ag,ab,Z,Y,ah,u22,u23,u24,u25,.bool false],fs⟩ W) :
  (Code.region 10 (List.toArray (⟨some 22,.load 50 (.tmp 5),50, "exact.go:4290", #[],none⟩ :: ⟨some 23,.load 35 (.tmp 1),35, "exact.go:4290", #[],none⟩ :: ⟨some 24,.call { callee:=.value (.func 6),args:=#[.tmp 23],argTypes:=#[35] },50, "exact.go:4290", #[⟨1,.data⟩],none⟩ :: ⟨some 25,.call { callee:=.value (.func 8),args:=#[.tmp 22,.tmp 24],argTypes:=#[50,50] },4, "exact.go:4290", #[⟨0,.data⟩,⟨2,.data⟩,⟨2,.chain⟩],none⟩ :: ⟨some 26,.unOp .not 4 (.tmp 25),4, "exact.go:4290", #[⟨3,.data⟩],none⟩ :: [])) true).wp Tryz.prog Q ⟨#[t0,.pointer (some ⟨b0,0,none⟩),t2,t3,t4,.pointer (some ⟨y0,0,none⟩),t6,t7,t8,t9,X,ad,ae,af,ai,aa,ac,ag,ab,Z,Y,ah,al,aj,am,ak,an],fs⟩ w:=by
 have hS:∀ w',Below w.heap.size w w' -> (w'.heap[y0]? = some (.cells #[.slice O d.ns.length c,.slice a d.is.length b,.slice L d.ds.length n,.int .i64 d.pl,.slice H d.hs.length o,.slice M d.ls.length I,.slice y d.gs.length U,.slice v d.ps.length r,.int .i64 d.nx,.slice q d.ga.length x,.slice p d.tk.length u] 50 (0,0))/\w'.heap[b0]? = some (.cells #[.slice k d.ns.length m,.slice D d.is.length f,.slice t d.ds.length F,.int .i64 d.pl,.slice l d.hs.length T,.slice A d.ls.length j,.slice z d.gs.length S,.slice P d.ps.length G,.int .i64 d.nx,.slice g d.ga.length N,.slice s d.tk.length i] 35 (0,0))):=fun w' V=>⟨Zae hy V,Zae hk V⟩
 have B:Below w.heap.size w w.drew:=Zaw w
 refine rg hS B (by kernel_rfl) fun J=>?_
 refine tk 0 (.agg #[.slice O d.ns.length c,.slice a d.is.length b,.slice L d.ds.length n,.int .i64 d.pl,.slice H d.hs.length o,.slice M d.ls.length I,.slice y d.gs.length U,.slice v d.ps.length r,.int .i64 d.nx,.slice q d.ga.length x,.slice p d.tk.length u]) nz (by kernel_rfl) (ZaI (by rfl) 50 _ rfl y0 rfl #[.slice O d.ns.length c,.slice a d.is.length b,.slice L d.ds.length n,.int .i64 d.pl,.slice H d.hs.length o,.slice M d.ls.length I,.slice y d.gs.length U,.slice v d.ps.length r,.int .i64 d.nx,.slice q d.ga.length x,.slice p d.tk.length u] 50 _ (fun _ h=>h.1) Tryz.underlying50 rfl Zni) ‹_› ?_
 simp only [Act.put,sit,sc0,scs]
 refine tk 1 (.agg #[.slice k d.ns.length m,.slice D d.is.length f,.slice t d.ds.length F,.int .i64 d.pl,.slice l d.hs.length T,.slice A d.ls.length j,.slice z d.gs.length S,.slice P d.ps.length G,.int .i64 d.nx,.slice g d.ga.length N,.slice s d.tk.length i]) (n1 nz) (by kernel_rfl) (ZaI (by rfl) 35 _ rfl b0 rfl #[.slice k d.ns.length m,.slice D d.is.length f,.slice t d.ds.length F,.int .i64 d.pl,.slice l d.hs.length T,.slice A d.ls.length j,.slice z d.gs.length S,.slice P d.ps.length G,.int .i64 d.nx,.slice g d.ga.length N,.slice s d.tk.length i] 35 _ (fun _ h=>h.2) Tryz.underlying35 rfl ZmW) ‹_› ?_
 simp only [Act.put,sit,sc0,scs]
 refine wpAnyH_ready (rs:=[2]) (by kernel_rfl) (by simp) ?_
 refine AllReadyH.cons rfl (fun K hK=>?_) AllReadyH.nil
 go_simp
 go_wp2_with (go_at_call 6;with_reducible refine (ZcK _ _ _ _ _ _ _ _ _ d 0 _ (R.below B) Sm).mono ?_;rintro e wA ⟨un,ui,uf,uh,ul,ug,up,ua,ut,rfl,RT,V⟩)
 replace B:=B.trans (V.mono B.size)
 obtain ⟨⟨au,az,rfl⟩,⟨aH,av,rfl⟩,⟨aI,ap,rfl⟩,⟨aw,ay,rfl⟩,⟨ao,aE,rfl⟩,⟨aG,aq,rfl⟩,⟨aD,ar,rfl⟩,⟨aB,aA,rfl⟩,⟨aF,aC,rfl⟩⟩:=RT.form
 clear V
 refine hK.out _ _ (hS _ B) (fun J=>?_)
 clear hK
 refine wpAnyH_ready (rs:=[3]) (by kernel_rfl) (by simp) ?_
 refine AllReadyH.cons rfl (fun K hK=>?_) AllReadyH.nil
 go_simp
 go_wp2_with (go_at_call 8;with_reducible refine (Zgy _ _ _ _ _ _ _ _ _ _ _ _ _ _ _ _ _ _ d C _ _ (E.below B) RT).mono ?_;rintro e wZ ⟨rfl,V⟩)
 replace B:=B.trans (V.mono B.size)
 clear V
 refine hK.out _ _ (hS _ B) (fun J=>?_)
 clear hK
 refine tk 4 (.bool false) (n4 nz) (by kernel_rfl) (Or.inl ⟨by rfl,by intro w ax;go_simp⟩) ‹_› ?_
 simp only [Act.put,sit,sc0,scs]
 refine wpAnyH_done (by kernel_rfl) ?_ _
 exact NoPanic.normal (hQ _ _ _ _ _ B)
theorem ZhM (vn vi vf vh vl vg vp va vt:Value)(d:Wd)(w:World)(R:WR 0 w vn vi vf vh vl vg vp va vt d)(hg:ErrT w) :
  Calls Tryz.prog 3 #[.agg #[vn,vi,vf,.int .i64 d.pl,vh,vl,vg,vp,.int .i64 d.nx,va,vt]] w fun e w'=>e=.returned (.bool true)/\Below w.heap.size w w':=by
 obtain ⟨⟨v,m,rfl⟩,⟨h,n,rfl⟩,⟨j,i,rfl⟩,⟨y,l,rfl⟩,⟨g,u,rfl⟩,⟨z,o,rfl⟩,⟨x,k,rfl⟩,⟨p,t,rfl⟩,⟨f,s,rfl⟩⟩:=R.form
 have a:Below w.heap.size w (w.alloc (Obj.cells #[.slice v d.ns.length m,.slice h d.is.length n,.slice j d.ds.length i,.int .i64 d.pl,.slice y d.hs.length l,.slice g d.ls.length u,.slice z d.gs.length o,.slice x d.ps.length k,.int .i64 d.nx,.slice p d.ga.length t,.slice f d.tk.length s] 35)):=(Below.refl _ _).alloc (Nat.le_refl _) _
 have c:(w.alloc (Obj.cells #[.slice v d.ns.length m,.slice h d.is.length n,.slice j d.ds.length i,.int .i64 d.pl,.slice y d.hs.length l,.slice g d.ls.length u,.slice z d.gs.length o,.slice x d.ps.length k,.int .i64 d.nx,.slice p d.ga.length t,.slice f d.tk.length s] 35)).heap[w.heap.size]? = some (Obj.cells #[.slice v d.ns.length m,.slice h d.is.length n,.slice j d.ds.length i,.int .i64 d.pl,.slice y d.hs.length l,.slice g d.ls.length u,.slice z d.gs.length o,.slice x d.ps.length k,.int .i64 d.nx,.slice p d.ga.length t,.slice f d.tk.length s] 35):=heap_alloc_new _ _
 go_enter Tryz.func3,Tryz.ntmps3
 go_wp2_with (refine wpList_load_row rfl 35 _ rfl w.heap.size rfl 35 #[.slice v d.ns.length m,.slice h d.is.length n,.slice j d.ds.length i,.int .i64 d.pl,.slice y d.hs.length l,.slice g d.ls.length u,.slice z d.gs.length o,.slice x d.ps.length k,.int .i64 d.nx,.slice p d.ga.length t,.slice f d.tk.length s] (0,0) _ c Tryz.underlying35 rfl ZmW ?_)
 refine (Zgn _ _ _ _ _ _ _ _ _ d 0 _ (R.below a)).mono ?_
 rintro e w1 ⟨r,rfl,h0,h1,h2,b⟩
 replace c:=Zae c b
 replace a:=a.trans (b.mono a.size)
 clear b
 by_cases hr:r < 0
 ·go_wp2
  go_ret
  exact ⟨rfl,a⟩
 ·have Y:=h2 (by omega)
  go_wp2_with (refine wpList_load_row rfl 35 _ rfl w.heap.size rfl 35 #[.slice v d.ns.length m,.slice h d.is.length n,.slice j d.ds.length i,.int .i64 d.pl,.slice y d.hs.length l,.slice g d.ls.length u,.slice z d.gs.length o,.slice x d.ps.length k,.int .i64 d.nx,.slice p d.ga.length t,.slice f d.tk.length s] (0,0) _ c Tryz.underlying35 rfl ZmW ?_)
  refine (ZcK _ _ _ _ _ _ _ _ _ d 0 _ (R.below a) Y).mono ?_
  rintro e w2 ⟨un,ui,uf,uh,ul,ug,up,ua,ut,rfl,T,b⟩
  replace c:=Zae c b
  replace a:=a.trans (b.mono a.size)
  clear b
  go_wp2_with fail
  refine (Zib _ _ _ _ _ _ _ _ _ d _ (T.mono (Nat.zero_le _)) Y).mono ?_
  rintro e w3 ⟨rfl,b⟩
  replace c:=Zae c b
  replace a:=a.trans (b.mono a.size)
  clear b T
  go_wp2_with (refine wpList_load_row rfl 35 _ rfl w.heap.size rfl 35 #[.slice v d.ns.length m,.slice h d.is.length n,.slice j d.ds.length i,.int .i64 d.pl,.slice y d.hs.length l,.slice g d.ls.length u,.slice z d.gs.length o,.slice x d.ps.length k,.int .i64 d.nx,.slice p d.ga.length t,.slice f d.tk.length s] (0,0) _ c Tryz.underlying35 rfl ZmW ?_)
  refine (ZcK _ _ _ _ _ _ _ _ _ d 0 _ (R.below a) Y).mono ?_
  rintro e X ⟨un,ui,uf,uh,ul,ug,up,ua,ut,rfl,T,b⟩
  replace c:=Zae c b
  replace a:=a.trans (b.mono a.size)
  clear b
  obtain ⟨⟨O,F,rfl⟩,⟨B,C,rfl⟩,⟨M,H,rfl⟩,⟨G,I,rfl⟩,⟨N,A,rfl⟩,⟨P,L,rfl⟩,⟨E,J,rfl⟩,⟨S,K,rfl⟩,⟨Q,D,rfl⟩⟩:=T.form
  have b:=Zap X (Obj.cells #[.slice O d.ns.length F,.slice B d.is.length C,.slice M d.ds.length H,.int .i64 d.pl,.slice G d.hs.length I,.slice N d.ls.length A,.slice P d.gs.length L,.slice E d.ps.length J,.int .i64 d.nx,.slice S d.ga.length K,.slice Q d.tk.length D] 50)
  have V:(X.alloc (Obj.cells #[.slice O d.ns.length F,.slice B d.is.length C,.slice M d.ds.length H,.int .i64 d.pl,.slice G d.hs.length I,.slice N d.ls.length A,.slice P d.gs.length L,.slice E d.ps.length J,.int .i64 d.nx,.slice S d.ga.length K,.slice Q d.tk.length D] 50)).heap[X.heap.size]? = some (Obj.cells #[.slice O d.ns.length F,.slice B d.is.length C,.slice M d.ds.length H,.int .i64 d.pl,.slice G d.hs.length I,.slice N d.ls.length A,.slice P d.gs.length L,.slice E d.ps.length J,.int .i64 d.nx,.slice S d.ga.length K,.slice Q d.tk.length D] 50):=heap_alloc_new _ _
  replace c:=Zae c b
  replace a:=a.trans (b.mono a.size)
  replace T:=T.below b
  clear b
  obtain ⟨W5,U⟩:∃ W5,X.alloc (Obj.cells #[.slice O d.ns.length F,.slice B d.is.length C,.slice M d.ds.length H,.int .i64 d.pl,.slice G d.hs.length I,.slice N d.ls.length A,.slice P d.gs.length L,.slice E d.ps.length J,.int .i64 d.nx,.slice S d.ga.length K,.slice Q d.tk.length D] 50)=W5:=⟨_,rfl⟩
  rw [U] at c V a T
  go_wp2_with (refine wpList_load_row rfl 50 _ rfl X.heap.size rfl 50 #[.slice O d.ns.length F,.slice B d.is.length C,.slice M d.ds.length H,.int .i64 d.pl,.slice G d.hs.length I,.slice N d.ls.length A,.slice P d.gs.length L,.slice E d.ps.length J,.int .i64 d.nx,.slice S d.ga.length K,.slice Q d.tk.length D] (0,0) _ (by first | exact V | (rw [U];exact V)) Tryz.underlying50 rfl Zni ?_)
  first | rw [U] | skip
  refine (ZhV _ _ _ _ _ _ _ _ _ d _ (T.mono (Nat.zero_le _)) Y (hg.below a (Nat.le_refl _))).mono ?_
  rintro e w6 ⟨rfl,b⟩
  replace c:=Zae c b
  replace V:=Zae V b
  replace a:=a.trans (b.mono a.size)
  replace T:=T.below b
  clear b U
  obtain ⟨q,Z⟩:∃ q,(worldB d && oneB d)=q:=⟨_,rfl⟩
  rw [Z]
  clear Z
  have aa:(q != q)=false:=by simp
  go_wp2_with fail
  refine ZjQ X.heap.size w.heap.size _ O v B h M j G y N g P z E x S p Q f F m C n H i I l A u L o J k K t D s d w6 _ V c T (R.below a) Y ?_
  intro u22 u23 u24 u25 W hW
  replace a:=a.trans (hW.mono a.size)
  go_wp2
  go_ret
  exact ⟨rfl,a⟩
end Go.Proofs.YtfeodlbpnghakaaGreatDoor
namespace Go.Proofs.YtfeodlbpnghakaaGreatDoor
open Go.ChangeShapes Go.WideShapes Go.ChangeAt Go.RowKit Go.Deep
theorem ZeT:laidOutB Tryz.prog=true:=by kernel_rfl
section
variable {H:Type} {enc:TypeId × Value -> H} {w:World} {base:Nat} {spare:Nat -> Bool} {held:Bool}
theorem Zho {d:Nat}{cs:List Value}{x:DataW H × List MemPlace}(h:DataW.trod enc Tryz.prog w base spare held d 191 cs=some x) :
  ∃ u:Nd,cs=u.cs/\u.s.size <= maxLen:=by
 obtain ⟨A,n,_,_,g,c,e⟩:=DataW.trod_struct Tryz.underlying191 h
 rw [show Tryz.prog.cellsOf 191=5 by kernel_rfl] at g
 match cs,g with
 | [v0,v1,v2,v3,v4],_ =>
  have v:=e 0 _ rfl
  have l:=e 1 _ rfl
  have j:=e 2 _ rfl
  have o:=e 3 _ rfl
  have p:=e 4 _ rfl
  have y:Tryz.prog.cellsOf 3=1:=by kernel_rfl
  have B:Tryz.prog.cellsOf 9=1:=by kernel_rfl
  match A,c with
  | [y0,y1,y2,y3,y4],_ =>
   simp [y,B] at v l j o p
   obtain ⟨k,t,_⟩:=DataW.trod_int Tryz.underlying3 v
   obtain ⟨m,f,_⟩:=DataW.trod_int Tryz.underlying3 l
   obtain ⟨s,r,_,z⟩:=DataW.trod_string Tryz.underlying9 j
   obtain ⟨a,q,_⟩:=DataW.trod_int Tryz.underlying3 o
   obtain ⟨b,i,_⟩:=DataW.trod_int Tryz.underlying3 p
   simp only [List.cons.injEq,and_true] at t f r q i
   subst t f r q i
   exact ⟨⟨k,m,s,a,b⟩,rfl,z⟩
end
section
variable {H:Type} {enc:TypeId × Value -> H} {w:World} {base:Nat} {spare:Nat -> Bool} {held:Bool}
theorem ZgS {b:Nat}{cs:List Value}{x:DataW H × List MemPlace}(h:DataW.trod enc Tryz.prog w base spare held b 102 cs=some x) :
  ∃ g:Pc,cs=g.cs/\g.s.size <= maxLen:=by
 obtain ⟨m,n,_,_,e,a,c⟩:=DataW.trod_struct Tryz.underlying102 h
 rw [show Tryz.prog.cellsOf 102=2 by kernel_rfl] at e
 match cs,e with
 | [v0,v1],_ =>
  have j:=c 0 _ rfl
  have i:=c 1 _ rfl
  have k:Tryz.prog.cellsOf 3=1:=by kernel_rfl
  have p:Tryz.prog.cellsOf 9=1:=by kernel_rfl
  match m,a with
  | [y0,y1],_ =>
   simp [k,p] at j i
   obtain ⟨m0,f,_⟩:=DataW.trod_int Tryz.underlying3 j
   obtain ⟨o,d,_,l⟩:=DataW.trod_string Tryz.underlying9 i
   simp only [List.cons.injEq,and_true] at f d
   subst f d
   exact ⟨⟨m0,o⟩,rfl,l⟩
theorem Zk3 {k:Nat}{K:Value}{P:DataW H × List MemPlace}(o:DataW.trod enc Tryz.prog w base spare held k 97 [K]=some P) :
  ∃ U,PcRow w K U:=by
 have L:Tryz.prog.cellsOf 102=2:=by kernel_rfl
 rcases open_slice Tryz.underlying97 o with ⟨c,_⟩ | ⟨a,d,C,m,n,D,W,c,_,V,T,z,_,I⟩
 ·simp at c
  subst c
  exact ⟨[],none,0,rfl,by simp,by simp,by simp,fun h=>absurd rfl h⟩
 ·simp at c
  subst c
  have O:d <= m:=by rw [z];split <;> omega
  rw [L] at I
  have r:∀ i,i < m -> ∃ u:Pc,u.s.size <= maxLen/\∀ j,j < 2 -> w.cell? (a.add (i * 2+j))=u.cs[j]?:=by
   intro i hi
   obtain ⟨N,Q,R⟩:=I i hi
   obtain ⟨u,rfl,M⟩:=ZgS R
   obtain ⟨_,F,g⟩:=World.cells?_some Q
   refine ⟨u,M,fun j J=>?_⟩
   have:=g j (by omega)
   rw [add_add] at this
   rw [this]
  haveI:Inhabited Pc:=⟨ZfX⟩
  obtain ⟨q,v⟩:=choose_lt r
  refine ⟨(List.range d).map q,some a,C,?_,?_,?_,?_,?_⟩
  ·simp
  ·exact ⟨by simp;omega,fun h=>by cases h⟩
  ·unfold maxLen at T;simp;omega
  ·intro x t
   simp at t
   obtain ⟨i,hi,rfl⟩:=t
   exact (v i (by omega)).1
  ·intro A
   have G:0 < d:=by
    rcases Nat.eq_zero_or_pos d with o | o
    ·subst o;simp at A
    ·exact o
   obtain ⟨b,p,l⟩:=a
   have y:=(v 0 (by omega)).2 0 (by omega)
   simp only [Pc.cs,List.getElem?_cons_zero] at y
   have f:l=none:=by simpa [Addr.add] using World.cell?_spot y
   subst f
   have S:=World.block_lt_of_cell? _ _ y
   refine ⟨b,p,rfl,by simpa [Addr.add_lit] using S,fun i x hi=>?_⟩
   have B:i < d:=by
    have:=(List.getElem?_eq_some_iff.1 hi).1
    simpa using this
   have E:x=q i:=by
    rw [List.getElem?_map,List.getElem?_range B] at hi
    simpa using hi.symm
   subst E
   have e:∀ j,j < 2 -> w.cell? ⟨b,p+i * 2+j,none⟩=(q i).cs[j]?:=fun j J=>by
    have:=(v i (by omega)).2 j J
    rw [Addr.add_lit] at this
    rw [<- this,Nat.add_assoc]
   exact ⟨e 0 (by omega),e 1 (by omega)⟩
end
section
variable {H:Type} {enc:TypeId × Value -> H} {w:World} {base:Nat} {spare:Nat -> Bool} {held:Bool}
theorem Zg7 {k:Nat}{K:Value}{P:DataW H × List MemPlace}(o:DataW.trod enc Tryz.prog w base spare held k 22 [K]=some P) :
  ∃ U,NRow w K U:=by
 have L:Tryz.prog.cellsOf 191=5:=by kernel_rfl
 rcases open_slice Tryz.underlying22 o with ⟨c,_⟩ | ⟨a,d,C,m,n,D,W,c,_,V,T,z,_,I⟩
 ·simp at c
  subst c
  exact ⟨[],none,0,rfl,by simp,by simp,by simp,fun h=>absurd rfl h⟩
 ·simp at c
  subst c
  have O:d <= m:=by rw [z];split <;> omega
  rw [L] at I
  have r:∀ i,i < m -> ∃ u:Nd,u.s.size <= maxLen/\∀ j,j < 5 -> w.cell? (a.add (i * 5+j))=u.cs[j]?:=by
   intro i hi
   obtain ⟨N,Q,R⟩:=I i hi
   obtain ⟨u,rfl,M⟩:=Zho R
   obtain ⟨_,F,g⟩:=World.cells?_some Q
   refine ⟨u,M,fun j J=>?_⟩
   have:=g j (by omega)
   rw [add_add] at this
   rw [this]
  haveI:Inhabited Nd:=⟨⟨0,0,ByteArray.empty,0,0⟩⟩
  obtain ⟨q,v⟩:=choose_lt r
  refine ⟨(List.range d).map q,some a,C,?_,?_,?_,?_,?_⟩
  ·simp
  ·exact ⟨by simp;omega,fun h=>by cases h⟩
  ·unfold maxLen at T;simp;omega
  ·intro x t
   simp at t
   obtain ⟨i,hi,rfl⟩:=t
   exact (v i (by omega)).1
  ·intro A
   have G:0 < d:=by
    rcases Nat.eq_zero_or_pos d with o | o
    ·subst o;simp at A
    ·exact o
   obtain ⟨b,p,l⟩:=a
   have y:=(v 0 (by omega)).2 0 (by omega)
   simp only [Nd.cs,List.getElem?_cons_zero] at y
   have f:l=none:=by simpa [Addr.add] using World.cell?_spot y
   subst f
   have S:=World.block_lt_of_cell? _ _ y
   refine ⟨b,p,rfl,by simpa [Addr.add_lit] using S,fun i x hi=>?_⟩
   have B:i < d:=by
    have:=(List.getElem?_eq_some_iff.1 hi).1
    simpa using this
   have E:x=q i:=by
    rw [List.getElem?_map,List.getElem?_range B] at hi
    simpa using hi.symm
   subst E
   have e:∀ j,j < 5 -> w.cell? ⟨b,p+i * 5+j,none⟩=(q i).cs[j]?:=fun j J=>by
    have:=(v i (by omega)).2 j J
    rw [Addr.add_lit] at this
    rw [<- this,Nat.add_assoc]
   exact ⟨e 0 (by omega),e 1 (by omega),e 2 (by omega),e 3 (by omega),e 4 (by omega)⟩
end
section
variable {H:Type} {enc:TypeId × Value -> H} {w:World} {base:Nat} {spare:Nat -> Bool} {held:Bool}
theorem Zb4 {l:Nat}{J:Value}{N:DataW H × List MemPlace}(p:DataW.trod enc Tryz.prog w base spare held l 62 [J]=some N) :
  ∃ S,StRow w J S:=by
 have K:Tryz.prog.cellsOf 9=1:=by kernel_rfl
 rcases open_slice Tryz.underlying62 p with ⟨c,_⟩ | ⟨a,d,C,m,n,D,U,c,_,T,R,y,_,I⟩
 ·simp at c
  subst c
  exact ⟨[],none,0,rfl,by simp,by simp,by simp,fun h=>absurd rfl h⟩
 ·simp at c
  subst c
  have M:d <= m:=by rw [y];split <;> omega
  rw [K] at I
  have r:∀ i,i < m -> ∃ s:ByteArray,s.size <= maxLen/\w.cell? (a.add i)=some (.string s):=by
   intro i hi
   obtain ⟨k,O,P⟩:=I i hi
   obtain ⟨_,j,g⟩:=World.cells?_some O
   obtain ⟨u,rfl⟩:∃ u,k=[u]:=by
    match k,j with
    | [u],_=>exact ⟨u,rfl⟩
   obtain ⟨s,e,_,L⟩:=DataW.trod_string Tryz.underlying9 P
   simp only [List.cons.injEq,and_true] at e
   subst e
   have:=g 0 (by omega)
   rw [add_add] at this
   simp only [Nat.mul_one,Nat.add_zero] at this
   exact ⟨s,L,by rw [this];rfl⟩
  obtain ⟨q,v⟩:=choose_lt r
  refine ⟨(List.range d).map q,some a,C,?_,?_,?_,?_,?_⟩
  ·simp
  ·exact ⟨by simp;omega,fun h=>by cases h⟩
  ·unfold maxLen at R;simp;omega
  ·intro x t
   simp at t
   obtain ⟨i,hi,rfl⟩:=t
   exact (v i (by omega)).1
  ·intro z
   have G:0 < d:=by
    rcases Nat.eq_zero_or_pos d with p | p
    ·subst p;simp at z
    ·exact p
   obtain ⟨b,B,o⟩:=a
   have F:=(v 0 (by omega)).2
   have f:o=none:=by simpa [Addr.add] using World.cell?_spot F
   subst f
   have Q:=World.block_lt_of_cell? _ _ F
   refine ⟨b,B,rfl,by simpa [Addr.add_lit] using Q,fun i x hi=>?_⟩
   have A:i < d:=by
    have:=(List.getElem?_eq_some_iff.1 hi).1
    simpa using this
   have E:x=q i:=by
    rw [List.getElem?_map,List.getElem?_range A] at hi
    simpa using hi.symm
   subst E
   have:=(v i (by omega)).2
   rwa [Addr.add_lit] at this
end
section
variable {H:Type} {enc:TypeId × Value -> H} {w:World} {base:Nat} {spare:Nat -> Bool} {held:Bool}
theorem Zia {c:Nat}{G o K J B z j h:Value}{x:DataW H × List MemPlace}(Y:DataW.trod enc Tryz.prog w base spare held c 91 [G,o,K,J,B,z,j,h]=some x) :
  ∃ f,∃ m:Mc,o=.int .i64 m.p/\K=.int .i64 m.s/\J=.int .i64 m.e/\B=.int .i64 m.d/\z=.int .i64 m.t/\j=.int .i64 m.q/\h=.int .i64 m.r/\NRow w G f:=by
 obtain ⟨f,n,_,_,hl,b,a⟩:=DataW.trod_struct Tryz.underlying91 Y
 have L:=a 0 _ rfl
 have u:=a 1 _ rfl
 have l:=a 2 _ rfl
 have v:=a 3 _ rfl
 have A:=a 4 _ rfl
 have M:=a 5 _ rfl
 have y:=a 6 _ rfl
 have N:=a 7 _ rfl
 have R:Tryz.prog.cellsOf 24=1:=by kernel_rfl
 have O:Tryz.prog.cellsOf 3=1:=by kernel_rfl
 match f,b with
 | [y0,y1,y2,y3,y4,y5,y6,y7],_ =>
  simp [R,O] at L u l v A M y N
  obtain ⟨V,g,_⟩:=DataW.trod_int Tryz.underlying3 u
  obtain ⟨W,D,_⟩:=DataW.trod_int Tryz.underlying3 l
  obtain ⟨X,C,_⟩:=DataW.trod_int Tryz.underlying3 v
  obtain ⟨U,i,_⟩:=DataW.trod_int Tryz.underlying3 A
  obtain ⟨T,I,_⟩:=DataW.trod_int Tryz.underlying3 M
  obtain ⟨S,F,_⟩:=DataW.trod_int Tryz.underlying3 y
  obtain ⟨Q,E,_⟩:=DataW.trod_int Tryz.underlying3 N
  simp only [List.cons.injEq,and_true] at g D C i I F E
  subst g D C i I F E
  obtain ⟨z0,n',_,_,k⟩:=trod_struct1 Tryz.underlying24 L
  have P:Tryz.prog.cellsOf 22=1:=by kernel_rfl
  simp [P] at k
  obtain ⟨ns,Z⟩:=Zg7 k
  exact ⟨ns,⟨V,W,X,U,T,S,Q⟩,rfl,rfl,rfl,rfl,rfl,rfl,rfl,Z⟩
end
section
variable {H:Type} {enc:TypeId × Value -> H} {w:World} {base:Nat} {spare:Nat -> Bool} {held:Bool}
theorem Zkh {b:Nat}{cs:List Value}{x:DataW H × List MemPlace}(h:DataW.trod enc Tryz.prog w base spare held b 146 cs=some x) :
  ∃ m:In,cs=m.cs/\m.s.size <= maxLen:=by
 obtain ⟨v,n,_,_,e,a,c⟩:=DataW.trod_struct Tryz.underlying146 h
 rw [show Tryz.prog.cellsOf 146=4 by kernel_rfl] at e
 match cs,e with
 | [v0,v1,v2,v3],_ =>
  have o:=c 0 _ rfl
  have g:=c 1 _ rfl
  have f:=c 2 _ rfl
  have i:=c 3 _ rfl
  have p:Tryz.prog.cellsOf 3=1:=by kernel_rfl
  have y:Tryz.prog.cellsOf 9=1:=by kernel_rfl
  match v,a with
  | [y0,y1,y2,y3],_ =>
   simp [p,y] at o g f i
   obtain ⟨m0,l,_⟩:=DataW.trod_int Tryz.underlying3 o
   obtain ⟨r,d,_⟩:=DataW.trod_int Tryz.underlying3 g
   obtain ⟨t,k,_⟩:=DataW.trod_int Tryz.underlying3 f
   obtain ⟨u,j,_,q⟩:=DataW.trod_string Tryz.underlying9 i
   simp only [List.cons.injEq,and_true] at l d k j
   subst l d k j
   exact ⟨⟨m0,r,t,u⟩,rfl,q⟩
theorem Zj7 {k:Nat}{K:Value}{P:DataW H × List MemPlace}(o:DataW.trod enc Tryz.prog w base spare held k 25 [K]=some P) :
  ∃ U,InRow w K U:=by
 have L:Tryz.prog.cellsOf 146=4:=by kernel_rfl
 rcases open_slice Tryz.underlying25 o with ⟨c,_⟩ | ⟨a,d,C,m,n,D,W,c,_,V,T,z,_,I⟩
 ·simp at c
  subst c
  exact ⟨[],none,0,rfl,by simp,by simp,by simp,fun h=>absurd rfl h⟩
 ·simp at c
  subst c
  have O:d <= m:=by rw [z];split <;> omega
  rw [L] at I
  have r:∀ i,i < m -> ∃ u:In,u.s.size <= maxLen/\∀ j,j < 4 -> w.cell? (a.add (i * 4+j))=u.cs[j]?:=by
   intro i hi
   obtain ⟨N,Q,R⟩:=I i hi
   obtain ⟨u,rfl,M⟩:=Zkh R
   obtain ⟨_,F,g⟩:=World.cells?_some Q
   refine ⟨u,M,fun j J=>?_⟩
   have:=g j (by omega)
   rw [add_add] at this
   rw [this]
  haveI:Inhabited In:=⟨ZfA⟩
  obtain ⟨q,v⟩:=choose_lt r
  refine ⟨(List.range d).map q,some a,C,?_,?_,?_,?_,?_⟩
  ·simp
  ·exact ⟨by simp;omega,fun h=>by cases h⟩
  ·unfold maxLen at T;simp;omega
  ·intro x t
   simp at t
   obtain ⟨i,hi,rfl⟩:=t
   exact (v i (by omega)).1
  ·intro A
   have G:0 < d:=by
    rcases Nat.eq_zero_or_pos d with o | o
    ·subst o;simp at A
    ·exact o
   obtain ⟨b,p,l⟩:=a
   have y:=(v 0 (by omega)).2 0 (by omega)
   simp only [In.cs,List.getElem?_cons_zero] at y
   have f:l=none:=by simpa [Addr.add] using World.cell?_spot y
   subst f
   have S:=World.block_lt_of_cell? _ _ y
   refine ⟨b,p,rfl,by simpa [Addr.add_lit] using S,fun i x hi=>?_⟩
   have B:i < d:=by
    have:=(List.getElem?_eq_some_iff.1 hi).1
    simpa using this
   have E:x=q i:=by
    rw [List.getElem?_map,List.getElem?_range B] at hi
    simpa using hi.symm
   subst E
   have e:∀ j,j < 4 -> w.cell? ⟨b,p+i * 4+j,none⟩=(q i).cs[j]?:=fun j J=>by
    have:=(v i (by omega)).2 j J
    rw [Addr.add_lit] at this
    rw [<- this,Nat.add_assoc]
   exact ⟨e 0 (by omega),e 1 (by omega),e 2 (by omega),e 3 (by omega)⟩
end
section
variable {H:Type} {enc:TypeId × Value -> H} {w:World} {base:Nat} {spare:Nat -> Bool} {held:Bool}
theorem ZkA {b:Nat}{cs:List Value}{x:DataW H × List MemPlace}(h:DataW.trod enc Tryz.prog w base spare held b 149 cs=some x) :
  ∃ j:Df,cs=j.cs/\j.s.size <= maxLen:=by
 obtain ⟨q,n,_,_,e,a,c⟩:=DataW.trod_struct Tryz.underlying149 h
 rw [show Tryz.prog.cellsOf 149=3 by kernel_rfl] at e
 match cs,e with
 | [v0,v1,v2],_ =>
  have l:=c 0 _ rfl
  have k:=c 1 _ rfl
  have g:=c 2 _ rfl
  have m:Tryz.prog.cellsOf 3=1:=by kernel_rfl
  have t:Tryz.prog.cellsOf 9=1:=by kernel_rfl
  match q,a with
  | [y0,y1,y2],_ =>
   simp [m,t] at l k g
   obtain ⟨m0,f,_,p⟩:=DataW.trod_string Tryz.underlying9 l
   obtain ⟨r,d,_⟩:=DataW.trod_int Tryz.underlying3 k
   obtain ⟨o,i,_⟩:=DataW.trod_int Tryz.underlying3 g
   simp only [List.cons.injEq,and_true] at f d i
   subst f d i
   exact ⟨⟨m0,r,o⟩,rfl,p⟩
theorem Zkr {k:Nat}{K:Value}{P:DataW H × List MemPlace}(o:DataW.trod enc Tryz.prog w base spare held k 26 [K]=some P) :
  ∃ U,DfRow w K U:=by
 have L:Tryz.prog.cellsOf 149=3:=by kernel_rfl
 rcases open_slice Tryz.underlying26 o with ⟨c,_⟩ | ⟨a,d,C,m,n,D,W,c,_,V,T,z,_,I⟩
 ·simp at c
  subst c
  exact ⟨[],none,0,rfl,by simp,by simp,by simp,fun h=>absurd rfl h⟩
 ·simp at c
  subst c
  have O:d <= m:=by rw [z];split <;> omega
  rw [L] at I
  have r:∀ i,i < m -> ∃ u:Df,u.s.size <= maxLen/\∀ j,j < 3 -> w.cell? (a.add (i * 3+j))=u.cs[j]?:=by
   intro i hi
   obtain ⟨N,Q,R⟩:=I i hi
   obtain ⟨u,rfl,M⟩:=ZkA R
   obtain ⟨_,F,g⟩:=World.cells?_some Q
   refine ⟨u,M,fun j J=>?_⟩
   have:=g j (by omega)
   rw [add_add] at this
   rw [this]
  haveI:Inhabited Df:=⟨ZfE⟩
  obtain ⟨q,v⟩:=choose_lt r
  refine ⟨(List.range d).map q,some a,C,?_,?_,?_,?_,?_⟩
  ·simp
  ·exact ⟨by simp;omega,fun h=>by cases h⟩
  ·unfold maxLen at T;simp;omega
  ·intro x t
   simp at t
   obtain ⟨i,hi,rfl⟩:=t
   exact (v i (by omega)).1
  ·intro A
   have G:0 < d:=by
    rcases Nat.eq_zero_or_pos d with o | o
    ·subst o;simp at A
    ·exact o
   obtain ⟨b,p,l⟩:=a
   have y:=(v 0 (by omega)).2 0 (by omega)
   simp only [Df.cs,List.getElem?_cons_zero] at y
   have f:l=none:=by simpa [Addr.add] using World.cell?_spot y
   subst f
   have S:=World.block_lt_of_cell? _ _ y
   refine ⟨b,p,rfl,by simpa [Addr.add_lit] using S,fun i x hi=>?_⟩
   have B:i < d:=by
    have:=(List.getElem?_eq_some_iff.1 hi).1
    simpa using this
   have E:x=q i:=by
    rw [List.getElem?_map,List.getElem?_range B] at hi
    simpa using hi.symm
   subst E
   have e:∀ j,j < 3 -> w.cell? ⟨b,p+i * 3+j,none⟩=(q i).cs[j]?:=fun j J=>by
    have:=(v i (by omega)).2 j J
    rw [Addr.add_lit] at this
    rw [<- this,Nat.add_assoc]
   exact ⟨e 0 (by omega),e 1 (by omega),e 2 (by omega)⟩
end
end Go.Proofs.YtfeodlbpnghakaaGreatDoor
