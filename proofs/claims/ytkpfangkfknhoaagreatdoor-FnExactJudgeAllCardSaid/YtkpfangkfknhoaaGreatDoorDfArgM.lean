/-
  Texts that stood by themselves, laid into one.
-/
import Derived.Test.YtkpfangkfknhoaaGreatDoorJgPM
import Derived.Test.YtkpfangkfknhoaaGreatDoorShapeM
import Derived.ProofKit
import Derived.OpenShut
import Derived.ShutString
import Derived.ChangeOld
import Derived.Below
import Derived.Deep.Slices
import Derived.ChangeSame
import Derived.Test.YtkpfangkfknhoaaGreatDoorPcMarkM
import Derived.Test.YtkpfangkfknhoaaGreatDoorInM
import Derived.Test.YtkpfangkfknhoaaGreatDoorMcTM
import Derived.Test.YtkpfangkfknhoaaGreatDoorSInstrM
/-
  The law FnExactJudgeAll, walked: for every world it returns true and writes nothing that was there. The variable errors.errorType reads as it is laid.
-/
set_option maxRecDepth 100000
set_option maxHeartbeats 6400000
namespace Go.Proofs.YtkpfangkfknhoaaGreatDoor
open Go.Proofs.Tryz
open Go.RowKit
theorem ZkV {t0 t2 t3 t4 t6 t7 t8 t9 ah X af ag ai ae aa aj ab ad Y ac ak ao am al an:Value}{fs:List Deferred}(y0 Z C:Nat)(b z i m g U f p M S a N l n c T v q:Option Addr)(H J P L O u G o k D j r I F t x y A:Nat)(d:Wd)(w:World)(Q:Exit -> Act -> World -> Prop)(hy:w.heap[y0]? = some (.cells #[.slice b d.ns.length H,.slice i d.is.length P,.slice g d.ds.length O,.int .i64 d.pl,.slice f d.hs.length G,.slice M d.ls.length k,.slice a d.gs.length j,.slice l d.ps.length I,.int .i64 d.nx,.slice c d.ga.length t,.slice v d.tk.length y] 50 (0,0)))(hk:w.heap[Z]? = some (.cells #[.slice z d.ns.length J,.slice m d.is.length L,.slice U d.ds.length u,.int .i64 d.pl,.slice p d.hs.length o,.slice S d.ls.length D,.slice N d.gs.length r,.slice n d.ps.length F,.int .i64 d.nx,.slice T d.ga.length x,.slice q d.tk.length A] 35 (0,0)))(E:WR C w (.slice b d.ns.length H) (.slice i d.is.length P) (.slice g d.ds.length O) (.slice f d.hs.length G) (.slice M d.ls.length k) (.slice a d.gs.length j) (.slice l d.ps.length I) (.slice c d.ga.length t) (.slice v d.tk.length y) d)(R:WR 0 w (.slice z d.ns.length J) (.slice m d.is.length L) (.slice U d.ds.length u) (.slice p d.hs.length o) (.slice S d.ls.length D) (.slice N d.gs.length r) (.slice n d.ps.length F) (.slice T d.ga.length x) (.slice q d.tk.length A) d)(Sm:SmW d)(hQ:∀ u22 u23 u24 u25 (W:World),Below w.heap.size w W -> Q .normal ⟨#[t0,.pointer (some ⟨Z,0,none⟩),t2,t3,t4,.pointer (some ⟨y0,0,none⟩),t6,t7,t8,t9,ah,X,af,ag,ai,ae,aa,aj,ab,ad,Y,ac,u22,u23,u24,u25,.bool false],fs⟩ W) :
  (Code.region 10 (List.toArray (⟨some 22,.load 50 (.tmp 5),50, "exact.go:4328", #[],none⟩ :: ⟨some 23,.load 35 (.tmp 1),35, "exact.go:4328", #[],none⟩ :: ⟨some 24,.call { callee:=.value (.func 6),args:=#[.tmp 23],argTypes:=#[35] },50, "exact.go:4328", #[⟨1,.data⟩],none⟩ :: ⟨some 25,.call { callee:=.value (.func 8),args:=#[.tmp 22,.tmp 24],argTypes:=#[50,50] },4, "exact.go:4328", #[⟨0,.data⟩,⟨2,.data⟩,⟨2,.chain⟩],none⟩ :: ⟨some 26,.unOp .not 4 (.tmp 25),4, "exact.go:4328", #[⟨3,.data⟩],none⟩ :: [])) true).wp prog Q ⟨#[t0,.pointer (some ⟨Z,0,none⟩),t2,t3,t4,.pointer (some ⟨y0,0,none⟩),t6,t7,t8,t9,ah,X,af,ag,ai,ae,aa,aj,ab,ad,Y,ac,ak,ao,am,al,an],fs⟩ w:=by
 have hS:∀ w',Below w.heap.size w w' -> (w'.heap[y0]? = some (.cells #[.slice b d.ns.length H,.slice i d.is.length P,.slice g d.ds.length O,.int .i64 d.pl,.slice f d.hs.length G,.slice M d.ls.length k,.slice a d.gs.length j,.slice l d.ps.length I,.int .i64 d.nx,.slice c d.ga.length t,.slice v d.tk.length y] 50 (0,0))/\w'.heap[Z]? = some (.cells #[.slice z d.ns.length J,.slice m d.is.length L,.slice U d.ds.length u,.int .i64 d.pl,.slice p d.hs.length o,.slice S d.ls.length D,.slice N d.gs.length r,.slice n d.ps.length F,.int .i64 d.nx,.slice T d.ga.length x,.slice q d.tk.length A] 35 (0,0))):=fun w' V=>⟨Zaa hy V,Zaa hk V⟩
 have B:Below w.heap.size w w.drew:=Zar w;refine rg hS B (by kernel_rfl) fun s=>?_
 refine tk 0 (.agg #[.slice b d.ns.length H,.slice i d.is.length P,.slice g d.ds.length O,.int .i64 d.pl,.slice f d.hs.length G,.slice M d.ls.length k,.slice a d.gs.length j,.slice l d.ps.length I,.int .i64 d.nx,.slice c d.ga.length t,.slice v d.tk.length y]) nz (by kernel_rfl) (ZaC (by rfl) 50 _ rfl y0 rfl #[.slice b d.ns.length H,.slice i d.is.length P,.slice g d.ds.length O,.int .i64 d.pl,.slice f d.hs.length G,.slice M d.ls.length k,.slice a d.gs.length j,.slice l d.ps.length I,.int .i64 d.nx,.slice c d.ga.length t,.slice v d.tk.length y] 50 _ (fun _ h=>h.1) underlying50 rfl ZnQ) ‹_› ?_;simp only [Act.put,sit,sc0,scs]
 refine tk 1 (.agg #[.slice z d.ns.length J,.slice m d.is.length L,.slice U d.ds.length u,.int .i64 d.pl,.slice p d.hs.length o,.slice S d.ls.length D,.slice N d.gs.length r,.slice n d.ps.length F,.int .i64 d.nx,.slice T d.ga.length x,.slice q d.tk.length A]) (n1 nz) (by kernel_rfl) (ZaC (by rfl) 35 _ rfl Z rfl #[.slice z d.ns.length J,.slice m d.is.length L,.slice U d.ds.length u,.int .i64 d.pl,.slice p d.hs.length o,.slice S d.ls.length D,.slice N d.gs.length r,.slice n d.ps.length F,.int .i64 d.nx,.slice T d.ga.length x,.slice q d.tk.length A] 35 _ (fun _ h=>h.2) underlying35 rfl ZnG) ‹_› ?_;simp only [Act.put,sit,sc0,scs];refine wpAnyH_ready (rs:=[2]) (by kernel_rfl) (by simp) ?_;refine AllReadyH.cons rfl (fun K hK=>?_) AllReadyH.nil
 go_simp
 go_wp2_with (go_at_call 6;with_reducible refine (ZcO _ _ _ _ _ _ _ _ _ d 0 _ (R.below B) Sm).mono ?_;rintro e wA ⟨un,ui,uf,uh,ul,ug,up,ua,ut,rfl,RT,V⟩)
 replace B:=B.trans (V.mono B.size);obtain ⟨⟨ar,aF,rfl⟩,⟨ay,az,rfl⟩,⟨aw,aH,rfl⟩,⟨aC,aB,rfl⟩,⟨aG,aI,rfl⟩,⟨aq,av,rfl⟩,⟨aJ,aA,rfl⟩,⟨aE,ap,rfl⟩,⟨au,aD,rfl⟩⟩:=RT.form;clear V;refine hK.out _ _ (hS _ B) (fun s=>?_);clear hK;refine wpAnyH_ready (rs:=[3]) (by kernel_rfl) (by simp) ?_;refine AllReadyH.cons rfl (fun K hK=>?_) AllReadyH.nil
 go_simp
 go_wp2_with (go_at_call 8;with_reducible refine (ZgF _ _ _ _ _ _ _ _ _ _ _ _ _ _ _ _ _ _ d C _ _ (E.below B) RT).mono ?_;rintro e wZ ⟨rfl,V⟩)
 replace B:=B.trans (V.mono B.size);clear V;refine hK.out _ _ (hS _ B) (fun s=>?_);clear hK;refine tk 4 (.bool false) (n4 nz) (by kernel_rfl) (Or.inl ⟨by rfl,by intro w ax;go_simp⟩) ‹_› ?_;simp only [Act.put,sit,sc0,scs];refine wpAnyH_done (by kernel_rfl) ?_ _;exact NoPanic.normal (hQ _ _ _ _ _ B)
theorem Zjk (vn vi vf vh vl vg vp Z vt:Value)(d:Wd)(w:World)(R:WR 0 w vn vi vf vh vl vg vp Z vt d)(hg:ErrT w) :
  Calls prog 3 #[.agg #[vn,vi,vf,.int .i64 d.pl,vh,vl,vg,vp,.int .i64 d.nx,Z,vt]] w fun e w'=>e=.returned (.bool true)/\Below w.heap.size w w':=by
 obtain ⟨⟨s,g,rfl⟩,⟨j,h,rfl⟩,⟨z,f,rfl⟩,⟨m,l,rfl⟩,⟨x,u,rfl⟩,⟨p,o,rfl⟩,⟨k,v,rfl⟩,⟨y,i,rfl⟩,⟨n,t,rfl⟩⟩:=R.form;have a:Below w.heap.size w (w.alloc (Obj.cells #[.slice s d.ns.length g,.slice j d.is.length h,.slice z d.ds.length f,.int .i64 d.pl,.slice m d.hs.length l,.slice x d.ls.length u,.slice p d.gs.length o,.slice k d.ps.length v,.int .i64 d.nx,.slice y d.ga.length i,.slice n d.tk.length t] 35)):=(cj _ _).alloc (ce _) _
 have c:(w.alloc (Obj.cells #[.slice s d.ns.length g,.slice j d.is.length h,.slice z d.ds.length f,.int .i64 d.pl,.slice m d.hs.length l,.slice x d.ls.length u,.slice p d.gs.length o,.slice k d.ps.length v,.int .i64 d.nx,.slice y d.ga.length i,.slice n d.tk.length t] 35)).heap[w.heap.size]? = some (Obj.cells #[.slice s d.ns.length g,.slice j d.is.length h,.slice z d.ds.length f,.int .i64 d.pl,.slice m d.hs.length l,.slice x d.ls.length u,.slice p d.gs.length o,.slice k d.ps.length v,.int .i64 d.nx,.slice y d.ga.length i,.slice n d.tk.length t] 35):=co _ _
 go_enter func3,ntmps3
 go_wp2_with (refine cE rfl 35 _ rfl w.heap.size rfl 35 #[.slice s d.ns.length g,.slice j d.is.length h,.slice z d.ds.length f,.int .i64 d.pl,.slice m d.hs.length l,.slice x d.ls.length u,.slice p d.gs.length o,.slice k d.ps.length v,.int .i64 d.nx,.slice y d.ga.length i,.slice n d.tk.length t] (0,0) _ c underlying35 rfl ZnG ?_)
 refine (Zg4 _ _ _ _ _ _ _ _ _ d 0 _ (R.below a)).mono ?_;rintro e w1 ⟨r,rfl,h0,h1,h2,b⟩;replace c:=Zaa c b;replace a:=a.trans (b.mono a.size);clear b
 by_cases hr:r < 0
 ·go_wp2
  go_ret;exact ⟨rfl,a⟩
 ·have Y:=h2 (by omega)
  go_wp2_with (refine cE rfl 35 _ rfl w.heap.size rfl 35 #[.slice s d.ns.length g,.slice j d.is.length h,.slice z d.ds.length f,.int .i64 d.pl,.slice m d.hs.length l,.slice x d.ls.length u,.slice p d.gs.length o,.slice k d.ps.length v,.int .i64 d.nx,.slice y d.ga.length i,.slice n d.tk.length t] (0,0) _ c underlying35 rfl ZnG ?_)
  refine (ZcO _ _ _ _ _ _ _ _ _ d 0 _ (R.below a) Y).mono ?_;rintro e w2 ⟨un,ui,uf,uh,ul,ug,up,ua,ut,rfl,T,b⟩;replace c:=Zaa c b;replace a:=a.trans (b.mono a.size);clear b;go_wp2_with fail;refine (ZjX _ _ _ _ _ _ _ _ _ d _ (T.mono (Nat.zero_le _)) Y).mono ?_;rintro e w3 ⟨rfl,b⟩;replace c:=Zaa c b;replace a:=a.trans (b.mono a.size);clear b T
  go_wp2_with (refine cE rfl 35 _ rfl w.heap.size rfl 35 #[.slice s d.ns.length g,.slice j d.is.length h,.slice z d.ds.length f,.int .i64 d.pl,.slice m d.hs.length l,.slice x d.ls.length u,.slice p d.gs.length o,.slice k d.ps.length v,.int .i64 d.nx,.slice y d.ga.length i,.slice n d.tk.length t] (0,0) _ c underlying35 rfl ZnG ?_)
  refine (ZcO _ _ _ _ _ _ _ _ _ d 0 _ (R.below a) Y).mono ?_;rintro e X ⟨un,ui,uf,uh,ul,ug,up,ua,ut,rfl,T,b⟩;replace c:=Zaa c b;replace a:=a.trans (b.mono a.size);clear b;obtain ⟨⟨B,S,rfl⟩,⟨G,O,rfl⟩,⟨F,M,rfl⟩,⟨E,Q,rfl⟩,⟨J,K,rfl⟩,⟨A,H,rfl⟩,⟨P,D,rfl⟩,⟨C,N,rfl⟩,⟨I,L,rfl⟩⟩:=T.form;have b:=Zap X (Obj.cells #[.slice B d.ns.length S,.slice G d.is.length O,.slice F d.ds.length M,.int .i64 d.pl,.slice E d.hs.length Q,.slice J d.ls.length K,.slice A d.gs.length H,.slice P d.ps.length D,.int .i64 d.nx,.slice C d.ga.length N,.slice I d.tk.length L] 50)
  have V:(X.alloc (Obj.cells #[.slice B d.ns.length S,.slice G d.is.length O,.slice F d.ds.length M,.int .i64 d.pl,.slice E d.hs.length Q,.slice J d.ls.length K,.slice A d.gs.length H,.slice P d.ps.length D,.int .i64 d.nx,.slice C d.ga.length N,.slice I d.tk.length L] 50)).heap[X.heap.size]? = some (Obj.cells #[.slice B d.ns.length S,.slice G d.is.length O,.slice F d.ds.length M,.int .i64 d.pl,.slice E d.hs.length Q,.slice J d.ls.length K,.slice A d.gs.length H,.slice P d.ps.length D,.int .i64 d.nx,.slice C d.ga.length N,.slice I d.tk.length L] 50):=co _ _;replace c:=Zaa c b;replace a:=a.trans (b.mono a.size);replace T:=T.below b;clear b
  obtain ⟨W5,U⟩:∃ W5,X.alloc (Obj.cells #[.slice B d.ns.length S,.slice G d.is.length O,.slice F d.ds.length M,.int .i64 d.pl,.slice E d.hs.length Q,.slice J d.ls.length K,.slice A d.gs.length H,.slice P d.ps.length D,.int .i64 d.nx,.slice C d.ga.length N,.slice I d.tk.length L] 50)=W5:=⟨_,rfl⟩;rw [U] at c V a T
  go_wp2_with (refine cE rfl 50 _ rfl X.heap.size rfl 50 #[.slice B d.ns.length S,.slice G d.is.length O,.slice F d.ds.length M,.int .i64 d.pl,.slice E d.hs.length Q,.slice J d.ls.length K,.slice A d.gs.length H,.slice P d.ps.length D,.int .i64 d.nx,.slice C d.ga.length N,.slice I d.tk.length L] (0,0) _ (by first | exact V | (rw [U];exact V)) underlying50 rfl ZnQ ?_)
  first | rw [U] | skip
  refine (Zky _ _ _ _ _ _ _ _ _ d _ (T.mono (Nat.zero_le _)) Y (hg.below a (ce _))).mono ?_;rintro e w6 ⟨rfl,b⟩;replace c:=Zaa c b;replace V:=Zaa V b;replace a:=a.trans (b.mono a.size);replace T:=T.below b;clear b U;obtain ⟨q,hq⟩:∃ q,(((Zaq d && ordB d) && oneB d) && queB d)=q:=⟨_,rfl⟩;rw [hq];clear hq;have aa:(q != q)=false:=by simp
  go_wp2_with fail;refine ZkV X.heap.size w.heap.size _ B s G j F z E m J x A p P k C y I n S g O h M f Q l K u H o D v N i L t d w6 _ V c T (R.below a) Y ?_;intro u22 u23 u24 u25 W hW;replace a:=a.trans (hW.mono a.size);go_wp2;go_ret;exact ⟨rfl,a⟩
end Go.Proofs.YtkpfangkfknhoaaGreatDoor
namespace Go.Proofs.YtkpfangkfknhoaaGreatDoor
open Go.Proofs.Tryz
open Go.ChangeShapes Go.WideShapes Go.ChangeAt Go.RowKit Go.Deep
theorem ZeM:laidOutB prog=true:=by kernel_rfl
section
variable {H:Type} {enc:TypeId × Value -> H} {w:World} {base:Nat} {spare:Nat -> Bool} {held:Bool}
theorem ZhZ {d:Nat}{cs:List Value}{x:DataW H × List MemPlace}(h:DataW.trod enc prog w base spare held d 177 cs=some x) :
  ∃ t:Nd,cs=t.cs/\t.s.size <= maxLen:=by
 obtain ⟨A,n,_,_,j,c,e⟩:=DataW.trod_struct underlying177 h;rw [show prog.cellsOf 177=5 by kernel_rfl] at j
 match cs,j with
 | [v0,v1,v2,v3,v4],_ =>
  have r:=e 0 _ rfl;have o:=e 1 _ rfl;have q:=e 2 _ rfl;have i:=e 3 _ rfl;have u:=e 4 _ rfl;have y:prog.cellsOf 3=1:=by kernel_rfl
  have z:prog.cellsOf 9=1:=by kernel_rfl
  match A,c with
  | [y0,y1,y2,y3,y4],_ =>
   simp [y,z] at r o q i u;obtain ⟨k,g,_⟩:=DataW.trod_int underlying3 r;obtain ⟨m,f,_⟩:=DataW.trod_int underlying3 o;obtain ⟨s,l,_,B⟩:=DataW.trod_string underlying9 q;obtain ⟨a,p,_⟩:=DataW.trod_int underlying3 i;obtain ⟨b,v,_⟩:=DataW.trod_int underlying3 u;simp only [List.cons.injEq,and_true] at g f l p v;subst g f l p v;exact ⟨⟨k,m,s,a,b⟩,rfl,B⟩
end
section
variable {H:Type} {enc:TypeId × Value -> H} {w:World} {base:Nat} {spare:Nat -> Bool} {held:Bool}
theorem Zhc {b:Nat}{cs:List Value}{x:DataW H × List MemPlace}(h:DataW.trod enc prog w base spare held b 91 cs=some x) :
  ∃ d:Pc,cs=d.cs/\d.s.size <= maxLen:=by
 obtain ⟨m,n,_,_,f,a,j⟩:=DataW.trod_struct underlying91 h;rw [show prog.cellsOf 91=2 by kernel_rfl] at f
 match cs,f with
 | [v0,v1],_ =>
  have c:=j 0 _ rfl;have g:=j 1 _ rfl;have k:prog.cellsOf 3=1:=by kernel_rfl
  have l:prog.cellsOf 9=1:=by kernel_rfl
  match m,a with
  | [y0,y1],_ =>
   simp [k,l] at c g;obtain ⟨m0,i,_⟩:=DataW.trod_int underlying3 c;obtain ⟨o,e,_,p⟩:=DataW.trod_string underlying9 g;simp only [List.cons.injEq,and_true] at i e;subst i e;exact ⟨⟨m0,o⟩,rfl,p⟩
theorem Zlx {r:Nat}{J:Value}{U:DataW H × List MemPlace}(k:DataW.trod enc prog w base spare held r 86 [J]=some U) :
  ∃ N,PcRow w J N:=by
 have O:prog.cellsOf 91=2:=by kernel_rfl
 rcases open_slice underlying86 k with ⟨c,_⟩ | ⟨a,d,E,m,n,D,W,c,_,V,M,A,_,K⟩
 ·simp at c
  subst c;exact ⟨[],none,0,rfl,by simp,by simp,by simp,fun h=>absurd rfl h⟩
 ·simp at c
  subst c;have S:d <= m:=by rw [A];split <;> omega
  rw [O] at K
  have l:∀ i,i < m -> ∃ u:Pc,u.s.size <= maxLen/\∀ j,j < 2 -> w.cell? (a.add (i * 2+j))=u.cs[j]?:=by
   intro i hi;obtain ⟨Q,R,L⟩:=K i hi;obtain ⟨u,rfl,P⟩:=Zhc L;obtain ⟨_,G,g⟩:=World.cells?_some R;refine ⟨u,P,fun j F=>?_⟩;have:=g j (by omega);rw [add_add] at this;rw [this]
  haveI:Inhabited Pc:=⟨Zge⟩
  obtain ⟨q,y⟩:=choose_lt l;refine ⟨(List.range d).map q,some a,E,?_,?_,?_,?_,?_⟩
  ·simp
  ·exact ⟨by simp;omega,fun h=>by cases h⟩
  ·unfold maxLen at M;simp;omega
  ·intro x p
   simp at p;obtain ⟨i,hi,rfl⟩:=p;exact (y i (by omega)).1
  ·intro v
   have I:0 < d:=by
    rcases Nat.eq_zero_or_pos d with k | k
    ·subst k;simp at v
    ·exact k
   obtain ⟨b,t,o⟩:=a;have B:=(y 0 (by omega)).2 0 (by omega);simp only [Pc.cs,List.getElem?_cons_zero] at B;have f:o=none:=by simpa [Addr.add] using World.cell?_spot B
   subst f;have T:=World.block_lt_of_cell? _ _ B;refine ⟨b,t,rfl,by simpa [Addr.add_lit] using T,fun i x hi=>?_⟩
   have z:i < d:=by
    have:=(List.getElem?_eq_some_iff.1 hi).1
    simpa using this
   have C:x=q i:=by
    rw [List.getElem?_map,List.getElem?_range z] at hi
    simpa using hi.symm
   subst C
   have e:∀ j,j < 2 -> w.cell? ⟨b,t+i * 2+j,none⟩=(q i).cs[j]?:=fun j F=>by
    have:=(y i (by omega)).2 j F;rw [Addr.add_lit] at this;rw [<- this,Nat.add_assoc]
   exact ⟨e 0 (by omega),e 1 (by omega)⟩
end
section
variable {H:Type} {enc:TypeId × Value -> H} {w:World} {base:Nat} {spare:Nat -> Bool} {held:Bool}
theorem Zhx {r:Nat}{J:Value}{U:DataW H × List MemPlace}(k:DataW.trod enc prog w base spare held r 22 [J]=some U) :
  ∃ N,NRow w J N:=by
 have O:prog.cellsOf 177=5:=by kernel_rfl
 rcases open_slice underlying22 k with ⟨c,_⟩ | ⟨a,d,E,m,n,D,W,c,_,V,M,A,_,K⟩
 ·simp at c
  subst c;exact ⟨[],none,0,rfl,by simp,by simp,by simp,fun h=>absurd rfl h⟩
 ·simp at c
  subst c;have S:d <= m:=by rw [A];split <;> omega
  rw [O] at K
  have l:∀ i,i < m -> ∃ u:Nd,u.s.size <= maxLen/\∀ j,j < 5 -> w.cell? (a.add (i * 5+j))=u.cs[j]?:=by
   intro i hi;obtain ⟨Q,R,L⟩:=K i hi;obtain ⟨u,rfl,P⟩:=ZhZ L;obtain ⟨_,G,g⟩:=World.cells?_some R;refine ⟨u,P,fun j F=>?_⟩;have:=g j (by omega);rw [add_add] at this;rw [this]
  haveI:Inhabited Nd:=⟨⟨0,0,ByteArray.empty,0,0⟩⟩
  obtain ⟨q,y⟩:=choose_lt l;refine ⟨(List.range d).map q,some a,E,?_,?_,?_,?_,?_⟩
  ·simp
  ·exact ⟨by simp;omega,fun h=>by cases h⟩
  ·unfold maxLen at M;simp;omega
  ·intro x p
   simp at p;obtain ⟨i,hi,rfl⟩:=p;exact (y i (by omega)).1
  ·intro v
   have I:0 < d:=by
    rcases Nat.eq_zero_or_pos d with k | k
    ·subst k;simp at v
    ·exact k
   obtain ⟨b,t,o⟩:=a;have B:=(y 0 (by omega)).2 0 (by omega);simp only [Nd.cs,List.getElem?_cons_zero] at B;have f:o=none:=by simpa [Addr.add] using World.cell?_spot B
   subst f;have T:=World.block_lt_of_cell? _ _ B;refine ⟨b,t,rfl,by simpa [Addr.add_lit] using T,fun i x hi=>?_⟩
   have z:i < d:=by
    have:=(List.getElem?_eq_some_iff.1 hi).1
    simpa using this
   have C:x=q i:=by
    rw [List.getElem?_map,List.getElem?_range z] at hi
    simpa using hi.symm
   subst C
   have e:∀ j,j < 5 -> w.cell? ⟨b,t+i * 5+j,none⟩=(q i).cs[j]?:=fun j F=>by
    have:=(y i (by omega)).2 j F;rw [Addr.add_lit] at this;rw [<- this,Nat.add_assoc]
   exact ⟨e 0 (by omega),e 1 (by omega),e 2 (by omega),e 3 (by omega),e 4 (by omega)⟩
end
section
variable {H:Type} {enc:TypeId × Value -> H} {w:World} {base:Nat} {spare:Nat -> Bool} {held:Bool}
theorem Zco {r:Nat}{G:Value}{S:DataW H × List MemPlace}(j:DataW.trod enc prog w base spare held r 80 [G]=some S) :
  ∃ M,StRow w G M:=by
 have N:prog.cellsOf 9=1:=by kernel_rfl
 rcases open_slice underlying80 j with ⟨c,_⟩ | ⟨a,d,E,m,n,D,U,c,_,T,L,A,_,J⟩
 ·simp at c
  subst c;exact ⟨[],none,0,rfl,by simp,by simp,by simp,fun h=>absurd rfl h⟩
 ·simp at c
  subst c;have Q:d <= m:=by rw [A];split <;> omega
  rw [N] at J
  have k:∀ i,i < m -> ∃ s:ByteArray,s.size <= maxLen/\w.cell? (a.add i)=some (.string s):=by
   intro i hi;obtain ⟨t,P,K⟩:=J i hi;obtain ⟨_,l,g⟩:=World.cells?_some P
   obtain ⟨u,rfl⟩:∃ u,t=[u]:=by
    match t,l with
    | [u],_=>exact ⟨u,rfl⟩
   obtain ⟨s,e,_,O⟩:=DataW.trod_string underlying9 K;simp only [List.cons.injEq,and_true] at e;subst e;have:=g 0 (by omega);rw [add_add] at this;simp only [Nat.mul_one,Nat.add_zero] at this;exact ⟨s,O,by rw [this];rfl⟩
  obtain ⟨q,y⟩:=choose_lt k;refine ⟨(List.range d).map q,some a,E,?_,?_,?_,?_,?_⟩
  ·simp
  ·exact ⟨by simp;omega,fun h=>by cases h⟩
  ·unfold maxLen at L;simp;omega
  ·intro x p
   simp at p;obtain ⟨i,hi,rfl⟩:=p;exact (y i (by omega)).1
  ·intro v
   have F:0 < d:=by
    rcases Nat.eq_zero_or_pos d with j | j
    ·subst j;simp at v
    ·exact j
   obtain ⟨b,B,o⟩:=a;have I:=(y 0 (by omega)).2;have f:o=none:=by simpa [Addr.add] using World.cell?_spot I
   subst f;have R:=World.block_lt_of_cell? _ _ I;refine ⟨b,B,rfl,by simpa [Addr.add_lit] using R,fun i x hi=>?_⟩
   have z:i < d:=by
    have:=(List.getElem?_eq_some_iff.1 hi).1
    simpa using this
   have C:x=q i:=by
    rw [List.getElem?_map,List.getElem?_range z] at hi
    simpa using hi.symm
   subst C;have:=(y i (by omega)).2
   rwa [Addr.add_lit] at this
end
section
variable {H:Type} {enc:TypeId × Value -> H} {w:World} {base:Nat} {spare:Nat -> Bool} {held:Bool}
theorem Zic {c:Nat}{G l A M L F h i:Value}{x:DataW H × List MemPlace}(Z:DataW.trod enc prog w base spare held c 79 [G,l,A,M,L,F,h,i]=some x) :
  ∃ f,∃ m:Mc,l=.int .i64 m.p/\A=.int .i64 m.s/\M=.int .i64 m.e/\L=.int .i64 m.d/\F=.int .i64 m.t/\h=.int .i64 m.q/\i=.int .i64 m.r/\NRow w G f:=by
 obtain ⟨f,n,_,_,hl,b,a⟩:=DataW.trod_struct underlying79 Z;have E:=a 0 _ rfl;have z:=a 1 _ rfl;have D:=a 2 _ rfl;have o:=a 3 _ rfl;have I:=a 4 _ rfl;have k:=a 5 _ rfl;have K:=a 6 _ rfl;have J:=a 7 _ rfl;have R:prog.cellsOf 24=1:=by kernel_rfl
 have S:prog.cellsOf 3=1:=by kernel_rfl
 match f,b with
 | [y0,y1,y2,y3,y4,y5,y6,y7],_ =>
  simp [R,S] at E z D o I k K J;obtain ⟨U,g,_⟩:=DataW.trod_int underlying3 z;obtain ⟨T,v,_⟩:=DataW.trod_int underlying3 D;obtain ⟨P,C,_⟩:=DataW.trod_int underlying3 o;obtain ⟨Y,N,_⟩:=DataW.trod_int underlying3 I;obtain ⟨Q,B,_⟩:=DataW.trod_int underlying3 k;obtain ⟨X,u,_⟩:=DataW.trod_int underlying3 K;obtain ⟨O,y,_⟩:=DataW.trod_int underlying3 J;simp only [List.cons.injEq,and_true] at g v C N B u y;subst g v C N B u y;obtain ⟨z0,n',_,_,j⟩:=trod_struct1 underlying24 E;have V:prog.cellsOf 22=1:=by kernel_rfl
  simp [V] at j;obtain ⟨ns,W⟩:=Zhx j;exact ⟨ns,⟨U,T,P,Y,Q,X,O⟩,rfl,rfl,rfl,rfl,rfl,rfl,rfl,W⟩
end
section
variable {H:Type} {enc:TypeId × Value -> H} {w:World} {base:Nat} {spare:Nat -> Bool} {held:Bool}
theorem Zlh {b:Nat}{cs:List Value}{x:DataW H × List MemPlace}(h:DataW.trod enc prog w base spare held b 141 cs=some x) :
  ∃ o:In,cs=o.cs/\o.s.size <= maxLen:=by
 obtain ⟨u,n,_,_,g,a,c⟩:=DataW.trod_struct underlying141 h;rw [show prog.cellsOf 141=4 by kernel_rfl] at g
 match cs,g with
 | [v0,v1,v2,v3],_ =>
  have m:=c 0 _ rfl;have j:=c 1 _ rfl;have l:=c 2 _ rfl;have f:=c 3 _ rfl;have r:prog.cellsOf 3=1:=by kernel_rfl
  have t:prog.cellsOf 9=1:=by kernel_rfl
  match u,a with
  | [y0,y1,y2,y3],_ =>
   simp [r,t] at m j l f;obtain ⟨m0,e,_⟩:=DataW.trod_int underlying3 m;obtain ⟨v,d,_⟩:=DataW.trod_int underlying3 j;obtain ⟨q,i,_⟩:=DataW.trod_int underlying3 l;obtain ⟨p,k,_,y⟩:=DataW.trod_string underlying9 f;simp only [List.cons.injEq,and_true] at e d i k;subst e d i k;exact ⟨⟨m0,v,q,p⟩,rfl,y⟩
theorem Zlv {r:Nat}{J:Value}{U:DataW H × List MemPlace}(k:DataW.trod enc prog w base spare held r 25 [J]=some U) :
  ∃ N,InRow w J N:=by
 have O:prog.cellsOf 141=4:=by kernel_rfl
 rcases open_slice underlying25 k with ⟨c,_⟩ | ⟨a,d,E,m,n,D,W,c,_,V,M,A,_,K⟩
 ·simp at c
  subst c;exact ⟨[],none,0,rfl,by simp,by simp,by simp,fun h=>absurd rfl h⟩
 ·simp at c
  subst c;have S:d <= m:=by rw [A];split <;> omega
  rw [O] at K
  have l:∀ i,i < m -> ∃ u:In,u.s.size <= maxLen/\∀ j,j < 4 -> w.cell? (a.add (i * 4+j))=u.cs[j]?:=by
   intro i hi;obtain ⟨Q,R,L⟩:=K i hi;obtain ⟨u,rfl,P⟩:=Zlh L;obtain ⟨_,G,g⟩:=World.cells?_some R;refine ⟨u,P,fun j F=>?_⟩;have:=g j (by omega);rw [add_add] at this;rw [this]
  haveI:Inhabited In:=⟨Zf7⟩
  obtain ⟨q,y⟩:=choose_lt l;refine ⟨(List.range d).map q,some a,E,?_,?_,?_,?_,?_⟩
  ·simp
  ·exact ⟨by simp;omega,fun h=>by cases h⟩
  ·unfold maxLen at M;simp;omega
  ·intro x p
   simp at p;obtain ⟨i,hi,rfl⟩:=p;exact (y i (by omega)).1
  ·intro v
   have I:0 < d:=by
    rcases Nat.eq_zero_or_pos d with k | k
    ·subst k;simp at v
    ·exact k
   obtain ⟨b,t,o⟩:=a;have B:=(y 0 (by omega)).2 0 (by omega);simp only [In.cs,List.getElem?_cons_zero] at B;have f:o=none:=by simpa [Addr.add] using World.cell?_spot B
   subst f;have T:=World.block_lt_of_cell? _ _ B;refine ⟨b,t,rfl,by simpa [Addr.add_lit] using T,fun i x hi=>?_⟩
   have z:i < d:=by
    have:=(List.getElem?_eq_some_iff.1 hi).1
    simpa using this
   have C:x=q i:=by
    rw [List.getElem?_map,List.getElem?_range z] at hi
    simpa using hi.symm
   subst C
   have e:∀ j,j < 4 -> w.cell? ⟨b,t+i * 4+j,none⟩=(q i).cs[j]?:=fun j F=>by
    have:=(y i (by omega)).2 j F;rw [Addr.add_lit] at this;rw [<- this,Nat.add_assoc]
   exact ⟨e 0 (by omega),e 1 (by omega),e 2 (by omega),e 3 (by omega)⟩
end
section
variable {H:Type} {enc:TypeId × Value -> H} {w:World} {base:Nat} {spare:Nat -> Bool} {held:Bool}
theorem ZkX {b:Nat}{cs:List Value}{x:DataW H × List MemPlace}(h:DataW.trod enc prog w base spare held b 144 cs=some x) :
  ∃ e:Df,cs=e.cs/\e.s.size <= maxLen:=by
 obtain ⟨q,n,_,_,g,a,c⟩:=DataW.trod_struct underlying144 h;rw [show prog.cellsOf 144=3 by kernel_rfl] at g
 match cs,g with
 | [v0,v1,v2],_ =>
  have d:=c 0 _ rfl;have j:=c 1 _ rfl;have l:=c 2 _ rfl;have o:prog.cellsOf 3=1:=by kernel_rfl
  have p:prog.cellsOf 9=1:=by kernel_rfl
  match q,a with
  | [y0,y1,y2],_ =>
   simp [o,p] at d j l;obtain ⟨m0,k,_,t⟩:=DataW.trod_string underlying9 d;obtain ⟨r,f,_⟩:=DataW.trod_int underlying3 j;obtain ⟨m,i,_⟩:=DataW.trod_int underlying3 l;simp only [List.cons.injEq,and_true] at k f i;subst k f i;exact ⟨⟨m0,r,m⟩,rfl,t⟩
theorem Zll {r:Nat}{J:Value}{U:DataW H × List MemPlace}(k:DataW.trod enc prog w base spare held r 26 [J]=some U) :
  ∃ N,DfRow w J N:=by
 have O:prog.cellsOf 144=3:=by kernel_rfl
 rcases open_slice underlying26 k with ⟨c,_⟩ | ⟨a,d,E,m,n,D,W,c,_,V,M,A,_,K⟩
 ·simp at c
  subst c;exact ⟨[],none,0,rfl,by simp,by simp,by simp,fun h=>absurd rfl h⟩
 ·simp at c
  subst c;have S:d <= m:=by rw [A];split <;> omega
  rw [O] at K
  have l:∀ i,i < m -> ∃ u:Df,u.s.size <= maxLen/\∀ j,j < 3 -> w.cell? (a.add (i * 3+j))=u.cs[j]?:=by
   intro i hi;obtain ⟨Q,R,L⟩:=K i hi;obtain ⟨u,rfl,P⟩:=ZkX L;obtain ⟨_,G,g⟩:=World.cells?_some R;refine ⟨u,P,fun j F=>?_⟩;have:=g j (by omega);rw [add_add] at this;rw [this]
  haveI:Inhabited Df:=⟨Zf5⟩
  obtain ⟨q,y⟩:=choose_lt l;refine ⟨(List.range d).map q,some a,E,?_,?_,?_,?_,?_⟩
  ·simp
  ·exact ⟨by simp;omega,fun h=>by cases h⟩
  ·unfold maxLen at M;simp;omega
  ·intro x p
   simp at p;obtain ⟨i,hi,rfl⟩:=p;exact (y i (by omega)).1
  ·intro v
   have I:0 < d:=by
    rcases Nat.eq_zero_or_pos d with k | k
    ·subst k;simp at v
    ·exact k
   obtain ⟨b,t,o⟩:=a;have B:=(y 0 (by omega)).2 0 (by omega);simp only [Df.cs,List.getElem?_cons_zero] at B;have f:o=none:=by simpa [Addr.add] using World.cell?_spot B
   subst f;have T:=World.block_lt_of_cell? _ _ B;refine ⟨b,t,rfl,by simpa [Addr.add_lit] using T,fun i x hi=>?_⟩
   have z:i < d:=by
    have:=(List.getElem?_eq_some_iff.1 hi).1
    simpa using this
   have C:x=q i:=by
    rw [List.getElem?_map,List.getElem?_range z] at hi
    simpa using hi.symm
   subst C
   have e:∀ j,j < 3 -> w.cell? ⟨b,t+i * 3+j,none⟩=(q i).cs[j]?:=fun j F=>by
    have:=(y i (by omega)).2 j F;rw [Addr.add_lit] at this;rw [<- this,Nat.add_assoc]
   exact ⟨e 0 (by omega),e 1 (by omega),e 2 (by omega)⟩
end
end Go.Proofs.YtkpfangkfknhoaaGreatDoor
