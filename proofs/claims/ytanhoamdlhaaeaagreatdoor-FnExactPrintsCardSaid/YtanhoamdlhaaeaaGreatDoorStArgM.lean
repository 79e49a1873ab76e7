/-
  Texts that stood by themselves, laid into one.
-/
import Derived.Test.YtanhoamdlhaaeaaGreatDoorMkDM
import Derived.Test.YtanhoamdlhaaeaaGreatDoorWWiM
import Derived.Test.YtanhoamdlhaaeaaGreatDoorMkYM
import Derived.Test.YtanhoamdlhaaeaaGreatDoorShapeM
import Derived.ProofKit
import Derived.OpenShut
import Derived.ShutString
import Derived.ChangeOld
import Derived.Below
import Derived.Deep.Slices
import Derived.ChangeSame
import Derived.Test.YtanhoamdlhaaeaaGreatDoorPcM
import Derived.Test.YtanhoamdlhaaeaaGreatDoorSubM
/-
  The law FnExactPrints, walked: at every argument it returns true and writes nothing that was there. The variable errors.errorType reads as it is laid.
-/
set_option maxRecDepth 100000
set_option maxHeartbeats 12800000
namespace Go.Proofs.YtanhoamdlhaaeaaGreatDoor
open Go.Proofs.Tryz
open Go.RowKit
theorem WI.below {lo hi c d e j k i m f n:Nat}{w A:World}{o q r v x u y s z:Value}(h:WI lo hi w o q r v x u y s z c d e j k i m f n)(b:Below w.heap.size w A):WI lo hi A o q r v x u y s z c d e j k i m f n :=
 have T:=TT.of_below (fun _=>False) lo hi b
 ⟨h.c1.below b,h.c2.below b,h.c3.below b,h.h.tt T (fun h=>h),h.l.tt T (fun h=>h),h.g.below b,h.p.below b,h.a.tt T (fun h=>h),h.t.tt T (fun h=>h),h.l1,h.l2,h.l3,h.lh,h.ll,h.lg,h.lp,h.la,h.lt⟩
theorem TT.own_out {T:TypeId -> Prop}{lo hi:Nat}{a b:World}{B k n:Nat}{t:TypeId}{v:Value}{l:List Value}(h:TT T lo hi a b)(o:a.ownsRow B t k v n l)(m:∀ g,v.ownBlock=some g -> g < lo \/ hi <= g):b.ownsRow B t k v n l:=by
 refine ⟨o.1,?_⟩;rcases o.2 with i | ⟨g,c,d,rfl,j,f,p⟩
 ·exact Or.inl i
 ·refine Or.inr ⟨g,c,d,rfl,j,(h.block g (bl f) ?_).trans f,p⟩
  rcases m g rfl with e | e
  ·exact Or.inl e
  ·exact Or.inr (Or.inl e)
theorem SOwn.row8 {w:World}{B n:Nat}{v:Value}(h:SOwn w B v (sm 1 n))(a:n <= 2097152):StRow w v (sm 1 n):=h.row (by rw [Za4];omega) (Zlq 1 n (by omega) (by omega))
theorem Zk3 {a b:World}{v i:Value}{m:List ByteArray}{B k n:Nat}{t:TypeId}{l:List Value}(h:m=[]/\b=a \/ m ≠ []/\a.grownBy b v.ownBlock)(o:a.ownsRow B t k i n l)(f:∀ g,i.ownBlock=some g -> v.ownBlock ≠ some g):b.ownsRow B t k i n l:=by
 rcases h with ⟨_,rfl⟩ | ⟨_,r⟩
 ·exact o
 ·refine ⟨o.1,?_⟩
  rcases o.2 with p | ⟨g,c,d,rfl,q,j,s⟩
  ·exact Or.inl p
  ·exact Or.inr ⟨g,c,d,rfl,q,(r.block g (bl j) (fun e=>f g rfl e.symm)).trans j,s⟩
theorem Zk2 {a b:World}{v:Value}{f:List ByteArray}{j:Nat}{d:Obj}(h:f=[]/\b=a \/ f ≠ []/\a.grownBy b v.ownBlock)(o:a.heap[j]? = some d)(c:v.ownBlock ≠ some j):b.heap[j]? = some d:=by
 rcases h with ⟨_,rfl⟩ | ⟨_,g⟩
 ·exact o
 ·exact (g.block j (bl o) (fun e=>c e.symm)).trans o
theorem Zk1 {a b e:World}{v:Value}{f:List ByteArray}{B:Nat}(h:f=[]/\b=a \/ f ≠ []/\a.grownBy b v.ownBlock)(d:Below B e a)(j:B <= a.heap.size)(c:∀ g,v.ownBlock=some g -> B <= g):Below B e b:=by
 rcases h with ⟨_,rfl⟩ | ⟨_,i⟩
 ·exact d
 ·exact d.grown i j c
theorem Zhm {t0 t1 t3 t4 t5 t6 t8 t9 Z aa ab ac ad ae af ag ah ai aj ak al am an ao ap aq ar au av a8 a9 ba bc bd aw ax ay az aA aB aC aD aE aF aG aH aI aJ aK aL aM aN aO aP aQ aR aS aT aU aV aW aX aY aZ a0 a1 a2 a3 a4 a5 a6 a7:Value}{fs:List Deferred}(y0 X C:Nat)(G j D g y b A f F i z c H k x a I l:Option Addr)(S s O q L n N p P r M o T t J m U u:Nat)(d:Wd)(w:World)(Q:Exit -> Act -> World -> Prop)(hy:w.heap[y0]? = some (.cells #[.slice G d.ns.length S,.slice D d.is.length O,.slice y d.ds.length L,.int .i64 d.pl,.slice A d.hs.length N,.slice F d.ls.length P,.slice z d.gs.length M,.slice H d.ps.length T,.int .i64 d.nx,.slice x d.ga.length J,.slice I d.tk.length U] 51 (0,0)))(hk:w.heap[X]? = some (.cells #[.slice j d.ns.length s,.slice g d.is.length q,.slice b d.ds.length n,.int .i64 d.pl,.slice f d.hs.length p,.slice i d.ls.length r,.slice c d.gs.length o,.slice k d.ps.length t,.int .i64 d.nx,.slice a d.ga.length m,.slice l d.tk.length u] 35 (0,0)))(E:WR C w (.slice G d.ns.length S) (.slice D d.is.length O) (.slice y d.ds.length L) (.slice A d.hs.length N) (.slice F d.ls.length P) (.slice z d.gs.length M) (.slice H d.ps.length T) (.slice x d.ga.length J) (.slice I d.tk.length U) d)(R:WR 0 w (.slice j d.ns.length s) (.slice g d.is.length q) (.slice b d.ds.length n) (.slice f d.hs.length p) (.slice i d.ls.length r) (.slice c d.gs.length o) (.slice k d.ps.length t) (.slice a d.ga.length m) (.slice l d.tk.length u) d)(Sm:SmW d)(hQ:∀ u31 u32 u33 u34 (W:World),Below w.heap.size w W -> Q .normal ⟨#[t0,t1,.pointer (some ⟨X,0,none⟩),t3,t4,t5,t6,.pointer (some ⟨y0,0,none⟩),t8,t9,Z,aa,ab,ac,ad,ae,af,ag,ah,ai,aj,ak,al,am,an,ao,ap,aq,ar,au,av,u31,u32,u33,u34,.bool false,aw,ax,ay,az,aA,aB,aC,aD,aE,aF,aG,aH,aI,aJ,aK,aL,aM,aN,aO,aP,aQ,aR,aS,aT,aU,aV,aW,aX,aY,aZ,a0,a1,a2,a3,a4,a5,a6,a7],fs⟩ W) :
  (Code.region 10 (List.toArray (⟨some 31,.load 51 (.tmp 7),51, "exact.go:4347", #[],none⟩ :: ⟨some 32,.load 35 (.tmp 2),35, "exact.go:4347", #[],none⟩ :: ⟨some 33,.call { callee:=.value (.func 6),args:=#[.tmp 32],argTypes:=#[35] },51, "exact.go:4347", #[⟨1,.data⟩],none⟩ :: ⟨some 34,.call { callee:=.value (.func 9),args:=#[.tmp 31,.tmp 33],argTypes:=#[51,51] },4, "exact.go:4347", #[⟨0,.data⟩,⟨2,.data⟩,⟨2,.chain⟩],none⟩ :: ⟨some 35,.unOp .not 4 (.tmp 34),4, "exact.go:4347", #[⟨3,.data⟩],none⟩ :: [])) true).wp prog Q ⟨#[t0,t1,.pointer (some ⟨X,0,none⟩),t3,t4,t5,t6,.pointer (some ⟨y0,0,none⟩),t8,t9,Z,aa,ab,ac,ad,ae,af,ag,ah,ai,aj,ak,al,am,an,ao,ap,aq,ar,au,av,a8,a9,ba,bc,bd,aw,ax,ay,az,aA,aB,aC,aD,aE,aF,aG,aH,aI,aJ,aK,aL,aM,aN,aO,aP,aQ,aR,aS,aT,aU,aV,aW,aX,aY,aZ,a0,a1,a2,a3,a4,a5,a6,a7],fs⟩ w:=by
 have hS:∀ w',Below w.heap.size w w' -> (w'.heap[y0]? = some (.cells #[.slice G d.ns.length S,.slice D d.is.length O,.slice y d.ds.length L,.int .i64 d.pl,.slice A d.hs.length N,.slice F d.ls.length P,.slice z d.gs.length M,.slice H d.ps.length T,.int .i64 d.nx,.slice x d.ga.length J,.slice I d.tk.length U] 51 (0,0))/\w'.heap[X]? = some (.cells #[.slice j d.ns.length s,.slice g d.is.length q,.slice b d.ds.length n,.int .i64 d.pl,.slice f d.hs.length p,.slice i d.ls.length r,.slice c d.gs.length o,.slice k d.ps.length t,.int .i64 d.nx,.slice a d.ga.length m,.slice l d.tk.length u] 35 (0,0))):=fun w' V=>⟨Zaf hy V,Zaf hk V⟩
 have B:Below w.heap.size w w.drew:=ZaE w;refine rg hS B (by kernel_rfl) fun v=>?_
 refine tk 0 (.agg #[.slice G d.ns.length S,.slice D d.is.length O,.slice y d.ds.length L,.int .i64 d.pl,.slice A d.hs.length N,.slice F d.ls.length P,.slice z d.gs.length M,.slice H d.ps.length T,.int .i64 d.nx,.slice x d.ga.length J,.slice I d.tk.length U]) Qz (by kernel_rfl) (ZbF (by rfl) 51 _ rfl y0 rfl #[.slice G d.ns.length S,.slice D d.is.length O,.slice y d.ds.length L,.int .i64 d.pl,.slice A d.hs.length N,.slice F d.ls.length P,.slice z d.gs.length M,.slice H d.ps.length T,.int .i64 d.nx,.slice x d.ga.length J,.slice I d.tk.length U] 51 _ (fun _ h=>h.1) underlying51 rfl Zl7) ‹_› ?_;simp only [Act.put,sit,sc0,scs]
 refine tk 1 (.agg #[.slice j d.ns.length s,.slice g d.is.length q,.slice b d.ds.length n,.int .i64 d.pl,.slice f d.hs.length p,.slice i d.ls.length r,.slice c d.gs.length o,.slice k d.ps.length t,.int .i64 d.nx,.slice a d.ga.length m,.slice l d.tk.length u]) (Qa Qz) (by kernel_rfl) (ZbF (by rfl) 35 _ rfl X rfl #[.slice j d.ns.length s,.slice g d.is.length q,.slice b d.ds.length n,.int .i64 d.pl,.slice f d.hs.length p,.slice i d.ls.length r,.slice c d.gs.length o,.slice k d.ps.length t,.int .i64 d.nx,.slice a d.ga.length m,.slice l d.tk.length u] 35 _ (fun _ h=>h.2) underlying35 rfl ZlO) ‹_› ?_;simp only [Act.put,sit,sc0,scs];refine wpAnyH_ready (rs:=[2]) (by kernel_rfl) (by simp) ?_;refine AllReadyH.cons rfl (fun K Y=>?_) AllReadyH.nil
 go_simp
 go_wp2_with (go_at_call 6;with_reducible refine (Zcg _ _ _ _ _ _ _ _ _ d 0 _ (R.below B) Sm).mono ?_;rintro e wA ⟨un,ui,uf,uh,ul,ug,up,ua,ut,rfl,RT,V⟩)
 replace B:=B.trans (V.mono B.size);obtain ⟨⟨bm,bw,rfl⟩,⟨bj,bt,rfl⟩,⟨bg,bq,rfl⟩,⟨bi,bs,rfl⟩,⟨bk,bu,rfl⟩,⟨bh,br,rfl⟩,⟨bn,bx,rfl⟩,⟨bf,bp,rfl⟩,⟨bo,bz,rfl⟩⟩:=RT.form;clear V;refine Y.out _ _ (hS _ B) (fun v=>?_);clear Y;refine wpAnyH_ready (rs:=[3]) (by kernel_rfl) (by simp) ?_;refine AllReadyH.cons rfl (fun K Y=>?_) AllReadyH.nil
 go_simp
 go_wp2_with (go_at_call 9;with_reducible refine (ZfG _ _ _ _ _ _ _ _ _ _ _ _ _ _ _ _ _ _ d C _ _ (E.below B) RT).mono ?_;rintro e wZ ⟨rfl,V⟩)
 replace B:=B.trans (V.mono B.size);clear V;refine Y.out _ _ (hS _ B) (fun v=>?_);clear Y;refine tk 4 (.bool false) (Qd Qz) (by kernel_rfl) (Or.inl ⟨by rfl,by intro w be;go_simp⟩) ‹_› ?_;simp only [Act.put,sit,sc0,scs];refine wpAnyH_done (by kernel_rfl) ?_ _;exact NoPanic.normal (hQ _ _ _ _ _ B)
theorem ZfS (vn vi vf vh vl vg vp va vt:Value)(d:Wd)(p:Int)(w:World)(R:WR 0 w vn vi vf vh vl vg vp va vt d)(hg:ErrT w) :
  Calls prog 3 #[.agg #[vn,vi,vf,.int .i64 d.pl,vh,vl,vg,vp,.int .i64 d.nx,va,vt],.int .i64 p] w fun e w'=>e=.returned (.bool true)/\Below w.heap.size w w':=by
 have z1:=R.rn.sz;have z2:=R.ri.sz;have z3:=R.rf.sz;obtain ⟨⟨q,C,rfl⟩,⟨n,z,rfl⟩,⟨k,v,rfl⟩,⟨m,y,rfl⟩,⟨o,A,rfl⟩,⟨l,x,rfl⟩,⟨s,D,rfl⟩,⟨j,u,rfl⟩,⟨t,F,rfl⟩⟩:=R.form;have b:Below w.heap.size w (w.alloc (Obj.cells #[.slice q d.ns.length C,.slice n d.is.length z,.slice k d.ds.length v,.int .i64 d.pl,.slice m d.hs.length y,.slice o d.ls.length A,.slice l d.gs.length x,.slice s d.ps.length D,.int .i64 d.nx,.slice j d.ga.length u,.slice t d.tk.length F] 35)):=(cf _ _).alloc (ce _) _
 have c:(w.alloc (Obj.cells #[.slice q d.ns.length C,.slice n d.is.length z,.slice k d.ds.length v,.int .i64 d.pl,.slice m d.hs.length y,.slice o d.ls.length A,.slice l d.gs.length x,.slice s d.ps.length D,.int .i64 d.nx,.slice j d.ga.length u,.slice t d.tk.length F] 35)).heap[w.heap.size]? = some (Obj.cells #[.slice q d.ns.length C,.slice n d.is.length z,.slice k d.ds.length v,.int .i64 d.pl,.slice m d.hs.length y,.slice o d.ls.length A,.slice l d.gs.length x,.slice s d.ps.length D,.int .i64 d.nx,.slice j d.ga.length u,.slice t d.tk.length F] 35):=cg _ _
 go_enter func3,ntmps3
 go_wp2_with (refine co rfl 35 _ rfl w.heap.size rfl 35 #[.slice q d.ns.length C,.slice n d.is.length z,.slice k d.ds.length v,.int .i64 d.pl,.slice m d.hs.length y,.slice o d.ls.length A,.slice l d.gs.length x,.slice s d.ps.length D,.int .i64 d.nx,.slice j d.ga.length u,.slice t d.tk.length F] (0,0) _ c underlying35 rfl ZlO ?_)
 refine (Zgc _ _ _ _ _ _ _ _ _ d 0 _ (R.below b)).mono ?_;rintro e w1 ⟨r,rfl,h0,h1,h2,a⟩;replace c:=Zaf c a;replace b:=b.trans (a.mono b.size);clear a
 by_cases hr:r < 0
 ·go_wp2
  go_ret;exact ⟨rfl,b⟩
 ·have Sm:=h2 (by omega)
  obtain ⟨ag,H⟩:=Zk8 R Sm p;obtain ⟨ts,ae⟩:∃ ts,prR d p=ts:=⟨_,rfl⟩;have SP:=fun B (W:World) vn vi vf vh vl vg vp va vt (E:WR B W vn vi vf vh vl vg vp va vt d)=>Zf8 vn vi vf vh vl vg vp va vt d p B W E Sm
  have IP:=fun B (W:World) vn vi vf vh vl vg vp va vt (E:WR B W vn vi vf vh vl vg vp va vt d) (a:Below w.heap.size w W)=>ZfM vn vi vf vh vl vg vp va vt d p B W E Sm (hg.below a (ce _))
  rw [ae] at SP IP ag H;clear ae
  go_wp2_with (refine co rfl 35 _ rfl w.heap.size rfl 35 #[.slice q d.ns.length C,.slice n d.is.length z,.slice k d.ds.length v,.int .i64 d.pl,.slice m d.hs.length y,.slice o d.ls.length A,.slice l d.gs.length x,.slice s d.ps.length D,.int .i64 d.nx,.slice j d.ga.length u,.slice t d.tk.length F] (0,0) _ c underlying35 rfl ZlO ?_)
  refine (Zcg _ _ _ _ _ _ _ _ _ d 0 _ (R.below b) Sm).mono ?_;rintro e w2 ⟨un,ui,uf,uh,ul,ug,up,ua,ut,rfl,i,a⟩;replace c:=Zaf c a;replace b:=b.trans (a.mono b.size);clear a;go_wp2_with fail;refine (SP _ _ _ _ _ _ _ _ _ _ _ i).mono ?_;rintro e w3 ⟨v0,rfl,f,a⟩;replace c:=Zaf c a;replace b:=b.trans (a.mono b.size);have an:w.heap.size < w3.heap.size:=ZbT c;have f0:∀ g,v0.ownBlock=some g -> w2.heap.size <= g/\g < w3.heap.size:=fun g e=>f.lt g e
  obtain ⟨y0,k0,rfl⟩:=Zad f;clear a i
  go_wp2_with (refine co rfl 35 _ rfl w.heap.size rfl 35 #[.slice q d.ns.length C,.slice n d.is.length z,.slice k d.ds.length v,.int .i64 d.pl,.slice m d.hs.length y,.slice o d.ls.length A,.slice l d.gs.length x,.slice s d.ps.length D,.int .i64 d.nx,.slice j d.ga.length u,.slice t d.tk.length F] (0,0) _ c underlying35 rfl ZlO ?_)
  refine (Zgf _ _ _ _ _ _ _ _ _ d 0 _ (R.below b) Sm).mono ?_;rintro e w4 ⟨un,ui,uf,uh,ul,ug,up,ua,ut,rfl,OT,a⟩;replace f:=Zac f a;have aj:=a.size;have i:=OT.wr Sm z1 z2 z3;have IT:=OT.wi Sm;clear OT;replace c:=Zaf c a;replace b:=b.trans (a.mono b.size);clear a;obtain ⟨⟨O,aa,rfl⟩,⟨M,Y,rfl⟩,⟨J,U,rfl⟩,⟨L,X,rfl⟩,⟨N,Z,rfl⟩,⟨K,V,rfl⟩,⟨P,ab,rfl⟩,⟨I,S,rfl⟩,⟨Q,ac,rfl⟩⟩:=i.form;have a:=Zaw w4 (Obj.cells #[.slice O d.ns.length aa,.slice M d.is.length Y,.slice J d.ds.length U,.int .i64 d.pl,.slice L d.hs.length X,.slice N d.ls.length Z,.slice K d.gs.length V,.slice P d.ps.length ab,.int .i64 d.nx,.slice I d.ga.length S,.slice Q d.tk.length ac] 51)
  have hy:(w4.alloc (Obj.cells #[.slice O d.ns.length aa,.slice M d.is.length Y,.slice J d.ds.length U,.int .i64 d.pl,.slice L d.hs.length X,.slice N d.ls.length Z,.slice K d.gs.length V,.slice P d.ps.length ab,.int .i64 d.nx,.slice I d.ga.length S,.slice Q d.tk.length ac] 51)).heap[w4.heap.size]? = some (Obj.cells #[.slice O d.ns.length aa,.slice M d.is.length Y,.slice J d.ds.length U,.int .i64 d.pl,.slice L d.hs.length X,.slice N d.ls.length Z,.slice K d.gs.length V,.slice P d.ps.length ab,.int .i64 d.nx,.slice I d.ga.length S,.slice Q d.tk.length ac] 51):=cg _ _;replace c:=Zaf c a;replace b:=b.trans (a.mono b.size);replace i:=i.below a;replace IT:=IT.below a;replace f:=Zac f a;clear a
  obtain ⟨W5,ad⟩:∃ W5,w4.alloc (Obj.cells #[.slice O d.ns.length aa,.slice M d.is.length Y,.slice J d.ds.length U,.int .i64 d.pl,.slice L d.hs.length X,.slice N d.ls.length Z,.slice K d.gs.length V,.slice P d.ps.length ab,.int .i64 d.nx,.slice I d.ga.length S,.slice Q d.tk.length ac] 51)=W5:=⟨_,rfl⟩;rw [ad] at c hy b i IT f;have am:w4.heap.size < W5.heap.size:=ZbT hy
  go_wp2_with (refine co rfl 51 _ rfl w4.heap.size rfl 51 #[.slice O d.ns.length aa,.slice M d.is.length Y,.slice J d.ds.length U,.int .i64 d.pl,.slice L d.hs.length X,.slice N d.ls.length Z,.slice K d.gs.length V,.slice P d.ps.length ab,.int .i64 d.nx,.slice I d.ga.length S,.slice Q d.tk.length ac] (0,0) _ (by first | exact hy | (rw [ad];exact hy)) underlying51 rfl Zl7 ?_)
  first | rw [ad] | skip
  refine (IP _ _ _ _ _ _ _ _ _ _ _ i b).mono ?_;rintro e w6 ⟨v6,rfl,O6,a⟩;replace c:=Zaf c a;replace hy:=Zaf hy a;replace b:=b.trans (a.mono b.size);replace i:=i.below a;replace IT:=IT.below a;replace f:=Zac f a;have f6:∀ g,v6.ownBlock=some g -> W5.heap.size <= g/\g < w6.heap.size:=fun g e=>O6.lt g e
  obtain ⟨y6,k6,rfl⟩:=Zad O6;clear a ad;go_wp2_with fail;refine (Za7 _ _ ts _ (StRow.of_own O6 (by omega) H) (StRow.of_own f (by omega) H)).mono ?_;rintro e w7 ⟨rfl,a⟩;replace c:=Zaf c a;replace hy:=Zaf hy a;replace b:=b.trans (a.mono b.size);replace i:=i.below a;replace IT:=IT.below a;replace f:=Zac f a;replace O6:=Zac O6 a;clear a;go_wp2_with fail;refine Zhm w4.heap.size w.heap.size _ O q M n J k L m N o K l P s I j Q t aa C Y z U v X y Z A V x ab D S u ac F d w7 _ hy c i (R.below b) Sm ?_;intro u26 u27 u28 u29 W a;replace c:=Zaf c a;replace hy:=Zaf hy a;replace b:=b.trans (a.mono b.size);replace IT:=IT.below a;replace f:=Zac f a;replace O6:=Zac O6 a;clear a i;have ai:=ZbT hy
  go_wp2_with (refine co rfl 51 _ rfl w4.heap.size rfl 51 #[.slice O d.ns.length aa,.slice M d.is.length Y,.slice J d.ds.length U,.int .i64 d.pl,.slice L d.hs.length X,.slice N d.ls.length Z,.slice K d.gs.length V,.slice P d.ps.length ab,.int .i64 d.nx,.slice I d.ga.length S,.slice Q d.tk.length ac] (0,0) _ hy underlying51 rfl Zl7 ?_)
  refine (ZfX _ _ _ _ _ _ _ _ _ _ _ 1 _ _ _ _ _ _ _ _ _ _ _ _ IT (by omega) (by omega) (by omega)).mono ?_;rintro e wa ⟨r7,rfl,ak,T⟩;replace f:=T.own_out f (fun g e=>Or.inl (f0 g e).2);replace O6:=T.own_out O6 (fun g e=>Or.inr (by have:=(f6 g e).1;omega));have ah:w.heap.size < w3.heap.size:=by omega
  replace b:=T.bel b b.size (by omega);replace c:=(T.block _ (ZbT c) (Or.inl ah)).trans c;clear T IT hy ai;have al:¬ r7 < 0:=by omega
  go_wp2_with fail;refine (Za7 _ _ ts _ (StRow.of_own O6 (by omega) H) (StRow.of_own f (by omega) H)).mono ?_;rintro e wb ⟨rfl,a⟩;replace c:=Zaf c a;replace b:=b.trans (a.mono b.size);replace f:=Zac f a;replace O6:=Zac O6 a;clear a;go_wp2_with fail;refine (ZeV _ 1 _ ts _ (SOwn.of_own O6) (by omega) (by omega) (by omega)).mono ?_;rintro e wc ⟨rfl,M6,G⟩;have af:∀ g,(Value.slice y6 ts.length k6).ownBlock=some g -> w.heap.size <= g:=fun g e=>by have:=(f6 g e).1;omega
  replace f:=Zk3 G f (fun g e e'=>by have:=(f0 g e).2;have:=(f6 g e').1;omega);replace c:=Zk2 G c (fun e=>by have:=(f6 _ e).1;omega);replace b:=Zk1 G b b.size af;clear G O6;go_wp2_with fail;refine (ZcC _ 1 ts.length _ (M6.row8 (by omega)) (by omega) (by omega) (by omega)).mono ?_;rintro e wd ⟨rfl,a⟩;replace c:=Zaf c a;replace b:=b.trans (a.mono b.size);replace f:=Zac f a;replace M6:=M6.below a;clear a;have hq:¬ (1+(ts.length:Int)) < 0:=by omega
  go_wp2_with (refine co rfl 35 _ rfl w.heap.size rfl 35 #[.slice q d.ns.length C,.slice n d.is.length z,.slice k d.ds.length v,.int .i64 d.pl,.slice m d.hs.length y,.slice o d.ls.length A,.slice l d.gs.length x,.slice s d.ps.length D,.int .i64 d.nx,.slice j d.ga.length u,.slice t d.tk.length F] (0,0) _ c underlying35 rfl ZlO ?_)
  refine (Zcg _ _ _ _ _ _ _ _ _ d 0 _ (R.below b) Sm).mono ?_;rintro e we ⟨un,ui,uf,uh,ul,ug,up,ua,ut,rfl,i,a⟩;replace b:=b.trans (a.mono b.size);replace f:=Zac f a;replace M6:=M6.below a;clear a c;go_wp2_with fail;refine (IP _ _ _ _ _ _ _ _ _ _ _ i b).mono ?_;rintro e wf ⟨v9,rfl,O9,a⟩;replace b:=b.trans (a.mono b.size);replace f:=Zac f a;replace M6:=M6.below a;obtain ⟨y9,k9,rfl⟩:=Zad O9;clear a i;go_wp2_with fail;refine (Za7 _ _ ts _ (StRow.of_own O9 (by omega) H) (StRow.of_own f (by omega) H)).mono ?_;rintro e wg ⟨rfl,a⟩;replace b:=b.trans (a.mono b.size);replace M6:=M6.below a;clear a f O9;go_wp2_with fail;refine (ZcC _ 1 ts.length _ (M6.row8 (by omega)) (by omega) (by omega) (by omega)).mono ?_;rintro e wh ⟨rfl,a⟩;replace b:=b.trans (a.mono b.size);clear a M6;go_wp2;go_ret;exact ⟨rfl,b⟩
end Go.Proofs.YtanhoamdlhaaeaaGreatDoor
namespace Go.Proofs.YtanhoamdlhaaeaaGreatDoor
open Go.Proofs.Tryz
open Go.ChangeShapes Go.WideShapes Go.ChangeAt Go.RowKit Go.Deep
theorem Zd5:laidOutB prog=true:=by kernel_rfl
section
variable {H:Type} {enc:TypeId × Value -> H} {w:World} {base:Nat} {spare:Nat -> Bool} {held:Bool}
theorem Zhe {c:Nat}{cs:List Value}{x:DataW H × List MemPlace}(h:DataW.trod enc prog w base spare held c 178 cs=some x) :
  ∃ v:Nd,cs=v.cs/\v.s.size <= maxLen:=by
 obtain ⟨B,n,_,_,u,e,d⟩:=DataW.trod_struct underlying178 h;rw [show prog.cellsOf 178=5 by kernel_rfl] at u
 match cs,u with
 | [v0,v1,v2,v3,v4],_ =>
  have o:=d 0 _ rfl;have p:=d 1 _ rfl;have q:=d 2 _ rfl;have r:=d 3 _ rfl;have t:=d 4 _ rfl;have z:prog.cellsOf 3=1:=by kernel_rfl
  have A:prog.cellsOf 9=1:=by kernel_rfl
  match B,e with
  | [y0,y1,y2,y3,y4],_ =>
   simp [z,A] at o p q r t;obtain ⟨k,f,_⟩:=DataW.trod_int underlying3 o;obtain ⟨m,g,_⟩:=DataW.trod_int underlying3 p;obtain ⟨s,i,_,y⟩:=DataW.trod_string underlying9 q;obtain ⟨a,j,_⟩:=DataW.trod_int underlying3 r;obtain ⟨b,l,_⟩:=DataW.trod_int underlying3 t;simp only [List.cons.injEq,and_true] at f g i j l;subst f g i j l;exact ⟨⟨k,m,s,a,b⟩,rfl,y⟩
end
section
variable {H:Type} {enc:TypeId × Value -> H} {w:World} {base:Nat} {spare:Nat -> Bool} {held:Bool}
theorem Zgt {a:Nat}{cs:List Value}{x:DataW H × List MemPlace}(h:DataW.trod enc prog w base spare held a 106 cs=some x) :
  ∃ j:Pc,cs=j.cs/\j.s.size <= maxLen:=by
 obtain ⟨q,n,_,_,i,b,g⟩:=DataW.trod_struct underlying106 h;rw [show prog.cellsOf 106=2 by kernel_rfl] at i
 match cs,i with
 | [v0,v1],_ =>
  have e:=g 0 _ rfl;have f:=g 1 _ rfl;have l:prog.cellsOf 3=1:=by kernel_rfl
  have m:prog.cellsOf 9=1:=by kernel_rfl
  match q,b with
  | [y0,y1],_ =>
   simp [l,m] at e f;obtain ⟨o,c,_⟩:=DataW.trod_int underlying3 e;obtain ⟨p,d,_,k⟩:=DataW.trod_string underlying9 f;simp only [List.cons.injEq,and_true] at c d;subst c d;exact ⟨⟨o,p⟩,rfl,k⟩
theorem ZjA {l:Nat}{K:Value}{U:DataW H × List MemPlace}(o:DataW.trod enc prog w base spare held l 101 [K]=some U) :
  ∃ T,PcRow w K T:=by
 have S:prog.cellsOf 106=2:=by kernel_rfl
 rcases open_slice underlying101 o with ⟨c,_⟩ | ⟨a,d,v,m,n,D,V,c,_,W,Q,A,_,J⟩
 ·simp at c
  subst c;exact ⟨[],none,0,rfl,by simp,by simp,by simp,fun h=>absurd rfl h⟩
 ·simp at c
  subst c;have P:d <= m:=by rw [A];split <;> omega
  rw [S] at J
  have k:∀ i,i < m -> ∃ u:Pc,u.s.size <= maxLen/\∀ j,j < 2 -> w.cell? (a.add (i * 2+j))=u.cs[j]?:=by
   intro i hi;obtain ⟨L,M,N⟩:=J i hi;obtain ⟨u,rfl,R⟩:=Zgt N;obtain ⟨_,G,f⟩:=World.cells?_some M;refine ⟨u,R,fun j F=>?_⟩;have:=f j (by omega);rw [add_add] at this;rw [this]
  haveI:Inhabited Pc:=⟨Zfx⟩
  obtain ⟨q,C⟩:=choose_lt k;refine ⟨(List.range d).map q,some a,v,?_,?_,?_,?_,?_⟩
  ·simp
  ·exact ⟨by simp;omega,fun h=>by cases h⟩
  ·unfold maxLen at Q;simp;omega
  ·intro x p
   simp at p;obtain ⟨i,hi,rfl⟩:=p;exact (C i (by omega)).1
  ·intro B
   have I:0 < d:=by
    rcases Nat.eq_zero_or_pos d with o | o
    ·subst o;simp at B
    ·exact o
   obtain ⟨b,r,t⟩:=a;have y:=(C 0 (by omega)).2 0 (by omega);simp only [Pc.cs,List.getElem?_cons_zero] at y;have g:t=none:=by simpa [Addr.add] using World.cell?_spot y
   subst g;have O:=World.block_lt_of_cell? _ _ y;refine ⟨b,r,rfl,by simpa [Addr.add_lit] using O,fun i x hi=>?_⟩
   have z:i < d:=by
    have:=(List.getElem?_eq_some_iff.1 hi).1
    simpa using this
   have E:x=q i:=by
    rw [List.getElem?_map,List.getElem?_range z] at hi
    simpa using hi.symm
   subst E
   have e:∀ j,j < 2 -> w.cell? ⟨b,r+i * 2+j,none⟩=(q i).cs[j]?:=fun j F=>by
    have:=(C i (by omega)).2 j F;rw [Addr.add_lit] at this;rw [<- this,Nat.add_assoc]
   exact ⟨e 0 (by omega),e 1 (by omega)⟩
end
section
variable {H:Type} {enc:TypeId × Value -> H} {w:World} {base:Nat} {spare:Nat -> Bool} {held:Bool}
theorem Zgq {l:Nat}{K:Value}{U:DataW H × List MemPlace}(o:DataW.trod enc prog w base spare held l 22 [K]=some U) :
  ∃ T,NRow w K T:=by
 have S:prog.cellsOf 178=5:=by kernel_rfl
 rcases open_slice underlying22 o with ⟨c,_⟩ | ⟨a,d,v,m,n,D,V,c,_,W,Q,A,_,J⟩
 ·simp at c
  subst c;exact ⟨[],none,0,rfl,by simp,by simp,by simp,fun h=>absurd rfl h⟩
 ·simp at c
  subst c;have P:d <= m:=by rw [A];split <;> omega
  rw [S] at J
  have k:∀ i,i < m -> ∃ u:Nd,u.s.size <= maxLen/\∀ j,j < 5 -> w.cell? (a.add (i * 5+j))=u.cs[j]?:=by
   intro i hi;obtain ⟨L,M,N⟩:=J i hi;obtain ⟨u,rfl,R⟩:=Zhe N;obtain ⟨_,G,f⟩:=World.cells?_some M;refine ⟨u,R,fun j F=>?_⟩;have:=f j (by omega);rw [add_add] at this;rw [this]
  haveI:Inhabited Nd:=⟨⟨0,0,ByteArray.empty,0,0⟩⟩
  obtain ⟨q,C⟩:=choose_lt k;refine ⟨(List.range d).map q,some a,v,?_,?_,?_,?_,?_⟩
  ·simp
  ·exact ⟨by simp;omega,fun h=>by cases h⟩
  ·unfold maxLen at Q;simp;omega
  ·intro x p
   simp at p;obtain ⟨i,hi,rfl⟩:=p;exact (C i (by omega)).1
  ·intro B
   have I:0 < d:=by
    rcases Nat.eq_zero_or_pos d with o | o
    ·subst o;simp at B
    ·exact o
   obtain ⟨b,r,t⟩:=a;have y:=(C 0 (by omega)).2 0 (by omega);simp only [Nd.cs,List.getElem?_cons_zero] at y;have g:t=none:=by simpa [Addr.add] using World.cell?_spot y
   subst g;have O:=World.block_lt_of_cell? _ _ y;refine ⟨b,r,rfl,by simpa [Addr.add_lit] using O,fun i x hi=>?_⟩
   have z:i < d:=by
    have:=(List.getElem?_eq_some_iff.1 hi).1
    simpa using this
   have E:x=q i:=by
    rw [List.getElem?_map,List.getElem?_range z] at hi
    simpa using hi.symm
   subst E
   have e:∀ j,j < 5 -> w.cell? ⟨b,r+i * 5+j,none⟩=(q i).cs[j]?:=fun j F=>by
    have:=(C i (by omega)).2 j F;rw [Addr.add_lit] at this;rw [<- this,Nat.add_assoc]
   exact ⟨e 0 (by omega),e 1 (by omega),e 2 (by omega),e 3 (by omega),e 4 (by omega)⟩
end
section
variable {H:Type} {enc:TypeId × Value -> H} {w:World} {base:Nat} {spare:Nat -> Bool} {held:Bool}
theorem ZbZ {l:Nat}{J:Value}{S:DataW H × List MemPlace}(o:DataW.trod enc prog w base spare held l 37 [J]=some S) :
  ∃ R,StRow w J R:=by
 have Q:prog.cellsOf 9=1:=by kernel_rfl
 rcases open_slice underlying37 o with ⟨c,_⟩ | ⟨a,d,v,m,n,D,T,c,_,U,O,z,_,I⟩
 ·simp at c
  subst c;exact ⟨[],none,0,rfl,by simp,by simp,by simp,fun h=>absurd rfl h⟩
 ·simp at c
  subst c;have N:d <= m:=by rw [z];split <;> omega
  rw [Q] at I
  have k:∀ i,i < m -> ∃ s:ByteArray,s.size <= maxLen/\w.cell? (a.add i)=some (.string s):=by
   intro i hi;obtain ⟨j,K,L⟩:=I i hi;obtain ⟨_,p,f⟩:=World.cells?_some K
   obtain ⟨u,rfl⟩:∃ u,j=[u]:=by
    match j,p with
    | [u],_=>exact ⟨u,rfl⟩
   obtain ⟨s,e,_,P⟩:=DataW.trod_string underlying9 L;simp only [List.cons.injEq,and_true] at e;subst e;have:=f 0 (by omega);rw [add_add] at this;simp only [Nat.mul_one,Nat.add_zero] at this;exact ⟨s,P,by rw [this];rfl⟩
  obtain ⟨q,B⟩:=choose_lt k;refine ⟨(List.range d).map q,some a,v,?_,?_,?_,?_,?_⟩
  ·simp
  ·exact ⟨by simp;omega,fun h=>by cases h⟩
  ·unfold maxLen at O;simp;omega
  ·intro x r
   simp at r;obtain ⟨i,hi,rfl⟩:=r;exact (B i (by omega)).1
  ·intro A
   have G:0 < d:=by
    rcases Nat.eq_zero_or_pos d with o | o
    ·subst o;simp at A
    ·exact o
   obtain ⟨b,E,t⟩:=a;have F:=(B 0 (by omega)).2;have g:t=none:=by simpa [Addr.add] using World.cell?_spot F
   subst g;have M:=World.block_lt_of_cell? _ _ F;refine ⟨b,E,rfl,by simpa [Addr.add_lit] using M,fun i x hi=>?_⟩
   have y:i < d:=by
    have:=(List.getElem?_eq_some_iff.1 hi).1
    simpa using this
   have C:x=q i:=by
    rw [List.getElem?_map,List.getElem?_range y] at hi
    simpa using hi.symm
   subst C;have:=(B i (by omega)).2
   rwa [Addr.add_lit] at this
end
end Go.Proofs.YtanhoamdlhaaeaaGreatDoor
