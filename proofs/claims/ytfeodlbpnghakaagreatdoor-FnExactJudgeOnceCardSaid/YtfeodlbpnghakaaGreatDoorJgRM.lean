/-
  The judges' regions that draw their order. No condition.
-/
import Derived.Test.YtfeodlbpnghakaaGreatDoorSEqM
import Derived.Test.YtfeodlbpnghakaaGreatDoorMRgM
set_option maxRecDepth 100000
set_option maxHeartbeats 6400000
namespace Go.Proofs.YtfeodlbpnghakaaGreatDoor
open Go.RowKit
theorem ZkT {t0 t3 t4 t5 t6 t9 r V ae au aC G T aw H E D ay aH t Z u ak aE aA v aj X Y C aF aa aD ar av P I ao ad ac F ax aq R L aB aL aN aQ aK aV aM aI aS aO aP aT aU aG am az:Value}{fs:List Deferred}(l b g i os k j y qa:Nat)(p:Int)(an S U ah al N J A:Option Addr)(cn z cf O cl cg x o M:Nat)(d:Wd)(s:ByteArray)(w:World)(Q:Exit -> Act -> World -> Prop)(hx:w.heap[l]? = some (.cells #[.slice an d.ns.length cn,.slice S d.is.length z,.slice U d.ds.length cf,.int .i64 d.pl,.slice ah d.hs.length O,.slice al d.ls.length cl,.slice N d.gs.length cg,.slice J d.ps.length x,.int .i64 d.nx,.slice (some ⟨b,g,none⟩) d.ga.length o,.slice A d.tk.length M] 50 (0,0)))(aJ:b < w.heap.size)(aR:i < w.heap.size)(ha:w.cell? ⟨b,g+k,none⟩=some (.slice (some ⟨i,os,none⟩) y qa))(hs:w.cell? ⟨i,os+j,none⟩=some (.string s))(aW:k < d.ga.length)(aZ:j < y)(m:Int)(HC:∀ W,Below w.heap.size w W -> Calls Tryz.prog 17 #[.agg #[.slice an d.ns.length cn,.slice S d.is.length z,.slice U d.ds.length cf,.int .i64 d.pl,.slice ah d.hs.length O,.slice al d.ls.length cl,.slice N d.gs.length cg,.slice J d.ps.length x,.int .i64 d.nx,.slice (some ⟨b,g,none⟩) d.ga.length o,.slice A d.tk.length M],.string s] W fun e f=>e=.returned (.int .i64 m)/\Below W.heap.size W f)(hQ:∀ u50 u51 u52 u53 u54 u55 u56 u57 u58 u59 u60 (W:World),Below w.heap.size w W -> Q .normal ⟨#[t0,.int .i64 p,.pointer (some ⟨l,0,none⟩),t3,t4,t5,t6,.int .i64 (k:Nat),.int .i64 (j:Nat),t9,r,V,ae,au,aC,G,T,aw,H,E,D,ay,aH,t,Z,u,ak,aE,aA,v,aj,X,Y,C,aF,aa,aD,ar,av,P,I,ao,ad,ac,F,ax,aq,R,L,aB,u50,u51,u52,u53,u54,u55,u56,u57,u58,u59,u60,.bool (m == p),aG,am,az],fs⟩ W) :
  (Code.region 13 (List.toArray (⟨some 50,.load 50 (.tmp 2),50, "l15_judge.go:29", #[],none⟩ :: ⟨some 51,.fieldAddr 50 (.tmp 2) 7,0, "l15_judge.go:29", #[],none⟩ :: ⟨some 52,.load 33 (.tmp 51),33, "l15_judge.go:29", #[⟨1,.data⟩],none⟩ :: ⟨some 53,.move (.tmp 7),3, "l15_judge.go:29", #[],none⟩ :: ⟨some 54,.indexAddr 33 (.tmp 52) (.tmp 53),0, "l15_judge.go:29", #[⟨2,.data⟩,⟨3,.data⟩],none⟩ :: ⟨some 55,.load 62 (.tmp 54),62, "l15_judge.go:29", #[⟨4,.data⟩],none⟩ :: ⟨some 56,.move (.tmp 8),3, "l15_judge.go:29", #[],none⟩ :: ⟨some 57,.indexAddr 62 (.tmp 55) (.tmp 56),0, "l15_judge.go:29", #[⟨5,.data⟩,⟨6,.data⟩],none⟩ :: ⟨some 58,.load 9 (.tmp 57),9, "l15_judge.go:29", #[⟨7,.data⟩],none⟩ :: ⟨some 59,.call { callee:=.value (.func 17),args:=#[.tmp 50,.tmp 58],argTypes:=#[50,9] },3, "l15_judge.go:29", #[⟨0,.data⟩,⟨8,.data⟩],none⟩ :: ⟨some 60,.move (.tmp 1),3, "l15_judge.go:29", #[],none⟩ :: ⟨some 61,.binOp .eql 3 (.tmp 59) (.tmp 60) 3,4, "l15_judge.go:29", #[⟨9,.data⟩,⟨10,.data⟩],none⟩ :: [])) true).wp Tryz.prog Q ⟨#[t0,.int .i64 p,.pointer (some ⟨l,0,none⟩),t3,t4,t5,t6,.int .i64 (k:Nat),.int .i64 (j:Nat),t9,r,V,ae,au,aC,G,T,aw,H,E,D,ay,aH,t,Z,u,ak,aE,aA,v,aj,X,Y,C,aF,aa,aD,ar,av,P,I,ao,ad,ac,F,ax,aq,R,L,aB,aL,aN,aQ,aK,aV,aM,aI,aS,aO,aP,aT,aU,aG,am,az],fs⟩ w:=by
 have hS:∀ f,Below w.heap.size w f -> (f.heap[l]? = some (.cells #[.slice an d.ns.length cn,.slice S d.is.length z,.slice U d.ds.length cf,.int .i64 d.pl,.slice ah d.hs.length O,.slice al d.ls.length cl,.slice N d.gs.length cg,.slice J d.ps.length x,.int .i64 d.nx,.slice (some ⟨b,g,none⟩) d.ga.length o,.slice A d.tk.length M] 50 (0,0))/\f.cell? ⟨b,g+k,none⟩=some (.slice (some ⟨i,os,none⟩) y qa)/\f.cell? ⟨i,os+j,none⟩=some (.string s)):=fun f q=>⟨Zae hx q,(q.cell (p:=⟨b,g+k,none⟩) aJ).trans ha,(q.cell (p:=⟨i,os+j,none⟩) aR).trans hs⟩
 have aX:(k:Int) < (d.ga.length:Int):=by omega
 have aY:(j:Int) < (y:Int):=by omega
 have B:Below w.heap.size w w.drew:=Zaw w
 refine rg hS B (by kernel_rfl) fun n=>?_
 refine tk 0 (.agg #[.slice an d.ns.length cn,.slice S d.is.length z,.slice U d.ds.length cf,.int .i64 d.pl,.slice ah d.hs.length O,.slice al d.ls.length cl,.slice N d.gs.length cg,.slice J d.ps.length x,.int .i64 d.nx,.slice (some ⟨b,g,none⟩) d.ga.length o,.slice A d.tk.length M]) nz (by kernel_rfl) (ZaI (by rfl) 50 _ rfl l rfl #[.slice an d.ns.length cn,.slice S d.is.length z,.slice U d.ds.length cf,.int .i64 d.pl,.slice ah d.hs.length O,.slice al d.ls.length cl,.slice N d.gs.length cg,.slice J d.ps.length x,.int .i64 d.nx,.slice (some ⟨b,g,none⟩) d.ga.length o,.slice A d.tk.length M] 50 _ (fun _ h=>h.1) Tryz.underlying50 rfl Zni) ‹_› ?_
 simp only [Act.put,sit,sc0,scs]
 refine tk 1 (.pointer (some ⟨l,9,none⟩)) (n1 nz) (by kernel_rfl) (Or.inl ⟨by rfl,by intro w a;go_simp⟩) ‹_› ?_
 simp only [Act.put,sit,sc0,scs]
 refine tk 2 (.slice (some ⟨b,g,none⟩) d.ga.length o) (n2 nz) (by kernel_rfl) (Or.inl ⟨by rfl,by intro f a;have c:=cell_of_row f (l) 9 _ _ _ a.1;go_simp⟩) ‹_› ?_
 simp only [Act.put,sit,sc0,scs]
 refine tk 3 (.int .i64 (k:Nat)) (n2 (n1 nz)) (by kernel_rfl) (Or.inl ⟨by rfl,by intro w a;go_simp⟩) ‹_› ?_
 simp only [Act.put,sit,sc0,scs]
 refine tk 4 (.pointer (some ⟨b,g+k,none⟩)) (n4 nz) (by kernel_rfl) (Or.inl ⟨by rfl,by intro w a;go_simp⟩) ‹_› ?_
 simp only [Act.put,sit,sc0,scs]
 refine tk 5 (.slice (some ⟨i,os,none⟩) y qa) (n4 (n1 nz)) (by kernel_rfl) (Or.inl ⟨by rfl,by intro f a;have c:=a.2.1;go_simp⟩) ‹_› ?_
 simp only [Act.put,sit,sc0,scs]
 refine tk 6 (.int .i64 (j:Nat)) (n4 (n2 nz)) (by kernel_rfl) (Or.inl ⟨by rfl,by intro w a;go_simp⟩) ‹_› ?_
 simp only [Act.put,sit,sc0,scs]
 refine tk 7 (.pointer (some ⟨i,os+j,none⟩)) (n4 (n2 (n1 nz))) (by kernel_rfl) (Or.inl ⟨by rfl,by intro w a;go_simp⟩) ‹_› ?_
 simp only [Act.put,sit,sc0,scs]
 refine tk 8 (.string s) (n8 nz) (by kernel_rfl) (Or.inl ⟨by rfl,by intro f a;have c:=a.2.2;go_simp⟩) ‹_› ?_
 simp only [Act.put,sit,sc0,scs]
 refine tk 10 (.int .i64 p) (n8 (n2 nz)) (by kernel_rfl) (Or.inl ⟨by rfl,by intro w a;go_simp⟩) ‹_› ?_
 simp only [Act.put,sit,sc0,scs]
 refine wpAnyH_ready (rs:=[9]) (by kernel_rfl) (by simp) ?_
 refine AllReadyH.cons rfl (fun K hK=>?_) AllReadyH.nil
 go_simp
 go_wp2_with (go_at_call 17;with_reducible refine (HC _ B).mono ?_;rintro e wE ⟨rfl,q⟩)
 replace B:=B.trans (q.mono B.size)
 clear q
 refine hK.out _ _ (hS _ B) (fun n=>?_)
 clear hK
 refine tk 11 (.bool (m == p)) (n8 (n2 (n1 nz))) (by kernel_rfl) (Or.inl ⟨by rfl,by intro w a;go_simp⟩) ‹_› ?_
 simp only [Act.put,sit,sc0,scs]
 refine wpAnyH_done (by kernel_rfl) ?_ _
 exact NoPanic.normal (hQ _ _ _ _ _ _ _ _ _ _ _ _ B)
theorem ZkC {t0 t2 t3 t6 t7 t8 t9 r ak ay aH aS M ae aJ N J I aL a2 u ar v az aZ aO x aA am ao H a1 av aV aG aI aa P aE ax aw L aK aF ac T aQ O ad aR G aY U t aT aB aN aU aW bf a9 bc a6 a5 ba a3 a8 bd a7 y aM aj au z aX aP aC aD Z a0 R C aq:Value}{fs:List Deferred}(l b g i os k j D qa:Nat)(an ai af ah al X S F:Option Addr)(cn E cf Y cl cg A o V:Nat)(d:Wd)(s:ByteArray)(w:World)(Q:Exit -> Act -> World -> Prop)(hx:w.heap[l]? = some (.cells #[.slice an d.ns.length cn,.slice ai d.is.length E,.slice af d.ds.length cf,.int .i64 d.pl,.slice ah d.hs.length Y,.slice al d.ls.length cl,.slice X d.gs.length cg,.slice S d.ps.length A,.int .i64 d.nx,.slice (some ⟨b,g,none⟩) d.ga.length o,.slice F d.tk.length V] 50 (0,0)))(a4:b < w.heap.size)(be:i < w.heap.size)(ha:w.cell? ⟨b,g+k,none⟩=some (.slice (some ⟨i,os,none⟩) D qa))(hs:w.cell? ⟨i,os+j,none⟩=some (.string s))(bg:k < d.ga.length)(bj:j < D)(m:Int)(HC:∀ W,Below w.heap.size w W -> Calls Tryz.prog 17 #[.agg #[.slice an d.ns.length cn,.slice ai d.is.length E,.slice af d.ds.length cf,.int .i64 d.pl,.slice ah d.hs.length Y,.slice al d.ls.length cl,.slice X d.gs.length cg,.slice S d.ps.length A,.int .i64 d.nx,.slice (some ⟨b,g,none⟩) d.ga.length o,.slice F d.tk.length V],.string s] W fun e f=>e=.returned (.int .i64 m)/\Below W.heap.size W f)(hQ:∀ u62 u63 u64 u65 u66 u67 u68 u69 u70 u71 (W:World),Below w.heap.size w W -> Q .normal ⟨#[t0,.pointer (some ⟨l,0,none⟩),t2,t3,.int .i64 (k:Nat),.int .i64 (j:Nat),.int .i64 m,t7,t8,t9,r,ak,ay,aH,aS,M,ae,aJ,N,J,I,aL,a2,u,ar,v,az,aZ,aO,x,aA,am,ao,H,a1,av,aV,aG,aI,aa,P,aE,ax,aw,L,aK,aF,ac,T,aQ,O,ad,aR,G,aY,U,t,aT,aB,aN,aU,aW,u62,u63,u64,u65,u66,u67,u68,u69,u70,u71,y,aM,aj,au,z,aX,aP,aC,aD,Z,a0,R,C,aq],fs⟩ W) :
  (Code.region 14 (List.toArray (⟨some 62,.load 50 (.tmp 1),50, "l15_judge.go:48", #[],none⟩ :: ⟨some 63,.fieldAddr 50 (.tmp 1) 7,0, "l15_judge.go:48", #[],none⟩ :: ⟨some 64,.load 33 (.tmp 63),33, "l15_judge.go:48", #[⟨1,.data⟩],none⟩ :: ⟨some 65,.move (.tmp 4),3, "l15_judge.go:48", #[],none⟩ :: ⟨some 66,.indexAddr 33 (.tmp 64) (.tmp 65),0, "l15_judge.go:48", #[⟨2,.data⟩,⟨3,.data⟩],none⟩ :: ⟨some 67,.load 62 (.tmp 66),62, "l15_judge.go:48", #[⟨4,.data⟩],none⟩ :: ⟨some 68,.move (.tmp 5),3, "l15_judge.go:48", #[],none⟩ :: ⟨some 69,.indexAddr 62 (.tmp 67) (.tmp 68),0, "l15_judge.go:48", #[⟨5,.data⟩,⟨6,.data⟩],none⟩ :: ⟨some 70,.load 9 (.tmp 69),9, "l15_judge.go:48", #[⟨7,.data⟩],none⟩ :: ⟨some 71,.call { callee:=.value (.func 17),args:=#[.tmp 62,.tmp 70],argTypes:=#[50,9] },3, "l15_judge.go:48", #[⟨0,.data⟩,⟨8,.data⟩],none⟩ :: ⟨some 6,.assign (.tmp 71),3, "l15_judge.go:48", #[⟨9,.data⟩,⟨9,.chain⟩,⟨0,.phase⟩,⟨1,.phase⟩,⟨2,.phase⟩,⟨3,.phase⟩,⟨4,.phase⟩,⟨5,.phase⟩,⟨6,.phase⟩,⟨7,.phase⟩,⟨8,.phase⟩,⟨9,.phase⟩],none⟩ :: [])) true).wp Tryz.prog Q ⟨#[t0,.pointer (some ⟨l,0,none⟩),t2,t3,.int .i64 (k:Nat),.int .i64 (j:Nat),t6,t7,t8,t9,r,ak,ay,aH,aS,M,ae,aJ,N,J,I,aL,a2,u,ar,v,az,aZ,aO,x,aA,am,ao,H,a1,av,aV,aG,aI,aa,P,aE,ax,aw,L,aK,aF,ac,T,aQ,O,ad,aR,G,aY,U,t,aT,aB,aN,aU,aW,bf,a9,bc,a6,a5,ba,a3,a8,bd,a7,y,aM,aj,au,z,aX,aP,aC,aD,Z,a0,R,C,aq],fs⟩ w:=by
 have hS:∀ f,Below w.heap.size w f -> (f.heap[l]? = some (.cells #[.slice an d.ns.length cn,.slice ai d.is.length E,.slice af d.ds.length cf,.int .i64 d.pl,.slice ah d.hs.length Y,.slice al d.ls.length cl,.slice X d.gs.length cg,.slice S d.ps.length A,.int .i64 d.nx,.slice (some ⟨b,g,none⟩) d.ga.length o,.slice F d.tk.length V] 50 (0,0))/\f.cell? ⟨b,g+k,none⟩=some (.slice (some ⟨i,os,none⟩) D qa)/\f.cell? ⟨i,os+j,none⟩=some (.string s)):=fun f q=>⟨Zae hx q,(q.cell (p:=⟨b,g+k,none⟩) a4).trans ha,(q.cell (p:=⟨i,os+j,none⟩) be).trans hs⟩
 have bh:(k:Int) < (d.ga.length:Int):=by omega
 have bi:(j:Int) < (D:Int):=by omega
 have B:Below w.heap.size w w.drew:=Zaw w
 refine rg hS B (by kernel_rfl) fun n=>?_
 refine tk 0 (.agg #[.slice an d.ns.length cn,.slice ai d.is.length E,.slice af d.ds.length cf,.int .i64 d.pl,.slice ah d.hs.length Y,.slice al d.ls.length cl,.slice X d.gs.length cg,.slice S d.ps.length A,.int .i64 d.nx,.slice (some ⟨b,g,none⟩) d.ga.length o,.slice F d.tk.length V]) nz (by kernel_rfl) (ZaI (by rfl) 50 _ rfl l rfl #[.slice an d.ns.length cn,.slice ai d.is.length E,.slice af d.ds.length cf,.int .i64 d.pl,.slice ah d.hs.length Y,.slice al d.ls.length cl,.slice X d.gs.length cg,.slice S d.ps.length A,.int .i64 d.nx,.slice (some ⟨b,g,none⟩) d.ga.length o,.slice F d.tk.length V] 50 _ (fun _ h=>h.1) Tryz.underlying50 rfl Zni) ‹_› ?_
 simp only [Act.put,sit,sc0,scs]
 refine tk 1 (.pointer (some ⟨l,9,none⟩)) (n1 nz) (by kernel_rfl) (Or.inl ⟨by rfl,by intro w a;go_simp⟩) ‹_› ?_
 simp only [Act.put,sit,sc0,scs]
 refine tk 2 (.slice (some ⟨b,g,none⟩) d.ga.length o) (n2 nz) (by kernel_rfl) (Or.inl ⟨by rfl,by intro f a;have c:=cell_of_row f (l) 9 _ _ _ a.1;go_simp⟩) ‹_› ?_
 simp only [Act.put,sit,sc0,scs]
 refine tk 3 (.int .i64 (k:Nat)) (n2 (n1 nz)) (by kernel_rfl) (Or.inl ⟨by rfl,by intro w a;go_simp⟩) ‹_› ?_
 simp only [Act.put,sit,sc0,scs]
 refine tk 4 (.pointer (some ⟨b,g+k,none⟩)) (n4 nz) (by kernel_rfl) (Or.inl ⟨by rfl,by intro w a;go_simp⟩) ‹_› ?_
 simp only [Act.put,sit,sc0,scs]
 refine tk 5 (.slice (some ⟨i,os,none⟩) D qa) (n4 (n1 nz)) (by kernel_rfl) (Or.inl ⟨by rfl,by intro f a;have c:=a.2.1;go_simp⟩) ‹_› ?_
 simp only [Act.put,sit,sc0,scs]
 refine tk 6 (.int .i64 (j:Nat)) (n4 (n2 nz)) (by kernel_rfl) (Or.inl ⟨by rfl,by intro w a;go_simp⟩) ‹_› ?_
 simp only [Act.put,sit,sc0,scs]
 refine tk 7 (.pointer (some ⟨i,os+j,none⟩)) (n4 (n2 (n1 nz))) (by kernel_rfl) (Or.inl ⟨by rfl,by intro w a;go_simp⟩) ‹_› ?_
 simp only [Act.put,sit,sc0,scs]
 refine tk 8 (.string s) (n8 nz) (by kernel_rfl) (Or.inl ⟨by rfl,by intro f a;have c:=a.2.2;go_simp⟩) ‹_› ?_
 simp only [Act.put,sit,sc0,scs]
 refine wpAnyH_ready (rs:=[9]) (by kernel_rfl) (by simp) ?_
 refine AllReadyH.cons rfl (fun K hK=>?_) AllReadyH.nil
 go_simp
 go_wp2_with (go_at_call 17;with_reducible refine (HC _ B).mono ?_;rintro e wE ⟨rfl,q⟩)
 replace B:=B.trans (q.mono B.size)
 clear q
 refine hK.out _ _ (hS _ B) (fun n=>?_)
 clear hK
 refine tk 10 (.int .i64 m) (n8 (n2 nz)) (by kernel_rfl) (Or.inl ⟨by rfl,by intro w a;go_simp⟩) ‹_› ?_
 simp only [Act.put,sit,sc0,scs]
 refine wpAnyH_done (by kernel_rfl) ?_ _
 exact NoPanic.normal (hQ _ _ _ _ _ _ _ _ _ _ _ B)
abbrev opr4:List Oper:=⟨some 17,.fieldAddr 50 (.tmp 1) 2,0, "l15_judge.go:42", #[],none⟩ :: ⟨some 18,.load 45 (.tmp 17),45, "l15_judge.go:42", #[⟨0,.data⟩],none⟩ :: ⟨some 19,.move (.tmp 3),3, "l15_judge.go:42", #[],none⟩ :: ⟨some 20,.indexAddr 45 (.tmp 18) (.tmp 19),0, "l15_judge.go:42", #[⟨1,.data⟩,⟨2,.data⟩],none⟩ :: ⟨some 21,.fieldAddr 66 (.tmp 20) 1,0, "l15_judge.go:42", #[⟨3,.data⟩],none⟩ :: ⟨some 22,.fieldAddr 64 (.tmp 21) 0,0, "l15_judge.go:42", #[⟨4,.data⟩],none⟩ :: ⟨some 23,.load 3 (.tmp 22),3, "l15_judge.go:42", #[⟨5,.data⟩],none⟩ :: ⟨some 24,.fieldAddr 50 (.tmp 1) 6,0, "l15_judge.go:42", #[],none⟩ :: ⟨some 25,.load 3 (.tmp 24),3, "l15_judge.go:42", #[⟨7,.data⟩],none⟩ :: ⟨some 26,.binOp .lss 3 (.tmp 23) (.tmp 25) 3,4, "l15_judge.go:42", #[⟨6,.data⟩,⟨8,.data⟩],none⟩ :: ⟨some 27,.move (.tmp 26),4, "l15_judge.go:42", #[⟨9,.data⟩],none⟩ :: ⟨some 28,.load 50 (.tmp 1),50, "l15_judge.go:42", #[⟨10,.guard⟩],some (10,true)⟩ :: ⟨some 29,.fieldAddr 50 (.tmp 1) 2,0, "l15_judge.go:42", #[⟨10,.guard⟩],some (10,true)⟩ :: ⟨some 30,.load 45 (.tmp 29),45, "l15_judge.go:42", #[⟨12,.data⟩,⟨10,.guard⟩],some (10,true)⟩ :: ⟨some 31,.move (.tmp 3),3, "l15_judge.go:42", #[⟨10,.guard⟩],some (10,true)⟩ :: ⟨some 32,.indexAddr 45 (.tmp 30) (.tmp 31),0, "l15_judge.go:42", #[⟨13,.data⟩,⟨14,.data⟩,⟨10,.guard⟩],some (10,true)⟩ :: ⟨some 33,.fieldAddr 66 (.tmp 32) 1,0, "l15_judge.go:42", #[⟨15,.data⟩,⟨10,.guard⟩],some (10,true)⟩ :: ⟨some 34,.fieldAddr 64 (.tmp 33) 0,0, "l15_judge.go:42", #[⟨16,.data⟩,⟨10,.guard⟩],some (10,true)⟩ :: ⟨some 35,.load 3 (.tmp 34),3, "l15_judge.go:42", #[⟨17,.data⟩,⟨10,.guard⟩],some (10,true)⟩ :: ⟨some 36,.call { callee:=.value (.func 16),args:=#[.tmp 28,.tmp 35],argTypes:=#[50,3] },3, "l15_judge.go:42", #[⟨11,.data⟩,⟨18,.data⟩,⟨10,.chain⟩,⟨10,.guard⟩],some (10,true)⟩ :: ⟨some 37,.binOp .gtr 3 (.tmp 36) (.const (.int IntKind.i64 1)) 3,4, "l15_judge.go:42", #[⟨19,.data⟩,⟨10,.guard⟩],some (10,true)⟩ :: ⟨some 38,.pick (.tmp 27) (.tmp 37) (.const (.bool false)),4, "l15_judge.go:42", #[⟨10,.data⟩,⟨20,.data⟩],none⟩ :: []
theorem ZkM {t0 t2 t4 t5 t6 t7 t8 t9 h H N X ao r F aO aF aE aD aP aW az aI aA aK aU aR aB aL aG aH aC aV aJ aT aM aN C t U M L q Y V D v ak s E am o aw x i aq P ad ar au ay T ae z y ac l O aj I j Z G K m av ah R S A ax u n J:Value}{fs:List Deferred}(g e f k:Nat)(p:Int)(an ai af al ag ap aa ab:Option Addr)(cn ci cf ch cl cg cp ca cb:Nat)(d:Wd)(w:World)(Q:Exit -> Act -> World -> Prop)(hx:w.heap[g]? = some (.cells #[.slice an d.ns.length cn,.slice ai d.is.length ci,.slice af d.ds.length cf,.int .i64 d.pl,.slice (some ⟨e,f,none⟩) d.hs.length ch,.slice al d.ls.length cl,.slice ag d.gs.length cg,.slice ap d.ps.length cp,.int .i64 d.nx,.slice aa d.ga.length ca,.slice ab d.tk.length cb] 50 (0,0)))(aQ:e < w.heap.size)(hc:w.cell? ⟨e,f+k * 12+1,none⟩=some (.int .i64 p))(aY:k < d.hs.length)(hp:¬ p < d.nx)(hQ:∀ u17 u18 u19 u20 u21 u22 u23 u24 u25 u26 u27 u28 u29 u30 u31 u32 u33 u34 u35 u36 u37 (W:World),Below w.heap.size w W -> Q .normal ⟨#[t0,.pointer (some ⟨g,0,none⟩),t2,.int .i64 (k:Nat),t4,t5,t6,t7,t8,t9,h,H,N,X,ao,r,F,u17,u18,u19,u20,u21,u22,u23,u24,u25,u26,u27,u28,u29,u30,u31,u32,u33,u34,u35,u36,u37,.bool false,C,t,U,M,L,q,Y,V,D,v,ak,s,E,am,o,aw,x,i,aq,P,ad,ar,au,ay,T,ae,z,y,ac,l,O,aj,I,j,Z,G,K,m,av,ah,R,S,A,ax,u,n,J],fs⟩ W) :
  (Code.region 6 opr4.toArray true).wp Tryz.prog Q ⟨#[t0,.pointer (some ⟨g,0,none⟩),t2,.int .i64 (k:Nat),t4,t5,t6,t7,t8,t9,h,H,N,X,ao,r,F,aO,aF,aE,aD,aP,aW,az,aI,aA,aK,aU,aR,aB,aL,aG,aH,aC,aV,aJ,aT,aM,aN,C,t,U,M,L,q,Y,V,D,v,ak,s,E,am,o,aw,x,i,aq,P,ad,ar,au,ay,T,ae,z,y,ac,l,O,aj,I,j,Z,G,K,m,av,ah,R,S,A,ax,u,n,J],fs⟩ w:=by
 have hS:∀ b,Below w.heap.size w b -> (b.heap[g]? = some (.cells #[.slice an d.ns.length cn,.slice ai d.is.length ci,.slice af d.ds.length cf,.int .i64 d.pl,.slice (some ⟨e,f,none⟩) d.hs.length ch,.slice al d.ls.length cl,.slice ag d.gs.length cg,.slice ap d.ps.length cp,.int .i64 d.nx,.slice aa d.ga.length ca,.slice ab d.tk.length cb] 50 (0,0))/\b.cell? ⟨e,f+k * 12+1,none⟩=some (.int .i64 p)):=fun b hb=>⟨Zae hx hb,(hb.cell (p:=⟨e,f+k * 12+1,none⟩) aQ).trans hc⟩
 have aX:(k:Int) < (d.hs.length:Int):=by omega
 have B:Below w.heap.size w w.drew:=Zaw w
 refine rg hS B (by kernel_rfl) fun aS=>?_
 refine tk 0 (.pointer (some ⟨g,4,none⟩)) nz (by kernel_rfl) (Or.inl ⟨by rfl,by intro w a;go_simp⟩) ‹_› ?_
 simp only [Act.put,sit,sc0,scs]
 refine tk 1 (.slice (some ⟨e,f,none⟩) d.hs.length ch) (n1 nz) (by kernel_rfl) (Or.inl ⟨by rfl,by intro b a;have c:=cell_of_row b (g) 4 _ _ _ a.1;go_simp⟩) ‹_› ?_
 simp only [Act.put,sit,sc0,scs]
 refine tk 2 (.int .i64 (k:Nat)) (n2 nz) (by kernel_rfl) (Or.inl ⟨by rfl,by intro w a;go_simp⟩) ‹_› ?_
 simp only [Act.put,sit,sc0,scs]
 refine tk 3 (.pointer (some ⟨e,f+k * 12,none⟩)) (n2 (n1 nz)) (by kernel_rfl) (Or.inl ⟨by rfl,by intro w a;go_simp⟩) ‹_› ?_
 simp only [Act.put,sit,sc0,scs]
 refine tk 4 (.pointer (some ⟨e,f+k * 12+1,none⟩)) (n4 nz) (by kernel_rfl) (Or.inl ⟨by rfl,by intro w a;go_simp⟩) ‹_› ?_
 simp only [Act.put,sit,sc0,scs]
 refine tk 5 (.pointer (some ⟨e,f+k * 12+1,none⟩)) (n4 (n1 nz)) (by kernel_rfl) (Or.inl ⟨by rfl,by intro w a;go_simp⟩) ‹_› ?_
 simp only [Act.put,sit,sc0,scs]
 refine tk 6 (.int .i64 p) (n4 (n2 nz)) (by kernel_rfl) (Or.inl ⟨by rfl,by intro b a;have c:=a.2;go_simp⟩) ‹_› ?_
 simp only [Act.put,sit,sc0,scs]
 refine tk 7 (.pointer (some ⟨g,8,none⟩)) (n4 (n2 (n1 nz))) (by kernel_rfl) (Or.inl ⟨by rfl,by intro w a;go_simp⟩) ‹_› ?_
 simp only [Act.put,sit,sc0,scs]
 refine tk 8 (.int .i64 d.nx) (n8 nz) (by kernel_rfl) (Or.inl ⟨by rfl,by intro b a;have c:=cell_of_row b (g) 8 _ _ _ a.1;go_simp⟩) ‹_› ?_
 simp only [Act.put,sit,sc0,scs]
 refine tk 9 (.bool false) (n8 (n1 nz)) (by kernel_rfl) (Or.inl ⟨by rfl,by intro b a;first | (go_simp;done) | (go_simp;exact hp) | (go_simp;simp;omega)⟩) ‹_› ?_
 simp only [Act.put,sit,sc0,scs]
 refine tk 10 (.bool false) (n8 (n2 nz)) (by kernel_rfl) (Or.inl ⟨by rfl,by intro w a;go_simp⟩) ‹_› ?_
 simp only [Act.put,sit,sc0,scs]
 refine tk 11 (undef) (n8 (n2 (n1 nz))) (by kernel_rfl) (Or.inr ⟨by rfl,rfl⟩) ‹_› ?_
 simp only [Act.put,sit,sc0,scs]
 refine tk 12 (undef) (n8 (n4 nz)) (by kernel_rfl) (Or.inr ⟨by rfl,rfl⟩) ‹_› ?_
 simp only [Act.put,sit,sc0,scs]
 refine tk 13 (undef) (n8 (n4 (n1 nz))) (by kernel_rfl) (Or.inr ⟨by rfl,rfl⟩) ‹_› ?_
 simp only [Act.put,sit,sc0,scs]
 refine tk 14 (undef) (n8 (n4 (n2 nz))) (by kernel_rfl) (Or.inr ⟨by rfl,rfl⟩) ‹_› ?_
 simp only [Act.put,sit,sc0,scs]
 refine tk 15 (undef) (n8 (n4 (n2 (n1 nz)))) (by kernel_rfl) (Or.inr ⟨by rfl,rfl⟩) ‹_› ?_
 simp only [Act.put,sit,sc0,scs]
 refine tk 16 (undef) (n8 (n8 nz)) (by kernel_rfl) (Or.inr ⟨by rfl,rfl⟩) ‹_› ?_
 simp only [Act.put,sit,sc0,scs]
 refine tk 17 (undef) (n8 (n8 (n1 nz))) (by kernel_rfl) (Or.inr ⟨by rfl,rfl⟩) ‹_› ?_
 simp only [Act.put,sit,sc0,scs]
 refine tk 18 (undef) (n8 (n8 (n2 nz))) (by kernel_rfl) (Or.inr ⟨by rfl,rfl⟩) ‹_› ?_
 simp only [Act.put,sit,sc0,scs]
 refine tk 19 (undef) (n8 (n8 (n2 (n1 nz)))) (by kernel_rfl) (Or.inr ⟨by rfl,rfl⟩) ‹_› ?_
 simp only [Act.put,sit,sc0,scs]
 refine tk 20 (undef) (n8 (n8 (n4 nz))) (by kernel_rfl) (Or.inr ⟨by rfl,rfl⟩) ‹_› ?_
 simp only [Act.put,sit,sc0,scs]
 refine tk 21 (.bool false) (n8 (n8 (n4 (n1 nz)))) (by kernel_rfl) (Or.inl ⟨by rfl,by intro w a;go_simp⟩) ‹_› ?_
 simp only [Act.put,sit,sc0,scs]
 refine wpAnyH_done (by kernel_rfl) ?_ _
 exact NoPanic.normal (hQ _ _ _ _ _ _ _ _ _ _ _ _ _ _ _ _ _ _ _ _ _ _ B)
theorem ZgX {t0 t2 t4 t5 t6 t7 t8 t9 n Z ak ax aH C V a4 aV aU aT a5 bc aP aY aQ a0 a9 a6 aR a1 aW aX aS ba aZ a8 a2 a3 R E av aj ah A ay aw S H aF D U aG z aM I o aI ao aB aJ aK aO au aC N M aA s am aE ac q az Y ae t aL aD aq ar P aN F v ad:Value}{fs:List Deferred}(i b g k:Nat)(p:Int)(an T X al L G aa y:Option Addr)(cn x cf j cl cg u O J:Nat)(d:Wd)(w:World)(Q:Exit -> Act -> World -> Prop)(hx:w.heap[i]? = some (.cells #[.slice an d.ns.length cn,.slice T d.is.length x,.slice X d.ds.length cf,.int .i64 d.pl,.slice (some ⟨b,g,none⟩) d.hs.length j,.slice al d.ls.length cl,.slice L d.gs.length cg,.slice G d.ps.length u,.int .i64 d.nx,.slice aa d.ga.length O,.slice y d.tk.length J] 50 (0,0)))(a7:b < w.heap.size)(hc:w.cell? ⟨b,g+k * 12+1,none⟩=some (.int .i64 p))(be:k < d.hs.length)(hp:p < d.nx)(m:Int)(r:Bool)(hr:decide (1 < m)=r)(HC:∀ W,Below w.heap.size w W -> Calls Tryz.prog 16 #[.agg #[.slice an d.ns.length cn,.slice T d.is.length x,.slice X d.ds.length cf,.int .i64 d.pl,.slice (some ⟨b,g,none⟩) d.hs.length j,.slice al d.ls.length cl,.slice L d.gs.length cg,.slice G d.ps.length u,.int .i64 d.nx,.slice aa d.ga.length O,.slice y d.tk.length J],.int .i64 p] W fun e f=>e=.returned (.int .i64 m)/\Below W.heap.size W f)(hQ:∀ u17 u18 u19 u20 u21 u22 u23 u24 u25 u26 u27 u28 u29 u30 u31 u32 u33 u34 u35 u36 u37 (W:World),Below w.heap.size w W -> Q .normal ⟨#[t0,.pointer (some ⟨i,0,none⟩),t2,.int .i64 (k:Nat),t4,t5,t6,t7,t8,t9,n,Z,ak,ax,aH,C,V,u17,u18,u19,u20,u21,u22,u23,u24,u25,u26,u27,u28,u29,u30,u31,u32,u33,u34,u35,u36,u37,.bool r,R,E,av,aj,ah,A,ay,aw,S,H,aF,D,U,aG,z,aM,I,o,aI,ao,aB,aJ,aK,aO,au,aC,N,M,aA,s,am,aE,ac,q,az,Y,ae,t,aL,aD,aq,ar,P,aN,F,v,ad],fs⟩ W) :
  (Code.region 6 opr4.toArray true).wp Tryz.prog Q ⟨#[t0,.pointer (some ⟨i,0,none⟩),t2,.int .i64 (k:Nat),t4,t5,t6,t7,t8,t9,n,Z,ak,ax,aH,C,V,a4,aV,aU,aT,a5,bc,aP,aY,aQ,a0,a9,a6,aR,a1,aW,aX,aS,ba,aZ,a8,a2,a3,R,E,av,aj,ah,A,ay,aw,S,H,aF,D,U,aG,z,aM,I,o,aI,ao,aB,aJ,aK,aO,au,aC,N,M,aA,s,am,aE,ac,q,az,Y,ae,t,aL,aD,aq,ar,P,aN,F,v,ad],fs⟩ w:=by
 have hS:∀ f,Below w.heap.size w f -> (f.heap[i]? = some (.cells #[.slice an d.ns.length cn,.slice T d.is.length x,.slice X d.ds.length cf,.int .i64 d.pl,.slice (some ⟨b,g,none⟩) d.hs.length j,.slice al d.ls.length cl,.slice L d.gs.length cg,.slice G d.ps.length u,.int .i64 d.nx,.slice aa d.ga.length O,.slice y d.tk.length J] 50 (0,0))/\f.cell? ⟨b,g+k * 12+1,none⟩=some (.int .i64 p)):=fun f hb=>⟨Zae hx hb,(hb.cell (p:=⟨b,g+k * 12+1,none⟩) a7).trans hc⟩
 have bd:(k:Int) < (d.hs.length:Int):=by omega
 have B:Below w.heap.size w w.drew:=Zaw w
 refine rg hS B (by kernel_rfl) fun l=>?_
 refine tk 0 (.pointer (some ⟨i,4,none⟩)) nz (by kernel_rfl) (Or.inl ⟨by rfl,by intro w a;go_simp⟩) ‹_› ?_
 simp only [Act.put,sit,sc0,scs]
 refine tk 1 (.slice (some ⟨b,g,none⟩) d.hs.length j) (n1 nz) (by kernel_rfl) (Or.inl ⟨by rfl,by intro f a;have c:=cell_of_row f (i) 4 _ _ _ a.1;go_simp⟩) ‹_› ?_
 simp only [Act.put,sit,sc0,scs]
 refine tk 2 (.int .i64 (k:Nat)) (n2 nz) (by kernel_rfl) (Or.inl ⟨by rfl,by intro w a;go_simp⟩) ‹_› ?_
 simp only [Act.put,sit,sc0,scs]
 refine tk 3 (.pointer (some ⟨b,g+k * 12,none⟩)) (n2 (n1 nz)) (by kernel_rfl) (Or.inl ⟨by rfl,by intro w a;go_simp⟩) ‹_› ?_
 simp only [Act.put,sit,sc0,scs]
 refine tk 4 (.pointer (some ⟨b,g+k * 12+1,none⟩)) (n4 nz) (by kernel_rfl) (Or.inl ⟨by rfl,by intro w a;go_simp⟩) ‹_› ?_
 simp only [Act.put,sit,sc0,scs]
 refine tk 5 (.pointer (some ⟨b,g+k * 12+1,none⟩)) (n4 (n1 nz)) (by kernel_rfl) (Or.inl ⟨by rfl,by intro w a;go_simp⟩) ‹_› ?_
 simp only [Act.put,sit,sc0,scs]
 refine tk 6 (.int .i64 p) (n4 (n2 nz)) (by kernel_rfl) (Or.inl ⟨by rfl,by intro f a;have c:=a.2;go_simp⟩) ‹_› ?_
 simp only [Act.put,sit,sc0,scs]
 refine tk 7 (.pointer (some ⟨i,8,none⟩)) (n4 (n2 (n1 nz))) (by kernel_rfl) (Or.inl ⟨by rfl,by intro w a;go_simp⟩) ‹_› ?_
 simp only [Act.put,sit,sc0,scs]
 refine tk 8 (.int .i64 d.nx) (n8 nz) (by kernel_rfl) (Or.inl ⟨by rfl,by intro f a;have c:=cell_of_row f (i) 8 _ _ _ a.1;go_simp⟩) ‹_› ?_
 simp only [Act.put,sit,sc0,scs]
 refine tk 9 (.bool true) (n8 (n1 nz)) (by kernel_rfl) (Or.inl ⟨by rfl,by intro f a;first | (go_simp;done) | (go_simp;exact hp) | (go_simp;simp;omega)⟩) ‹_› ?_
 simp only [Act.put,sit,sc0,scs]
 refine tk 10 (.bool true) (n8 (n2 nz)) (by kernel_rfl) (Or.inl ⟨by rfl,by intro w a;go_simp⟩) ‹_› ?_
 simp only [Act.put,sit,sc0,scs]
 refine tk 11 (.agg #[.slice an d.ns.length cn,.slice T d.is.length x,.slice X d.ds.length cf,.int .i64 d.pl,.slice (some ⟨b,g,none⟩) d.hs.length j,.slice al d.ls.length cl,.slice L d.gs.length cg,.slice G d.ps.length u,.int .i64 d.nx,.slice aa d.ga.length O,.slice y d.tk.length J]) (n8 (n2 (n1 nz))) (by kernel_rfl) (ZaI (by rfl) 50 _ rfl i rfl #[.slice an d.ns.length cn,.slice T d.is.length x,.slice X d.ds.length cf,.int .i64 d.pl,.slice (some ⟨b,g,none⟩) d.hs.length j,.slice al d.ls.length cl,.slice L d.gs.length cg,.slice G d.ps.length u,.int .i64 d.nx,.slice aa d.ga.length O,.slice y d.tk.length J] 50 _ (fun _ h=>h.1) Tryz.underlying50 rfl Zni) ‹_› ?_
 simp only [Act.put,sit,sc0,scs]
 refine tk 12 (.pointer (some ⟨i,4,none⟩)) (n8 (n4 nz)) (by kernel_rfl) (Or.inl ⟨by rfl,by intro w a;go_simp⟩) ‹_› ?_
 simp only [Act.put,sit,sc0,scs]
 refine tk 13 (.slice (some ⟨b,g,none⟩) d.hs.length j) (n8 (n4 (n1 nz))) (by kernel_rfl) (Or.inl ⟨by rfl,by intro f a;have c:=cell_of_row f (i) 4 _ _ _ a.1;go_simp⟩) ‹_› ?_
 simp only [Act.put,sit,sc0,scs]
 refine tk 14 (.int .i64 (k:Nat)) (n8 (n4 (n2 nz))) (by kernel_rfl) (Or.inl ⟨by rfl,by intro w a;go_simp⟩) ‹_› ?_
 simp only [Act.put,sit,sc0,scs]
 refine tk 15 (.pointer (some ⟨b,g+k * 12,none⟩)) (n8 (n4 (n2 (n1 nz)))) (by kernel_rfl) (Or.inl ⟨by rfl,by intro w a;go_simp⟩) ‹_› ?_
 simp only [Act.put,sit,sc0,scs]
 refine tk 16 (.pointer (some ⟨b,g+k * 12+1,none⟩)) (n8 (n8 nz)) (by kernel_rfl) (Or.inl ⟨by rfl,by intro w a;go_simp⟩) ‹_› ?_
 simp only [Act.put,sit,sc0,scs]
 refine tk 17 (.pointer (some ⟨b,g+k * 12+1,none⟩)) (n8 (n8 (n1 nz))) (by kernel_rfl) (Or.inl ⟨by rfl,by intro w a;go_simp⟩) ‹_› ?_
 simp only [Act.put,sit,sc0,scs]
 refine tk 18 (.int .i64 p) (n8 (n8 (n2 nz))) (by kernel_rfl) (Or.inl ⟨by rfl,by intro f a;have c:=a.2;go_simp⟩) ‹_› ?_
 simp only [Act.put,sit,sc0,scs]
 refine wpAnyH_ready (rs:=[19]) (by kernel_rfl) (by simp) ?_
 refine AllReadyH.cons rfl (fun K hK=>?_) AllReadyH.nil
 go_simp
 go_wp2_with (go_at_call 16;with_reducible refine (HC _ B).mono ?_;rintro e wE ⟨rfl,hb⟩)
 replace B:=B.trans (hb.mono B.size)
 clear hb
 refine hK.out _ _ (hS _ B) (fun l=>?_)
 clear hK
 refine tk 20 (.bool r) (n8 (n8 (n4 nz))) (by kernel_rfl) (Or.inl ⟨by rfl,by intro f a;subst hr;first | (go_simp;done) | (go_simp;simp;done)⟩) ‹_› ?_
 simp only [Act.put,sit,sc0,scs]
 refine tk 21 (.bool r) (n8 (n8 (n4 (n1 nz)))) (by kernel_rfl) (Or.inl ⟨by rfl,by intro w a;go_simp⟩) ‹_› ?_
 simp only [Act.put,sit,sc0,scs]
 refine wpAnyH_done (by kernel_rfl) ?_ _
 exact NoPanic.normal (hQ _ _ _ _ _ _ _ _ _ _ _ _ _ _ _ _ _ _ _ _ _ _ B)
abbrev opr5:List Oper:=⟨some 38,.move (.tmp 5),4, "l15_judge.go:44", #[],none⟩ :: ⟨some 39,.move (.tmp 38),4, "l15_judge.go:44", #[⟨0,.data⟩],none⟩ :: ⟨some 40,.move (.tmp 1),127, "l15_judge.go:44", #[⟨1,.guard⟩],some (1,true)⟩ :: ⟨some 41,.move (.tmp 6),3, "l15_judge.go:44", #[⟨1,.guard⟩],some (1,true)⟩ :: ⟨some 42,.binOp .sub 3 (.tmp 41) (.const (.int IntKind.i64 1)) 3,3, "l15_judge.go:44", #[⟨3,.data⟩,⟨1,.guard⟩],some (1,true)⟩ :: ⟨some 43,.indexAddr 127 (.tmp 40) (.tmp 42),0, "l15_judge.go:44", #[⟨2,.data⟩,⟨4,.data⟩,⟨1,.guard⟩],some (1,true)⟩ :: ⟨some 44,.load 128 (.tmp 43),128, "l15_judge.go:44", #[⟨5,.data⟩,⟨1,.guard⟩],some (1,true)⟩ :: ⟨some 45,.load 50 (.tmp 2),50, "l15_judge.go:44", #[⟨1,.guard⟩],some (1,true)⟩ :: ⟨some 46,.call { callee:=.value (.tmp 44),args:=#[.tmp 45],argTypes:=#[50] },4, "l15_judge.go:44", #[⟨6,.data⟩,⟨7,.data⟩,⟨1,.chain⟩,⟨1,.guard⟩],some (1,true)⟩ :: ⟨some 47,.pick (.tmp 39) (.tmp 46) (.const (.bool false)),4, "l15_judge.go:44", #[⟨1,.data⟩,⟨8,.data⟩],none⟩ :: ⟨some 4,.assign (.tmp 47),4, "l15_judge.go:44", #[⟨9,.data⟩,⟨8,.chain⟩,⟨0,.phase⟩,⟨1,.phase⟩,⟨2,.phase⟩,⟨3,.phase⟩,⟨4,.phase⟩,⟨5,.phase⟩,⟨6,.phase⟩,⟨7,.phase⟩,⟨8,.phase⟩,⟨9,.phase⟩],none⟩ :: []
theorem Zim {t0 t3 t4 t7 t8 t9 f r i v o G q C H A z h I g c j l D m n k s x y E e u t V P L S O N X Y T R:Value}{fs:List Deferred}(J b qj F:Nat)(an ai af ah al ag ap aa ab:Option Addr)(cn ci cf ch Z cg cp ca cb:Nat)(d:Wd)(w:World)(Q:Exit -> Act -> World -> Prop)(hx:w.heap[J]? = some (.cells #[.slice an d.ns.length cn,.slice ai d.is.length ci,.slice af d.ds.length cf,.int .i64 d.pl,.slice ah d.hs.length ch,.slice al d.ls.length Z,.slice ag d.gs.length cg,.slice ap d.ps.length cp,.int .i64 d.nx,.slice aa d.ga.length ca,.slice ab d.tk.length cb] 50 (0,0)))(M:b < w.heap.size)(hc:w.cell? ⟨b,0,none⟩=some (.func (.func F) #[] #[]))(hQ:∀ u38 u39 u40 u41 u42 u43 u44 u45 u46 u47 (W:World),Below w.heap.size w W -> Q .normal ⟨#[t0,.slice (some ⟨b,0,none⟩) 1 qj,.pointer (some ⟨J,0,none⟩),t3,.bool false,.bool false,.int .i64 1,t7,t8,t9,f,r,i,v,o,G,q,C,H,A,z,h,I,g,c,j,l,D,m,n,k,s,x,y,E,e,u,t,u38,u39,u40,u41,u42,u43,u44,u45,u46,u47],fs⟩ W) :
  (Code.region 9 opr5.toArray true).wp Tryz.prog Q ⟨#[t0,.slice (some ⟨b,0,none⟩) 1 qj,.pointer (some ⟨J,0,none⟩),t3,t4,.bool false,.int .i64 1,t7,t8,t9,f,r,i,v,o,G,q,C,H,A,z,h,I,g,c,j,l,D,m,n,k,s,x,y,E,e,u,t,V,P,L,S,O,N,X,Y,T,R],fs⟩ w:=by
 have hS:∀ K,Below w.heap.size w K -> (K.heap[J]? = some (.cells #[.slice an d.ns.length cn,.slice ai d.is.length ci,.slice af d.ds.length cf,.int .i64 d.pl,.slice ah d.hs.length ch,.slice al d.ls.length Z,.slice ag d.gs.length cg,.slice ap d.ps.length cp,.int .i64 d.nx,.slice aa d.ga.length ca,.slice ab d.tk.length cb] 50 (0,0))/\K.cell? ⟨b,0,none⟩=some (.func (.func F) #[] #[])):=fun K hb=>⟨Zae hx hb,(hb.cell (p:=⟨b,0,none⟩) M).trans hc⟩
 have B:Below w.heap.size w w.drew:=Zaw w
 refine rg hS B (by kernel_rfl) fun U=>?_
 refine tk 0 (.bool false) nz (by kernel_rfl) (Or.inl ⟨by rfl,by intro w a;go_simp⟩) ‹_› ?_
 simp only [Act.put,sit,sc0,scs]
 refine tk 1 (.bool false) (n1 nz) (by kernel_rfl) (Or.inl ⟨by rfl,by intro w a;go_simp⟩) ‹_› ?_
 simp only [Act.put,sit,sc0,scs]
 refine tk 2 (undef) (n2 nz) (by kernel_rfl) (Or.inr ⟨by rfl,rfl⟩) ‹_› ?_
 simp only [Act.put,sit,sc0,scs]
 refine tk 3 (undef) (n2 (n1 nz)) (by kernel_rfl) (Or.inr ⟨by rfl,rfl⟩) ‹_› ?_
 simp only [Act.put,sit,sc0,scs]
 refine tk 4 (undef) (n4 nz) (by kernel_rfl) (Or.inr ⟨by rfl,rfl⟩) ‹_› ?_
 simp only [Act.put,sit,sc0,scs]
 refine tk 5 (undef) (n4 (n1 nz)) (by kernel_rfl) (Or.inr ⟨by rfl,rfl⟩) ‹_› ?_
 simp only [Act.put,sit,sc0,scs]
 refine tk 6 (undef) (n4 (n2 nz)) (by kernel_rfl) (Or.inr ⟨by rfl,rfl⟩) ‹_› ?_
 simp only [Act.put,sit,sc0,scs]
 refine tk 7 (undef) (n4 (n2 (n1 nz))) (by kernel_rfl) (Or.inr ⟨by rfl,rfl⟩) ‹_› ?_
 simp only [Act.put,sit,sc0,scs]
 refine tk 8 (undef) (n8 nz) (by kernel_rfl) (Or.inr ⟨by rfl,rfl⟩) ‹_› ?_
 simp only [Act.put,sit,sc0,scs]
 refine tk 9 (.bool false) (n8 (n1 nz)) (by kernel_rfl) (Or.inl ⟨by rfl,by intro w a;go_simp⟩) ‹_› ?_
 simp only [Act.put,sit,sc0,scs]
 refine tk 10 (.bool false) (n8 (n2 nz)) (by kernel_rfl) (Or.inl ⟨by rfl,by intro w a;go_simp⟩) ‹_› ?_
 simp only [Act.put,sit,sc0,scs]
 refine wpAnyH_done (by kernel_rfl) ?_ _
 exact NoPanic.normal (hQ _ _ _ _ _ _ _ _ _ _ _ B)
theorem Zhv {t0 t3 t4 t7 t8 t9 i H S ac ak u E ad v t s ae ar j M k U ao aj l T I L q aq N am Z aC aw av aA az ay au aD aB ax:Value}{fs:List Deferred}(z b qj F:Nat)(P D G R X y ap V o:Option Addr)(Y n cf A O cg m C x:Nat)(d:Wd)(w:World)(Q:Exit -> Act -> World -> Prop)(hx:w.heap[z]? = some (.cells #[.slice P d.ns.length Y,.slice D d.is.length n,.slice G d.ds.length cf,.int .i64 d.pl,.slice R d.hs.length A,.slice X d.ls.length O,.slice y d.gs.length cg,.slice ap d.ps.length m,.int .i64 d.nx,.slice V d.ga.length C,.slice o d.tk.length x] 50 (0,0)))(aE:b < w.heap.size)(hc:w.cell? ⟨b,0,none⟩=some (.func (.func F) #[] #[]))(aF:∀ args w,Sem.run Tryz.prog (callFunc F args) w=.ok (.enter F args) w)(r:Bool)(HC:∀ W,Below w.heap.size w W -> Calls Tryz.prog F #[.agg #[.slice P d.ns.length Y,.slice D d.is.length n,.slice G d.ds.length cf,.int .i64 d.pl,.slice R d.hs.length A,.slice X d.ls.length O,.slice y d.gs.length cg,.slice ap d.ps.length m,.int .i64 d.nx,.slice V d.ga.length C,.slice o d.tk.length x]] W fun e f=>e=.returned (.bool r)/\Below W.heap.size W f)(hQ:∀ u38 u39 u40 u41 u42 u43 u44 u45 u46 u47 (W:World),Below w.heap.size w W -> Q .normal ⟨#[t0,.slice (some ⟨b,0,none⟩) 1 qj,.pointer (some ⟨z,0,none⟩),t3,.bool r,.bool true,.int .i64 1,t7,t8,t9,i,H,S,ac,ak,u,E,ad,v,t,s,ae,ar,j,M,k,U,ao,aj,l,T,I,L,q,aq,N,am,Z,u38,u39,u40,u41,u42,u43,u44,u45,u46,u47],fs⟩ W) :
  (Code.region 9 opr5.toArray true).wp Tryz.prog Q ⟨#[t0,.slice (some ⟨b,0,none⟩) 1 qj,.pointer (some ⟨z,0,none⟩),t3,t4,.bool true,.int .i64 1,t7,t8,t9,i,H,S,ac,ak,u,E,ad,v,t,s,ae,ar,j,M,k,U,ao,aj,l,T,I,L,q,aq,N,am,Z,aC,aw,av,aA,az,ay,au,aD,aB,ax],fs⟩ w:=by
 have hS:∀ f,Below w.heap.size w f -> (f.heap[z]? = some (.cells #[.slice P d.ns.length Y,.slice D d.is.length n,.slice G d.ds.length cf,.int .i64 d.pl,.slice R d.hs.length A,.slice X d.ls.length O,.slice y d.gs.length cg,.slice ap d.ps.length m,.int .i64 d.nx,.slice V d.ga.length C,.slice o d.tk.length x] 50 (0,0))/\f.cell? ⟨b,0,none⟩=some (.func (.func F) #[] #[])):=fun f J=>⟨Zae hx J,(J.cell (p:=⟨b,0,none⟩) aE).trans hc⟩
 have B:Below w.heap.size w w.drew:=Zaw w
 refine rg hS B (by kernel_rfl) fun g=>?_
 refine tk 0 (.bool true) nz (by kernel_rfl) (Or.inl ⟨by rfl,by intro w a;go_simp⟩) ‹_› ?_
 simp only [Act.put,sit,sc0,scs]
 refine tk 1 (.bool true) (n1 nz) (by kernel_rfl) (Or.inl ⟨by rfl,by intro w a;go_simp⟩) ‹_› ?_
 simp only [Act.put,sit,sc0,scs]
 refine tk 2 (.slice (some ⟨b,0,none⟩) 1 qj) (n2 nz) (by kernel_rfl) (Or.inl ⟨by rfl,by intro w a;go_simp⟩) ‹_› ?_
 simp only [Act.put,sit,sc0,scs]
 refine tk 3 (.int .i64 1) (n2 (n1 nz)) (by kernel_rfl) (Or.inl ⟨by rfl,by intro w a;go_simp⟩) ‹_› ?_
 simp only [Act.put,sit,sc0,scs]
 refine tk 4 (.int .i64 0) (n4 nz) (by kernel_rfl) (Or.inl ⟨by rfl,by intro w a;first | (go_simp;done) | (go_simp;rfl) | (go_simp;decide)⟩) ‹_› ?_
 simp only [Act.put,sit,sc0,scs]
 refine tk 5 (.pointer (some ⟨b,0,none⟩)) (n4 (n1 nz)) (by kernel_rfl) (Or.inl ⟨by rfl,by intro w a;go_simp⟩) ‹_› ?_
 simp only [Act.put,sit,sc0,scs]
 refine tk 6 (.func (.func F) #[] #[]) (n4 (n2 nz)) (by kernel_rfl) (Or.inl ⟨by rfl,by intro f a;have c:=a.2;go_simp⟩) ‹_› ?_
 simp only [Act.put,sit,sc0,scs]
 refine tk 7 (.agg #[.slice P d.ns.length Y,.slice D d.is.length n,.slice G d.ds.length cf,.int .i64 d.pl,.slice R d.hs.length A,.slice X d.ls.length O,.slice y d.gs.length cg,.slice ap d.ps.length m,.int .i64 d.nx,.slice V d.ga.length C,.slice o d.tk.length x]) (n4 (n2 (n1 nz))) (by kernel_rfl) (ZaI (by rfl) 50 _ rfl z rfl #[.slice P d.ns.length Y,.slice D d.is.length n,.slice G d.ds.length cf,.int .i64 d.pl,.slice R d.hs.length A,.slice X d.ls.length O,.slice y d.gs.length cg,.slice ap d.ps.length m,.int .i64 d.nx,.slice V d.ga.length C,.slice o d.tk.length x] 50 _ (fun _ h=>h.1) Tryz.underlying50 rfl Zni) ‹_› ?_
 simp only [Act.put,sit,sc0,scs]
 refine wpAnyH_ready (rs:=[8]) (by kernel_rfl) (by simp) ?_
 refine AllReadyH.cons rfl (fun K hK=>?_) AllReadyH.nil
 go_simp
 go_wp2_with fail
 with_reducible refine (HC _ B).mono ?_
 rintro e wE ⟨rfl,J⟩
 go_wp2_with fail
 replace B:=B.trans (J.mono B.size)
 clear J
 refine hK.out _ _ (hS _ B) (fun g=>?_)
 clear hK
 refine tk 9 (.bool r) (n8 (n1 nz)) (by kernel_rfl) (Or.inl ⟨by rfl,by intro w a;go_simp⟩) ‹_› ?_
 simp only [Act.put,sit,sc0,scs]
 refine tk 10 (.bool r) (n8 (n2 nz)) (by kernel_rfl) (Or.inl ⟨by rfl,by intro w a;go_simp⟩) ‹_› ?_
 simp only [Act.put,sit,sc0,scs]
 refine wpAnyH_done (by kernel_rfl) ?_ _
 exact NoPanic.normal (hQ _ _ _ _ _ _ _ _ _ _ _ B)
end Go.Proofs.YtfeodlbpnghakaaGreatDoor
