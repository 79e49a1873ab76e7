/-
  The last region of spec.l8Read, which draws its order, alone, by what is right so far. No condition.
-/
import Derived.Test.YtfeodlbpnghakaaGreatDoorSR8M
import Derived.Test.YtfeodlbpnghakaaGreatDoorMark2M
import Derived.Deep.RegionHeld3
set_option maxRecDepth 100000
set_option maxHeartbeats 6400000
namespace Go.Proofs.YtfeodlbpnghakaaGreatDoor
open Go.RowKit
theorem nz {α:Type}{x:α}{l:List α}:(x :: l)[0]? = some x:=rfl
theorem n1 {α:Type}{x y:α}{l:List α}{n:Nat}(h:l[n]? = some x):(y :: l)[n+1]? = some x:=h
theorem n2 {α:Type}{x y z:α}{l:List α}{n:Nat}(h:l[n]? = some x):(y :: z :: l)[n+2]? = some x:=h
theorem n4 {α:Type}{x a b c d:α}{l:List α}{n:Nat}(h:l[n]? = some x):(a :: b :: c :: d :: l)[n+4]? = some x:=h
theorem n8 {α:Type}{x a b c d g i f e:α}{l:List α}{n:Nat}(h:l[n]? = some x):(a :: b :: c :: d :: g :: i :: f :: e :: l)[n+8]? = some x:=h
theorem tq {P:Program}{g:Region.Mode}{l:List Oper}{S:World -> Prop}{Q:Exit -> Act -> World -> Prop}{e:Oper}{d:Nat}{b:Array Bool}{a:Act}{w:World}(i:Nat)(v:Value)(hi:l[i]? = some e)(f:(Region.noSelect l.toArray && (Region.free g l.toArray b i && (Region.ready g l.toArray b).contains i))=true)(k:∀ c a w,Q (.panic c) (a.put e.dst v) w -> Q (.panic c) a w)(j:YieldsIf P l.toArray S e v a)(m:S w)(h:wpAnyH P g l.toArray Q S d (b.setIfInBounds i true) (a.put e.dst v) w):wpAnyH P g l.toArray Q S (d+1) b a w:=by
 simp only [Bool.and_eq_true] at f
 exact wpAnyH_take (by simpa using hi) f.1 f.2.1 f.2.2 k j m h
theorem tk {P:Program}{d:Region.Mode}{l:List Oper}{S:World -> Prop}{Q:Exit -> Act -> World -> Prop}{e:Oper}{c:Nat}{b:Array Bool}{a:Act}{w:World}(i:Nat)(v:Value)(hi:l[i]? = some e)(j:(Region.noSelect l.toArray && (Region.free d l.toArray b i && (Region.ready d l.toArray b).contains i))=true)(f:YieldsIf P l.toArray S e v a)(g:S w)(h:wpAnyH P d l.toArray (NoPanic Q) S c (b.setIfInBounds i true) (a.put e.dst v) w):wpAnyH P d l.toArray (NoPanic Q) S (c+1) b a w :=
 tq i v hi j (fun _ _ _ h=>h) f g h
theorem rg {P:Program}{d:Nat}{l:List Oper}{Q:Exit -> Act -> World -> Prop}{a:Act}{w:World}{S:World -> Prop}(e:∀ b,Below w.heap.size w b -> S b)(B:Below w.heap.size w w.drew)(c:P.follows .mixedOrders=true)(h:S w.drew -> wpAnyH P .any l.toArray (NoPanic Q) S l.toArray.size (Array.replicate l.toArray.size false) a w.drew):(Code.region d l.toArray true).wp P Q a w :=
 wp_region_noPanic (wp_region_held_drew c (e _ B) h)
abbrev opr1:List Oper:=⟨some 105,.move (.tmp 0),160, "l08_wire.go:84", #[],none⟩ :: ⟨some 106,.move (.tmp 0),160, "l08_wire.go:84", #[],none⟩ :: ⟨some 107,.nilCheck (.tmp 106),0, "l08_wire.go:84", #[⟨1,.data⟩],none⟩ :: ⟨some 108,.fieldAddr 163 (.tmp 107) 2,0, "l08_wire.go:84", #[⟨2,.data⟩],none⟩ :: ⟨some 109,.load 4 (.tmp 108),4, "l08_wire.go:84", #[⟨3,.data⟩],none⟩ :: ⟨some 110,.move (.tmp 109),4, "l08_wire.go:84", #[⟨4,.data⟩],none⟩ :: ⟨some 111,.move (.tmp 0),160, "l08_wire.go:84", #[⟨5,.guard⟩],some (5,true)⟩ :: ⟨some 112,.nilCheck (.tmp 111),0, "l08_wire.go:84", #[⟨6,.data⟩,⟨5,.guard⟩],some (5,true)⟩ :: ⟨some 113,.fieldAddr 163 (.tmp 112) 1,0, "l08_wire.go:84", #[⟨7,.data⟩,⟨5,.guard⟩],some (5,true)⟩ :: ⟨some 114,.load 3 (.tmp 113),3, "l08_wire.go:84", #[⟨8,.data⟩,⟨5,.guard⟩],some (5,true)⟩ :: ⟨some 115,.move (.tmp 0),160, "l08_wire.go:84", #[⟨5,.guard⟩],some (5,true)⟩ :: ⟨some 116,.nilCheck (.tmp 115),0, "l08_wire.go:84", #[⟨10,.data⟩,⟨5,.guard⟩],some (5,true)⟩ :: ⟨some 117,.fieldAddr 163 (.tmp 116) 0,0, "l08_wire.go:84", #[⟨11,.data⟩,⟨5,.guard⟩],some (5,true)⟩ :: ⟨some 118,.load 161 (.tmp 117),161, "l08_wire.go:84", #[⟨12,.data⟩,⟨5,.guard⟩],some (5,true)⟩ :: ⟨some 119,.call { callee:=.builtin .len,args:=#[.tmp 118],argTypes:=#[161] },3, "l08_wire.go:84", #[⟨13,.data⟩,⟨5,.guard⟩],some (5,true)⟩ :: ⟨some 120,.binOp .eql 3 (.tmp 114) (.tmp 119) 3,4, "l08_wire.go:84", #[⟨9,.data⟩,⟨14,.data⟩,⟨5,.guard⟩],some (5,true)⟩ :: ⟨some 121,.pick (.tmp 110) (.tmp 120) (.const (.bool false)),4, "l08_wire.go:84", #[⟨5,.data⟩,⟨15,.data⟩],none⟩ :: ⟨some 122,.move (.tmp 121),4, "l08_wire.go:84", #[⟨16,.data⟩,⟨5,.chain⟩],none⟩ :: ⟨some 123,.load 40 (.tmp 3),40, "l08_wire.go:84", #[⟨17,.guard⟩],some (17,true)⟩ :: ⟨some 124,.call { callee:=.value (.func 75),args:=#[.tmp 123],argTypes:=#[40] },4, "l08_wire.go:84", #[⟨18,.data⟩,⟨17,.chain⟩,⟨17,.guard⟩],some (17,true)⟩ :: ⟨some 125,.pick (.tmp 122) (.tmp 124) (.const (.bool false)),4, "l08_wire.go:84", #[⟨17,.data⟩,⟨19,.data⟩],none⟩ :: ⟨some 126,.nilCheck (.tmp 105),0, "l08_wire.go:84", #[⟨0,.data⟩,⟨0,.phase⟩,⟨1,.phase⟩,⟨2,.phase⟩,⟨3,.phase⟩,⟨4,.phase⟩,⟨5,.phase⟩,⟨6,.phase⟩,⟨7,.phase⟩,⟨8,.phase⟩,⟨9,.phase⟩,⟨10,.phase⟩,⟨11,.phase⟩,⟨12,.phase⟩,⟨13,.phase⟩,⟨14,.phase⟩,⟨15,.phase⟩,⟨16,.phase⟩,⟨17,.phase⟩,⟨18,.phase⟩,⟨19,.phase⟩,⟨20,.phase⟩],none⟩ :: ⟨some 127,.fieldAddr 163 (.tmp 126) 2,0, "l08_wire.go:84", #[⟨21,.data⟩,⟨0,.phase⟩,⟨1,.phase⟩,⟨2,.phase⟩,⟨3,.phase⟩,⟨4,.phase⟩,⟨5,.phase⟩,⟨6,.phase⟩,⟨7,.phase⟩,⟨8,.phase⟩,⟨9,.phase⟩,⟨10,.phase⟩,⟨11,.phase⟩,⟨12,.phase⟩,⟨13,.phase⟩,⟨14,.phase⟩,⟨15,.phase⟩,⟨16,.phase⟩,⟨17,.phase⟩,⟨18,.phase⟩,⟨19,.phase⟩,⟨20,.phase⟩],none⟩ :: ⟨none,.store 4 (.tmp 127) (.tmp 125),0, "l08_wire.go:84", #[⟨22,.data⟩,⟨20,.data⟩,⟨19,.chain⟩,⟨0,.phase⟩,⟨1,.phase⟩,⟨2,.phase⟩,⟨3,.phase⟩,⟨4,.phase⟩,⟨5,.phase⟩,⟨6,.phase⟩,⟨7,.phase⟩,⟨8,.phase⟩,⟨9,.phase⟩,⟨10,.phase⟩,⟨11,.phase⟩,⟨12,.phase⟩,⟨13,.phase⟩,⟨14,.phase⟩,⟨15,.phase⟩,⟨16,.phase⟩,⟨17,.phase⟩,⟨18,.phase⟩,⟨19,.phase⟩,⟨20,.phase⟩],none⟩ :: []
theorem ZcW {t1 t2 t4 t5 t6 t7 t8 t9 u au aI aZ bo U aq a6 V R P a9 bG x aC y aJ bC bh B aK aw ax N bE aE bw aX a3 al Z aU aH aG T a7 aV am ac bm Y ap bn L bB ae v bp aM be bq bx bF aT bg ai ag bd E aL bj az D ba ar aD F bz bi aQ aR ak bD aa I aB ab aW br ah M z t aS ad a2 aF aA J aY k o p i j bu X bA a0 aN bc G an A bk af a4 a5 aj bt ay bs a1 aO bf O H aP l:Value}{fs:List Deferred}(C h n d m s:Nat)(q r:Option Addr)(f:Int)(w:World)(Q:Exit -> Act -> World -> Prop)(bK:C ≠ h)(hC:w.heap[C]? = some (.cells #[.slice q n d,.int .i64 f,.bool false] 163 (0,0)))(hP:w.heap[h]? = some (.cells #[.slice r m s] 40 (0,0)))(hQ:∀ u105 u106 u107 u108 u109 u110 u111 u112 u113 u114 u115 u116 u117 u118 u119 u120 u121 u122 u123 u124 u125 u126 u127 (W:World),Below w.heap.size w W -> W.heap[C]? = some (.cells #[.slice q n d,.int .i64 f,.bool false] 163 (0,0)) -> Q .normal ⟨#[.pointer (some ⟨C,0,none⟩),t1,t2,.pointer (some ⟨h,0,none⟩),t4,t5,t6,t7,t8,t9,u,au,aI,aZ,bo,U,aq,a6,V,R,P,a9,bG,x,aC,y,aJ,bC,bh,B,aK,aw,ax,N,bE,aE,bw,aX,a3,al,Z,aU,aH,aG,T,a7,aV,am,ac,bm,Y,ap,bn,L,bB,ae,v,bp,aM,be,bq,bx,bF,aT,bg,ai,ag,bd,E,aL,bj,az,D,ba,ar,aD,F,bz,bi,aQ,aR,ak,bD,aa,I,aB,ab,aW,br,ah,M,z,t,aS,ad,a2,aF,aA,J,aY,k,o,p,i,j,u105,u106,u107,u108,u109,u110,u111,u112,u113,u114,u115,u116,u117,u118,u119,u120,u121,u122,u123,u124,u125,u126,u127,l],fs⟩ (W.setCell ⟨C,2,none⟩ (.bool false))) :
  (Code.region 30 opr1.toArray true).wp Tryz.prog Q ⟨#[.pointer (some ⟨C,0,none⟩),t1,t2,.pointer (some ⟨h,0,none⟩),t4,t5,t6,t7,t8,t9,u,au,aI,aZ,bo,U,aq,a6,V,R,P,a9,bG,x,aC,y,aJ,bC,bh,B,aK,aw,ax,N,bE,aE,bw,aX,a3,al,Z,aU,aH,aG,T,a7,aV,am,ac,bm,Y,ap,bn,L,bB,ae,v,bp,aM,be,bq,bx,bF,aT,bg,ai,ag,bd,E,aL,bj,az,D,ba,ar,aD,F,bz,bi,aQ,aR,ak,bD,aa,I,aB,ab,aW,br,ah,M,z,t,aS,ad,a2,aF,aA,J,aY,k,o,p,i,j,bu,X,bA,a0,aN,bc,G,an,A,bk,af,a4,a5,aj,bt,ay,bs,a1,aO,bf,O,H,aP,l],fs⟩ w:=by
 have lC:=(bl hC)
 have lP:=(bl hP)
 have hd:Below w.heap.size w w.drew:=(Below.refl _ _).drew
 have hS:∀ c:World,c.heap[C]? = some (.cells #[.slice q n d,.int .i64 f,.bool false] 163 (0,0)) -> c.heap[h]? = some (.cells #[.slice r m s] 40 (0,0)) -> (c.cell? ⟨C,0,none⟩=some (.slice q n d)/\c.cell? ⟨C,1,none⟩=some (.int .i64 f)/\c.cell? ⟨h,0,none⟩=some (.slice r m s)):=fun c h1 h2=>⟨cell_of_row c _ 0 _ _ _ h1,cell_of_row c _ 1 _ _ _ h1,cell_of_row c _ 0 _ _ _ h2⟩
 have bJ:∀ c:World,c.heap[C]? = some (.cells #[.slice q n d,.int .i64 f,.bool false] 163 (0,0)) -> c.heap[h]? = some (.cells #[.slice r m s] 40 (0,0)) -> ∀ b:Bool,((c.setCell ⟨C,2,none⟩ (.bool b)).cell? ⟨C,0,none⟩=some (.slice q n d)/\(c.setCell ⟨C,2,none⟩ (.bool b)).cell? ⟨C,1,none⟩=some (.int .i64 f)/\(c.setCell ⟨C,2,none⟩ (.bool b)).cell? ⟨h,0,none⟩=some (.slice r m s)):=fun c h1 h2 b=>by
  have q1:=heap_setCell_same c C 2 _ _ (.bool b) h1
  have q2:=(heap_setCell_other c ⟨C,2,none⟩ h (.bool b) (fun e=>bK e.symm)).trans h2
  exact ⟨cell_of_row _ _ 0 _ _ _ q1,cell_of_row _ _ 1 _ _ _ q1,cell_of_row _ _ 0 _ _ _ q2⟩
 have g:=(hd.block _ lC).trans hC
 have a8:=(hd.block _ lP).trans hP
 have S:=hS _ g a8
 have c2:w.drew.cell? ⟨C,2,none⟩=some (.bool false):=cell_of_row _ _ 2 _ _ _ g
 refine wp_region_noPanic ?_
 refine wp_region_held_drew (S:=fun c=>c.cell? ⟨C,0,none⟩=some (.slice q n d)/\c.cell? ⟨C,1,none⟩=some (.int .i64 f)/\c.cell? ⟨h,0,none⟩=some (.slice r m s)) (by kernel_rfl) S (fun bL=>?_)
 refine tk 0 (.pointer (some ⟨C,0,none⟩)) nz (by kernel_rfl) (Or.inl ⟨by rfl,by intro w a;(try dsimp only at a);go_simp⟩) ‹_› ?_
 simp only [Act.put,sit,sc0,scs]
 refine tk 1 (.pointer (some ⟨C,0,none⟩)) (n1 nz) (by kernel_rfl) (Or.inl ⟨by rfl,by intro w a;(try dsimp only at a);go_simp⟩) ‹_› ?_
 simp only [Act.put,sit,sc0,scs]
 refine tk 2 (.pointer (some ⟨C,0,none⟩)) (n2 nz) (by kernel_rfl) (Or.inl ⟨by rfl,by intro w a;(try dsimp only at a);go_simp⟩) ‹_› ?_
 simp only [Act.put,sit,sc0,scs]
 refine tk 3 (.pointer (some ⟨C,2,none⟩)) (n2 (n1 nz)) (by kernel_rfl) (Or.inl ⟨by rfl,by intro w a;(try dsimp only at a);go_simp⟩) ‹_› ?_
 simp only [Act.put,sit,sc0,scs]
 refine wpAnyH_ready (rs:=[4]) (by kernel_rfl) (by simp) ?_
 refine AllReadyH.cons rfl (fun K hK=>?_) AllReadyH.nil
 go_simp
 refine hK.out _ _ S (fun bI=>?_)
 clear hK
 refine tk 5 (.bool false) (n4 (n1 nz)) (by kernel_rfl) (Or.inl ⟨by rfl,by intro w a;(try dsimp only at a);go_simp⟩) ‹_› ?_
 simp only [Act.put,sit,sc0,scs]
 refine tk 6 (undef) (n4 (n2 nz)) (by kernel_rfl) (Or.inr ⟨by rfl,rfl⟩) ‹_› ?_
 simp only [Act.put,sit,sc0,scs]
 refine tk 7 (undef) (n4 (n2 (n1 nz))) (by kernel_rfl) (Or.inr ⟨by rfl,rfl⟩) ‹_› ?_
 simp only [Act.put,sit,sc0,scs]
 refine tk 8 (undef) (n8 nz) (by kernel_rfl) (Or.inr ⟨by rfl,rfl⟩) ‹_› ?_
 simp only [Act.put,sit,sc0,scs]
 refine tk 9 (undef) (n8 (n1 nz)) (by kernel_rfl) (Or.inr ⟨by rfl,rfl⟩) ‹_› ?_
 simp only [Act.put,sit,sc0,scs]
 refine tk 10 (undef) (n8 (n2 nz)) (by kernel_rfl) (Or.inr ⟨by rfl,rfl⟩) ‹_› ?_
 simp only [Act.put,sit,sc0,scs]
 refine tk 11 (undef) (n8 (n2 (n1 nz))) (by kernel_rfl) (Or.inr ⟨by rfl,rfl⟩) ‹_› ?_
 simp only [Act.put,sit,sc0,scs]
 refine tk 12 (undef) (n8 (n4 nz)) (by kernel_rfl) (Or.inr ⟨by rfl,rfl⟩) ‹_› ?_
 simp only [Act.put,sit,sc0,scs]
 refine tk 13 (undef) (n8 (n4 (n1 nz))) (by kernel_rfl) (Or.inr ⟨by rfl,rfl⟩) ‹_› ?_
 simp only [Act.put,sit,sc0,scs]
 refine tk 14 (undef) (n8 (n4 (n2 nz))) (by kernel_rfl) (Or.inr ⟨by rfl,rfl⟩) ‹_› ?_
 simp only [Act.put,sit,sc0,scs]
 refine tk 15 (undef) (n8 (n4 (n2 (n1 nz)))) (by kernel_rfl) (Or.inr ⟨by rfl,rfl⟩) ‹_› ?_
 simp only [Act.put,sit,sc0,scs]
 refine tk 16 (.bool false) (n8 (n8 nz)) (by kernel_rfl) (Or.inl ⟨by rfl,by intro w a;(try dsimp only at a);go_simp⟩) ‹_› ?_
 simp only [Act.put,sit,sc0,scs]
 refine tk 17 (.bool false) (n8 (n8 (n1 nz))) (by kernel_rfl) (Or.inl ⟨by rfl,by intro w a;(try dsimp only at a);go_simp⟩) ‹_› ?_
 simp only [Act.put,sit,sc0,scs]
 refine tk 18 (undef) (n8 (n8 (n2 nz))) (by kernel_rfl) (Or.inr ⟨by rfl,rfl⟩) ‹_› ?_
 simp only [Act.put,sit,sc0,scs]
 refine tk 19 (undef) (n8 (n8 (n2 (n1 nz)))) (by kernel_rfl) (Or.inr ⟨by rfl,rfl⟩) ‹_› ?_
 simp only [Act.put,sit,sc0,scs]
 refine tk 20 (.bool false) (n8 (n8 (n4 nz))) (by kernel_rfl) (Or.inl ⟨by rfl,by intro w a;(try dsimp only at a);go_simp⟩) ‹_› ?_
 simp only [Act.put,sit,sc0,scs]
 refine tk 21 (.pointer (some ⟨C,0,none⟩)) (n8 (n8 (n4 (n1 nz)))) (by kernel_rfl) (Or.inl ⟨by rfl,by intro w a;(try dsimp only at a);go_simp⟩) ‹_› ?_
 simp only [Act.put,sit,sc0,scs]
 refine tk 22 (.pointer (some ⟨C,2,none⟩)) (n8 (n8 (n4 (n2 nz)))) (by kernel_rfl) (Or.inl ⟨by rfl,by intro w a;(try dsimp only at a);go_simp⟩) ‹_› ?_
 simp only [Act.put,sit,sc0,scs]
 refine wpAnyH_ready (rs:=[23]) (by kernel_rfl) (by simp) ?_
 refine AllReadyH.cons rfl (fun K hK=>?_) AllReadyH.nil
 have k2:w.drew.cell? ⟨C,2,none⟩=some (.bool false):=cell_of_row _ _ 2 _ _ _ g
 have f2:w.drew.frozen? ⟨C,2,none⟩=false:=frozen_of_row _ _ 2 _ _ g
 go_simp
 refine hK.out _ _ (bJ _ g a8 _) (fun bH=>?_)
 refine wpAnyH_done (by kernel_rfl) ?_ _
 exact NoPanic.normal <| hQ _ _ _ _ _ _ _ _ _ _ _ _ _ _ _ _ _ _ _ _ _ _ _ _ hd g
theorem ZkP {t1 t2 t4 t5 t6 t7 t8 t9 u au aI aZ bo U aq a6 V R P a9 bG x aC y aJ bC bh B aK aw ax N bE aE bw aX a3 al Z aU aH aG T a7 aV am ac bm Y ap bn L bB ae v bp aM be bq bx bF aT bg ai ag bd E aL bj az D ba ar aD F bz bi aQ aR ak bD aa I aB ab aW br ah M z t aS ad a2 aF aA J aY k p q i j bu X bA a0 aN bc G an A bk af a4 a5 aj bt ay bs a1 aO bf O H aP l:Value}{fs:List Deferred}(C h n f m s:Nat)(o r:Option Addr)(d:Int)(w:World)(Q:Exit -> Act -> World -> Prop)(bM:d ≠ (n:Int))(bK:C ≠ h)(hC:w.heap[C]? = some (.cells #[.slice o n f,.int .i64 d,.bool true] 163 (0,0)))(hP:w.heap[h]? = some (.cells #[.slice r m s] 40 (0,0)))(hQ:∀ u105 u106 u107 u108 u109 u110 u111 u112 u113 u114 u115 u116 u117 u118 u119 u120 u121 u122 u123 u124 u125 u126 u127 (W:World),Below w.heap.size w W -> W.heap[C]? = some (.cells #[.slice o n f,.int .i64 d,.bool true] 163 (0,0)) -> Q .normal ⟨#[.pointer (some ⟨C,0,none⟩),t1,t2,.pointer (some ⟨h,0,none⟩),t4,t5,t6,t7,t8,t9,u,au,aI,aZ,bo,U,aq,a6,V,R,P,a9,bG,x,aC,y,aJ,bC,bh,B,aK,aw,ax,N,bE,aE,bw,aX,a3,al,Z,aU,aH,aG,T,a7,aV,am,ac,bm,Y,ap,bn,L,bB,ae,v,bp,aM,be,bq,bx,bF,aT,bg,ai,ag,bd,E,aL,bj,az,D,ba,ar,aD,F,bz,bi,aQ,aR,ak,bD,aa,I,aB,ab,aW,br,ah,M,z,t,aS,ad,a2,aF,aA,J,aY,k,p,q,i,j,u105,u106,u107,u108,u109,u110,u111,u112,u113,u114,u115,u116,u117,u118,u119,u120,u121,u122,u123,u124,u125,u126,u127,l],fs⟩ (W.setCell ⟨C,2,none⟩ (.bool false))) :
  (Code.region 30 opr1.toArray true).wp Tryz.prog Q ⟨#[.pointer (some ⟨C,0,none⟩),t1,t2,.pointer (some ⟨h,0,none⟩),t4,t5,t6,t7,t8,t9,u,au,aI,aZ,bo,U,aq,a6,V,R,P,a9,bG,x,aC,y,aJ,bC,bh,B,aK,aw,ax,N,bE,aE,bw,aX,a3,al,Z,aU,aH,aG,T,a7,aV,am,ac,bm,Y,ap,bn,L,bB,ae,v,bp,aM,be,bq,bx,bF,aT,bg,ai,ag,bd,E,aL,bj,az,D,ba,ar,aD,F,bz,bi,aQ,aR,ak,bD,aa,I,aB,ab,aW,br,ah,M,z,t,aS,ad,a2,aF,aA,J,aY,k,p,q,i,j,bu,X,bA,a0,aN,bc,G,an,A,bk,af,a4,a5,aj,bt,ay,bs,a1,aO,bf,O,H,aP,l],fs⟩ w:=by
 have lC:=(bl hC)
 have lP:=(bl hP)
 have hd:Below w.heap.size w w.drew:=(Below.refl _ _).drew
 have hS:∀ c:World,c.heap[C]? = some (.cells #[.slice o n f,.int .i64 d,.bool true] 163 (0,0)) -> c.heap[h]? = some (.cells #[.slice r m s] 40 (0,0)) -> (c.cell? ⟨C,0,none⟩=some (.slice o n f)/\c.cell? ⟨C,1,none⟩=some (.int .i64 d)/\c.cell? ⟨h,0,none⟩=some (.slice r m s)):=fun c h1 h2=>⟨cell_of_row c _ 0 _ _ _ h1,cell_of_row c _ 1 _ _ _ h1,cell_of_row c _ 0 _ _ _ h2⟩
 have bJ:∀ c:World,c.heap[C]? = some (.cells #[.slice o n f,.int .i64 d,.bool true] 163 (0,0)) -> c.heap[h]? = some (.cells #[.slice r m s] 40 (0,0)) -> ∀ b:Bool,((c.setCell ⟨C,2,none⟩ (.bool b)).cell? ⟨C,0,none⟩=some (.slice o n f)/\(c.setCell ⟨C,2,none⟩ (.bool b)).cell? ⟨C,1,none⟩=some (.int .i64 d)/\(c.setCell ⟨C,2,none⟩ (.bool b)).cell? ⟨h,0,none⟩=some (.slice r m s)):=fun c h1 h2 b=>by
  have q1:=heap_setCell_same c C 2 _ _ (.bool b) h1
  have q2:=(heap_setCell_other c ⟨C,2,none⟩ h (.bool b) (fun e=>bK e.symm)).trans h2
  exact ⟨cell_of_row _ _ 0 _ _ _ q1,cell_of_row _ _ 1 _ _ _ q1,cell_of_row _ _ 0 _ _ _ q2⟩
 have g:=(hd.block _ lC).trans hC
 have a8:=(hd.block _ lP).trans hP
 have S:=hS _ g a8
 have c2:w.drew.cell? ⟨C,2,none⟩=some (.bool true):=cell_of_row _ _ 2 _ _ _ g
 refine wp_region_noPanic ?_
 refine wp_region_held_drew (S:=fun c=>c.cell? ⟨C,0,none⟩=some (.slice o n f)/\c.cell? ⟨C,1,none⟩=some (.int .i64 d)/\c.cell? ⟨h,0,none⟩=some (.slice r m s)) (by kernel_rfl) S (fun bL=>?_)
 refine tk 0 (.pointer (some ⟨C,0,none⟩)) nz (by kernel_rfl) (Or.inl ⟨by rfl,by intro w a;(try dsimp only at a);go_simp⟩) ‹_› ?_
 simp only [Act.put,sit,sc0,scs]
 refine tk 1 (.pointer (some ⟨C,0,none⟩)) (n1 nz) (by kernel_rfl) (Or.inl ⟨by rfl,by intro w a;(try dsimp only at a);go_simp⟩) ‹_› ?_
 simp only [Act.put,sit,sc0,scs]
 refine tk 2 (.pointer (some ⟨C,0,none⟩)) (n2 nz) (by kernel_rfl) (Or.inl ⟨by rfl,by intro w a;(try dsimp only at a);go_simp⟩) ‹_› ?_
 simp only [Act.put,sit,sc0,scs]
 refine tk 3 (.pointer (some ⟨C,2,none⟩)) (n2 (n1 nz)) (by kernel_rfl) (Or.inl ⟨by rfl,by intro w a;(try dsimp only at a);go_simp⟩) ‹_› ?_
 simp only [Act.put,sit,sc0,scs]
 refine wpAnyH_ready (rs:=[4]) (by kernel_rfl) (by simp) ?_
 refine AllReadyH.cons rfl (fun K hK=>?_) AllReadyH.nil
 go_simp
 refine hK.out _ _ S (fun bI=>?_)
 clear hK
 refine tk 5 (.bool true) (n4 (n1 nz)) (by kernel_rfl) (Or.inl ⟨by rfl,by intro w a;(try dsimp only at a);go_simp⟩) ‹_› ?_
 simp only [Act.put,sit,sc0,scs]
 refine tk 6 (.pointer (some ⟨C,0,none⟩)) (n4 (n2 nz)) (by kernel_rfl) (Or.inl ⟨by rfl,by intro w a;(try dsimp only at a);go_simp⟩) ‹_› ?_
 simp only [Act.put,sit,sc0,scs]
 refine tk 7 (.pointer (some ⟨C,0,none⟩)) (n4 (n2 (n1 nz))) (by kernel_rfl) (Or.inl ⟨by rfl,by intro w a;(try dsimp only at a);go_simp⟩) ‹_› ?_
 simp only [Act.put,sit,sc0,scs]
 refine tk 8 (.pointer (some ⟨C,1,none⟩)) (n8 nz) (by kernel_rfl) (Or.inl ⟨by rfl,by intro w a;(try dsimp only at a);go_simp⟩) ‹_› ?_
 simp only [Act.put,sit,sc0,scs]
 refine tk 9 (.int .i64 d) (n8 (n1 nz)) (by kernel_rfl) (Or.inl ⟨by rfl,by intro w a;(try dsimp only at a);go_simp⟩) ‹_› ?_
 simp only [Act.put,sit,sc0,scs]
 refine tk 10 (.pointer (some ⟨C,0,none⟩)) (n8 (n2 nz)) (by kernel_rfl) (Or.inl ⟨by rfl,by intro w a;(try dsimp only at a);go_simp⟩) ‹_› ?_
 simp only [Act.put,sit,sc0,scs]
 refine tk 11 (.pointer (some ⟨C,0,none⟩)) (n8 (n2 (n1 nz))) (by kernel_rfl) (Or.inl ⟨by rfl,by intro w a;(try dsimp only at a);go_simp⟩) ‹_› ?_
 simp only [Act.put,sit,sc0,scs]
 refine tk 12 (.pointer (some ⟨C,0,none⟩)) (n8 (n4 nz)) (by kernel_rfl) (Or.inl ⟨by rfl,by intro w a;(try dsimp only at a);go_simp⟩) ‹_› ?_
 simp only [Act.put,sit,sc0,scs]
 refine tk 13 (.slice o n f) (n8 (n4 (n1 nz))) (by kernel_rfl) (Or.inl ⟨by rfl,by intro w a;(try dsimp only at a);go_simp⟩) ‹_› ?_
 simp only [Act.put,sit,sc0,scs]
 refine tk 14 (.int .i64 n) (n8 (n4 (n2 nz))) (by kernel_rfl) (Or.inl ⟨by rfl,by intro w a;(try dsimp only at a);go_simp⟩) ‹_› ?_
 simp only [Act.put,sit,sc0,scs]
 refine tk 15 (.bool false) (n8 (n4 (n2 (n1 nz)))) (by kernel_rfl) (Or.inl ⟨by rfl,by intro w a;(try dsimp only at a);go_simp⟩) ‹_› ?_
 simp only [Act.put,sit,sc0,scs]
 refine tk 16 (.bool false) (n8 (n8 nz)) (by kernel_rfl) (Or.inl ⟨by rfl,by intro w a;(try dsimp only at a);go_simp⟩) ‹_› ?_
 simp only [Act.put,sit,sc0,scs]
 refine tk 17 (.bool false) (n8 (n8 (n1 nz))) (by kernel_rfl) (Or.inl ⟨by rfl,by intro w a;(try dsimp only at a);go_simp⟩) ‹_› ?_
 simp only [Act.put,sit,sc0,scs]
 refine tk 18 (undef) (n8 (n8 (n2 nz))) (by kernel_rfl) (Or.inr ⟨by rfl,rfl⟩) ‹_› ?_
 simp only [Act.put,sit,sc0,scs]
 refine tk 19 (undef) (n8 (n8 (n2 (n1 nz)))) (by kernel_rfl) (Or.inr ⟨by rfl,rfl⟩) ‹_› ?_
 simp only [Act.put,sit,sc0,scs]
 refine tk 20 (.bool false) (n8 (n8 (n4 nz))) (by kernel_rfl) (Or.inl ⟨by rfl,by intro w a;(try dsimp only at a);go_simp⟩) ‹_› ?_
 simp only [Act.put,sit,sc0,scs]
 refine tk 21 (.pointer (some ⟨C,0,none⟩)) (n8 (n8 (n4 (n1 nz)))) (by kernel_rfl) (Or.inl ⟨by rfl,by intro w a;(try dsimp only at a);go_simp⟩) ‹_› ?_
 simp only [Act.put,sit,sc0,scs]
 refine tk 22 (.pointer (some ⟨C,2,none⟩)) (n8 (n8 (n4 (n2 nz)))) (by kernel_rfl) (Or.inl ⟨by rfl,by intro w a;(try dsimp only at a);go_simp⟩) ‹_› ?_
 simp only [Act.put,sit,sc0,scs]
 refine wpAnyH_ready (rs:=[23]) (by kernel_rfl) (by simp) ?_
 refine AllReadyH.cons rfl (fun K hK=>?_) AllReadyH.nil
 have k2:w.drew.cell? ⟨C,2,none⟩=some (.bool true):=cell_of_row _ _ 2 _ _ _ g
 have f2:w.drew.frozen? ⟨C,2,none⟩=false:=frozen_of_row _ _ 2 _ _ g
 go_simp
 refine hK.out _ _ (bJ _ g a8 _) (fun bH=>?_)
 refine wpAnyH_done (by kernel_rfl) ?_ _
 exact NoPanic.normal <| hQ _ _ _ _ _ _ _ _ _ _ _ _ _ _ _ _ _ _ _ _ _ _ _ _ hd g
theorem Zj6 {t1 t2 t4 t5 t6 t7 t8 t9 v ax aK a1 bq X au a9 Y T R bc bI y aE z aL bE bj D aM ay az O bG aG bz aZ a6 an ab aW aJ aI U ba aX ap ae bo aa ar bp M bD ag x br aO bg bs bA bH aV bi ak ai bf F aN bm aB E bd aw aF G bB bk aS aT am bF ac J aD ad aY bt aj N A u aU af a4 aH aC L a0 l r s i k bx Z bC a2 aP be H aq B bn ah a7 a8 al bw aA bu a3 aQ bh P I aR o:Value}{fs:List Deferred}(C h n f m p:Nat)(q j:Option Addr)(d:Int)(w:World)(Q:Exit -> Act -> World -> Prop)(bR:d=(n:Int))(pb:Bool)(HP:∀ W,Below w.heap.size w W -> Calls Tryz.prog 75 #[.agg #[.slice j m p]] W fun e c=>e=.returned (.bool pb)/\Below W.heap.size W c)(bO:C ≠ h)(hC:w.heap[C]? = some (.cells #[.slice q n f,.int .i64 d,.bool true] 163 (0,0)))(hP:w.heap[h]? = some (.cells #[.slice j m p] 40 (0,0)))(hQ:∀ u105 u106 u107 u108 u109 u110 u111 u112 u113 u114 u115 u116 u117 u118 u119 u120 u121 u122 u123 u124 u125 u126 u127 (W:World),Below w.heap.size w W -> W.heap[C]? = some (.cells #[.slice q n f,.int .i64 d,.bool true] 163 (0,0)) -> Q .normal ⟨#[.pointer (some ⟨C,0,none⟩),t1,t2,.pointer (some ⟨h,0,none⟩),t4,t5,t6,t7,t8,t9,v,ax,aK,a1,bq,X,au,a9,Y,T,R,bc,bI,y,aE,z,aL,bE,bj,D,aM,ay,az,O,bG,aG,bz,aZ,a6,an,ab,aW,aJ,aI,U,ba,aX,ap,ae,bo,aa,ar,bp,M,bD,ag,x,br,aO,bg,bs,bA,bH,aV,bi,ak,ai,bf,F,aN,bm,aB,E,bd,aw,aF,G,bB,bk,aS,aT,am,bF,ac,J,aD,ad,aY,bt,aj,N,A,u,aU,af,a4,aH,aC,L,a0,l,r,s,i,k,u105,u106,u107,u108,u109,u110,u111,u112,u113,u114,u115,u116,u117,u118,u119,u120,u121,u122,u123,u124,u125,u126,u127,o],fs⟩ (W.setCell ⟨C,2,none⟩ (.bool pb))) :
  (Code.region 30 opr1.toArray true).wp Tryz.prog Q ⟨#[.pointer (some ⟨C,0,none⟩),t1,t2,.pointer (some ⟨h,0,none⟩),t4,t5,t6,t7,t8,t9,v,ax,aK,a1,bq,X,au,a9,Y,T,R,bc,bI,y,aE,z,aL,bE,bj,D,aM,ay,az,O,bG,aG,bz,aZ,a6,an,ab,aW,aJ,aI,U,ba,aX,ap,ae,bo,aa,ar,bp,M,bD,ag,x,br,aO,bg,bs,bA,bH,aV,bi,ak,ai,bf,F,aN,bm,aB,E,bd,aw,aF,G,bB,bk,aS,aT,am,bF,ac,J,aD,ad,aY,bt,aj,N,A,u,aU,af,a4,aH,aC,L,a0,l,r,s,i,k,bx,Z,bC,a2,aP,be,H,aq,B,bn,ah,a7,a8,al,bw,aA,bu,a3,aQ,bh,P,I,aR,o],fs⟩ w:=by
 have lC:=(bl hC)
 have lP:=(bl hP)
 have hd:Below w.heap.size w w.drew:=(Below.refl _ _).drew
 have hS:∀ c:World,c.heap[C]? = some (.cells #[.slice q n f,.int .i64 d,.bool true] 163 (0,0)) -> c.heap[h]? = some (.cells #[.slice j m p] 40 (0,0)) -> (c.cell? ⟨C,0,none⟩=some (.slice q n f)/\c.cell? ⟨C,1,none⟩=some (.int .i64 d)/\c.cell? ⟨h,0,none⟩=some (.slice j m p)):=fun c h1 h2=>⟨cell_of_row c _ 0 _ _ _ h1,cell_of_row c _ 1 _ _ _ h1,cell_of_row c _ 0 _ _ _ h2⟩
 have bM:∀ c:World,c.heap[C]? = some (.cells #[.slice q n f,.int .i64 d,.bool true] 163 (0,0)) -> c.heap[h]? = some (.cells #[.slice j m p] 40 (0,0)) -> ∀ b:Bool,((c.setCell ⟨C,2,none⟩ (.bool b)).cell? ⟨C,0,none⟩=some (.slice q n f)/\(c.setCell ⟨C,2,none⟩ (.bool b)).cell? ⟨C,1,none⟩=some (.int .i64 d)/\(c.setCell ⟨C,2,none⟩ (.bool b)).cell? ⟨h,0,none⟩=some (.slice j m p)):=fun c h1 h2 b=>by
  have q1:=heap_setCell_same c C 2 _ _ (.bool b) h1
  have q2:=(heap_setCell_other c ⟨C,2,none⟩ h (.bool b) (fun e=>bO e.symm)).trans h2
  exact ⟨cell_of_row _ _ 0 _ _ _ q1,cell_of_row _ _ 1 _ _ _ q1,cell_of_row _ _ 0 _ _ _ q2⟩
 have V:=(hd.block _ lC).trans hC
 have bP:=(hd.block _ lP).trans hP
 have S:=hS _ V bP
 have c2:w.drew.cell? ⟨C,2,none⟩=some (.bool true):=cell_of_row _ _ 2 _ _ _ V
 refine wp_region_noPanic ?_
 refine wp_region_held_drew (S:=fun c=>c.cell? ⟨C,0,none⟩=some (.slice q n f)/\c.cell? ⟨C,1,none⟩=some (.int .i64 d)/\c.cell? ⟨h,0,none⟩=some (.slice j m p)) (by kernel_rfl) S (fun bQ=>?_)
 refine tk 0 (.pointer (some ⟨C,0,none⟩)) nz (by kernel_rfl) (Or.inl ⟨by rfl,by intro w a;(try dsimp only at a);go_simp⟩) ‹_› ?_
 simp only [Act.put,sit,sc0,scs]
 refine tk 1 (.pointer (some ⟨C,0,none⟩)) (n1 nz) (by kernel_rfl) (Or.inl ⟨by rfl,by intro w a;(try dsimp only at a);go_simp⟩) ‹_› ?_
 simp only [Act.put,sit,sc0,scs]
 refine tk 2 (.pointer (some ⟨C,0,none⟩)) (n2 nz) (by kernel_rfl) (Or.inl ⟨by rfl,by intro w a;(try dsimp only at a);go_simp⟩) ‹_› ?_
 simp only [Act.put,sit,sc0,scs]
 refine tk 3 (.pointer (some ⟨C,2,none⟩)) (n2 (n1 nz)) (by kernel_rfl) (Or.inl ⟨by rfl,by intro w a;(try dsimp only at a);go_simp⟩) ‹_› ?_
 simp only [Act.put,sit,sc0,scs]
 refine wpAnyH_ready (rs:=[4]) (by kernel_rfl) (by simp) ?_
 refine AllReadyH.cons rfl (fun K t=>?_) AllReadyH.nil
 go_simp
 refine t.out _ _ S (fun bL=>?_)
 clear t
 refine tk 5 (.bool true) (n4 (n1 nz)) (by kernel_rfl) (Or.inl ⟨by rfl,by intro w a;(try dsimp only at a);go_simp⟩) ‹_› ?_
 simp only [Act.put,sit,sc0,scs]
 refine tk 6 (.pointer (some ⟨C,0,none⟩)) (n4 (n2 nz)) (by kernel_rfl) (Or.inl ⟨by rfl,by intro w a;(try dsimp only at a);go_simp⟩) ‹_› ?_
 simp only [Act.put,sit,sc0,scs]
 refine tk 7 (.pointer (some ⟨C,0,none⟩)) (n4 (n2 (n1 nz))) (by kernel_rfl) (Or.inl ⟨by rfl,by intro w a;(try dsimp only at a);go_simp⟩) ‹_› ?_
 simp only [Act.put,sit,sc0,scs]
 refine tk 8 (.pointer (some ⟨C,1,none⟩)) (n8 nz) (by kernel_rfl) (Or.inl ⟨by rfl,by intro w a;(try dsimp only at a);go_simp⟩) ‹_› ?_
 simp only [Act.put,sit,sc0,scs]
 refine tk 9 (.int .i64 d) (n8 (n1 nz)) (by kernel_rfl) (Or.inl ⟨by rfl,by intro w a;(try dsimp only at a);go_simp⟩) ‹_› ?_
 simp only [Act.put,sit,sc0,scs]
 refine tk 10 (.pointer (some ⟨C,0,none⟩)) (n8 (n2 nz)) (by kernel_rfl) (Or.inl ⟨by rfl,by intro w a;(try dsimp only at a);go_simp⟩) ‹_› ?_
 simp only [Act.put,sit,sc0,scs]
 refine tk 11 (.pointer (some ⟨C,0,none⟩)) (n8 (n2 (n1 nz))) (by kernel_rfl) (Or.inl ⟨by rfl,by intro w a;(try dsimp only at a);go_simp⟩) ‹_› ?_
 simp only [Act.put,sit,sc0,scs]
 refine tk 12 (.pointer (some ⟨C,0,none⟩)) (n8 (n4 nz)) (by kernel_rfl) (Or.inl ⟨by rfl,by intro w a;(try dsimp only at a);go_simp⟩) ‹_› ?_
 simp only [Act.put,sit,sc0,scs]
 refine tk 13 (.slice q n f) (n8 (n4 (n1 nz))) (by kernel_rfl) (Or.inl ⟨by rfl,by intro w a;(try dsimp only at a);go_simp⟩) ‹_› ?_
 simp only [Act.put,sit,sc0,scs]
 refine tk 14 (.int .i64 n) (n8 (n4 (n2 nz))) (by kernel_rfl) (Or.inl ⟨by rfl,by intro w a;(try dsimp only at a);go_simp⟩) ‹_› ?_
 simp only [Act.put,sit,sc0,scs]
 refine tk 15 (.bool true) (n8 (n4 (n2 (n1 nz)))) (by kernel_rfl) (Or.inl ⟨by rfl,by intro w a;(try dsimp only at a);go_simp⟩) ‹_› ?_
 simp only [Act.put,sit,sc0,scs]
 refine tk 16 (.bool true) (n8 (n8 nz)) (by kernel_rfl) (Or.inl ⟨by rfl,by intro w a;(try dsimp only at a);go_simp⟩) ‹_› ?_
 simp only [Act.put,sit,sc0,scs]
 refine tk 17 (.bool true) (n8 (n8 (n1 nz))) (by kernel_rfl) (Or.inl ⟨by rfl,by intro w a;(try dsimp only at a);go_simp⟩) ‹_› ?_
 simp only [Act.put,sit,sc0,scs]
 refine tk 18 (.agg #[.slice j m p]) (n8 (n8 (n2 nz))) (by kernel_rfl) (Or.inl ⟨by rfl,by intro w a;(try dsimp only at a);go_simp⟩) ‹_› ?_
 simp only [Act.put,sit,sc0,scs]
 refine wpAnyH_ready (rs:=[19]) (by kernel_rfl) (by simp) ?_
 refine AllReadyH.cons rfl (fun K t=>?_) AllReadyH.nil
 go_simp
 go_wp2_with (go_at_call 75;with_reducible refine (HP _ hd).mono ?_;rintro e wA ⟨rfl,bN⟩)
 have tA:Below w.heap.size w wA:=hd.trans (bN.mono hd.size)
 have g:=(tA.block _ lC).trans hC
 have a5:=(tA.block _ lP).trans hP
 refine t.out _ _ (hS _ g a5) (fun bK=>?_)
 clear t
 refine tk 20 (.bool pb) (n8 (n8 (n4 nz))) (by kernel_rfl) (Or.inl ⟨by rfl,by intro w a;(try dsimp only at a);go_simp⟩) ‹_› ?_
 simp only [Act.put,sit,sc0,scs]
 refine tk 21 (.pointer (some ⟨C,0,none⟩)) (n8 (n8 (n4 (n1 nz)))) (by kernel_rfl) (Or.inl ⟨by rfl,by intro w a;(try dsimp only at a);go_simp⟩) ‹_› ?_
 simp only [Act.put,sit,sc0,scs]
 refine tk 22 (.pointer (some ⟨C,2,none⟩)) (n8 (n8 (n4 (n2 nz)))) (by kernel_rfl) (Or.inl ⟨by rfl,by intro w a;(try dsimp only at a);go_simp⟩) ‹_› ?_
 simp only [Act.put,sit,sc0,scs]
 refine wpAnyH_ready (rs:=[23]) (by kernel_rfl) (by simp) ?_
 refine AllReadyH.cons rfl (fun K t=>?_) AllReadyH.nil
 have k2:wA.cell? ⟨C,2,none⟩=some (.bool true):=cell_of_row _ _ 2 _ _ _ g
 have f2:wA.frozen? ⟨C,2,none⟩=false:=frozen_of_row _ _ 2 _ _ g
 go_simp
 refine t.out _ _ (bM _ g a5 _) (fun bJ=>?_)
 refine wpAnyH_done (by kernel_rfl) ?_ _
 exact NoPanic.normal <| hQ _ _ _ _ _ _ _ _ _ _ _ _ _ _ _ _ _ _ _ _ _ _ _ _ tA g
end Go.Proofs.YtfeodlbpnghakaaGreatDoor
