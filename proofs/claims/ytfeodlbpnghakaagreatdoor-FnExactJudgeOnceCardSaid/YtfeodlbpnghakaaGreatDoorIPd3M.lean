/-
  Texts that stood by themselves, laid into one.
-/
import Derived.Test.YtfeodlbpnghakaaGreatDoorSMRdM
import Derived.Test.YtfeodlbpnghakaaGreatDoorSAddM
import Derived.Deep.RegionHeld3
import Derived.Test.YtfeodlbpnghakaaGreatDoorVMoveM
import Derived.Test.YtfeodlbpnghakaaGreatDoorMRgM
import Derived.Test.YtfeodlbpnghakaaGreatDoorInM
import Derived.Test.YtfeodlbpnghakaaGreatDoorS8RdM
/-
  Region 1 of impl.MachineRead, which draws its order: the two calls, and the box that may be made ahead of, between or behind them.
-/
set_option maxRecDepth 100000
set_option maxHeartbeats 12800000
namespace Go.Proofs.YtfeodlbpnghakaaGreatDoor
open Go.RowKit
def MFin (B:Nat)(ns:List Nd)(is:List In)(ds:List Df)(zs:List Int)(ao:Option Addr)(n c:Nat)(m:Mc)(r:Value)(W:World):Prop :=
 (∃ xs,mrR ns is ds zs=some (xs,m)/\r=.nilIface/\W.ownsRow B 194 5 (.slice ao n c) xs.length (ncs xs)) \/ (mrR ns is ds zs=none/\∃ p,r=badV p)
theorem ZkW {B:Nat}{ns:List Nd}{is:List In}{ds:List Df}{zs:List Int}{e:Ending}{W:World}(h:MAns B ns is ds zs e W):∃ a n c m r,e=.returned (.tuple #[.agg (mcs (.slice a n c) m),r])/\MFin B ns is ds zs a n c m r W:=by
 rcases h with ⟨g,m,a,n,c,b,d,f⟩ | ⟨b,a,n,c,m,p,d⟩
 ·exact ⟨a,n,c,m,_,d,Or.inl ⟨g,b,rfl,f⟩⟩
 ·exact ⟨a,n,c,m,_,d,Or.inr ⟨b,p,rfl⟩⟩
theorem MFin.keep {B B':Nat}{ns:List Nd}{is:List In}{ds:List Df}{zs:List Int}{b:Option Addr}{n c:Nat}{m:Mc}{r:Value}{W a:World}(h:MFin B ns is ds zs b n c m r W)(k:∀ v n l,W.ownsRow B 194 5 v n l -> a.ownsRow B' 194 5 v n l):MFin B' ns is ds zs b n c m r a:=by
 rcases h with ⟨g,d,e,f⟩ | h
 ·exact Or.inl ⟨g,d,e,k _ _ _ f⟩
 ·exact Or.inr h
theorem ZgE (v:Value)(zs:List Int)(a w:World)(P:Nat)(b f d:Value)(ns:List Nd)(is:List In)(ds:List Df)(R:Row a v zs)(l:Below a.heap.size a w)(p:a.heap.size <= P)(j:One w P 0)(k:NRow a b ns)(o:InRow a f is)(q:DfRow a d ds) :
  Calls Tryz.prog 205 #[.agg #[v,.pointer (some ⟨P,0,none⟩)],.agg #[b,f,d]] w fun e i=>w.grownBy i (some P)/\∃ g n c m r,e=.returned (.tuple #[.agg (mcs (.slice g n c) m),r])/\MFin w.heap.size ns is ds zs g n c m r i :=
 (ZfW v zs a w P b f d ns is ds R l p j k o q).mono fun _ _ h=>⟨h.1,ZkW h.2⟩
theorem Zj5 {t0 t3 t4 t5 t6 t7 t8 t9 ab ag ad ah ae Z V Y aa:Value}{fs:List Deferred}(B:Nat)(J M L:Value)(ns:List Nd)(is:List In)(ds:List Df)(s:ByteArray)(w:World)(Q:Exit -> Act -> World -> Prop)(hc:w.heap[B]? = some (.cells #[J,M,L] 44 (0,0)))(R1:NRow w J ns)(R2:InRow w M is)(R3:DfRow w L ds)(hs:s.size <= 140737488351232)(hQ:∀ u8 u9 u10 u11 u12 u13 u14 bx i n c m r (W:World),w.heap.size <= bx -> Below w.heap.size w W -> W.heap[bx]? = some (.cells (mcs (.slice i n c) m) 61 (0,0)) -> MFin w.heap.size ns is ds (sb s) i n c m r W -> Q .normal ⟨#[t0,.string s,.pointer (some ⟨B,0,none⟩),t3,t4,t5,.pointer (some ⟨bx,0,none⟩),r,u8,u9,u10,u11,u12,u13,u14,Z,V,Y,aa],fs⟩ W) :
  (Code.region 1 (List.toArray (⟨some 9,.move (.tmp 1),9, "l08_wire.go:47", #[],none⟩ :: ⟨some 10,.call { callee:=.value (.func 160),args:=#[.tmp 9],argTypes:=#[9] },235, "l08_wire.go:47", #[⟨0,.data⟩],none⟩ :: ⟨some 11,.load 44 (.tmp 2),44, "l08_wire.go:47", #[],none⟩ :: ⟨some 12,.call { callee:=.value (.func 205),args:=#[.tmp 10,.tmp 11],argTypes:=#[235,44] },285, "l08_wire.go:47", #[⟨1,.data⟩,⟨2,.data⟩,⟨1,.chain⟩],none⟩ :: ⟨some 8,.move (.tmp 12),285, "l08_wire.go:47", #[⟨3,.data⟩],none⟩ :: ⟨some 13,.extract (.tmp 8) 0,61, "l08_wire.go:47", #[⟨4,.data⟩],none⟩ :: ⟨some 14,.extract (.tmp 8) 1,240, "l08_wire.go:47", #[⟨4,.data⟩,{ on:=8,ground:=Ground.gcOnly Departure.lateStores }],none⟩ :: ⟨some 6,.alloc 61,0, "l08_wire.go:47", #[],none⟩ :: ⟨none,.store 61 (.tmp 6) (.tmp 13),0, "l08_wire.go:47", #[⟨7,.data⟩,⟨5,.data⟩,⟨3,.chain⟩,⟨0,.phase⟩,⟨1,.phase⟩,⟨2,.phase⟩,⟨3,.phase⟩,⟨4,.phase⟩,⟨5,.phase⟩,{ on:=6,ground:=Ground.textOnly Departure.lateStores },⟨7,.phase⟩],none⟩ :: ⟨some 7,.assign (.tmp 14),240, "l08_wire.go:47", #[⟨6,.data⟩,⟨8,.chain⟩,⟨0,.phase⟩,⟨1,.phase⟩,⟨2,.phase⟩,⟨3,.phase⟩,⟨4,.phase⟩,⟨5,.phase⟩,⟨6,.phase⟩,⟨7,.phase⟩,⟨8,.phase⟩],none⟩ :: [])) true).wp Tryz.prog Q ⟨#[t0,.string s,.pointer (some ⟨B,0,none⟩),t3,t4,t5,t6,t7,t8,t9,ab,ag,ad,ah,ae,Z,V,Y,aa],fs⟩ w:=by
 have lc:=(bl hc)
 have y:∀ z,Below w.heap.size w z -> (z.cell? ⟨B,0,none⟩=some J/\z.cell? ⟨B,1,none⟩=some M/\z.cell? ⟨B,2,none⟩=some L):=fun z hb=>by
  have g1:=(hb.block _ lc).trans hc
  exact ⟨cell_of_row z _ 0 _ _ _ g1,cell_of_row z _ 1 _ _ _ g1,cell_of_row z _ 2 _ _ _ g1⟩
 have T:Below w.heap.size w w.drew:=(Below.refl _ _).drew
 have s0:=y _ T
 have hd:w.heap.size <= w.drew.heap.size:=Nat.le_refl _
 refine wp_region_noPanic ?_
 refine wp_region_held_drew (S:=fun z=>z.cell? ⟨B,0,none⟩=some J/\z.cell? ⟨B,1,none⟩=some M/\z.cell? ⟨B,2,none⟩=some L) (by kernel_rfl) s0 (fun af=>?_)
 refine tk 0 (.string s) nz (by kernel_rfl) (Or.inl ⟨by rfl,by intro w a;(try dsimp only at a);go_simp⟩) ‹_› ?_
 simp only [Act.put,sit,sc0,scs]
 refine tk 2 (.agg #[J,M,L]) (n2 nz) (by kernel_rfl) (Or.inl ⟨by rfl,by intro w a;(try dsimp only at a);go_simp⟩) ‹_› ?_
 simp only [Act.put,sit,sc0,scs]
 refine wpAnyH_ready (rs:=[1,7]) (by kernel_rfl) (by simp) ?_
 refine AllReadyH.cons rfl (fun K b=>?_) (AllReadyH.cons rfl (fun K b=>?_) AllReadyH.nil)
 ·go_simp
  go_wp2_with (go_at_call 160;with_reducible refine (Za4 s _ hs).mono ?_;rintro e x ⟨v,R,P,rfl,RR,t,h,hP,d⟩)
  have j:=T.trans (t.mono T.size)
  have E:=j.trans (h.mono j.size)
  have I:=t.size
  have O:=h.size
  have ac:=d.lt
  refine b.out _ _ (y _ E) (fun F=>?_)
  clear b
  refine wpAnyH_ready (rs:=[3,7]) (by kernel_rfl) (by simp) ?_
  refine AllReadyH.cons rfl (fun K b=>?_) (AllReadyH.cons rfl (fun K b=>?_) AllReadyH.nil)
  ·go_simp
   go_wp2_with (go_at_call 205;with_reducible refine (ZgE v (sb s) R x P J M L ns is ds RR h hP d (R1.below j) (R2.below j) (R3.below j)).mono ?_;rintro e u ⟨f,i,n,c,m,r,rfl,X⟩)
   have D:Below w.heap.size w u:=E.grown f E.size (fun k C=>by simp at C;have:=j.size;omega)
   have H:=f.size
   refine b.out _ _ (y _ D) (fun q=>?_)
   clear b
   refine tk 4 (.tuple #[.agg (mcs (.slice i n c) m),r]) (n4 nz) (by kernel_rfl) (Or.inl ⟨by rfl,by intro w a;(try dsimp only at a);go_simp⟩) ‹_› ?_
   simp only [Act.put,sit,sc0,scs]
   refine tk 5 (.agg (mcs (.slice i n c) m)) (n4 (n1 nz)) (by kernel_rfl) (Or.inl ⟨by rfl,by intro w a;(try dsimp only at a);go_simp⟩) ‹_› ?_
   simp only [Act.put,sit,sc0,scs]
   refine tk 6 (r) (n4 (n2 nz)) (by kernel_rfl) (Or.inl ⟨by rfl,by intro w a;(try dsimp only at a);go_simp⟩) ‹_› ?_
   simp only [Act.put,sit,sc0,scs]
   refine wpAnyH_ready (rs:=[7]) (by kernel_rfl) (by simp) ?_
   refine AllReadyH.cons rfl (fun K b=>?_) AllReadyH.nil
   go_simp
   go_wp2_with fail
   have A:Below w.heap.size w (u.alloc (Obj.cells #[.slice none 0 0,.int .i64 0,.int .i64 0,.int .i64 0,.int .i64 0,.int .i64 0,.int .i64 0,.int .i64 0] 61)):=D.alloc D.size _
   have N:(u.alloc (Obj.cells #[.slice none 0 0,.int .i64 0,.int .i64 0,.int .i64 0,.int .i64 0,.int .i64 0,.int .i64 0,.int .i64 0] 61)).heap.size=u.heap.size+1:=by simp
   have xA:(u.alloc (Obj.cells #[.slice none 0 0,.int .i64 0,.int .i64 0,.int .i64 0,.int .i64 0,.int .i64 0,.int .i64 0,.int .i64 0] 61)).heap[u.heap.size]? = some (Obj.cells #[.slice none 0 0,.int .i64 0,.int .i64 0,.int .i64 0,.int .i64 0,.int .i64 0,.int .i64 0,.int .i64 0] 61):=heap_alloc_new _ _
   refine b.out _ _ (y _ A) (fun l=>?_)
   clear b
   refine wpAnyH_ready (rs:=[8]) (by kernel_rfl) (by simp) ?_
   refine AllReadyH.cons rfl (fun K b=>?_) AllReadyH.nil
   rw [if_pos (by rfl)]
   refine wp_store_row 61 _ _ rfl (u.heap.size) (mcs (.slice i n c) m) rfl rfl 61 #[.slice none 0 0,.int .i64 0,.int .i64 0,.int .i64 0,.int .i64 0,.int .i64 0,.int .i64 0,.int .i64 0] xA ZmU rfl (ZbQ _ _ _ _) ?_
   have G:=below_setRow A (g:=u.heap.size) (by omega) (mcs (.slice i n c) m)
   refine b.out _ _ (y _ G) (fun p=>?_)
   clear b
   simp only [Act.put]
   refine tk 9 (r) (n8 (n1 nz)) (by kernel_rfl) (Or.inl ⟨by rfl,by intro w a;(try dsimp only at a);go_simp⟩) ‹_› ?_
   simp only [Act.put]
   refine wpAnyH_done (by kernel_rfl) ?_ _
   exact NoPanic.normal <| hQ _ _ _ _ _ _ _ (u.heap.size) i n c m r _ (by omega) G (setRow_heap _ _ _ _ _ _ xA) (X.keep fun _ _ _ o=>Zah (Zac o (below_setRow ((Below.refl _ _).alloc (Nat.le_refl _) _) (Nat.le_refl _) _)) (by omega))
  ·go_simp
   go_wp2_with fail
   have A:Below w.heap.size w (x.alloc (Obj.cells #[.slice none 0 0,.int .i64 0,.int .i64 0,.int .i64 0,.int .i64 0,.int .i64 0,.int .i64 0,.int .i64 0] 61)):=E.alloc E.size _
   have N:(x.alloc (Obj.cells #[.slice none 0 0,.int .i64 0,.int .i64 0,.int .i64 0,.int .i64 0,.int .i64 0,.int .i64 0,.int .i64 0] 61)).heap.size=x.heap.size+1:=by simp
   have xA:(x.alloc (Obj.cells #[.slice none 0 0,.int .i64 0,.int .i64 0,.int .i64 0,.int .i64 0,.int .i64 0,.int .i64 0,.int .i64 0] 61)).heap[x.heap.size]? = some (Obj.cells #[.slice none 0 0,.int .i64 0,.int .i64 0,.int .i64 0,.int .i64 0,.int .i64 0,.int .i64 0,.int .i64 0] 61):=heap_alloc_new _ _
   refine b.out _ _ (y _ A) (fun l=>?_)
   clear b
   refine wpAnyH_ready (rs:=[3]) (by kernel_rfl) (by simp) ?_
   refine AllReadyH.cons rfl (fun K b=>?_) AllReadyH.nil
   go_simp
   go_wp2_with (go_at_call 205;with_reducible refine (ZgE v (sb s) R (x.alloc (Obj.cells #[.slice none 0 0,.int .i64 0,.int .i64 0,.int .i64 0,.int .i64 0,.int .i64 0,.int .i64 0,.int .i64 0] 61)) P J M L ns is ds RR (h.alloc h.size _) hP (d.below ((Below.refl _ _).alloc (Nat.le_refl _) _) d.lt) (R1.below j) (R2.below j) (R3.below j)).mono ?_;rintro e u ⟨f,i,n,c,m,r,rfl,X⟩)
   have D:Below w.heap.size w u:=A.grown f A.size (fun k C=>by simp at C;have:=j.size;omega)
   have H:=f.size
   refine b.out _ _ (y _ D) (fun q=>?_)
   clear b
   have U:=(f.block x.heap.size (by omega) (by simp;omega)).trans xA
   refine tk 4 (.tuple #[.agg (mcs (.slice i n c) m),r]) (n4 nz) (by kernel_rfl) (Or.inl ⟨by rfl,by intro w a;(try dsimp only at a);go_simp⟩) ‹_› ?_
   simp only [Act.put,sit,sc0,scs]
   refine tk 5 (.agg (mcs (.slice i n c) m)) (n4 (n1 nz)) (by kernel_rfl) (Or.inl ⟨by rfl,by intro w a;(try dsimp only at a);go_simp⟩) ‹_› ?_
   simp only [Act.put,sit,sc0,scs]
   refine tk 6 (r) (n4 (n2 nz)) (by kernel_rfl) (Or.inl ⟨by rfl,by intro w a;(try dsimp only at a);go_simp⟩) ‹_› ?_
   simp only [Act.put,sit,sc0,scs]
   refine wpAnyH_ready (rs:=[8]) (by kernel_rfl) (by simp) ?_
   refine AllReadyH.cons rfl (fun K b=>?_) AllReadyH.nil
   rw [if_pos (by rfl)]
   refine wp_store_row 61 _ _ rfl (x.heap.size) (mcs (.slice i n c) m) rfl rfl 61 #[.slice none 0 0,.int .i64 0,.int .i64 0,.int .i64 0,.int .i64 0,.int .i64 0,.int .i64 0,.int .i64 0] U ZmU rfl (ZbQ _ _ _ _) ?_
   have G:=below_setRow D (g:=x.heap.size) (by omega) (mcs (.slice i n c) m)
   refine b.out _ _ (y _ G) (fun p=>?_)
   clear b
   simp only [Act.put]
   refine tk 9 (r) (n8 (n1 nz)) (by kernel_rfl) (Or.inl ⟨by rfl,by intro w a;(try dsimp only at a);go_simp⟩) ‹_› ?_
   simp only [Act.put]
   refine wpAnyH_done (by kernel_rfl) ?_ _
   exact NoPanic.normal <| hQ _ _ _ _ _ _ _ (x.heap.size) i n c m r _ (by omega) G (setRow_heap _ _ _ _ _ _ U) (X.keep fun _ _ _ o=>Zah (Zak o (by omega) (fun k C=>setRow_other _ _ k _ C)) (by omega))
 ·go_simp
  go_wp2_with fail
  have A:Below w.heap.size w (w.drew.alloc (Obj.cells #[.slice none 0 0,.int .i64 0,.int .i64 0,.int .i64 0,.int .i64 0,.int .i64 0,.int .i64 0,.int .i64 0] 61)):=T.alloc T.size _
  have N:(w.drew.alloc (Obj.cells #[.slice none 0 0,.int .i64 0,.int .i64 0,.int .i64 0,.int .i64 0,.int .i64 0,.int .i64 0,.int .i64 0] 61)).heap.size=w.drew.heap.size+1:=by simp
  have xA:(w.drew.alloc (Obj.cells #[.slice none 0 0,.int .i64 0,.int .i64 0,.int .i64 0,.int .i64 0,.int .i64 0,.int .i64 0,.int .i64 0] 61)).heap[w.drew.heap.size]? = some (Obj.cells #[.slice none 0 0,.int .i64 0,.int .i64 0,.int .i64 0,.int .i64 0,.int .i64 0,.int .i64 0,.int .i64 0] 61):=heap_alloc_new _ _
  refine b.out _ _ (y _ A) (fun l=>?_)
  clear b
  refine wpAnyH_ready (rs:=[1]) (by kernel_rfl) (by simp) ?_
  refine AllReadyH.cons rfl (fun K b=>?_) AllReadyH.nil
  go_simp
  go_wp2_with (go_at_call 160;with_reducible refine (Za4 s _ hs).mono ?_;rintro e x ⟨v,R,P,rfl,RR,t,h,hP,d⟩)
  have j:=A.trans (t.mono A.size)
  have E:=j.trans (h.mono j.size)
  have I:=t.size
  have O:=h.size
  have ac:=d.lt
  refine b.out _ _ (y _ E) (fun F=>?_)
  clear b
  refine wpAnyH_ready (rs:=[3]) (by kernel_rfl) (by simp) ?_
  refine AllReadyH.cons rfl (fun K b=>?_) AllReadyH.nil
  go_simp
  go_wp2_with (go_at_call 205;with_reducible refine (ZgE v (sb s) R x P J M L ns is ds RR h hP d (R1.below j) (R2.below j) (R3.below j)).mono ?_;rintro e u ⟨f,i,n,c,m,r,rfl,X⟩)
  have D:Below w.heap.size w u:=E.grown f E.size (fun k C=>by simp at C;have:=j.size;omega)
  have H:=f.size
  refine b.out _ _ (y _ D) (fun q=>?_)
  clear b
  have ai:w.heap.size+1 <= R.heap.size:=by simpa using I
  have U:=(f.block w.heap.size (by omega) (by simp;omega)).trans ((h.block _ (by omega)).trans ((t.block w.heap.size (by simp)).trans (heap_alloc_new w _)))
  refine tk 4 (.tuple #[.agg (mcs (.slice i n c) m),r]) (n4 nz) (by kernel_rfl) (Or.inl ⟨by rfl,by intro w a;(try dsimp only at a);go_simp⟩) ‹_› ?_
  simp only [Act.put,sit,sc0,scs]
  refine tk 5 (.agg (mcs (.slice i n c) m)) (n4 (n1 nz)) (by kernel_rfl) (Or.inl ⟨by rfl,by intro w a;(try dsimp only at a);go_simp⟩) ‹_› ?_
  simp only [Act.put,sit,sc0,scs]
  refine tk 6 (r) (n4 (n2 nz)) (by kernel_rfl) (Or.inl ⟨by rfl,by intro w a;(try dsimp only at a);go_simp⟩) ‹_› ?_
  simp only [Act.put,sit,sc0,scs]
  refine wpAnyH_ready (rs:=[8]) (by kernel_rfl) (by simp) ?_
  refine AllReadyH.cons rfl (fun K b=>?_) AllReadyH.nil
  rw [if_pos (by rfl)]
  refine wp_store_row 61 _ _ rfl (w.heap.size) (mcs (.slice i n c) m) rfl rfl 61 #[.slice none 0 0,.int .i64 0,.int .i64 0,.int .i64 0,.int .i64 0,.int .i64 0,.int .i64 0,.int .i64 0] U ZmU rfl (ZbQ _ _ _ _) ?_
  have G:=below_setRow D (g:=w.heap.size) (by omega) (mcs (.slice i n c) m)
  refine b.out _ _ (y _ G) (fun p=>?_)
  clear b
  simp only [Act.put]
  refine tk 9 (r) (n8 (n1 nz)) (by kernel_rfl) (Or.inl ⟨by rfl,by intro w a;(try dsimp only at a);go_simp⟩) ‹_› ?_
  simp only [Act.put]
  refine wpAnyH_done (by kernel_rfl) ?_ _
  exact NoPanic.normal <| hQ _ _ _ _ _ _ _ (w.heap.size) i n c m r _ (by omega) G (setRow_heap _ _ _ _ _ _ U) (X.keep fun _ _ _ o=>Zah (Zak o (by omega) (fun k C=>setRow_other _ _ k _ C)) (by omega))
theorem ZhQ (D M L:Value)(ns:List Nd)(is:List In)(ds:List Df)(s:ByteArray)(w:World)(I:NRow w D ns)(E:InRow w M is)(F:DfRow w L ds)(O:s.size <= 140737488351232)(V:ErrT w) :
  Calls Tryz.prog 196 #[.agg #[D,M,L],.string s] w fun e H=>MrAns w.heap.size (mrR ns is ds (sb s)) e H/\Below w.heap.size w H:=by
 obtain ⟨G,c1,rfl⟩:=I.small
 obtain ⟨J,c2,rfl⟩:=E.small
 obtain ⟨C,c3,rfl⟩:=F.small
 obtain ⟨b,v,y⟩:=Zav w (Obj.cells #[.slice G ns.length c1,.slice J is.length c2,.slice C ds.length c3] 44) (Obj.cells #[.slice none 0 0,.int .i64 0,.int .i64 0,.int .i64 0,.int .i64 0,.int .i64 0,.int .i64 0,.int .i64 0] 61)
 go_enter Tryz.func196,Tryz.ntmps196
 go_wp2_with fail
 obtain ⟨q,g⟩:∃ q,(w.alloc (Obj.cells #[.slice G ns.length c1,.slice J is.length c2,.slice C ds.length c3] 44)).alloc (Obj.cells #[.slice none 0 0,.int .i64 0,.int .i64 0,.int .i64 0,.int .i64 0,.int .i64 0,.int .i64 0,.int .i64 0] 61)=q:=⟨_,rfl⟩
 rw [g] at b v y ⊢
 have k:w.heap.size+1 < q.heap.size:=by rw [<- g];simp
 clear g
 refine Zj5 w.heap.size _ _ _ ns is ds s q _ v (I.below b) (E.below b) (F.below b) O ?_
 intro u8 u9 u10 u11 u12 u13 u14 T A n c m r W P f B t
 have K:=(f.block _ k).trans y
 have o:=b.trans (f.mono b.size)
 have lb:=(bl B)
 have R:=f.size
 clear v y
 rcases t with ⟨Y,l,rfl,U⟩ | ⟨l,p,rfl⟩
 ·have j:Hid (mrR ns is ds (sb s)=some (Y,m)):=l
  clear l
  go_wp2_with fail
  refine (ZfZ _).mono ?_
  rintro e X ⟨rfl,a⟩
  have z:=(bb K a)
  have Q:=(a.block _ lb).trans B
  have Z:=Zac U a
  have u:=o.trans (a.mono o.size)
  go_wp2_with (first
   | (refine wpList_load_row rfl 61 _ rfl T rfl 61 (mcs (.slice A n c) m) (0,0) _ Q Tryz.underlying61 rfl ZmU ?_)
   | (refine Zad rfl 61 _ _ rfl (w.heap.size+1) (mcs (.slice A n c) m) rfl rfl 61 _ z ZmU rfl (ZbQ _ _ _ _) ?_))
  intro N t h d i
  have x:=u.trans (h.mono (Nat.le_succ _))
  have S:=Zah (Zak Z k i) (by omega:w.heap.size <= q.heap.size)
  clear d i
  go_wp2
  refine bodyPost_ret (Zab rfl _ _ (w.heap.size+1) 61 _ (0,0) _ rfl t Tryz.underlying61 rfl ZmU) rfl ⟨MrAns.intro (.slice A n c) ?_ ?_,x⟩
  ·rw [j.out];rfl
  ·rw [j.out];exact S
 ·have j:Hid (mrR ns is ds (sb s)=none):=l
  clear l
  go_wp2_with fail
  refine (Zfi p _ (V.below o (Nat.le_refl _))).mono ?_
  rintro e X ⟨rfl,a⟩
  have z:=(bb K a)
  have u:=o.trans (a.mono o.size)
  go_wp2_with (refine Zai rfl 61 _ _ rfl (w.heap.size+1) #[.slice none 0 0,.int .i64 0,.int .i64 0,.int .i64 0,.int .i64 0,.int .i64 0,.int .i64 0,.int .i64 0] rfl rfl 61 _ z ZmU rfl (by simp [Value.oneCell']) ?_)
  intro N t h d
  have x:=u.trans (h.mono (Nat.le_succ _))
  clear d
  go_wp2
  refine bodyPost_ret (Zab rfl _ _ (w.heap.size+1) 61 _ (0,0) _ rfl t Tryz.underlying61 rfl ZmU) rfl ⟨MrAns.intro (.slice none 0 0) ?_ ?_,x⟩
  ·rw [j.out];rfl
  ·rw [j.out];exact World.ownsRow_nil _ _ _ _
def Zck (zs:List Int):Option (Int × ByteArray × List ByteArray × List ByteArray) :=
 (rd1 zs 0).bind fun p=>(rt zs p.2).bind fun t=>(rdTB zs 20 t.2).bind fun b=>(rdTB zs 40 b.2).bind fun o=>if o.2=zs.length then some (p.1,t.1,b.1,o.1) else none
def paT (ns:List Nd)(is:List In)(ds:List Df)(r:Option (Int × ByteArray × List ByteArray × List ByteArray)):Int × List Nd × Mc × List ByteArray × List ByteArray × Bool :=
 match r with
 | none=>(0,[],⟨0,0,0,0,0,0,0⟩,[],[],false)
 | some (i,t,b,o)=>(i,mrL (mrR ns is ds (sb t)),mrM (mrR ns is ds (sb t)),b,o,(mrR ns is ds (sb t)).isSome)
theorem ZlD (ns:List Nd)(is:List In)(ds:List Df)(zs:List Int):pdR ns is ds zs=(Zck zs).bind fun a=>(mrR ns is ds (sb a.2.1)).bind fun r=>if Zbr ns is ds a.1 r.1 r.2 a.2.2.1 a.2.2.2 then some (a.1,r,a.2.2.1,a.2.2.2) else none:=by
 rw [Zkj]
 unfold Zck
 cases rd1 zs 0 with
 | none=>rfl
 | some p =>
  simp only [Option.bind_some]
  cases rt zs p.2 with
  | none=>rfl
  | some t =>
   simp only [Option.bind_some]
   cases rdTB zs 20 t.2 with
   | none=>rfl
   | some b =>
    simp only [Option.bind_some]
    cases rdTB zs 40 b.2 with
    | none=>rfl
    | some o =>
     simp only [Option.bind_some]
     split <;> rfl
theorem ZdD (v:Value)(zs:List Int)(f w:World)(P:Nat)(a:Int)(b:Nat)(R:Row f v zs)(p:Below f.heap.size f w)(r:f.heap.size <= P)(d:One w P a)(c:b <= 40)(n:zs.length <= 140737488351232) :
  Calls Tryz.prog 195 #[.agg #[v,.pointer (some ⟨P,0,none⟩)],.int .i64 b] w fun e l=>∃ (g:Value) (m:List ByteArray) (k:Bool) (q:Int),e=.returned (.tuple #[g,.bool k])/\One l P q/\l.ownsRow w.heap.size 9 1 g m.length (stv m)/\rdTB zs b a=(if k then some (m,q) else none)/\w.grownBy l (some P) :=
 (ZhI v zs f w P a b R p r d c n).mono fun _ _ h=>by
  rcases h with ⟨o,⟨q,g,d,i,j,s⟩ | ⟨d,i,q,j⟩⟩
  ·exact ⟨g,q.1,true,q.2,i,j,s,d,o⟩
  ·exact ⟨.slice none 0 0,[],false,q,i,j,⟨by simp [stv],Or.inl ⟨rfl,rfl⟩⟩,d,o⟩
theorem ZeV {zs:List Int}:∀ {n:Nat} {a:Int} {q:List ByteArray × Int},a <= zs.length -> rdTs zs n a=some q -> q.2 <= zs.length/\∀ x ∈ q.1,x.size <= zs.length
 | 0,a,q,ha,h=>by cases h;exact ⟨ha,by simp⟩
 | n+1,a,q,ha,h=>by
  rw [rdTs,Option.bind_eq_some_iff] at h
  obtain ⟨p,b,d⟩:=h
  rw [Option.map_eq_some_iff] at d
  obtain ⟨t,f,rfl⟩:=d
  unfold rt at b
  split at b
  ·cases b
   have i:=(gT_range zs a).2
   obtain ⟨e,g⟩:=ZeV i f
   refine ⟨e,fun x c=>?_⟩
   rcases List.mem_cons.1 c with rfl | c
   ·exact ZcD zs a
   ·exact g x c
  ·cases b
theorem ZeP {zs:List Int}{b:Nat}{a:Int}{q:List ByteArray × Int}(h:rdTB zs b a=some q):q.2 <= zs.length/\∀ x ∈ q.1,x.size <= zs.length:=by
 obtain ⟨c,_⟩:=ZcR h
 unfold rdTL at c
 rw [Option.bind_eq_some_iff] at c
 obtain ⟨p,d,e⟩:=c
 exact ZeV (Za9 d).2.2.2 e
def PaAns (B:Nat)(T:Int × List Nd × Mc × List ByteArray × List ByteArray × Bool)(e:Ending)(w':World):Prop :=
 ∃ (I:Int) (X:List Nd) (M:Mc) (BX OX:List ByteArray) (ok:Bool) (y1 y2 y3:Value),T=(I,X,M,BX,OX,ok)/\e=.returned (.tuple #[.agg #[.int .i64 I,y1,.int .i64 M.p,.int .i64 M.s,.int .i64 M.e,.int .i64 M.d,.int .i64 M.t,.int .i64 M.q,.int .i64 M.r,y2,y3],.bool ok])/\w'.ownsRow B 194 5 y1 X.length (ncs X)/\w'.ownsRow B 9 1 y2 BX.length (stv BX)/\w'.ownsRow B 9 1 y3 OX.length (stv OX)/\∀ g,y3.ownBlock=some g -> y2.ownBlock ≠ some g
theorem PaAns.zero {B:Nat}{ns:List Nd}{is:List In}{ds:List Df}{r:Option (Int × ByteArray × List ByteArray × List ByteArray)}{a:World}(h:r=none):PaAns B (paT ns is ds r) (.returned (.tuple #[.agg #[.int .i64 0,.slice none 0 0,.int .i64 0,.int .i64 0,.int .i64 0,.int .i64 0,.int .i64 0,.int .i64 0,.int .i64 0,.slice none 0 0,.slice none 0 0],.bool false])) a:=by
 subst h
 exact ⟨0,[],⟨0,0,0,0,0,0,0⟩,[],[],false,.slice none 0 0,.slice none 0 0,.slice none 0 0,rfl,rfl,⟨by simp [ncs],Or.inl ⟨rfl,rfl⟩⟩,⟨by simp [stv],Or.inl ⟨rfl,rfl⟩⟩,⟨by simp [stv],Or.inl ⟨rfl,rfl⟩⟩,fun g h=>by cases h⟩
theorem Zcp {w a b:World}{P g:Nat}(h:w.grownBy a (some P))(d:Below g a b)(f:b.heap.size=a.heap.size)(i:∀ k,k ≠ g -> b.heap[k]? = a.heap[k]?)(j:w.heap.size <= g):w.grownBy b (some P) :=
 ⟨d.os.trans h.os,d.tape.trans h.tape,d.output.trans h.output,by rw [f];exact h.size,fun k e c=>(i k (by omega)).trans (h.block k e c)⟩
theorem Zjx (v:Value)(zs:List Int)(H w:World)(P:Nat)(v1 v2 v3:Value)(ns:List Nd)(is:List In)(ds:List Df)(R:Row H v zs)(U:Below H.heap.size H w)(Y:H.heap.size <= P)(h1:One w P 0)(R1:NRow H v1 ns)(R2:InRow H v2 is)(R3:DfRow H v3 ds)(hg:ErrT H)(ah:zs.length <= 140737488351232) :
  Calls Tryz.prog 164 #[.agg #[v,.pointer (some ⟨P,0,none⟩)],.agg #[v1,v2,v3]] w fun e w'=>PaAns w.heap.size (paT ns is ds (Zck zs)) e w'/\w.grownBy w' (some P):=by
 have R':=R
 obtain ⟨F,j,rfl,_⟩:=R'
 obtain ⟨a1,c1,rfl⟩:=R1.small
 obtain ⟨a2,c2,rfl⟩:=R2.small
 obtain ⟨W,c3,rfl⟩:=R3.small
 have ai:=h1.lt
 have ap:=U.size
 obtain ⟨A,hA⟩:∃ A,A=w.alloc (Obj.cells #[Value.slice F zs.length j,Value.pointer (some ⟨P,0,none⟩)] 235):=⟨_,rfl⟩
 have y:Below w.heap.size w (((w.alloc (Obj.cells #[Value.slice F zs.length j,Value.pointer (some ⟨P,0,none⟩)] 235)).alloc (Obj.cells #[.slice a1 ns.length c1,.slice a2 is.length c2,.slice W ds.length c3] 44)).alloc (Obj.cells #[.int .i64 0,.slice none 0 0,.int .i64 0,.int .i64 0,.int .i64 0,.int .i64 0,.int .i64 0,.int .i64 0,.int .i64 0,.slice none 0 0,.slice none 0 0] 64)):=(((Below.refl _ _).alloc (Nat.le_refl _) _).alloc (by simp) _).alloc (by simp;omega) _
 have o:(((w.alloc (Obj.cells #[Value.slice F zs.length j,Value.pointer (some ⟨P,0,none⟩)] 235)).alloc (Obj.cells #[.slice a1 ns.length c1,.slice a2 is.length c2,.slice W ds.length c3] 44)).alloc (Obj.cells #[.int .i64 0,.slice none 0 0,.int .i64 0,.int .i64 0,.int .i64 0,.int .i64 0,.int .i64 0,.int .i64 0,.int .i64 0,.slice none 0 0,.slice none 0 0] 64)).heap[w.heap.size]? = some (.cells #[Value.slice F zs.length j,Value.pointer (some ⟨P,0,none⟩)] 235 (0,0)):=(heap_alloc_old _ _ (by simp;omega)).trans ((heap_alloc_old _ _ (by simp)).trans (heap_alloc_new _ _))
 have c:(((w.alloc (Obj.cells #[Value.slice F zs.length j,Value.pointer (some ⟨P,0,none⟩)] 235)).alloc (Obj.cells #[.slice a1 ns.length c1,.slice a2 is.length c2,.slice W ds.length c3] 44)).alloc (Obj.cells #[.int .i64 0,.slice none 0 0,.int .i64 0,.int .i64 0,.int .i64 0,.int .i64 0,.int .i64 0,.int .i64 0,.int .i64 0,.slice none 0 0,.slice none 0 0] 64)).heap[w.heap.size+1]? = some (.cells #[.slice a1 ns.length c1,.slice a2 is.length c2,.slice W ds.length c3] 44 (0,0)):=(heap_alloc_old _ _ (by simp)).trans (heap_alloc2_new _ _ _)
 have f:(((w.alloc (Obj.cells #[Value.slice F zs.length j,Value.pointer (some ⟨P,0,none⟩)] 235)).alloc (Obj.cells #[.slice a1 ns.length c1,.slice a2 is.length c2,.slice W ds.length c3] 44)).alloc (Obj.cells #[.int .i64 0,.slice none 0 0,.int .i64 0,.int .i64 0,.int .i64 0,.int .i64 0,.int .i64 0,.int .i64 0,.int .i64 0,.slice none 0 0,.slice none 0 0] 64)).heap[w.heap.size+2]? = some (.cells #[.int .i64 0,.slice none 0 0,.int .i64 0,.int .i64 0,.int .i64 0,.int .i64 0,.int .i64 0,.int .i64 0,.int .i64 0,.slice none 0 0,.slice none 0 0] 64 (0,0)):=by
  have h:=heap_alloc_new ((w.alloc (Obj.cells #[Value.slice F zs.length j,Value.pointer (some ⟨P,0,none⟩)] 235)).alloc (Obj.cells #[.slice a1 ns.length c1,.slice a2 is.length c2,.slice W ds.length c3] 44)) (Obj.cells #[.int .i64 0,.slice none 0 0,.int .i64 0,.int .i64 0,.int .i64 0,.int .i64 0,.int .i64 0,.int .i64 0,.int .i64 0,.slice none 0 0,.slice none 0 0] 64)
  simpa using h
 clear hA A
 have Z:=h1.below y ai
 have b:=U.trans (y.mono ap)
 have u:w.grownBy (((w.alloc (Obj.cells #[Value.slice F zs.length j,Value.pointer (some ⟨P,0,none⟩)] 235)).alloc (Obj.cells #[.slice a1 ns.length c1,.slice a2 is.length c2,.slice W ds.length c3] 44)).alloc (Obj.cells #[.int .i64 0,.slice none 0 0,.int .i64 0,.int .i64 0,.int .i64 0,.int .i64 0,.int .i64 0,.int .i64 0,.int .i64 0,.slice none 0 0,.slice none 0 0] 64)) (some P):=⟨y.os,y.tape,y.output,y.size,fun k c _=>y.block k c⟩
 have HN:=ZdG _ zs P 0 H _ R b Y Z
 have E1:∀ N gn T q,gN zs 0=(N,gn,T) -> (T=true -> q=gn) -> rd1 zs 0=if T then some (N,q) else none:=fun N gn T q h1 h2=>by
  unfold rd1
  rw [h1]
  cases T with
  | false=>rfl
  | true=>simp [h2 rfl]
 have E2:∀ a B tn tk q,gT zs a=(B,tn,tk) -> (tk=true -> q=tn) -> rt zs a=if tk then some (B,q) else none:=fun a B tn tk q h1 h2=>by
  unfold rt
  rw [h1]
  cases tk with
  | false=>rfl
  | true=>simp [h2 rfl]
 obtain ⟨gg,z⟩:∃ g,gN zs 0=g:=⟨_,rfl⟩
 obtain ⟨N,gn,T⟩:=gg
 rw [z] at HN
 simp only at HN
 replace E1:=fun q=>E1 N gn T q z
 clear z y
 go_enter Tryz.func164,Tryz.ntmps164
 go_wp2_with fail
 refine HN.mono ?_
 rintro e w1 ⟨rfl,⟨q1,O,ae⟩,g1⟩
 have A1:Hid (rd1 zs 0=if T then some (N,q1) else none):=E1 q1 ae
 replace o:=(g1.block _ (Zao o) (by simp;omega)).trans o
 replace c:=(g1.block _ (Zao c) (by simp;omega)).trans c
 replace f:=(g1.block _ (Zao f) (by simp;omega)).trans f
 replace u:=ZaC u g1 (fun k c=>Or.inl (by cases c;rfl))
 replace b:=b.grown g1 b.size (fun k c=>by cases c;exact Y)
 clear g1
 clear HN E1 ae Z h1
 have c0:w1.cell? ⟨w.heap.size,0,none⟩=some (.slice F zs.length j):=cell_of_row w1 _ 0 _ _ _ o
 have E:w1.cell? ⟨w.heap.size,0+1,none⟩=some (.pointer (some ⟨P,0,none⟩)):=cell_of_row w1 _ 1 _ _ _ o
 have HT:=Zde _ zs P q1 H w1 R b Y O
 have ag:=ZcD zs q1
 obtain ⟨gg,z⟩:∃ g,gT zs q1=g:=⟨_,rfl⟩
 obtain ⟨B,tn,tk⟩:=gg
 rw [z] at HT ag
 simp only at HT ag
 replace E2:=fun q=>E2 q1 B tn tk q z
 clear z
 go_wp2_with fail
 refine HT.mono ?_
 rintro e w2 ⟨rfl,⟨q2,Q,af⟩,g2⟩
 have A2:Hid (rt zs q1=if tk then some (B,q2) else none):=E2 q2 af
 clear c0 E
 replace o:=(g2.block _ (Zao o) (by simp;omega)).trans o
 replace c:=(g2.block _ (Zao c) (by simp;omega)).trans c
 replace f:=(g2.block _ (Zao f) (by simp;omega)).trans f
 replace u:=ZaC u g2 (fun k c=>Or.inl (by cases c;rfl))
 replace b:=b.grown g2 b.size (fun k c=>by cases c;exact Y)
 clear g2
 clear HT E2 af O
 have c0:w2.cell? ⟨w.heap.size,0,none⟩=some (.slice F zs.length j):=cell_of_row w2 _ 0 _ _ _ o
 have E:w2.cell? ⟨w.heap.size,0+1,none⟩=some (.pointer (some ⟨P,0,none⟩)):=cell_of_row w2 _ 1 _ _ _ o
 go_wp2_with fail
 refine (ZdD _ zs H w2 P q2 20 R b Y Q (by omega) ah).mono ?_
 rintro e w3 ⟨vb,bs,bk,q3,rfl,J,C,A3,g3⟩
 replace A3:Hid (rdTB zs 20 q2=if bk then some (bs,q3) else none):=A3
 replace C:=Zah (B':=w.heap.size+3) C (by have:=Zao f;omega)
 have aa:∀ g,vb.ownBlock=some g -> g < w3.heap.size:=fun g hg=>(C.lt g hg).2
 clear c0 E
 replace o:=(g3.block _ (Zao o) (by simp;omega)).trans o
 replace c:=(g3.block _ (Zao c) (by simp;omega)).trans c
 replace f:=(g3.block _ (Zao f) (by simp;omega)).trans f
 replace u:=ZaC u g3 (fun k c=>Or.inl (by cases c;rfl))
 replace b:=b.grown g3 b.size (fun k c=>by cases c;exact Y)
 clear g3
 clear Q
 have c0:w3.cell? ⟨w.heap.size,0,none⟩=some (.slice F zs.length j):=cell_of_row w3 _ 0 _ _ _ o
 have E:w3.cell? ⟨w.heap.size,0+1,none⟩=some (.pointer (some ⟨P,0,none⟩)):=cell_of_row w3 _ 1 _ _ _ o
 go_wp2_with fail
 refine (ZdD _ zs H w3 P q3 40 R b Y J (by omega) ah).mono ?_
 rintro e w4 ⟨vo,os,ok,q4,rfl,I,G,A4,g4⟩
 replace A4:Hid (rdTB zs 40 q3=if ok then some (os,q4) else none):=A4
 have al:∀ g,vo.ownBlock=some g -> vb.ownBlock ≠ some g:=fun g h3 h2=>by
  have k1:=(G.lt g h3).1
  have k2:=aa g h2
  omega
 replace G:=Zah (B':=w.heap.size+3) G (by have:=Zao f;omega)
 clear c0 E aa
 replace o:=(g4.block _ (Zao o) (by simp;omega)).trans o
 replace c:=(g4.block _ (Zao c) (by simp;omega)).trans c
 replace f:=(g4.block _ (Zao f) (by simp;omega)).trans f
 replace C:=Zcb C (by omega) g4
 replace u:=ZaC u g4 (fun k c=>Or.inl (by cases c;rfl))
 replace b:=b.grown g4 b.size (fun k c=>by cases c;exact Y)
 clear g4
 clear J
 have x:Hid (Zck zs=if T && (tk && (bk && (ok && decide (q4=zs.length)))) then some (N,B,bs,os) else none):=by
  unfold Hid Zck
  rw [A1.out]
  cases T with
  | false=>rfl
  | true =>
   simp only [if_true,Option.bind_some]
   rw [A2.out]
   cases tk with
   | false=>rfl
   | true =>
    simp only [if_true,Option.bind_some]
    rw [A3.out]
    cases bk with
    | false=>rfl
    | true =>
     simp only [if_true,Option.bind_some]
     rw [A4.out]
     cases ok with
     | false=>rfl
     | true =>
      simp only [if_true,Option.bind_some,Bool.true_and,decide_eq_true_eq]
 have ak:ok=true -> q4 <= zs.length:=fun h=>(ZeP (q:=(os,q4)) (by rw [A4.out,h];rfl)).1
 clear A1 A2 A3 A4
 have ly:=Zao f
 obtain ⟨ab,cb,rfl⟩:=Zag C
 obtain ⟨ac,cc,rfl⟩:=Zag G
 cases T with
 | false =>
  replace x:Hid (Zck zs=none):=x.out
  go_wp2_with (refine Zad rfl 64 _ _ rfl (w.heap.size+2) #[.int .i64 0,.slice none 0 0,.int .i64 0,.int .i64 0,.int .i64 0,.int .i64 0,.int .i64 0,.int .i64 0,.int .i64 0,.slice none 0 0,.slice none 0 0] rfl rfl 64 #[.int .i64 0,.slice none 0 0,.int .i64 0,.int .i64 0,.int .i64 0,.int .i64 0,.int .i64 0,.int .i64 0,.int .i64 0,.slice none 0 0,.slice none 0 0] f ZmS rfl (by simp [Value.oneCell']) ?_)
  intro L l n m i
  have S:w.grownBy L (some P):=Zcp u n m i (by omega)
  go_wp2
  exact bodyPost_ret (Zab rfl _ _ (w.heap.size+2) 64 _ (0,0) _ rfl l Tryz.underlying64 rfl ZmS) rfl ⟨PaAns.zero x.out,S⟩
 | true =>
  cases tk with
  | false =>
   replace x:Hid (Zck zs=none):=x.out
   go_wp2_with (refine Zad rfl 64 _ _ rfl (w.heap.size+2) #[.int .i64 0,.slice none 0 0,.int .i64 0,.int .i64 0,.int .i64 0,.int .i64 0,.int .i64 0,.int .i64 0,.int .i64 0,.slice none 0 0,.slice none 0 0] rfl rfl 64 #[.int .i64 0,.slice none 0 0,.int .i64 0,.int .i64 0,.int .i64 0,.int .i64 0,.int .i64 0,.int .i64 0,.int .i64 0,.slice none 0 0,.slice none 0 0] f ZmS rfl (by simp [Value.oneCell']) ?_)
   intro L l n m i
   have S:w.grownBy L (some P):=Zcp u n m i (by omega)
   go_wp2
   exact bodyPost_ret (Zab rfl _ _ (w.heap.size+2) 64 _ (0,0) _ rfl l Tryz.underlying64 rfl ZmS) rfl ⟨PaAns.zero x.out,S⟩
  | true =>
   cases bk with
   | false =>
    replace x:Hid (Zck zs=none):=x.out
    go_wp2_with (refine Zad rfl 64 _ _ rfl (w.heap.size+2) #[.int .i64 0,.slice none 0 0,.int .i64 0,.int .i64 0,.int .i64 0,.int .i64 0,.int .i64 0,.int .i64 0,.int .i64 0,.slice none 0 0,.slice none 0 0] rfl rfl 64 #[.int .i64 0,.slice none 0 0,.int .i64 0,.int .i64 0,.int .i64 0,.int .i64 0,.int .i64 0,.int .i64 0,.int .i64 0,.slice none 0 0,.slice none 0 0] f ZmS rfl (by simp [Value.oneCell']) ?_)
    intro L l n m i
    have S:w.grownBy L (some P):=Zcp u n m i (by omega)
    go_wp2
    exact bodyPost_ret (Zab rfl _ _ (w.heap.size+2) 64 _ (0,0) _ rfl l Tryz.underlying64 rfl ZmS) rfl ⟨PaAns.zero x.out,S⟩
   | true =>
    cases ok with
    | false =>
     replace x:Hid (Zck zs=none):=x.out
     go_wp2_with (refine Zad rfl 64 _ _ rfl (w.heap.size+2) #[.int .i64 0,.slice none 0 0,.int .i64 0,.int .i64 0,.int .i64 0,.int .i64 0,.int .i64 0,.int .i64 0,.int .i64 0,.slice none 0 0,.slice none 0 0] rfl rfl 64 #[.int .i64 0,.slice none 0 0,.int .i64 0,.int .i64 0,.int .i64 0,.int .i64 0,.int .i64 0,.int .i64 0,.int .i64 0,.slice none 0 0,.slice none 0 0] f ZmS rfl (by simp [Value.oneCell']) ?_)
     intro L l n m i
     have S:w.grownBy L (some P):=Zcp u n m i (by omega)
     go_wp2
     exact bodyPost_ret (Zab rfl _ _ (w.heap.size+2) 64 _ (0,0) _ rfl l Tryz.underlying64 rfl ZmS) rfl ⟨PaAns.zero x.out,S⟩
    | true =>
     have hq:=ak rfl
     have c0:w4.cell? ⟨w.heap.size,0,none⟩=some (.slice F zs.length j):=cell_of_row w4 _ 0 _ _ _ o
     have E:w4.cell? ⟨w.heap.size,0+1,none⟩=some (.pointer (some ⟨P,0,none⟩)):=cell_of_row w4 _ 1 _ _ _ o
     go_wp2_with fail
     refine (Zdd _ zs P q4 _ ⟨F,j,rfl⟩ I).mono ?_
     rintro e w5 ⟨re,rfl,hE,D⟩
     replace c:=Zae c D
     replace f:=Zae f D
     replace C:=Zac C D
     replace G:=Zac G D
     replace b:=b.trans (D.mono b.size)
     replace u:=ZaC u (Zcf D none) (fun k c=>by cases c)
     clear D c0 E I o
     replace ly:=Zao f
     rcases hE with ⟨h4,p,rfl⟩ | ⟨h4,rfl⟩
     ·replace x:Hid (Zck zs=none):=by
       unfold Hid
       rw [x.out]
       have:decide (q4=zs.length)=false:=by simp;omega
       rw [this]
       rfl
      unfold badV
      go_wp2_with (refine Zad rfl 64 _ _ rfl (w.heap.size+2) #[.int .i64 0,.slice none 0 0,.int .i64 0,.int .i64 0,.int .i64 0,.int .i64 0,.int .i64 0,.int .i64 0,.int .i64 0,.slice none 0 0,.slice none 0 0] rfl rfl 64 #[.int .i64 0,.slice none 0 0,.int .i64 0,.int .i64 0,.int .i64 0,.int .i64 0,.int .i64 0,.int .i64 0,.int .i64 0,.slice none 0 0,.slice none 0 0] f ZmS rfl (by simp [Value.oneCell']) ?_)
      intro L l n m i
      have S:w.grownBy L (some P):=Zcp u n m i (by omega)
      go_wp2
      exact bodyPost_ret (Zab rfl _ _ (w.heap.size+2) 64 _ (0,0) _ rfl l Tryz.underlying64 rfl ZmS) rfl ⟨PaAns.zero x.out,S⟩
     ·replace x:Hid (Zck zs=some (N,B,bs,os)):=by
       unfold Hid
       rw [x.out]
       have:decide (q4=zs.length)=true:=by simp;omega
       rw [this]
       rfl
      have HI:=ZhQ _ _ _ ns is ds B w5 (R1.below b) (R2.below b) (R3.below b) (by omega) (hg.below b (Nat.le_refl _))
      unfold MrAns at HI
      have HP:Hid (paT ns is ds (Zck zs)=(N,mrL (mrR ns is ds (sb B)),mrM (mrR ns is ds (sb B)),bs,os,(mrR ns is ds (sb B)).isSome)):=by unfold Hid;rw [x.out];rfl
      generalize mrL (mrR ns is ds (sb B))=X at HI HP
      generalize mrM (mrR ns is ds (sb B))=M at HI HP
      generalize (mrR ns is ds (sb B)).isSome=mk at HI HP
      go_wp2_with (refine wpList_load_row rfl 44 _ rfl (w.heap.size+1) rfl 44 #[.slice a1 ns.length c1,.slice a2 is.length c2,.slice W ds.length c3] (0,0) _ c Tryz.underlying44 rfl ZmT ?_)
      refine HI.mono ?_
      rintro e w6 ⟨⟨v6,rfl,V⟩,K⟩
      obtain ⟨a6,c6,rfl⟩:=Zag V
      replace V:=Zah (B':=w.heap.size+3) V (by omega)
      replace f:=Zae f K
      replace C:=Zac C K
      replace G:=Zac G K
      replace u:=ZaC u (Zcf K none) (fun k c=>by cases c)
      clear K HI c
      replace ly:=Zao f
      go_wp2_with (refine Zad rfl 61 _ _ rfl w6.heap.size #[.slice a6 X.length c6,.int .i64 M.p,.int .i64 M.s,.int .i64 M.e,.int .i64 M.d,.int .i64 M.t,.int .i64 M.q,.int .i64 M.r] rfl rfl 61 #[.slice none 0 0,.int .i64 0,.int .i64 0,.int .i64 0,.int .i64 0,.int .i64 0,.int .i64 0,.int .i64 0] (heap_alloc_new _ _) ZmU rfl (by simp [Value.oneCell']) ?_)
      intro w7 an ad am aj
      have U:Below w6.heap.size w6 w7:=((Below.refl _ _).alloc (Nat.le_refl _) _).trans ad
      replace f:=Zae f U
      replace V:=Zac V U
      replace C:=Zac C U
      replace G:=Zac G U
      replace u:=ZaC u (Zcf U none) (fun k c=>by cases c)
      clear U ad am aj
      generalize w6.heap.size=bm at *
      replace ly:=Zao f
      go_wp2_with (first
       | (refine wpList_load_row rfl 61 _ rfl bm rfl 61 #[.slice a6 X.length c6,.int .i64 M.p,.int .i64 M.s,.int .i64 M.e,.int .i64 M.d,.int .i64 M.t,.int .i64 M.q,.int .i64 M.r] (0,0) _ an Tryz.underlying61 rfl ZmU ?_)
       | (refine Zad rfl 64 _ _ rfl (w.heap.size+2) #[.int .i64 N,.slice a6 X.length c6,.int .i64 M.p,.int .i64 M.s,.int .i64 M.e,.int .i64 M.d,.int .i64 M.t,.int .i64 M.q,.int .i64 M.r,.slice ab bs.length cb,.slice ac os.length cc] rfl rfl 64 #[.int .i64 0,.slice none 0 0,.int .i64 0,.int .i64 0,.int .i64 0,.int .i64 0,.int .i64 0,.int .i64 0,.int .i64 0,.slice none 0 0,.slice none 0 0] f ZmS rfl (by simp [Value.oneCell']) ?_))
      intro L l n m i
      have S:w.grownBy L (some P):=Zcp u n m i (by omega)
      replace V:=Zah (B':=w.heap.size) (Zak V (by omega) i) (by omega)
      replace C:=Zah (B':=w.heap.size) (Zak C (by omega) i) (by omega)
      replace G:=Zah (B':=w.heap.size) (Zak G (by omega) i) (by omega)
      go_wp2
      exact bodyPost_ret (Zab rfl _ _ (w.heap.size+2) 64 _ (0,0) _ rfl l Tryz.underlying64 rfl ZmS) rfl ⟨⟨N,X,M,bs,os,mk,_,_,_,HP.out,rfl,V,C,G,al⟩,S⟩
end Go.Proofs.YtfeodlbpnghakaaGreatDoor
