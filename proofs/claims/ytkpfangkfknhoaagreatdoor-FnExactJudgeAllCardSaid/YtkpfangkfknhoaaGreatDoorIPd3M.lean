/-
  Texts that stood by themselves, laid into one.
-/
import Derived.Test.YtkpfangkfknhoaaGreatDoorSMRdM
import Derived.Test.YtkpfangkfknhoaaGreatDoorSAddM
import Derived.Deep.RegionHeld3
import Derived.Test.YtkpfangkfknhoaaGreatDoorVMoveM
import Derived.Test.YtkpfangkfknhoaaGreatDoorMRgM
import Derived.Test.YtkpfangkfknhoaaGreatDoorInM
import Derived.Test.YtkpfangkfknhoaaGreatDoorS8RdM
/-
  Region 1 of impl.MachineRead, which draws its order: the two calls, and the box that may be made ahead of, between or behind them.
-/
set_option maxRecDepth 100000
set_option maxHeartbeats 12800000
namespace Go.Proofs.YtkpfangkfknhoaaGreatDoor
open Go.Proofs.Tryz
open Go.RowKit
def MFin (B:Nat)(ns:List Nd)(is:List In)(ds:List Df)(zs:List Int)(ao:Option Addr)(n c:Nat)(m:Mc)(r:Value)(W:World):Prop :=
 (∃ xs,mrR ns is ds zs=some (xs,m)/\r=.nilIface/\W.ownsRow B 194 5 (.slice ao n c) xs.length (ncs xs)) \/ (mrR ns is ds zs=none/\∃ p,r=badV p)
theorem Zk1 {B:Nat}{ns:List Nd}{is:List In}{ds:List Df}{zs:List Int}{e:Ending}{W:World}(h:MAns B ns is ds zs e W):∃ a n c m r,e=.returned (.tuple #[.agg (mcs (.slice a n c) m),r])/\MFin B ns is ds zs a n c m r W:=by
 rcases h with ⟨f,m,a,n,c,d,b,g⟩ | ⟨d,a,n,c,m,p,b⟩
 ·exact ⟨a,n,c,m,_,b,Or.inl ⟨f,d,rfl,g⟩⟩
 ·exact ⟨a,n,c,m,_,b,Or.inr ⟨d,p,rfl⟩⟩
theorem MFin.keep {B B':Nat}{ns:List Nd}{is:List In}{ds:List Df}{zs:List Int}{a:Option Addr}{n c:Nat}{m:Mc}{r:Value}{W b:World}(h:MFin B ns is ds zs a n c m r W)(k:∀ v n l,W.ownsRow B 194 5 v n l -> b.ownsRow B' 194 5 v n l):MFin B' ns is ds zs a n c m r b:=by
 rcases h with ⟨f,e,d,g⟩ | h
 ·exact Or.inl ⟨f,e,d,k _ _ _ g⟩
 ·exact Or.inr h
theorem ZgO (v:Value)(zs:List Int)(a w:World)(P:Nat)(f b d:Value)(ns:List Nd)(is:List In)(ds:List Df)(R:Row a v zs)(l:Below a.heap.size a w)(p:a.heap.size <= P)(o:One w P 0)(k:NRow a f ns)(q:InRow a b is)(j:DfRow a d ds) :
  Calls prog 209 #[.agg #[v,.pointer (some ⟨P,0,none⟩)],.agg #[f,b,d]] w fun e g=>w.grownBy g (some P)/\∃ i n c m r,e=.returned (.tuple #[.agg (mcs (.slice i n c) m),r])/\MFin w.heap.size ns is ds zs i n c m r g :=
 (ZfA v zs a w P f b d ns is ds R l p o k q j).mono fun _ _ h=>⟨h.1,Zk1 h.2⟩
theorem Zle {t0 t3 t4 t5 t6 t7 t8 t9 aa ab ae ah af U Y Z X:Value}{fs:List Deferred}(F:Nat)(H I M:Value)(ns:List Nd)(is:List In)(ds:List Df)(s:ByteArray)(w:World)(Q:Exit -> Act -> World -> Prop)(hc:w.heap[F]? = some (.cells #[H,I,M] 44 (0,0)))(R1:NRow w H ns)(R2:InRow w I is)(R3:DfRow w M ds)(hs:s.size <= 140737488351232)(hQ:∀ u8 u9 u10 u11 u12 u13 u14 bx i n c m r (W:World),w.heap.size <= bx -> Below w.heap.size w W -> W.heap[bx]? = some (.cells (mcs (.slice i n c) m) 99 (0,0)) -> MFin w.heap.size ns is ds (sb s) i n c m r W -> Q .normal ⟨#[t0,.string s,.pointer (some ⟨F,0,none⟩),t3,t4,t5,.pointer (some ⟨bx,0,none⟩),r,u8,u9,u10,u11,u12,u13,u14,U,Y,Z,X],fs⟩ W) :
  (Code.region 1 (List.toArray (⟨some 9,.move (.tmp 1),9, "l08_wire.go:47", #[],none⟩ :: ⟨some 10,.call { callee:=.value (.func 163),args:=#[.tmp 9],argTypes:=#[9] },231, "l08_wire.go:47", #[⟨0,.data⟩],none⟩ :: ⟨some 11,.load 44 (.tmp 2),44, "l08_wire.go:47", #[],none⟩ :: ⟨some 12,.call { callee:=.value (.func 209),args:=#[.tmp 10,.tmp 11],argTypes:=#[231,44] },280, "l08_wire.go:47", #[⟨1,.data⟩,⟨2,.data⟩,⟨1,.chain⟩],none⟩ :: ⟨some 8,.move (.tmp 12),280, "l08_wire.go:47", #[⟨3,.data⟩],none⟩ :: ⟨some 13,.extract (.tmp 8) 0,99, "l08_wire.go:47", #[⟨4,.data⟩],none⟩ :: ⟨some 14,.extract (.tmp 8) 1,236, "l08_wire.go:47", #[⟨4,.data⟩,{ on:=8,ground:=Ground.gcOnly Departure.lateStores }],none⟩ :: ⟨some 6,.alloc 99,0, "l08_wire.go:47", #[],none⟩ :: ⟨none,.store 99 (.tmp 6) (.tmp 13),0, "l08_wire.go:47", #[⟨7,.data⟩,⟨5,.data⟩,⟨3,.chain⟩,⟨0,.phase⟩,⟨1,.phase⟩,⟨2,.phase⟩,⟨3,.phase⟩,⟨4,.phase⟩,⟨5,.phase⟩,{ on:=6,ground:=Ground.textOnly Departure.lateStores },⟨7,.phase⟩],none⟩ :: ⟨some 7,.assign (.tmp 14),236, "l08_wire.go:47", #[⟨6,.data⟩,⟨8,.chain⟩,⟨0,.phase⟩,⟨1,.phase⟩,⟨2,.phase⟩,⟨3,.phase⟩,⟨4,.phase⟩,⟨5,.phase⟩,⟨6,.phase⟩,⟨7,.phase⟩,⟨8,.phase⟩],none⟩ :: [])) true).wp prog Q ⟨#[t0,.string s,.pointer (some ⟨F,0,none⟩),t3,t4,t5,t6,t7,t8,t9,aa,ab,ae,ah,af,U,Y,Z,X],fs⟩ w:=by
 have lc:=(bl hc)
 have y:∀ z,Below w.heap.size w z -> (z.cell? ⟨F,0,none⟩=some H/\z.cell? ⟨F,1,none⟩=some I/\z.cell? ⟨F,2,none⟩=some M):=fun z hb=>by
  have g1:=(hb.block _ lc).trans hc;exact ⟨cd z _ 0 _ _ _ g1,cd z _ 1 _ _ _ g1,cd z _ 2 _ _ _ g1⟩
 have T:Below w.heap.size w w.drew:=(cj _ _).drew;have s0:=y _ T;have hd:w.heap.size <= w.drew.heap.size:=ce _;refine wp_region_noPanic ?_;refine wp_region_held_drew (S:=fun z=>z.cell? ⟨F,0,none⟩=some H/\z.cell? ⟨F,1,none⟩=some I/\z.cell? ⟨F,2,none⟩=some M) (by kernel_rfl) s0 (fun ag=>?_);refine tk 0 (.string s) nz (by kernel_rfl) (Or.inl ⟨by rfl,by intro w a;(try dsimp only at a);go_simp⟩) ‹_› ?_;simp only [Act.put,sit,sc0,scs];refine tk 2 (.agg #[H,I,M]) (n2 nz) (by kernel_rfl) (Or.inl ⟨by rfl,by intro w a;(try dsimp only at a);go_simp⟩) ‹_› ?_;simp only [Act.put,sit,sc0,scs];refine wpAnyH_ready (rs:=[1,7]) (by kernel_rfl) (by simp) ?_;refine AllReadyH.cons rfl (fun K b=>?_) (AllReadyH.cons rfl (fun K b=>?_) AllReadyH.nil)
 ·go_simp
  go_wp2_with (go_at_call 163;with_reducible refine (Za8 s _ hs).mono ?_;rintro e x ⟨v,O,P,rfl,RR,u,f,hP,d⟩)
  have j:=T.trans (u.mono T.size);have C:=j.trans (f.mono j.size);have J:=u.size;have R:=f.size;have ad:=d.lt;refine b.out _ _ (y _ C) (fun D=>?_);clear b;refine wpAnyH_ready (rs:=[3,7]) (by kernel_rfl) (by simp) ?_;refine AllReadyH.cons rfl (fun K b=>?_) (AllReadyH.cons rfl (fun K b=>?_) AllReadyH.nil)
  ·go_simp
   go_wp2_with (go_at_call 209;with_reducible refine (ZgO v (sb s) O x P H I M ns is ds RR f hP d (R1.below j) (R2.below j) (R3.below j)).mono ?_;rintro e t ⟨h,i,n,c,m,r,rfl,hF⟩)
   have E:Below w.heap.size w t:=C.grown h C.size (fun k B=>by simp at B;have:=j.size;omega);have L:=h.size;refine b.out _ _ (y _ E) (fun l=>?_);clear b;refine tk 4 (.tuple #[.agg (mcs (.slice i n c) m),r]) (n4 nz) (by kernel_rfl) (Or.inl ⟨by rfl,by intro w a;(try dsimp only at a);go_simp⟩) ‹_› ?_;simp only [Act.put,sit,sc0,scs];refine tk 5 (.agg (mcs (.slice i n c) m)) (n4 (n1 nz)) (by kernel_rfl) (Or.inl ⟨by rfl,by intro w a;(try dsimp only at a);go_simp⟩) ‹_› ?_;simp only [Act.put,sit,sc0,scs];refine tk 6 (r) (n4 (n2 nz)) (by kernel_rfl) (Or.inl ⟨by rfl,by intro w a;(try dsimp only at a);go_simp⟩) ‹_› ?_;simp only [Act.put,sit,sc0,scs];refine wpAnyH_ready (rs:=[7]) (by kernel_rfl) (by simp) ?_;refine AllReadyH.cons rfl (fun K b=>?_) AllReadyH.nil
   go_simp
   go_wp2_with fail;have A:Below w.heap.size w (t.alloc (Obj.cells #[.slice none 0 0,.int .i64 0,.int .i64 0,.int .i64 0,.int .i64 0,.int .i64 0,.int .i64 0,.int .i64 0] 99)):=E.alloc E.size _;have N:(t.alloc (Obj.cells #[.slice none 0 0,.int .i64 0,.int .i64 0,.int .i64 0,.int .i64 0,.int .i64 0,.int .i64 0,.int .i64 0] 99)).heap.size=t.heap.size+1:=by simp
   have xA:(t.alloc (Obj.cells #[.slice none 0 0,.int .i64 0,.int .i64 0,.int .i64 0,.int .i64 0,.int .i64 0,.int .i64 0,.int .i64 0] 99)).heap[t.heap.size]? = some (Obj.cells #[.slice none 0 0,.int .i64 0,.int .i64 0,.int .i64 0,.int .i64 0,.int .i64 0,.int .i64 0,.int .i64 0] 99):=co _ _;refine b.out _ _ (y _ A) (fun p=>?_);clear b;refine wpAnyH_ready (rs:=[8]) (by kernel_rfl) (by simp) ?_;refine AllReadyH.cons rfl (fun K b=>?_) AllReadyH.nil;rw [if_pos (by rfl)];refine wp_store_row 99 _ _ rfl (t.heap.size) (mcs (.slice i n c) m) rfl rfl 99 #[.slice none 0 0,.int .i64 0,.int .i64 0,.int .i64 0,.int .i64 0,.int .i64 0,.int .i64 0,.int .i64 0] xA Znz rfl (ZbU _ _ _ _) ?_;have G:=below_setRow A (g:=t.heap.size) (by omega) (mcs (.slice i n c) m);refine b.out _ _ (y _ G) (fun q=>?_);clear b;simp only [Act.put]
   refine tk 9 (r) (n8 (n1 nz)) (by kernel_rfl) (Or.inl ⟨by rfl,by intro w a;(try dsimp only at a);go_simp⟩) ‹_› ?_;simp only [Act.put];refine wpAnyH_done (by kernel_rfl) ?_ _;exact NoPanic.normal <| hQ _ _ _ _ _ _ _ (t.heap.size) i n c m r _ (by omega) G (setRow_heap _ _ _ _ _ _ xA) (hF.keep fun _ _ _ o=>Zah (Zad o (below_setRow ((cj _ _).alloc (ce _) _) (ce _) _)) (by omega))
  ·go_simp
   go_wp2_with fail;have A:Below w.heap.size w (x.alloc (Obj.cells #[.slice none 0 0,.int .i64 0,.int .i64 0,.int .i64 0,.int .i64 0,.int .i64 0,.int .i64 0,.int .i64 0] 99)):=C.alloc C.size _;have N:(x.alloc (Obj.cells #[.slice none 0 0,.int .i64 0,.int .i64 0,.int .i64 0,.int .i64 0,.int .i64 0,.int .i64 0,.int .i64 0] 99)).heap.size=x.heap.size+1:=by simp
   have xA:(x.alloc (Obj.cells #[.slice none 0 0,.int .i64 0,.int .i64 0,.int .i64 0,.int .i64 0,.int .i64 0,.int .i64 0,.int .i64 0] 99)).heap[x.heap.size]? = some (Obj.cells #[.slice none 0 0,.int .i64 0,.int .i64 0,.int .i64 0,.int .i64 0,.int .i64 0,.int .i64 0,.int .i64 0] 99):=co _ _;refine b.out _ _ (y _ A) (fun p=>?_);clear b;refine wpAnyH_ready (rs:=[3]) (by kernel_rfl) (by simp) ?_;refine AllReadyH.cons rfl (fun K b=>?_) AllReadyH.nil
   go_simp
   go_wp2_with (go_at_call 209;with_reducible refine (ZgO v (sb s) O (x.alloc (Obj.cells #[.slice none 0 0,.int .i64 0,.int .i64 0,.int .i64 0,.int .i64 0,.int .i64 0,.int .i64 0,.int .i64 0] 99)) P H I M ns is ds RR (f.alloc f.size _) hP (d.below ((cj _ _).alloc (ce _) _) d.lt) (R1.below j) (R2.below j) (R3.below j)).mono ?_;rintro e t ⟨h,i,n,c,m,r,rfl,hF⟩)
   have E:Below w.heap.size w t:=A.grown h A.size (fun k B=>by simp at B;have:=j.size;omega);have L:=h.size;refine b.out _ _ (y _ E) (fun l=>?_);clear b;have V:=(h.block x.heap.size (by omega) (by simp;omega)).trans xA;refine tk 4 (.tuple #[.agg (mcs (.slice i n c) m),r]) (n4 nz) (by kernel_rfl) (Or.inl ⟨by rfl,by intro w a;(try dsimp only at a);go_simp⟩) ‹_› ?_;simp only [Act.put,sit,sc0,scs];refine tk 5 (.agg (mcs (.slice i n c) m)) (n4 (n1 nz)) (by kernel_rfl) (Or.inl ⟨by rfl,by intro w a;(try dsimp only at a);go_simp⟩) ‹_› ?_;simp only [Act.put,sit,sc0,scs];refine tk 6 (r) (n4 (n2 nz)) (by kernel_rfl) (Or.inl ⟨by rfl,by intro w a;(try dsimp only at a);go_simp⟩) ‹_› ?_;simp only [Act.put,sit,sc0,scs];refine wpAnyH_ready (rs:=[8]) (by kernel_rfl) (by simp) ?_;refine AllReadyH.cons rfl (fun K b=>?_) AllReadyH.nil;rw [if_pos (by rfl)]
   refine wp_store_row 99 _ _ rfl (x.heap.size) (mcs (.slice i n c) m) rfl rfl 99 #[.slice none 0 0,.int .i64 0,.int .i64 0,.int .i64 0,.int .i64 0,.int .i64 0,.int .i64 0,.int .i64 0] V Znz rfl (ZbU _ _ _ _) ?_;have G:=below_setRow E (g:=x.heap.size) (by omega) (mcs (.slice i n c) m);refine b.out _ _ (y _ G) (fun q=>?_);clear b;simp only [Act.put];refine tk 9 (r) (n8 (n1 nz)) (by kernel_rfl) (Or.inl ⟨by rfl,by intro w a;(try dsimp only at a);go_simp⟩) ‹_› ?_;simp only [Act.put];refine wpAnyH_done (by kernel_rfl) ?_ _;exact NoPanic.normal <| hQ _ _ _ _ _ _ _ (x.heap.size) i n c m r _ (by omega) G (setRow_heap _ _ _ _ _ _ V) (hF.keep fun _ _ _ o=>Zah (Zak o (by omega) (fun k B=>setRow_other _ _ k _ B)) (by omega))
 ·go_simp
  go_wp2_with fail;have A:Below w.heap.size w (w.drew.alloc (Obj.cells #[.slice none 0 0,.int .i64 0,.int .i64 0,.int .i64 0,.int .i64 0,.int .i64 0,.int .i64 0,.int .i64 0] 99)):=T.alloc T.size _;have N:(w.drew.alloc (Obj.cells #[.slice none 0 0,.int .i64 0,.int .i64 0,.int .i64 0,.int .i64 0,.int .i64 0,.int .i64 0,.int .i64 0] 99)).heap.size=w.drew.heap.size+1:=by simp
  have xA:(w.drew.alloc (Obj.cells #[.slice none 0 0,.int .i64 0,.int .i64 0,.int .i64 0,.int .i64 0,.int .i64 0,.int .i64 0,.int .i64 0] 99)).heap[w.drew.heap.size]? = some (Obj.cells #[.slice none 0 0,.int .i64 0,.int .i64 0,.int .i64 0,.int .i64 0,.int .i64 0,.int .i64 0,.int .i64 0] 99):=co _ _;refine b.out _ _ (y _ A) (fun p=>?_);clear b;refine wpAnyH_ready (rs:=[1]) (by kernel_rfl) (by simp) ?_;refine AllReadyH.cons rfl (fun K b=>?_) AllReadyH.nil
  go_simp
  go_wp2_with (go_at_call 163;with_reducible refine (Za8 s _ hs).mono ?_;rintro e x ⟨v,O,P,rfl,RR,u,f,hP,d⟩)
  have j:=A.trans (u.mono A.size);have C:=j.trans (f.mono j.size);have J:=u.size;have R:=f.size;have ad:=d.lt;refine b.out _ _ (y _ C) (fun D=>?_);clear b;refine wpAnyH_ready (rs:=[3]) (by kernel_rfl) (by simp) ?_;refine AllReadyH.cons rfl (fun K b=>?_) AllReadyH.nil
  go_simp
  go_wp2_with (go_at_call 209;with_reducible refine (ZgO v (sb s) O x P H I M ns is ds RR f hP d (R1.below j) (R2.below j) (R3.below j)).mono ?_;rintro e t ⟨h,i,n,c,m,r,rfl,hF⟩)
  have E:Below w.heap.size w t:=C.grown h C.size (fun k B=>by simp at B;have:=j.size;omega);have L:=h.size;refine b.out _ _ (y _ E) (fun l=>?_);clear b;have ac:w.heap.size+1 <= O.heap.size:=by simpa using J
  have V:=(h.block w.heap.size (by omega) (by simp;omega)).trans ((f.block _ (by omega)).trans ((u.block w.heap.size (by simp)).trans (co w _)));refine tk 4 (.tuple #[.agg (mcs (.slice i n c) m),r]) (n4 nz) (by kernel_rfl) (Or.inl ⟨by rfl,by intro w a;(try dsimp only at a);go_simp⟩) ‹_› ?_;simp only [Act.put,sit,sc0,scs];refine tk 5 (.agg (mcs (.slice i n c) m)) (n4 (n1 nz)) (by kernel_rfl) (Or.inl ⟨by rfl,by intro w a;(try dsimp only at a);go_simp⟩) ‹_› ?_;simp only [Act.put,sit,sc0,scs];refine tk 6 (r) (n4 (n2 nz)) (by kernel_rfl) (Or.inl ⟨by rfl,by intro w a;(try dsimp only at a);go_simp⟩) ‹_› ?_;simp only [Act.put,sit,sc0,scs];refine wpAnyH_ready (rs:=[8]) (by kernel_rfl) (by simp) ?_;refine AllReadyH.cons rfl (fun K b=>?_) AllReadyH.nil;rw [if_pos (by rfl)]
  refine wp_store_row 99 _ _ rfl (w.heap.size) (mcs (.slice i n c) m) rfl rfl 99 #[.slice none 0 0,.int .i64 0,.int .i64 0,.int .i64 0,.int .i64 0,.int .i64 0,.int .i64 0,.int .i64 0] V Znz rfl (ZbU _ _ _ _) ?_;have G:=below_setRow E (g:=w.heap.size) (by omega) (mcs (.slice i n c) m);refine b.out _ _ (y _ G) (fun q=>?_);clear b;simp only [Act.put];refine tk 9 (r) (n8 (n1 nz)) (by kernel_rfl) (Or.inl ⟨by rfl,by intro w a;(try dsimp only at a);go_simp⟩) ‹_› ?_;simp only [Act.put];refine wpAnyH_done (by kernel_rfl) ?_ _;exact NoPanic.normal <| hQ _ _ _ _ _ _ _ (w.heap.size) i n c m r _ (by omega) G (setRow_heap _ _ _ _ _ _ V) (hF.keep fun _ _ _ o=>Zah (Zak o (by omega) (fun k B=>setRow_other _ _ k _ B)) (by omega))
theorem Zh4 (C E L:Value)(ns:List Nd)(is:List In)(ds:List Df)(s:ByteArray)(w:World)(F:NRow w C ns)(M:InRow w E is)(K:DfRow w L ds)(P:s.size <= 140737488351232)(hg:ErrT w) :
  Calls prog 199 #[.agg #[C,E,L],.string s] w fun e I=>MrAns w.heap.size (mrR ns is ds (sb s)) e I/\Below w.heap.size w I:=by
 obtain ⟨B,c1,rfl⟩:=F.small;obtain ⟨G,c2,rfl⟩:=M.small;obtain ⟨H,c3,rfl⟩:=K.small;obtain ⟨b,v,u⟩:=Zax w (Obj.cells #[.slice B ns.length c1,.slice G is.length c2,.slice H ds.length c3] 44) (Obj.cells #[.slice none 0 0,.int .i64 0,.int .i64 0,.int .i64 0,.int .i64 0,.int .i64 0,.int .i64 0,.int .i64 0] 99)
 go_enter func199,ntmps199
 go_wp2_with fail;obtain ⟨q,h⟩:∃ q,(w.alloc (Obj.cells #[.slice B ns.length c1,.slice G is.length c2,.slice H ds.length c3] 44)).alloc (Obj.cells #[.slice none 0 0,.int .i64 0,.int .i64 0,.int .i64 0,.int .i64 0,.int .i64 0,.int .i64 0,.int .i64 0] 99)=q:=⟨_,rfl⟩;rw [h] at b v u ⊢;have i:w.heap.size+1 < q.heap.size:=by rw [<- h];simp
 clear h;refine Zle w.heap.size _ _ _ ns is ds s q _ v (F.below b) (M.below b) (K.below b) P ?_;intro u8 u9 u10 u11 u12 u13 u14 Y A n c m r W N d D t;have J:=(d.block _ i).trans u;have j:=b.trans (d.mono b.size);have V:=(bl D);have T:=d.size;clear v u;rcases t with ⟨O,l,rfl,S⟩ | ⟨l,p,rfl⟩
 ·have k:Hid (mrR ns is ds (sb s)=some (O,m)):=l
  clear l;go_wp2_with fail;refine (Zfs _).mono ?_;rintro e X ⟨rfl,a⟩;have y:=(bb J a);have Z:=(a.block _ V).trans D;have Q:=Zad S a;have z:=j.trans (a.mono j.size)
  go_wp2_with (first
   | (refine cE rfl 99 _ rfl Y rfl 99 (mcs (.slice A n c) m) (0,0) _ Z underlying99 rfl Znz ?_)
   | (refine Zae rfl 99 _ _ rfl (w.heap.size+1) (mcs (.slice A n c) m) rfl rfl 99 _ y Znz rfl (ZbU _ _ _ _) ?_))
  intro R t f g o;have x:=z.trans (f.mono (Nat.le_succ _));have U:=Zah (Zak Q i o) (by omega:w.heap.size <= q.heap.size);clear g o;go_wp2;refine cx (Zac rfl _ _ (w.heap.size+1) 99 _ (0,0) _ rfl t underlying99 rfl Znz) rfl ⟨MrAns.intro (.slice A n c) ?_ ?_,x⟩
  ·rw [k.out];rfl
  ·rw [k.out];exact U
 ·have k:Hid (mrR ns is ds (sb s)=none):=l
  clear l;go_wp2_with fail;refine (Zgi p _ (hg.below j (ce _))).mono ?_;rintro e X ⟨rfl,a⟩;have y:=(bb J a);have z:=j.trans (a.mono j.size)
  go_wp2_with (refine Zai rfl 99 _ _ rfl (w.heap.size+1) #[.slice none 0 0,.int .i64 0,.int .i64 0,.int .i64 0,.int .i64 0,.int .i64 0,.int .i64 0,.int .i64 0] rfl rfl 99 _ y Znz rfl (by simp [Value.oneCell']) ?_)
  intro R t f g;have x:=z.trans (f.mono (Nat.le_succ _));clear g;go_wp2;refine cx (Zac rfl _ _ (w.heap.size+1) 99 _ (0,0) _ rfl t underlying99 rfl Znz) rfl ⟨MrAns.intro (.slice none 0 0) ?_ ?_,x⟩
  ·rw [k.out];rfl
  ·rw [k.out];exact World.ownsRow_nil _ _ _ _
def Zcp (zs:List Int):Option (Int × ByteArray × List ByteArray × List ByteArray) :=
 (rd1 zs 0).bind fun p=>(rt zs p.2).bind fun t=>(rdTB zs 20 t.2).bind fun b=>(rdTB zs 40 b.2).bind fun o=>if o.2=zs.length then some (p.1,t.1,b.1,o.1) else none
def paT (ns:List Nd)(is:List In)(ds:List Df)(r:Option (Int × ByteArray × List ByteArray × List ByteArray)):Int × List Nd × Mc × List ByteArray × List ByteArray × Bool :=
 match r with
 | none=>(0,[],⟨0,0,0,0,0,0,0⟩,[],[],false)
 | some (i,t,b,o)=>(i,mrL (mrR ns is ds (sb t)),mrM (mrR ns is ds (sb t)),b,o,(mrR ns is ds (sb t)).isSome)
theorem Zmn (ns:List Nd)(is:List In)(ds:List Df)(zs:List Int):pdR ns is ds zs=(Zcp zs).bind fun a=>(mrR ns is ds (sb a.2.1)).bind fun r=>if Zbr ns is ds a.1 r.1 r.2 a.2.2.1 a.2.2.2 then some (a.1,r,a.2.2.1,a.2.2.2) else none:=by
 rw [Zli];unfold Zcp;cases rd1 zs 0 with
 | none=>rfl
 | some p =>
  simp only [Option.bind_some];cases rt zs p.2 with
  | none=>rfl
  | some t =>
   simp only [Option.bind_some];cases rdTB zs 20 t.2 with
   | none=>rfl
   | some b =>
    simp only [Option.bind_some];cases rdTB zs 40 b.2 with
    | none=>rfl
    | some o =>
     simp only [Option.bind_some];split <;> rfl
theorem ZdW (v:Value)(zs:List Int)(d w:World)(P:Nat)(a:Int)(b:Nat)(R:Row d v zs)(o:Below d.heap.size d w)(r:d.heap.size <= P)(f:One w P a)(c:b <= 40)(l:zs.length <= 140737488351232) :
  Calls prog 198 #[.agg #[v,.pointer (some ⟨P,0,none⟩)],.int .i64 b] w fun e i=>∃ (g:Value) (ts:List ByteArray) (k:Bool) (q:Int),e=.returned (.tuple #[g,.bool k])/\One i P q/\i.ownsRow w.heap.size 9 1 g ts.length (stv ts)/\rdTB zs b a=(if k then some (ts,q) else none)/\w.grownBy i (some P) :=
 (Zii v zs d w P a b R o r f c l).mono fun _ _ h=>by
  rcases h with ⟨n,⟨q,g,f,j,m,p⟩ | ⟨f,j,q,m⟩⟩
  ·exact ⟨g,q.1,true,q.2,j,m,p,f,n⟩
  ·exact ⟨.slice none 0 0,[],false,q,j,m,⟨by simp [stv],Or.inl ⟨rfl,rfl⟩⟩,f,n⟩
theorem ZeN {zs:List Int}:∀ {n:Nat} {a:Int} {q:List ByteArray × Int},a <= zs.length -> rdTs zs n a=some q -> q.2 <= zs.length/\∀ x ∈ q.1,x.size <= zs.length
 | 0,a,q,ha,h=>by cases h;exact ⟨ha,by simp⟩
 | n+1,a,q,ha,h=>by
  rw [rdTs,Option.bind_eq_some_iff] at h;obtain ⟨p,b,d⟩:=h;rw [Option.map_eq_some_iff] at d;obtain ⟨t,i,rfl⟩:=d;unfold rt at b;split at b
  ·cases b
   have f:=(gT_range zs a).2;obtain ⟨e,g⟩:=ZeN f i;refine ⟨e,fun x c=>?_⟩;rcases List.mem_cons.1 c with rfl | c
   ·exact ZcQ zs a
   ·exact g x c
  ·cases b
theorem Zfb {zs:List Int}{b:Nat}{a:Int}{q:List ByteArray × Int}(h:rdTB zs b a=some q):q.2 <= zs.length/\∀ x ∈ q.1,x.size <= zs.length:=by
 obtain ⟨c,_⟩:=Zc2 h;unfold rdTL at c;rw [Option.bind_eq_some_iff] at c;obtain ⟨p,d,e⟩:=c;exact ZeN (Zbc d).2.2.2 e
def PaAns (B:Nat)(T:Int × List Nd × Mc × List ByteArray × List ByteArray × Bool)(e:Ending)(w':World):Prop :=
 ∃ (I:Int) (X:List Nd) (M:Mc) (BX OX:List ByteArray) (ok:Bool) (y1 y2 y3:Value),T=(I,X,M,BX,OX,ok)/\e=.returned (.tuple #[.agg #[.int .i64 I,y1,.int .i64 M.p,.int .i64 M.s,.int .i64 M.e,.int .i64 M.d,.int .i64 M.t,.int .i64 M.q,.int .i64 M.r,y2,y3],.bool ok])/\w'.ownsRow B 194 5 y1 X.length (ncs X)/\w'.ownsRow B 9 1 y2 BX.length (stv BX)/\w'.ownsRow B 9 1 y3 OX.length (stv OX)/\∀ g,y3.ownBlock=some g -> y2.ownBlock ≠ some g
theorem PaAns.zero {B:Nat}{ns:List Nd}{is:List In}{ds:List Df}{r:Option (Int × ByteArray × List ByteArray × List ByteArray)}{a:World}(h:r=none):PaAns B (paT ns is ds r) (.returned (.tuple #[.agg #[.int .i64 0,.slice none 0 0,.int .i64 0,.int .i64 0,.int .i64 0,.int .i64 0,.int .i64 0,.int .i64 0,.int .i64 0,.slice none 0 0,.slice none 0 0],.bool false])) a:=by
 subst h;exact ⟨0,[],⟨0,0,0,0,0,0,0⟩,[],[],false,.slice none 0 0,.slice none 0 0,.slice none 0 0,rfl,rfl,⟨by simp [ncs],Or.inl ⟨rfl,rfl⟩⟩,⟨by simp [stv],Or.inl ⟨rfl,rfl⟩⟩,⟨by simp [stv],Or.inl ⟨rfl,rfl⟩⟩,fun g h=>by cases h⟩
theorem ZcD {w a b:World}{P g:Nat}(h:w.grownBy a (some P))(d:Below g a b)(i:b.heap.size=a.heap.size)(f:∀ k,k ≠ g -> b.heap[k]? = a.heap[k]?)(j:w.heap.size <= g):w.grownBy b (some P) :=
 ⟨d.os.trans h.os,d.tape.trans h.tape,d.output.trans h.output,by rw [i];exact h.size,fun k e c=>(f k (by omega)).trans (h.block k e c)⟩
theorem Zjb (v:Value)(zs:List Int)(H w:World)(P:Nat)(v1 v2 v3:Value)(ns:List Nd)(is:List In)(ds:List Df)(R:Row H v zs)(U:Below H.heap.size H w)(hP:H.heap.size <= P)(h1:One w P 0)(R1:NRow H v1 ns)(R2:InRow H v2 is)(R3:DfRow H v3 ds)(hg:ErrT H)(ag:zs.length <= 140737488351232) :
  Calls prog 167 #[.agg #[v,.pointer (some ⟨P,0,none⟩)],.agg #[v1,v2,v3]] w fun e w'=>PaAns w.heap.size (paT ns is ds (Zcp zs)) e w'/\w.grownBy w' (some P):=by
 have R':=R;obtain ⟨G,j,rfl,_⟩:=R';obtain ⟨Z,c1,rfl⟩:=R1.small;obtain ⟨a2,c2,rfl⟩:=R2.small;obtain ⟨a3,c3,rfl⟩:=R3.small;have aj:=h1.lt;have ah:=U.size;obtain ⟨A,hA⟩:∃ A,A=w.alloc (Obj.cells #[Value.slice G zs.length j,Value.pointer (some ⟨P,0,none⟩)] 231):=⟨_,rfl⟩;have y:Below w.heap.size w (((w.alloc (Obj.cells #[Value.slice G zs.length j,Value.pointer (some ⟨P,0,none⟩)] 231)).alloc (Obj.cells #[.slice Z ns.length c1,.slice a2 is.length c2,.slice a3 ds.length c3] 44)).alloc (Obj.cells #[.int .i64 0,.slice none 0 0,.int .i64 0,.int .i64 0,.int .i64 0,.int .i64 0,.int .i64 0,.int .i64 0,.int .i64 0,.slice none 0 0,.slice none 0 0] 101)):=(((cj _ _).alloc (ce _) _).alloc (by simp) _).alloc (by simp;omega) _
 have o:(((w.alloc (Obj.cells #[Value.slice G zs.length j,Value.pointer (some ⟨P,0,none⟩)] 231)).alloc (Obj.cells #[.slice Z ns.length c1,.slice a2 is.length c2,.slice a3 ds.length c3] 44)).alloc (Obj.cells #[.int .i64 0,.slice none 0 0,.int .i64 0,.int .i64 0,.int .i64 0,.int .i64 0,.int .i64 0,.int .i64 0,.int .i64 0,.slice none 0 0,.slice none 0 0] 101)).heap[w.heap.size]? = some (.cells #[Value.slice G zs.length j,Value.pointer (some ⟨P,0,none⟩)] 231 (0,0)):=(cz _ _ (by simp;omega)).trans ((cz _ _ (by simp)).trans (co _ _))
 have c:(((w.alloc (Obj.cells #[Value.slice G zs.length j,Value.pointer (some ⟨P,0,none⟩)] 231)).alloc (Obj.cells #[.slice Z ns.length c1,.slice a2 is.length c2,.slice a3 ds.length c3] 44)).alloc (Obj.cells #[.int .i64 0,.slice none 0 0,.int .i64 0,.int .i64 0,.int .i64 0,.int .i64 0,.int .i64 0,.int .i64 0,.int .i64 0,.slice none 0 0,.slice none 0 0] 101)).heap[w.heap.size+1]? = some (.cells #[.slice Z ns.length c1,.slice a2 is.length c2,.slice a3 ds.length c3] 44 (0,0)):=(cz _ _ (by simp)).trans (cH _ _ _)
 have f:(((w.alloc (Obj.cells #[Value.slice G zs.length j,Value.pointer (some ⟨P,0,none⟩)] 231)).alloc (Obj.cells #[.slice Z ns.length c1,.slice a2 is.length c2,.slice a3 ds.length c3] 44)).alloc (Obj.cells #[.int .i64 0,.slice none 0 0,.int .i64 0,.int .i64 0,.int .i64 0,.int .i64 0,.int .i64 0,.int .i64 0,.int .i64 0,.slice none 0 0,.slice none 0 0] 101)).heap[w.heap.size+2]? = some (.cells #[.int .i64 0,.slice none 0 0,.int .i64 0,.int .i64 0,.int .i64 0,.int .i64 0,.int .i64 0,.int .i64 0,.int .i64 0,.slice none 0 0,.slice none 0 0] 101 (0,0)):=by
  have h:=co ((w.alloc (Obj.cells #[Value.slice G zs.length j,Value.pointer (some ⟨P,0,none⟩)] 231)).alloc (Obj.cells #[.slice Z ns.length c1,.slice a2 is.length c2,.slice a3 ds.length c3] 44)) (Obj.cells #[.int .i64 0,.slice none 0 0,.int .i64 0,.int .i64 0,.int .i64 0,.int .i64 0,.int .i64 0,.int .i64 0,.int .i64 0,.slice none 0 0,.slice none 0 0] 101)
  simpa using h
 clear hA A;have Y:=h1.below y aj;have b:=U.trans (y.mono ah);have u:w.grownBy (((w.alloc (Obj.cells #[Value.slice G zs.length j,Value.pointer (some ⟨P,0,none⟩)] 231)).alloc (Obj.cells #[.slice Z ns.length c1,.slice a2 is.length c2,.slice a3 ds.length c3] 44)).alloc (Obj.cells #[.int .i64 0,.slice none 0 0,.int .i64 0,.int .i64 0,.int .i64 0,.int .i64 0,.int .i64 0,.int .i64 0,.int .i64 0,.slice none 0 0,.slice none 0 0] 101)) (some P):=⟨y.os,y.tape,y.output,y.size,fun k c _=>y.block k c⟩;have HN:=Zdy _ zs P 0 H _ R b hP Y
 have E1:∀ T gn K q,gN zs 0=(T,gn,K) -> (K=true -> q=gn) -> rd1 zs 0=if K then some (T,q) else none:=fun T gn K q h1 h2=>by
  unfold rd1;rw [h1];cases K with
  | false=>rfl
  | true=>simp [h2 rfl]
 have E2:∀ a B tn tk q,gT zs a=(B,tn,tk) -> (tk=true -> q=tn) -> rt zs a=if tk then some (B,q) else none:=fun a B tn tk q h1 h2=>by
  unfold rt;rw [h1];cases tk with
  | false=>rfl
  | true=>simp [h2 rfl]
 obtain ⟨gg,z⟩:∃ g,gN zs 0=g:=⟨_,rfl⟩;obtain ⟨T,gn,K⟩:=gg;rw [z] at HN;simp only at HN;replace E1:=fun q=>E1 T gn K q z
 clear z y
 go_enter func167,ntmps167
 go_wp2_with fail;refine HN.mono ?_;rintro e w1 ⟨rfl,⟨q1,O,aa⟩,g1⟩;have A1:Hid (rd1 zs 0=if K then some (T,q1) else none):=E1 q1 aa;replace o:=(g1.block _ (Zao o) (by simp;omega)).trans o;replace c:=(g1.block _ (Zao c) (by simp;omega)).trans c;replace f:=(g1.block _ (Zao f) (by simp;omega)).trans f;replace u:=ZaE u g1 (fun k c=>Or.inl (by cases c;rfl));replace b:=b.grown g1 b.size (fun k c=>by cases c;exact hP);clear g1;clear HN E1 aa Y h1;have c0:w1.cell? ⟨w.heap.size,0,none⟩=some (.slice G zs.length j):=cd w1 _ 0 _ _ _ o;have D:w1.cell? ⟨w.heap.size,0+1,none⟩=some (.pointer (some ⟨P,0,none⟩)):=cd w1 _ 1 _ _ _ o;have HT:=Zdn _ zs P q1 H w1 R b hP O;have af:=ZcQ zs q1;obtain ⟨gg,z⟩:∃ g,gT zs q1=g:=⟨_,rfl⟩;obtain ⟨B,tn,tk⟩:=gg;rw [z] at HT af;simp only at HT af;replace E2:=fun q=>E2 q1 B tn tk q z
 clear z;go_wp2_with fail;refine HT.mono ?_;rintro e w2 ⟨rfl,⟨q2,L,ad⟩,g2⟩;have A2:Hid (rt zs q1=if tk then some (B,q2) else none):=E2 q2 ad;clear c0 D;replace o:=(g2.block _ (Zao o) (by simp;omega)).trans o;replace c:=(g2.block _ (Zao c) (by simp;omega)).trans c;replace f:=(g2.block _ (Zao f) (by simp;omega)).trans f;replace u:=ZaE u g2 (fun k c=>Or.inl (by cases c;rfl));replace b:=b.grown g2 b.size (fun k c=>by cases c;exact hP);clear g2;clear HT E2 ad O;have c0:w2.cell? ⟨w.heap.size,0,none⟩=some (.slice G zs.length j):=cd w2 _ 0 _ _ _ o;have D:w2.cell? ⟨w.heap.size,0+1,none⟩=some (.pointer (some ⟨P,0,none⟩)):=cd w2 _ 1 _ _ _ o;go_wp2_with fail;refine (ZdW _ zs H w2 P q2 20 R b hP L (by omega) ag).mono ?_;rintro e w3 ⟨vb,bs,bk,q3,rfl,J,E,A3,g3⟩;replace A3:Hid (rdTB zs 20 q2=if bk then some (bs,q3) else none):=A3
 replace E:=Zah (B':=w.heap.size+3) E (by have:=Zao f;omega);have V:∀ g,vb.ownBlock=some g -> g < w3.heap.size:=fun g hg=>(E.lt g hg).2
 clear c0 D;replace o:=(g3.block _ (Zao o) (by simp;omega)).trans o;replace c:=(g3.block _ (Zao c) (by simp;omega)).trans c;replace f:=(g3.block _ (Zao f) (by simp;omega)).trans f;replace u:=ZaE u g3 (fun k c=>Or.inl (by cases c;rfl));replace b:=b.grown g3 b.size (fun k c=>by cases c;exact hP);clear g3;clear L;have c0:w3.cell? ⟨w.heap.size,0,none⟩=some (.slice G zs.length j):=cd w3 _ 0 _ _ _ o;have D:w3.cell? ⟨w.heap.size,0+1,none⟩=some (.pointer (some ⟨P,0,none⟩)):=cd w3 _ 1 _ _ _ o;go_wp2_with fail;refine (ZdW _ zs H w3 P q3 40 R b hP J (by omega) ag).mono ?_;rintro e w4 ⟨vo,os,ok,q4,rfl,Q,F,A4,g4⟩;replace A4:Hid (rdTB zs 40 q3=if ok then some (os,q4) else none):=A4
 have an:∀ g,vo.ownBlock=some g -> vb.ownBlock ≠ some g:=fun g h3 h2=>by
  have k1:=(F.lt g h3).1;have k2:=V g h2;omega
 replace F:=Zah (B':=w.heap.size+3) F (by have:=Zao f;omega);clear c0 D V;replace o:=(g4.block _ (Zao o) (by simp;omega)).trans o;replace c:=(g4.block _ (Zao c) (by simp;omega)).trans c;replace f:=(g4.block _ (Zao f) (by simp;omega)).trans f;replace E:=Zch E (by omega) g4;replace u:=ZaE u g4 (fun k c=>Or.inl (by cases c;rfl));replace b:=b.grown g4 b.size (fun k c=>by cases c;exact hP);clear g4;clear J
 have x:Hid (Zcp zs=if K && (tk && (bk && (ok && decide (q4=zs.length)))) then some (T,B,bs,os) else none):=by
  unfold Hid Zcp;rw [A1.out];cases K with
  | false=>rfl
  | true =>
   simp only [if_true,Option.bind_some];rw [A2.out];cases tk with
   | false=>rfl
   | true =>
    simp only [if_true,Option.bind_some];rw [A3.out];cases bk with
    | false=>rfl
    | true =>
     simp only [if_true,Option.bind_some];rw [A4.out];cases ok with
     | false=>rfl
     | true =>
      simp only [if_true,Option.bind_some,Bool.true_and,decide_eq_true_eq]
 have al:ok=true -> q4 <= zs.length:=fun h=>(Zfb (q:=(os,q4)) (by rw [A4.out,h];rfl)).1
 clear A1 A2 A3 A4;have ly:=Zao f;obtain ⟨ab,cb,rfl⟩:=Zag E;obtain ⟨ac,cc,rfl⟩:=Zag F;cases K with
 | false =>
  replace x:Hid (Zcp zs=none):=x.out
  go_wp2_with (refine Zae rfl 101 _ _ rfl (w.heap.size+2) #[.int .i64 0,.slice none 0 0,.int .i64 0,.int .i64 0,.int .i64 0,.int .i64 0,.int .i64 0,.int .i64 0,.int .i64 0,.slice none 0 0,.slice none 0 0] rfl rfl 101 #[.int .i64 0,.slice none 0 0,.int .i64 0,.int .i64 0,.int .i64 0,.int .i64 0,.int .i64 0,.int .i64 0,.int .i64 0,.slice none 0 0,.slice none 0 0] f Zny rfl (by simp [Value.oneCell']) ?_)
  intro S n l m i;have N:w.grownBy S (some P):=ZcD u l m i (by omega);go_wp2;exact cx (Zac rfl _ _ (w.heap.size+2) 101 _ (0,0) _ rfl n underlying101 rfl Zny) rfl ⟨PaAns.zero x.out,N⟩
 | true =>
  cases tk with
  | false =>
   replace x:Hid (Zcp zs=none):=x.out
   go_wp2_with (refine Zae rfl 101 _ _ rfl (w.heap.size+2) #[.int .i64 0,.slice none 0 0,.int .i64 0,.int .i64 0,.int .i64 0,.int .i64 0,.int .i64 0,.int .i64 0,.int .i64 0,.slice none 0 0,.slice none 0 0] rfl rfl 101 #[.int .i64 0,.slice none 0 0,.int .i64 0,.int .i64 0,.int .i64 0,.int .i64 0,.int .i64 0,.int .i64 0,.int .i64 0,.slice none 0 0,.slice none 0 0] f Zny rfl (by simp [Value.oneCell']) ?_)
   intro S n l m i;have N:w.grownBy S (some P):=ZcD u l m i (by omega);go_wp2;exact cx (Zac rfl _ _ (w.heap.size+2) 101 _ (0,0) _ rfl n underlying101 rfl Zny) rfl ⟨PaAns.zero x.out,N⟩
  | true =>
   cases bk with
   | false =>
    replace x:Hid (Zcp zs=none):=x.out
    go_wp2_with (refine Zae rfl 101 _ _ rfl (w.heap.size+2) #[.int .i64 0,.slice none 0 0,.int .i64 0,.int .i64 0,.int .i64 0,.int .i64 0,.int .i64 0,.int .i64 0,.int .i64 0,.slice none 0 0,.slice none 0 0] rfl rfl 101 #[.int .i64 0,.slice none 0 0,.int .i64 0,.int .i64 0,.int .i64 0,.int .i64 0,.int .i64 0,.int .i64 0,.int .i64 0,.slice none 0 0,.slice none 0 0] f Zny rfl (by simp [Value.oneCell']) ?_)
    intro S n l m i;have N:w.grownBy S (some P):=ZcD u l m i (by omega);go_wp2;exact cx (Zac rfl _ _ (w.heap.size+2) 101 _ (0,0) _ rfl n underlying101 rfl Zny) rfl ⟨PaAns.zero x.out,N⟩
   | true =>
    cases ok with
    | false =>
     replace x:Hid (Zcp zs=none):=x.out
     go_wp2_with (refine Zae rfl 101 _ _ rfl (w.heap.size+2) #[.int .i64 0,.slice none 0 0,.int .i64 0,.int .i64 0,.int .i64 0,.int .i64 0,.int .i64 0,.int .i64 0,.int .i64 0,.slice none 0 0,.slice none 0 0] rfl rfl 101 #[.int .i64 0,.slice none 0 0,.int .i64 0,.int .i64 0,.int .i64 0,.int .i64 0,.int .i64 0,.int .i64 0,.int .i64 0,.slice none 0 0,.slice none 0 0] f Zny rfl (by simp [Value.oneCell']) ?_)
     intro S n l m i;have N:w.grownBy S (some P):=ZcD u l m i (by omega);go_wp2;exact cx (Zac rfl _ _ (w.heap.size+2) 101 _ (0,0) _ rfl n underlying101 rfl Zny) rfl ⟨PaAns.zero x.out,N⟩
    | true =>
     have hq:=al rfl;have c0:w4.cell? ⟨w.heap.size,0,none⟩=some (.slice G zs.length j):=cd w4 _ 0 _ _ _ o;have D:w4.cell? ⟨w.heap.size,0+1,none⟩=some (.pointer (some ⟨P,0,none⟩)):=cd w4 _ 1 _ _ _ o;go_wp2_with fail;refine (Zdl _ zs P q4 _ ⟨G,j,rfl⟩ Q).mono ?_;rintro e w5 ⟨re,rfl,hE,C⟩;replace c:=Zaa c C;replace f:=Zaa f C;replace E:=Zad E C;replace F:=Zad F C;replace b:=b.trans (C.mono b.size);replace u:=ZaE u (Zb8 C none) (fun k c=>by cases c);clear C c0 D Q o;replace ly:=Zao f;rcases hE with ⟨h4,p,rfl⟩ | ⟨h4,rfl⟩
     ·replace x:Hid (Zcp zs=none):=by
       unfold Hid;rw [x.out];have:decide (q4=zs.length)=false:=by simp;omega
       rw [this];rfl
      unfold badV
      go_wp2_with (refine Zae rfl 101 _ _ rfl (w.heap.size+2) #[.int .i64 0,.slice none 0 0,.int .i64 0,.int .i64 0,.int .i64 0,.int .i64 0,.int .i64 0,.int .i64 0,.int .i64 0,.slice none 0 0,.slice none 0 0] rfl rfl 101 #[.int .i64 0,.slice none 0 0,.int .i64 0,.int .i64 0,.int .i64 0,.int .i64 0,.int .i64 0,.int .i64 0,.int .i64 0,.slice none 0 0,.slice none 0 0] f Zny rfl (by simp [Value.oneCell']) ?_)
      intro S n l m i;have N:w.grownBy S (some P):=ZcD u l m i (by omega);go_wp2;exact cx (Zac rfl _ _ (w.heap.size+2) 101 _ (0,0) _ rfl n underlying101 rfl Zny) rfl ⟨PaAns.zero x.out,N⟩
     ·replace x:Hid (Zcp zs=some (T,B,bs,os)):=by
       unfold Hid;rw [x.out];have:decide (q4=zs.length)=true:=by simp;omega
       rw [this];rfl
      have HI:=Zh4 _ _ _ ns is ds B w5 (R1.below b) (R2.below b) (R3.below b) (by omega) (hg.below b (ce _));unfold MrAns at HI;have HP:Hid (paT ns is ds (Zcp zs)=(T,mrL (mrR ns is ds (sb B)),mrM (mrR ns is ds (sb B)),bs,os,(mrR ns is ds (sb B)).isSome)):=by unfold Hid;rw [x.out];rfl
      generalize mrL (mrR ns is ds (sb B))=X at HI HP;generalize mrM (mrR ns is ds (sb B))=M at HI HP;generalize (mrR ns is ds (sb B)).isSome=mk at HI HP
      go_wp2_with (refine cE rfl 44 _ rfl (w.heap.size+1) rfl 44 #[.slice Z ns.length c1,.slice a2 is.length c2,.slice a3 ds.length c3] (0,0) _ c underlying44 rfl Znw ?_)
      refine HI.mono ?_;rintro e w6 ⟨⟨v6,rfl,W⟩,I⟩;obtain ⟨a6,c6,rfl⟩:=Zag W;replace W:=Zah (B':=w.heap.size+3) W (by omega);replace f:=Zaa f I;replace E:=Zad E I;replace F:=Zad F I;replace u:=ZaE u (Zb8 I none) (fun k c=>by cases c);clear I HI c;replace ly:=Zao f
      go_wp2_with (refine Zae rfl 99 _ _ rfl w6.heap.size #[.slice a6 X.length c6,.int .i64 M.p,.int .i64 M.s,.int .i64 M.e,.int .i64 M.d,.int .i64 M.t,.int .i64 M.q,.int .i64 M.r] rfl rfl 99 #[.slice none 0 0,.int .i64 0,.int .i64 0,.int .i64 0,.int .i64 0,.int .i64 0,.int .i64 0,.int .i64 0] (co _ _) Znz rfl (by simp [Value.oneCell']) ?_)
      intro w7 am ae ai ak;have U:Below w6.heap.size w6 w7:=((cj _ _).alloc (ce _) _).trans ae;replace f:=Zaa f U;replace W:=Zad W U;replace E:=Zad E U;replace F:=Zad F U;replace u:=ZaE u (Zb8 U none) (fun k c=>by cases c);clear U ae ai ak;generalize w6.heap.size=bm at *;replace ly:=Zao f
      go_wp2_with (first
       | (refine cE rfl 99 _ rfl bm rfl 99 #[.slice a6 X.length c6,.int .i64 M.p,.int .i64 M.s,.int .i64 M.e,.int .i64 M.d,.int .i64 M.t,.int .i64 M.q,.int .i64 M.r] (0,0) _ am underlying99 rfl Znz ?_)
       | (refine Zae rfl 101 _ _ rfl (w.heap.size+2) #[.int .i64 T,.slice a6 X.length c6,.int .i64 M.p,.int .i64 M.s,.int .i64 M.e,.int .i64 M.d,.int .i64 M.t,.int .i64 M.q,.int .i64 M.r,.slice ab bs.length cb,.slice ac os.length cc] rfl rfl 101 #[.int .i64 0,.slice none 0 0,.int .i64 0,.int .i64 0,.int .i64 0,.int .i64 0,.int .i64 0,.int .i64 0,.int .i64 0,.slice none 0 0,.slice none 0 0] f Zny rfl (by simp [Value.oneCell']) ?_))
      intro S n l m i;have N:w.grownBy S (some P):=ZcD u l m i (by omega);replace W:=Zah (B':=w.heap.size) (Zak W (by omega) i) (by omega);replace E:=Zah (B':=w.heap.size) (Zak E (by omega) i) (by omega);replace F:=Zah (B':=w.heap.size) (Zak F (by omega) i) (by omega);go_wp2;exact cx (Zac rfl _ _ (w.heap.size+2) 101 _ (0,0) _ rfl n underlying101 rfl Zny) rfl ⟨⟨T,X,M,bs,os,mk,_,_,_,HP.out,rfl,W,E,F,an⟩,N⟩
end Go.Proofs.YtkpfangkfknhoaaGreatDoor
