/-
  Texts that stood by themselves, laid into one.
-/
import Derived.Test.YtfeodlbpnghakaaGreatDoorIPd3M
import Derived.Test.YtfeodlbpnghakaaGreatDoorMRgM
import Derived.Test.YtfeodlbpnghakaaGreatDoorMcTM
import Derived.Test.YtfeodlbpnghakaaGreatDoorMark2M
import Derived.Deep.MidRow
import Derived.Deep.AppendLies
import Derived.Deep.RegionLawGrows
import Derived.OneCell
/-
  The contract of impl.ProcRead. The variable errors.errorType reads as it is laid.
-/
set_option maxRecDepth 100000
set_option maxHeartbeats 6400000
namespace Go.Proofs.YtfeodlbpnghakaaGreatDoor
open Go.RowKit
theorem Zly {t0 t3 t4 t5 t6 t7 t8 t9 al ap am aq an ai ae ah aj ag af ad ak ac ab:Value}{fs:List Deferred}(bc:Nat)(v1 v2 v3:Value)(s:ByteArray)(T:Int × List Nd × Mc × List ByteArray × List ByteArray × Bool)(w:World)(Q:Exit -> Act -> World -> Prop)(Y:w.heap[bc]? = some (.cells #[v1,v2,v3] 44 (0,0)))(hs:s.size <= 140737488351232)(HC:∀ (Z:Value) (O:World) (P:Nat) (W:World),Row O Z (sb s) -> Below w.heap.size w O -> Below O.heap.size O W -> O.heap.size <= P -> One W P 0 -> Calls Tryz.prog 164 #[.agg #[Z,.pointer (some ⟨P,0,none⟩)],.agg #[v1,v2,v3]] W fun e w'=>PaAns W.heap.size T e w'/\W.grownBy w' (some P))(hQ:∀ u9 u10 u11 u12 u8 u13 u14 (b:Nat) (I:Int) (i:List Nd) (M:Mc) (c f:List ByteArray) (ok:Bool) (v m o:Option Addr) (u n l:Nat) (W:World),w.heap.size <= b -> Below w.heap.size w W -> W.heap[b]? = some (.cells #[.int .i64 I,.slice v i.length u,.int .i64 M.p,.int .i64 M.s,.int .i64 M.e,.int .i64 M.d,.int .i64 M.t,.int .i64 M.q,.int .i64 M.r,.slice m c.length n,.slice o f.length l] 64 (0,0)) -> T=(I,i,M,c,f,ok) -> W.ownsRow w.heap.size 194 5 (.slice v i.length u) i.length (ncs i) -> W.ownsRow w.heap.size 9 1 (.slice m c.length n) c.length (stv c) -> W.ownsRow w.heap.size 9 1 (.slice o f.length l) f.length (stv f) -> (∀ g,(Value.slice o f.length l).ownBlock=some g -> (Value.slice m c.length n).ownBlock ≠ some g) -> Q .normal ⟨#[t0,.string s,.pointer (some ⟨bc,0,none⟩),t3,t4,t5,.pointer (some ⟨b,0,none⟩),.bool ok,u8,u9,u10,u11,u12,u13,u14,ai,ae,ah,aj,ag,af,ad,ak,ac,ab],fs⟩ W) :
  (Code.region 1 (List.toArray (⟨some 9,.move (.tmp 1),9, "l12_proc.go:92", #[],none⟩ :: ⟨some 10,.call { callee:=.value (.func 160),args:=#[.tmp 9],argTypes:=#[9] },235, "l12_proc.go:92", #[⟨0,.data⟩],none⟩ :: ⟨some 11,.load 44 (.tmp 2),44, "l12_proc.go:92", #[],none⟩ :: ⟨some 12,.call { callee:=.value (.func 164),args:=#[.tmp 10,.tmp 11],argTypes:=#[235,44] },113, "l12_proc.go:92", #[⟨1,.data⟩,⟨2,.data⟩,⟨1,.chain⟩],none⟩ :: ⟨some 8,.move (.tmp 12),113, "l12_proc.go:92", #[⟨3,.data⟩],none⟩ :: ⟨some 13,.extract (.tmp 8) 0,64, "l12_proc.go:92", #[⟨4,.data⟩],none⟩ :: ⟨some 14,.extract (.tmp 8) 1,4, "l12_proc.go:92", #[⟨4,.data⟩,{ on:=8,ground:=Ground.gcOnly Departure.lateStores }],none⟩ :: ⟨some 6,.alloc 64,0, "l12_proc.go:92", #[],none⟩ :: ⟨none,.store 64 (.tmp 6) (.tmp 13),0, "l12_proc.go:92", #[⟨7,.data⟩,⟨5,.data⟩,⟨3,.chain⟩,⟨0,.phase⟩,⟨1,.phase⟩,⟨2,.phase⟩,⟨3,.phase⟩,⟨4,.phase⟩,⟨5,.phase⟩,{ on:=6,ground:=Ground.textOnly Departure.lateStores },⟨7,.phase⟩],none⟩ :: ⟨some 7,.assign (.tmp 14),4, "l12_proc.go:92", #[⟨6,.data⟩,⟨8,.chain⟩,⟨0,.phase⟩,⟨1,.phase⟩,⟨2,.phase⟩,⟨3,.phase⟩,⟨4,.phase⟩,⟨5,.phase⟩,⟨6,.phase⟩,⟨7,.phase⟩,⟨8,.phase⟩],none⟩ :: [])) true).wp Tryz.prog Q ⟨#[t0,.string s,.pointer (some ⟨bc,0,none⟩),t3,t4,t5,t6,t7,t8,t9,al,ap,am,aq,an,ai,ae,ah,aj,ag,af,ad,ak,ac,ab],fs⟩ w:=by
 unfold PaAns at HC
 have N:∀ w',Below w.heap.size w w' -> (w'.heap[bc]? = some (.cells #[v1,v2,v3] 44 (0,0))):=fun w' J=>Zae Y J
 have B:Below w.heap.size w w.drew:=Zaw w
 refine rg N B (by kernel_rfl) fun a=>?_
 refine tk 0 (.string s) nz (by kernel_rfl) (Or.inl ⟨by rfl,by intro w E;go_simp⟩) ‹_› ?_
 simp only [Act.put,sit,sc0,scs]
 refine tk 2 (.agg #[v1,v2,v3]) (n2 nz) (by kernel_rfl) (ZaI (by rfl) 44 _ rfl bc rfl #[v1,v2,v3] 44 _ (fun _ h=>h) Tryz.underlying44 rfl ZmT) ‹_› ?_
 simp only [Act.put,sit,sc0,scs]
 refine wpAnyH_ready (rs:=[1,7]) (by kernel_rfl) (by simp) ?_
 refine AllReadyH.cons rfl (fun K x=>?_) (AllReadyH.cons rfl (fun K x=>?_) AllReadyH.nil)
 ·go_simp
  go_wp2_with (go_at_call 160;with_reducible refine (Za4 s _ hs).mono ?_;rintro e U ⟨Z,O,P,rfl,RR,G,C,L,y⟩)
  have R:=B.trans (G.mono B.size)
  replace B:=R.trans (C.mono R.size)
  clear G
  refine x.out _ _ (N _ B) (fun a=>?_)
  clear x
  refine wpAnyH_ready (rs:=[3,7]) (by kernel_rfl) (by simp) ?_
  refine AllReadyH.cons rfl (fun K x=>?_) (AllReadyH.cons rfl (fun K x=>?_) AllReadyH.nil)
  ·go_simp
   go_wp2_with (go_at_call 164;with_reducible refine (HC Z O P _ RR R C L y).mono ?_;rintro e S ⟨⟨I,i,M,c,f,ok,y1,y2,y3,eT,rfl,z,D,A,AP⟩,F⟩)
   obtain ⟨v,u,rfl⟩:=Zag z
   obtain ⟨m,n,rfl⟩:=Zag D
   obtain ⟨o,l,rfl⟩:=Zag A
   replace z:=Zah (B':=w.heap.size) z B.size
   replace D:=Zah (B':=w.heap.size) D B.size
   replace A:=Zah (B':=w.heap.size) A B.size
   replace B:=B.grown F B.size (fun k Y=>by cases Y;exact Nat.le_trans R.size L)
   clear F
   refine x.out _ _ (N _ B) (fun a=>?_)
   clear x
   refine tk 4 (.tuple #[.agg #[.int .i64 I,.slice v i.length u,.int .i64 M.p,.int .i64 M.s,.int .i64 M.e,.int .i64 M.d,.int .i64 M.t,.int .i64 M.q,.int .i64 M.r,.slice m c.length n,.slice o f.length l],.bool ok]) (n4 nz) (by kernel_rfl) (Or.inl ⟨by rfl,by intro w E;go_simp⟩) ‹_› ?_
   simp only [Act.put,sit,sc0,scs]
   refine tk 5 (.agg #[.int .i64 I,.slice v i.length u,.int .i64 M.p,.int .i64 M.s,.int .i64 M.e,.int .i64 M.d,.int .i64 M.t,.int .i64 M.q,.int .i64 M.r,.slice m c.length n,.slice o f.length l]) (n4 (n1 nz)) (by kernel_rfl) (Or.inl ⟨by rfl,by intro w E;go_simp⟩) ‹_› ?_
   simp only [Act.put,sit,sc0,scs]
   refine tk 6 (.bool ok) (n4 (n2 nz)) (by kernel_rfl) (Or.inl ⟨by rfl,by intro w E;go_simp⟩) ‹_› ?_
   simp only [Act.put,sit,sc0,scs]
   refine wpAnyH_ready (rs:=[7]) (by kernel_rfl) (by simp) ?_
   refine AllReadyH.cons rfl (fun K x=>?_) AllReadyH.nil
   go_simp
   go_wp2_with fail
   have J:=Zap S (Obj.cells #[.int .i64 0,.slice none 0 0,.int .i64 0,.int .i64 0,.int .i64 0,.int .i64 0,.int .i64 0,.int .i64 0,.int .i64 0,.slice none 0 0,.slice none 0 0] 64)
   have V:w.heap.size <= S.heap.size:=B.size
   have X:(S.alloc (Obj.cells #[.int .i64 0,.slice none 0 0,.int .i64 0,.int .i64 0,.int .i64 0,.int .i64 0,.int .i64 0,.int .i64 0,.int .i64 0,.slice none 0 0,.slice none 0 0] 64)).heap[S.heap.size]? = some (Obj.cells #[.int .i64 0,.slice none 0 0,.int .i64 0,.int .i64 0,.int .i64 0,.int .i64 0,.int .i64 0,.int .i64 0,.int .i64 0,.slice none 0 0,.slice none 0 0] 64):=heap_alloc_new _ _
   generalize S.alloc (Obj.cells #[.int .i64 0,.slice none 0 0,.int .i64 0,.int .i64 0,.int .i64 0,.int .i64 0,.int .i64 0,.int .i64 0,.int .i64 0,.slice none 0 0,.slice none 0 0] 64)=wL at J X ⊢
   replace z:=Zac z J
   replace D:=Zac D J
   replace A:=Zac A J
   replace B:=B.trans (J.mono B.size)
   refine x.out _ _ (N _ B) (fun a=>?_)
   clear x
   refine wpAnyH_ready (rs:=[8]) (by kernel_rfl) (by simp) ?_
   refine AllReadyH.cons rfl (fun K x=>?_) AllReadyH.nil
   rw [if_pos (by rfl)]
   have nAq:=ZaG z X (by decide)
   have nBq:=ZaG D X (by decide)
   have n3:=ZaG A X (by decide)
   refine wp_store_row 64 _ _ rfl (S.heap.size) #[.int .i64 I,.slice v i.length u,.int .i64 M.p,.int .i64 M.s,.int .i64 M.e,.int .i64 M.d,.int .i64 M.t,.int .i64 M.q,.int .i64 M.r,.slice m c.length n,.slice o f.length l] rfl rfl 64 #[.int .i64 0,.slice none 0 0,.int .i64 0,.int .i64 0,.int .i64 0,.int .i64 0,.int .i64 0,.int .i64 0,.int .i64 0,.slice none 0 0,.slice none 0 0] X ZmS rfl (by simp [Value.oneCell']) ?_
   replace B:=below_setRow B (g:=S.heap.size) V #[.int .i64 I,.slice v i.length u,.int .i64 M.p,.int .i64 M.s,.int .i64 M.e,.int .i64 M.d,.int .i64 M.t,.int .i64 M.q,.int .i64 M.r,.slice m c.length n,.slice o f.length l]
   replace z:=ZaE z nAq (fun j H=>setRow_other _ _ j #[.int .i64 I,.slice v i.length u,.int .i64 M.p,.int .i64 M.s,.int .i64 M.e,.int .i64 M.d,.int .i64 M.t,.int .i64 M.q,.int .i64 M.r,.slice m c.length n,.slice o f.length l] H)
   replace D:=ZaE D nBq (fun j H=>setRow_other _ _ j #[.int .i64 I,.slice v i.length u,.int .i64 M.p,.int .i64 M.s,.int .i64 M.e,.int .i64 M.d,.int .i64 M.t,.int .i64 M.q,.int .i64 M.r,.slice m c.length n,.slice o f.length l] H)
   replace A:=ZaE A n3 (fun j H=>setRow_other _ _ j #[.int .i64 I,.slice v i.length u,.int .i64 M.p,.int .i64 M.s,.int .i64 M.e,.int .i64 M.d,.int .i64 M.t,.int .i64 M.q,.int .i64 M.r,.slice m c.length n,.slice o f.length l] H)
   replace X:=setRow_heap _ _ _ #[.int .i64 I,.slice v i.length u,.int .i64 M.p,.int .i64 M.s,.int .i64 M.e,.int .i64 M.d,.int .i64 M.t,.int .i64 M.q,.int .i64 M.r,.slice m c.length n,.slice o f.length l] _ _ X
   refine x.out _ _ (N _ B) (fun a=>?_)
   clear x
   simp only [Act.put]
   refine tk 9 (.bool ok) (n8 (n1 nz)) (by kernel_rfl) (Or.inl ⟨by rfl,by intro w E;go_simp⟩) ‹_› ?_
   simp only [Act.put]
   refine wpAnyH_done (by kernel_rfl) ?_ _
   exact NoPanic.normal (hQ _ _ _ _ _ _ _ (S.heap.size) I i M c f ok v m o u n l _ V B X eT z D A AP)
  ·have ar:=C
   have aa:=y
   go_simp
   go_wp2_with fail
   have J:=Zap U (Obj.cells #[.int .i64 0,.slice none 0 0,.int .i64 0,.int .i64 0,.int .i64 0,.int .i64 0,.int .i64 0,.int .i64 0,.int .i64 0,.slice none 0 0,.slice none 0 0] 64)
   have V:w.heap.size <= U.heap.size:=B.size
   have X:(U.alloc (Obj.cells #[.int .i64 0,.slice none 0 0,.int .i64 0,.int .i64 0,.int .i64 0,.int .i64 0,.int .i64 0,.int .i64 0,.int .i64 0,.slice none 0 0,.slice none 0 0] 64)).heap[U.heap.size]? = some (Obj.cells #[.int .i64 0,.slice none 0 0,.int .i64 0,.int .i64 0,.int .i64 0,.int .i64 0,.int .i64 0,.int .i64 0,.int .i64 0,.slice none 0 0,.slice none 0 0] 64):=heap_alloc_new _ _
   replace y:=y.below J y.lt
   replace C:=C.trans (J.mono C.size)
   generalize U.alloc (Obj.cells #[.int .i64 0,.slice none 0 0,.int .i64 0,.int .i64 0,.int .i64 0,.int .i64 0,.int .i64 0,.int .i64 0,.int .i64 0,.slice none 0 0,.slice none 0 0] 64)=wL at J X y C ⊢
   replace B:=B.trans (J.mono B.size)
   refine x.out _ _ (N _ B) (fun a=>?_)
   clear x
   refine wpAnyH_ready (rs:=[3]) (by kernel_rfl) (by simp) ?_
   refine AllReadyH.cons rfl (fun K x=>?_) AllReadyH.nil
   go_simp
   go_wp2_with (go_at_call 164;with_reducible refine (HC Z O P _ RR R C L y).mono ?_;rintro e S ⟨⟨I,i,M,c,f,ok,y1,y2,y3,eT,rfl,z,D,A,AP⟩,F⟩)
   obtain ⟨v,u,rfl⟩:=Zag z
   obtain ⟨m,n,rfl⟩:=Zag D
   obtain ⟨o,l,rfl⟩:=Zag A
   replace z:=Zah (B':=w.heap.size) z B.size
   replace D:=Zah (B':=w.heap.size) D B.size
   replace A:=Zah (B':=w.heap.size) A B.size
   replace X:=(F.block _ (Zao X) (by simp;have:=aa.lt;omega)).trans X
   replace B:=B.grown F B.size (fun k Y=>by cases Y;exact Nat.le_trans R.size L)
   clear F
   refine x.out _ _ (N _ B) (fun a=>?_)
   clear x
   refine tk 4 (.tuple #[.agg #[.int .i64 I,.slice v i.length u,.int .i64 M.p,.int .i64 M.s,.int .i64 M.e,.int .i64 M.d,.int .i64 M.t,.int .i64 M.q,.int .i64 M.r,.slice m c.length n,.slice o f.length l],.bool ok]) (n4 nz) (by kernel_rfl) (Or.inl ⟨by rfl,by intro w E;go_simp⟩) ‹_› ?_
   simp only [Act.put,sit,sc0,scs]
   refine tk 5 (.agg #[.int .i64 I,.slice v i.length u,.int .i64 M.p,.int .i64 M.s,.int .i64 M.e,.int .i64 M.d,.int .i64 M.t,.int .i64 M.q,.int .i64 M.r,.slice m c.length n,.slice o f.length l]) (n4 (n1 nz)) (by kernel_rfl) (Or.inl ⟨by rfl,by intro w E;go_simp⟩) ‹_› ?_
   simp only [Act.put,sit,sc0,scs]
   refine tk 6 (.bool ok) (n4 (n2 nz)) (by kernel_rfl) (Or.inl ⟨by rfl,by intro w E;go_simp⟩) ‹_› ?_
   simp only [Act.put,sit,sc0,scs]
   refine wpAnyH_ready (rs:=[8]) (by kernel_rfl) (by simp) ?_
   refine AllReadyH.cons rfl (fun K x=>?_) AllReadyH.nil
   rw [if_pos (by rfl)]
   have nAq:=ZaG z X (by decide)
   have nBq:=ZaG D X (by decide)
   have n3:=ZaG A X (by decide)
   refine wp_store_row 64 _ _ rfl (U.heap.size) #[.int .i64 I,.slice v i.length u,.int .i64 M.p,.int .i64 M.s,.int .i64 M.e,.int .i64 M.d,.int .i64 M.t,.int .i64 M.q,.int .i64 M.r,.slice m c.length n,.slice o f.length l] rfl rfl 64 #[.int .i64 0,.slice none 0 0,.int .i64 0,.int .i64 0,.int .i64 0,.int .i64 0,.int .i64 0,.int .i64 0,.int .i64 0,.slice none 0 0,.slice none 0 0] X ZmS rfl (by simp [Value.oneCell']) ?_
   replace B:=below_setRow B (g:=U.heap.size) V #[.int .i64 I,.slice v i.length u,.int .i64 M.p,.int .i64 M.s,.int .i64 M.e,.int .i64 M.d,.int .i64 M.t,.int .i64 M.q,.int .i64 M.r,.slice m c.length n,.slice o f.length l]
   replace z:=ZaE z nAq (fun j H=>setRow_other _ _ j #[.int .i64 I,.slice v i.length u,.int .i64 M.p,.int .i64 M.s,.int .i64 M.e,.int .i64 M.d,.int .i64 M.t,.int .i64 M.q,.int .i64 M.r,.slice m c.length n,.slice o f.length l] H)
   replace D:=ZaE D nBq (fun j H=>setRow_other _ _ j #[.int .i64 I,.slice v i.length u,.int .i64 M.p,.int .i64 M.s,.int .i64 M.e,.int .i64 M.d,.int .i64 M.t,.int .i64 M.q,.int .i64 M.r,.slice m c.length n,.slice o f.length l] H)
   replace A:=ZaE A n3 (fun j H=>setRow_other _ _ j #[.int .i64 I,.slice v i.length u,.int .i64 M.p,.int .i64 M.s,.int .i64 M.e,.int .i64 M.d,.int .i64 M.t,.int .i64 M.q,.int .i64 M.r,.slice m c.length n,.slice o f.length l] H)
   replace X:=setRow_heap _ _ _ #[.int .i64 I,.slice v i.length u,.int .i64 M.p,.int .i64 M.s,.int .i64 M.e,.int .i64 M.d,.int .i64 M.t,.int .i64 M.q,.int .i64 M.r,.slice m c.length n,.slice o f.length l] _ _ X
   refine x.out _ _ (N _ B) (fun a=>?_)
   clear x
   simp only [Act.put]
   refine tk 9 (.bool ok) (n8 (n1 nz)) (by kernel_rfl) (Or.inl ⟨by rfl,by intro w E;go_simp⟩) ‹_› ?_
   simp only [Act.put]
   refine wpAnyH_done (by kernel_rfl) ?_ _
   exact NoPanic.normal (hQ _ _ _ _ _ _ _ (U.heap.size) I i M c f ok v m o u n l _ V B X eT z D A AP)
 ·go_simp
  go_wp2_with fail
  have V:w.heap.size <= w.heap.size:=Nat.le_refl _
  have J:Below w.heap.size w (w.alloc (Obj.cells #[.int .i64 0,.slice none 0 0,.int .i64 0,.int .i64 0,.int .i64 0,.int .i64 0,.int .i64 0,.int .i64 0,.int .i64 0,.slice none 0 0,.slice none 0 0] 64)).drew:=((Below.refl _ _).alloc (Nat.le_refl _) _).drew
  have X:(w.alloc (Obj.cells #[.int .i64 0,.slice none 0 0,.int .i64 0,.int .i64 0,.int .i64 0,.int .i64 0,.int .i64 0,.int .i64 0,.int .i64 0,.slice none 0 0,.slice none 0 0] 64)).drew.heap[w.heap.size]? = some (Obj.cells #[.int .i64 0,.slice none 0 0,.int .i64 0,.int .i64 0,.int .i64 0,.int .i64 0,.int .i64 0,.int .i64 0,.int .i64 0,.slice none 0 0,.slice none 0 0] 64):=heap_alloc_new w _
  generalize (w.alloc (Obj.cells #[.int .i64 0,.slice none 0 0,.int .i64 0,.int .i64 0,.int .i64 0,.int .i64 0,.int .i64 0,.int .i64 0,.int .i64 0,.slice none 0 0,.slice none 0 0] 64)).drew=wL at J X ⊢
  replace B:=J
  clear J
  refine x.out _ _ (N _ B) (fun a=>?_)
  clear x
  have ao:=Zao X
  refine wpAnyH_ready (rs:=[1]) (by kernel_rfl) (by simp) ?_
  refine AllReadyH.cons rfl (fun K x=>?_) AllReadyH.nil
  go_simp
  go_wp2_with (go_at_call 160;with_reducible refine (Za4 s _ hs).mono ?_;rintro e U ⟨Z,O,P,rfl,RR,G,C,L,y⟩)
  have R:=B.trans (G.mono B.size)
  replace B:=R.trans (C.mono R.size)
  replace X:=Zae X (G.trans (C.mono G.size))
  have XP:w.heap.size < O.heap.size:=Nat.lt_of_lt_of_le ao G.size
  clear G
  refine x.out _ _ (N _ B) (fun a=>?_)
  clear x
  refine wpAnyH_ready (rs:=[3]) (by kernel_rfl) (by simp) ?_
  refine AllReadyH.cons rfl (fun K x=>?_) AllReadyH.nil
  go_simp
  go_wp2_with (go_at_call 164;with_reducible refine (HC Z O P _ RR R C L y).mono ?_;rintro e S ⟨⟨I,i,M,c,f,ok,y1,y2,y3,eT,rfl,z,D,A,AP⟩,F⟩)
  obtain ⟨v,u,rfl⟩:=Zag z
  obtain ⟨m,n,rfl⟩:=Zag D
  obtain ⟨o,l,rfl⟩:=Zag A
  replace z:=Zah (B':=w.heap.size) z B.size
  replace D:=Zah (B':=w.heap.size) D B.size
  replace A:=Zah (B':=w.heap.size) A B.size
  replace X:=(F.block _ (Zao X) (by simp;omega)).trans X
  replace B:=B.grown F B.size (fun k Y=>by cases Y;exact Nat.le_trans R.size L)
  clear F
  refine x.out _ _ (N _ B) (fun a=>?_)
  clear x
  refine tk 4 (.tuple #[.agg #[.int .i64 I,.slice v i.length u,.int .i64 M.p,.int .i64 M.s,.int .i64 M.e,.int .i64 M.d,.int .i64 M.t,.int .i64 M.q,.int .i64 M.r,.slice m c.length n,.slice o f.length l],.bool ok]) (n4 nz) (by kernel_rfl) (Or.inl ⟨by rfl,by intro w E;go_simp⟩) ‹_› ?_
  simp only [Act.put,sit,sc0,scs]
  refine tk 5 (.agg #[.int .i64 I,.slice v i.length u,.int .i64 M.p,.int .i64 M.s,.int .i64 M.e,.int .i64 M.d,.int .i64 M.t,.int .i64 M.q,.int .i64 M.r,.slice m c.length n,.slice o f.length l]) (n4 (n1 nz)) (by kernel_rfl) (Or.inl ⟨by rfl,by intro w E;go_simp⟩) ‹_› ?_
  simp only [Act.put,sit,sc0,scs]
  refine tk 6 (.bool ok) (n4 (n2 nz)) (by kernel_rfl) (Or.inl ⟨by rfl,by intro w E;go_simp⟩) ‹_› ?_
  simp only [Act.put,sit,sc0,scs]
  refine wpAnyH_ready (rs:=[8]) (by kernel_rfl) (by simp) ?_
  refine AllReadyH.cons rfl (fun K x=>?_) AllReadyH.nil
  rw [if_pos (by rfl)]
  have nAq:=ZaG z X (by decide)
  have nBq:=ZaG D X (by decide)
  have n3:=ZaG A X (by decide)
  refine wp_store_row 64 _ _ rfl (w.heap.size) #[.int .i64 I,.slice v i.length u,.int .i64 M.p,.int .i64 M.s,.int .i64 M.e,.int .i64 M.d,.int .i64 M.t,.int .i64 M.q,.int .i64 M.r,.slice m c.length n,.slice o f.length l] rfl rfl 64 #[.int .i64 0,.slice none 0 0,.int .i64 0,.int .i64 0,.int .i64 0,.int .i64 0,.int .i64 0,.int .i64 0,.int .i64 0,.slice none 0 0,.slice none 0 0] X ZmS rfl (by simp [Value.oneCell']) ?_
  replace B:=below_setRow B (g:=w.heap.size) V #[.int .i64 I,.slice v i.length u,.int .i64 M.p,.int .i64 M.s,.int .i64 M.e,.int .i64 M.d,.int .i64 M.t,.int .i64 M.q,.int .i64 M.r,.slice m c.length n,.slice o f.length l]
  replace z:=ZaE z nAq (fun j H=>setRow_other _ _ j #[.int .i64 I,.slice v i.length u,.int .i64 M.p,.int .i64 M.s,.int .i64 M.e,.int .i64 M.d,.int .i64 M.t,.int .i64 M.q,.int .i64 M.r,.slice m c.length n,.slice o f.length l] H)
  replace D:=ZaE D nBq (fun j H=>setRow_other _ _ j #[.int .i64 I,.slice v i.length u,.int .i64 M.p,.int .i64 M.s,.int .i64 M.e,.int .i64 M.d,.int .i64 M.t,.int .i64 M.q,.int .i64 M.r,.slice m c.length n,.slice o f.length l] H)
  replace A:=ZaE A n3 (fun j H=>setRow_other _ _ j #[.int .i64 I,.slice v i.length u,.int .i64 M.p,.int .i64 M.s,.int .i64 M.e,.int .i64 M.d,.int .i64 M.t,.int .i64 M.q,.int .i64 M.r,.slice m c.length n,.slice o f.length l] H)
  replace X:=setRow_heap _ _ _ #[.int .i64 I,.slice v i.length u,.int .i64 M.p,.int .i64 M.s,.int .i64 M.e,.int .i64 M.d,.int .i64 M.t,.int .i64 M.q,.int .i64 M.r,.slice m c.length n,.slice o f.length l] _ _ X
  refine x.out _ _ (N _ B) (fun a=>?_)
  clear x
  simp only [Act.put]
  refine tk 9 (.bool ok) (n8 (n1 nz)) (by kernel_rfl) (Or.inl ⟨by rfl,by intro w E;go_simp⟩) ‹_› ?_
  simp only [Act.put]
  refine wpAnyH_done (by kernel_rfl) ?_ _
  exact NoPanic.normal (hQ _ _ _ _ _ _ _ (w.heap.size) I i M c f ok v m o u n l _ V B X eT z D A AP)
def PdT:=Int × List Nd × Mc × List ByteArray × List ByteArray × Bool
def pdT (r:Option (Int × (List Nd × Mc) × List ByteArray × List ByteArray)):Int × List Nd × Mc × List ByteArray × List ByteArray × Bool :=
 match r with
 | none=>(0,[],⟨0,0,0,0,0,0,0⟩,[],[],false)
 | some (i,m,b,o)=>(i,m.1,m.2,b,o,true)
theorem PaAns.zero2 {B:Nat}{r:Option (Int × (List Nd × Mc) × List ByteArray × List ByteArray)}{a:World}(h:r=none):PaAns B (pdT r) (.returned (.tuple #[.agg #[.int .i64 0,.slice none 0 0,.int .i64 0,.int .i64 0,.int .i64 0,.int .i64 0,.int .i64 0,.int .i64 0,.int .i64 0,.slice none 0 0,.slice none 0 0],.bool false])) a:=by
 subst h
 exact ⟨0,[],⟨0,0,0,0,0,0,0⟩,[],[],false,.slice none 0 0,.slice none 0 0,.slice none 0 0,rfl,rfl,⟨by simp [ncs],Or.inl ⟨rfl,rfl⟩⟩,⟨by simp [stv],Or.inl ⟨rfl,rfl⟩⟩,⟨by simp [stv],Or.inl ⟨rfl,rfl⟩⟩,fun g h=>by cases h⟩
theorem ZjM {zs:List Int}{i:Int}{t:ByteArray}{b o:List ByteArray}(h:Zck zs=some (i,t,b,o)):(∀ x ∈ b,x.size <= zs.length)/\(∀ x ∈ o,x.size <= zs.length)/\b.length <= 20/\o.length <= 40:=by
 unfold Zck at h
 rw [Option.bind_eq_some_iff] at h
 obtain ⟨p,_,h⟩:=h
 rw [Option.bind_eq_some_iff] at h
 obtain ⟨e,_,h⟩:=h
 rw [Option.bind_eq_some_iff] at h
 obtain ⟨f,c,h⟩:=h
 rw [Option.bind_eq_some_iff] at h
 obtain ⟨d,a,h⟩:=h
 split at h
 ·simp only [Option.some.injEq,Prod.mk.injEq] at h
  obtain ⟨_,_,rfl,rfl⟩:=h
  exact ⟨(ZeP c).2,(ZeP a).2,(ZcR c).2,(ZcR a).2⟩
 ·cases h
theorem Zi2 {ns:List Nd}{is:List In}{ds:List Df}{zs:List Int}{a:List Nd}{m:Mc}(h:mrR ns is ds zs=some (a,m)):Zas a=true:=by
 unfold mrR at h
 rw [Option.bind_eq_some_iff] at h
 obtain ⟨q,_,h⟩:=h
 rw [Option.bind_eq_some_iff] at h
 obtain ⟨r,_,h⟩:=h
 split at h
 ·rename_i b
  simp only [Option.some.injEq,Prod.mk.injEq] at h
  obtain ⟨rfl,_⟩:=h
  exact (ZbC b.2.1).1
 ·cases h
theorem Zmq {ns:List Nd}{is:List In}{ds:List Df}{zs:List Int}{I:Int}{X:List Nd}{M:Mc}{e f:List ByteArray}{ok:Bool}(h:paT ns is ds (Zck zs)=(I,X,M,e,f,ok)) :
  (ok=false -> pdR ns is ds zs=none)/\(ok=true -> pdR ns is ds zs=if Zbr ns is ds I X M e f then some (I,(X,M),e,f) else none)/\(∀ x ∈ e,x.size <= zs.length)/\(∀ x ∈ f,x.size <= zs.length)/\(X.length <= 3000/\∀ x ∈ X,x.s.size <= maxLen)/\e.length <= 20/\f.length <= 40:=by
 rw [ZlD]
 cases j:Zck zs with
 | none =>
  rw [j] at h
  simp only [paT,Prod.mk.injEq] at h
  obtain ⟨rfl,rfl,rfl,rfl,rfl,rfl⟩:=h
  refine ⟨fun _=>rfl,?_,by simp,by simp,⟨by simp,by simp⟩,by simp,by simp⟩
  intro h
  cases h
 | some q =>
  obtain ⟨i,t,b,o⟩:=q
  obtain ⟨p,l,k,u⟩:=ZjM j
  rw [j] at h
  simp only [paT,Prod.mk.injEq] at h
  obtain ⟨rfl,a,d,rfl,rfl,c⟩:=h
  simp only [Option.bind_some]
  cases g:mrR ns is ds (sb t) with
  | none =>
   rw [g] at a d c
   simp only [mrL,mrM,Option.isSome_none] at a d c
   subst a c
   refine ⟨fun _=>rfl,?_,p,l,⟨by simp,by simp⟩,k,u⟩
   intro h
   cases h
  | some r =>
   obtain ⟨v,m⟩:=r
   have n:=Zi2 g
   rw [g] at a d c
   simp only [mrL,mrM,Option.isSome_some] at a d c
   subst a d c
   refine ⟨?_,fun _=>rfl,p,l,⟨ZaH n,ZbH (ZbO n)⟩,k,u⟩
   intro h
   cases h
def mEnd (zs:List Int)(k p a:Int):Option (Int × Int × ByteArray):=(rt zs a).bind fun t=>if t.2=zs.length then some (k,p,t.1) else none
def mrd (zs:List Int):Option (Int × Int × ByteArray) :=
 (rd1 zs 0).bind fun k=>if k.1=1 then (rd1 zs k.2).bind fun p=>mEnd zs 1 p.1 p.2 else if k.1=2 then mEnd zs 2 0 k.2 else none
def mrA:Option (Int × Int × ByteArray) -> Value
 | none=>.tuple #[.int .i64 0,.int .i64 0,.string ⟨#[]⟩,.bool false]
 | some (k,p,t)=>.tuple #[.int .i64 k,.int .i64 p,.string t,.bool true]
theorem ZaS {b:Func}{t u v x:Tmp}(h:b.results=#[.tmp t,.tmp u,.tmp v,.tmp x])(a:Array Value)(P:Program)(w:World) :
  (results b a).run P w=.ok (.tuple #[a.getD t undef,a.getD u undef,a.getD v undef,a.getD x undef]) w:=by
 simp [results,h]
theorem Zes (zs:List Int)(a:Int):txt8 zs a false=(⟨#[]⟩,a,false):=by simp [txt8]
theorem Zaf {w a:World}{g o B:Nat}{cs:List Value}(h:w.rangeAt g o cs)(d:Below B w a)(c:g < B):a.rangeAt g o cs :=
 fun j v b=>(d.cell (p:=⟨g,o+j,none⟩) c).trans (h j v b)
def Kp (B:Nat)(w w':World):Prop:=w.heap.size <= w'.heap.size/\∀ k,B <= k -> k < w.heap.size -> w'.heap[k]? = w.heap[k]?
theorem Kp.of_below {B:Nat}{w a:World}(h:Below w.heap.size w a):Kp B w a:=⟨h.size,fun k _ b=>h.block k b⟩
theorem Kp.refl (B:Nat)(w:World):Kp B w w:=⟨Nat.le_refl _,fun _ _ _=>rfl⟩
theorem Kp.trans {B:Nat}{a b c:World}(h:Kp B a b)(k:Kp B b c):Kp B a c:=⟨Nat.le_trans h.1 k.1,fun i d e=>(k.2 i d (Nat.lt_of_lt_of_le e h.1)).trans (h.2 i d e)⟩
theorem Kp.mono {B C:Nat}{w a:World}(h:Kp B w a)(d:B <= C):Kp C w a:=⟨h.1,fun k b c=>h.2 k (Nat.le_trans d b) c⟩
theorem Kp.of_grown {B g:Nat}{w a:World}(h:w.grownBy a (some g))(d:g < B):Kp B w a:=⟨h.size,fun k c b=>h.block k b (by simp;omega)⟩
theorem Kp.of_set {B g o:Nat}{w:World}{u:Value}(b:g < B):Kp B w (w.setCell ⟨g,o,none⟩ u):=⟨by simp,fun k a _=>heap_setCell_other w ⟨g,o,none⟩ k u (by show k ≠ g;omega)⟩
theorem Kp.of_oth {B g:Nat}{w a:World}(b:w.heap.size <= a.heap.size)(h:∀ j,j ≠ g -> a.heap[j]? = w.heap[j]?)(d:g < B):Kp B w a:=⟨b,fun k c _=>h k (by omega)⟩
theorem ZkY {w a:World}{g o B:Nat}{cs:List Value}(h:w.rangeAt g o cs)(c:Kp B w a)(d:B <= g)(b:g < w.heap.size):a.rangeAt g o cs :=
 fun j v e=>(World.cell?_of_block (w:=w) (c.2 g d b)).trans (h j v e)
def Stb {α:Type}(E:Nat -> World -> List Value -> α -> Prop):Prop:=(∀ B w w' cs x,E B w cs x -> Kp B w w' -> E B w' cs x)/\∀ B C w cs x,E B w cs x -> C <= B -> E C w cs x
def XRow {α:Type}(B k:Nat)(E:Nat -> World -> List Value -> α -> Prop)(w:World)(v:Value)(xs:List α):Prop :=
 ∃ ao cap,v=.slice ao xs.length cap/\(xs.length <= cap/\(ao=none -> cap=0))/\xs.length <= 9223372036854775807 /\
  (xs ≠ [] -> ∃ g o,ao=some ⟨g,o,none⟩/\B <= g/\g < w.heap.size/\∀ i x,xs[i]? = some x -> ∃ cs,cs.length=k/\w.rangeAt g (o+i * k) cs/\E B w cs x)
theorem XRow.small {α:Type}{B k:Nat}{E:Nat -> World -> List Value -> α -> Prop}{w:World}{v:Value}{c:List α}(R:XRow B k E w v c):∃ b a,v=.slice b c.length a:=by
 obtain ⟨b,a,rfl,_⟩:=R
 exact ⟨b,a,rfl⟩
theorem XRow.kp {α:Type}{B k:Nat}{E:Nat -> World -> List Value -> α -> Prop}{w l:World}{v:Value}{f:List α}(h:XRow B k E w v f)(p:Stb E)(c:Kp B w l):XRow B k E l v f:=by
 obtain ⟨t,d,rfl,s,r,a⟩:=h
 refine ⟨t,d,rfl,s,r,fun b=>?_⟩
 obtain ⟨g,o,rfl,j,e,a⟩:=a b
 refine ⟨g,o,rfl,j,Nat.lt_of_lt_of_le e c.1,fun i x hi=>?_⟩
 obtain ⟨cs,n,m,q⟩:=a i x hi
 exact ⟨cs,n,ZkY m c j e,p.1 _ _ _ _ _ q c⟩
theorem XRow.below {α:Type}{B k:Nat}{E:Nat -> World -> List Value -> α -> Prop}{w a:World}{v:Value}{b:List α}(h:XRow B k E w v b)(c:Stb E)(d:Below w.heap.size w a):XRow B k E a v b:=h.kp c (Kp.of_below d)
theorem XRow.mono {α:Type}{B C k:Nat}{E:Nat -> World -> List Value -> α -> Prop}{w:World}{v:Value}{f:List α}(h:XRow B k E w v f)(l:Stb E)(e:C <= B):XRow C k E w v f:=by
 obtain ⟨s,d,rfl,c,p,a⟩:=h
 refine ⟨s,d,rfl,c,p,fun b=>?_⟩
 obtain ⟨g,o,rfl,r,q,a⟩:=a b
 refine ⟨g,o,rfl,Nat.le_trans e r,q,fun i x hi=>?_⟩
 obtain ⟨cs,m,j,n⟩:=a i x hi
 exact ⟨cs,m,j,l.2 _ _ _ _ _ n e⟩
theorem Zdg {k:Nat}:∀ {css:List (List Value)},(∀ c ∈ css,c.length=k) -> css.flatten.length=css.length * k
 | [],_=>by simp
 | c :: css,h=>by
  rw [List.flatten_cons,List.length_append,Zdg (fun d a=>h d (List.mem_cons_of_mem _ a)),h c (List.mem_cons_self ..),List.length_cons,Nat.succ_mul]
  omega
theorem Zcs {k:Nat}:∀ {css:List (List Value)} {i:Nat} {c:List Value},(∀ c ∈ css,c.length=k) -> css[i]? = some c -> ∀ j,j < k -> css.flatten[i * k+j]? = c[j]?
 | [],_,_,_,h,_,_=>by simp at h
 | d :: css,0,c,hl,h,j,hj=>by
  simp at h
  subst h
  rw [List.flatten_cons,Nat.zero_mul,Nat.zero_add,List.getElem?_append_left (by rw [hl d (List.mem_cons_self ..)];exact hj)]
 | d :: css,i+1,c,hl,h,j,hj=>by
  have a:=hl d (List.mem_cons_self ..)
  rw [List.flatten_cons,List.getElem?_append_right (by rw [a,Nat.succ_mul];omega),a,show (i+1) * k+j - k=i * k+j by rw [Nat.succ_mul];omega]
  exact Zcs (fun e b=>hl e (List.mem_cons_of_mem _ b)) (by simpa using h) j hj
theorem XRow.of_own {α:Type}{k:Nat}{E:Nat -> World -> List Value -> α -> Prop}{w:World}{base:Nat}{v:Value}{t:TypeId}{a:List α}{css:List (List Value)}(h:w.ownsRow base t k v a.length css.flatten)(D:css.length=a.length)(q:∀ c ∈ css,c.length=k)(B:a.length <= 9223372036854775807)(y:∀ (i:Nat) c x,css[i]? = some c -> a[i]? = some x -> E base w c x):XRow base k E w v a:=by
 rcases h.2 with ⟨rfl,s⟩ | ⟨g,m,cur,rfl,A,z,f,C,r,d⟩
 ·have:a=[]:=List.eq_nil_of_length_eq_zero s
  subst this
  exact ⟨none,0,rfl,by simp,by simp,fun h=>absurd rfl h⟩
 ·refine ⟨_,m,rfl,⟨f,fun h=>by cases h⟩,B,fun _=>⟨g,0,rfl,A,(bl z),fun i x hi=>?_⟩⟩
  have l:i < a.length:=(List.getElem?_eq_some_iff.1 hi).1
  have o:css[i]? = some css[i]:=List.getElem?_eq_getElem (by omega)
  have e:=q css[i] (List.getElem_mem _)
  refine ⟨css[i],e,fun j u p=>?_,y i _ x o hi⟩
  have b:j < k:=by have:=(List.getElem?_eq_some_iff.1 p).1;omega
  have n:i * k+j < a.length * k:=by
   have:(i+1) * k <= a.length * k:=Nat.mul_le_mul_right k l
   rw [Nat.succ_mul] at this
   omega
  have:=h.cellAt (i * k+j) n
  rw [Nat.zero_add,this,Zcs q o j b]
  exact p
theorem Zee {base g n d size:Nat}{e:TypeId}:∀ (cs:List Value) (o:Nat) (w:World) (a:List Value),w.ownsRow base e size (.slice (some ⟨g,0,none⟩) n d) n a ->
  ∃ ys,(w.setCells g o cs).ownsRow base e size (.slice (some ⟨g,0,none⟩) n d) n ys/\w.grownBy (w.setCells g o cs) (some g)/\ys.length=a.length/\(∀ j,j < o \/ o+cs.length <= j -> ys[j]? = a[j]?)/\(∀ j u,cs[j]? = some u -> o+j < a.length -> ys[o+j]? = some u)
 | [],o,w,a,h=>⟨a,h,World.grownBy.refl _ _,rfl,fun _ _=>rfl,fun j u h=>by simp at h⟩
 | c :: cs,o,w,a,h=>by
  obtain ⟨k,r⟩:=h.stored o c
  obtain ⟨ys,l,p,m,i,q⟩:=Zee cs (o+1) _ _ k
  refine ⟨ys,l,r.trans p,by rw [m,List.length_set],fun j f=>?_,fun j u f b=>?_⟩
  ·rw [List.length_cons] at f
   rw [i j (by omega),List.getElem?_set_ne (by omega)]
  ·cases j with
   | zero =>
    simp at f
    subst f
    rw [i (o+0) (by omega)]
    simp only [Nat.add_zero] at b ⊢
    rw [List.getElem?_set_self b]
   | succ j =>
    have:=q j u (by simpa using f) (by rw [List.length_set];omega)
    rw [show o+(j+1)=o+1+j by omega]
    exact this
theorem Zbl {P:Program}{ops:Array Oper}{f:List Oper}{op:Oper}{a:Act}{w:World}{Q:Exit -> Act -> World -> Prop}(J:op.guard=none)(o:TypeId)(x y:Operand)(Y:op.op=.store o x y)(base g i p k n:Nat)(css:List (List Value))(cs:List Value)(S:a.eval x=.pointer (some ⟨g,i * k,none⟩))(W:a.eval y=.agg cs.toArray)(G:cs.length=k)(b:∀ c ∈ css,c.length=k)(M:css.length=n)(hi:i < n)(T:∀ v ∈ cs,v.oneCell'=true)(D:(P.info? o).map (·.size)=some k)(d:w.ownsRow base o k (.slice (some ⟨g,0,none⟩) n p) n css.flatten)(h:∀ C:World,C.ownsRow base o k (.slice (some ⟨g,0,none⟩) n p) n (css.set i cs).flatten -> w.grownBy C (some g) -> wpList P ops Q f (a.put op.dst undef) C):wpList P ops Q (op :: f) a w:=by
 have t:(i+1) * k <= n * k:=Nat.mul_le_mul_right k hi
 rw [Nat.succ_mul] at t
 have F:=Zdg b
 rw [M] at F
 have U:w.there g (i * k) cs.toArray.size:=fun j s=>by
  simp at s
  have:=d.cellAt (i * k+j) (by omega)
  refine ⟨?_,d.frozenAt _⟩
  rw [this,List.getElem?_eq_getElem (by omega)]
  rfl
 refine wpList_store_mid J o x y Y g (i * k) _ S W U (by simpa [G] using D) (all_oneCell_toArray T) ?_
 obtain ⟨ys,K,R,h3,X,V⟩:=Zee cs (i * k) w css.flatten d
 have e:∀ c ∈ css.set i cs,c.length=k:=fun c O=>by
  rcases List.mem_or_eq_of_mem_set O with h | h
  ·exact b c h
  ·rw [h];exact G
 have I:ys=(css.set i cs).flatten:=by
  apply List.ext_getElem?
  intro j
  have q:=Zdg e
  rw [List.length_set,M] at q
  by_cases s:j < n * k
  ·have E:0 < k:=by rcases Nat.eq_zero_or_pos k with B | B;subst B;simp at s;exact B
   have Z:j / k < n:=Nat.div_lt_of_lt_mul (by rw [Nat.mul_comm];exact s)
   have A:j % k < k:=Nat.mod_lt _ E
   have l:j / k * k+j % k=j:=by rw [Nat.mul_comm];exact Nat.div_add_mod j k
   by_cases m:j / k=i
   ·have r:=Zcs (css:=css.set i cs) (i:=i) (c:=cs) e (by rw [List.getElem?_set_self (by omega)]) (j % k) A
    rw [m] at l
    rw [<- l,r]
    obtain ⟨u,N⟩:∃ u,cs[j % k]? = some u:=⟨_,List.getElem?_eq_getElem (by omega)⟩
    rw [N]
    exact V _ u N (by omega)
   ·have r:=Zcs (css:=css.set i cs) (i:=j / k) (c:=css[j / k]'(by omega)) e (by rw [List.getElem?_set_ne (by omega)];exact List.getElem?_eq_getElem _) (j % k) A
    have L:=Zcs (css:=css) (i:=j / k) (c:=css[j / k]'(by omega)) b (List.getElem?_eq_getElem _) (j % k) A
    rw [l] at r L
    rw [r,<- L]
    refine X j ?_
    rw [G]
    rcases Nat.lt_or_gt_of_ne m with H | z
    ·left
     have:(j / k+1) * k <= i * k:=Nat.mul_le_mul_right k H
     rw [Nat.succ_mul] at this
     omega
    ·right
     have:(i+1) * k <= j / k * k:=Nat.mul_le_mul_right k z
     rw [Nat.succ_mul] at this
     omega
  ·rw [List.getElem?_eq_none (by omega),List.getElem?_eq_none (by omega)]
 rw [I] at K
 exact h _ K R
theorem ZcO {z:Array Value}{k:Nat}(g:z.size=k)(o:0 < k)(n:Nat):(madeCells z (n * k)).toList=(List.replicate n z.toList).flatten:=by
 have a:∀ c ∈ List.replicate n z.toList,c.length=k:=fun c m=>by rw [List.eq_of_mem_replicate m];simpa using g
 have d:=Zdg a
 rw [List.length_replicate] at d
 apply List.ext_getElem?
 intro j
 by_cases h:j < n * k
 ·have l:j / k < n:=Nat.div_lt_of_lt_mul (by rw [Nat.mul_comm];exact h)
  have p:j % k < k:=Nat.mod_lt _ o
  have f:j / k * k+j % k=j:=by rw [Nat.mul_comm];exact Nat.div_add_mod j k
  have e:=Zcs (css:=List.replicate n z.toList) (i:=j / k) (c:=z.toList) a (by simp [l]) (j % k) p
  rw [f] at e
  rw [e]
  simp [madeCells,h,g]
  have b:j % k < z.size:=by omega
  rw [getElem!_pos z (j % k) b,Array.getElem?_eq_getElem b]
 ·rw [List.getElem?_eq_none (by simp [madeCells];omega),List.getElem?_eq_none (by omega)]
def Fr (B:Nat)(v:Value):Prop:=∀ g,v.ownBlock=some g -> B <= g
theorem Fr.of_own {w:World}{base:Nat}{e:TypeId}{k n:Nat}{v:Value}{l:List Value}(h:w.ownsRow base e k v n l):Fr base v:=fun g a=>(h.lt g a).1
theorem Fr.mono {B C:Nat}{v:Value}(h:Fr B v)(a:C <= B):Fr C v:=fun g b=>Nat.le_trans a (h g b)
theorem Fr.zero (v:Value):Fr 0 v:=fun _ _=>Nat.zero_le _
theorem Zdp {w c:World}{B:Nat}{b:Option Addr}{n a g o:Nat}(f:Kp B w c)(d:Fr B (.slice b n a))(h:b=some ⟨g,o,none⟩)(e:g < w.heap.size):c.heap[g]? = w.heap[g]?:=by
 subst h
 exact f.2 g (d g rfl) e
theorem NRow.kp {w j:World}{v:Value}{f:List Nd}{B:Nat}(R:NRow w v f)(k:Fr B v)(h:Kp B w j):NRow j v f:=by
 obtain ⟨p,c,rfl,n,m,l,a⟩:=R
 refine ⟨p,c,rfl,n,m,l,fun b=>?_⟩
 obtain ⟨g,o,rfl,d,a⟩:=a b
 have e:=Zdp h k rfl d
 refine ⟨g,o,rfl,Nat.lt_of_lt_of_le d h.1,fun i x hi=>?_⟩
 obtain ⟨c0,c1,c2,c3,c4⟩:=a i x hi
 exact ⟨(World.cell?_of_block e).trans c0,(World.cell?_of_block e).trans c1,(World.cell?_of_block e).trans c2,(World.cell?_of_block e).trans c3,(World.cell?_of_block e).trans c4⟩
end Go.Proofs.YtfeodlbpnghakaaGreatDoor
