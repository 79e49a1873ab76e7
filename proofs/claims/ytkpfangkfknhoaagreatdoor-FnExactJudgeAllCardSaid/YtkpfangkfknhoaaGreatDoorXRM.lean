/-
  Texts that stood by themselves, laid into one.
-/
import Derived.Test.YtkpfangkfknhoaaGreatDoorIPd3M
import Derived.Test.YtkpfangkfknhoaaGreatDoorMRgM
import Derived.Test.YtkpfangkfknhoaaGreatDoorMcTM
import Derived.Test.YtkpfangkfknhoaaGreatDoorMark2M
import Derived.Deep.MidRow
import Derived.Deep.AppendLies
import Derived.Deep.RegionLawGrows
import Derived.OneCell
/-
  The contract of impl.ProcRead. The variable errors.errorType reads as it is laid.
-/
set_option maxRecDepth 100000
set_option maxHeartbeats 6400000
namespace Go.Proofs.YtkpfangkfknhoaaGreatDoor
open Go.Proofs.Tryz
open Go.RowKit
theorem Zmc {t0 t3 t4 t5 t6 t7 t8 t9 ak al ao ap an ae ah ai aj ad ab ac aa af ag:Value}{fs:List Deferred}(bc:Nat)(v1 v2 v3:Value)(s:ByteArray)(T:Int × List Nd × Mc × List ByteArray × List ByteArray × Bool)(w:World)(Q:Exit -> Act -> World -> Prop)(Y:w.heap[bc]? = some (.cells #[v1,v2,v3] 44 (0,0)))(hs:s.size <= 140737488351232)(HC:∀ (vr:Value) (R:World) (P:Nat) (W:World),Row R vr (sb s) -> Below w.heap.size w R -> Below R.heap.size R W -> R.heap.size <= P -> One W P 0 -> Calls prog 167 #[.agg #[vr,.pointer (some ⟨P,0,none⟩)],.agg #[v1,v2,v3]] W fun e w'=>PaAns W.heap.size T e w'/\W.grownBy w' (some P))(hQ:∀ u9 u10 u11 u12 u8 u13 u14 (b:Nat) (I:Int) (i:List Nd) (M:Mc) (c f:List ByteArray) (ok:Bool) (v m l:Option Addr) (u n o:Nat) (W:World),w.heap.size <= b -> Below w.heap.size w W -> W.heap[b]? = some (.cells #[.int .i64 I,.slice v i.length u,.int .i64 M.p,.int .i64 M.s,.int .i64 M.e,.int .i64 M.d,.int .i64 M.t,.int .i64 M.q,.int .i64 M.r,.slice m c.length n,.slice l f.length o] 101 (0,0)) -> T=(I,i,M,c,f,ok) -> W.ownsRow w.heap.size 194 5 (.slice v i.length u) i.length (ncs i) -> W.ownsRow w.heap.size 9 1 (.slice m c.length n) c.length (stv c) -> W.ownsRow w.heap.size 9 1 (.slice l f.length o) f.length (stv f) -> (∀ g,(Value.slice l f.length o).ownBlock=some g -> (Value.slice m c.length n).ownBlock ≠ some g) -> Q .normal ⟨#[t0,.string s,.pointer (some ⟨bc,0,none⟩),t3,t4,t5,.pointer (some ⟨b,0,none⟩),.bool ok,u8,u9,u10,u11,u12,u13,u14,ae,ah,ai,aj,ad,ab,ac,aa,af,ag],fs⟩ W) :
  (Code.region 1 (List.toArray (⟨some 9,.move (.tmp 1),9, "l12_proc.go:92", #[],none⟩ :: ⟨some 10,.call { callee:=.value (.func 163),args:=#[.tmp 9],argTypes:=#[9] },231, "l12_proc.go:92", #[⟨0,.data⟩],none⟩ :: ⟨some 11,.load 44 (.tmp 2),44, "l12_proc.go:92", #[],none⟩ :: ⟨some 12,.call { callee:=.value (.func 167),args:=#[.tmp 10,.tmp 11],argTypes:=#[231,44] },152, "l12_proc.go:92", #[⟨1,.data⟩,⟨2,.data⟩,⟨1,.chain⟩],none⟩ :: ⟨some 8,.move (.tmp 12),152, "l12_proc.go:92", #[⟨3,.data⟩],none⟩ :: ⟨some 13,.extract (.tmp 8) 0,101, "l12_proc.go:92", #[⟨4,.data⟩],none⟩ :: ⟨some 14,.extract (.tmp 8) 1,4, "l12_proc.go:92", #[⟨4,.data⟩,{ on:=8,ground:=Ground.gcOnly Departure.lateStores }],none⟩ :: ⟨some 6,.alloc 101,0, "l12_proc.go:92", #[],none⟩ :: ⟨none,.store 101 (.tmp 6) (.tmp 13),0, "l12_proc.go:92", #[⟨7,.data⟩,⟨5,.data⟩,⟨3,.chain⟩,⟨0,.phase⟩,⟨1,.phase⟩,⟨2,.phase⟩,⟨3,.phase⟩,⟨4,.phase⟩,⟨5,.phase⟩,{ on:=6,ground:=Ground.textOnly Departure.lateStores },⟨7,.phase⟩],none⟩ :: ⟨some 7,.assign (.tmp 14),4, "l12_proc.go:92", #[⟨6,.data⟩,⟨8,.chain⟩,⟨0,.phase⟩,⟨1,.phase⟩,⟨2,.phase⟩,⟨3,.phase⟩,⟨4,.phase⟩,⟨5,.phase⟩,⟨6,.phase⟩,⟨7,.phase⟩,⟨8,.phase⟩],none⟩ :: [])) true).wp prog Q ⟨#[t0,.string s,.pointer (some ⟨bc,0,none⟩),t3,t4,t5,t6,t7,t8,t9,ak,al,ao,ap,an,ae,ah,ai,aj,ad,ab,ac,aa,af,ag],fs⟩ w:=by
 unfold PaAns at HC;have N:∀ w',Below w.heap.size w w' -> (w'.heap[bc]? = some (.cells #[v1,v2,v3] 44 (0,0))):=fun w' J=>Zaa Y J
 have B:Below w.heap.size w w.drew:=Zar w;refine rg N B (by kernel_rfl) fun a=>?_
 refine tk 0 (.string s) nz (by kernel_rfl) (Or.inl ⟨by rfl,by intro w E;go_simp⟩) ‹_› ?_;simp only [Act.put,sit,sc0,scs];refine tk 2 (.agg #[v1,v2,v3]) (n2 nz) (by kernel_rfl) (ZaC (by rfl) 44 _ rfl bc rfl #[v1,v2,v3] 44 _ (fun _ h=>h) underlying44 rfl Znw) ‹_› ?_;simp only [Act.put,sit,sc0,scs];refine wpAnyH_ready (rs:=[1,7]) (by kernel_rfl) (by simp) ?_;refine AllReadyH.cons rfl (fun K x=>?_) (AllReadyH.cons rfl (fun K x=>?_) AllReadyH.nil)
 ·go_simp
  go_wp2_with (go_at_call 163;with_reducible refine (Za8 s _ hs).mono ?_;rintro e U ⟨vr,R,P,rfl,RR,H,z,L,y⟩)
  have O:=B.trans (H.mono B.size);replace B:=O.trans (z.mono O.size);clear H;refine x.out _ _ (N _ B) (fun a=>?_);clear x;refine wpAnyH_ready (rs:=[3,7]) (by kernel_rfl) (by simp) ?_;refine AllReadyH.cons rfl (fun K x=>?_) (AllReadyH.cons rfl (fun K x=>?_) AllReadyH.nil)
  ·go_simp
   go_wp2_with (go_at_call 167;with_reducible refine (HC vr R P _ RR O z L y).mono ?_;rintro e S ⟨⟨I,i,M,c,f,ok,y1,y2,y3,eT,rfl,A,D,C,AP⟩,F⟩)
   obtain ⟨v,u,rfl⟩:=Zag A;obtain ⟨m,n,rfl⟩:=Zag D;obtain ⟨l,o,rfl⟩:=Zag C;replace A:=Zah (B':=w.heap.size) A B.size;replace D:=Zah (B':=w.heap.size) D B.size;replace C:=Zah (B':=w.heap.size) C B.size;replace B:=B.grown F B.size (fun k Y=>by cases Y;exact Nat.le_trans O.size L);clear F;refine x.out _ _ (N _ B) (fun a=>?_);clear x;refine tk 4 (.tuple #[.agg #[.int .i64 I,.slice v i.length u,.int .i64 M.p,.int .i64 M.s,.int .i64 M.e,.int .i64 M.d,.int .i64 M.t,.int .i64 M.q,.int .i64 M.r,.slice m c.length n,.slice l f.length o],.bool ok]) (n4 nz) (by kernel_rfl) (Or.inl ⟨by rfl,by intro w E;go_simp⟩) ‹_› ?_;simp only [Act.put,sit,sc0,scs]
   refine tk 5 (.agg #[.int .i64 I,.slice v i.length u,.int .i64 M.p,.int .i64 M.s,.int .i64 M.e,.int .i64 M.d,.int .i64 M.t,.int .i64 M.q,.int .i64 M.r,.slice m c.length n,.slice l f.length o]) (n4 (n1 nz)) (by kernel_rfl) (Or.inl ⟨by rfl,by intro w E;go_simp⟩) ‹_› ?_;simp only [Act.put,sit,sc0,scs];refine tk 6 (.bool ok) (n4 (n2 nz)) (by kernel_rfl) (Or.inl ⟨by rfl,by intro w E;go_simp⟩) ‹_› ?_;simp only [Act.put,sit,sc0,scs];refine wpAnyH_ready (rs:=[7]) (by kernel_rfl) (by simp) ?_;refine AllReadyH.cons rfl (fun K x=>?_) AllReadyH.nil
   go_simp
   go_wp2_with fail;have J:=Zap S (Obj.cells #[.int .i64 0,.slice none 0 0,.int .i64 0,.int .i64 0,.int .i64 0,.int .i64 0,.int .i64 0,.int .i64 0,.int .i64 0,.slice none 0 0,.slice none 0 0] 101);have V:w.heap.size <= S.heap.size:=B.size;have X:(S.alloc (Obj.cells #[.int .i64 0,.slice none 0 0,.int .i64 0,.int .i64 0,.int .i64 0,.int .i64 0,.int .i64 0,.int .i64 0,.int .i64 0,.slice none 0 0,.slice none 0 0] 101)).heap[S.heap.size]? = some (Obj.cells #[.int .i64 0,.slice none 0 0,.int .i64 0,.int .i64 0,.int .i64 0,.int .i64 0,.int .i64 0,.int .i64 0,.int .i64 0,.slice none 0 0,.slice none 0 0] 101):=co _ _;generalize S.alloc (Obj.cells #[.int .i64 0,.slice none 0 0,.int .i64 0,.int .i64 0,.int .i64 0,.int .i64 0,.int .i64 0,.int .i64 0,.int .i64 0,.slice none 0 0,.slice none 0 0] 101)=wL at J X ⊢;replace A:=Zad A J
   replace D:=Zad D J;replace C:=Zad C J;replace B:=B.trans (J.mono B.size);refine x.out _ _ (N _ B) (fun a=>?_);clear x;refine wpAnyH_ready (rs:=[8]) (by kernel_rfl) (by simp) ?_;refine AllReadyH.cons rfl (fun K x=>?_) AllReadyH.nil;rw [if_pos (by rfl)];have nAq:=ZaI A X (by decide);have nBq:=ZaI D X (by decide);have n3:=ZaI C X (by decide);refine wp_store_row 101 _ _ rfl (S.heap.size) #[.int .i64 I,.slice v i.length u,.int .i64 M.p,.int .i64 M.s,.int .i64 M.e,.int .i64 M.d,.int .i64 M.t,.int .i64 M.q,.int .i64 M.r,.slice m c.length n,.slice l f.length o] rfl rfl 101 #[.int .i64 0,.slice none 0 0,.int .i64 0,.int .i64 0,.int .i64 0,.int .i64 0,.int .i64 0,.int .i64 0,.int .i64 0,.slice none 0 0,.slice none 0 0] X Zny rfl (by simp [Value.oneCell']) ?_
   replace B:=below_setRow B (g:=S.heap.size) V #[.int .i64 I,.slice v i.length u,.int .i64 M.p,.int .i64 M.s,.int .i64 M.e,.int .i64 M.d,.int .i64 M.t,.int .i64 M.q,.int .i64 M.r,.slice m c.length n,.slice l f.length o];replace A:=ZaH A nAq (fun j G=>setRow_other _ _ j #[.int .i64 I,.slice v i.length u,.int .i64 M.p,.int .i64 M.s,.int .i64 M.e,.int .i64 M.d,.int .i64 M.t,.int .i64 M.q,.int .i64 M.r,.slice m c.length n,.slice l f.length o] G);replace D:=ZaH D nBq (fun j G=>setRow_other _ _ j #[.int .i64 I,.slice v i.length u,.int .i64 M.p,.int .i64 M.s,.int .i64 M.e,.int .i64 M.d,.int .i64 M.t,.int .i64 M.q,.int .i64 M.r,.slice m c.length n,.slice l f.length o] G)
   replace C:=ZaH C n3 (fun j G=>setRow_other _ _ j #[.int .i64 I,.slice v i.length u,.int .i64 M.p,.int .i64 M.s,.int .i64 M.e,.int .i64 M.d,.int .i64 M.t,.int .i64 M.q,.int .i64 M.r,.slice m c.length n,.slice l f.length o] G);replace X:=setRow_heap _ _ _ #[.int .i64 I,.slice v i.length u,.int .i64 M.p,.int .i64 M.s,.int .i64 M.e,.int .i64 M.d,.int .i64 M.t,.int .i64 M.q,.int .i64 M.r,.slice m c.length n,.slice l f.length o] _ _ X;refine x.out _ _ (N _ B) (fun a=>?_);clear x;simp only [Act.put];refine tk 9 (.bool ok) (n8 (n1 nz)) (by kernel_rfl) (Or.inl ⟨by rfl,by intro w E;go_simp⟩) ‹_› ?_;simp only [Act.put];refine wpAnyH_done (by kernel_rfl) ?_ _;exact NoPanic.normal (hQ _ _ _ _ _ _ _ (S.heap.size) I i M c f ok v m l u n o _ V B X eT A D C AP)
  ·have aq:=z
   have Z:=y
   go_simp
   go_wp2_with fail;have J:=Zap U (Obj.cells #[.int .i64 0,.slice none 0 0,.int .i64 0,.int .i64 0,.int .i64 0,.int .i64 0,.int .i64 0,.int .i64 0,.int .i64 0,.slice none 0 0,.slice none 0 0] 101);have V:w.heap.size <= U.heap.size:=B.size;have X:(U.alloc (Obj.cells #[.int .i64 0,.slice none 0 0,.int .i64 0,.int .i64 0,.int .i64 0,.int .i64 0,.int .i64 0,.int .i64 0,.int .i64 0,.slice none 0 0,.slice none 0 0] 101)).heap[U.heap.size]? = some (Obj.cells #[.int .i64 0,.slice none 0 0,.int .i64 0,.int .i64 0,.int .i64 0,.int .i64 0,.int .i64 0,.int .i64 0,.int .i64 0,.slice none 0 0,.slice none 0 0] 101):=co _ _;replace y:=y.below J y.lt;replace z:=z.trans (J.mono z.size)
   generalize U.alloc (Obj.cells #[.int .i64 0,.slice none 0 0,.int .i64 0,.int .i64 0,.int .i64 0,.int .i64 0,.int .i64 0,.int .i64 0,.int .i64 0,.slice none 0 0,.slice none 0 0] 101)=wL at J X y z ⊢;replace B:=B.trans (J.mono B.size);refine x.out _ _ (N _ B) (fun a=>?_);clear x;refine wpAnyH_ready (rs:=[3]) (by kernel_rfl) (by simp) ?_;refine AllReadyH.cons rfl (fun K x=>?_) AllReadyH.nil
   go_simp
   go_wp2_with (go_at_call 167;with_reducible refine (HC vr R P _ RR O z L y).mono ?_;rintro e S ⟨⟨I,i,M,c,f,ok,y1,y2,y3,eT,rfl,A,D,C,AP⟩,F⟩)
   obtain ⟨v,u,rfl⟩:=Zag A;obtain ⟨m,n,rfl⟩:=Zag D;obtain ⟨l,o,rfl⟩:=Zag C;replace A:=Zah (B':=w.heap.size) A B.size;replace D:=Zah (B':=w.heap.size) D B.size;replace C:=Zah (B':=w.heap.size) C B.size;replace X:=(F.block _ (Zao X) (by simp;have:=Z.lt;omega)).trans X;replace B:=B.grown F B.size (fun k Y=>by cases Y;exact Nat.le_trans O.size L);clear F;refine x.out _ _ (N _ B) (fun a=>?_);clear x;refine tk 4 (.tuple #[.agg #[.int .i64 I,.slice v i.length u,.int .i64 M.p,.int .i64 M.s,.int .i64 M.e,.int .i64 M.d,.int .i64 M.t,.int .i64 M.q,.int .i64 M.r,.slice m c.length n,.slice l f.length o],.bool ok]) (n4 nz) (by kernel_rfl) (Or.inl ⟨by rfl,by intro w E;go_simp⟩) ‹_› ?_;simp only [Act.put,sit,sc0,scs]
   refine tk 5 (.agg #[.int .i64 I,.slice v i.length u,.int .i64 M.p,.int .i64 M.s,.int .i64 M.e,.int .i64 M.d,.int .i64 M.t,.int .i64 M.q,.int .i64 M.r,.slice m c.length n,.slice l f.length o]) (n4 (n1 nz)) (by kernel_rfl) (Or.inl ⟨by rfl,by intro w E;go_simp⟩) ‹_› ?_;simp only [Act.put,sit,sc0,scs];refine tk 6 (.bool ok) (n4 (n2 nz)) (by kernel_rfl) (Or.inl ⟨by rfl,by intro w E;go_simp⟩) ‹_› ?_;simp only [Act.put,sit,sc0,scs];refine wpAnyH_ready (rs:=[8]) (by kernel_rfl) (by simp) ?_;refine AllReadyH.cons rfl (fun K x=>?_) AllReadyH.nil;rw [if_pos (by rfl)];have nAq:=ZaI A X (by decide);have nBq:=ZaI D X (by decide);have n3:=ZaI C X (by decide)
   refine wp_store_row 101 _ _ rfl (U.heap.size) #[.int .i64 I,.slice v i.length u,.int .i64 M.p,.int .i64 M.s,.int .i64 M.e,.int .i64 M.d,.int .i64 M.t,.int .i64 M.q,.int .i64 M.r,.slice m c.length n,.slice l f.length o] rfl rfl 101 #[.int .i64 0,.slice none 0 0,.int .i64 0,.int .i64 0,.int .i64 0,.int .i64 0,.int .i64 0,.int .i64 0,.int .i64 0,.slice none 0 0,.slice none 0 0] X Zny rfl (by simp [Value.oneCell']) ?_;replace B:=below_setRow B (g:=U.heap.size) V #[.int .i64 I,.slice v i.length u,.int .i64 M.p,.int .i64 M.s,.int .i64 M.e,.int .i64 M.d,.int .i64 M.t,.int .i64 M.q,.int .i64 M.r,.slice m c.length n,.slice l f.length o]
   replace A:=ZaH A nAq (fun j G=>setRow_other _ _ j #[.int .i64 I,.slice v i.length u,.int .i64 M.p,.int .i64 M.s,.int .i64 M.e,.int .i64 M.d,.int .i64 M.t,.int .i64 M.q,.int .i64 M.r,.slice m c.length n,.slice l f.length o] G);replace D:=ZaH D nBq (fun j G=>setRow_other _ _ j #[.int .i64 I,.slice v i.length u,.int .i64 M.p,.int .i64 M.s,.int .i64 M.e,.int .i64 M.d,.int .i64 M.t,.int .i64 M.q,.int .i64 M.r,.slice m c.length n,.slice l f.length o] G);replace C:=ZaH C n3 (fun j G=>setRow_other _ _ j #[.int .i64 I,.slice v i.length u,.int .i64 M.p,.int .i64 M.s,.int .i64 M.e,.int .i64 M.d,.int .i64 M.t,.int .i64 M.q,.int .i64 M.r,.slice m c.length n,.slice l f.length o] G)
   replace X:=setRow_heap _ _ _ #[.int .i64 I,.slice v i.length u,.int .i64 M.p,.int .i64 M.s,.int .i64 M.e,.int .i64 M.d,.int .i64 M.t,.int .i64 M.q,.int .i64 M.r,.slice m c.length n,.slice l f.length o] _ _ X;refine x.out _ _ (N _ B) (fun a=>?_);clear x;simp only [Act.put];refine tk 9 (.bool ok) (n8 (n1 nz)) (by kernel_rfl) (Or.inl ⟨by rfl,by intro w E;go_simp⟩) ‹_› ?_;simp only [Act.put];refine wpAnyH_done (by kernel_rfl) ?_ _;exact NoPanic.normal (hQ _ _ _ _ _ _ _ (U.heap.size) I i M c f ok v m l u n o _ V B X eT A D C AP)
 ·go_simp
  go_wp2_with fail;have V:w.heap.size <= w.heap.size:=ce _;have J:Below w.heap.size w (w.alloc (Obj.cells #[.int .i64 0,.slice none 0 0,.int .i64 0,.int .i64 0,.int .i64 0,.int .i64 0,.int .i64 0,.int .i64 0,.int .i64 0,.slice none 0 0,.slice none 0 0] 101)).drew:=((cj _ _).alloc (ce _) _).drew;have X:(w.alloc (Obj.cells #[.int .i64 0,.slice none 0 0,.int .i64 0,.int .i64 0,.int .i64 0,.int .i64 0,.int .i64 0,.int .i64 0,.int .i64 0,.slice none 0 0,.slice none 0 0] 101)).drew.heap[w.heap.size]? = some (Obj.cells #[.int .i64 0,.slice none 0 0,.int .i64 0,.int .i64 0,.int .i64 0,.int .i64 0,.int .i64 0,.int .i64 0,.int .i64 0,.slice none 0 0,.slice none 0 0] 101):=co w _
  generalize (w.alloc (Obj.cells #[.int .i64 0,.slice none 0 0,.int .i64 0,.int .i64 0,.int .i64 0,.int .i64 0,.int .i64 0,.int .i64 0,.int .i64 0,.slice none 0 0,.slice none 0 0] 101)).drew=wL at J X ⊢;replace B:=J;clear J;refine x.out _ _ (N _ B) (fun a=>?_);clear x;have am:=Zao X;refine wpAnyH_ready (rs:=[1]) (by kernel_rfl) (by simp) ?_;refine AllReadyH.cons rfl (fun K x=>?_) AllReadyH.nil
  go_simp
  go_wp2_with (go_at_call 163;with_reducible refine (Za8 s _ hs).mono ?_;rintro e U ⟨vr,R,P,rfl,RR,H,z,L,y⟩)
  have O:=B.trans (H.mono B.size);replace B:=O.trans (z.mono O.size);replace X:=Zaa X (H.trans (z.mono H.size));have XP:w.heap.size < R.heap.size:=cy am H.size;clear H;refine x.out _ _ (N _ B) (fun a=>?_);clear x;refine wpAnyH_ready (rs:=[3]) (by kernel_rfl) (by simp) ?_;refine AllReadyH.cons rfl (fun K x=>?_) AllReadyH.nil
  go_simp
  go_wp2_with (go_at_call 167;with_reducible refine (HC vr R P _ RR O z L y).mono ?_;rintro e S ⟨⟨I,i,M,c,f,ok,y1,y2,y3,eT,rfl,A,D,C,AP⟩,F⟩)
  obtain ⟨v,u,rfl⟩:=Zag A;obtain ⟨m,n,rfl⟩:=Zag D;obtain ⟨l,o,rfl⟩:=Zag C;replace A:=Zah (B':=w.heap.size) A B.size;replace D:=Zah (B':=w.heap.size) D B.size;replace C:=Zah (B':=w.heap.size) C B.size;replace X:=(F.block _ (Zao X) (by simp;omega)).trans X;replace B:=B.grown F B.size (fun k Y=>by cases Y;exact Nat.le_trans O.size L);clear F;refine x.out _ _ (N _ B) (fun a=>?_);clear x;refine tk 4 (.tuple #[.agg #[.int .i64 I,.slice v i.length u,.int .i64 M.p,.int .i64 M.s,.int .i64 M.e,.int .i64 M.d,.int .i64 M.t,.int .i64 M.q,.int .i64 M.r,.slice m c.length n,.slice l f.length o],.bool ok]) (n4 nz) (by kernel_rfl) (Or.inl ⟨by rfl,by intro w E;go_simp⟩) ‹_› ?_;simp only [Act.put,sit,sc0,scs]
  refine tk 5 (.agg #[.int .i64 I,.slice v i.length u,.int .i64 M.p,.int .i64 M.s,.int .i64 M.e,.int .i64 M.d,.int .i64 M.t,.int .i64 M.q,.int .i64 M.r,.slice m c.length n,.slice l f.length o]) (n4 (n1 nz)) (by kernel_rfl) (Or.inl ⟨by rfl,by intro w E;go_simp⟩) ‹_› ?_;simp only [Act.put,sit,sc0,scs];refine tk 6 (.bool ok) (n4 (n2 nz)) (by kernel_rfl) (Or.inl ⟨by rfl,by intro w E;go_simp⟩) ‹_› ?_;simp only [Act.put,sit,sc0,scs];refine wpAnyH_ready (rs:=[8]) (by kernel_rfl) (by simp) ?_;refine AllReadyH.cons rfl (fun K x=>?_) AllReadyH.nil;rw [if_pos (by rfl)];have nAq:=ZaI A X (by decide);have nBq:=ZaI D X (by decide);have n3:=ZaI C X (by decide)
  refine wp_store_row 101 _ _ rfl (w.heap.size) #[.int .i64 I,.slice v i.length u,.int .i64 M.p,.int .i64 M.s,.int .i64 M.e,.int .i64 M.d,.int .i64 M.t,.int .i64 M.q,.int .i64 M.r,.slice m c.length n,.slice l f.length o] rfl rfl 101 #[.int .i64 0,.slice none 0 0,.int .i64 0,.int .i64 0,.int .i64 0,.int .i64 0,.int .i64 0,.int .i64 0,.int .i64 0,.slice none 0 0,.slice none 0 0] X Zny rfl (by simp [Value.oneCell']) ?_;replace B:=below_setRow B (g:=w.heap.size) V #[.int .i64 I,.slice v i.length u,.int .i64 M.p,.int .i64 M.s,.int .i64 M.e,.int .i64 M.d,.int .i64 M.t,.int .i64 M.q,.int .i64 M.r,.slice m c.length n,.slice l f.length o]
  replace A:=ZaH A nAq (fun j G=>setRow_other _ _ j #[.int .i64 I,.slice v i.length u,.int .i64 M.p,.int .i64 M.s,.int .i64 M.e,.int .i64 M.d,.int .i64 M.t,.int .i64 M.q,.int .i64 M.r,.slice m c.length n,.slice l f.length o] G);replace D:=ZaH D nBq (fun j G=>setRow_other _ _ j #[.int .i64 I,.slice v i.length u,.int .i64 M.p,.int .i64 M.s,.int .i64 M.e,.int .i64 M.d,.int .i64 M.t,.int .i64 M.q,.int .i64 M.r,.slice m c.length n,.slice l f.length o] G);replace C:=ZaH C n3 (fun j G=>setRow_other _ _ j #[.int .i64 I,.slice v i.length u,.int .i64 M.p,.int .i64 M.s,.int .i64 M.e,.int .i64 M.d,.int .i64 M.t,.int .i64 M.q,.int .i64 M.r,.slice m c.length n,.slice l f.length o] G)
  replace X:=setRow_heap _ _ _ #[.int .i64 I,.slice v i.length u,.int .i64 M.p,.int .i64 M.s,.int .i64 M.e,.int .i64 M.d,.int .i64 M.t,.int .i64 M.q,.int .i64 M.r,.slice m c.length n,.slice l f.length o] _ _ X;refine x.out _ _ (N _ B) (fun a=>?_);clear x;simp only [Act.put];refine tk 9 (.bool ok) (n8 (n1 nz)) (by kernel_rfl) (Or.inl ⟨by rfl,by intro w E;go_simp⟩) ‹_› ?_;simp only [Act.put];refine wpAnyH_done (by kernel_rfl) ?_ _;exact NoPanic.normal (hQ _ _ _ _ _ _ _ (w.heap.size) I i M c f ok v m l u n o _ V B X eT A D C AP)
def PdT:=Int × List Nd × Mc × List ByteArray × List ByteArray × Bool
def pdT (r:Option (Int × (List Nd × Mc) × List ByteArray × List ByteArray)):Int × List Nd × Mc × List ByteArray × List ByteArray × Bool :=
 match r with
 | none=>(0,[],⟨0,0,0,0,0,0,0⟩,[],[],false)
 | some (i,m,b,o)=>(i,m.1,m.2,b,o,true)
theorem PaAns.zero2 {B:Nat}{r:Option (Int × (List Nd × Mc) × List ByteArray × List ByteArray)}{a:World}(h:r=none):PaAns B (pdT r) (.returned (.tuple #[.agg #[.int .i64 0,.slice none 0 0,.int .i64 0,.int .i64 0,.int .i64 0,.int .i64 0,.int .i64 0,.int .i64 0,.int .i64 0,.slice none 0 0,.slice none 0 0],.bool false])) a:=by
 subst h;exact ⟨0,[],⟨0,0,0,0,0,0,0⟩,[],[],false,.slice none 0 0,.slice none 0 0,.slice none 0 0,rfl,rfl,⟨by simp [ncs],Or.inl ⟨rfl,rfl⟩⟩,⟨by simp [stv],Or.inl ⟨rfl,rfl⟩⟩,⟨by simp [stv],Or.inl ⟨rfl,rfl⟩⟩,fun g h=>by cases h⟩
theorem Zje {zs:List Int}{i:Int}{t:ByteArray}{b o:List ByteArray}(h:Zcp zs=some (i,t,b,o)):(∀ x ∈ b,x.size <= zs.length)/\(∀ x ∈ o,x.size <= zs.length)/\b.length <= 20/\o.length <= 40:=by
 unfold Zcp at h;rw [Option.bind_eq_some_iff] at h;obtain ⟨p,_,h⟩:=h;rw [Option.bind_eq_some_iff] at h;obtain ⟨d,_,h⟩:=h;rw [Option.bind_eq_some_iff] at h;obtain ⟨f,a,h⟩:=h;rw [Option.bind_eq_some_iff] at h;obtain ⟨e,c,h⟩:=h;split at h
 ·simp only [Option.some.injEq,Prod.mk.injEq] at h
  obtain ⟨_,_,rfl,rfl⟩:=h;exact ⟨(Zfb a).2,(Zfb c).2,(Zc2 a).2,(Zc2 c).2⟩
 ·cases h
theorem ZjR {ns:List Nd}{is:List In}{ds:List Df}{zs:List Int}{a:List Nd}{m:Mc}(h:mrR ns is ds zs=some (a,m)):Zau a=true:=by
 unfold mrR at h;rw [Option.bind_eq_some_iff] at h;obtain ⟨q,_,h⟩:=h;rw [Option.bind_eq_some_iff] at h;obtain ⟨r,_,h⟩:=h;split at h
 ·rename_i b
  simp only [Option.some.injEq,Prod.mk.injEq] at h;obtain ⟨rfl,_⟩:=h;exact (ZbD b.2.1).1
 ·cases h
theorem Znd {ns:List Nd}{is:List In}{ds:List Df}{zs:List Int}{I:Int}{X:List Nd}{M:Mc}{e d:List ByteArray}{ok:Bool}(h:paT ns is ds (Zcp zs)=(I,X,M,e,d,ok)) :
  (ok=false -> pdR ns is ds zs=none)/\(ok=true -> pdR ns is ds zs=if Zbr ns is ds I X M e d then some (I,(X,M),e,d) else none)/\(∀ x ∈ e,x.size <= zs.length)/\(∀ x ∈ d,x.size <= zs.length)/\(X.length <= 3000/\∀ x ∈ X,x.s.size <= maxLen)/\e.length <= 20/\d.length <= 40:=by
 rw [Zmn];cases j:Zcp zs with
 | none =>
  rw [j] at h;simp only [paT,Prod.mk.injEq] at h;obtain ⟨rfl,rfl,rfl,rfl,rfl,rfl⟩:=h;refine ⟨fun _=>rfl,?_,by simp,by simp,⟨by simp,by simp⟩,by simp,by simp⟩;intro h;cases h
 | some q =>
  obtain ⟨i,t,b,o⟩:=q;obtain ⟨p,n,l,u⟩:=Zje j;rw [j] at h;simp only [paT,Prod.mk.injEq] at h;obtain ⟨rfl,c,f,rfl,rfl,a⟩:=h;simp only [Option.bind_some];cases g:mrR ns is ds (sb t) with
  | none =>
   rw [g] at c f a;simp only [mrL,mrM,Option.isSome_none] at c f a;subst c a;refine ⟨fun _=>rfl,?_,p,n,⟨by simp,by simp⟩,l,u⟩;intro h;cases h
  | some r =>
   obtain ⟨v,m⟩:=r;have k:=ZjR g;rw [g] at c f a;simp only [mrL,mrM,Option.isSome_some] at c f a;subst c f a;refine ⟨?_,fun _=>rfl,p,n,⟨ZaK k,ZbK (ZbO k)⟩,l,u⟩;intro h;cases h
def mEnd (zs:List Int)(k p a:Int):Option (Int × Int × ByteArray):=(rt zs a).bind fun t=>if t.2=zs.length then some (k,p,t.1) else none
def mrd (zs:List Int):Option (Int × Int × ByteArray) :=
 (rd1 zs 0).bind fun k=>if k.1=1 then (rd1 zs k.2).bind fun p=>mEnd zs 1 p.1 p.2 else if k.1=2 then mEnd zs 2 0 k.2 else none
def mrA:Option (Int × Int × ByteArray) -> Value
 | none=>.tuple #[.int .i64 0,.int .i64 0,.string ⟨#[]⟩,.bool false]
 | some (k,p,t)=>.tuple #[.int .i64 k,.int .i64 p,.string t,.bool true]
theorem ZaR {b:Func}{t u v x:Tmp}(h:b.results=#[.tmp t,.tmp u,.tmp v,.tmp x])(a:Array Value)(P:Program)(w:World) :
  (results b a).run P w=.ok (.tuple #[a.getD t undef,a.getD u undef,a.getD v undef,a.getD x undef]) w:=by
 simp [results,h]
theorem Zer (zs:List Int)(a:Int):txt8 zs a false=(⟨#[]⟩,a,false):=by simp [txt8]
theorem Zaf {w a:World}{g o B:Nat}{cs:List Value}(h:w.rangeAt g o cs)(b:Below B w a)(d:g < B):a.rangeAt g o cs :=
 fun j v c=>(b.cell (p:=⟨g,o+j,none⟩) d).trans (h j v c)
def Kp (B:Nat)(w w':World):Prop:=w.heap.size <= w'.heap.size/\∀ k,B <= k -> k < w.heap.size -> w'.heap[k]? = w.heap[k]?
theorem Kp.of_below {B:Nat}{w a:World}(h:Below w.heap.size w a):Kp B w a:=⟨h.size,fun k _ b=>h.block k b⟩
theorem Kp.refl (B:Nat)(w:World):Kp B w w:=⟨ce _,fun _ _ _=>rfl⟩
theorem Kp.trans {B:Nat}{a b c:World}(h:Kp B a b)(k:Kp B b c):Kp B a c:=⟨Nat.le_trans h.1 k.1,fun i e d=>(k.2 i e (cy d h.1)).trans (h.2 i e d)⟩
theorem Kp.mono {B C:Nat}{w a:World}(h:Kp B w a)(c:B <= C):Kp C w a:=⟨h.1,fun k d b=>h.2 k (Nat.le_trans c d) b⟩
theorem Kp.of_grown {B g:Nat}{w a:World}(h:w.grownBy a (some g))(d:g < B):Kp B w a:=⟨h.size,fun k c b=>h.block k b (by simp;omega)⟩
theorem Kp.of_set {B g o:Nat}{w:World}{u:Value}(b:g < B):Kp B w (w.setCell ⟨g,o,none⟩ u):=⟨by simp,fun k a _=>cr w ⟨g,o,none⟩ k u (by show k ≠ g;omega)⟩
theorem Kp.of_oth {B g:Nat}{w a:World}(b:w.heap.size <= a.heap.size)(h:∀ j,j ≠ g -> a.heap[j]? = w.heap[j]?)(d:g < B):Kp B w a:=⟨b,fun k c _=>h k (by omega)⟩
theorem ZkO {w a:World}{g o B:Nat}{cs:List Value}(h:w.rangeAt g o cs)(c:Kp B w a)(d:B <= g)(e:g < w.heap.size):a.rangeAt g o cs :=
 fun j v b=>(World.cell?_of_block (w:=w) (c.2 g d e)).trans (h j v b)
def Stb {α:Type}(E:Nat -> World -> List Value -> α -> Prop):Prop:=(∀ B w w' cs x,E B w cs x -> Kp B w w' -> E B w' cs x)/\∀ B C w cs x,E B w cs x -> C <= B -> E C w cs x
def XRow {α:Type}(B k:Nat)(E:Nat -> World -> List Value -> α -> Prop)(w:World)(v:Value)(xs:List α):Prop :=
 ∃ ao cap,v=.slice ao xs.length cap/\(xs.length <= cap/\(ao=none -> cap=0))/\xs.length <= 9223372036854775807 /\
  (xs ≠ [] -> ∃ g o,ao=some ⟨g,o,none⟩/\B <= g/\g < w.heap.size/\∀ i x,xs[i]? = some x -> ∃ cs,cs.length=k/\w.rangeAt g (o+i * k) cs/\E B w cs x)
theorem XRow.small {α:Type}{B k:Nat}{E:Nat -> World -> List Value -> α -> Prop}{w:World}{v:Value}{c:List α}(R:XRow B k E w v c):∃ b a,v=.slice b c.length a:=by
 obtain ⟨b,a,rfl,_⟩:=R;exact ⟨b,a,rfl⟩
theorem XRow.kp {α:Type}{B k:Nat}{E:Nat -> World -> List Value -> α -> Prop}{w e:World}{v:Value}{j:List α}(h:XRow B k E w v j)(p:Stb E)(c:Kp B w e):XRow B k E e v j:=by
 obtain ⟨n,d,rfl,s,m,a⟩:=h;refine ⟨n,d,rfl,s,m,fun b=>?_⟩;obtain ⟨g,o,rfl,f,l,a⟩:=a b;refine ⟨g,o,rfl,f,cy l c.1,fun i x hi=>?_⟩;obtain ⟨cs,r,q,t⟩:=a i x hi;exact ⟨cs,r,ZkO q c f l,p.1 _ _ _ _ _ t c⟩
theorem XRow.below {α:Type}{B k:Nat}{E:Nat -> World -> List Value -> α -> Prop}{w a:World}{v:Value}{b:List α}(h:XRow B k E w v b)(c:Stb E)(d:Below w.heap.size w a):XRow B k E a v b:=h.kp c (Kp.of_below d)
theorem XRow.mono {α:Type}{B C k:Nat}{E:Nat -> World -> List Value -> α -> Prop}{w:World}{v:Value}{e:List α}(h:XRow B k E w v e)(m:Stb E)(f:C <= B):XRow C k E w v e:=by
 obtain ⟨l,c,rfl,d,j,a⟩:=h;refine ⟨l,c,rfl,d,j,fun b=>?_⟩;obtain ⟨g,o,rfl,p,r,a⟩:=a b;refine ⟨g,o,rfl,Nat.le_trans f p,r,fun i x hi=>?_⟩;obtain ⟨cs,q,n,s⟩:=a i x hi;exact ⟨cs,q,n,m.2 _ _ _ _ _ s f⟩
theorem Zdk {k:Nat}:∀ {css:List (List Value)},(∀ c ∈ css,c.length=k) -> css.flatten.length=css.length * k
 | [],_=>by simp
 | c :: css,h=>by
  rw [List.flatten_cons,List.length_append,Zdk (fun d a=>h d (List.mem_cons_of_mem _ a)),h c (List.mem_cons_self ..),List.length_cons,Nat.succ_mul];omega
theorem Zcy {k:Nat}:∀ {css:List (List Value)} {i:Nat} {c:List Value},(∀ c ∈ css,c.length=k) -> css[i]? = some c -> ∀ j,j < k -> css.flatten[i * k+j]? = c[j]?
 | [],_,_,_,h,_,_=>by simp at h
 | d :: css,0,c,hl,h,j,hj=>by
  simp at h;subst h;rw [List.flatten_cons,Nat.zero_mul,Nat.zero_add,List.getElem?_append_left (by rw [hl d (List.mem_cons_self ..)];exact hj)]
 | d :: css,i+1,c,hl,h,j,hj=>by
  have a:=hl d (List.mem_cons_self ..);rw [List.flatten_cons,List.getElem?_append_right (by rw [a,Nat.succ_mul];omega),a,show (i+1) * k+j - k=i * k+j by rw [Nat.succ_mul];omega];exact Zcy (fun e b=>hl e (List.mem_cons_of_mem _ b)) (by simpa using h) j hj
theorem XRow.of_own {α:Type}{k:Nat}{E:Nat -> World -> List Value -> α -> Prop}{w:World}{base:Nat}{v:Value}{t:TypeId}{a:List α}{css:List (List Value)}(h:w.ownsRow base t k v a.length css.flatten)(D:css.length=a.length)(p:∀ c ∈ css,c.length=k)(z:a.length <= 9223372036854775807)(r:∀ (i:Nat) c x,css[i]? = some c -> a[i]? = some x -> E base w c x):XRow base k E w v a:=by
 rcases h.2 with ⟨rfl,s⟩ | ⟨g,n,cur,rfl,B,C,l,y,A,b⟩
 ·have:a=[]:=List.eq_nil_of_length_eq_zero s
  subst this;exact ⟨none,0,rfl,by simp,by simp,fun h=>absurd rfl h⟩
 ·refine ⟨_,n,rfl,⟨l,fun h=>by cases h⟩,z,fun _=>⟨g,0,rfl,B,(bl C),fun i x hi=>?_⟩⟩
  have d:i < a.length:=(List.getElem?_eq_some_iff.1 hi).1;have q:css[i]? = some css[i]:=List.getElem?_eq_getElem (by omega);have m:=p css[i] (List.getElem_mem _);refine ⟨css[i],m,fun j u o=>?_,r i _ x q hi⟩;have f:j < k:=by have:=(List.getElem?_eq_some_iff.1 o).1;omega
  have e:i * k+j < a.length * k:=by
   have:(i+1) * k <= a.length * k:=Nat.mul_le_mul_right k d;rw [Nat.succ_mul] at this;omega
  have:=h.cellAt (i * k+j) e;rw [Nat.zero_add,this,Zcy p q j f];exact o
theorem Zes {base g n f size:Nat}{e:TypeId}:∀ (cs:List Value) (o:Nat) (w:World) (a:List Value),w.ownsRow base e size (.slice (some ⟨g,0,none⟩) n f) n a ->
  ∃ ys,(w.setCells g o cs).ownsRow base e size (.slice (some ⟨g,0,none⟩) n f) n ys/\w.grownBy (w.setCells g o cs) (some g)/\ys.length=a.length/\(∀ j,j < o \/ o+cs.length <= j -> ys[j]? = a[j]?)/\(∀ j u,cs[j]? = some u -> o+j < a.length -> ys[o+j]? = some u)
 | [],o,w,a,h=>⟨a,h,World.grownBy.refl _ _,rfl,fun _ _=>rfl,fun j u h=>by simp at h⟩
 | c :: cs,o,w,a,h=>by
  obtain ⟨m,p⟩:=h.stored o c;obtain ⟨ys,l,q,r,i,k⟩:=Zes cs (o+1) _ _ m;refine ⟨ys,l,p.trans q,by rw [r,List.length_set],fun j b=>?_,fun j u b d=>?_⟩
  ·rw [List.length_cons] at b
   rw [i j (by omega),List.getElem?_set_ne (by omega)]
  ·cases j with
   | zero =>
    simp at b;subst b;rw [i (o+0) (by omega)];simp only [Nat.add_zero] at d ⊢;rw [List.getElem?_set_self d]
   | succ j =>
    have:=k j u (by simpa using b) (by rw [List.length_set];omega);rw [show o+(j+1)=o+1+j by omega];exact this
theorem Zbm {P:Program}{ops:Array Oper}{f:List Oper}{op:Oper}{a:Act}{w:World}{Q:Exit -> Act -> World -> Prop}(J:op.guard=none)(p:TypeId)(x y:Operand)(S:op.op=.store p x y)(base g i q k n:Nat)(css:List (List Value))(cs:List Value)(Y:a.eval x=.pointer (some ⟨g,i * k,none⟩))(O:a.eval y=.agg cs.toArray)(z:cs.length=k)(e:∀ c ∈ css,c.length=k)(M:css.length=n)(hi:i < n)(V:∀ v ∈ cs,v.oneCell'=true)(A:(P.info? p).map (·.size)=some k)(d:w.ownsRow base p k (.slice (some ⟨g,0,none⟩) n q) n css.flatten)(h:∀ I:World,I.ownsRow base p k (.slice (some ⟨g,0,none⟩) n q) n (css.set i cs).flatten -> w.grownBy I (some g) -> wpList P ops Q f (a.put op.dst undef) I):wpList P ops Q (op :: f) a w:=by
 have D:(i+1) * k <= n * k:=Nat.mul_le_mul_right k hi;rw [Nat.succ_mul] at D;have F:=Zdk e;rw [M] at F
 have T:w.there g (i * k) cs.toArray.size:=fun j r=>by
  simp at r;have:=d.cellAt (i * k+j) (by omega);refine ⟨?_,d.frozenAt _⟩;rw [this,List.getElem?_eq_getElem (by omega)];rfl
 refine wpList_store_mid J p x y S g (i * k) _ Y O T (by simpa [z] using A) (all_oneCell_toArray V) ?_;obtain ⟨ys,K,U,h3,W,R⟩:=Zes cs (i * k) w css.flatten d
 have b:∀ c ∈ css.set i cs,c.length=k:=fun c X=>by
  rcases List.mem_or_eq_of_mem_set X with h | h
  ·exact e c h
  ·rw [h];exact z
 have G:ys=(css.set i cs).flatten:=by
  apply List.ext_getElem?;intro j;have o:=Zdk b;rw [List.length_set,M] at o
  by_cases r:j < n * k
  ·have H:0 < k:=by rcases Nat.eq_zero_or_pos k with C | C;subst C;simp at r;exact C
   have Z:j / k < n:=Nat.div_lt_of_lt_mul (by rw [Nat.mul_comm];exact r);have B:j % k < k:=Nat.mod_lt _ H;have l:j / k * k+j % k=j:=by rw [Nat.mul_comm];exact Nat.div_add_mod j k
   by_cases m:j / k=i
   ·have s:=Zcy (css:=css.set i cs) (i:=i) (c:=cs) b (by rw [List.getElem?_set_self (by omega)]) (j % k) B
    rw [m] at l;rw [<- l,s];obtain ⟨u,N⟩:∃ u,cs[j % k]? = some u:=⟨_,List.getElem?_eq_getElem (by omega)⟩;rw [N];exact R _ u N (by omega)
   ·have s:=Zcy (css:=css.set i cs) (i:=j / k) (c:=css[j / k]'(by omega)) b (by rw [List.getElem?_set_ne (by omega)];exact List.getElem?_eq_getElem _) (j % k) B
    have L:=Zcy (css:=css) (i:=j / k) (c:=css[j / k]'(by omega)) e (List.getElem?_eq_getElem _) (j % k) B;rw [l] at s L;rw [s,<- L];refine W j ?_;rw [z];rcases Nat.lt_or_gt_of_ne m with E | t
    ·left
     have:(j / k+1) * k <= i * k:=Nat.mul_le_mul_right k E;rw [Nat.succ_mul] at this;omega
    ·right
     have:(i+1) * k <= j / k * k:=Nat.mul_le_mul_right k t;rw [Nat.succ_mul] at this;omega
  ·rw [List.getElem?_eq_none (by omega),List.getElem?_eq_none (by omega)]
 rw [G] at K;exact h _ K U
theorem ZcS {z:Array Value}{k:Nat}(h:z.size=k)(l:0 < k)(n:Nat):(madeCells z (n * k)).toList=(List.replicate n z.toList).flatten:=by
 have a:∀ c ∈ List.replicate n z.toList,c.length=k:=fun c o=>by rw [List.eq_of_mem_replicate o];simpa using h
 have d:=Zdk a;rw [List.length_replicate] at d;apply List.ext_getElem?;intro j
 by_cases g:j < n * k
 ·have p:j / k < n:=Nat.div_lt_of_lt_mul (by rw [Nat.mul_comm];exact g)
  have m:j % k < k:=Nat.mod_lt _ l;have f:j / k * k+j % k=j:=by rw [Nat.mul_comm];exact Nat.div_add_mod j k
  have e:=Zcy (css:=List.replicate n z.toList) (i:=j / k) (c:=z.toList) a (by simp [p]) (j % k) m;rw [f] at e;rw [e];simp [madeCells,g,h];have b:j % k < z.size:=by omega
  rw [getElem!_pos z (j % k) b,Array.getElem?_eq_getElem b]
 ·rw [List.getElem?_eq_none (by simp [madeCells];omega),List.getElem?_eq_none (by omega)]
def Fr (B:Nat)(v:Value):Prop:=∀ g,v.ownBlock=some g -> B <= g
theorem Fr.of_own {w:World}{base:Nat}{e:TypeId}{k n:Nat}{v:Value}{l:List Value}(h:w.ownsRow base e k v n l):Fr base v:=fun g a=>(h.lt g a).1
theorem Fr.mono {B C:Nat}{v:Value}(h:Fr B v)(a:C <= B):Fr C v:=fun g b=>Nat.le_trans a (h g b)
theorem Fr.zero (v:Value):Fr 0 v:=fun _ _=>Nat.zero_le _
theorem ZdG {w b:World}{B:Nat}{c:Option Addr}{n a g o:Nat}(d:Kp B w b)(f:Fr B (.slice c n a))(h:c=some ⟨g,o,none⟩)(e:g < w.heap.size):b.heap[g]? = w.heap[g]?:=by
 subst h;exact d.2 g (f g rfl) e
theorem NRow.kp {w d:World}{v:Value}{h:List Nd}{B:Nat}(R:NRow w v h)(n:Fr B v)(f:Kp B w d):NRow d v h:=by
 obtain ⟨p,c,rfl,m,k,l,a⟩:=R;refine ⟨p,c,rfl,m,k,l,fun b=>?_⟩;obtain ⟨g,o,rfl,j,a⟩:=a b;have e:=ZdG f n rfl j;refine ⟨g,o,rfl,cy j f.1,fun i x hi=>?_⟩;obtain ⟨c0,c1,c2,c3,c4⟩:=a i x hi;exact ⟨(World.cell?_of_block e).trans c0,(World.cell?_of_block e).trans c1,(World.cell?_of_block e).trans c2,(World.cell?_of_block e).trans c3,(World.cell?_of_block e).trans c4⟩
end Go.Proofs.YtkpfangkfknhoaaGreatDoor
