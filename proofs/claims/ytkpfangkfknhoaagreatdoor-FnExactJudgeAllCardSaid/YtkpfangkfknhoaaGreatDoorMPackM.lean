/-
  Texts that stood by themselves, laid into one.
-/
import Derived.Test.YtkpfangkfknhoaaGreatDoorITdM
import Derived.Test.YtkpfangkfknhoaaGreatDoorMark2M
import Derived.Test.YtkpfangkfknhoaaGreatDoorIWire2M
import Derived.Test.YtkpfangkfknhoaaGreatDoorVMoveM
import Derived.Test.YtkpfangkfknhoaaGreatDoorSR8M
/-
  Contracts of spec's l6Copy and Tidy. No condition but that the pool is no greater than a law's.
-/
set_option maxRecDepth 100000
set_option maxHeartbeats 3200000
namespace Go.Proofs.YtkpfangkfknhoaaGreatDoor
open Go.Proofs.Tryz
open Go.RowKit
theorem ZcP (i:Option Addr)(b:Nat)(a:List Nd)(m:Mc)(w:World)(R:NRow w (.slice i a.length b) a)(D:a.length <= 2097152) :
  Calls prog 203 #[.agg #[.slice i a.length b,.int .i64 m.p,.int .i64 m.s,.int .i64 m.e,.int .i64 m.d,.int .i64 m.t,.int .i64 m.q,.int .i64 m.r]] w fun e E=>∃ f c,e=.returned (.agg #[.slice f a.length c,.int .i64 m.p,.int .i64 m.s,.int .i64 m.e,.int .i64 m.d,.int .i64 m.t,.int .i64 m.q,.int .i64 m.r])/\E.ownsRow w.heap.size 194 5 (.slice f a.length c) a.length (ncs a)/\Below w.heap.size w E:=by
 obtain ⟨h,y,z⟩:=Zax w (Obj.cells #[.slice i a.length b,.int .i64 m.p,.int .i64 m.s,.int .i64 m.e,.int .i64 m.d,.int .i64 m.t,.int .i64 m.q,.int .i64 m.r] 99) (Obj.cells #[.slice none 0 0,.int .i64 0,.int .i64 0,.int .i64 0,.int .i64 0,.int .i64 0,.int .i64 0,.int .i64 0] 99)
 go_enter func203,ntmps203
 go_wp2_with fail;have H:((w.alloc (Obj.cells #[.slice i a.length b,.int .i64 m.p,.int .i64 m.s,.int .i64 m.e,.int .i64 m.d,.int .i64 m.t,.int .i64 m.q,.int .i64 m.r] 99)).alloc (Obj.cells #[.slice none 0 0,.int .i64 0,.int .i64 0,.int .i64 0,.int .i64 0,.int .i64 0,.int .i64 0,.int .i64 0] 99)).heap.size=w.heap.size+1+1:=by simp
 generalize (w.alloc (Obj.cells #[.slice i a.length b,.int .i64 m.p,.int .i64 m.s,.int .i64 m.e,.int .i64 m.d,.int .i64 m.t,.int .i64 m.q,.int .i64 m.r] 99)).alloc (Obj.cells #[.slice none 0 0,.int .i64 0,.int .i64 0,.int .i64 0,.int .i64 0,.int .i64 0,.int .i64 0,.int .i64 0] 99)=K at *;refine (ZjK _ a _ (R.below h) (by omega)).mono ?_;rintro e L ⟨I,rfl,k,g⟩;obtain ⟨f,c,rfl⟩:=Zag k;have A:=h.trans (g.mono h.size);have C:=(g.block _ (by omega)).trans y;have v:=(g.block _ (by omega)).trans z
 go_wp2_with (refine Zab rfl 40 _ _ rfl w.heap.size 0 (.agg #[.slice f a.length c]) #[.slice f a.length c] rfl rfl rfl rfl 99 #[.slice i a.length b,.int .i64 m.p,.int .i64 m.s,.int .i64 m.e,.int .i64 m.d,.int .i64 m.t,.int .i64 m.q,.int .i64 m.r] #[.slice f a.length c,.int .i64 m.p,.int .i64 m.s,.int .i64 m.e,.int .i64 m.d,.int .i64 m.t,.int .i64 m.q,.int .i64 m.r] C (by simp) (by kernel_rfl) rfl ?_)
 intro M x o G j;have n:=(j _ (by omega)).trans v
 go_wp2_with (first
  | (refine cE rfl 99 _ rfl w.heap.size rfl 99 #[.slice f a.length c,.int .i64 m.p,.int .i64 m.s,.int .i64 m.e,.int .i64 m.d,.int .i64 m.t,.int .i64 m.q,.int .i64 m.r] (0,0) _ x underlying99 rfl Znz ?_)
  | (refine Zae rfl 99 _ _ rfl (w.heap.size+1) #[.slice f a.length c,.int .i64 m.p,.int .i64 m.s,.int .i64 m.e,.int .i64 m.d,.int .i64 m.t,.int .i64 m.q,.int .i64 m.r] rfl rfl 99 #[.slice none 0 0,.int .i64 0,.int .i64 0,.int .i64 0,.int .i64 0,.int .i64 0,.int .i64 0,.int .i64 0] n Znz rfl (by simp [Value.oneCell']) ?_))
 intro J B l F u;go_wp2;refine cx (results_cell_row rfl _ _ (w.heap.size+1) 99 _ (0,0) _ rfl B underlying99 rfl Znz) rfl ⟨f,c,rfl,?_,(A.trans o).trans (l.mono (by omega))⟩;exact Zah (Zak (Zak k (by omega) j) (by omega) u) (by omega)
theorem Zla (w:World)(a b c:Int):(w.alloc (Obj.cells #[.int .i64 a,.int .i64 b,.int .i64 c] 3)).ownsRow w.heap.size 3 1 (.slice (some ⟨w.heap.size,0,none⟩) 3 3) 3 (iv [a,b,c]) :=
 ⟨by simp [iv],.inr ⟨w.heap.size,3,#[.int .i64 a,.int .i64 b,.int .i64 c],rfl,ce _,co w _,ce _,by unfold maxLen;omega,by simp,by simp [iv]⟩⟩
theorem Zke (v:Value)(b:List Nd)(m:Mc)(w:World)(R:NRow w v b)(bf:b.length <= 2097152) :
  Calls prog 175 #[.agg #[v,.int .i64 m.p,.int .i64 m.s,.int .i64 m.e,.int .i64 m.d,.int .i64 m.t,.int .i64 m.q,.int .i64 m.r]] w fun e w'=>∃ v',e=.returned (.agg #[v',.int .i64 (tdM b m).p,.int .i64 (tdM b m).s,.int .i64 (tdM b m).e,.int .i64 (tdM b m).d,.int .i64 (tdM b m).t,.int .i64 (tdM b m).q,.int .i64 (tdM b m).r])/\w'.ownsRow w.heap.size 194 5 v' (tdL b m).length (ncs (tdL b m))/\Below w.heap.size w w':=by
 have R':=R;obtain ⟨A,j,rfl,_⟩:=R';obtain ⟨i0,hi,bP,bR,bO⟩:=info_parts ZnT;obtain ⟨aL,a7,a2⟩:=Zax w (Obj.cells #[.slice A b.length j,.int .i64 m.p,.int .i64 m.s,.int .i64 m.e,.int .i64 m.d,.int .i64 m.t,.int .i64 m.q,.int .i64 m.r] 99) (Obj.cells #[.slice none 0 0,.int .i64 0,.int .i64 0,.int .i64 0,.int .i64 0,.int .i64 0,.int .i64 0,.int .i64 0] 99);have HT:Hid (tdR m=if argB m then [m.s,m.e,m.d,m.r] else [m.s,m.e,m.d]):=rfl;have bM:((w.alloc (Obj.cells #[.slice A b.length j,.int .i64 m.p,.int .i64 m.s,.int .i64 m.e,.int .i64 m.d,.int .i64 m.t,.int .i64 m.q,.int .i64 m.r] 99)).alloc (Obj.cells #[.slice none 0 0,.int .i64 0,.int .i64 0,.int .i64 0,.int .i64 0,.int .i64 0,.int .i64 0,.int .i64 0] 99)).heap.size=w.heap.size+1+1:=by simp
 obtain ⟨W0,bI⟩:∃ W0,(w.alloc (Obj.cells #[.slice A b.length j,.int .i64 m.p,.int .i64 m.s,.int .i64 m.e,.int .i64 m.d,.int .i64 m.t,.int .i64 m.q,.int .i64 m.r] 99)).alloc (Obj.cells #[.slice none 0 0,.int .i64 0,.int .i64 0,.int .i64 0,.int .i64 0,.int .i64 0,.int .i64 0,.int .i64 0] 99)=W0:=⟨_,rfl⟩;have a4:=Zla W0 m.s m.e m.d;have bd:=(cj W0.heap.size W0).alloc (ce _) (Obj.cells #[.int .i64 m.s,.int .i64 m.e,.int .i64 m.d] 3);rw [bI] at aL a7 a2 bM;rw [bM] at a4;have bc:Hid ((w.alloc (Obj.cells #[.slice A b.length j,.int .i64 m.p,.int .i64 m.s,.int .i64 m.e,.int .i64 m.d,.int .i64 m.t,.int .i64 m.q,.int .i64 m.r] 99)).alloc (Obj.cells #[.slice none 0 0,.int .i64 0,.int .i64 0,.int .i64 0,.int .i64 0,.int .i64 0,.int .i64 0,.int .i64 0] 99)=W0):=bI;clear bI;have bV:w.heap.size+1 < W0.heap.size:=by omega
 have aR:(W0.alloc (Obj.cells #[.int .i64 m.s,.int .i64 m.e,.int .i64 m.d] 3)).heap.size=w.heap.size+1+1+1:=by simp;omega
 have bH:(m.t=1/\argB m=true) \/ (¬ m.t=1/\m.t=2/\argB m=true) \/ (¬ m.t=1/\¬ m.t=2/\argB m=false):=by
  by_cases h1:m.t=1
  ·exact Or.inl ⟨h1,by unfold argB;simp [h1]⟩
  ·by_cases h2:m.t=2
   ·exact Or.inr (Or.inl ⟨h1,h2,by unfold argB;simp [h2]⟩)
   ·exact Or.inr (Or.inr ⟨h1,h2,by unfold argB;simp [h1,h2]⟩)
 rcases bH with ⟨h1,hA⟩ | ⟨h1,h2,hA⟩ | ⟨h1,h2,hA⟩
 ·have T:(m.t == 1)=true:=by simp [h1]
  clear h1;rw [hA] at HT
  go_enter func175,ntmps175
  go_wp2_with (at_builtin;rw [bc.out];refine wpList_append_own _ rfl _ _ 124 rfl (w.heap.size+1+1) 3 i0 (.int .i64 0) 1 8 underlying124 hi bP bR bO rfl (by decide) _ _ _ rfl (a4.alloc _) ⟨w.heap.size+1+1+1,0,none⟩ 1 1 [.int .i64 m.r] rfl rfl (by rw [<- aR];exact cell_one_new _ _ _) (by simp [Value.oneCell']) (by unfold maxLen;omega) (by omega) (by simp;omega) ?_)
  intro vr w1 a6 br _;have T:Below W0.heap.size W0 w1:=((bd.alloc (by simp) (Obj.cells #[.int .i64 m.r] 3)).grown br (by simp;omega) (fun k hk=>by simp only [Value.ownBlock,Option.some.injEq] at hk;omega))
  have L1:IRow w1 vr (tdR m):=by
   rw [HT.out];have bq:w1.ownsRow (w.heap.size+1+1) 3 1 vr [m.s,m.e,m.d,m.r].length (iv [m.s,m.e,m.d,m.r]):=a6;exact IRow.of_own bq (by simp)
  obtain ⟨bT,bS,rfl⟩:=Zag a6;clear a6 br;have af:=aL.trans (T.mono aL.size);have aG:=(T.block _ (by omega)).trans a7;have aA:=(T.block _ (by omega)).trans a2;have aV:=(bl aA);have be:w1.cell? ⟨w.heap.size,0,none⟩=some (.slice A b.length j):=cd w1 _ 0 _ _ _ aG;clear a4 bd bc aR T aL a7 a2;go_wp2_with fail;refine (ZcK _ _ b (tdR m) _ (R.below af) L1).mono ?_;rintro e x ⟨rfl,C⟩;have z:=af.trans (C.mono af.size);have Q:=(C.block _ (by omega)).trans aG;have ag:=(C.block _ aV).trans aA;have ay:=(bl ag);have L2:=L1.below C;have bg:x.cell? ⟨w.heap.size,0,none⟩=some (.slice A b.length j):=cd x _ 0 _ _ _ Q;clear af C aG aA aV L1 be;cases aJ:(allI b (tdR m) && Zau b) with
  | false =>
   have aM:tdOk b m=false:=by unfold tdOk;rw [Bool.and_comm];exact aJ
   have HL:Hid (tdL b m=b):=by unfold Hid tdL;rw [aM];rfl
   have HM:Hid (tdM b m=m):=by unfold Hid tdM;rw [aM];rfl
   go_wp2_with (refine cE rfl 99 _ rfl w.heap.size rfl 99 #[.slice A b.length j,.int .i64 m.p,.int .i64 m.s,.int .i64 m.e,.int .i64 m.d,.int .i64 m.t,.int .i64 m.q,.int .i64 m.r] (0,0) _ Q underlying99 rfl Znz ?_)
   refine (ZcP A j b m _ (R.below z) bf).mono ?_;rintro e w9 ⟨a9,q9,rfl,bw,aU⟩;have bk:=(aU.block _ ay).trans ag;have bo:=z.trans (aU.mono z.size)
   go_wp2_with (refine Zae rfl 99 _ _ rfl (w.heap.size+1) #[.slice a9 b.length q9,.int .i64 m.p,.int .i64 m.s,.int .i64 m.e,.int .i64 m.d,.int .i64 m.t,.int .i64 m.q,.int .i64 m.r] rfl rfl 99 #[.slice none 0 0,.int .i64 0,.int .i64 0,.int .i64 0,.int .i64 0,.int .i64 0,.int .i64 0,.int .i64 0] bk Znz rfl (by simp [Value.oneCell']) ?_)
   intro wB aI ax bx az;go_wp2;refine cx (results_cell_row rfl _ _ (w.heap.size+1) 99 _ (0,0) _ rfl aI underlying99 rfl Znz) rfl ⟨.slice a9 b.length q9,by rw [HM.out],?_,bo.trans (ax.mono (by omega))⟩;rw [HL.out];exact Zah (Zak bw ay az) (by omega)
  | true =>
   have D:=aJ;simp only [Bool.and_eq_true] at D;have aO:tdOk b m=true:=by unfold tdOk;rw [Bool.and_comm];exact aJ
   have HL:Hid (tdL b m=mvN 0 b (tdR m)):=by unfold Hid tdL;rw [aO];rfl
   have HM:Hid (tdM b m=⟨m.p,tdF b m m.s,tdF b m m.e,tdF b m m.d,m.t,m.q,tdF b m m.r⟩):=by unfold Hid tdM;rw [aO,hA];rfl
   have a0:(tdR m).length=4:=by rw [Zgr,hA];rfl
   have HR:Hid (mvR 0 b (tdR m) (tdR m)=(tdR m).map (tdF b m)):=rfl;have bi:=(Below.heap_alloc x (Obj.cells #[.slice A b.length j,.int .i64 m.p,.int .i64 m.s,.int .i64 m.e,.int .i64 m.d,.int .i64 m.t,.int .i64 m.q,.int .i64 m.r] 99) w.heap.size (by omega)).trans Q;have hX:=co x (Obj.cells #[.slice A b.length j,.int .i64 m.p,.int .i64 m.s,.int .i64 m.e,.int .i64 m.d,.int .i64 m.t,.int .i64 m.q,.int .i64 m.r] 99);have ah:=z.alloc z.size (Obj.cells #[.slice A b.length j,.int .i64 m.p,.int .i64 m.s,.int .i64 m.e,.int .i64 m.d,.int .i64 m.t,.int .i64 m.q,.int .i64 m.r] 99);have aX:Below x.heap.size x (x.alloc (Obj.cells #[.slice A b.length j,.int .i64 m.p,.int .i64 m.s,.int .i64 m.e,.int .i64 m.d,.int .i64 m.t,.int .i64 m.q,.int .i64 m.r] 99)):=(cj _ _).alloc (ce _) _;have bA:w.heap.size < x.heap.size:=by omega
   have bh:(x.alloc (Obj.cells #[.slice A b.length j,.int .i64 m.p,.int .i64 m.s,.int .i64 m.e,.int .i64 m.d,.int .i64 m.t,.int .i64 m.q,.int .i64 m.r] 99)).heap.size=x.heap.size+1:=by simp
   go_wp2_with (first
    | (refine cE rfl 99 _ rfl w.heap.size rfl 99 #[.slice A b.length j,.int .i64 m.p,.int .i64 m.s,.int .i64 m.e,.int .i64 m.d,.int .i64 m.t,.int .i64 m.q,.int .i64 m.r] (0,0) _ Q underlying99 rfl Znz ?_)
    | fail)
   refine (Zct A j _ b (tdR m) _ (R.below ah) (L2.below aX) D.2 D.1 (by omega)).mono ?_;rintro e B ⟨v1,v2,rfl,ae,y,ad⟩;rw [HR.out] at y;rw [bh] at ae y;obtain ⟨o,u,rfl⟩:=Zag ae;have aW:0 < (tdR m).length:=by omega
   rcases y.2 with ⟨_,bJ⟩ | ⟨c,q2,bz,e2,bQ,_,_⟩
   ·omega
   subst e2;have aC:=ah.trans (ad.mono ah.size);have aB:=(ad.block _ (by omega)).trans hX;have aF:=(ad.block _ (by omega)).trans ((Below.heap_alloc x _ _ ay).trans ag);have y0:B.cell? ⟨c,0,none⟩=some (.int .i64 (tdF b m m.s)):=(y.cellAt 0 (by omega)).trans (by unfold tdR;rw [hA];rfl);have y1:B.cell? ⟨c,1,none⟩=some (.int .i64 (tdF b m m.e)):=(y.cellAt 1 (by omega)).trans (by unfold tdR;rw [hA];rfl);have y2:B.cell? ⟨c,2,none⟩=some (.int .i64 (tdF b m m.d)):=(y.cellAt 2 (by omega)).trans (by unfold tdR;rw [hA];rfl);have y3:B.cell? ⟨c,3,none⟩=some (.int .i64 (tdF b m m.r)):=(y.cellAt 3 (by omega)).trans (by unfold tdR;rw [hA];rfl);have bp:c < B.heap.size:=World.block_lt_of_cell? _ _ y0;have bm:x.heap.size < B.heap.size:=(bl aB);have bu:w.heap.size+1 < B.heap.size:=(bl aF);generalize tdF b m m.s=Y at *
   generalize tdF b m m.e=fe at *;generalize tdF b m m.d=fd at *;generalize tdF b m m.r=fr at *;have aw:=aC.alloc aC.size (Obj.cells #[.slice o (mvN 0 b (tdR m)).length u] 40);have aT:=(Below.heap_alloc B (Obj.cells #[.slice o (mvN 0 b (tdR m)).length u] 40) _ bm).trans aB;have aZ:=(Below.heap_alloc B (Obj.cells #[.slice o (mvN 0 b (tdR m)).length u] 40) _ bu).trans aF;have aP:=ae.alloc (Obj.cells #[.slice o (mvN 0 b (tdR m)).length u] 40);have keep:∀ (i:Nat),(B.alloc (Obj.cells #[.slice o (mvN 0 b (tdR m)).length u] 40)).cell? ⟨c,i,none⟩=B.cell? ⟨c,i,none⟩:=fun i=>World.cell?_of_block (w:=B) (Below.heap_alloc B _ c bp)
   have aY:=(keep 0).trans y0;have aN:=(keep 1).trans y1;have aQ:=(keep 2).trans y2;have bs:=(keep 3).trans y3;rw [a0];clear keep bg Q ag bi hX ah aX ad y ae aC aB aF a0 aW L2 z y0 y1 y2 y3
   go_wp2_with (refine Zab rfl 40 _ _ rfl x.heap.size 0 (.agg #[.slice o (mvN 0 b (tdR m)).length u]) #[.slice o (mvN 0 b (tdR m)).length u] rfl rfl rfl rfl 99 #[.slice A b.length j,.int .i64 m.p,.int .i64 m.s,.int .i64 m.e,.int .i64 m.d,.int .i64 m.t,.int .i64 m.q,.int .i64 m.r] #[.slice o (mvN 0 b (tdR m)).length u,.int .i64 m.p,.int .i64 m.s,.int .i64 m.e,.int .i64 m.d,.int .i64 m.t,.int .i64 m.q,.int .i64 m.r] aT (by simp) (by kernel_rfl) rfl ?_)
   intro wA an am bB l;have aq:=(l _ (by omega)).trans aZ;have ar:=aw.trans (am.mono (by omega));have al:=Zak aP (by omega) l;have ap:=(World.cell?_of_block (a:=⟨c,0,none⟩) (l c (by omega))).trans aY;have av:=(World.cell?_of_block (a:=⟨c,1,none⟩) (l c (by omega))).trans aN;have au:=(World.cell?_of_block (a:=⟨c,2,none⟩) (l c (by omega))).trans aQ;have aS:=(World.cell?_of_block (a:=⟨c,3,none⟩) (l c (by omega))).trans bs;clear aZ aP aY aN aQ bs aT l am aw
   go_wp2_with (refine Zab rfl 3 _ _ rfl x.heap.size 2 (.int .i64 Y) #[.int .i64 Y] rfl rfl rfl rfl 99 #[.slice o (mvN 0 b (tdR m)).length u,.int .i64 m.p,.int .i64 m.s,.int .i64 m.e,.int .i64 m.d,.int .i64 m.t,.int .i64 m.q,.int .i64 m.r] #[.slice o (mvN 0 b (tdR m)).length u,.int .i64 m.p,.int .i64 Y,.int .i64 m.e,.int .i64 m.d,.int .i64 m.t,.int .i64 m.q,.int .i64 m.r] an (by simp) (by kernel_rfl) rfl ?_)
   intro bL U W bt f;have J:=(f _ (by omega)).trans aq;have F:=ar.trans (W.mono (by omega));have I:=Zak al (by omega) f;have X:=(World.cell?_of_block (a:=⟨c,0,none⟩) (f c (by omega))).trans ap;have H:=(World.cell?_of_block (a:=⟨c,1,none⟩) (f c (by omega))).trans av;have V:=(World.cell?_of_block (a:=⟨c,2,none⟩) (f c (by omega))).trans au;have aH:=(World.cell?_of_block (a:=⟨c,3,none⟩) (f c (by omega))).trans aS;clear aq al ap av au aS an ar W f
   go_wp2_with (refine Zab rfl 3 _ _ rfl x.heap.size 3 (.int .i64 fe) #[.int .i64 fe] rfl rfl rfl rfl 99 #[.slice o (mvN 0 b (tdR m)).length u,.int .i64 m.p,.int .i64 Y,.int .i64 m.e,.int .i64 m.d,.int .i64 m.t,.int .i64 m.q,.int .i64 m.r] #[.slice o (mvN 0 b (tdR m)).length u,.int .i64 m.p,.int .i64 Y,.int .i64 fe,.int .i64 m.d,.int .i64 m.t,.int .i64 m.q,.int .i64 m.r] U (by simp) (by kernel_rfl) rfl ?_)
   intro bN K L bn g;have G:=(g _ (by omega)).trans J;have P:=F.trans (L.mono (by omega));have S:=Zak I (by omega) g;have O:=(World.cell?_of_block (a:=⟨c,0,none⟩) (g c (by omega))).trans X;have E:=(World.cell?_of_block (a:=⟨c,1,none⟩) (g c (by omega))).trans H;have M:=(World.cell?_of_block (a:=⟨c,2,none⟩) (g c (by omega))).trans V;have aD:=(World.cell?_of_block (a:=⟨c,3,none⟩) (g c (by omega))).trans aH;clear J I X H V aH U F L g
   go_wp2_with (refine Zab rfl 3 _ _ rfl x.heap.size 4 (.int .i64 fd) #[.int .i64 fd] rfl rfl rfl rfl 99 #[.slice o (mvN 0 b (tdR m)).length u,.int .i64 m.p,.int .i64 Y,.int .i64 fe,.int .i64 m.d,.int .i64 m.t,.int .i64 m.q,.int .i64 m.r] #[.slice o (mvN 0 b (tdR m)).length u,.int .i64 m.p,.int .i64 Y,.int .i64 fe,.int .i64 fd,.int .i64 m.t,.int .i64 m.q,.int .i64 m.r] K (by simp) (by kernel_rfl) rfl ?_)
   intro bK Z N bj h;have ab:=(h _ (by omega)).trans G;have aa:=P.trans (N.mono (by omega));have ac:=Zak S (by omega) h;have ak:=(World.cell?_of_block (a:=⟨c,0,none⟩) (h c (by omega))).trans O;have aj:=(World.cell?_of_block (a:=⟨c,1,none⟩) (h c (by omega))).trans E;have ai:=(World.cell?_of_block (a:=⟨c,2,none⟩) (h c (by omega))).trans M;have aE:=(World.cell?_of_block (a:=⟨c,3,none⟩) (h c (by omega))).trans aD;clear G S O E M aD K P N h
   go_wp2_with (refine Zab rfl 3 _ _ rfl x.heap.size 7 (.int .i64 fr) #[.int .i64 fr] rfl rfl rfl rfl 99 #[.slice o (mvN 0 b (tdR m)).length u,.int .i64 m.p,.int .i64 Y,.int .i64 fe,.int .i64 fd,.int .i64 m.t,.int .i64 m.q,.int .i64 m.r] #[.slice o (mvN 0 b (tdR m)).length u,.int .i64 m.p,.int .i64 Y,.int .i64 fe,.int .i64 fd,.int .i64 m.t,.int .i64 m.q,.int .i64 fr] Z (by simp) (by kernel_rfl) rfl ?_)
   intro bU ba aK bC n;have a5:=(n _ (by omega)).trans ab;have a3:=aa.trans (aK.mono (by omega));have a8:=Zak ac (by omega) n;have bF:=(World.cell?_of_block (a:=⟨c,0,none⟩) (n c (by omega))).trans ak;have bD:=(World.cell?_of_block (a:=⟨c,1,none⟩) (n c (by omega))).trans aj;have bE:=(World.cell?_of_block (a:=⟨c,2,none⟩) (n c (by omega))).trans ai;have bG:=(World.cell?_of_block (a:=⟨c,3,none⟩) (n c (by omega))).trans aE;clear ab ac ak aj ai aE Z aa aK n
   go_wp2_with (first
    | (refine cE rfl 99 _ rfl x.heap.size rfl 99 #[.slice o (mvN 0 b (tdR m)).length u,.int .i64 m.p,.int .i64 Y,.int .i64 fe,.int .i64 fd,.int .i64 m.t,.int .i64 m.q,.int .i64 fr] (0,0) _ ba underlying99 rfl Znz ?_)
    | (refine Zae rfl 99 _ _ rfl (w.heap.size+1) #[.slice o (mvN 0 b (tdR m)).length u,.int .i64 m.p,.int .i64 Y,.int .i64 fe,.int .i64 fd,.int .i64 m.t,.int .i64 m.q,.int .i64 fr] rfl rfl 99 #[.slice none 0 0,.int .i64 0,.int .i64 0,.int .i64 0,.int .i64 0,.int .i64 0,.int .i64 0,.int .i64 0] a5 Znz rfl (by simp [Value.oneCell']) ?_))
   intro wB aI ax bx az;go_wp2;refine cx (results_cell_row rfl _ _ (w.heap.size+1) 99 _ (0,0) _ rfl aI underlying99 rfl Znz) rfl ⟨.slice o (mvN 0 b (tdR m)).length u,by rw [HM.out],?_,a3.trans (ax.mono (by omega))⟩;rw [HL.out];exact Zah (Zak a8 (by omega) az) (by omega)
 ·have T:(m.t == 1)=false:=by simp [h1]
  have C:(m.t == 2)=true:=by simp [h2]
  clear h1 h2;rw [hA] at HT
  go_enter func175,ntmps175
  go_wp2_with (at_builtin;rw [bc.out];refine wpList_append_own _ rfl _ _ 124 rfl (w.heap.size+1+1) 3 i0 (.int .i64 0) 1 8 underlying124 hi bP bR bO rfl (by decide) _ _ _ rfl (a4.alloc _) ⟨w.heap.size+1+1+1,0,none⟩ 1 1 [.int .i64 m.r] rfl rfl (by rw [<- aR];exact cell_one_new _ _ _) (by simp [Value.oneCell']) (by unfold maxLen;omega) (by omega) (by simp;omega) ?_)
  intro vr w1 a6 br _;have T:Below W0.heap.size W0 w1:=((bd.alloc (by simp) (Obj.cells #[.int .i64 m.r] 3)).grown br (by simp;omega) (fun k hk=>by simp only [Value.ownBlock,Option.some.injEq] at hk;omega))
  have L1:IRow w1 vr (tdR m):=by
   rw [HT.out];have bq:w1.ownsRow (w.heap.size+1+1) 3 1 vr [m.s,m.e,m.d,m.r].length (iv [m.s,m.e,m.d,m.r]):=a6;exact IRow.of_own bq (by simp)
  obtain ⟨bT,bS,rfl⟩:=Zag a6;clear a6 br;have af:=aL.trans (T.mono aL.size);have aG:=(T.block _ (by omega)).trans a7;have aA:=(T.block _ (by omega)).trans a2;have aV:=(bl aA);have be:w1.cell? ⟨w.heap.size,0,none⟩=some (.slice A b.length j):=cd w1 _ 0 _ _ _ aG;clear a4 bd bc aR T aL a7 a2;go_wp2_with fail;refine (ZcK _ _ b (tdR m) _ (R.below af) L1).mono ?_;rintro e x ⟨rfl,C⟩;have z:=af.trans (C.mono af.size);have Q:=(C.block _ (by omega)).trans aG;have ag:=(C.block _ aV).trans aA;have ay:=(bl ag);have L2:=L1.below C;have bg:x.cell? ⟨w.heap.size,0,none⟩=some (.slice A b.length j):=cd x _ 0 _ _ _ Q;clear af C aG aA aV L1 be;cases aJ:(allI b (tdR m) && Zau b) with
  | false =>
   have aM:tdOk b m=false:=by unfold tdOk;rw [Bool.and_comm];exact aJ
   have HL:Hid (tdL b m=b):=by unfold Hid tdL;rw [aM];rfl
   have HM:Hid (tdM b m=m):=by unfold Hid tdM;rw [aM];rfl
   go_wp2_with (refine cE rfl 99 _ rfl w.heap.size rfl 99 #[.slice A b.length j,.int .i64 m.p,.int .i64 m.s,.int .i64 m.e,.int .i64 m.d,.int .i64 m.t,.int .i64 m.q,.int .i64 m.r] (0,0) _ Q underlying99 rfl Znz ?_)
   refine (ZcP A j b m _ (R.below z) bf).mono ?_;rintro e w9 ⟨a9,q9,rfl,bw,aU⟩;have bk:=(aU.block _ ay).trans ag;have bo:=z.trans (aU.mono z.size)
   go_wp2_with (refine Zae rfl 99 _ _ rfl (w.heap.size+1) #[.slice a9 b.length q9,.int .i64 m.p,.int .i64 m.s,.int .i64 m.e,.int .i64 m.d,.int .i64 m.t,.int .i64 m.q,.int .i64 m.r] rfl rfl 99 #[.slice none 0 0,.int .i64 0,.int .i64 0,.int .i64 0,.int .i64 0,.int .i64 0,.int .i64 0,.int .i64 0] bk Znz rfl (by simp [Value.oneCell']) ?_)
   intro wB aI ax bx az;go_wp2;refine cx (results_cell_row rfl _ _ (w.heap.size+1) 99 _ (0,0) _ rfl aI underlying99 rfl Znz) rfl ⟨.slice a9 b.length q9,by rw [HM.out],?_,bo.trans (ax.mono (by omega))⟩;rw [HL.out];exact Zah (Zak bw ay az) (by omega)
  | true =>
   have D:=aJ;simp only [Bool.and_eq_true] at D;have aO:tdOk b m=true:=by unfold tdOk;rw [Bool.and_comm];exact aJ
   have HL:Hid (tdL b m=mvN 0 b (tdR m)):=by unfold Hid tdL;rw [aO];rfl
   have HM:Hid (tdM b m=⟨m.p,tdF b m m.s,tdF b m m.e,tdF b m m.d,m.t,m.q,tdF b m m.r⟩):=by unfold Hid tdM;rw [aO,hA];rfl
   have a0:(tdR m).length=4:=by rw [Zgr,hA];rfl
   have HR:Hid (mvR 0 b (tdR m) (tdR m)=(tdR m).map (tdF b m)):=rfl;have bi:=(Below.heap_alloc x (Obj.cells #[.slice A b.length j,.int .i64 m.p,.int .i64 m.s,.int .i64 m.e,.int .i64 m.d,.int .i64 m.t,.int .i64 m.q,.int .i64 m.r] 99) w.heap.size (by omega)).trans Q;have hX:=co x (Obj.cells #[.slice A b.length j,.int .i64 m.p,.int .i64 m.s,.int .i64 m.e,.int .i64 m.d,.int .i64 m.t,.int .i64 m.q,.int .i64 m.r] 99);have ah:=z.alloc z.size (Obj.cells #[.slice A b.length j,.int .i64 m.p,.int .i64 m.s,.int .i64 m.e,.int .i64 m.d,.int .i64 m.t,.int .i64 m.q,.int .i64 m.r] 99);have aX:Below x.heap.size x (x.alloc (Obj.cells #[.slice A b.length j,.int .i64 m.p,.int .i64 m.s,.int .i64 m.e,.int .i64 m.d,.int .i64 m.t,.int .i64 m.q,.int .i64 m.r] 99)):=(cj _ _).alloc (ce _) _;have bA:w.heap.size < x.heap.size:=by omega
   have bh:(x.alloc (Obj.cells #[.slice A b.length j,.int .i64 m.p,.int .i64 m.s,.int .i64 m.e,.int .i64 m.d,.int .i64 m.t,.int .i64 m.q,.int .i64 m.r] 99)).heap.size=x.heap.size+1:=by simp
   go_wp2_with (first
    | (refine cE rfl 99 _ rfl w.heap.size rfl 99 #[.slice A b.length j,.int .i64 m.p,.int .i64 m.s,.int .i64 m.e,.int .i64 m.d,.int .i64 m.t,.int .i64 m.q,.int .i64 m.r] (0,0) _ Q underlying99 rfl Znz ?_)
    | fail)
   refine (Zct A j _ b (tdR m) _ (R.below ah) (L2.below aX) D.2 D.1 (by omega)).mono ?_;rintro e B ⟨v1,v2,rfl,ae,y,ad⟩;rw [HR.out] at y;rw [bh] at ae y;obtain ⟨o,u,rfl⟩:=Zag ae;have aW:0 < (tdR m).length:=by omega
   rcases y.2 with ⟨_,bJ⟩ | ⟨c,q2,bz,e2,bQ,_,_⟩
   ·omega
   subst e2;have aC:=ah.trans (ad.mono ah.size);have aB:=(ad.block _ (by omega)).trans hX;have aF:=(ad.block _ (by omega)).trans ((Below.heap_alloc x _ _ ay).trans ag);have y0:B.cell? ⟨c,0,none⟩=some (.int .i64 (tdF b m m.s)):=(y.cellAt 0 (by omega)).trans (by unfold tdR;rw [hA];rfl);have y1:B.cell? ⟨c,1,none⟩=some (.int .i64 (tdF b m m.e)):=(y.cellAt 1 (by omega)).trans (by unfold tdR;rw [hA];rfl);have y2:B.cell? ⟨c,2,none⟩=some (.int .i64 (tdF b m m.d)):=(y.cellAt 2 (by omega)).trans (by unfold tdR;rw [hA];rfl);have y3:B.cell? ⟨c,3,none⟩=some (.int .i64 (tdF b m m.r)):=(y.cellAt 3 (by omega)).trans (by unfold tdR;rw [hA];rfl);have bp:c < B.heap.size:=World.block_lt_of_cell? _ _ y0;have bm:x.heap.size < B.heap.size:=(bl aB);have bu:w.heap.size+1 < B.heap.size:=(bl aF);generalize tdF b m m.s=Y at *
   generalize tdF b m m.e=fe at *;generalize tdF b m m.d=fd at *;generalize tdF b m m.r=fr at *;have aw:=aC.alloc aC.size (Obj.cells #[.slice o (mvN 0 b (tdR m)).length u] 40);have aT:=(Below.heap_alloc B (Obj.cells #[.slice o (mvN 0 b (tdR m)).length u] 40) _ bm).trans aB;have aZ:=(Below.heap_alloc B (Obj.cells #[.slice o (mvN 0 b (tdR m)).length u] 40) _ bu).trans aF;have aP:=ae.alloc (Obj.cells #[.slice o (mvN 0 b (tdR m)).length u] 40);have keep:∀ (i:Nat),(B.alloc (Obj.cells #[.slice o (mvN 0 b (tdR m)).length u] 40)).cell? ⟨c,i,none⟩=B.cell? ⟨c,i,none⟩:=fun i=>World.cell?_of_block (w:=B) (Below.heap_alloc B _ c bp)
   have aY:=(keep 0).trans y0;have aN:=(keep 1).trans y1;have aQ:=(keep 2).trans y2;have bs:=(keep 3).trans y3;rw [a0];clear keep bg Q ag bi hX ah aX ad y ae aC aB aF a0 aW L2 z y0 y1 y2 y3
   go_wp2_with (refine Zab rfl 40 _ _ rfl x.heap.size 0 (.agg #[.slice o (mvN 0 b (tdR m)).length u]) #[.slice o (mvN 0 b (tdR m)).length u] rfl rfl rfl rfl 99 #[.slice A b.length j,.int .i64 m.p,.int .i64 m.s,.int .i64 m.e,.int .i64 m.d,.int .i64 m.t,.int .i64 m.q,.int .i64 m.r] #[.slice o (mvN 0 b (tdR m)).length u,.int .i64 m.p,.int .i64 m.s,.int .i64 m.e,.int .i64 m.d,.int .i64 m.t,.int .i64 m.q,.int .i64 m.r] aT (by simp) (by kernel_rfl) rfl ?_)
   intro wA an am bB l;have aq:=(l _ (by omega)).trans aZ;have ar:=aw.trans (am.mono (by omega));have al:=Zak aP (by omega) l;have ap:=(World.cell?_of_block (a:=⟨c,0,none⟩) (l c (by omega))).trans aY;have av:=(World.cell?_of_block (a:=⟨c,1,none⟩) (l c (by omega))).trans aN;have au:=(World.cell?_of_block (a:=⟨c,2,none⟩) (l c (by omega))).trans aQ;have aS:=(World.cell?_of_block (a:=⟨c,3,none⟩) (l c (by omega))).trans bs;clear aZ aP aY aN aQ bs aT l am aw
   go_wp2_with (refine Zab rfl 3 _ _ rfl x.heap.size 2 (.int .i64 Y) #[.int .i64 Y] rfl rfl rfl rfl 99 #[.slice o (mvN 0 b (tdR m)).length u,.int .i64 m.p,.int .i64 m.s,.int .i64 m.e,.int .i64 m.d,.int .i64 m.t,.int .i64 m.q,.int .i64 m.r] #[.slice o (mvN 0 b (tdR m)).length u,.int .i64 m.p,.int .i64 Y,.int .i64 m.e,.int .i64 m.d,.int .i64 m.t,.int .i64 m.q,.int .i64 m.r] an (by simp) (by kernel_rfl) rfl ?_)
   intro bL U W bt f;have J:=(f _ (by omega)).trans aq;have F:=ar.trans (W.mono (by omega));have I:=Zak al (by omega) f;have X:=(World.cell?_of_block (a:=⟨c,0,none⟩) (f c (by omega))).trans ap;have H:=(World.cell?_of_block (a:=⟨c,1,none⟩) (f c (by omega))).trans av;have V:=(World.cell?_of_block (a:=⟨c,2,none⟩) (f c (by omega))).trans au;have aH:=(World.cell?_of_block (a:=⟨c,3,none⟩) (f c (by omega))).trans aS;clear aq al ap av au aS an ar W f
   go_wp2_with (refine Zab rfl 3 _ _ rfl x.heap.size 3 (.int .i64 fe) #[.int .i64 fe] rfl rfl rfl rfl 99 #[.slice o (mvN 0 b (tdR m)).length u,.int .i64 m.p,.int .i64 Y,.int .i64 m.e,.int .i64 m.d,.int .i64 m.t,.int .i64 m.q,.int .i64 m.r] #[.slice o (mvN 0 b (tdR m)).length u,.int .i64 m.p,.int .i64 Y,.int .i64 fe,.int .i64 m.d,.int .i64 m.t,.int .i64 m.q,.int .i64 m.r] U (by simp) (by kernel_rfl) rfl ?_)
   intro bN K L bn g;have G:=(g _ (by omega)).trans J;have P:=F.trans (L.mono (by omega));have S:=Zak I (by omega) g;have O:=(World.cell?_of_block (a:=⟨c,0,none⟩) (g c (by omega))).trans X;have E:=(World.cell?_of_block (a:=⟨c,1,none⟩) (g c (by omega))).trans H;have M:=(World.cell?_of_block (a:=⟨c,2,none⟩) (g c (by omega))).trans V;have aD:=(World.cell?_of_block (a:=⟨c,3,none⟩) (g c (by omega))).trans aH;clear J I X H V aH U F L g
   go_wp2_with (refine Zab rfl 3 _ _ rfl x.heap.size 4 (.int .i64 fd) #[.int .i64 fd] rfl rfl rfl rfl 99 #[.slice o (mvN 0 b (tdR m)).length u,.int .i64 m.p,.int .i64 Y,.int .i64 fe,.int .i64 m.d,.int .i64 m.t,.int .i64 m.q,.int .i64 m.r] #[.slice o (mvN 0 b (tdR m)).length u,.int .i64 m.p,.int .i64 Y,.int .i64 fe,.int .i64 fd,.int .i64 m.t,.int .i64 m.q,.int .i64 m.r] K (by simp) (by kernel_rfl) rfl ?_)
   intro bK Z N bj h;have ab:=(h _ (by omega)).trans G;have aa:=P.trans (N.mono (by omega));have ac:=Zak S (by omega) h;have ak:=(World.cell?_of_block (a:=⟨c,0,none⟩) (h c (by omega))).trans O;have aj:=(World.cell?_of_block (a:=⟨c,1,none⟩) (h c (by omega))).trans E;have ai:=(World.cell?_of_block (a:=⟨c,2,none⟩) (h c (by omega))).trans M;have aE:=(World.cell?_of_block (a:=⟨c,3,none⟩) (h c (by omega))).trans aD;clear G S O E M aD K P N h
   go_wp2_with (refine Zab rfl 3 _ _ rfl x.heap.size 7 (.int .i64 fr) #[.int .i64 fr] rfl rfl rfl rfl 99 #[.slice o (mvN 0 b (tdR m)).length u,.int .i64 m.p,.int .i64 Y,.int .i64 fe,.int .i64 fd,.int .i64 m.t,.int .i64 m.q,.int .i64 m.r] #[.slice o (mvN 0 b (tdR m)).length u,.int .i64 m.p,.int .i64 Y,.int .i64 fe,.int .i64 fd,.int .i64 m.t,.int .i64 m.q,.int .i64 fr] Z (by simp) (by kernel_rfl) rfl ?_)
   intro bU ba aK bC n;have a5:=(n _ (by omega)).trans ab;have a3:=aa.trans (aK.mono (by omega));have a8:=Zak ac (by omega) n;have bF:=(World.cell?_of_block (a:=⟨c,0,none⟩) (n c (by omega))).trans ak;have bD:=(World.cell?_of_block (a:=⟨c,1,none⟩) (n c (by omega))).trans aj;have bE:=(World.cell?_of_block (a:=⟨c,2,none⟩) (n c (by omega))).trans ai;have bG:=(World.cell?_of_block (a:=⟨c,3,none⟩) (n c (by omega))).trans aE;clear ab ac ak aj ai aE Z aa aK n
   go_wp2_with (first
    | (refine cE rfl 99 _ rfl x.heap.size rfl 99 #[.slice o (mvN 0 b (tdR m)).length u,.int .i64 m.p,.int .i64 Y,.int .i64 fe,.int .i64 fd,.int .i64 m.t,.int .i64 m.q,.int .i64 fr] (0,0) _ ba underlying99 rfl Znz ?_)
    | (refine Zae rfl 99 _ _ rfl (w.heap.size+1) #[.slice o (mvN 0 b (tdR m)).length u,.int .i64 m.p,.int .i64 Y,.int .i64 fe,.int .i64 fd,.int .i64 m.t,.int .i64 m.q,.int .i64 fr] rfl rfl 99 #[.slice none 0 0,.int .i64 0,.int .i64 0,.int .i64 0,.int .i64 0,.int .i64 0,.int .i64 0,.int .i64 0] a5 Znz rfl (by simp [Value.oneCell']) ?_))
   intro wB aI ax bx az;go_wp2;refine cx (results_cell_row rfl _ _ (w.heap.size+1) 99 _ (0,0) _ rfl aI underlying99 rfl Znz) rfl ⟨.slice o (mvN 0 b (tdR m)).length u,by rw [HM.out],?_,a3.trans (ax.mono (by omega))⟩;rw [HL.out];exact Zah (Zak a8 (by omega) az) (by omega)
 ·have T:(m.t == 1)=false:=by simp [h1]
  have C:(m.t == 2)=false:=by simp [h2]
  clear h1 h2;rw [hA] at HT
  go_enter func175,ntmps175
  have L1:IRow (W0.alloc (Obj.cells #[.int .i64 m.s,.int .i64 m.e,.int .i64 m.d] 3)) (.slice (some ⟨w.heap.size+1+1,0,none⟩) 3 3) (tdR m):=by
   rw [HT.out];exact IRow.of_own (zs:=[m.s,m.e,m.d]) a4 (by simp)
  have T:=bd;go_wp2_with fail;rw [bc.out];generalize W0.alloc (Obj.cells #[.int .i64 m.s,.int .i64 m.e,.int .i64 m.d] 3)=w1 at *;have af:=aL.trans (T.mono aL.size);have aG:=(T.block _ (by omega)).trans a7;have aA:=(T.block _ (by omega)).trans a2;have aV:=(bl aA);have be:w1.cell? ⟨w.heap.size,0,none⟩=some (.slice A b.length j):=cd w1 _ 0 _ _ _ aG;clear a4 bd bc aR T aL a7 a2;refine (ZcK _ _ b (tdR m) _ (R.below af) L1).mono ?_;rintro e x ⟨rfl,C⟩;have z:=af.trans (C.mono af.size);have Q:=(C.block _ (by omega)).trans aG;have ag:=(C.block _ aV).trans aA;have ay:=(bl ag);have L2:=L1.below C;have bg:x.cell? ⟨w.heap.size,0,none⟩=some (.slice A b.length j):=cd x _ 0 _ _ _ Q;clear af C aG aA aV L1 be;cases aJ:(allI b (tdR m) && Zau b) with
  | false =>
   have aM:tdOk b m=false:=by unfold tdOk;rw [Bool.and_comm];exact aJ
   have HL:Hid (tdL b m=b):=by unfold Hid tdL;rw [aM];rfl
   have HM:Hid (tdM b m=m):=by unfold Hid tdM;rw [aM];rfl
   go_wp2_with (refine cE rfl 99 _ rfl w.heap.size rfl 99 #[.slice A b.length j,.int .i64 m.p,.int .i64 m.s,.int .i64 m.e,.int .i64 m.d,.int .i64 m.t,.int .i64 m.q,.int .i64 m.r] (0,0) _ Q underlying99 rfl Znz ?_)
   refine (ZcP A j b m _ (R.below z) bf).mono ?_;rintro e w9 ⟨a9,q9,rfl,bw,aU⟩;have bk:=(aU.block _ ay).trans ag;have bo:=z.trans (aU.mono z.size)
   go_wp2_with (refine Zae rfl 99 _ _ rfl (w.heap.size+1) #[.slice a9 b.length q9,.int .i64 m.p,.int .i64 m.s,.int .i64 m.e,.int .i64 m.d,.int .i64 m.t,.int .i64 m.q,.int .i64 m.r] rfl rfl 99 #[.slice none 0 0,.int .i64 0,.int .i64 0,.int .i64 0,.int .i64 0,.int .i64 0,.int .i64 0,.int .i64 0] bk Znz rfl (by simp [Value.oneCell']) ?_)
   intro wB aI ax bx az;go_wp2;refine cx (results_cell_row rfl _ _ (w.heap.size+1) 99 _ (0,0) _ rfl aI underlying99 rfl Znz) rfl ⟨.slice a9 b.length q9,by rw [HM.out],?_,bo.trans (ax.mono (by omega))⟩;rw [HL.out];exact Zah (Zak bw ay az) (by omega)
  | true =>
   have D:=aJ;simp only [Bool.and_eq_true] at D;have aO:tdOk b m=true:=by unfold tdOk;rw [Bool.and_comm];exact aJ
   have HL:Hid (tdL b m=mvN 0 b (tdR m)):=by unfold Hid tdL;rw [aO];rfl
   have HM:Hid (tdM b m=⟨m.p,tdF b m m.s,tdF b m m.e,tdF b m m.d,m.t,m.q,m.r⟩):=by unfold Hid tdM;rw [aO,hA];rfl
   have a0:(tdR m).length=3:=by rw [Zgr,hA];rfl
   have HR:Hid (mvR 0 b (tdR m) (tdR m)=(tdR m).map (tdF b m)):=rfl;have bi:=(Below.heap_alloc x (Obj.cells #[.slice A b.length j,.int .i64 m.p,.int .i64 m.s,.int .i64 m.e,.int .i64 m.d,.int .i64 m.t,.int .i64 m.q,.int .i64 m.r] 99) w.heap.size (by omega)).trans Q;have hX:=co x (Obj.cells #[.slice A b.length j,.int .i64 m.p,.int .i64 m.s,.int .i64 m.e,.int .i64 m.d,.int .i64 m.t,.int .i64 m.q,.int .i64 m.r] 99);have ah:=z.alloc z.size (Obj.cells #[.slice A b.length j,.int .i64 m.p,.int .i64 m.s,.int .i64 m.e,.int .i64 m.d,.int .i64 m.t,.int .i64 m.q,.int .i64 m.r] 99);have aX:Below x.heap.size x (x.alloc (Obj.cells #[.slice A b.length j,.int .i64 m.p,.int .i64 m.s,.int .i64 m.e,.int .i64 m.d,.int .i64 m.t,.int .i64 m.q,.int .i64 m.r] 99)):=(cj _ _).alloc (ce _) _;have bA:w.heap.size < x.heap.size:=by omega
   have bh:(x.alloc (Obj.cells #[.slice A b.length j,.int .i64 m.p,.int .i64 m.s,.int .i64 m.e,.int .i64 m.d,.int .i64 m.t,.int .i64 m.q,.int .i64 m.r] 99)).heap.size=x.heap.size+1:=by simp
   go_wp2_with (first
    | (refine cE rfl 99 _ rfl w.heap.size rfl 99 #[.slice A b.length j,.int .i64 m.p,.int .i64 m.s,.int .i64 m.e,.int .i64 m.d,.int .i64 m.t,.int .i64 m.q,.int .i64 m.r] (0,0) _ Q underlying99 rfl Znz ?_)
    | fail)
   refine (Zct A j _ b (tdR m) _ (R.below ah) (L2.below aX) D.2 D.1 (by omega)).mono ?_;rintro e B ⟨v1,v2,rfl,ae,y,ad⟩;rw [HR.out] at y;rw [bh] at ae y;obtain ⟨o,u,rfl⟩:=Zag ae;have aW:0 < (tdR m).length:=by omega
   rcases y.2 with ⟨_,bJ⟩ | ⟨c,q2,bz,e2,bQ,_,_⟩
   ·omega
   subst e2;have aC:=ah.trans (ad.mono ah.size);have aB:=(ad.block _ (by omega)).trans hX;have aF:=(ad.block _ (by omega)).trans ((Below.heap_alloc x _ _ ay).trans ag);have y0:B.cell? ⟨c,0,none⟩=some (.int .i64 (tdF b m m.s)):=(y.cellAt 0 (by omega)).trans (by unfold tdR;rw [hA];rfl);have y1:B.cell? ⟨c,1,none⟩=some (.int .i64 (tdF b m m.e)):=(y.cellAt 1 (by omega)).trans (by unfold tdR;rw [hA];rfl);have y2:B.cell? ⟨c,2,none⟩=some (.int .i64 (tdF b m m.d)):=(y.cellAt 2 (by omega)).trans (by unfold tdR;rw [hA];rfl);have bp:c < B.heap.size:=World.block_lt_of_cell? _ _ y0;have bm:x.heap.size < B.heap.size:=(bl aB);have bu:w.heap.size+1 < B.heap.size:=(bl aF);generalize tdF b m m.s=Y at *;generalize tdF b m m.e=fe at *;generalize tdF b m m.d=fd at *;have aw:=aC.alloc aC.size (Obj.cells #[.slice o (mvN 0 b (tdR m)).length u] 40)
   have aT:=(Below.heap_alloc B (Obj.cells #[.slice o (mvN 0 b (tdR m)).length u] 40) _ bm).trans aB;have aZ:=(Below.heap_alloc B (Obj.cells #[.slice o (mvN 0 b (tdR m)).length u] 40) _ bu).trans aF;have aP:=ae.alloc (Obj.cells #[.slice o (mvN 0 b (tdR m)).length u] 40);have keep:∀ (i:Nat),(B.alloc (Obj.cells #[.slice o (mvN 0 b (tdR m)).length u] 40)).cell? ⟨c,i,none⟩=B.cell? ⟨c,i,none⟩:=fun i=>World.cell?_of_block (w:=B) (Below.heap_alloc B _ c bp)
   have aY:=(keep 0).trans y0;have aN:=(keep 1).trans y1;have aQ:=(keep 2).trans y2;rw [a0];clear keep bg Q ag bi hX ah aX ad y ae aC aB aF a0 aW L2 z y0 y1 y2
   go_wp2_with (refine Zab rfl 40 _ _ rfl x.heap.size 0 (.agg #[.slice o (mvN 0 b (tdR m)).length u]) #[.slice o (mvN 0 b (tdR m)).length u] rfl rfl rfl rfl 99 #[.slice A b.length j,.int .i64 m.p,.int .i64 m.s,.int .i64 m.e,.int .i64 m.d,.int .i64 m.t,.int .i64 m.q,.int .i64 m.r] #[.slice o (mvN 0 b (tdR m)).length u,.int .i64 m.p,.int .i64 m.s,.int .i64 m.e,.int .i64 m.d,.int .i64 m.t,.int .i64 m.q,.int .i64 m.r] aT (by simp) (by kernel_rfl) rfl ?_)
   intro wA an am bB l;have aq:=(l _ (by omega)).trans aZ;have ar:=aw.trans (am.mono (by omega));have al:=Zak aP (by omega) l;have ap:=(World.cell?_of_block (a:=⟨c,0,none⟩) (l c (by omega))).trans aY;have av:=(World.cell?_of_block (a:=⟨c,1,none⟩) (l c (by omega))).trans aN;have au:=(World.cell?_of_block (a:=⟨c,2,none⟩) (l c (by omega))).trans aQ;clear aZ aP aY aN aQ aT l am aw
   go_wp2_with (refine Zab rfl 3 _ _ rfl x.heap.size 2 (.int .i64 Y) #[.int .i64 Y] rfl rfl rfl rfl 99 #[.slice o (mvN 0 b (tdR m)).length u,.int .i64 m.p,.int .i64 m.s,.int .i64 m.e,.int .i64 m.d,.int .i64 m.t,.int .i64 m.q,.int .i64 m.r] #[.slice o (mvN 0 b (tdR m)).length u,.int .i64 m.p,.int .i64 Y,.int .i64 m.e,.int .i64 m.d,.int .i64 m.t,.int .i64 m.q,.int .i64 m.r] an (by simp) (by kernel_rfl) rfl ?_)
   intro bL U W bt f;have J:=(f _ (by omega)).trans aq;have F:=ar.trans (W.mono (by omega));have I:=Zak al (by omega) f;have X:=(World.cell?_of_block (a:=⟨c,0,none⟩) (f c (by omega))).trans ap;have H:=(World.cell?_of_block (a:=⟨c,1,none⟩) (f c (by omega))).trans av;have V:=(World.cell?_of_block (a:=⟨c,2,none⟩) (f c (by omega))).trans au;clear aq al ap av au an ar W f
   go_wp2_with (refine Zab rfl 3 _ _ rfl x.heap.size 3 (.int .i64 fe) #[.int .i64 fe] rfl rfl rfl rfl 99 #[.slice o (mvN 0 b (tdR m)).length u,.int .i64 m.p,.int .i64 Y,.int .i64 m.e,.int .i64 m.d,.int .i64 m.t,.int .i64 m.q,.int .i64 m.r] #[.slice o (mvN 0 b (tdR m)).length u,.int .i64 m.p,.int .i64 Y,.int .i64 fe,.int .i64 m.d,.int .i64 m.t,.int .i64 m.q,.int .i64 m.r] U (by simp) (by kernel_rfl) rfl ?_)
   intro bN K L bn g;have G:=(g _ (by omega)).trans J;have P:=F.trans (L.mono (by omega));have S:=Zak I (by omega) g;have O:=(World.cell?_of_block (a:=⟨c,0,none⟩) (g c (by omega))).trans X;have E:=(World.cell?_of_block (a:=⟨c,1,none⟩) (g c (by omega))).trans H;have M:=(World.cell?_of_block (a:=⟨c,2,none⟩) (g c (by omega))).trans V;clear J I X H V U F L g
   go_wp2_with (refine Zab rfl 3 _ _ rfl x.heap.size 4 (.int .i64 fd) #[.int .i64 fd] rfl rfl rfl rfl 99 #[.slice o (mvN 0 b (tdR m)).length u,.int .i64 m.p,.int .i64 Y,.int .i64 fe,.int .i64 m.d,.int .i64 m.t,.int .i64 m.q,.int .i64 m.r] #[.slice o (mvN 0 b (tdR m)).length u,.int .i64 m.p,.int .i64 Y,.int .i64 fe,.int .i64 fd,.int .i64 m.t,.int .i64 m.q,.int .i64 m.r] K (by simp) (by kernel_rfl) rfl ?_)
   intro bK Z N bj h;have ab:=(h _ (by omega)).trans G;have aa:=P.trans (N.mono (by omega));have ac:=Zak S (by omega) h;have ak:=(World.cell?_of_block (a:=⟨c,0,none⟩) (h c (by omega))).trans O;have aj:=(World.cell?_of_block (a:=⟨c,1,none⟩) (h c (by omega))).trans E;have ai:=(World.cell?_of_block (a:=⟨c,2,none⟩) (h c (by omega))).trans M;clear G S O E M K P N h
   go_wp2_with (first
    | (refine cE rfl 99 _ rfl x.heap.size rfl 99 #[.slice o (mvN 0 b (tdR m)).length u,.int .i64 m.p,.int .i64 Y,.int .i64 fe,.int .i64 fd,.int .i64 m.t,.int .i64 m.q,.int .i64 m.r] (0,0) _ Z underlying99 rfl Znz ?_)
    | (refine Zae rfl 99 _ _ rfl (w.heap.size+1) #[.slice o (mvN 0 b (tdR m)).length u,.int .i64 m.p,.int .i64 Y,.int .i64 fe,.int .i64 fd,.int .i64 m.t,.int .i64 m.q,.int .i64 m.r] rfl rfl 99 #[.slice none 0 0,.int .i64 0,.int .i64 0,.int .i64 0,.int .i64 0,.int .i64 0,.int .i64 0,.int .i64 0] ab Znz rfl (by simp [Value.oneCell']) ?_))
   intro wB aI ax bx az;go_wp2;refine cx (results_cell_row rfl _ _ (w.heap.size+1) 99 _ (0,0) _ rfl aI underlying99 rfl Znz) rfl ⟨.slice o (mvN 0 b (tdR m)).length u,by rw [HM.out],?_,aa.trans (ax.mono (by omega))⟩;rw [HL.out];exact Zah (Zak ac (by omega) az) (by omega)
def mpN (M:Mc):List Int:=[M.p,M.t,M.q,M.s,M.e,M.d,M.r]
def mpL (xs:List Nd)(m:Mc):List Int:=(mpN (tdM xs m)).flatMap encI ++ ZbG (tdL xs m)
def mpR (ns:List Nd)(is:List In)(ds:List Df)(xs:List Nd)(m:Mc):ByteArray:=if Za5 ns is ds xs m then strOfNums (mpL xs m) else ByteArray.empty
theorem ZbD {ns:List Nd}{is:List In}{ds:List Df}{d:List Nd}{m:Mc}(h:Za5 ns is ds d m=true):Zau d=true/\allI d (tdR m)=true/\m.p <= 400/\m.t <= 3/\m.q <= 19/\m.r <= 3000:=by
 simp only [Za5,Bool.and_eq_true] at h;obtain ⟨⟨⟨f,e⟩,c⟩,a⟩:=h;have g:=ZbP e;have hi:is.length <= 400:=by simp only [ZaY,Bool.and_eq_true,decide_eq_true_eq] at f;exact f.1.2.1
 refine ⟨e,?_⟩;unfold ZbJ at a;split at a
 ·rename_i b
  simp only [Zb6,Bool.and_eq_true,decide_eq_true_eq] at a;refine ⟨?_,by omega,by omega,by omega,by omega⟩;unfold tdR argB
  simpa [b] using c
 ·split at a
  ·rename_i b
   simp only [Zb6,askB,hasI,Bool.and_eq_true,decide_eq_true_eq] at a;refine ⟨?_,by omega,by omega,by omega,by omega⟩;unfold tdR argB;simp only [allI,List.all_cons,List.all_nil,Bool.and_true,Bool.and_eq_true,hasI,decide_eq_true_eq] at c;simp [b,allI,hasI];omega
  ·split at a
   ·rename_i b
    simp only [hasI,Bool.and_eq_true,decide_eq_true_eq] at a;refine ⟨?_,by omega,by omega,by omega,by omega⟩;unfold tdR argB;simp only [allI,List.all_cons,List.all_nil,Bool.and_true,Bool.and_eq_true,hasI,decide_eq_true_eq] at c;simp [b,allI,hasI];omega
   ·split at a
    ·rename_i b
     simp only [Bool.and_eq_true,decide_eq_true_eq] at a;refine ⟨?_,by omega,by omega,by omega,by omega⟩;unfold tdR argB
     simpa [b] using c
    ·cases a
theorem ZcW (a:List Nd)(m:Mc)(c:Zau a=true)(d:allI a (tdR m)=true)(r:Int)(e:r ∈ tdR m):tdF a m r <= 3000:=by
 have l:=ZbP c
 have b:hasI a r=true:=by
  unfold allI at d;exact List.all_eq_true.1 d r e
 simp only [hasI,Bool.and_eq_true,decide_eq_true_eq] at b;have g:=Zej a (tdR m) r e b.1 b.2;have I:=ZjY 0 a (Zaw a (tdR m)) (fun i x h=>Zbe c h) (Zci a (tdR m) (fun i x h=>Zbe c h));obtain ⟨x,f⟩:∃ x,a[r.toNat]? = some x:=⟨a[r.toNat]'(by omega),by simp⟩;obtain ⟨p,j,k,_⟩:=I.at_ r.toNat x (by omega) f g;unfold tdF;rw [j];omega
theorem Zhm {ns:List Nd}{is:List In}{ds:List Df}{a:List Nd}{m:Mc}(h:Za5 ns is ds a m=true):(∀ z ∈ mpN (tdM a m),z <= 9223372036854775807)/\(∀ x ∈ tdL a m,NdOk x)/\(tdL a m).length <= 3000:=by
 obtain ⟨b,f,q,l,v,i⟩:=ZbD h;have o:=ZbP b;have c:tdOk a m=true:=by unfold tdOk;rw [b,f];rfl
 have k:=Zg6 0 a (tdR m);refine ⟨?_,?_,?_⟩
 ·have n:=ZcW a m b f m.s (by unfold tdR;split <;> simp)
  have p:=ZcW a m b f m.e (by unfold tdR;split <;> simp);have u:=ZcW a m b f m.d (by unfold tdR;split <;> simp)
  have t:(if argB m then tdF a m m.r else m.r) <= 3000:=by
   split
   ·rename_i j;exact ZcW a m b f m.r (by unfold tdR;rw [if_pos j];simp)
   ·exact i
  intro z g;unfold mpN tdM at g;rw [c,if_pos rfl] at g;simp only [List.mem_cons,List.not_mem_nil,or_false] at g;rcases g with rfl | rfl | rfl | rfl | rfl | rfl | rfl <;> omega
 ·unfold tdL
  rw [c,if_pos rfl];exact Zhf 0 a (tdR m) b (by omega)
 ·unfold tdL
  rw [c,if_pos rfl];omega
theorem Zmd (M:Mc):((mpN M).flatMap encI).length <= 63:=ZhM (mpN M)
end Go.Proofs.YtkpfangkfknhoaaGreatDoor
