/-
  Texts that stood by themselves, laid into one.
-/
import Derived.Test.YtfeodlbpnghakaaGreatDoorITdM
import Derived.Test.YtfeodlbpnghakaaGreatDoorMark2M
import Derived.Test.YtfeodlbpnghakaaGreatDoorIWire2M
import Derived.Test.YtfeodlbpnghakaaGreatDoorVMoveM
import Derived.Test.YtfeodlbpnghakaaGreatDoorSR8M
/-
  Contracts of spec's l6Copy and Tidy. No condition but that the pool is no greater than a law's.
-/
set_option maxRecDepth 100000
set_option maxHeartbeats 3200000
namespace Go.Proofs.YtfeodlbpnghakaaGreatDoor
open Go.RowKit
theorem ZcG (i:Option Addr)(b:Nat)(a:List Nd)(m:Mc)(w:World)(R:NRow w (.slice i a.length b) a)(D:a.length <= 2097152) :
  Calls Tryz.prog 173 #[.agg #[.slice i a.length b,.int .i64 m.p,.int .i64 m.s,.int .i64 m.e,.int .i64 m.d,.int .i64 m.t,.int .i64 m.q,.int .i64 m.r]] w fun e E=>∃ c f,e=.returned (.agg #[.slice c a.length f,.int .i64 m.p,.int .i64 m.s,.int .i64 m.e,.int .i64 m.d,.int .i64 m.t,.int .i64 m.q,.int .i64 m.r])/\E.ownsRow w.heap.size 194 5 (.slice c a.length f) a.length (ncs a)/\Below w.heap.size w E:=by
 obtain ⟨h,x,o⟩:=Zav w (Obj.cells #[.slice i a.length b,.int .i64 m.p,.int .i64 m.s,.int .i64 m.e,.int .i64 m.d,.int .i64 m.t,.int .i64 m.q,.int .i64 m.r] 61) (Obj.cells #[.slice none 0 0,.int .i64 0,.int .i64 0,.int .i64 0,.int .i64 0,.int .i64 0,.int .i64 0,.int .i64 0] 61)
 go_enter Tryz.func173,Tryz.ntmps173
 go_wp2_with fail
 have H:((w.alloc (Obj.cells #[.slice i a.length b,.int .i64 m.p,.int .i64 m.s,.int .i64 m.e,.int .i64 m.d,.int .i64 m.t,.int .i64 m.q,.int .i64 m.r] 61)).alloc (Obj.cells #[.slice none 0 0,.int .i64 0,.int .i64 0,.int .i64 0,.int .i64 0,.int .i64 0,.int .i64 0,.int .i64 0] 61)).heap.size=w.heap.size+1+1:=by simp
 generalize (w.alloc (Obj.cells #[.slice i a.length b,.int .i64 m.p,.int .i64 m.s,.int .i64 m.e,.int .i64 m.d,.int .i64 m.t,.int .i64 m.q,.int .i64 m.r] 61)).alloc (Obj.cells #[.slice none 0 0,.int .i64 0,.int .i64 0,.int .i64 0,.int .i64 0,.int .i64 0,.int .i64 0,.int .i64 0] 61)=I at *
 refine (ZiN _ a _ (R.below h) (by omega)).mono ?_
 rintro e K ⟨J,rfl,j,g⟩
 obtain ⟨c,f,rfl⟩:=Zag j
 have A:=h.trans (g.mono h.size)
 have y:=(g.block _ (by omega)).trans x
 have n:=(g.block _ (by omega)).trans o
 go_wp2_with (refine Zaa rfl 40 _ _ rfl w.heap.size 0 (.agg #[.slice c a.length f]) #[.slice c a.length f] rfl rfl rfl rfl 61 #[.slice i a.length b,.int .i64 m.p,.int .i64 m.s,.int .i64 m.e,.int .i64 m.d,.int .i64 m.t,.int .i64 m.q,.int .i64 m.r] #[.slice c a.length f,.int .i64 m.p,.int .i64 m.s,.int .i64 m.e,.int .i64 m.d,.int .i64 m.t,.int .i64 m.q,.int .i64 m.r] y (by simp) (by kernel_rfl) rfl ?_)
 intro L z B G k
 have u:=(k _ (by omega)).trans n
 go_wp2_with (first
  | (refine wpList_load_row rfl 61 _ rfl w.heap.size rfl 61 #[.slice c a.length f,.int .i64 m.p,.int .i64 m.s,.int .i64 m.e,.int .i64 m.d,.int .i64 m.t,.int .i64 m.q,.int .i64 m.r] (0,0) _ z Tryz.underlying61 rfl ZmU ?_)
  | (refine Zad rfl 61 _ _ rfl (w.heap.size+1) #[.slice c a.length f,.int .i64 m.p,.int .i64 m.s,.int .i64 m.e,.int .i64 m.d,.int .i64 m.t,.int .i64 m.q,.int .i64 m.r] rfl rfl 61 #[.slice none 0 0,.int .i64 0,.int .i64 0,.int .i64 0,.int .i64 0,.int .i64 0,.int .i64 0,.int .i64 0] u ZmU rfl (by simp [Value.oneCell']) ?_))
 intro M C v F l
 go_wp2
 refine bodyPost_ret (results_cell_row rfl _ _ (w.heap.size+1) 61 _ (0,0) _ rfl C Tryz.underlying61 rfl ZmU) rfl ⟨c,f,rfl,?_,(A.trans B).trans (v.mono (by omega))⟩
 exact Zah (Zak (Zak j (by omega) k) (by omega) l) (by omega)
theorem Zks (w:World)(a b c:Int):(w.alloc (Obj.cells #[.int .i64 a,.int .i64 b,.int .i64 c] 3)).ownsRow w.heap.size 3 1 (.slice (some ⟨w.heap.size,0,none⟩) 3 3) 3 (iv [a,b,c]) :=
 ⟨by simp [iv],.inr ⟨w.heap.size,3,#[.int .i64 a,.int .i64 b,.int .i64 c],rfl,Nat.le_refl _,heap_alloc_new w _,Nat.le_refl _,by unfold maxLen;omega,by simp,by simp [iv]⟩⟩
theorem Zi5 (v:Value)(b:List Nd)(m:Mc)(w:World)(R:NRow w v b)(bj:b.length <= 2097152) :
  Calls Tryz.prog 146 #[.agg #[v,.int .i64 m.p,.int .i64 m.s,.int .i64 m.e,.int .i64 m.d,.int .i64 m.t,.int .i64 m.q,.int .i64 m.r]] w fun e w'=>∃ v',e=.returned (.agg #[v',.int .i64 (tdM b m).p,.int .i64 (tdM b m).s,.int .i64 (tdM b m).e,.int .i64 (tdM b m).d,.int .i64 (tdM b m).t,.int .i64 (tdM b m).q,.int .i64 (tdM b m).r])/\w'.ownsRow w.heap.size 194 5 v' (tdL b m).length (ncs (tdL b m))/\Below w.heap.size w w':=by
 have R':=R
 obtain ⟨B,j,rfl,_⟩:=R'
 obtain ⟨i0,hi,bL,bQ,bN⟩:=info_parts Zna
 obtain ⟨aL,a2,a8⟩:=Zav w (Obj.cells #[.slice B b.length j,.int .i64 m.p,.int .i64 m.s,.int .i64 m.e,.int .i64 m.d,.int .i64 m.t,.int .i64 m.q,.int .i64 m.r] 61) (Obj.cells #[.slice none 0 0,.int .i64 0,.int .i64 0,.int .i64 0,.int .i64 0,.int .i64 0,.int .i64 0,.int .i64 0] 61)
 have HT:Hid (tdR m=if argB m then [m.s,m.e,m.d,m.r] else [m.s,m.e,m.d]):=rfl
 have bK:((w.alloc (Obj.cells #[.slice B b.length j,.int .i64 m.p,.int .i64 m.s,.int .i64 m.e,.int .i64 m.d,.int .i64 m.t,.int .i64 m.q,.int .i64 m.r] 61)).alloc (Obj.cells #[.slice none 0 0,.int .i64 0,.int .i64 0,.int .i64 0,.int .i64 0,.int .i64 0,.int .i64 0,.int .i64 0] 61)).heap.size=w.heap.size+1+1:=by simp
 obtain ⟨W0,bF⟩:∃ W0,(w.alloc (Obj.cells #[.slice B b.length j,.int .i64 m.p,.int .i64 m.s,.int .i64 m.e,.int .i64 m.d,.int .i64 m.t,.int .i64 m.q,.int .i64 m.r] 61)).alloc (Obj.cells #[.slice none 0 0,.int .i64 0,.int .i64 0,.int .i64 0,.int .i64 0,.int .i64 0,.int .i64 0,.int .i64 0] 61)=W0:=⟨_,rfl⟩
 have a5:=Zks W0 m.s m.e m.d
 have bc:=(Below.refl W0.heap.size W0).alloc (Nat.le_refl _) (Obj.cells #[.int .i64 m.s,.int .i64 m.e,.int .i64 m.d] 3)
 rw [bF] at aL a2 a8 bK
 rw [bK] at a5
 have bd:Hid ((w.alloc (Obj.cells #[.slice B b.length j,.int .i64 m.p,.int .i64 m.s,.int .i64 m.e,.int .i64 m.d,.int .i64 m.t,.int .i64 m.q,.int .i64 m.r] 61)).alloc (Obj.cells #[.slice none 0 0,.int .i64 0,.int .i64 0,.int .i64 0,.int .i64 0,.int .i64 0,.int .i64 0,.int .i64 0] 61)=W0):=bF
 clear bF
 have bV:w.heap.size+1 < W0.heap.size:=by omega
 have a0:(W0.alloc (Obj.cells #[.int .i64 m.s,.int .i64 m.e,.int .i64 m.d] 3)).heap.size=w.heap.size+1+1+1:=by simp;omega
 have bI:(m.t=1/\argB m=true) \/ (¬ m.t=1/\m.t=2/\argB m=true) \/ (¬ m.t=1/\¬ m.t=2/\argB m=false):=by
  by_cases h1:m.t=1
  ·exact Or.inl ⟨h1,by unfold argB;simp [h1]⟩
  ·by_cases h2:m.t=2
   ·exact Or.inr (Or.inl ⟨h1,h2,by unfold argB;simp [h2]⟩)
   ·exact Or.inr (Or.inr ⟨h1,h2,by unfold argB;simp [h1,h2]⟩)
 rcases bI with ⟨h1,hA⟩ | ⟨h1,h2,hA⟩ | ⟨h1,h2,hA⟩
 ·have I:(m.t == 1)=true:=by simp [h1]
  clear h1
  rw [hA] at HT
  go_enter Tryz.func146,Tryz.ntmps146
  go_wp2_with (at_builtin;rw [bd.out];refine wpList_append_own _ rfl _ _ 129 rfl (w.heap.size+1+1) 3 i0 (.int .i64 0) 1 8 Tryz.underlying129 hi bL bQ bN rfl (by decide) _ _ _ rfl (a5.alloc _) ⟨w.heap.size+1+1+1,0,none⟩ 1 1 [.int .i64 m.r] rfl rfl (by rw [<- a0];exact cell_one_new _ _ _) (by simp [Value.oneCell']) (by unfold maxLen;omega) (by omega) (by simp;omega) ?_)
  intro vr w1 ba bw _
  have I:Below W0.heap.size W0 w1:=((bc.alloc (by simp) (Obj.cells #[.int .i64 m.r] 3)).grown bw (by simp;omega) (fun k hk=>by simp only [Value.ownBlock,Option.some.injEq] at hk;omega))
  have L1:IRow w1 vr (tdR m):=by
   rw [HT.out]
   have bi:w1.ownsRow (w.heap.size+1+1) 3 1 vr [m.s,m.e,m.d,m.r].length (iv [m.s,m.e,m.d,m.r]):=ba
   exact IRow.of_own bi (by simp)
  obtain ⟨bS,bU,rfl⟩:=Zag ba
  clear ba bw
  have ae:=aL.trans (I.mono aL.size)
  have aB:=(I.block _ (by omega)).trans a2
  have aI:=(I.block _ (by omega)).trans a8
  have aZ:=(bl aI)
  have br:w1.cell? ⟨w.heap.size,0,none⟩=some (.slice B b.length j):=cell_of_row w1 _ 0 _ _ _ aB
  clear a5 bc bd a0 I aL a2 a8
  go_wp2_with fail
  refine (ZcM _ _ b (tdR m) _ (R.below ae) L1).mono ?_
  rintro e x ⟨rfl,C⟩
  have z:=ae.trans (C.mono ae.size)
  have V:=(C.block _ (by omega)).trans aB
  have af:=(C.block _ aZ).trans aI
  have aC:=(bl af)
  have L2:=L1.below C
  have bn:x.cell? ⟨w.heap.size,0,none⟩=some (.slice B b.length j):=cell_of_row x _ 0 _ _ _ V
  clear ae C aB aI aZ L1 br
  cases az:(allI b (tdR m) && Zas b) with
  | false =>
   have aQ:tdOk b m=false:=by unfold tdOk;rw [Bool.and_comm];exact az
   have HL:Hid (tdL b m=b):=by unfold Hid tdL;rw [aQ];rfl
   have HM:Hid (tdM b m=m):=by unfold Hid tdM;rw [aQ];rfl
   go_wp2_with (refine wpList_load_row rfl 61 _ rfl w.heap.size rfl 61 #[.slice B b.length j,.int .i64 m.p,.int .i64 m.s,.int .i64 m.e,.int .i64 m.d,.int .i64 m.t,.int .i64 m.q,.int .i64 m.r] (0,0) _ V Tryz.underlying61 rfl ZmU ?_)
   refine (ZcG B j b m _ (R.below z) bj).mono ?_
   rintro e w9 ⟨a9,q9,rfl,be,aT⟩
   have bt:=(aT.block _ aC).trans af
   have bh:=z.trans (aT.mono z.size)
   go_wp2_with (refine Zad rfl 61 _ _ rfl (w.heap.size+1) #[.slice a9 b.length q9,.int .i64 m.p,.int .i64 m.s,.int .i64 m.e,.int .i64 m.d,.int .i64 m.t,.int .i64 m.q,.int .i64 m.r] rfl rfl 61 #[.slice none 0 0,.int .i64 0,.int .i64 0,.int .i64 0,.int .i64 0,.int .i64 0,.int .i64 0,.int .i64 0] bt ZmU rfl (by simp [Value.oneCell']) ?_)
   intro wB aE aJ bp aA
   go_wp2
   refine bodyPost_ret (results_cell_row rfl _ _ (w.heap.size+1) 61 _ (0,0) _ rfl aE Tryz.underlying61 rfl ZmU) rfl ⟨.slice a9 b.length q9,by rw [HM.out],?_,bh.trans (aJ.mono (by omega))⟩
   rw [HL.out]
   exact Zah (Zak be aC aA) (by omega)
  | true =>
   have T:=az
   simp only [Bool.and_eq_true] at T
   have aS:tdOk b m=true:=by unfold tdOk;rw [Bool.and_comm];exact az
   have HL:Hid (tdL b m=mvN 0 b (tdR m)):=by unfold Hid tdL;rw [aS];rfl
   have HM:Hid (tdM b m=⟨m.p,tdF b m m.s,tdF b m m.e,tdF b m m.d,m.t,m.q,tdF b m m.r⟩):=by unfold Hid tdM;rw [aS,hA];rfl
   have aM:(tdR m).length=4:=by rw [Zge,hA];rfl
   have HR:Hid (mvR 0 b (tdR m) (tdR m)=(tdR m).map (tdF b m)):=rfl
   have bo:=(Below.heap_alloc x (Obj.cells #[.slice B b.length j,.int .i64 m.p,.int .i64 m.s,.int .i64 m.e,.int .i64 m.d,.int .i64 m.t,.int .i64 m.q,.int .i64 m.r] 61) w.heap.size (by omega)).trans V
   have hX:=heap_alloc_new x (Obj.cells #[.slice B b.length j,.int .i64 m.p,.int .i64 m.s,.int .i64 m.e,.int .i64 m.d,.int .i64 m.t,.int .i64 m.q,.int .i64 m.r] 61)
   have ah:=z.alloc z.size (Obj.cells #[.slice B b.length j,.int .i64 m.p,.int .i64 m.s,.int .i64 m.e,.int .i64 m.d,.int .i64 m.t,.int .i64 m.q,.int .i64 m.r] 61)
   have aU:Below x.heap.size x (x.alloc (Obj.cells #[.slice B b.length j,.int .i64 m.p,.int .i64 m.s,.int .i64 m.e,.int .i64 m.d,.int .i64 m.t,.int .i64 m.q,.int .i64 m.r] 61)):=(Below.refl _ _).alloc (Nat.le_refl _) _
   have bA:w.heap.size < x.heap.size:=by omega
   have bk:(x.alloc (Obj.cells #[.slice B b.length j,.int .i64 m.p,.int .i64 m.s,.int .i64 m.e,.int .i64 m.d,.int .i64 m.t,.int .i64 m.q,.int .i64 m.r] 61)).heap.size=x.heap.size+1:=by simp
   go_wp2_with (first
    | (refine wpList_load_row rfl 61 _ rfl w.heap.size rfl 61 #[.slice B b.length j,.int .i64 m.p,.int .i64 m.s,.int .i64 m.e,.int .i64 m.d,.int .i64 m.t,.int .i64 m.q,.int .i64 m.r] (0,0) _ V Tryz.underlying61 rfl ZmU ?_)
    | fail)
   refine (Zcr B j _ b (tdR m) _ (R.below ah) (L2.below aU) T.2 T.1 (by omega)).mono ?_
   rintro e A ⟨v1,v2,rfl,ad,y,ag⟩
   rw [HR.out] at y
   rw [bk] at ad y
   obtain ⟨u,o,rfl⟩:=Zag ad
   have aW:0 < (tdR m).length:=by omega
   rcases y.2 with ⟨_,bM⟩ | ⟨c,q2,bz,e2,bO,_,_⟩
   ·omega
   subst e2
   have ax:=ah.trans (ag.mono ah.size)
   have ay:=(ag.block _ (by omega)).trans hX
   have aG:=(ag.block _ (by omega)).trans ((Below.heap_alloc x _ _ aC).trans af)
   have y0:A.cell? ⟨c,0,none⟩=some (.int .i64 (tdF b m m.s)):=(y.cellAt 0 (by omega)).trans (by unfold tdR;rw [hA];rfl)
   have y1:A.cell? ⟨c,1,none⟩=some (.int .i64 (tdF b m m.e)):=(y.cellAt 1 (by omega)).trans (by unfold tdR;rw [hA];rfl)
   have y2:A.cell? ⟨c,2,none⟩=some (.int .i64 (tdF b m m.d)):=(y.cellAt 2 (by omega)).trans (by unfold tdR;rw [hA];rfl)
   have y3:A.cell? ⟨c,3,none⟩=some (.int .i64 (tdF b m m.r)):=(y.cellAt 3 (by omega)).trans (by unfold tdR;rw [hA];rfl)
   have bu:c < A.heap.size:=World.block_lt_of_cell? _ _ y0
   have bq:x.heap.size < A.heap.size:=(bl ay)
   have bx:w.heap.size+1 < A.heap.size:=(bl aG)
   generalize tdF b m m.s=Y at *
   generalize tdF b m m.e=fe at *
   generalize tdF b m m.d=fd at *
   generalize tdF b m m.r=fr at *
   have au:=ax.alloc ax.size (Obj.cells #[.slice u (mvN 0 b (tdR m)).length o] 40)
   have aR:=(Below.heap_alloc A (Obj.cells #[.slice u (mvN 0 b (tdR m)).length o] 40) _ bq).trans ay
   have aP:=(Below.heap_alloc A (Obj.cells #[.slice u (mvN 0 b (tdR m)).length o] 40) _ bx).trans aG
   have aY:=ad.alloc (Obj.cells #[.slice u (mvN 0 b (tdR m)).length o] 40)
   have keep:∀ (i:Nat),(A.alloc (Obj.cells #[.slice u (mvN 0 b (tdR m)).length o] 40)).cell? ⟨c,i,none⟩=A.cell? ⟨c,i,none⟩:=fun i=>World.cell?_of_block (w:=A) (Below.heap_alloc A _ c bu)
   have aN:=(keep 0).trans y0
   have aO:=(keep 1).trans y1
   have aV:=(keep 2).trans y2
   have bs:=(keep 3).trans y3
   rw [aM]
   clear keep bn V af bo hX ah aU ag y ad ax ay aG aM aW L2 z y0 y1 y2 y3
   go_wp2_with (refine Zaa rfl 40 _ _ rfl x.heap.size 0 (.agg #[.slice u (mvN 0 b (tdR m)).length o]) #[.slice u (mvN 0 b (tdR m)).length o] rfl rfl rfl rfl 61 #[.slice B b.length j,.int .i64 m.p,.int .i64 m.s,.int .i64 m.e,.int .i64 m.d,.int .i64 m.t,.int .i64 m.q,.int .i64 m.r] #[.slice u (mvN 0 b (tdR m)).length o,.int .i64 m.p,.int .i64 m.s,.int .i64 m.e,.int .i64 m.d,.int .i64 m.t,.int .i64 m.q,.int .i64 m.r] aR (by simp) (by kernel_rfl) rfl ?_)
   intro wA aw ar bB l
   have am:=(l _ (by omega)).trans aP
   have ap:=au.trans (ar.mono (by omega))
   have an:=Zak aY (by omega) l
   have al:=(World.cell?_of_block (a:=⟨c,0,none⟩) (l c (by omega))).trans aN
   have av:=(World.cell?_of_block (a:=⟨c,1,none⟩) (l c (by omega))).trans aO
   have aq:=(World.cell?_of_block (a:=⟨c,2,none⟩) (l c (by omega))).trans aV
   have aX:=(World.cell?_of_block (a:=⟨c,3,none⟩) (l c (by omega))).trans bs
   clear aP aY aN aO aV bs aR l ar au
   go_wp2_with (refine Zaa rfl 3 _ _ rfl x.heap.size 2 (.int .i64 Y) #[.int .i64 Y] rfl rfl rfl rfl 61 #[.slice u (mvN 0 b (tdR m)).length o,.int .i64 m.p,.int .i64 m.s,.int .i64 m.e,.int .i64 m.d,.int .i64 m.t,.int .i64 m.q,.int .i64 m.r] #[.slice u (mvN 0 b (tdR m)).length o,.int .i64 m.p,.int .i64 Y,.int .i64 m.e,.int .i64 m.d,.int .i64 m.t,.int .i64 m.q,.int .i64 m.r] aw (by simp) (by kernel_rfl) rfl ?_)
   intro bJ K J bf h
   have O:=(h _ (by omega)).trans am
   have P:=ap.trans (J.mono (by omega))
   have M:=Zak an (by omega) h
   have E:=(World.cell?_of_block (a:=⟨c,0,none⟩) (h c (by omega))).trans al
   have H:=(World.cell?_of_block (a:=⟨c,1,none⟩) (h c (by omega))).trans av
   have F:=(World.cell?_of_block (a:=⟨c,2,none⟩) (h c (by omega))).trans aq
   have aH:=(World.cell?_of_block (a:=⟨c,3,none⟩) (h c (by omega))).trans aX
   clear am an al av aq aX aw ap J h
   go_wp2_with (refine Zaa rfl 3 _ _ rfl x.heap.size 3 (.int .i64 fe) #[.int .i64 fe] rfl rfl rfl rfl 61 #[.slice u (mvN 0 b (tdR m)).length o,.int .i64 m.p,.int .i64 Y,.int .i64 m.e,.int .i64 m.d,.int .i64 m.t,.int .i64 m.q,.int .i64 m.r] #[.slice u (mvN 0 b (tdR m)).length o,.int .i64 m.p,.int .i64 Y,.int .i64 fe,.int .i64 m.d,.int .i64 m.t,.int .i64 m.q,.int .i64 m.r] K (by simp) (by kernel_rfl) rfl ?_)
   intro bR Q G bg g
   have S:=(g _ (by omega)).trans O
   have U:=P.trans (G.mono (by omega))
   have L:=Zak M (by omega) g
   have X:=(World.cell?_of_block (a:=⟨c,0,none⟩) (g c (by omega))).trans E
   have W:=(World.cell?_of_block (a:=⟨c,1,none⟩) (g c (by omega))).trans H
   have D:=(World.cell?_of_block (a:=⟨c,2,none⟩) (g c (by omega))).trans F
   have aF:=(World.cell?_of_block (a:=⟨c,3,none⟩) (g c (by omega))).trans aH
   clear O M E H F aH K P G g
   go_wp2_with (refine Zaa rfl 3 _ _ rfl x.heap.size 4 (.int .i64 fd) #[.int .i64 fd] rfl rfl rfl rfl 61 #[.slice u (mvN 0 b (tdR m)).length o,.int .i64 m.p,.int .i64 Y,.int .i64 fe,.int .i64 m.d,.int .i64 m.t,.int .i64 m.q,.int .i64 m.r] #[.slice u (mvN 0 b (tdR m)).length o,.int .i64 m.p,.int .i64 Y,.int .i64 fe,.int .i64 fd,.int .i64 m.t,.int .i64 m.q,.int .i64 m.r] Q (by simp) (by kernel_rfl) rfl ?_)
   intro bP aa N bm f
   have ac:=(f _ (by omega)).trans S
   have ab:=U.trans (N.mono (by omega))
   have Z:=Zak L (by omega) f
   have ak:=(World.cell?_of_block (a:=⟨c,0,none⟩) (f c (by omega))).trans X
   have aj:=(World.cell?_of_block (a:=⟨c,1,none⟩) (f c (by omega))).trans W
   have ai:=(World.cell?_of_block (a:=⟨c,2,none⟩) (f c (by omega))).trans D
   have aK:=(World.cell?_of_block (a:=⟨c,3,none⟩) (f c (by omega))).trans aF
   clear S L X W D aF Q U N f
   go_wp2_with (refine Zaa rfl 3 _ _ rfl x.heap.size 7 (.int .i64 fr) #[.int .i64 fr] rfl rfl rfl rfl 61 #[.slice u (mvN 0 b (tdR m)).length o,.int .i64 m.p,.int .i64 Y,.int .i64 fe,.int .i64 fd,.int .i64 m.t,.int .i64 m.q,.int .i64 m.r] #[.slice u (mvN 0 b (tdR m)).length o,.int .i64 m.p,.int .i64 Y,.int .i64 fe,.int .i64 fd,.int .i64 m.t,.int .i64 m.q,.int .i64 fr] aa (by simp) (by kernel_rfl) rfl ?_)
   intro bT a6 aD bE n
   have a4:=(n _ (by omega)).trans ac
   have a3:=ab.trans (aD.mono (by omega))
   have a7:=Zak Z (by omega) n
   have bD:=(World.cell?_of_block (a:=⟨c,0,none⟩) (n c (by omega))).trans ak
   have bH:=(World.cell?_of_block (a:=⟨c,1,none⟩) (n c (by omega))).trans aj
   have bC:=(World.cell?_of_block (a:=⟨c,2,none⟩) (n c (by omega))).trans ai
   have bG:=(World.cell?_of_block (a:=⟨c,3,none⟩) (n c (by omega))).trans aK
   clear ac Z ak aj ai aK aa ab aD n
   go_wp2_with (first
    | (refine wpList_load_row rfl 61 _ rfl x.heap.size rfl 61 #[.slice u (mvN 0 b (tdR m)).length o,.int .i64 m.p,.int .i64 Y,.int .i64 fe,.int .i64 fd,.int .i64 m.t,.int .i64 m.q,.int .i64 fr] (0,0) _ a6 Tryz.underlying61 rfl ZmU ?_)
    | (refine Zad rfl 61 _ _ rfl (w.heap.size+1) #[.slice u (mvN 0 b (tdR m)).length o,.int .i64 m.p,.int .i64 Y,.int .i64 fe,.int .i64 fd,.int .i64 m.t,.int .i64 m.q,.int .i64 fr] rfl rfl 61 #[.slice none 0 0,.int .i64 0,.int .i64 0,.int .i64 0,.int .i64 0,.int .i64 0,.int .i64 0,.int .i64 0] a4 ZmU rfl (by simp [Value.oneCell']) ?_))
   intro wB aE aJ bp aA
   go_wp2
   refine bodyPost_ret (results_cell_row rfl _ _ (w.heap.size+1) 61 _ (0,0) _ rfl aE Tryz.underlying61 rfl ZmU) rfl ⟨.slice u (mvN 0 b (tdR m)).length o,by rw [HM.out],?_,a3.trans (aJ.mono (by omega))⟩
   rw [HL.out]
   exact Zah (Zak a7 (by omega) aA) (by omega)
 ·have I:(m.t == 1)=false:=by simp [h1]
  have C:(m.t == 2)=true:=by simp [h2]
  clear h1 h2
  rw [hA] at HT
  go_enter Tryz.func146,Tryz.ntmps146
  go_wp2_with (at_builtin;rw [bd.out];refine wpList_append_own _ rfl _ _ 129 rfl (w.heap.size+1+1) 3 i0 (.int .i64 0) 1 8 Tryz.underlying129 hi bL bQ bN rfl (by decide) _ _ _ rfl (a5.alloc _) ⟨w.heap.size+1+1+1,0,none⟩ 1 1 [.int .i64 m.r] rfl rfl (by rw [<- a0];exact cell_one_new _ _ _) (by simp [Value.oneCell']) (by unfold maxLen;omega) (by omega) (by simp;omega) ?_)
  intro vr w1 ba bw _
  have I:Below W0.heap.size W0 w1:=((bc.alloc (by simp) (Obj.cells #[.int .i64 m.r] 3)).grown bw (by simp;omega) (fun k hk=>by simp only [Value.ownBlock,Option.some.injEq] at hk;omega))
  have L1:IRow w1 vr (tdR m):=by
   rw [HT.out]
   have bi:w1.ownsRow (w.heap.size+1+1) 3 1 vr [m.s,m.e,m.d,m.r].length (iv [m.s,m.e,m.d,m.r]):=ba
   exact IRow.of_own bi (by simp)
  obtain ⟨bS,bU,rfl⟩:=Zag ba
  clear ba bw
  have ae:=aL.trans (I.mono aL.size)
  have aB:=(I.block _ (by omega)).trans a2
  have aI:=(I.block _ (by omega)).trans a8
  have aZ:=(bl aI)
  have br:w1.cell? ⟨w.heap.size,0,none⟩=some (.slice B b.length j):=cell_of_row w1 _ 0 _ _ _ aB
  clear a5 bc bd a0 I aL a2 a8
  go_wp2_with fail
  refine (ZcM _ _ b (tdR m) _ (R.below ae) L1).mono ?_
  rintro e x ⟨rfl,C⟩
  have z:=ae.trans (C.mono ae.size)
  have V:=(C.block _ (by omega)).trans aB
  have af:=(C.block _ aZ).trans aI
  have aC:=(bl af)
  have L2:=L1.below C
  have bn:x.cell? ⟨w.heap.size,0,none⟩=some (.slice B b.length j):=cell_of_row x _ 0 _ _ _ V
  clear ae C aB aI aZ L1 br
  cases az:(allI b (tdR m) && Zas b) with
  | false =>
   have aQ:tdOk b m=false:=by unfold tdOk;rw [Bool.and_comm];exact az
   have HL:Hid (tdL b m=b):=by unfold Hid tdL;rw [aQ];rfl
   have HM:Hid (tdM b m=m):=by unfold Hid tdM;rw [aQ];rfl
   go_wp2_with (refine wpList_load_row rfl 61 _ rfl w.heap.size rfl 61 #[.slice B b.length j,.int .i64 m.p,.int .i64 m.s,.int .i64 m.e,.int .i64 m.d,.int .i64 m.t,.int .i64 m.q,.int .i64 m.r] (0,0) _ V Tryz.underlying61 rfl ZmU ?_)
   refine (ZcG B j b m _ (R.below z) bj).mono ?_
   rintro e w9 ⟨a9,q9,rfl,be,aT⟩
   have bt:=(aT.block _ aC).trans af
   have bh:=z.trans (aT.mono z.size)
   go_wp2_with (refine Zad rfl 61 _ _ rfl (w.heap.size+1) #[.slice a9 b.length q9,.int .i64 m.p,.int .i64 m.s,.int .i64 m.e,.int .i64 m.d,.int .i64 m.t,.int .i64 m.q,.int .i64 m.r] rfl rfl 61 #[.slice none 0 0,.int .i64 0,.int .i64 0,.int .i64 0,.int .i64 0,.int .i64 0,.int .i64 0,.int .i64 0] bt ZmU rfl (by simp [Value.oneCell']) ?_)
   intro wB aE aJ bp aA
   go_wp2
   refine bodyPost_ret (results_cell_row rfl _ _ (w.heap.size+1) 61 _ (0,0) _ rfl aE Tryz.underlying61 rfl ZmU) rfl ⟨.slice a9 b.length q9,by rw [HM.out],?_,bh.trans (aJ.mono (by omega))⟩
   rw [HL.out]
   exact Zah (Zak be aC aA) (by omega)
  | true =>
   have T:=az
   simp only [Bool.and_eq_true] at T
   have aS:tdOk b m=true:=by unfold tdOk;rw [Bool.and_comm];exact az
   have HL:Hid (tdL b m=mvN 0 b (tdR m)):=by unfold Hid tdL;rw [aS];rfl
   have HM:Hid (tdM b m=⟨m.p,tdF b m m.s,tdF b m m.e,tdF b m m.d,m.t,m.q,tdF b m m.r⟩):=by unfold Hid tdM;rw [aS,hA];rfl
   have aM:(tdR m).length=4:=by rw [Zge,hA];rfl
   have HR:Hid (mvR 0 b (tdR m) (tdR m)=(tdR m).map (tdF b m)):=rfl
   have bo:=(Below.heap_alloc x (Obj.cells #[.slice B b.length j,.int .i64 m.p,.int .i64 m.s,.int .i64 m.e,.int .i64 m.d,.int .i64 m.t,.int .i64 m.q,.int .i64 m.r] 61) w.heap.size (by omega)).trans V
   have hX:=heap_alloc_new x (Obj.cells #[.slice B b.length j,.int .i64 m.p,.int .i64 m.s,.int .i64 m.e,.int .i64 m.d,.int .i64 m.t,.int .i64 m.q,.int .i64 m.r] 61)
   have ah:=z.alloc z.size (Obj.cells #[.slice B b.length j,.int .i64 m.p,.int .i64 m.s,.int .i64 m.e,.int .i64 m.d,.int .i64 m.t,.int .i64 m.q,.int .i64 m.r] 61)
   have aU:Below x.heap.size x (x.alloc (Obj.cells #[.slice B b.length j,.int .i64 m.p,.int .i64 m.s,.int .i64 m.e,.int .i64 m.d,.int .i64 m.t,.int .i64 m.q,.int .i64 m.r] 61)):=(Below.refl _ _).alloc (Nat.le_refl _) _
   have bA:w.heap.size < x.heap.size:=by omega
   have bk:(x.alloc (Obj.cells #[.slice B b.length j,.int .i64 m.p,.int .i64 m.s,.int .i64 m.e,.int .i64 m.d,.int .i64 m.t,.int .i64 m.q,.int .i64 m.r] 61)).heap.size=x.heap.size+1:=by simp
   go_wp2_with (first
    | (refine wpList_load_row rfl 61 _ rfl w.heap.size rfl 61 #[.slice B b.length j,.int .i64 m.p,.int .i64 m.s,.int .i64 m.e,.int .i64 m.d,.int .i64 m.t,.int .i64 m.q,.int .i64 m.r] (0,0) _ V Tryz.underlying61 rfl ZmU ?_)
    | fail)
   refine (Zcr B j _ b (tdR m) _ (R.below ah) (L2.below aU) T.2 T.1 (by omega)).mono ?_
   rintro e A ⟨v1,v2,rfl,ad,y,ag⟩
   rw [HR.out] at y
   rw [bk] at ad y
   obtain ⟨u,o,rfl⟩:=Zag ad
   have aW:0 < (tdR m).length:=by omega
   rcases y.2 with ⟨_,bM⟩ | ⟨c,q2,bz,e2,bO,_,_⟩
   ·omega
   subst e2
   have ax:=ah.trans (ag.mono ah.size)
   have ay:=(ag.block _ (by omega)).trans hX
   have aG:=(ag.block _ (by omega)).trans ((Below.heap_alloc x _ _ aC).trans af)
   have y0:A.cell? ⟨c,0,none⟩=some (.int .i64 (tdF b m m.s)):=(y.cellAt 0 (by omega)).trans (by unfold tdR;rw [hA];rfl)
   have y1:A.cell? ⟨c,1,none⟩=some (.int .i64 (tdF b m m.e)):=(y.cellAt 1 (by omega)).trans (by unfold tdR;rw [hA];rfl)
   have y2:A.cell? ⟨c,2,none⟩=some (.int .i64 (tdF b m m.d)):=(y.cellAt 2 (by omega)).trans (by unfold tdR;rw [hA];rfl)
   have y3:A.cell? ⟨c,3,none⟩=some (.int .i64 (tdF b m m.r)):=(y.cellAt 3 (by omega)).trans (by unfold tdR;rw [hA];rfl)
   have bu:c < A.heap.size:=World.block_lt_of_cell? _ _ y0
   have bq:x.heap.size < A.heap.size:=(bl ay)
   have bx:w.heap.size+1 < A.heap.size:=(bl aG)
   generalize tdF b m m.s=Y at *
   generalize tdF b m m.e=fe at *
   generalize tdF b m m.d=fd at *
   generalize tdF b m m.r=fr at *
   have au:=ax.alloc ax.size (Obj.cells #[.slice u (mvN 0 b (tdR m)).length o] 40)
   have aR:=(Below.heap_alloc A (Obj.cells #[.slice u (mvN 0 b (tdR m)).length o] 40) _ bq).trans ay
   have aP:=(Below.heap_alloc A (Obj.cells #[.slice u (mvN 0 b (tdR m)).length o] 40) _ bx).trans aG
   have aY:=ad.alloc (Obj.cells #[.slice u (mvN 0 b (tdR m)).length o] 40)
   have keep:∀ (i:Nat),(A.alloc (Obj.cells #[.slice u (mvN 0 b (tdR m)).length o] 40)).cell? ⟨c,i,none⟩=A.cell? ⟨c,i,none⟩:=fun i=>World.cell?_of_block (w:=A) (Below.heap_alloc A _ c bu)
   have aN:=(keep 0).trans y0
   have aO:=(keep 1).trans y1
   have aV:=(keep 2).trans y2
   have bs:=(keep 3).trans y3
   rw [aM]
   clear keep bn V af bo hX ah aU ag y ad ax ay aG aM aW L2 z y0 y1 y2 y3
   go_wp2_with (refine Zaa rfl 40 _ _ rfl x.heap.size 0 (.agg #[.slice u (mvN 0 b (tdR m)).length o]) #[.slice u (mvN 0 b (tdR m)).length o] rfl rfl rfl rfl 61 #[.slice B b.length j,.int .i64 m.p,.int .i64 m.s,.int .i64 m.e,.int .i64 m.d,.int .i64 m.t,.int .i64 m.q,.int .i64 m.r] #[.slice u (mvN 0 b (tdR m)).length o,.int .i64 m.p,.int .i64 m.s,.int .i64 m.e,.int .i64 m.d,.int .i64 m.t,.int .i64 m.q,.int .i64 m.r] aR (by simp) (by kernel_rfl) rfl ?_)
   intro wA aw ar bB l
   have am:=(l _ (by omega)).trans aP
   have ap:=au.trans (ar.mono (by omega))
   have an:=Zak aY (by omega) l
   have al:=(World.cell?_of_block (a:=⟨c,0,none⟩) (l c (by omega))).trans aN
   have av:=(World.cell?_of_block (a:=⟨c,1,none⟩) (l c (by omega))).trans aO
   have aq:=(World.cell?_of_block (a:=⟨c,2,none⟩) (l c (by omega))).trans aV
   have aX:=(World.cell?_of_block (a:=⟨c,3,none⟩) (l c (by omega))).trans bs
   clear aP aY aN aO aV bs aR l ar au
   go_wp2_with (refine Zaa rfl 3 _ _ rfl x.heap.size 2 (.int .i64 Y) #[.int .i64 Y] rfl rfl rfl rfl 61 #[.slice u (mvN 0 b (tdR m)).length o,.int .i64 m.p,.int .i64 m.s,.int .i64 m.e,.int .i64 m.d,.int .i64 m.t,.int .i64 m.q,.int .i64 m.r] #[.slice u (mvN 0 b (tdR m)).length o,.int .i64 m.p,.int .i64 Y,.int .i64 m.e,.int .i64 m.d,.int .i64 m.t,.int .i64 m.q,.int .i64 m.r] aw (by simp) (by kernel_rfl) rfl ?_)
   intro bJ K J bf h
   have O:=(h _ (by omega)).trans am
   have P:=ap.trans (J.mono (by omega))
   have M:=Zak an (by omega) h
   have E:=(World.cell?_of_block (a:=⟨c,0,none⟩) (h c (by omega))).trans al
   have H:=(World.cell?_of_block (a:=⟨c,1,none⟩) (h c (by omega))).trans av
   have F:=(World.cell?_of_block (a:=⟨c,2,none⟩) (h c (by omega))).trans aq
   have aH:=(World.cell?_of_block (a:=⟨c,3,none⟩) (h c (by omega))).trans aX
   clear am an al av aq aX aw ap J h
   go_wp2_with (refine Zaa rfl 3 _ _ rfl x.heap.size 3 (.int .i64 fe) #[.int .i64 fe] rfl rfl rfl rfl 61 #[.slice u (mvN 0 b (tdR m)).length o,.int .i64 m.p,.int .i64 Y,.int .i64 m.e,.int .i64 m.d,.int .i64 m.t,.int .i64 m.q,.int .i64 m.r] #[.slice u (mvN 0 b (tdR m)).length o,.int .i64 m.p,.int .i64 Y,.int .i64 fe,.int .i64 m.d,.int .i64 m.t,.int .i64 m.q,.int .i64 m.r] K (by simp) (by kernel_rfl) rfl ?_)
   intro bR Q G bg g
   have S:=(g _ (by omega)).trans O
   have U:=P.trans (G.mono (by omega))
   have L:=Zak M (by omega) g
   have X:=(World.cell?_of_block (a:=⟨c,0,none⟩) (g c (by omega))).trans E
   have W:=(World.cell?_of_block (a:=⟨c,1,none⟩) (g c (by omega))).trans H
   have D:=(World.cell?_of_block (a:=⟨c,2,none⟩) (g c (by omega))).trans F
   have aF:=(World.cell?_of_block (a:=⟨c,3,none⟩) (g c (by omega))).trans aH
   clear O M E H F aH K P G g
   go_wp2_with (refine Zaa rfl 3 _ _ rfl x.heap.size 4 (.int .i64 fd) #[.int .i64 fd] rfl rfl rfl rfl 61 #[.slice u (mvN 0 b (tdR m)).length o,.int .i64 m.p,.int .i64 Y,.int .i64 fe,.int .i64 m.d,.int .i64 m.t,.int .i64 m.q,.int .i64 m.r] #[.slice u (mvN 0 b (tdR m)).length o,.int .i64 m.p,.int .i64 Y,.int .i64 fe,.int .i64 fd,.int .i64 m.t,.int .i64 m.q,.int .i64 m.r] Q (by simp) (by kernel_rfl) rfl ?_)
   intro bP aa N bm f
   have ac:=(f _ (by omega)).trans S
   have ab:=U.trans (N.mono (by omega))
   have Z:=Zak L (by omega) f
   have ak:=(World.cell?_of_block (a:=⟨c,0,none⟩) (f c (by omega))).trans X
   have aj:=(World.cell?_of_block (a:=⟨c,1,none⟩) (f c (by omega))).trans W
   have ai:=(World.cell?_of_block (a:=⟨c,2,none⟩) (f c (by omega))).trans D
   have aK:=(World.cell?_of_block (a:=⟨c,3,none⟩) (f c (by omega))).trans aF
   clear S L X W D aF Q U N f
   go_wp2_with (refine Zaa rfl 3 _ _ rfl x.heap.size 7 (.int .i64 fr) #[.int .i64 fr] rfl rfl rfl rfl 61 #[.slice u (mvN 0 b (tdR m)).length o,.int .i64 m.p,.int .i64 Y,.int .i64 fe,.int .i64 fd,.int .i64 m.t,.int .i64 m.q,.int .i64 m.r] #[.slice u (mvN 0 b (tdR m)).length o,.int .i64 m.p,.int .i64 Y,.int .i64 fe,.int .i64 fd,.int .i64 m.t,.int .i64 m.q,.int .i64 fr] aa (by simp) (by kernel_rfl) rfl ?_)
   intro bT a6 aD bE n
   have a4:=(n _ (by omega)).trans ac
   have a3:=ab.trans (aD.mono (by omega))
   have a7:=Zak Z (by omega) n
   have bD:=(World.cell?_of_block (a:=⟨c,0,none⟩) (n c (by omega))).trans ak
   have bH:=(World.cell?_of_block (a:=⟨c,1,none⟩) (n c (by omega))).trans aj
   have bC:=(World.cell?_of_block (a:=⟨c,2,none⟩) (n c (by omega))).trans ai
   have bG:=(World.cell?_of_block (a:=⟨c,3,none⟩) (n c (by omega))).trans aK
   clear ac Z ak aj ai aK aa ab aD n
   go_wp2_with (first
    | (refine wpList_load_row rfl 61 _ rfl x.heap.size rfl 61 #[.slice u (mvN 0 b (tdR m)).length o,.int .i64 m.p,.int .i64 Y,.int .i64 fe,.int .i64 fd,.int .i64 m.t,.int .i64 m.q,.int .i64 fr] (0,0) _ a6 Tryz.underlying61 rfl ZmU ?_)
    | (refine Zad rfl 61 _ _ rfl (w.heap.size+1) #[.slice u (mvN 0 b (tdR m)).length o,.int .i64 m.p,.int .i64 Y,.int .i64 fe,.int .i64 fd,.int .i64 m.t,.int .i64 m.q,.int .i64 fr] rfl rfl 61 #[.slice none 0 0,.int .i64 0,.int .i64 0,.int .i64 0,.int .i64 0,.int .i64 0,.int .i64 0,.int .i64 0] a4 ZmU rfl (by simp [Value.oneCell']) ?_))
   intro wB aE aJ bp aA
   go_wp2
   refine bodyPost_ret (results_cell_row rfl _ _ (w.heap.size+1) 61 _ (0,0) _ rfl aE Tryz.underlying61 rfl ZmU) rfl ⟨.slice u (mvN 0 b (tdR m)).length o,by rw [HM.out],?_,a3.trans (aJ.mono (by omega))⟩
   rw [HL.out]
   exact Zah (Zak a7 (by omega) aA) (by omega)
 ·have I:(m.t == 1)=false:=by simp [h1]
  have C:(m.t == 2)=false:=by simp [h2]
  clear h1 h2
  rw [hA] at HT
  go_enter Tryz.func146,Tryz.ntmps146
  have L1:IRow (W0.alloc (Obj.cells #[.int .i64 m.s,.int .i64 m.e,.int .i64 m.d] 3)) (.slice (some ⟨w.heap.size+1+1,0,none⟩) 3 3) (tdR m):=by
   rw [HT.out]
   exact IRow.of_own (zs:=[m.s,m.e,m.d]) a5 (by simp)
  have I:=bc
  go_wp2_with fail
  rw [bd.out]
  generalize W0.alloc (Obj.cells #[.int .i64 m.s,.int .i64 m.e,.int .i64 m.d] 3)=w1 at *
  have ae:=aL.trans (I.mono aL.size)
  have aB:=(I.block _ (by omega)).trans a2
  have aI:=(I.block _ (by omega)).trans a8
  have aZ:=(bl aI)
  have br:w1.cell? ⟨w.heap.size,0,none⟩=some (.slice B b.length j):=cell_of_row w1 _ 0 _ _ _ aB
  clear a5 bc bd a0 I aL a2 a8
  refine (ZcM _ _ b (tdR m) _ (R.below ae) L1).mono ?_
  rintro e x ⟨rfl,C⟩
  have z:=ae.trans (C.mono ae.size)
  have V:=(C.block _ (by omega)).trans aB
  have af:=(C.block _ aZ).trans aI
  have aC:=(bl af)
  have L2:=L1.below C
  have bn:x.cell? ⟨w.heap.size,0,none⟩=some (.slice B b.length j):=cell_of_row x _ 0 _ _ _ V
  clear ae C aB aI aZ L1 br
  cases az:(allI b (tdR m) && Zas b) with
  | false =>
   have aQ:tdOk b m=false:=by unfold tdOk;rw [Bool.and_comm];exact az
   have HL:Hid (tdL b m=b):=by unfold Hid tdL;rw [aQ];rfl
   have HM:Hid (tdM b m=m):=by unfold Hid tdM;rw [aQ];rfl
   go_wp2_with (refine wpList_load_row rfl 61 _ rfl w.heap.size rfl 61 #[.slice B b.length j,.int .i64 m.p,.int .i64 m.s,.int .i64 m.e,.int .i64 m.d,.int .i64 m.t,.int .i64 m.q,.int .i64 m.r] (0,0) _ V Tryz.underlying61 rfl ZmU ?_)
   refine (ZcG B j b m _ (R.below z) bj).mono ?_
   rintro e w9 ⟨a9,q9,rfl,be,aT⟩
   have bt:=(aT.block _ aC).trans af
   have bh:=z.trans (aT.mono z.size)
   go_wp2_with (refine Zad rfl 61 _ _ rfl (w.heap.size+1) #[.slice a9 b.length q9,.int .i64 m.p,.int .i64 m.s,.int .i64 m.e,.int .i64 m.d,.int .i64 m.t,.int .i64 m.q,.int .i64 m.r] rfl rfl 61 #[.slice none 0 0,.int .i64 0,.int .i64 0,.int .i64 0,.int .i64 0,.int .i64 0,.int .i64 0,.int .i64 0] bt ZmU rfl (by simp [Value.oneCell']) ?_)
   intro wB aE aJ bp aA
   go_wp2
   refine bodyPost_ret (results_cell_row rfl _ _ (w.heap.size+1) 61 _ (0,0) _ rfl aE Tryz.underlying61 rfl ZmU) rfl ⟨.slice a9 b.length q9,by rw [HM.out],?_,bh.trans (aJ.mono (by omega))⟩
   rw [HL.out]
   exact Zah (Zak be aC aA) (by omega)
  | true =>
   have T:=az
   simp only [Bool.and_eq_true] at T
   have aS:tdOk b m=true:=by unfold tdOk;rw [Bool.and_comm];exact az
   have HL:Hid (tdL b m=mvN 0 b (tdR m)):=by unfold Hid tdL;rw [aS];rfl
   have HM:Hid (tdM b m=⟨m.p,tdF b m m.s,tdF b m m.e,tdF b m m.d,m.t,m.q,m.r⟩):=by unfold Hid tdM;rw [aS,hA];rfl
   have aM:(tdR m).length=3:=by rw [Zge,hA];rfl
   have HR:Hid (mvR 0 b (tdR m) (tdR m)=(tdR m).map (tdF b m)):=rfl
   have bo:=(Below.heap_alloc x (Obj.cells #[.slice B b.length j,.int .i64 m.p,.int .i64 m.s,.int .i64 m.e,.int .i64 m.d,.int .i64 m.t,.int .i64 m.q,.int .i64 m.r] 61) w.heap.size (by omega)).trans V
   have hX:=heap_alloc_new x (Obj.cells #[.slice B b.length j,.int .i64 m.p,.int .i64 m.s,.int .i64 m.e,.int .i64 m.d,.int .i64 m.t,.int .i64 m.q,.int .i64 m.r] 61)
   have ah:=z.alloc z.size (Obj.cells #[.slice B b.length j,.int .i64 m.p,.int .i64 m.s,.int .i64 m.e,.int .i64 m.d,.int .i64 m.t,.int .i64 m.q,.int .i64 m.r] 61)
   have aU:Below x.heap.size x (x.alloc (Obj.cells #[.slice B b.length j,.int .i64 m.p,.int .i64 m.s,.int .i64 m.e,.int .i64 m.d,.int .i64 m.t,.int .i64 m.q,.int .i64 m.r] 61)):=(Below.refl _ _).alloc (Nat.le_refl _) _
   have bA:w.heap.size < x.heap.size:=by omega
   have bk:(x.alloc (Obj.cells #[.slice B b.length j,.int .i64 m.p,.int .i64 m.s,.int .i64 m.e,.int .i64 m.d,.int .i64 m.t,.int .i64 m.q,.int .i64 m.r] 61)).heap.size=x.heap.size+1:=by simp
   go_wp2_with (first
    | (refine wpList_load_row rfl 61 _ rfl w.heap.size rfl 61 #[.slice B b.length j,.int .i64 m.p,.int .i64 m.s,.int .i64 m.e,.int .i64 m.d,.int .i64 m.t,.int .i64 m.q,.int .i64 m.r] (0,0) _ V Tryz.underlying61 rfl ZmU ?_)
    | fail)
   refine (Zcr B j _ b (tdR m) _ (R.below ah) (L2.below aU) T.2 T.1 (by omega)).mono ?_
   rintro e A ⟨v1,v2,rfl,ad,y,ag⟩
   rw [HR.out] at y
   rw [bk] at ad y
   obtain ⟨u,o,rfl⟩:=Zag ad
   have aW:0 < (tdR m).length:=by omega
   rcases y.2 with ⟨_,bM⟩ | ⟨c,q2,bz,e2,bO,_,_⟩
   ·omega
   subst e2
   have ax:=ah.trans (ag.mono ah.size)
   have ay:=(ag.block _ (by omega)).trans hX
   have aG:=(ag.block _ (by omega)).trans ((Below.heap_alloc x _ _ aC).trans af)
   have y0:A.cell? ⟨c,0,none⟩=some (.int .i64 (tdF b m m.s)):=(y.cellAt 0 (by omega)).trans (by unfold tdR;rw [hA];rfl)
   have y1:A.cell? ⟨c,1,none⟩=some (.int .i64 (tdF b m m.e)):=(y.cellAt 1 (by omega)).trans (by unfold tdR;rw [hA];rfl)
   have y2:A.cell? ⟨c,2,none⟩=some (.int .i64 (tdF b m m.d)):=(y.cellAt 2 (by omega)).trans (by unfold tdR;rw [hA];rfl)
   have bu:c < A.heap.size:=World.block_lt_of_cell? _ _ y0
   have bq:x.heap.size < A.heap.size:=(bl ay)
   have bx:w.heap.size+1 < A.heap.size:=(bl aG)
   generalize tdF b m m.s=Y at *
   generalize tdF b m m.e=fe at *
   generalize tdF b m m.d=fd at *
   have au:=ax.alloc ax.size (Obj.cells #[.slice u (mvN 0 b (tdR m)).length o] 40)
   have aR:=(Below.heap_alloc A (Obj.cells #[.slice u (mvN 0 b (tdR m)).length o] 40) _ bq).trans ay
   have aP:=(Below.heap_alloc A (Obj.cells #[.slice u (mvN 0 b (tdR m)).length o] 40) _ bx).trans aG
   have aY:=ad.alloc (Obj.cells #[.slice u (mvN 0 b (tdR m)).length o] 40)
   have keep:∀ (i:Nat),(A.alloc (Obj.cells #[.slice u (mvN 0 b (tdR m)).length o] 40)).cell? ⟨c,i,none⟩=A.cell? ⟨c,i,none⟩:=fun i=>World.cell?_of_block (w:=A) (Below.heap_alloc A _ c bu)
   have aN:=(keep 0).trans y0
   have aO:=(keep 1).trans y1
   have aV:=(keep 2).trans y2
   rw [aM]
   clear keep bn V af bo hX ah aU ag y ad ax ay aG aM aW L2 z y0 y1 y2
   go_wp2_with (refine Zaa rfl 40 _ _ rfl x.heap.size 0 (.agg #[.slice u (mvN 0 b (tdR m)).length o]) #[.slice u (mvN 0 b (tdR m)).length o] rfl rfl rfl rfl 61 #[.slice B b.length j,.int .i64 m.p,.int .i64 m.s,.int .i64 m.e,.int .i64 m.d,.int .i64 m.t,.int .i64 m.q,.int .i64 m.r] #[.slice u (mvN 0 b (tdR m)).length o,.int .i64 m.p,.int .i64 m.s,.int .i64 m.e,.int .i64 m.d,.int .i64 m.t,.int .i64 m.q,.int .i64 m.r] aR (by simp) (by kernel_rfl) rfl ?_)
   intro wA aw ar bB l
   have am:=(l _ (by omega)).trans aP
   have ap:=au.trans (ar.mono (by omega))
   have an:=Zak aY (by omega) l
   have al:=(World.cell?_of_block (a:=⟨c,0,none⟩) (l c (by omega))).trans aN
   have av:=(World.cell?_of_block (a:=⟨c,1,none⟩) (l c (by omega))).trans aO
   have aq:=(World.cell?_of_block (a:=⟨c,2,none⟩) (l c (by omega))).trans aV
   clear aP aY aN aO aV aR l ar au
   go_wp2_with (refine Zaa rfl 3 _ _ rfl x.heap.size 2 (.int .i64 Y) #[.int .i64 Y] rfl rfl rfl rfl 61 #[.slice u (mvN 0 b (tdR m)).length o,.int .i64 m.p,.int .i64 m.s,.int .i64 m.e,.int .i64 m.d,.int .i64 m.t,.int .i64 m.q,.int .i64 m.r] #[.slice u (mvN 0 b (tdR m)).length o,.int .i64 m.p,.int .i64 Y,.int .i64 m.e,.int .i64 m.d,.int .i64 m.t,.int .i64 m.q,.int .i64 m.r] aw (by simp) (by kernel_rfl) rfl ?_)
   intro bJ K J bf h
   have O:=(h _ (by omega)).trans am
   have P:=ap.trans (J.mono (by omega))
   have M:=Zak an (by omega) h
   have E:=(World.cell?_of_block (a:=⟨c,0,none⟩) (h c (by omega))).trans al
   have H:=(World.cell?_of_block (a:=⟨c,1,none⟩) (h c (by omega))).trans av
   have F:=(World.cell?_of_block (a:=⟨c,2,none⟩) (h c (by omega))).trans aq
   clear am an al av aq aw ap J h
   go_wp2_with (refine Zaa rfl 3 _ _ rfl x.heap.size 3 (.int .i64 fe) #[.int .i64 fe] rfl rfl rfl rfl 61 #[.slice u (mvN 0 b (tdR m)).length o,.int .i64 m.p,.int .i64 Y,.int .i64 m.e,.int .i64 m.d,.int .i64 m.t,.int .i64 m.q,.int .i64 m.r] #[.slice u (mvN 0 b (tdR m)).length o,.int .i64 m.p,.int .i64 Y,.int .i64 fe,.int .i64 m.d,.int .i64 m.t,.int .i64 m.q,.int .i64 m.r] K (by simp) (by kernel_rfl) rfl ?_)
   intro bR Q G bg g
   have S:=(g _ (by omega)).trans O
   have U:=P.trans (G.mono (by omega))
   have L:=Zak M (by omega) g
   have X:=(World.cell?_of_block (a:=⟨c,0,none⟩) (g c (by omega))).trans E
   have W:=(World.cell?_of_block (a:=⟨c,1,none⟩) (g c (by omega))).trans H
   have D:=(World.cell?_of_block (a:=⟨c,2,none⟩) (g c (by omega))).trans F
   clear O M E H F K P G g
   go_wp2_with (refine Zaa rfl 3 _ _ rfl x.heap.size 4 (.int .i64 fd) #[.int .i64 fd] rfl rfl rfl rfl 61 #[.slice u (mvN 0 b (tdR m)).length o,.int .i64 m.p,.int .i64 Y,.int .i64 fe,.int .i64 m.d,.int .i64 m.t,.int .i64 m.q,.int .i64 m.r] #[.slice u (mvN 0 b (tdR m)).length o,.int .i64 m.p,.int .i64 Y,.int .i64 fe,.int .i64 fd,.int .i64 m.t,.int .i64 m.q,.int .i64 m.r] Q (by simp) (by kernel_rfl) rfl ?_)
   intro bP aa N bm f
   have ac:=(f _ (by omega)).trans S
   have ab:=U.trans (N.mono (by omega))
   have Z:=Zak L (by omega) f
   have ak:=(World.cell?_of_block (a:=⟨c,0,none⟩) (f c (by omega))).trans X
   have aj:=(World.cell?_of_block (a:=⟨c,1,none⟩) (f c (by omega))).trans W
   have ai:=(World.cell?_of_block (a:=⟨c,2,none⟩) (f c (by omega))).trans D
   clear S L X W D Q U N f
   go_wp2_with (first
    | (refine wpList_load_row rfl 61 _ rfl x.heap.size rfl 61 #[.slice u (mvN 0 b (tdR m)).length o,.int .i64 m.p,.int .i64 Y,.int .i64 fe,.int .i64 fd,.int .i64 m.t,.int .i64 m.q,.int .i64 m.r] (0,0) _ aa Tryz.underlying61 rfl ZmU ?_)
    | (refine Zad rfl 61 _ _ rfl (w.heap.size+1) #[.slice u (mvN 0 b (tdR m)).length o,.int .i64 m.p,.int .i64 Y,.int .i64 fe,.int .i64 fd,.int .i64 m.t,.int .i64 m.q,.int .i64 m.r] rfl rfl 61 #[.slice none 0 0,.int .i64 0,.int .i64 0,.int .i64 0,.int .i64 0,.int .i64 0,.int .i64 0,.int .i64 0] ac ZmU rfl (by simp [Value.oneCell']) ?_))
   intro wB aE aJ bp aA
   go_wp2
   refine bodyPost_ret (results_cell_row rfl _ _ (w.heap.size+1) 61 _ (0,0) _ rfl aE Tryz.underlying61 rfl ZmU) rfl ⟨.slice u (mvN 0 b (tdR m)).length o,by rw [HM.out],?_,ab.trans (aJ.mono (by omega))⟩
   rw [HL.out]
   exact Zah (Zak Z (by omega) aA) (by omega)
def mpN (M:Mc):List Int:=[M.p,M.t,M.q,M.s,M.e,M.d,M.r]
def mpL (xs:List Nd)(m:Mc):List Int:=(mpN (tdM xs m)).flatMap encI ++ ZbD (tdL xs m)
def mpR (ns:List Nd)(is:List In)(ds:List Df)(xs:List Nd)(m:Mc):ByteArray:=if Za3 ns is ds xs m then strOfNums (mpL xs m) else ByteArray.empty
theorem ZbC {ns:List Nd}{is:List In}{ds:List Df}{d:List Nd}{m:Mc}(h:Za3 ns is ds d m=true):Zas d=true/\allI d (tdR m)=true/\m.p <= 400/\m.t <= 3/\m.q <= 19/\m.r <= 3000:=by
 simp only [Za3,Bool.and_eq_true] at h
 obtain ⟨⟨⟨e,f⟩,c⟩,a⟩:=h
 have g:=ZbM f
 have hi:is.length <= 400:=by simp only [Za5,Bool.and_eq_true,decide_eq_true_eq] at e;exact e.1.2.1
 refine ⟨f,?_⟩
 unfold ZbG at a
 split at a
 ·rename_i b
  simp only [Zcg,Bool.and_eq_true,decide_eq_true_eq] at a
  refine ⟨?_,by omega,by omega,by omega,by omega⟩
  unfold tdR argB
  simpa [b] using c
 ·split at a
  ·rename_i b
   simp only [Zcg,askB,hasI,Bool.and_eq_true,decide_eq_true_eq] at a
   refine ⟨?_,by omega,by omega,by omega,by omega⟩
   unfold tdR argB
   simp only [allI,List.all_cons,List.all_nil,Bool.and_true,Bool.and_eq_true,hasI,decide_eq_true_eq] at c
   simp [b,allI,hasI]
   omega
  ·split at a
   ·rename_i b
    simp only [hasI,Bool.and_eq_true,decide_eq_true_eq] at a
    refine ⟨?_,by omega,by omega,by omega,by omega⟩
    unfold tdR argB
    simp only [allI,List.all_cons,List.all_nil,Bool.and_true,Bool.and_eq_true,hasI,decide_eq_true_eq] at c
    simp [b,allI,hasI]
    omega
   ·split at a
    ·rename_i b
     simp only [Bool.and_eq_true,decide_eq_true_eq] at a
     refine ⟨?_,by omega,by omega,by omega,by omega⟩
     unfold tdR argB
     simpa [b] using c
    ·cases a
theorem ZcX (a:List Nd)(m:Mc)(b:Zas a=true)(d:allI a (tdR m)=true)(r:Int)(e:r ∈ tdR m):tdF a m r <= 3000:=by
 have k:=ZbM b
 have c:hasI a r=true:=by
  unfold allI at d
  exact List.all_eq_true.1 d r e
 simp only [hasI,Bool.and_eq_true,decide_eq_true_eq] at c
 have f:=Zd5 a (tdR m) r e c.1 c.2
 have I:=ZjW 0 a (Zau a (tdR m)) (fun i x h=>Za6 b h) (Zb8 a (tdR m) (fun i x h=>Za6 b h))
 obtain ⟨x,j⟩:∃ x,a[r.toNat]? = some x:=⟨a[r.toNat]'(by omega),by simp⟩
 obtain ⟨p,g,l,_⟩:=I.at_ r.toNat x (by omega) j f
 unfold tdF
 rw [g]
 omega
theorem Zhd {ns:List Nd}{is:List In}{ds:List Df}{a:List Nd}{m:Mc}(h:Za3 ns is ds a m=true):(∀ z ∈ mpN (tdM a m),z <= 9223372036854775807)/\(∀ x ∈ tdL a m,NdOk x)/\(tdL a m).length <= 3000:=by
 obtain ⟨b,f,n,o,p,j⟩:=ZbC h
 have l:=ZbM b
 have c:tdOk a m=true:=by unfold tdOk;rw [b,f];rfl
 have u:=Zga 0 a (tdR m)
 refine ⟨?_,?_,?_⟩
 ·have k:=ZcX a m b f m.s (by unfold tdR;split <;> simp)
  have t:=ZcX a m b f m.e (by unfold tdR;split <;> simp)
  have q:=ZcX a m b f m.d (by unfold tdR;split <;> simp)
  have v:(if argB m then tdF a m m.r else m.r) <= 3000:=by
   split
   ·rename_i i;exact ZcX a m b f m.r (by unfold tdR;rw [if_pos i];simp)
   ·exact j
  intro z g
  unfold mpN tdM at g
  rw [c,if_pos rfl] at g
  simp only [List.mem_cons,List.not_mem_nil,or_false] at g
  rcases g with rfl | rfl | rfl | rfl | rfl | rfl | rfl <;> omega
 ·unfold tdL
  rw [c,if_pos rfl]
  exact Zg6 0 a (tdR m) b (by omega)
 ·unfold tdL
  rw [c,if_pos rfl]
  omega
theorem ZlL (M:Mc):((mpN M).flatMap encI).length <= 63:=Zhj (mpN M)
end Go.Proofs.YtfeodlbpnghakaaGreatDoor
