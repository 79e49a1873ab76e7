/-
  Texts that stood by themselves, laid into one.
-/
import Derived.Test.YtfeodlbpnghakaaGreatDoorSAddM
import Derived.Test.YtfeodlbpnghakaaGreatDoorSIntoM
import Derived.Deep.RegionHeld
import Derived.Test.YtfeodlbpnghakaaGreatDoorIWire2M
import Derived.Test.YtfeodlbpnghakaaGreatDoorVMoveM
import Derived.Test.YtfeodlbpnghakaaGreatDoorMark2M
import Derived.Test.YtfeodlbpnghakaaGreatDoorS8RdM
import Derived.Test.YtfeodlbpnghakaaGreatDoorInM
import Derived.Test.YtfeodlbpnghakaaGreatDoorSR8M
import Derived.Test.YtfeodlbpnghakaaGreatDoorMcTM
import Derived.Test.YtfeodlbpnghakaaGreatDoorRcWhyM
import Derived.Deep.CutRange
import Derived.Deep.DeepCutAuto
/-
  Contract of impl's Keep. No condition but that the roots are no more than a row bears.
-/
set_option maxRecDepth 100000
set_option maxHeartbeats 6400000
namespace Go.Proofs.YtfeodlbpnghakaaGreatDoor
open Go.RowKit
def ZmH (xs:List Nd)(rs:List Int):List Nd:=if Zas xs && allI xs rs then mvN 0 xs rs else []
def ZmI (xs:List Nd)(rs:List Int):List Int:=if Zas xs && allI xs rs then mvR 0 xs rs rs else []
theorem Zje {w a:World}(h:Below w.drew.heap.size w.drew a):Below w.heap.size w a:=(Below.refl w.heap.size w).drew.trans h
theorem Zcr (f:Option Addr)(c:Nat)(vl:Value)(b:List Nd)(rs:List Int)(w:World)(R:NRow w (.slice f b.length c) b)(L:IRow w vl rs)(hp:Zas b=true)(hr:allI b rs=true)(ay:rs.length <= 1048576) :
    Calls Tryz.prog 171 #[.agg #[.slice f b.length c],vl] w fun e S=>∃ v1 v2,e=.returned (.tuple #[.agg #[v1],v2])/\S.ownsRow w.heap.size 194 5 v1 (mvN 0 b rs).length (ncs (mvN 0 b rs))/\S.ownsRow w.heap.size 3 1 v2 rs.length (iv (mvR 0 b rs rs))/\Below w.heap.size w S:=by
  obtain ⟨i0,hi,ae,aj,ah⟩:=info_parts Zna
  have au:=ZaH hp
  have C:Below w.heap.size w ((w.alloc (Obj.cells #[.slice f b.length c] 40)).alloc (Obj.cells #[.slice none 0 0] 40)):=Zlm w _ _
  have Q:((w.alloc (Obj.cells #[.slice f b.length c] 40)).alloc (Obj.cells #[.slice none 0 0] 40)).heap.size=w.heap.size+1+1:=by simp
  have K:=old2 w (Obj.cells #[.slice f b.length c] 40) (Obj.cells #[.slice none 0 0] 40)
  have Y:=heap_alloc2_new w (Obj.cells #[.slice f b.length c] 40) (Obj.cells #[.slice none 0 0] 40)
  have W:=Zbc b rs
  go_enter Tryz.func171,Tryz.ntmps171
  go_wp2_with fail
  have I:=heap_alloc_new ((w.alloc (Obj.cells #[.slice f b.length c] 40)).alloc (Obj.cells #[.slice none 0 0] 40)) (Obj.cells #[.slice none 0 0] 40)
  have B:Below (w.heap.size+1+1) ((w.alloc (Obj.cells #[.slice f b.length c] 40)).alloc (Obj.cells #[.slice none 0 0] 40)) (((w.alloc (Obj.cells #[.slice f b.length c] 40)).alloc (Obj.cells #[.slice none 0 0] 40)).alloc (Obj.cells #[.slice none 0 0] 40)):=(Below.refl _ _).alloc (by rw [Q];exact Nat.le_refl _) _
  have ax:(((w.alloc (Obj.cells #[.slice f b.length c] 40)).alloc (Obj.cells #[.slice none 0 0] 40)).alloc (Obj.cells #[.slice none 0 0] 40)).heap.size=w.heap.size+1+1+1:=by simp
  rw [Q] at I
  generalize ((w.alloc (Obj.cells #[.slice f b.length c] 40)).alloc (Obj.cells #[.slice none 0 0] 40)).alloc (Obj.cells #[.slice none 0 0] 40)=O at *
  generalize (w.alloc (Obj.cells #[.slice f b.length c] 40)).alloc (Obj.cells #[.slice none 0 0] 40)=W2 at *
  have G:=C.trans (B.mono (by omega))
  have R2:=R.below C
  have k3:O.cell? ⟨w.heap.size,0,none⟩=some (.slice f b.length c):=by rw [cell_of_row O _ 0 _ _ _ ((B.block _ (by omega)).trans K)];rfl
  have ab:w.heap.size < O.heap.size:=by omega
  go_region_held (fun S=>S.cell? ⟨w.heap.size,0,none⟩=some (.slice f b.length c)) (first | exact k5 | exact k4 | go_keep) (first
    | (go_at_call 199;refine (Zgv f c vl b rs _ ?_ ?_ hp hr).mono ?_;exact R.below G.drew;exact L.below G.drew;rintro e wk ⟨vk,rfl,H,aa⟩;obtain ⟨aA,ar,rfl⟩:=Zag H
       have n:Below O.heap.size O wk:=Zje aa
       have k4:=(n.cell (p:=⟨w.heap.size,0,none⟩) ab).trans k3)
    | (go_at_call 198;refine (ZiD (w.heap.size+1+1) (w.heap.size+1+1) none 0 [] b (Zau b rs) f c _ W2 _ ((n.block _ (by omega)).trans I) (World.ownsRow_nil _ _ _ _) (Nat.le_refl _) R2 (by omega) (B.trans (n.mono (by omega))) (Zah H (by show w.heap.size+1+1 <= O.heap.size;omega)) W hp (by simp)).mono ?_;rintro e m ⟨v5,vp,rfl,T,u,q,D⟩;obtain ⟨a5,q5,rfl⟩:=Zag q
       have k5:m.cell? ⟨w.heap.size,0,none⟩=some (.slice f b.length c):=by rw [cell_of_row m _ 0 _ _ _ ((D.block _ (by omega)).trans K)];rfl))
  have HN:Hid (mvN 0 b rs=(ZbB 0 b (Zau b rs)).1):=rfl
  have HR:Hid (mvR 0 b rs rs=rs.map (fun r=>(ZbB 0 b (Zau b rs)).2.getD r.toNat 0)):=rfl
  have ad:(ZbB 0 b (Zau b rs)).2.length=b.length:=(Zdm _ _ _).2
  rw [List.nil_append] at u
  rw [show ([]:List Nd).length=0 from rfl] at u q
  generalize ZbB 0 b (Zau b rs)=M at *
  obtain ⟨S1,N⟩:=M
  simp only at ad u q HN HR
  obtain ⟨ap,qp,rfl⟩:=Zag u
  have E:=C.trans (D.mono (by omega))
  have ag:=(D.block (w.heap.size+1) (by omega)).trans Y
  have Z:=(bl T)
  obtain ⟨al,cl,rfl,aB,_,A⟩:=L
  have V:Below m.heap.size m (m.alloc (Obj.cells #[] 3)):=(Below.refl _ _).alloc (Nat.le_refl _) _
  have U:=Zcl m 3 1 m.heap.size (Nat.le_refl _)
  clear k5 k4 H aa n k3 I B K Y G D R2 R C W
  go_wp2_with fail
  go_loopw [8,9] (fun s i wr=>∃ (j:Nat),j <= rs.length/\i=.int .i64 j/\wr.ownsRow m.heap.size 3 1 s j (iv ((rs.take j).map (fun r=>N.getD r.toNat 0)))/\Below m.heap.size m wr) (fun _ i _=>rs.length - (intOf i).toNat)
  case atStart=>exact ⟨0,by omega,rfl,U,V⟩
  case round =>
    clear U V
    obtain ⟨j,hj,rfl,d,h⟩:=hrel
    by_cases v:j < rs.length
    · obtain ⟨g,o,rfl,hg,A⟩:=A (by intro e;subst e;simp at v)
      have ez:=(h.cell (p:=⟨g,o+j,none⟩) (Nat.lt_of_lt_of_le hg E.size)).trans ((E.cell (p:=⟨g,o+j,none⟩) hg).trans (A j v))
      obtain ⟨z0,z1⟩:=Zgl hr j v
      have HT:Hid (iv ((rs.take (j+1)).map (fun r=>N.getD r.toNat 0))=iv ((rs.take j).map (fun r=>N.getD r.toNat 0)) ++ [.int .i64 (N.getD (rs.getD j 0).toNat 0)]):=by
        unfold Hid
        rw [List.take_succ_eq_append_getElem v,List.map_append,Zi8,List.getD_eq_getElem?_getD (l:=rs),List.getElem?_eq_getElem v]
        rfl
      generalize rs.getD j 0=z at ez z0 z1 HT
      obtain ⟨nz,rfl⟩:=Int.eq_ofNat_of_zero_le z0
      rw [Int.toNat_natCast] at HT
      rcases q.2 with ⟨aq,az⟩ | ⟨g5,av,aw,e5,_,_,_⟩
      · omega
      simp only [Value.slice.injEq,true_and] at e5
      obtain ⟨rfl,rfl⟩:=e5
      have e9:=(h.cell (p:=⟨g5,nz,none⟩) (q.lt _ rfl).2).trans ((q.cellAt nz (by omega)).trans (ZcT _ _ (by omega)))
      generalize N.getD nz 0=y at e9 HT
      obtain ⟨X,P,rfl⟩:=Zag d
      clear A hr
      have an:=h.size
      go_wp2_with (at_builtin;refine wpList_append_own _ rfl _ _ 129 rfl m.heap.size 3 i0 (.int .i64 0) 1 8 Tryz.underlying129 hi ae aj ah rfl (by decide) _ _ _ rfl (d.alloc _) ⟨wr.heap.size,0,none⟩ 1 1 [.int .i64 y] rfl rfl (cell_one_new _ _ _) (by simp [Value.oneCell']) (by unfold maxLen;omega) (by omega) (by simp;omega) ?_)
      intro v7 w8 t F _
      have af:Below m.heap.size m w8:=(h.alloc an _).grown F (by simp;omega) (fun k hk=>(d.lt k hk).1)
      have x:w8.ownsRow m.heap.size 3 1 v7 (j+1) (iv ((rs.take (j+1)).map (fun r=>N.getD r.toNat 0))):=by rw [HT.out];simpa only [List.map_take,List.getD_eq_getElem?_getD] using t
      clear F t
      go_wp2_with fail
      go_roundw
      case rel=>exact ⟨j+1,by omega,by go_num,x,af⟩
      case measure=>simp [intOf];omega
    · have ac:j=rs.length:=by omega
      subst ac
      have ak:=(h.block _ Z).trans T
      have J:=(h.block _ (by omega)).trans ag
      have c6:wr.cell? ⟨w.heap.size+1+1,0,none⟩=some (.slice ap S1.length qp):=by rw [cell_of_row wr _ 0 _ _ _ ak];rfl
      have c4:wr.cell? ⟨w.heap.size+1,0,none⟩=some (.slice none 0 0):=by rw [cell_of_row wr _ 0 _ _ _ J];rfl
      have f4:wr.frozen? ⟨w.heap.size+1,0,none⟩=false:=frozen_of_row wr _ 0 _ _ J
      have ai:=Zac u h
      rw [List.take_length,<- HR.out] at d
      obtain ⟨X,P,rfl⟩:=Zag d
      have am:=E.trans (h.mono E.size)
      obtain ⟨p1,p2,p3⟩:=ZkX J ai am (by omega) (by omega)
      have p4:=Zah (B':=w.heap.size) (ownsRow_setCell_below d (a:=⟨w.heap.size+1,0,none⟩) (by show w.heap.size+1 < m.heap.size;omega) (.slice ap S1.length qp)) (by omega)
      go_wp2_with fail
      refine bodyPost_ret (Zab rfl _ _ (w.heap.size+1) 40 _ (0,0) _ rfl p1 Tryz.underlying40 rfl Znn) rfl ⟨_,.slice X rs.length P,rfl,?_,p4,p3⟩
      rw [HN.out]
      exact p2
def vpB (xs:List Nd)(v:Int):Bool:=Zas xs && hasI xs v
def vpR (xs:List Nd)(v:Int):ByteArray:=if vpB xs v then strOfNums (ZbD (mvN 0 xs [v])) else ByteArray.empty
theorem Zh7 (v:Value)(b:List Nd)(a:Int)(w:World)(R:NRow w v b) :
  Calls Tryz.prog 145 #[.agg #[v],.int .i64 a] w fun e M=>e=.returned (.tuple #[.string (vpR b a),.bool (vpB b a)])/\Below w.heap.size w M:=by
 have K:=R
 obtain ⟨x,f,rfl,_⟩:=K
 have i:Below w.heap.size w (w.alloc (Obj.cells #[.slice x b.length f] 40)):=(Below.refl _ _).alloc (Nat.le_refl _) _
 go_enter Tryz.func145,Tryz.ntmps145
 go_wp2_with fail
 refine (Zce _ b _ (R.below i)).mono ?_
 rintro e B ⟨rfl,n⟩
 have k:B.heap[w.heap.size]? = some (.cells #[.slice x b.length f] 40 (0,0)):=(n.block _ (by simp)).trans (heap_alloc_new _ _)
 have d:=i.trans (n.mono i.size)
 have c1:B.cell? ⟨w.heap.size,0,none⟩=some (.slice x b.length f):=cell_of_row B _ 0 _ _ _ k
 clear i n
 cases p:Zas b with
 | false =>
  have j:Hid (vpB b a=false):=by unfold Hid vpB;rw [p];rfl
  have y:Hid (vpR b a=ByteArray.empty):=by unfold Hid vpR;rw [j.out];rfl
  go_wp2
  go_ret2
  exact ⟨by rw [j.out,y.out];rfl,d⟩
 | true =>
  have F:=ZbM p
  go_wp2_with fail
  refine (Zj8 _ b a _ (R.below d)).mono ?_
  rintro e o ⟨rfl,m⟩
  have z:=(bb k m)
  have c:=d.trans (m.mono d.size)
  have c2:o.cell? ⟨w.heap.size,0,none⟩=some (.slice x b.length f):=cell_of_row o _ 0 _ _ _ z
  clear d m k c1
  cases A:hasI b a with
  | false =>
   have j:Hid (vpB b a=false):=by unfold Hid vpB;rw [A,Bool.and_false]
   have y:Hid (vpR b a=ByteArray.empty):=by unfold Hid vpR;rw [j.out];rfl
   go_wp2
   go_ret2
   exact ⟨by rw [j.out,y.out];rfl,c⟩
  | true =>
   have j:Hid (vpB b a=true):=by unfold Hid vpB;rw [A,p];rfl
   have y:Hid (vpR b a=strOfNums (ZbD (mvN 0 b [a]))):=by unfold Hid vpR;rw [j.out];rfl
   have q:allI b [a]=true:=by simp [allI,A]
   have G:=Zga 0 b [a]
   have r:=Zg6 0 b [a] p (by omega)
   have g:Below o.heap.size o (o.alloc (Obj.cells #[.int .i64 a] 3)):=(Below.refl _ _).alloc (Nat.le_refl _) _
   go_wp2_with fail
   refine (Zcr x f _ b [a] _ (R.below (c.trans (g.mono c.size))) (ZgK (heap_alloc_new o _)) p q (by simp)).mono ?_
   rintro e E ⟨P,T,rfl,s,_,t⟩
   have h:=(c.trans (g.mono c.size)).trans (t.mono (c.trans (g.mono c.size)).size)
   clear c g t z c2
   generalize mvN 0 b [a]=ys at *
   obtain ⟨L,J,rfl⟩:=Zag s
   have l:Below E.heap.size E (E.alloc (Obj.cells #[.slice L ys.length J] 40)):=(Below.refl _ _).alloc (Nat.le_refl _) _
   have O:=NRow.of_own s (by omega) (ZbH r)
   go_wp2_with fail
   refine (ZdF _ ys _ (O.below l) r (by omega)).mono ?_
   rintro e S ⟨Q,rfl,u,C⟩
   obtain ⟨N,H,rfl⟩:=Zag u
   have D:=(h.trans (l.mono h.size)).trans (C.mono (h.trans (l.mono h.size)).size)
   have I:=ZgJ u
   go_wp2_with (refine ZbK _ rfl _ 161 9 5 rfl Tryz.underlying161 Tryz.underlying9 Tryz.underlying5 N (ZbD ys).length H (ZbD ys) rfl rfl I ?_)
   go_ret2
   exact ⟨by rw [j.out,y.out];rfl,D⟩
theorem Zlp {l:List Int}{s:ByteArray}(a:∀ z ∈ l,0 <= z/\z <= 255):strOfNums l=s <-> l=sb s:=by
 constructor
 ·intro h
  rw [<- h,ZiO a]
 ·intro h
  rw [h,Zc7]
theorem Zms {s:ByteArray}{a:List Nd}{i:Int}{k:Bool}(j:sP (sb s) 0 true=(a,i,k)) :
  (sOk (sb s) 0 true=false -> vrR (sb s)=none)/\(a=[] -> vrR (sb s)=none)/\(sOk (sb s) 0 true=true -> a ≠ [] -> (Zas a=true/\vpB a ((a.length:Int) - 1)=true)/\(vpR a ((a.length:Int) - 1)=s -> vrR (sb s)=some a)/\(vpR a ((a.length:Int) - 1) ≠ s -> vrR (sb s)=none)):=by
 have b:=fun ys=>ZkQ (sb s) (ZhG s) ys
 rw [j] at b
 refine ⟨fun h=>?_,fun h=>?_,fun h c=>?_⟩
 ·cases f:vrR (sb s) with
  | none=>rfl
  | some ys=>have:=((b ys).1 f).1.1;rw [h] at this;cases this
 ·cases f:vrR (sb s) with
  | none=>rfl
  | some ys=>obtain ⟨⟨_,d⟩,o,_⟩:=(b ys).1 f;exact absurd (d.symm.trans h) o
 ·have m:Zas a=true:=by
   unfold sOk at h
   rw [j] at h
   simp only [Bool.and_eq_true] at h
   exact h.2
  have n:=List.length_pos_iff.2 c
  have g:vpB a ((a.length:Int) - 1)=true:=by unfold vpB hasI;rw [m];simp;omega
  have l:vpR a ((a.length:Int) - 1)=strOfNums (ZbD (mvN 0 a [(a.length:Int) - 1])):=by unfold vpR;rw [if_pos g]
  refine ⟨⟨m,g⟩,fun e=>?_,fun e=>?_⟩
  ·rw [l,Zlp (Ze4 _)] at e
   exact (b a).2 ⟨⟨h,rfl⟩,c,e⟩
  ·cases f:vrR (sb s) with
   | none=>rfl
   | some ys =>
    obtain ⟨⟨_,d⟩,_,p⟩:=(b ys).1 f
    have d:a=ys:=d
    subst d
    exact absurd (by rw [l,Zlp (Ze4 _)];exact p) e
theorem Ziu (s:ByteArray)(w:World)(hs:s.size <= 140737488351232) :
  Calls Tryz.prog 115 #[.string s] w fun e w'=>VrAns w.heap.size (sb s) e w'/\Below w.heap.size w w':=by
 have D:Below w.heap.size w (w.alloc (Obj.cells #[.slice none 0 0] 40)):=(Below.refl _ _).alloc (Nat.le_refl _) _
 go_enter Tryz.func115,Tryz.ntmps115
 go_wp2_with (first
  | (refine Zbd _ rfl _ 9 161 5 rfl Tryz.underlying9 Tryz.underlying161 Tryz.underlying5 s rfl ?_;intro y n g0 g1 T N))
 have Q:(w.alloc (Obj.cells #[.slice none 0 0] 40)).heap.size=w.heap.size+1:=by simp
 have V:=Zbm (w:=w.alloc (Obj.cells #[.slice none 0 0] 40)) hs g0 g1 N
 rw [Q] at V N
 have x2:=(T.block w.heap.size (by rw [Q];omega) (by simp)).trans (heap_alloc_new w _)
 have B2:Below w.heap.size w n:=D.grown T D.size (fun k hk=>by cases hk)
 clear Q g1 T
 have O:Below n.heap.size n (n.alloc (Obj.cells #[.slice (some ⟨w.heap.size+1,0,none⟩) s.size y,.int .i64 0,.bool true] 163)):=(Below.refl _ _).alloc (Nat.le_refl _) _
 have L:C8 (n.alloc (Obj.cells #[.slice (some ⟨w.heap.size+1,0,none⟩) s.size y,.int .i64 0,.bool true] 163)) n.heap.size (.slice (some ⟨w.heap.size+1,0,none⟩) s.size y) 0 true:=heap_alloc_new _ _
 have x3:=(O.block w.heap.size (by omega)).trans x2
 have G:=B2.trans (O.mono B2.size)
 have z:=Zd6 n.heap.size _ (sb s) 0 true _ (V.below O) L (by omega) (by omega)
 have X:(n.alloc (Obj.cells #[.slice (some ⟨w.heap.size+1,0,none⟩) s.size y,.int .i64 0,.bool true] 163)).heap.size=n.heap.size+1:=by simp
 obtain ⟨p,hp⟩:∃ p,Hid (sP (sb s) 0 true=p):=⟨_,rfl⟩
 obtain ⟨c,ae,k⟩:=p
 obtain ⟨b,hb⟩:∃ b,Hid (sOk (sb s) 0 true=b):=⟨_,rfl⟩
 have F:=Zms hp.out
 rw [hb.out] at F
 rw [hp.out,hb.out] at z
 dsimp only at z
 refine z.mono ?_
 rintro e g ⟨vs,rfl,P,c4,x,ai⟩
 have x4:=(x.block w.heap.size (by rw [X];omega) (by simp;omega)).trans x3
 have E:Below w.heap.size w g:=G.grown x G.size (fun k hk=>by simp at hk;omega)
 have ah:n.heap.size+1 <= g.heap.size:=by have:=x.size;omega
 rw [X] at P
 have ag:w.heap.size+1 < n.heap.size:=N
 clear z x x3 G L O X D x2 B2 N V
 obtain ⟨f,d,rfl⟩:=Zag P
 have J:Below g.heap.size g (g.alloc (Obj.cells #[.slice f c.length d] 40)):=(Below.refl _ _).alloc (Nat.le_refl _) _
 have A:=(J.block _ (by omega)).trans x4
 have c5:=c4.below J
 have Z:=Zac P J
 have q:=E.trans (J.mono E.size)
 have U:(g.alloc (Obj.cells #[.slice f c.length d] 40)).heap[g.heap.size]? = some (.cells #[.slice f c.length d] 40 (0,0)):=heap_alloc_new _ _
 have W:(g.alloc (Obj.cells #[.slice f c.length d] 40)).cell? ⟨n.heap.size,2,none⟩=some (.bool b):=cell_of_row _ _ 2 _ _ _ c5
 have cp:(g.alloc (Obj.cells #[.slice f c.length d] 40)).cell? ⟨g.heap.size,0,none⟩=some (.slice f c.length d):=cell_of_row _ _ 0 _ _ _ U
 cases b with
 | false =>
  have hN:=F.1 rfl
  have l:Hid (vrL (sb s)=[]/\vrI (sb s)=0/\vrB (sb s)=false):=Zk7 hN
  clear F hN
  have Y:(g.alloc (Obj.cells #[.slice f c.length d] 40)).cell? ⟨w.heap.size,0,none⟩=some (.slice none 0 0):=cell_of_row (g.alloc (Obj.cells #[.slice f c.length d] 40)) _ 0 _ _ _ A
  have rf:(g.alloc (Obj.cells #[.slice f c.length d] 40)).frozen? ⟨w.heap.size,0,none⟩=false:=frozen_of_row (g.alloc (Obj.cells #[.slice f c.length d] 40)) _ 0 _ _ A
  have i:=heap_setCell_same (g.alloc (Obj.cells #[.slice f c.length d] 40)) w.heap.size 0 _ _ (.slice none 0 0) A
  have j:=q.setCell (p:=⟨w.heap.size,0,none⟩) (Nat.le_refl _) (.slice none 0 0)
  go_wp2
  refine bodyPost_ret (ZaW rfl _ _ w.heap.size 40 _ (0,0) _ rfl i Tryz.underlying40 rfl Znn) rfl ⟨VrAns.intro (.slice none 0 0) ?_ ?_,j⟩
  ·rw [l.out.2.1,l.out.2.2];rfl
  ·rw [l.out.1];exact World.ownsRow_nil _ _ _ _
 | true =>
  by_cases u:c=[]
  ·have l:Hid (vrL (sb s)=[]/\vrI (sb s)=0/\vrB (sb s)=false):=Zk7 (F.2.1 u)
   have S:(c.length:Int)=0:=by rw [u];rfl
   clear F u
   have Y:(g.alloc (Obj.cells #[.slice f c.length d] 40)).cell? ⟨w.heap.size,0,none⟩=some (.slice none 0 0):=cell_of_row (g.alloc (Obj.cells #[.slice f c.length d] 40)) _ 0 _ _ _ A
   have rf:(g.alloc (Obj.cells #[.slice f c.length d] 40)).frozen? ⟨w.heap.size,0,none⟩=false:=frozen_of_row (g.alloc (Obj.cells #[.slice f c.length d] 40)) _ 0 _ _ A
   have i:=heap_setCell_same (g.alloc (Obj.cells #[.slice f c.length d] 40)) w.heap.size 0 _ _ (.slice none 0 0) A
   have j:=q.setCell (p:=⟨w.heap.size,0,none⟩) (Nat.le_refl _) (.slice none 0 0)
   go_wp2
   refine bodyPost_ret (ZaW rfl _ _ w.heap.size 40 _ (0,0) _ rfl i Tryz.underlying40 rfl Znn) rfl ⟨VrAns.intro (.slice none 0 0) ?_ ?_,j⟩
   ·rw [l.out.2.1,l.out.2.2];rfl
   ·rw [l.out.1];exact World.ownsRow_nil _ _ _ _
  ·obtain ⟨⟨r,R⟩,m,v⟩:=F.2.2 rfl u
   have ac:=List.length_pos_iff.2 u
   have ab:=ZaH r
   have S:¬ (c.length:Int)=0:=by omega
   have R5:NRow (g.alloc (Obj.cells #[.slice f c.length d] 40)) (.slice f c.length d) c:=NRow.of_own Z (by omega) (ZbH (ZbO r))
   have HK:=Zh7 _ c ((c.length:Int) - 1) _ R5
   obtain ⟨I,C⟩:∃ I,Hid (vpR c ((c.length:Int) - 1)=I):=⟨_,rfl⟩
   obtain ⟨tb,M⟩:∃ tb,Hid (vpB c ((c.length:Int) - 1)=tb):=⟨_,rfl⟩
   rw [C.out,M.out] at HK
   rw [C.out] at m v
   clear F C M R
   go_wp2_with fail
   refine HK.mono ?_
   rintro e o ⟨rfl,t⟩
   have H:=(bb A t)
   have y6:=(bb U t)
   have o6:=Zac Z t
   have K:=q.trans (t.mono q.size)
   clear HK t q J E x4 A U P Z c4 c5 W cp R5
   by_cases B:I=s
   ·have l:Hid (vrL (sb s)=c/\vrI (sb s)=(c.length:Int) - 1/\vrB (sb s)=true):=Zlk (m B)
    clear m v
    have q0:o.cell? ⟨g.heap.size,0,none⟩=some (.slice f c.length d):=cell_of_row o _ 0 _ _ _ y6
    have Y:o.cell? ⟨w.heap.size,0,none⟩=some (.slice none 0 0):=cell_of_row o _ 0 _ _ _ H
    have rf:o.frozen? ⟨w.heap.size,0,none⟩=false:=frozen_of_row o _ 0 _ _ H
    have af:g.heap.size ≠ w.heap.size:=by omega
    have i:=heap_setCell_same o w.heap.size 0 _ _ (.slice f c.length d) H
    have j:=K.setCell (p:=⟨w.heap.size,0,none⟩) (Nat.le_refl _) (.slice f c.length d)
    have aa:=Zah (ownsRow_setCell_below o6 (a:=⟨w.heap.size,0,none⟩) (by show w.heap.size < n.heap.size+1;omega) (.slice f c.length d)) (show w.heap.size <= n.heap.size+1 by omega)
    go_wp2_with fail
    go_region
    all_goals
     go_wp2
     refine bodyPost_ret (ZaW rfl _ _ w.heap.size 40 _ (0,0) _ rfl i Tryz.underlying40 rfl Znn) rfl ⟨VrAns.intro (.slice f c.length d) ?_ ?_,j.drew⟩
     ·rw [l.out.2.1,l.out.2.2];rfl
     ·rw [l.out.1];exact aa
   ·have l:Hid (vrL (sb s)=[]/\vrI (sb s)=0/\vrB (sb s)=false):=Zk7 (v B)
    have ad:(I.toList == s.toList)=false:=by
     rw [<- Bool.not_eq_true,beq_iff_eq,ByteArray.toList_eq,ByteArray.toList_eq]
     intro h
     apply B
     cases I
     cases s
     congr 1
     exact Array.toList_inj.1 h
    clear m v
    have Y:o.cell? ⟨w.heap.size,0,none⟩=some (.slice none 0 0):=cell_of_row o _ 0 _ _ _ H
    have rf:o.frozen? ⟨w.heap.size,0,none⟩=false:=frozen_of_row o _ 0 _ _ H
    have i:=heap_setCell_same o w.heap.size 0 _ _ (.slice none 0 0) H
    have j:=K.setCell (p:=⟨w.heap.size,0,none⟩) (Nat.le_refl _) (.slice none 0 0)
    go_wp2
    refine bodyPost_ret (ZaW rfl _ _ w.heap.size 40 _ (0,0) _ rfl i Tryz.underlying40 rfl Znn) rfl ⟨VrAns.intro (.slice none 0 0) ?_ ?_,j⟩
    ·rw [l.out.2.1,l.out.2.2];rfl
    ·rw [l.out.1];exact World.ownsRow_nil _ _ _ _
def pidB (i:Int):Bool:=decide (1 <= i/\i <= 1000000000)
def boxB (bx:List ByteArray):Bool:=decide (bx.length <= 20) && bx.all fun s=>vrB (sb s)
def outB (ox:List ByteArray):Bool:=decide (ox.length <= 40) && ox.all fun s=>decide (s.size <= 400)
def Zbr (ns:List Nd)(is:List In)(ds:List Df)(i:Int)(xs:List Nd)(m:Mc)(bx ox:List ByteArray):Bool:=pidB i && (boxB bx && (outB ox && Za3 ns is ds xs m))
theorem Zdf {b:List ByteArray}{f:ByteArray -> Bool}{k:Nat}{x:ByteArray}(h:∀ j y,b[j]? = some y -> j < k -> f y=true)(d:b[k]? = some x)(c:f x=true):∀ j y,b[j]? = some y -> j < k+1 -> f y=true:=fun j y a g=>by
 by_cases e:j=k
 ·subst e
  rw [d] at a
  cases a
  exact c
 ·exact h j y a (by omega)
theorem ZeS {a:List ByteArray}{f:ByteArray -> Bool}(h:∀ j y,a[j]? = some y -> j < a.length -> f y=true):a.all f=true:=List.all_eq_true.2 fun x c=>by
 obtain ⟨j,b,e⟩:=List.getElem_of_mem c
 exact h j x (by rw [<- e];simp [b]) b
theorem Zdi {a:List ByteArray}{f:ByteArray -> Bool}{k:Nat}{x:ByteArray}(c:a[k]? = some x)(b:f x=false):a.all f=false:=by
 rw [List.all_eq_false]
 exact ⟨x,List.mem_of_getElem? c,by simp [b]⟩
theorem Zi0 (i:Int)(w:World):Calls Tryz.prog 97 #[.int .i64 i] w fun e c=>e=.returned (.bool (pidB i))/\c=w:=by
 by_cases b:1 <= i
 ·by_cases a:i <= 1000000000
  ·go_enter Tryz.func97,Tryz.ntmps97
   go_wp2
   go_ret
   exact ⟨retB (by simp [pidB,b,a]),rfl⟩
  ·go_enter Tryz.func97,Tryz.ntmps97
   go_wp2
   go_ret
   exact ⟨retB (by simp [pidB,a]),rfl⟩
 ·go_enter Tryz.func97,Tryz.ntmps97
  go_wp2
  go_ret
  exact ⟨retB (by unfold pidB;rw [decide_eq_false_iff_not.2 (by omega)]),rfl⟩
theorem Zgi (v:Value)(a:List ByteArray)(w:World)(R:StRow w v a)(K:∀ x ∈ a,x.size <= 140737488351232)(L:ErrT w) :
  Calls Tryz.prog 155 #[v] w fun e N=>e=.returned (.bool (boxB a))/\Below w.heap.size w N:=by
 obtain ⟨T,M,rfl,I,U,P,b⟩:=R
 by_cases G:a.length <= 20
 rotate_left
 ·have O:20 < (a.length:Int):=by omega
  have l:Hid (boxB a=false):=by show boxB a=false;simp [boxB,G]
  go_enter Tryz.func155,Tryz.ntmps155
  go_wp2
  go_ret
  exact ⟨retB l.out.symm,Below.refl _ _⟩
 have H:Hid (boxB a=a.all fun s=>vrB (sb s)):=by show boxB a=a.all fun s=>vrB (sb s);simp [boxB,G]
 go_enter Tryz.func155,Tryz.ntmps155
 go_wp2
 go_loopw [13] (fun i wr=>∃ k:Nat,k <= a.length/\i=.int .i64 k/\Hid (∀ j x,a[j]? = some x -> j < k -> vrB (sb x)=true)/\Below w.heap.size w wr) (fun i _=>a.length - (intOf i).toNat)
 case atStart=>exact ⟨0,by omega,rfl,fun j x _ h=>by omega,Below.refl _ _⟩
 case round =>
  obtain ⟨k,S,rfl,A,t⟩:=hrel
  by_cases u:k < a.length
  ·obtain ⟨g,o,rfl,C,b⟩:=b (by intro e;subst e;simp at u)
   obtain ⟨x,d⟩:∃ x,a[k]? = some x:=⟨a[k],by simp [u]⟩
   have c0:=(t.cell (p:=⟨g,o+k,none⟩) C).trans (b k x d)
   have B:=Ziw x wr (K x (List.mem_of_getElem? d)) (L.below t (Nat.le_refl _))
   unfold VrAns at B
   have Q:Hid (a[k]? = some x):=d
   have l:=fun h=>Zdi (f:=fun s=>vrB (sb s)) d h
   have c:=fun h=>Zdf (f:=fun s=>vrB (sb s)) A.out d h
   clear b d
   generalize vrB (sb x)=bv at B l c
   go_wp2_with fail
   refine B.mono ?_
   rintro e J ⟨⟨V,rfl,n⟩,r⟩
   obtain ⟨D,z,rfl⟩:=Zag n
   have y:=t.trans (r.mono t.size)
   clear B n r c0
   have m:Below w.heap.size w (J.alloc (Obj.cells #[.slice D (vrL (sb x)).length z] 40)):=y.alloc y.size _
   cases bv with
   | true =>
    have q:=c rfl
    have E:Hid (∀ j x,a[j]? = some x -> j < k+1 -> vrB (sb x)=true):=q
    clear A c q l
    go_wp2
    go_roundw
    case rel=>exact ⟨k+1,by omega,by go_num,E,m⟩
    case measure=>simp [intOf];omega
   | false =>
    have F:Hid ((a.all fun s=>vrB (sb s))=false):=l rfl
    clear A c l
    go_wp2
    go_ret
    exact ⟨retB (H.out.trans F.out).symm,m⟩
  ·go_wp2
   go_ret
   have e:k=a.length:=by omega
   subst e
   exact ⟨retB (H.out.trans (ZeS A.out)).symm,t⟩
theorem Zgc (v:Value)(b:List ByteArray)(w:World)(R:StRow w v b) :
  Calls Tryz.prog 156 #[v] w fun e D=>e=.returned (.bool (outB b))/\Below w.heap.size w D:=by
 obtain ⟨H,C,rfl,B,I,r,a⟩:=R
 by_cases t:b.length <= 40
 rotate_left
 ·have E:40 < (b.length:Int):=by omega
  have F:Hid (outB b=false):=by show outB b=false;simp [outB,t]
  go_enter Tryz.func156,Tryz.ntmps156
  go_wp2
  go_ret
  exact ⟨retB F.out.symm,Below.refl _ _⟩
 have z:Hid (outB b=b.all fun s=>decide (s.size <= 400)):=by show outB b=b.all fun s=>decide (s.size <= 400);simp [outB,t]
 go_enter Tryz.func156,Tryz.ntmps156
 go_wp2
 go_loopw [10] (fun i wr=>∃ k:Nat,k <= b.length/\i=.int .i64 k/\Hid (∀ j x,b[j]? = some x -> j < k -> decide (x.size <= 400)=true)/\Below w.heap.size w wr) (fun i _=>b.length - (intOf i).toNat)
 case atStart=>exact ⟨0,by omega,rfl,fun j x _ h=>by omega,Below.refl _ _⟩
 case round =>
  obtain ⟨k,G,rfl,y,l⟩:=hrel
  by_cases c:k < b.length
  ·obtain ⟨g,o,rfl,m,a⟩:=a (by intro e;subst e;simp at c)
   obtain ⟨x,d⟩:∃ x,b[k]? = some x:=⟨b[k],by simp [c]⟩
   have c0:=(l.cell (p:=⟨g,o+k,none⟩) m).trans (a k x d)
   have q:=r x (List.mem_of_getElem? d)
   unfold maxLen at q
   have u:Hid (b[k]? = some x):=d
   clear a d
   by_cases A:x.size <= 400
   ·have n:¬ 400 < (x.size:Int):=by omega
    go_wp2
    go_roundw
    case rel=>exact ⟨k+1,by omega,by go_num,Zdf (f:=fun s=>decide (s.size <= 400)) y.out u.out (by simp [A]),l⟩
    case measure=>simp [intOf];omega
   ·have n:400 < (x.size:Int):=by omega
    go_wp2
    go_ret
    exact ⟨retB (z.out.trans (Zdi (f:=fun s=>decide (s.size <= 400)) u.out (by simp [A]))).symm,l⟩
  ·go_wp2
   go_ret
   have e:k=b.length:=by omega
   subst e
   exact ⟨retB (z.out.trans (ZeS y.out)).symm,l⟩
theorem ZdE (K U T v vb I:Value)(ns:List Nd)(is:List In)(ds:List Df)(i:Int)(n:List Nd)(m:Mc)(u y:List ByteArray)(w:World)(P:NRow w K ns)(L:InRow w U is)(N:DfRow w T ds)(R:NRow w v n)(G:StRow w vb u)(V:StRow w I y)(hz:∀ x ∈ u,x.size <= 140737488351232)(hg:ErrT w) :
  Calls Tryz.prog 127 #[.agg #[K,U,T],.agg #[.int .i64 i,v,.int .i64 m.p,.int .i64 m.s,.int .i64 m.e,.int .i64 m.d,.int .i64 m.t,.int .i64 m.q,.int .i64 m.r,vb,I]] w fun e w'=>e=.returned (.bool (Zbr ns is ds i n m u y))/\Below w.heap.size w w':=by
 obtain ⟨A,g,rfl⟩:∃ A g,v=.slice A n.length g:=by obtain ⟨A,g,rfl,_⟩:=R;exact ⟨A,g,rfl⟩
 obtain ⟨O,c1,rfl⟩:=P.small
 obtain ⟨Q,c2,rfl⟩:=L.small
 obtain ⟨J,c3,rfl⟩:=N.small
 obtain ⟨ab,X,rfl⟩:=G.small
 obtain ⟨M,S,rfl⟩:=V.small
 obtain ⟨f,D,C⟩:=Zav w (Obj.cells #[.slice O ns.length c1,.slice Q is.length c2,.slice J ds.length c3] 44) (Obj.cells #[.int .i64 i,.slice A n.length g,.int .i64 m.p,.int .i64 m.s,.int .i64 m.e,.int .i64 m.d,.int .i64 m.t,.int .i64 m.q,.int .i64 m.r,.slice ab u.length X,.slice M y.length S] 64)
 have j:Hid (Zbr ns is ds i n m u y=(pidB i && (boxB u && (outB y && Za3 ns is ds n m)))):=rfl
 go_enter Tryz.func127,Tryz.ntmps127
 go_wp2_with fail
 refine (Zi0 _ _).mono ?_
 rintro e w1 ⟨rfl,rfl⟩
 generalize pidB i=b1 at j ⊢
 cases b1 with
 | false =>
  go_wp2
  go_ret
  exact ⟨retB (by rw [j.out];rfl),f⟩
 | true =>
  go_wp2_with fail
  refine (Zgi _ u _ (G.below f) hz (hg.below f (Nat.le_refl _))).mono ?_
  rintro e H ⟨rfl,l⟩
  have h:=f.trans (l.mono f.size)
  have E:=(bb D l)
  have z:=(bb C l)
  clear f D C l
  generalize boxB u=b2 at j ⊢
  cases b2 with
  | false =>
   go_wp2
   go_ret
   exact ⟨retB (by rw [j.out];rfl),h⟩
  | true =>
   have k0:H.cell? ⟨w.heap.size+1,0+10,none⟩=some (.slice M y.length S):=cell_of_row H _ 10 _ _ _ z
   go_wp2_with fail
   refine (Zgc _ y _ (V.below h)).mono ?_
   rintro e a ⟨rfl,k⟩
   have c:=h.trans (k.mono h.size)
   have o:=(bb E k)
   have b:=(bb z k)
   clear h E z k k0
   generalize outB y=b3 at j ⊢
   cases b3 with
   | false =>
    go_wp2
    go_ret
    exact ⟨retB (by rw [j.out];rfl),c⟩
   | true =>
    have W:a.cell? ⟨w.heap.size,0,none⟩=some (.slice O ns.length c1):=cell_of_row a _ 0 _ _ _ o
    have l1:a.cell? ⟨w.heap.size,0+1,none⟩=some (.slice Q is.length c2):=cell_of_row a _ 1 _ _ _ o
    have Y:a.cell? ⟨w.heap.size,0+2,none⟩=some (.slice J ds.length c3):=cell_of_row a _ 2 _ _ _ o
    have k1:a.cell? ⟨w.heap.size+1,0+1,none⟩=some (.slice A n.length g):=cell_of_row a _ 1 _ _ _ b
    have k2:a.cell? ⟨w.heap.size+1,0+1+1,none⟩=some (.int .i64 m.p):=cell_of_row a _ 2 _ _ _ b
    have k3:a.cell? ⟨w.heap.size+1,0+1+2,none⟩=some (.int .i64 m.s):=cell_of_row a _ 3 _ _ _ b
    have k4:a.cell? ⟨w.heap.size+1,0+1+3,none⟩=some (.int .i64 m.e):=cell_of_row a _ 4 _ _ _ b
    have k5:a.cell? ⟨w.heap.size+1,0+1+4,none⟩=some (.int .i64 m.d):=cell_of_row a _ 5 _ _ _ b
    have k6:a.cell? ⟨w.heap.size+1,0+1+5,none⟩=some (.int .i64 m.t):=cell_of_row a _ 6 _ _ _ b
    have k7:a.cell? ⟨w.heap.size+1,0+1+6,none⟩=some (.int .i64 m.q):=cell_of_row a _ 7 _ _ _ b
    have k8:a.cell? ⟨w.heap.size+1,0+1+7,none⟩=some (.int .i64 m.r):=cell_of_row a _ 8 _ _ _ b
    go_wp2_with fail
    refine (ZcF _ _ _ _ ns is ds n m _ (P.below c) (L.below c) (N.below c) (R.below c)).mono ?_
    rintro e w4 ⟨rfl,F⟩
    have B:=c.trans (F.mono c.size)
    clear c o b F W l1 Y
    generalize Za3 ns is ds n m=Z at j ⊢
    cases Z with
    | false =>
     go_wp2
     go_ret
     exact ⟨retB (by rw [j.out];rfl),B⟩
    | true =>
     go_wp2
     go_ret
     exact ⟨retB (by rw [j.out];rfl),B⟩
theorem ZlN (x:Int)(w:World):Calls Tryz.prog 40 #[.int .i64 x,.int .i64 1,.int .i64 1000000000] w fun e a=>e=.returned (.bool (pidB x))/\a=w:=by
 refine (Zar x 1 1000000000 w).mono ?_
 rintro e a ⟨rfl,rfl⟩
 exact ⟨retB (by simp [pidB]),rfl⟩
theorem Zdy (v1 v2 v3 v vb vo:Value)(ns:List Nd)(is:List In)(ds:List Df)(i:Int)(J:List Nd)(m:Mc)(c l:List ByteArray)(w:World)(R1:NRow w v1 ns)(R2:InRow w v2 is)(R3:DfRow w v3 ds)(R:NRow w v J)(Rb:StRow w vb c)(Ro:StRow w vo l)(hz:∀ x ∈ c,x.size <= 140737488351232) :
  Calls Tryz.prog 79 #[.agg #[v1,v2,v3],.agg #[.int .i64 i,v,.int .i64 m.p,.int .i64 m.s,.int .i64 m.e,.int .i64 m.d,.int .i64 m.t,.int .i64 m.q,.int .i64 m.r,vb,vo]] w fun e w'=>e=.returned (.bool (Zbr ns is ds i J m c l))/\Below w.heap.size w w':=by
 obtain ⟨Z,B,rfl⟩:∃ Z B,v=.slice Z J.length B:=by obtain ⟨Z,B,rfl,_⟩:=R;exact ⟨Z,B,rfl⟩
 obtain ⟨a1,c1,rfl⟩:=R1.small
 obtain ⟨a2,c2,rfl⟩:=R2.small
 obtain ⟨a3,c3,rfl⟩:=R3.small
 obtain ⟨ab,cb,rfl,al,ar,av,a⟩:=Rb
 obtain ⟨ac,cc,rfl,ai,au,an,b⟩:=Ro
 obtain ⟨n,ae,V⟩:=Zav w (Obj.cells #[.slice a1 ns.length c1,.slice a2 is.length c2,.slice a3 ds.length c3] 44) (Obj.cells #[.int .i64 i,.slice Z J.length B,.int .i64 m.p,.int .i64 m.s,.int .i64 m.e,.int .i64 m.d,.int .i64 m.t,.int .i64 m.q,.int .i64 m.r,.slice ab c.length cb,.slice ac l.length cc] 64)
 have H:Hid (Zbr ns is ds i J m c l=(pidB i && (boxB c && (outB l && Za3 ns is ds J m)))):=rfl
 have HV:Hid (boxB c=(decide (c.length <= 20) && c.all fun s=>vrB (sb s))):=rfl
 have HW:Hid (outB l=(decide (l.length <= 40) && l.all fun s=>decide (s.size <= 400))):=rfl
 go_enter Tryz.func79,Tryz.ntmps79
 go_wp2_with fail
 refine (ZlN _ _).mono ?_
 rintro e w1 ⟨rfl,rfl⟩
 generalize pidB i=b1 at H ⊢
 cases b1 with
 | false =>
  go_wp2
  go_ret
  exact ⟨retB (by rw [H.out];rfl),n⟩
 | true =>
  go_wp2_with fail
  refine (ZdS _ _ _ _ ns is ds J m _ (R1.below n) (R2.below n) (R3.below n) (R.below n)).mono ?_
  rintro e T ⟨rfl,O⟩
  have A:=n.trans (O.mono n.size)
  have I:=(bb V O)
  clear n ae V O R R1 R2 R3
  generalize Za3 ns is ds J m=b2 at H ⊢
  cases b2 with
  | false =>
   go_wp2
   go_ret
   exact ⟨retB (by rw [H.out];simp),A⟩
  | true =>
   have k9:T.cell? ⟨w.heap.size+1,0+9,none⟩=some (.slice ab c.length cb):=cell_of_row T _ 9 _ _ _ I
   by_cases Q:c.length <= 20
   rotate_left
   ·have ap:20 < (c.length:Int):=by omega
    have K:Hid (boxB c=false):=by show boxB c=false;simp [boxB,Q]
    go_wp2
    go_ret
    exact ⟨retB (by rw [H.out,K.out];rfl),A⟩
   have W:T.cell? ⟨w.heap.size+1,0+10,none⟩=some (.slice ac l.length cc):=cell_of_row T _ 10 _ _ _ I
   by_cases P:l.length <= 40
   rotate_left
   ·have aq:40 < (l.length:Int):=by omega
    have K:Hid (outB l=false):=by show outB l=false;simp [outB,P]
    go_wp2
    go_ret
    exact ⟨retB (by rw [H.out,K.out];simp),A⟩
   replace HV:Hid (boxB c=c.all fun s=>vrB (sb s)):=by show boxB c=c.all fun s=>vrB (sb s);simp [boxB,Q]
   replace HW:Hid (outB l=l.all fun s=>decide (s.size <= 400)):=by show outB l=l.all fun s=>decide (s.size <= 400);simp [outB,P]
   go_wp2
   clear k9 W Q P
   go_loopw [5] (fun i wr=>∃ k:Nat,k <= c.length/\i=.int .i64 k/\Hid (∀ j x,c[j]? = some x -> j < k -> vrB (sb x)=true)/\Below T.heap.size T wr) (fun i _=>c.length - (intOf i).toNat)
   case atStart=>exact ⟨0,by omega,rfl,fun j x _ h=>by omega,Below.refl _ _⟩
   case round =>
    obtain ⟨k,hk,rfl,L,E⟩:=hrel
    have G:=(bb I E)
    have k9:wr.cell? ⟨w.heap.size+1,0+9,none⟩=some (.slice ab c.length cb):=cell_of_row wr _ 9 _ _ _ G
    have u:=A.trans (E.mono A.size)
    clear A I
    by_cases y:k < c.length
    ·obtain ⟨g,o,rfl,N,a⟩:=a (by intro e;subst e;simp at y)
     obtain ⟨x,D⟩:∃ x,c[k]? = some x:=⟨c[k],by simp [y]⟩
     have c0:=(u.cell (p:=⟨g,o+k,none⟩) N).trans (a k x D)
     have HR:=Ziu x wr (hz x (List.mem_of_getElem? D))
     unfold VrAns at HR
     have K:=fun h=>Zdi (f:=fun s=>vrB (sb s)) D h
     have F:=fun h=>Zdf (f:=fun s=>vrB (sb s)) L.out D h
     clear a D b G
     generalize vrB (sb x)=bv at HR K F
     go_wp2_with fail
     refine HR.mono ?_
     rintro e w3 ⟨⟨v3,rfl,X⟩,C⟩
     obtain ⟨Y,M,rfl⟩:=Zag X
     have aa:=E.trans ((C.trans (((Below.refl w3.heap.size w3).alloc (Nat.le_refl _) (Obj.cells #[.slice Y (vrL (sb x)).length M] 40)).mono C.size)).mono E.size)
     have U:=u.trans ((C.trans (((Below.refl w3.heap.size w3).alloc (Nat.le_refl _) (Obj.cells #[.slice Y (vrL (sb x)).length M] 40)).mono C.size)).mono u.size)
     clear HR X C c0 k9 E u
     cases bv with
     | true =>
      have ad:Hid (∀ j x,c[j]? = some x -> j < k+1 -> vrB (sb x)=true):=F rfl
      clear L F K U
      go_wp2
      go_roundw
      case rel=>exact ⟨k+1,by omega,by go_num,ad,aa⟩
      case measure=>simp [intOf];omega
     | false =>
      have aj:Hid ((c.all fun s=>vrB (sb s))=false):=K rfl
      clear L F K aa
      go_wp2
      go_ret
      exact ⟨retB (by rw [H.out,HV.out,aj.out];rfl),U⟩
    ·have e:k=c.length:=by omega
     subst e
     have ah:Hid (boxB c=true):=HV.out.trans (ZeS L.out)
     clear L HV a E y hk
     go_wp2
     clear k9
     obtain ⟨wz,ag⟩:∃ z,z=wr:=⟨_,rfl⟩
     subst ag
     go_loopw [9] (fun i wq=>∃ k:Nat,k <= l.length/\i=.int .i64 k/\Hid (∀ j x,l[j]? = some x -> j < k -> decide (x.size <= 400)=true)/\Below wz.heap.size wz wq) (fun i _=>l.length - (intOf i).toNat)
     case atStart=>exact ⟨0,by omega,rfl,fun j x _ h=>by omega,Below.refl _ _⟩
     case round =>
      obtain ⟨k,hk,rfl,L,E⟩:=hrel
      have ak:=(bb G E)
      have W:wr.cell? ⟨w.heap.size+1,0+10,none⟩=some (.slice ac l.length cc):=cell_of_row wr _ 10 _ _ _ ak
      have S:=u.trans (E.mono u.size)
      clear u G
      by_cases y:k < l.length
      ·obtain ⟨g,o,rfl,N,b⟩:=b (by intro e;subst e;simp at y)
       obtain ⟨x,D⟩:∃ x,l[k]? = some x:=⟨l[k],by simp [y]⟩
       have c0:=(S.cell (p:=⟨g,o+k,none⟩) N).trans (b k x D)
       have af:=an x (List.mem_of_getElem? D)
       unfold maxLen at af
       have HX:Hid (l[k]? = some x):=D
       clear b D
       by_cases h4:x.size <= 400
       ·have am:¬ 400 < (x.size:Int):=by omega
        go_wp2
        go_roundw
        case rel=>exact ⟨k+1,by omega,by go_num,Zdf (f:=fun s=>decide (s.size <= 400)) L.out HX.out (by simp [h4]),E⟩
        case measure=>simp [intOf];omega
       ·have am:400 < (x.size:Int):=by omega
        go_wp2
        go_ret
        exact ⟨retB (by rw [H.out,HW.out,Zdi (f:=fun s=>decide (s.size <= 400)) HX.out (by simp [h4])];simp),S⟩
      ·go_wp2
       go_ret
       have e:k=l.length:=by omega
       subst e
       exact ⟨retB (by rw [H.out,ah.out,HW.out,ZeS L.out];rfl),S⟩
def argB (m:Mc):Bool:=(m.t == 1) || (m.t == 2)
def tdR (m:Mc):List Int:=if argB m then [m.s,m.e,m.d,m.r] else [m.s,m.e,m.d]
def tdOk (xs:List Nd)(m:Mc):Bool:=Zas xs && allI xs (tdR m)
def tdF (xs:List Nd)(m:Mc)(r:Int):Int:=(ZbB 0 xs (Zau xs (tdR m))).2.getD r.toNat 0
def tdL (xs:List Nd)(m:Mc):List Nd:=if tdOk xs m then mvN 0 xs (tdR m) else xs
def tdM (xs:List Nd)(m:Mc):Mc:=if tdOk xs m then ⟨m.p,tdF xs m m.s,tdF xs m m.e,tdF xs m m.d,m.t,m.q,if argB m then tdF xs m m.r else m.r⟩ else m
theorem Zge (m:Mc):(tdR m).length=if argB m then 4 else 3:=by unfold tdR;split <;> rfl
theorem Zf2 (u:Value)(m:Mc)(w:World) :
  Calls Tryz.prog 220 #[.agg #[u,.int .i64 m.p,.int .i64 m.s,.int .i64 m.e,.int .i64 m.d,.int .i64 m.t,.int .i64 m.q,.int .i64 m.r]] w fun e f=>e=.returned (.bool (argB m))/\Below w.heap.size w f:=by
 have c:Below w.heap.size w (w.alloc (Obj.cells #[u,.int .i64 m.p,.int .i64 m.s,.int .i64 m.e,.int .i64 m.d,.int .i64 m.t,.int .i64 m.q,.int .i64 m.r] 61)):=(Below.refl _ _).alloc (Nat.le_refl _) _
 unfold argB
 by_cases b:m.t=1
 ·rw [b]
  go_enter Tryz.func220,Tryz.ntmps220
  go_wp2
  go_ret
  exact ⟨rfl,(Below.refl _ _).alloc (Nat.le_refl _) _⟩
 ·have a:(m.t == 1)=false:=by simp [b]
  rw [a,Bool.false_or]
  go_enter Tryz.func220,Tryz.ntmps220
  go_wp2
  go_ret
  exact ⟨rfl,c⟩
theorem ZgZ (w:World)(l:List Int)(t:TypeId)(n:Nat)(h:n <= l.length)(b:l.length <= 100):IRow (w.alloc (Obj.cells (iv l).toArray t)) (.slice (some ⟨w.heap.size,0,none⟩) n n) (l.take n):=by
 have a:(l.take n).length=n:=by simp;omega
 refine ⟨some ⟨w.heap.size,0,none⟩,n,by rw [a],⟨by omega,fun h=>by cases h⟩,by omega,fun _=>⟨w.heap.size,0,rfl,by simp,fun i hi=>?_⟩⟩
 rw [cell_of_row _ _ _ _ _ _ (heap_alloc_new w _),Nat.zero_add]
 rw [a] at hi
 rw [ZiP _ _ _ _ hi,List.getElem?_toArray,ZcT _ _ (by omega)]
theorem Zhw (h:Option Addr)(n a:Nat)(m:Mc)(w:World) :
  Calls Tryz.prog 211 #[.agg #[.slice h n a,.int .i64 m.p,.int .i64 m.s,.int .i64 m.e,.int .i64 m.d,.int .i64 m.t,.int .i64 m.q,.int .i64 m.r]] w fun e x=>∃ v,e=.returned v/\IRow x v (tdR m)/\Below w.heap.size w x:=by
 have c:=Zlm w (Obj.cells #[.slice h n a,.int .i64 m.p,.int .i64 m.s,.int .i64 m.e,.int .i64 m.d,.int .i64 m.t,.int .i64 m.q,.int .i64 m.r] 61) (Obj.cells #[.int .i64 m.s,.int .i64 m.e,.int .i64 m.d,.int .i64 m.r] 3)
 have l:=ZgZ (w.alloc (Obj.cells #[.slice h n a,.int .i64 m.p,.int .i64 m.s,.int .i64 m.e,.int .i64 m.d,.int .i64 m.t,.int .i64 m.q,.int .i64 m.r] 61)) [m.s,m.e,m.d,m.r] 3 4 (by simp) (by simp)
 have o:=ZgZ (w.alloc (Obj.cells #[.slice h n a,.int .i64 m.p,.int .i64 m.s,.int .i64 m.e,.int .i64 m.d,.int .i64 m.t,.int .i64 m.q,.int .i64 m.r] 61)) [m.s,m.e,m.d,m.r] 3 3 (by simp) (by simp)
 have g:(w.alloc (Obj.cells #[.slice h n a,.int .i64 m.p,.int .i64 m.s,.int .i64 m.e,.int .i64 m.d,.int .i64 m.t,.int .i64 m.q,.int .i64 m.r] 61)).heap.size=w.heap.size+1:=by simp
 rw [g] at l o
 have i:Hid (tdR m=if argB m then [m.s,m.e,m.d,m.r] else [m.s,m.e,m.d]):=rfl
 clear g
 go_enter Tryz.func211,Tryz.ntmps211
 go_wp2_with fail
 refine (Zf2 _ m _).mono ?_
 rintro e y ⟨rfl,b⟩
 have f:=c.trans (b.mono c.size)
 have j:=l.below b
 have k:=o.below b
 clear l o c b
 cases u:argB m with
 | true =>
  rw [u] at i
  go_wp2
  go_ret
  exact ⟨_,rfl,by rw [i.out];exact j,f⟩
 | false =>
  rw [u] at i
  go_wp2
  go_ret
  exact ⟨_,rfl,by rw [i.out];exact k,f⟩
def mcs (v:Value)(m:Mc):Array Value:=#[v,.int .i64 m.p,.int .i64 m.s,.int .i64 m.e,.int .i64 m.d,.int .i64 m.t,.int .i64 m.q,.int .i64 m.r]
end Go.Proofs.YtfeodlbpnghakaaGreatDoor
