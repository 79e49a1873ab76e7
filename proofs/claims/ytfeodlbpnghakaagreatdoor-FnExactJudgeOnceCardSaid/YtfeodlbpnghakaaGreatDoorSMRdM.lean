/-
  Texts that stood by themselves, laid into one.
-/
import Derived.Test.YtfeodlbpnghakaaGreatDoorMRgM
import Derived.Test.YtfeodlbpnghakaaGreatDoorMPackM
import Derived.Test.YtfeodlbpnghakaaGreatDoorVMoveM
import Derived.Test.YtfeodlbpnghakaaGreatDoorS8RdM
import Derived.Test.YtfeodlbpnghakaaGreatDoorMark2M
/-
  The contract of (impl.reader).machine: a machine of a code is read from its bytes, or there is a mistake. Bounds of the form alone.
-/
set_option maxRecDepth 100000
set_option maxHeartbeats 12800000
namespace Go.Proofs.YtfeodlbpnghakaaGreatDoor
open Go.RowKit
def m0:Mc:=⟨0,0,0,0,0,0,0⟩
theorem ZbQ (a:Option Addr)(n c:Nat)(m:Mc):(mcs (.slice a n c) m).all (·.oneCell')=true:=by simp [mcs,Value.oneCell']
theorem ZlI {l:List Int}(h:l.length=7):setL (mcs (.slice none 0 0) m0) [1,5,6,2,3,4,7] l=mcs (.slice none 0 0) (mcOf l):=by
 match l,h with
 | [p,t,q,s,e,d,r],_=>rfl
theorem Zkv {ns:List Nd}{is:List In}{ds:List Df}{zs:List Int}(h:rdK zs 7 0=none):mrR ns is ds zs=none:=by unfold mrR;rw [h];rfl
theorem ZkI {ns:List Nd}{is:List In}{ds:List Df}{zs:List Int}{q:List Int × Int}(h:rdK zs 7 0=some q)(a:rdP zs q.2=none):mrR ns is ds zs=none:=by unfold mrR;rw [h];simp only [Option.bind_some];rw [a];rfl
theorem ZlU {ns:List Nd}{is:List In}{ds:List Df}{zs:List Int}{q:List Int × Int}{a:List Nd}{b:Int}(h:rdK zs 7 0=some q)(c:rdP zs q.2=some (a,b)) :
  mrR ns is ds zs=if b=zs.length/\Za3 ns is ds a (mcOf q.1)=true/\allR a (tdR (mcOf q.1))=true then some (a,mcOf q.1) else none:=by unfold mrR;rw [h];simp only [Option.bind_some];rw [c];rfl
theorem Zjb {w b:World}{B k n:Nat}{e:TypeId}{v:Value}{l:List Value}(h:w.ownsRow B e k v n l)(f:∀ j,v.ownBlock=some j -> b.heap[j]? = w.heap[j]?):b.ownsRow B e k v n l:=by
 refine ⟨h.1,?_⟩
 rcases h.2 with c | ⟨g,a,cur,rfl,d,m,i⟩
 ·exact Or.inl c
 ·exact Or.inr ⟨g,a,cur,rfl,d,(f g rfl).trans m,i⟩
def MAns (B:Nat)(ns:List Nd)(is:List In)(ds:List Df)(zs:List Int)(e:Ending)(w':World):Prop :=
 (∃ xs m ao n c,mrR ns is ds zs=some (xs,m)/\e=.returned (.tuple #[.agg (mcs (.slice ao n c) m),.nilIface])/\w'.ownsRow B 194 5 (.slice ao n c) xs.length (ncs xs)) \/ (mrR ns is ds zs=none/\∃ ao n c m p,e=.returned (.tuple #[.agg (mcs (.slice ao n c) m),badV p]))
theorem ZfW (v:Value)(zs:List Int)(t w:World)(P:Nat)(v1 v2 v3:Value)(ns:List Nd)(is:List In)(ds:List Df)(R:Row t v zs)(hb:Below t.heap.size t w)(hP:t.heap.size <= P)(h1:One w P 0)(R1:NRow t v1 ns)(R2:InRow t v2 is)(R3:DfRow t v3 ds) :
  Calls Tryz.prog 205 #[.agg #[v,.pointer (some ⟨P,0,none⟩)],.agg #[v1,v2,v3]] w fun e w'=>w.grownBy w' (some P)/\MAns w.heap.size ns is ds zs e w':=by
 obtain ⟨ao,B,rfl,_,aI,hz,_⟩:=id R
 obtain ⟨a1,c1,rfl⟩:=R1.small
 obtain ⟨a2,c2,rfl⟩:=R2.small
 obtain ⟨a3,c3,rfl⟩:=R3.small
 have aa:=hb.size
 have ar:=h1.lt
 obtain ⟨A,x,H,y,x3,V⟩:=Zeb w (Obj.cells #[Value.slice ao zs.length B,Value.pointer (some ⟨P,0,none⟩)] 235) (Obj.cells #[.slice a1 ns.length c1,.slice a2 is.length c2,.slice a3 ds.length c3] 44) (Obj.cells #[.slice none 0 0,.int .i64 0,.int .i64 0,.int .i64 0,.int .i64 0,.int .i64 0,.int .i64 0,.int .i64 0] 61) (Obj.cells #[.slice none 0 0,.int .i64 0,.int .i64 0,.int .i64 0,.int .i64 0,.int .i64 0,.int .i64 0,.int .i64 0] 61)
 go_enter Tryz.func205,Tryz.ntmps205
 go_wp2_with fail
 obtain ⟨E,ad⟩:∃ E,(((w.alloc (Obj.cells #[Value.slice ao zs.length B,Value.pointer (some ⟨P,0,none⟩)] 235)).alloc (Obj.cells #[.slice a1 ns.length c1,.slice a2 is.length c2,.slice a3 ds.length c3] 44)).alloc (Obj.cells #[.slice none 0 0,.int .i64 0,.int .i64 0,.int .i64 0,.int .i64 0,.int .i64 0,.int .i64 0,.int .i64 0] 61)).alloc (Obj.cells #[.slice none 0 0,.int .i64 0,.int .i64 0,.int .i64 0,.int .i64 0,.int .i64 0,.int .i64 0,.int .i64 0] 61)=E:=⟨_,rfl⟩
 rw [ad] at A x H y x3 V ⊢
 have l:Below E.heap.size E (E.alloc (Obj.cells (tgt (w.heap.size+1+1+1) [1,5,6,2,3,4,7]) 233)):=(Below.refl _ _).alloc (Nat.le_refl _) _
 have g:=hb.trans (A.mono aa)
 have al:E.heap[w.heap.size+1+1+1]? = some (.cells (mcs (.slice none 0 0) m0) 61 (0,0)):=x3
 have HC:=ZcV _ zs t (E.alloc (Obj.cells (tgt (w.heap.size+1+1+1) [1,5,6,2,3,4,7]) 233)) P (w.heap.size+1+1+1) E.heap.size 0 (mcs (.slice none 0 0) m0) 61 [1,5,6,2,3,4,7] R (g.trans (l.mono g.size)) hP (by omega) ((h1.below A ar).below l (by omega)) ((l.block _ (by omega)).trans al) (by intro o ho;simp at ho;simp [mcs];omega) (heap_alloc_new _ _) (by omega) (by omega) (by omega) (by simp)
 rw [V] at HC
 have aD:w.heap.size+1+1+1+1 <= (E.alloc (Obj.cells (tgt (w.heap.size+1+1+1) [1,5,6,2,3,4,7]) 233)).heap.size:=by have:=l.size;omega
 have hG:K2 P (w.heap.size+1+1+1) w (E.alloc (Obj.cells (tgt (w.heap.size+1+1+1) [1,5,6,2,3,4,7]) 233)):=(K2.ofB A).trans (K2.ofB l)
 have x:=(l.block _ (by omega)).trans x
 have H:=(l.block _ (by omega)).trans H
 have y:=(l.block _ (by omega)).trans y
 clear V x3 al l
 refine HC.mono ?_
 rintro e Y ⟨Q,h⟩
 have x:=(Q.block _ (by omega) (by omega) (by omega)).trans x
 have H:=(Q.block _ (by omega) (by omega) (by omega)).trans H
 have y:=(Q.block _ (by omega) (by omega) (by omega)).trans y
 have Q:=hG.trans Q
 have I:w.grownBy Y (some P):=Q.grown (by omega)
 clear hG aD HC A g ad
 rcases h with ⟨q,C,rfl,e3,K⟩ | ⟨C,⟨p,rfl⟩,⟨q,e3⟩,-⟩
 ·have C:rdK zs 7 0=some q:=C
  have aj:=ZeG C
  rw [ZlI aj] at K
  have HQ:Hid (rdK zs 7 0=some q):=C
  have l3:=(bl K)
  have c0:Y.cell? ⟨w.heap.size,0,none⟩=some (.slice ao zs.length B):=cell_of_row Y _ 0 _ _ _ x
  have cP:Y.cell? ⟨w.heap.size,1,none⟩=some (.pointer (some ⟨P,0,none⟩)):=cell_of_row Y _ 1 _ _ _ x
  have L:Below t.heap.size t Y:=hb.grown I aa (fun k hk=>by simp at hk;omega)
  clear C aj
  obtain ⟨m,ai⟩:∃ m,Hid (mcOf q.1=m):=⟨_,rfl⟩
  rw [ai.out] at K
  go_wp2_with fail
  refine (Zew _ zs t Y P q.2 R L hP e3).mono ?_
  rintro e i ⟨s,ak⟩
  have aG:=s.size
  have l0:=(bl x)
  have l2:=(bl y)
  have x:=(s.block _ l0 (by simp;omega)).trans x
  have H:=(s.block _ (by omega) (by simp;omega)).trans H
  have y:=(s.block _ l2 (by simp;omega)).trans y
  have K:=(s.block _ l3 (by simp;omega)).trans K
  have D:=Zaj I s
  clear c0 cP s L
  rcases ak with ⟨a,b,vs,n1,rfl,n3,n4⟩ | ⟨n1,⟨p,rfl⟩,b,n3⟩
  ·obtain ⟨d,c,rfl⟩:=Zag n3
   obtain ⟨aH,Z⟩:=ZiA hz n1
   have aF:=ZaH Z
   have HV:Hid (mrR ns is ds zs=if b=zs.length/\Za3 ns is ds a m=true/\allR a (tdR m)=true then some (a,m) else none):=by have:=ZlU (ns:=ns) (is:=is) (ds:=ds) HQ.out n1;rw [ai.out] at this;exact this
   have aB:=ZbH (ZbO Z)
   have u:Below i.heap.size i (i.alloc (Obj.cells #[.slice d a.length c] 40)):=(Below.refl _ _).alloc (Nat.le_refl _) _
   have am:=(bl K)
   have y0:=(u.block _ (by omega)).trans x
   have y1:=(u.block _ (by omega)).trans H
   have y2:=(u.block _ (by omega)).trans y
   have y3:=(u.block _ am).trans K
   have y8:(i.alloc (Obj.cells #[.slice d a.length c] 40)).heap[i.heap.size]? = some (.cells #[.slice d a.length c] 40 (0,0)):=heap_alloc_new _ _
   have yo:=Zac n3 u
   have yP:=n4.below u n4.lt
   have ae:=Zal D u D.size
   have au:=u.size
   have k8:(i.alloc (Obj.cells #[.slice d a.length c] 40)).cell? ⟨i.heap.size,0,none⟩=some (.slice d a.length c):=cell_of_row _ _ 0 _ _ _ y8
   have k3:(i.alloc (Obj.cells #[.slice d a.length c] 40)).cell? ⟨w.heap.size+1+1+1,0,none⟩=some (.slice none 0 0):=cell_of_row _ _ 0 _ _ _ y3
   have f3:(i.alloc (Obj.cells #[.slice d a.length c] 40)).frozen? ⟨w.heap.size+1+1+1,0,none⟩=false:=frozen_of_row _ _ 0 _ _ y3
   go_wp2_with fail
   have G:=Zan (i.alloc (Obj.cells #[.slice d a.length c] 40)) (w.heap.size+1+1+1) 0 (.slice d a.length c)
   have t3:=heap_setCell_same (i.alloc (Obj.cells #[.slice d a.length c] 40)) (w.heap.size+1+1+1) 0 _ _ (.slice d a.length c) y3
   have lA:w.heap.size+1+1+1 < i.heap.size:=am
   have t0:=(G.block _ (bl y0) (by simp <;> omega)).trans y0
   have t1:=(G.block _ (bl y1) (by simp <;> omega)).trans y1
   have t2:=(G.block _ (bl y2) (by simp <;> omega)).trans y2
   have t8:=(G.block _ (bl y8) (by simp;omega)).trans y8
   have tP:One _ P b:=(G.block _ yP.lt (by simp;omega)).trans yP
   have X:=yo.kept G (Zci yo (by omega))
   have n:=((K2.ofP (M:=w.heap.size+1+1+1) ae).trans (K2.ofM G)).grown (by omega)
   obtain ⟨J,T⟩:∃ J,(i.alloc (Obj.cells #[.slice d a.length c] 40)).setCell ⟨w.heap.size+1+1+1,0,none⟩ (.slice d a.length c)=J:=⟨_,rfl⟩
   have af:(i.setCell ⟨w.heap.size+1+1+1,0,none⟩ (.slice d a.length c)).alloc (Obj.cells #[.slice d a.length c] 40)=J:=by rw [<- T];exact (World.setCell_alloc_past _ _ _ _ (by omega)).symm
   rw [af]
   clear af
   rw [T] at G t0 t1 t2 t3 t8 tP X n
   have sX:i.heap.size+1 <= J.heap.size:=by have:=G.size;simp at this;omega
   clear T G y0 y1 y2 y3 y8 yo yP ae D I k8 k3 f3 x H y u n3 n4 e3 K au Q
   have ag:Below t.heap.size t J:=hb.grown n aa (fun k hk=>by simp at hk;omega)
   have RW:∀ W,Below J.heap.size J W -> NRow W (.slice a1 ns.length c1) ns/\InRow W (.slice a2 is.length c2) is/\DfRow W (.slice a3 ds.length c3) ds/\NRow W (.slice d a.length c) a:=fun W F=>by
    have g:=ag.trans (F.mono ag.size)
    exact ⟨R1.below g,R2.below g,R3.below g,NRow.of_own (Zac X F) (by omega) aB⟩
   have l1:=(bl t1)
   have av:=(bl t2)
   cases z:Za3 ns is ds a m with
   | false =>
    have U:Hid (mrR ns is ds zs=none):=by unfold Hid;rw [HV.out,if_neg];rw [z];intro h;exact absurd h.2.1 (by simp)
    refine Zku (w.heap.size+1) (w.heap.size+1+1+1) i.heap.size a.length c d _ _ _ m J _ t1 t3 t8 (fun W F=>by obtain ⟨q1,q2,q3,q4⟩:=RW W F;have:=ZcF _ _ _ _ ns is ds a m W q1 q2 q3 q4;rw [z] at this;exact this) ?_
    intro u35 u36 u37 u38 u39 u40 u41 u42 u43 u44 wx f
    have O:=(bb t2 f)
    go_wp2_with (refine Zai rfl 61 _ _ rfl (w.heap.size+1+1) (mcs (.slice none 0 0) m0) rfl rfl 61 _ O ZmU rfl (ZbQ _ _ _ _) ?_)
    intro wz S ab _
    go_wp2
    exact bodyPost_ret (Zab rfl _ _ (w.heap.size+1+1) 61 _ (0,0) _ rfl S Tryz.underlying61 rfl ZmU) rfl ⟨Zal (Zal n f n.size) ab (by omega),Or.inr ⟨U.out,_,_,_,_,_,rfl⟩⟩
   | true =>
    obtain ⟨_,ha,_⟩:=ZbC z
    obtain ⟨kb,N⟩:∃ kb,Hid (allR a (tdR m)=kb):=⟨_,rfl⟩
    refine ZkU (w.heap.size+1) (w.heap.size+1+1+1) i.heap.size a.length c d _ _ _ m J _ t1 t3 t8 (fun W F=>by obtain ⟨q1,q2,q3,q4⟩:=RW W F;have:=ZcF _ _ _ _ ns is ds a m W q1 q2 q3 q4;rw [z] at this;exact this) kb (fun W _=>Zhw d a.length c m W) (fun W vl F RL=>by have:=Zd7 _ vl a (tdR m) W (RW W F).2.2.2 RL Z ha;rw [N.out] at this;exact this) ?_
    intro u35 u36 u37 u38 u39 u40 u41 u42 u43 u44 wx f
    cases kb with
    | false =>
     have U:Hid (mrR ns is ds zs=none):=by unfold Hid;rw [HV.out,if_neg];rw [N.out];intro h;exact absurd h.2.2 (by simp)
     have O:=(bb t2 f)
     go_wp2_with (refine Zai rfl 61 _ _ rfl (w.heap.size+1+1) (mcs (.slice none 0 0) m0) rfl rfl 61 _ O ZmU rfl (ZbQ _ _ _ _) ?_)
     intro wz S ab _
     go_wp2
     exact bodyPost_ret (Zab rfl _ _ (w.heap.size+1+1) 61 _ (0,0) _ rfl S Tryz.underlying61 rfl ZmU) rfl ⟨Zal (Zal n f n.size) ab (by omega),Or.inr ⟨U.out,_,_,_,_,_,rfl⟩⟩
    | true =>
     have s0:=(bb t0 f)
     have s2:=(f.block _ av).trans t2
     have s3:=(bb t3 f)
     have sP:=tP.below f tP.lt
     have ac:=Zal n f n.size
     have ay:=Zac X f
     go_wp2_with fail
     refine Zk0 w.heap.size (w.heap.size+1+1) (w.heap.size+1+1+1) a.length c d (.slice ao zs.length B) (.pointer (some ⟨P,0,none⟩)) m _ (ZgU b zs.length) wx _ s0 s3 s2 rfl (by omega) (by omega) (fun W F=>Zdd _ zs P b W ⟨ao,B,rfl⟩ (sP.below F sP.lt)) ?_
     intro u49 u50 u51 r W ah g az
     have aq:=setRow_heap W (w.heap.size+1+1) _ (mcs (.slice d a.length c) m) _ _ az
     have an:Below (w.heap.size+1+1) W (W.setRow (w.heap.size+1+1) (mcs (.slice d a.length c) m)):=below_setRow (Below.refl _ _) (Nat.le_refl _) _
     have aC:=Zal (Zal ac g ac.size) an (by omega)
     have oz:=Zac ay g
     have oZ:(W.setRow (w.heap.size+1+1) (mcs (.slice d a.length c) m)).ownsRow w.heap.size 194 5 (.slice d a.length c) a.length (ncs a):=Zah (Zjb oz (fun j hj=>setRow_other _ _ _ _ (by have:=(oz.lt j hj).1;omega))) (by omega)
     have HF:Hid ((mrR ns is ds zs=some (a,m)/\r=.nilIface) \/ (mrR ns is ds zs=none/\∃ p,r=badV p)):=by
      unfold Hid
      rw [HV.out]
      rcases ah with ⟨C,e2⟩ | ⟨C,e2⟩
      ·rw [if_neg (fun h=>by have:=h.1;omega)];exact Or.inr ⟨rfl,e2⟩
      ·rw [if_pos ⟨by omega,z,N.out⟩];exact Or.inl ⟨rfl,e2⟩
     clear ah
     go_wp2
     refine bodyPost_ret (Zab rfl _ _ (w.heap.size+1+1) 61 _ (0,0) _ rfl aq Tryz.underlying61 rfl ZmU) rfl ⟨aC,?_⟩
     rcases HF.out with ⟨f1,f2⟩ | ⟨f1,p,f2⟩
     ·exact Or.inl ⟨a,m,_,_,_,f1,by rw [<- f2];rfl,oZ⟩
     ·exact Or.inr ⟨f1,_,_,_,_,p,by rw [<- f2];rfl⟩
  ·have U:Hid (mrR ns is ds zs=none):=ZkI HQ.out n1
   have u:Below i.heap.size i (i.alloc (Obj.cells #[.slice none 0 0] 40)):=(Below.refl _ _).alloc (Nat.le_refl _) _
   have y2:=(bb y u)
   unfold badV
   go_wp2_with (refine Zai rfl 61 _ _ rfl (w.heap.size+1+1) (mcs (.slice none 0 0) m0) rfl rfl 61 _ y2 ZmU rfl (ZbQ _ _ _ _) ?_)
   intro w3 aE aA _
   go_wp2
   exact bodyPost_ret (Zab rfl _ _ (w.heap.size+1+1) 61 _ (0,0) _ rfl aE Tryz.underlying61 rfl ZmU) rfl ⟨Zal (Zal D u D.size) aA (by omega),Or.inr ⟨U.out,_,_,_,_,p,rfl⟩⟩
 ·have C:rdK zs 7 0=none:=C
  have U:Hid (mrR ns is ds zs=none):=Zkv C
  unfold badV
  go_wp2_with (refine Zai rfl 61 _ _ rfl (w.heap.size+1+1) (mcs (.slice none 0 0) m0) rfl rfl 61 _ y ZmU rfl (ZbQ _ _ _ _) ?_)
  intro i ax aw _
  go_wp2
  exact bodyPost_ret (Zab rfl _ _ (w.heap.size+1+1) 61 _ (0,0) _ rfl ax Tryz.underlying61 rfl ZmU) rfl ⟨Zal I aw (by omega),Or.inr ⟨U.out,_,_,_,_,p,rfl⟩⟩
theorem Zic (v1 v2 v3 v:Value)(ns:List Nd)(is:List In)(ds:List Df)(f:List Nd)(m:Mc)(w:World)(R1:NRow w v1 ns)(R2:InRow w v2 is)(R3:DfRow w v3 ds)(R:NRow w v f) :
  Calls Tryz.prog 120 #[.agg #[v1,v2,v3],.agg #[v,.int .i64 m.p,.int .i64 m.s,.int .i64 m.e,.int .i64 m.d,.int .i64 m.t,.int .i64 m.q,.int .i64 m.r]] w fun e w'=>e=.returned (.tuple #[.string (mpR ns is ds f m),.bool (Za3 ns is ds f m)])/\Below w.heap.size w w':=by
 have R':=R
 obtain ⟨ao,L,rfl,_⟩:=R'
 obtain ⟨a1,c1,rfl⟩:=R1.small
 obtain ⟨a2,c2,rfl⟩:=R2.small
 obtain ⟨a3,c3,rfl⟩:=R3.small
 obtain ⟨g,ad,K⟩:=Zav w (Obj.cells #[.slice a1 ns.length c1,.slice a2 is.length c2,.slice a3 ds.length c3] 44) (Obj.cells #[.slice ao f.length L,.int .i64 m.p,.int .i64 m.s,.int .i64 m.e,.int .i64 m.d,.int .i64 m.t,.int .i64 m.q,.int .i64 m.r] 61)
 go_enter Tryz.func120,Tryz.ntmps120
 go_wp2_with fail
 refine (ZdS _ _ _ _ ns is ds f m _ (R1.below g) (R2.below g) (R3.below g) (R.below g)).mono ?_
 rintro e w1 ⟨rfl,D⟩
 have l:=g.trans (D.mono g.size)
 have P:=(bb K D)
 clear g ad K D
 cases J:Za3 ns is ds f m with
 | false =>
  have HR:Hid (mpR ns is ds f m=ByteArray.empty):=by unfold Hid mpR;rw [J];rfl
  go_wp2
  go_ret2
  exact ⟨by rw [HR.out,J];rfl,l⟩
 | true =>
  have HR:Hid (mpR ns is ds f m=strOfNums (mpL f m)):=by unfold Hid mpR;rw [J];rfl
  have HL:Hid (mpL f m=(mpN (tdM f m)).flatMap encI ++ ZbD (tdL f m)):=rfl
  obtain ⟨hz,F,al⟩:=Zhd J
  have ay:=ZbM (ZbC J).1
  have IT:=fun (v:Value) (w:World) (R:NRow w v f)=>Zi5 v f m w R (by omega)
  generalize tdL f m=Q at *
  generalize tdM f m=M at *
  go_wp2_with (refine wpList_load_row rfl 61 _ rfl (w.heap.size+1) rfl 61 #[.slice ao f.length L,.int .i64 m.p,.int .i64 m.s,.int .i64 m.e,.int .i64 m.d,.int .i64 m.t,.int .i64 m.q,.int .i64 m.r] (0,0) _ P Tryz.underlying61 rfl ZmU ?_)
  refine (IT _ _ (R.below l)).mono ?_
  rintro e h ⟨v3,rfl,G,S⟩
  obtain ⟨Z,cq,rfl⟩:=Zag G
  have C:=l.trans (S.mono l.size)
  clear l P S
  go_wp2_with (refine Zai rfl 61 _ _ rfl h.heap.size #[.slice Z Q.length cq,.int .i64 M.p,.int .i64 M.s,.int .i64 M.e,.int .i64 M.d,.int .i64 M.t,.int .i64 M.q,.int .i64 M.r] rfl rfl 61 _ (heap_alloc_new _ _) ZmU rfl (by simp [Value.oneCell']) ?_)
  intro j E V ai
  have B:Below h.heap.size h j:=((Below.refl _ _).alloc (Nat.le_refl _) _).trans V
  have O:=C.trans (B.mono C.size)
  have RQ:NRow j (.slice Z Q.length cq) Q:=(NRow.of_own G (by omega) (ZbH F)).below B
  have A:h.heap.size < j.heap.size:=(bl E)
  clear G V ai B C
  have x:Below j.heap.size j (j.alloc (Obj.cells #[] 5)):=(Below.refl _ _).alloc (Nat.le_refl _) _
  have c:=(x.block _ A).trans E
  have y:=Zcl j 5 1 j.heap.size (Nat.le_refl _)
  generalize au:j.alloc (Obj.cells #[] 5)=b at x c y
  have e0:b.cell? ⟨h.heap.size,0,none⟩=some (.slice Z Q.length cq):=cell_of_row b _ 0 _ _ _ c
  have e1:b.cell? ⟨h.heap.size,1,none⟩=some (.int .i64 M.p):=cell_of_row b _ 1 _ _ _ c
  have e2:b.cell? ⟨h.heap.size,2,none⟩=some (.int .i64 M.s):=cell_of_row b _ 2 _ _ _ c
  have e3:b.cell? ⟨h.heap.size,3,none⟩=some (.int .i64 M.e):=cell_of_row b _ 3 _ _ _ c
  have e4:b.cell? ⟨h.heap.size,4,none⟩=some (.int .i64 M.d):=cell_of_row b _ 4 _ _ _ c
  have e5:b.cell? ⟨h.heap.size,5,none⟩=some (.int .i64 M.t):=cell_of_row b _ 5 _ _ _ c
  have e6:b.cell? ⟨h.heap.size,6,none⟩=some (.int .i64 M.q):=cell_of_row b _ 6 _ _ _ c
  have e7:b.cell? ⟨h.heap.size,7,none⟩=some (.int .i64 M.r):=cell_of_row b _ 7 _ _ _ c
  have an:h.heap.size < b.heap.size:=(bl c)
  have U:Below b.heap.size b (b.alloc (Obj.cells (iv (mpN M)).toArray 3)):=(Below.refl _ _).alloc (Nat.le_refl _) _
  have ae:(b.alloc (Obj.cells (iv (mpN M)).toArray 3)).heap[b.heap.size]? = some (.cells (iv (mpN M)).toArray 3 (0,0)):=heap_alloc_new _ _
  have ax:=ZlL M
  have av:(mpN M).length=7:=rfl
  have N:=Zac y U
  have ab:=x.trans (U.mono x.size)
  go_wp2_with fail
  go_loopw [7,9] (fun vo i wr=>∃ k:Nat,k <= 7/\i=.int .i64 k/\OwnB wr j.heap.size vo (((mpN M).take k).flatMap encI)/\Below j.heap.size j wr/\wr.heap[b.heap.size]? = some (.cells (iv (mpN M)).toArray 3 (0,0))) (fun _ i _=>7 - (intOf i).toNat)
  case atStart=>exact ⟨0,by omega,rfl,N,ab,ae⟩
  case round =>
   obtain ⟨k,hk,rfl,Y,a,n⟩:=hrel
   clear e0 e1 e2 e3 e4 e5 e6 e7
   by_cases az:k < 7
   ·have ak:b.heap.size < wr.heap.size:=(bl n)
    have c0:wr.cell? ⟨b.heap.size,k,none⟩=some (.int .i64 ((mpN M).getD k 0)):=by
     rw [cell_of_row wr _ k _ _ _ n]
     simpa using ZcT (mpN M) k (by omega)
    have W:(mpN M).getD k 0 <= 9223372036854775807:=hz _ (by simp [List.getD_eq_getElem?_getD,List.getElem?_eq_getElem (show k < (mpN M).length by omega)])
    have HT:Hid (((mpN M).take (k+1)).flatMap encI=((mpN M).take k).flatMap encI ++ encI ((mpN M).getD k 0)):=ZjX (mpN M) k (by omega)
    have aw:(((mpN M).take k).flatMap encI).length <= 63:=by
     have:=Zhj ((mpN M).take k)
     rw [List.length_take] at this
     omega
    obtain ⟨z,ah⟩:∃ z,Hid ((mpN M).getD k 0=z):=⟨_,rfl⟩
    rw [ah.out] at c0 W HT
    have ar:=Zaq z
    generalize ((mpN M).take k).flatMap encI=cs at *
    go_wp2_with fail
    refine (ZaV z _ W).mono ?_
    rintro e wc ⟨vc,rfl,H,u⟩
    obtain ⟨ac,cc,rfl⟩:=Zag H
    clear c0
    have o:=Zac Y u
    go_wp2_with (at_builtin;refine ZdO rfl _ _ rfl rfl o (by have:=a.size;have:=u.size;omega) rfl H (by omega) ?_)
    intro vd wd I X sd
    have am:=(a.trans (u.mono a.size)).trans X
    have aj:=sd _ _ _ (by decide) ((u.block _ ak).trans n)
    rw [<- HT.out] at I
    clear H u o Y X sd a n
    go_wp2
    go_roundw
    case rel=>exact ⟨k+1,by omega,by go_num,I,am,aj⟩
    case measure=>simp [intOf];omega
   ·have aa:k=7:=by omega
    subst aa
    have eT:(mpN M).take 7=mpN M:=rfl
    rw [eT] at Y
    have ag:=(a.block _ A).trans E
    have f0:wr.cell? ⟨h.heap.size,0,none⟩=some (.slice Z Q.length cq):=cell_of_row wr _ 0 _ _ _ ag
    have ap:(ZbD Q).length <= 90009:=by
     have:=Zfu Q F
     have:=Zaq Q.length
     unfold ZbD
     rw [List.length_append]
     omega
    generalize (mpN M).flatMap encI=cs at *
    go_wp2_with fail
    refine (ZdF _ Q _ (RQ.below a) F al).mono ?_
    rintro e wc ⟨vc,rfl,H,u⟩
    obtain ⟨ac,cc,rfl⟩:=Zag H
    have o:=Zac Y u
    clear f0
    go_wp2_with (at_builtin;refine ZdO rfl _ _ rfl rfl o (by have:=a.size;have:=u.size;omega) rfl H (by omega) ?_)
    intro vd wd I X sd
    have af:=O.trans (((a.trans (u.mono a.size)).trans X).mono O.size)
    obtain ⟨bb,T⟩:∃ bb,Hid (cs ++ ZbD Q=bb):=⟨_,rfl⟩
    rw [T.out] at I
    obtain ⟨a6,k6,rfl⟩:=Zag I
    have hT:=ZgJ I
    go_wp2_with (refine ZbK _ rfl _ 161 9 5 rfl Tryz.underlying161 Tryz.underlying9 Tryz.underlying5 a6 bb.length k6 bb rfl rfl hT ?_)
    go_ret2
    exact ⟨by rw [HR.out,HL.out,T.out,J];rfl,af⟩
theorem Row.cur {W d:World}{v:Value}{zs:List Int}{C:Nat}{a:Int}{ok:Bool}(R:Row W v zs)(m:C8 W C v a ok)(h:W.grownBy d (some C)):Row d v zs:=by
 obtain ⟨n,c,rfl,k,j,l,p⟩:=R
 refine ⟨n,c,rfl,k,j,l,fun b=>?_⟩
 obtain ⟨g,o,rfl,f,e⟩:=p b
 have n1:=Row.apart (List.length_pos_iff.2 b) e m (Zlc _ _ _ _ _)
 refine ⟨g,o,rfl,Nat.lt_of_lt_of_le f h.size,fun i hi=>?_⟩
 rw [World.cell?_of_block (w:=W) (h.block g f (by simpa using n1))]
 exact e i hi
theorem ZbZ {w d b:World}{P g:Nat}(h:w.grownBy d (some P))(e:w.heap.size <= g)(k:d.grownBy b (some g)):w.grownBy b (some P) :=
 ⟨k.os.trans h.os,k.tape.trans h.tape,k.output.trans h.output,Nat.le_trans h.size k.size,fun j c a=>(k.block j (Nat.lt_of_lt_of_le c h.size) (by simp;omega)).trans (h.block j c a)⟩
def mrL (r:Option (List Nd × Mc)):List Nd:=match r with | some p=>p.1 | none=>[]
def mrM (r:Option (List Nd × Mc)):Mc:=match r with | some p=>p.2 | none=>m0
def MrAns (B:Nat)(r:Option (List Nd × Mc))(e:Ending)(w':World):Prop:=∃ v',e=.returned (.tuple #[.agg #[v',.int .i64 (mrM r).p,.int .i64 (mrM r).s,.int .i64 (mrM r).e,.int .i64 (mrM r).d,.int .i64 (mrM r).t,.int .i64 (mrM r).q,.int .i64 (mrM r).r],.bool r.isSome])/\w'.ownsRow B 194 5 v' (mrL r).length (ncs (mrL r))
theorem MrAns.intro {B:Nat}{r:Option (List Nd × Mc)}{e:Ending}{b:World}(a:Value)(h:e=.returned (.tuple #[.agg #[a,.int .i64 (mrM r).p,.int .i64 (mrM r).s,.int .i64 (mrM r).e,.int .i64 (mrM r).d,.int .i64 (mrM r).t,.int .i64 (mrM r).q,.int .i64 (mrM r).r],.bool r.isSome]))(k:b.ownsRow B 194 5 a (mrL r).length (ncs (mrL r))):MrAns B r e b:=⟨a,h,k⟩
theorem ZjZ {l:List Int}{s:ByteArray}(a:∀ z ∈ l,0 <= z/\z <= 255):strOfNums l=s <-> l=sb s:=by
 constructor
 ·intro h
  rw [<- h,ZiO a]
 ·intro h
  rw [h,Zc7]
theorem Zln (c:List Nd)(m:Mc):∀ z ∈ mpL c m,0 <= z/\z <= 255:=by
 intro z a
 unfold mpL at a
 rcases List.mem_append.1 a with h | h
 ·rw [List.mem_flatMap] at h
  obtain ⟨x,_,b⟩:=h
  exact ZbX x z b
 ·exact Ze4 _ z h
theorem Zmo {ns:List Nd}{is:List In}{ds:List Df}{s:ByteArray}{l:List Int}{a n:Int}{k u:Bool}{b:List Nd}(t:Zdx (sb s) 7 0 true=(l,a,k))(q:sP (sb s) a k=(b,n,u)) :
  (sOk (sb s) a k=false -> mrR ns is ds (sb s)=none)/\(sOk (sb s) a k=true -> Zas b=true/\(Za3 ns is ds b (mcOf l)=false -> mrR ns is ds (sb s)=none)/\(Za3 ns is ds b (mcOf l)=true -> (mpR ns is ds b (mcOf l)=s -> mrR ns is ds (sb s)=some (b,mcOf l))/\(mpR ns is ds b (mcOf l) ≠ s -> mrR ns is ds (sb s)=none))):=by
 have c:=fun ys m=>Zk4 (ns:=ns) (is:=is) (ds:=ds) (ZhG s) t ys m
 rw [q] at c
 refine ⟨fun h=>?_,fun h=>⟨?_,fun f=>?_,fun f=>⟨fun e=>?_,fun e=>?_⟩⟩⟩
 ·cases g:mrR ns is ds (sb s) with
  | none=>rfl
  | some p=>have:=((c p.1 p.2).1 g).1.1;rw [h] at this;cases this
 ·unfold sOk at h
  rw [q] at h
  simp only [Bool.and_eq_true] at h
  exact h.2
 ·cases g:mrR ns is ds (sb s) with
  | none=>rfl
  | some p =>
   obtain ⟨⟨_,d⟩,i,r,_⟩:=(c p.1 p.2).1 g
   have d:b=p.1:=d
   rw [<- d,i,f] at r
   cases r
 ·have j:mpR ns is ds b (mcOf l)=strOfNums (mpL b (mcOf l)):=by unfold mpR;rw [if_pos f]
  rw [j,ZjZ (Zln _ _)] at e
  exact (c b (mcOf l)).2 ⟨⟨h,rfl⟩,rfl,f,e⟩
 ·have j:mpR ns is ds b (mcOf l)=strOfNums (mpL b (mcOf l)):=by unfold mpR;rw [if_pos f]
  cases g:mrR ns is ds (sb s) with
  | none=>rfl
  | some p =>
   obtain ⟨⟨_,d⟩,i,_,o⟩:=(c p.1 p.2).1 g
   have d:b=p.1:=d
   rw [<- d,i] at o
   exact absurd (by rw [j,ZjZ (Zln _ _)];exact o) e
theorem Zir (v1 v2 v3:Value)(ns:List Nd)(is:List In)(ds:List Df)(s:ByteArray)(w:World)(R1:NRow w v1 ns)(R2:InRow w v2 is)(R3:DfRow w v3 ds)(hs:s.size <= 140737488351232) :
  Calls Tryz.prog 84 #[.agg #[v1,v2,v3],.string s] w fun e w'=>MrAns w.heap.size (mrR ns is ds (sb s)) e w'/\Below w.heap.size w w':=by
 obtain ⟨a1,c1,rfl⟩:=R1.small
 obtain ⟨a2,c2,rfl⟩:=R2.small
 obtain ⟨a3,c3,rfl⟩:=R3.small
 obtain ⟨W,z0,z1⟩:=Zav w (Obj.cells #[.slice a1 ns.length c1,.slice a2 is.length c2,.slice a3 ds.length c3] 44) (Obj.cells #[.slice none 0 0,.int .i64 0,.int .i64 0,.int .i64 0,.int .i64 0,.int .i64 0,.int .i64 0,.int .i64 0] 61)
 go_enter Tryz.func84,Tryz.ntmps84
 go_wp2_with (first
  | (refine Zbd _ rfl _ 9 161 5 rfl Tryz.underlying9 Tryz.underlying161 Tryz.underlying5 s rfl ?_;intro d J g0 g1 g2 g3))
 obtain ⟨W2,am⟩:∃ W2,(w.alloc (Obj.cells #[.slice a1 ns.length c1,.slice a2 is.length c2,.slice a3 ds.length c3] 44)).alloc (Obj.cells #[.slice none 0 0,.int .i64 0,.int .i64 0,.int .i64 0,.int .i64 0,.int .i64 0,.int .i64 0,.int .i64 0] 61)=W2:=⟨_,rfl⟩
 have au:W2.heap.size=w.heap.size+1+1:=by rw [<- am];simp
 rw [am] at W z0 z1 g1 g2 g3
 have RR:=Zbm (w:=W2) hs g0 g1 g3
 rw [au] at RR g3
 have z0:=(g2.block _ (by omega) (by simp)).trans z0
 have z1:=(g2.block _ (by omega) (by simp)).trans z1
 have B2:Below w.heap.size w J:=W.grown g2 W.size (fun k hk=>by cases hk)
 clear au g1 g2 am W
 have B3:Below J.heap.size J (J.alloc (Obj.cells #[.slice (some ⟨w.heap.size+1+1,0,none⟩) s.size d,.int .i64 0,.bool true] 163)):=(Below.refl _ _).alloc (Nat.le_refl _) _
 have i:C8 (J.alloc (Obj.cells #[.slice (some ⟨w.heap.size+1+1,0,none⟩) s.size d,.int .i64 0,.bool true] 163)) J.heap.size (.slice (some ⟨w.heap.size+1+1,0,none⟩) s.size d) 0 true:=heap_alloc_new _ _
 have x0:=(B3.block w.heap.size (by omega)).trans z0
 have x1:=(B3.block (w.heap.size+1) (by omega)).trans z1
 have Z:=B2.trans (B3.mono B2.size)
 have U:=RR.below B3
 have s3:J.heap.size+1 <= (J.alloc (Obj.cells #[.slice (some ⟨w.heap.size+1+1,0,none⟩) s.size d,.int .i64 0,.bool true] 163)).heap.size:=by simp
 obtain ⟨WB,aB⟩:∃ WB,J.alloc (Obj.cells #[.slice (some ⟨w.heap.size+1+1,0,none⟩) s.size d,.int .i64 0,.bool true] 163)=WB:=⟨_,rfl⟩
 rw [aB] at B3 i x0 x1 Z U s3 ⊢
 have bo:w.heap.size+1 < J.heap.size:=by omega
 obtain ⟨C,X⟩:∃ C,Hid (J.heap.size=C):=⟨_,rfl⟩
 rw [X.out] at i s3 bo ⊢
 clear X aB B3 z0 z1 B2 RR g3
 have G0:WB.grownBy WB (some C):=⟨rfl,rfl,rfl,Nat.le_refl _,fun _ _ _=>rfl⟩
 obtain ⟨q,bh,k1,e1,bK,bF,ba,aX,aN⟩:=ZaM C (.slice (some ⟨w.heap.size+1+1,0,none⟩) s.size d) (sb s) 0 true WB U i (by omega) (by omega)
 refine aN.mono ?_
 rintro e u1 ⟨rfl,aa,aq⟩
 have G1:=Zaj G0 aq
 go_wp2_with (refine Zai rfl 61 _ _ rfl u1.heap.size (mcs (.slice none 0 0) (⟨q,0,0,0,0,0,0⟩:Mc)) rfl rfl 61 _ (heap_alloc_new _ _) ZmU rfl (ZbQ _ _ _ _) ?_)
 intro n1 an aE bj
 clear bj
 have ac:Below u1.heap.size u1 n1:=((Below.refl _ _).alloc (Nat.le_refl _) _).trans aE
 have aa:=aa.below ac
 have G1:=Zaj G1 (ZcH ac (some C))
 have t:WB.heap.size <= u1.heap.size:=aq.size
 have lC:C < WB.heap.size:=by omega
 obtain ⟨c,ay⟩:∃ c,Hid (u1.heap.size=c):=⟨_,rfl⟩
 rw [ay.out] at an t ⊢
 clear ay ac aE aq aN
 obtain ⟨f,az,k2,e2,bQ,bz,a9,aV,aH⟩:=ZaM C (.slice (some ⟨w.heap.size+1+1,0,none⟩) s.size d) (sb s) bh k1 n1 (U.cur i G1) aa ba aX
 have bi:=(bl an)
 go_wp2_with fail
 refine aH.mono ?_
 rintro e u2 ⟨rfl,O,aj⟩
 have G2:=Zaj G1 aj
 have z:=(aj.block c bi (by simp;omega)).trans an
 have bX:u2.cell? ⟨c,5,none⟩=some (.int .i64 0):=cell_of_row _ _ 5 _ _ _ z
 have bO:u2.frozen? ⟨c,5,none⟩=false:=frozen_of_row _ _ 5 _ _ z
 have z:(u2.setCell ⟨c,5,none⟩ (.int .i64 f)).heap[c]? = some (.cells (mcs (.slice none 0 0) (⟨q,0,0,0,f,0,0⟩:Mc)) 61 (0,0)):=heap_setCell_same u2 c 5 _ _ (.int .i64 f) z
 have O:C8 (u2.setCell ⟨c,5,none⟩ (.int .i64 f)) C (.slice (some ⟨w.heap.size+1+1,0,none⟩) s.size d) az k2:=(heap_setCell_other u2 ⟨c,5,none⟩ C (.int .i64 f) (by show C ≠ c;omega)).trans O
 have G2:=ZbZ G2 t (Zan u2 c 5 (.int .i64 f))
 clear aH aj
 obtain ⟨n2,be⟩:∃ n2,u2.setCell ⟨c,5,none⟩ (.int .i64 f)=n2:=⟨_,rfl⟩
 rw [be] at z O G2
 obtain ⟨g,aL,k3,e3,bL,b0,bn,bt,aI⟩:=ZaM C (.slice (some ⟨w.heap.size+1+1,0,none⟩) s.size d) (sb s) az k2 n2 (U.cur i G2) O a9 aV
 have bd:=(bl z)
 go_wp2_with fail
 refine aI.mono ?_
 rintro e u3 ⟨rfl,V,ak⟩
 have G3:=Zaj G2 ak
 have v:=(ak.block c bd (by simp;omega)).trans z
 have bG:u3.cell? ⟨c,6,none⟩=some (.int .i64 0):=cell_of_row _ _ 6 _ _ _ v
 have bV:u3.frozen? ⟨c,6,none⟩=false:=frozen_of_row _ _ 6 _ _ v
 have v:(u3.setCell ⟨c,6,none⟩ (.int .i64 g)).heap[c]? = some (.cells (mcs (.slice none 0 0) (⟨q,0,0,0,f,g,0⟩:Mc)) 61 (0,0)):=heap_setCell_same u3 c 6 _ _ (.int .i64 g) v
 have V:C8 (u3.setCell ⟨c,6,none⟩ (.int .i64 g)) C (.slice (some ⟨w.heap.size+1+1,0,none⟩) s.size d) aL k3:=(heap_setCell_other u3 ⟨c,6,none⟩ C (.int .i64 g) (by show C ≠ c;omega)).trans V
 have G3:=ZbZ G3 t (Zan u3 c 6 (.int .i64 g))
 clear aI ak
 obtain ⟨n3,bq⟩:∃ n3,u3.setCell ⟨c,6,none⟩ (.int .i64 g)=n3:=⟨_,rfl⟩
 rw [bq] at v V G3
 obtain ⟨j,aJ,k4,e4,bx,bR,aT,a8,ax⟩:=ZaM C (.slice (some ⟨w.heap.size+1+1,0,none⟩) s.size d) (sb s) aL k3 n3 (U.cur i G3) V bn bt
 have br:=(bl v)
 go_wp2_with fail
 refine ax.mono ?_
 rintro e u4 ⟨rfl,L,ao⟩
 have G4:=Zaj G3 ao
 have B:=(ao.block c br (by simp;omega)).trans v
 have bS:u4.cell? ⟨c,2,none⟩=some (.int .i64 0):=cell_of_row _ _ 2 _ _ _ B
 have bC:u4.frozen? ⟨c,2,none⟩=false:=frozen_of_row _ _ 2 _ _ B
 have B:(u4.setCell ⟨c,2,none⟩ (.int .i64 j)).heap[c]? = some (.cells (mcs (.slice none 0 0) (⟨q,j,0,0,f,g,0⟩:Mc)) 61 (0,0)):=heap_setCell_same u4 c 2 _ _ (.int .i64 j) B
 have L:C8 (u4.setCell ⟨c,2,none⟩ (.int .i64 j)) C (.slice (some ⟨w.heap.size+1+1,0,none⟩) s.size d) aJ k4:=(heap_setCell_other u4 ⟨c,2,none⟩ C (.int .i64 j) (by show C ≠ c;omega)).trans L
 have G4:=ZbZ G4 t (Zan u4 c 2 (.int .i64 j))
 clear ax ao
 obtain ⟨n4,bg⟩:∃ n4,u4.setCell ⟨c,2,none⟩ (.int .i64 j)=n4:=⟨_,rfl⟩
 rw [bg] at B L G4
 obtain ⟨m,aK,k5,e5,bZ,bI,aS,aR,aA⟩:=ZaM C (.slice (some ⟨w.heap.size+1+1,0,none⟩) s.size d) (sb s) aJ k4 n4 (U.cur i G4) L aT a8
 have aQ:=(bl B)
 go_wp2_with fail
 refine aA.mono ?_
 rintro e u5 ⟨rfl,M,ah⟩
 have G5:=Zaj G4 ah
 have u:=(ah.block c aQ (by simp;omega)).trans B
 have bB:u5.cell? ⟨c,3,none⟩=some (.int .i64 0):=cell_of_row _ _ 3 _ _ _ u
 have bA:u5.frozen? ⟨c,3,none⟩=false:=frozen_of_row _ _ 3 _ _ u
 have u:(u5.setCell ⟨c,3,none⟩ (.int .i64 m)).heap[c]? = some (.cells (mcs (.slice none 0 0) (⟨q,j,m,0,f,g,0⟩:Mc)) 61 (0,0)):=heap_setCell_same u5 c 3 _ _ (.int .i64 m) u
 have M:C8 (u5.setCell ⟨c,3,none⟩ (.int .i64 m)) C (.slice (some ⟨w.heap.size+1+1,0,none⟩) s.size d) aK k5:=(heap_setCell_other u5 ⟨c,3,none⟩ C (.int .i64 m) (by show C ≠ c;omega)).trans M
 have G5:=ZbZ G5 t (Zan u5 c 3 (.int .i64 m))
 clear aA ah
 obtain ⟨n5,aZ⟩:∃ n5,u5.setCell ⟨c,3,none⟩ (.int .i64 m)=n5:=⟨_,rfl⟩
 rw [aZ] at u M G5
 obtain ⟨n,aO,k6,e6,bD,bw,bf,aW,ar⟩:=ZaM C (.slice (some ⟨w.heap.size+1+1,0,none⟩) s.size d) (sb s) aK k5 n5 (U.cur i G5) M aS aR
 have aP:=(bl u)
 go_wp2_with fail
 refine ar.mono ?_
 rintro e u6 ⟨rfl,S,ap⟩
 have G6:=Zaj G5 ap
 have E:=(ap.block c aP (by simp;omega)).trans u
 have bW:u6.cell? ⟨c,4,none⟩=some (.int .i64 0):=cell_of_row _ _ 4 _ _ _ E
 have bN:u6.frozen? ⟨c,4,none⟩=false:=frozen_of_row _ _ 4 _ _ E
 have E:(u6.setCell ⟨c,4,none⟩ (.int .i64 n)).heap[c]? = some (.cells (mcs (.slice none 0 0) (⟨q,j,m,n,f,g,0⟩:Mc)) 61 (0,0)):=heap_setCell_same u6 c 4 _ _ (.int .i64 n) E
 have S:C8 (u6.setCell ⟨c,4,none⟩ (.int .i64 n)) C (.slice (some ⟨w.heap.size+1+1,0,none⟩) s.size d) aO k6:=(heap_setCell_other u6 ⟨c,4,none⟩ C (.int .i64 n) (by show C ≠ c;omega)).trans S
 have G6:=ZbZ G6 t (Zan u6 c 4 (.int .i64 n))
 clear ar ap
 obtain ⟨n6,a7⟩:∃ n6,u6.setCell ⟨c,4,none⟩ (.int .i64 n)=n6:=⟨_,rfl⟩
 rw [a7] at E S G6
 obtain ⟨o,H,k7,e7,bE,bT,a5,bs,aF⟩:=ZaM C (.slice (some ⟨w.heap.size+1+1,0,none⟩) s.size d) (sb s) aO k6 n6 (U.cur i G6) S bf aW
 have aU:=(bl E)
 go_wp2_with fail
 refine aF.mono ?_
 rintro e u7 ⟨rfl,P,ae⟩
 have G7:=Zaj G6 ae
 have G:=(ae.block c aU (by simp;omega)).trans E
 have bY:u7.cell? ⟨c,7,none⟩=some (.int .i64 0):=cell_of_row _ _ 7 _ _ _ G
 have bM:u7.frozen? ⟨c,7,none⟩=false:=frozen_of_row _ _ 7 _ _ G
 have G:(u7.setCell ⟨c,7,none⟩ (.int .i64 o)).heap[c]? = some (.cells (mcs (.slice none 0 0) (⟨q,j,m,n,f,g,o⟩:Mc)) 61 (0,0)):=heap_setCell_same u7 c 7 _ _ (.int .i64 o) G
 have P:C8 (u7.setCell ⟨c,7,none⟩ (.int .i64 o)) C (.slice (some ⟨w.heap.size+1+1,0,none⟩) s.size d) H k7:=(heap_setCell_other u7 ⟨c,7,none⟩ C (.int .i64 o) (by show C ≠ c;omega)).trans P
 have G7:=ZbZ G7 t (Zan u7 c 7 (.int .i64 o))
 clear aF ae
 obtain ⟨n7,aY⟩:∃ n7,u7.setCell ⟨c,7,none⟩ (.int .i64 o)=n7:=⟨_,rfl⟩
 rw [aY] at G P G7
 have HK:Hid (Zdx (sb s) 7 0 true=([q,f,g,j,m,n,o],H,k7)):=by unfold Hid;simp only [Zdx];rw [e1];dsimp only;rw [e2];dsimp only;rw [e3];dsimp only;rw [e4];dsimp only;rw [e5];dsimp only;rw [e6];dsimp only;rw [e7]
 clear e1 e2 e3 e4 e5 e6 e7
 go_wp2_with fail
 have aD:=(bl G)
 have HR:=Zd6 C (.slice (some ⟨w.heap.size+1+1,0,none⟩) s.size d) (sb s) H k7 n7 (U.cur i G7) P a5 bs
 obtain ⟨p,hp⟩:∃ p,Hid (sP (sb s) H k7=p):=⟨_,rfl⟩
 obtain ⟨l,bk,kk⟩:=p
 obtain ⟨b,hb⟩:∃ b,Hid (sOk (sb s) H k7=b):=⟨_,rfl⟩
 have HV:=Zmo (ns:=ns) (is:=is) (ds:=ds) HK.out hp.out
 rw [hb.out,show mcOf [q,f,g,j,m,n,o]=(⟨q,j,m,n,f,g,o⟩:Mc) from rfl] at HV
 rw [hp.out,hb.out] at HR
 dsimp only at HR
 refine HR.mono ?_
 rintro e n8 ⟨vs,rfl,o8,aG,ab,a6⟩
 obtain ⟨y,D,rfl⟩:=Zag o8
 have G8:=Zaj G7 ab
 have T:=(ab.block c aD (by simp;omega)).trans G
 have bU:n8.cell? ⟨c,0,none⟩=some (.slice none 0 0):=cell_of_row _ _ 0 _ _ _ T
 have bH:n8.frozen? ⟨c,0,none⟩=false:=frozen_of_row _ _ 0 _ _ T
 have Q:(n8.setCell ⟨c,0,none⟩ (.slice y l.length D)).heap[c]? = some (.cells #[.slice y l.length D,.int .i64 q,.int .i64 j,.int .i64 m,.int .i64 n,.int .i64 f,.int .i64 g,.int .i64 o] 61 (0,0)):=heap_setCell_same n8 c 0 _ _ (.slice y l.length D) T
 have aC:C8 (n8.setCell ⟨c,0,none⟩ (.slice y l.length D)) C (.slice (some ⟨w.heap.size+1+1,0,none⟩) s.size d) bk b:=(heap_setCell_other n8 ⟨c,0,none⟩ C (.slice y l.length D) (by show C ≠ c;omega)).trans aG
 have G9:=ZbZ G8 t (Zan n8 c 0 (.slice y l.length D))
 have o9:=ownsRow_setCell_below o8 (a:=⟨c,0,none⟩) (by show c < n7.heap.size;exact aD) (.slice y l.length D)
 have al:=(G9.block w.heap.size (by omega) (by simp;omega)).trans x0
 have N:=(G9.block (w.heap.size+1) (by omega) (by simp;omega)).trans x1
 have B9:Below w.heap.size w (n8.setCell ⟨c,0,none⟩ (.slice y l.length D)):=Z.grown G9 Z.size (fun k hk=>by simp at hk;omega)
 have aw:(n8.setCell ⟨c,0,none⟩ (.slice y l.length D)).cell? ⟨C,2,none⟩=some (.bool b):=cell_of_row _ _ 2 _ _ _ aC
 have bc:w.heap.size+1 < n7.heap.size:=by omega
 clear HR aG ab G8 T o8 G9 aC HK hp hb a6
 obtain ⟨n9,bp⟩:∃ n9,n8.setCell ⟨c,0,none⟩ (.slice y l.length D)=n9:=⟨_,rfl⟩
 rw [bp] at Q o9 al N B9 aw
 cases b with
 | false =>
  have I:Hid (mrR ns is ds (sb s)=none):=HV.1 rfl
  go_wp2_with (refine Zai rfl 61 _ _ rfl (w.heap.size+1) #[.slice none 0 0,.int .i64 0,.int .i64 0,.int .i64 0,.int .i64 0,.int .i64 0,.int .i64 0,.int .i64 0] rfl rfl 61 _ N ZmU rfl (by simp [Value.oneCell']) ?_)
  intro wF hF A x
  have BF:=B9.trans (A.mono (Nat.le_succ _))
  clear x
  go_wp2
  refine bodyPost_ret (Zab rfl _ _ (w.heap.size+1) 61 _ (0,0) _ rfl hF Tryz.underlying61 rfl ZmU) rfl ⟨MrAns.intro (.slice none 0 0) ?_ ?_,BF⟩
  ·rw [I.out];rfl
  ·rw [I.out];exact World.ownsRow_nil _ _ _ _
 | true =>
  obtain ⟨K,Y,F⟩:=HV.2 rfl
  have bu:=ZaH K
  have R9:NRow n9 (.slice y l.length D) l:=NRow.of_own o9 (by omega) (ZbH (ZbO K))
  have HP:=Zic _ _ _ _ ns is ds l (⟨q,j,m,n,f,g,o⟩:Mc) n9 (R1.below B9) (R2.below B9) (R3.below B9) R9
  obtain ⟨tx,ad⟩:∃ tx,Hid (mpR ns is ds l (⟨q,j,m,n,f,g,o⟩:Mc)=tx):=⟨_,rfl⟩
  obtain ⟨tb,R⟩:∃ tb,Hid (Za3 ns is ds l (⟨q,j,m,n,f,g,o⟩:Mc)=tb):=⟨_,rfl⟩
  rw [ad.out,R.out] at HP
  rw [ad.out,R.out] at F
  rw [R.out] at Y
  clear HV ad R
  go_wp2_with (first
   | (refine wpList_load_row rfl 44 _ rfl w.heap.size rfl 44 #[.slice a1 ns.length c1,.slice a2 is.length c2,.slice a3 ds.length c3] (0,0) _ al Tryz.underlying44 rfl Znm ?_)
   | (refine wpList_load_row rfl 61 _ rfl c rfl 61 #[.slice y l.length D,.int .i64 q,.int .i64 j,.int .i64 m,.int .i64 n,.int .i64 f,.int .i64 g,.int .i64 o] (0,0) _ Q Tryz.underlying61 rfl ZmU ?_))
  refine HP.mono ?_
  rintro e bP ⟨rfl,r⟩
  have af:=(bb N r)
  have a0:=(bb Q r)
  have a4:=Zac o9 r
  have ai:=B9.trans (r.mono B9.size)
  clear HP r al N Q o9 R9 aw
  cases tb with
  | false =>
   have I:Hid (mrR ns is ds (sb s)=none):=Y rfl
   go_wp2_with (refine Zai rfl 61 _ _ rfl (w.heap.size+1) #[.slice none 0 0,.int .i64 0,.int .i64 0,.int .i64 0,.int .i64 0,.int .i64 0,.int .i64 0,.int .i64 0] rfl rfl 61 _ af ZmU rfl (by simp [Value.oneCell']) ?_)
   intro wF hF A x
   have BF:=ai.trans (A.mono (Nat.le_succ _))
   clear x
   go_wp2
   refine bodyPost_ret (Zab rfl _ _ (w.heap.size+1) 61 _ (0,0) _ rfl hF Tryz.underlying61 rfl ZmU) rfl ⟨MrAns.intro (.slice none 0 0) ?_ ?_,BF⟩
   ·rw [I.out];rfl
   ·rw [I.out];exact World.ownsRow_nil _ _ _ _
  | true =>
   by_cases ag:tx=s
   ·have I:Hid (mrR ns is ds (sb s)=some (l,(⟨q,j,m,n,f,g,o⟩:Mc))):=(F rfl).1 ag
    go_wp2_with (first
     | (refine wpList_load_row rfl 61 _ rfl c rfl 61 #[.slice y l.length D,.int .i64 q,.int .i64 j,.int .i64 m,.int .i64 n,.int .i64 f,.int .i64 g,.int .i64 o] (0,0) _ a0 Tryz.underlying61 rfl ZmU ?_)
     | (refine Zad rfl 61 _ _ rfl (w.heap.size+1) #[.slice y l.length D,.int .i64 q,.int .i64 j,.int .i64 m,.int .i64 n,.int .i64 f,.int .i64 g,.int .i64 o] rfl rfl 61 _ af ZmU rfl (by simp [Value.oneCell']) ?_))
    intro wF hF A x aM
    have BF:=ai.trans (A.mono (Nat.le_succ _))
    have oF:=Zah (Zak a4 bc aM) (by omega:w.heap.size <= n7.heap.size)
    clear x aM
    go_wp2
    refine bodyPost_ret (Zab rfl _ _ (w.heap.size+1) 61 _ (0,0) _ rfl hF Tryz.underlying61 rfl ZmU) rfl ⟨MrAns.intro (.slice y l.length D) ?_ ?_,BF⟩
    ·rw [I.out];rfl
    ·rw [I.out];exact oF
   ·have bJ:(tx.toList == s.toList)=false:=by
     rw [<- Bool.not_eq_true,beq_iff_eq,ByteArray.toList_eq,ByteArray.toList_eq]
     intro h
     apply ag
     cases tx
     cases s
     congr 1
     exact Array.toList_inj.1 h
    have I:Hid (mrR ns is ds (sb s)=none):=(F rfl).2 ag
    go_wp2_with (refine Zai rfl 61 _ _ rfl (w.heap.size+1) #[.slice none 0 0,.int .i64 0,.int .i64 0,.int .i64 0,.int .i64 0,.int .i64 0,.int .i64 0,.int .i64 0] rfl rfl 61 _ af ZmU rfl (by simp [Value.oneCell']) ?_)
    intro wF hF A x
    have BF:=ai.trans (A.mono (Nat.le_succ _))
    clear x
    go_wp2
    refine bodyPost_ret (Zab rfl _ _ (w.heap.size+1) 61 _ (0,0) _ rfl hF Tryz.underlying61 rfl ZmU) rfl ⟨MrAns.intro (.slice none 0 0) ?_ ?_,BF⟩
    ·rw [I.out];rfl
    ·rw [I.out];exact World.ownsRow_nil _ _ _ _
end Go.Proofs.YtfeodlbpnghakaaGreatDoor
