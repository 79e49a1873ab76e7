/-
  Texts that stood by themselves, laid into one.
-/
import Derived.Test.YtkpfangkfknhoaaGreatDoorMRgM
import Derived.Test.YtkpfangkfknhoaaGreatDoorMPackM
import Derived.Test.YtkpfangkfknhoaaGreatDoorVMoveM
import Derived.Test.YtkpfangkfknhoaaGreatDoorS8RdM
import Derived.Test.YtkpfangkfknhoaaGreatDoorMark2M
/-
  The contract of (impl.reader).machine: a machine of a code is read from its bytes, or there is a mistake. Bounds of the form alone.
-/
set_option maxRecDepth 100000
set_option maxHeartbeats 12800000
namespace Go.Proofs.YtkpfangkfknhoaaGreatDoor
open Go.Proofs.Tryz
open Go.RowKit
def m0:Mc:=⟨0,0,0,0,0,0,0⟩
theorem ZbU (a:Option Addr)(n c:Nat)(m:Mc):(mcs (.slice a n c) m).all (·.oneCell')=true:=by simp [mcs,Value.oneCell']
theorem ZlZ {l:List Int}(h:l.length=7):setL (mcs (.slice none 0 0) m0) [1,5,6,2,3,4,7] l=mcs (.slice none 0 0) (mcOf l):=by
 match l,h with
 | [p,t,q,s,e,d,r],_=>rfl
theorem ZkH {ns:List Nd}{is:List In}{ds:List Df}{zs:List Int}(h:rdK zs 7 0=none):mrR ns is ds zs=none:=by unfold mrR;rw [h];rfl
theorem ZkT {ns:List Nd}{is:List In}{ds:List Df}{zs:List Int}{q:List Int × Int}(h:rdK zs 7 0=some q)(a:rdP zs q.2=none):mrR ns is ds zs=none:=by unfold mrR;rw [h];simp only [Option.bind_some];rw [a];rfl
theorem Zml {ns:List Nd}{is:List In}{ds:List Df}{zs:List Int}{q:List Int × Int}{a:List Nd}{b:Int}(h:rdK zs 7 0=some q)(c:rdP zs q.2=some (a,b)) :
  mrR ns is ds zs=if b=zs.length/\Za5 ns is ds a (mcOf q.1)=true/\allR a (tdR (mcOf q.1))=true then some (a,mcOf q.1) else none:=by unfold mrR;rw [h];simp only [Option.bind_some];rw [c];rfl
theorem Zi6 {w b:World}{B k n:Nat}{e:TypeId}{v:Value}{l:List Value}(h:w.ownsRow B e k v n l)(c:∀ j,v.ownBlock=some j -> b.heap[j]? = w.heap[j]?):b.ownsRow B e k v n l:=by
 refine ⟨h.1,?_⟩;rcases h.2 with f | ⟨g,a,cur,rfl,m,i,d⟩
 ·exact Or.inl f
 ·exact Or.inr ⟨g,a,cur,rfl,m,(c g rfl).trans i,d⟩
def MAns (B:Nat)(ns:List Nd)(is:List In)(ds:List Df)(zs:List Int)(e:Ending)(w':World):Prop :=
 (∃ xs m ao n c,mrR ns is ds zs=some (xs,m)/\e=.returned (.tuple #[.agg (mcs (.slice ao n c) m),.nilIface])/\w'.ownsRow B 194 5 (.slice ao n c) xs.length (ncs xs)) \/ (mrR ns is ds zs=none/\∃ ao n c m p,e=.returned (.tuple #[.agg (mcs (.slice ao n c) m),badV p]))
theorem ZfA (v:Value)(zs:List Int)(t w:World)(P:Nat)(v1 v2 v3:Value)(ns:List Nd)(is:List In)(ds:List Df)(R:Row t v zs)(hb:Below t.heap.size t w)(hP:t.heap.size <= P)(h1:One w P 0)(R1:NRow t v1 ns)(R2:InRow t v2 is)(R3:DfRow t v3 ds) :
  Calls prog 209 #[.agg #[v,.pointer (some ⟨P,0,none⟩)],.agg #[v1,v2,v3]] w fun e w'=>w.grownBy w' (some P)/\MAns w.heap.size ns is ds zs e w':=by
 obtain ⟨ao,D,rfl,_,aH,hz,_⟩:=id R;obtain ⟨a1,c1,rfl⟩:=R1.small;obtain ⟨a2,c2,rfl⟩:=R2.small;obtain ⟨a3,c3,rfl⟩:=R3.small;have N:=hb.size;have az:=h1.lt;obtain ⟨B,y,H,x,x3,Q⟩:=Zex w (Obj.cells #[Value.slice ao zs.length D,Value.pointer (some ⟨P,0,none⟩)] 231) (Obj.cells #[.slice a1 ns.length c1,.slice a2 is.length c2,.slice a3 ds.length c3] 44) (Obj.cells #[.slice none 0 0,.int .i64 0,.int .i64 0,.int .i64 0,.int .i64 0,.int .i64 0,.int .i64 0,.int .i64 0] 99) (Obj.cells #[.slice none 0 0,.int .i64 0,.int .i64 0,.int .i64 0,.int .i64 0,.int .i64 0,.int .i64 0,.int .i64 0] 99)
 go_enter func209,ntmps209
 go_wp2_with fail;obtain ⟨F,aj⟩:∃ F,(((w.alloc (Obj.cells #[Value.slice ao zs.length D,Value.pointer (some ⟨P,0,none⟩)] 231)).alloc (Obj.cells #[.slice a1 ns.length c1,.slice a2 is.length c2,.slice a3 ds.length c3] 44)).alloc (Obj.cells #[.slice none 0 0,.int .i64 0,.int .i64 0,.int .i64 0,.int .i64 0,.int .i64 0,.int .i64 0,.int .i64 0] 99)).alloc (Obj.cells #[.slice none 0 0,.int .i64 0,.int .i64 0,.int .i64 0,.int .i64 0,.int .i64 0,.int .i64 0,.int .i64 0] 99)=F:=⟨_,rfl⟩;rw [aj] at B y H x x3 Q ⊢;have l:Below F.heap.size F (F.alloc (Obj.cells (tgt (w.heap.size+1+1+1) [1,5,6,2,3,4,7]) 229)):=(cj _ _).alloc (ce _) _;have g:=hb.trans (B.mono N);have aq:F.heap[w.heap.size+1+1+1]? = some (.cells (mcs (.slice none 0 0) m0) 99 (0,0)):=x3
 have HC:=ZcT _ zs t (F.alloc (Obj.cells (tgt (w.heap.size+1+1+1) [1,5,6,2,3,4,7]) 229)) P (w.heap.size+1+1+1) F.heap.size 0 (mcs (.slice none 0 0) m0) 99 [1,5,6,2,3,4,7] R (g.trans (l.mono g.size)) hP (by omega) ((h1.below B az).below l (by omega)) ((l.block _ (by omega)).trans aq) (by intro o ho;simp at ho;simp [mcs];omega) (co _ _) (by omega) (by omega) (by omega) (by simp);rw [Q] at HC;have ar:w.heap.size+1+1+1+1 <= (F.alloc (Obj.cells (tgt (w.heap.size+1+1+1) [1,5,6,2,3,4,7]) 229)).heap.size:=by have:=l.size;omega
 have hG:K2 P (w.heap.size+1+1+1) w (F.alloc (Obj.cells (tgt (w.heap.size+1+1+1) [1,5,6,2,3,4,7]) 229)):=(K2.ofB B).trans (K2.ofB l);have y:=(l.block _ (by omega)).trans y;have H:=(l.block _ (by omega)).trans H;have x:=(l.block _ (by omega)).trans x;clear Q x3 aq l;refine HC.mono ?_;rintro e S ⟨U,h⟩;have y:=(U.block _ (by omega) (by omega) (by omega)).trans y;have H:=(U.block _ (by omega) (by omega) (by omega)).trans H;have x:=(U.block _ (by omega) (by omega) (by omega)).trans x;have U:=hG.trans U;have J:w.grownBy S (some P):=U.grown (by omega);clear hG ar HC B g aj;rcases h with ⟨q,A,rfl,e3,L⟩ | ⟨A,⟨p,rfl⟩,⟨q,e3⟩,-⟩
 ·have A:rdK zs 7 0=some q:=A
  have am:=ZeZ A;rw [ZlZ am] at L;have HQ:Hid (rdK zs 7 0=some q):=A;have l3:=(bl L);have c0:S.cell? ⟨w.heap.size,0,none⟩=some (.slice ao zs.length D):=cd S _ 0 _ _ _ y;have cP:S.cell? ⟨w.heap.size,1,none⟩=some (.pointer (some ⟨P,0,none⟩)):=cd S _ 1 _ _ _ y;have K:Below t.heap.size t S:=hb.grown J N (fun k hk=>by simp at hk;omega);clear A am;obtain ⟨m,an⟩:∃ m,Hid (mcOf q.1=m):=⟨_,rfl⟩;rw [an.out] at L;go_wp2_with fail;refine (Zec _ zs t S P q.2 R K hP e3).mono ?_;rintro e i ⟨s,ai⟩;have aG:=s.size;have l0:=(bl y);have l2:=(bl x);have y:=(s.block _ l0 (by simp;omega)).trans y;have H:=(s.block _ (by omega) (by simp;omega)).trans H;have x:=(s.block _ l2 (by simp;omega)).trans x;have L:=(s.block _ l3 (by simp;omega)).trans L;have C:=Zaj J s;clear c0 cP s K;rcases ai with ⟨a,b,vs,n1,rfl,n3,n4⟩ | ⟨n1,⟨p,rfl⟩,b,n3⟩
  ·obtain ⟨c,d,rfl⟩:=Zag n3
   obtain ⟨aI,X⟩:=ZjZ hz n1;have aF:=ZaK X;have HV:Hid (mrR ns is ds zs=if b=zs.length/\Za5 ns is ds a m=true/\allR a (tdR m)=true then some (a,m) else none):=by have:=Zml (ns:=ns) (is:=is) (ds:=ds) HQ.out n1;rw [an.out] at this;exact this
   have aB:=ZbK (ZbO X);have u:Below i.heap.size i (i.alloc (Obj.cells #[.slice c a.length d] 40)):=(cj _ _).alloc (ce _) _;have ak:=(bl L);have y0:=(u.block _ (by omega)).trans y;have y1:=(u.block _ (by omega)).trans H;have y2:=(u.block _ (by omega)).trans x;have y3:=(u.block _ ak).trans L;have y8:(i.alloc (Obj.cells #[.slice c a.length d] 40)).heap[i.heap.size]? = some (.cells #[.slice c a.length d] 40 (0,0)):=co _ _;have yo:=Zad n3 u;have yP:=n4.below u n4.lt;have ae:=Zal C u C.size;have aA:=u.size;have k8:(i.alloc (Obj.cells #[.slice c a.length d] 40)).cell? ⟨i.heap.size,0,none⟩=some (.slice c a.length d):=cd _ _ 0 _ _ _ y8;have k3:(i.alloc (Obj.cells #[.slice c a.length d] 40)).cell? ⟨w.heap.size+1+1+1,0,none⟩=some (.slice none 0 0):=cd _ _ 0 _ _ _ y3
   have f3:(i.alloc (Obj.cells #[.slice c a.length d] 40)).frozen? ⟨w.heap.size+1+1+1,0,none⟩=false:=cw _ _ 0 _ _ y3;go_wp2_with fail;have G:=Zan (i.alloc (Obj.cells #[.slice c a.length d] 40)) (w.heap.size+1+1+1) 0 (.slice c a.length d);have t3:=cu (i.alloc (Obj.cells #[.slice c a.length d] 40)) (w.heap.size+1+1+1) 0 _ _ (.slice c a.length d) y3;have lA:w.heap.size+1+1+1 < i.heap.size:=ak;have t0:=(G.block _ (bl y0) (by simp <;> omega)).trans y0;have t1:=(G.block _ (bl y1) (by simp <;> omega)).trans y1;have t2:=(G.block _ (bl y2) (by simp <;> omega)).trans y2;have t8:=(G.block _ (bl y8) (by simp;omega)).trans y8;have tP:One _ P b:=(G.block _ yP.lt (by simp;omega)).trans yP;have aa:=yo.kept G (Zck yo (by omega));have n:=((K2.ofP (M:=w.heap.size+1+1+1) ae).trans (K2.ofM G)).grown (by omega)
   obtain ⟨I,O⟩:∃ I,(i.alloc (Obj.cells #[.slice c a.length d] 40)).setCell ⟨w.heap.size+1+1+1,0,none⟩ (.slice c a.length d)=I:=⟨_,rfl⟩;have ac:(i.setCell ⟨w.heap.size+1+1+1,0,none⟩ (.slice c a.length d)).alloc (Obj.cells #[.slice c a.length d] 40)=I:=by rw [<- O];exact (World.setCell_alloc_past _ _ _ _ (by omega)).symm
   rw [ac];clear ac;rw [O] at G t0 t1 t2 t3 t8 tP aa n;have sX:i.heap.size+1 <= I.heap.size:=by have:=G.size;simp at this;omega
   clear O G y0 y1 y2 y3 y8 yo yP ae C J k8 k3 f3 y H x u n3 n4 e3 L aA U;have ah:Below t.heap.size t I:=hb.grown n N (fun k hk=>by simp at hk;omega)
   have RW:∀ W,Below I.heap.size I W -> NRow W (.slice a1 ns.length c1) ns/\InRow W (.slice a2 is.length c2) is/\DfRow W (.slice a3 ds.length c3) ds/\NRow W (.slice c a.length d) a:=fun W E=>by
    have g:=ah.trans (E.mono ah.size);exact ⟨R1.below g,R2.below g,R3.below g,NRow.of_own (Zad aa E) (by omega) aB⟩
   have l1:=(bl t1);have aE:=(bl t2);cases z:Za5 ns is ds a m with
   | false =>
    have Z:Hid (mrR ns is ds zs=none):=by unfold Hid;rw [HV.out,if_neg];rw [z];intro h;exact absurd h.2.1 (by simp)
    refine ZkB (w.heap.size+1) (w.heap.size+1+1+1) i.heap.size a.length d c _ _ _ m I _ t1 t3 t8 (fun W E=>by obtain ⟨q1,q2,q3,q4⟩:=RW W E;have:=ZcM _ _ _ _ ns is ds a m W q1 q2 q3 q4;rw [z] at this;exact this) ?_;intro u35 u36 u37 u38 u39 u40 u41 u42 u43 u44 wx f;have ab:=(bb t2 f)
    go_wp2_with (refine Zai rfl 99 _ _ rfl (w.heap.size+1+1) (mcs (.slice none 0 0) m0) rfl rfl 99 _ ab Znz rfl (ZbU _ _ _ _) ?_)
    intro wz T V _;go_wp2;exact cx (Zac rfl _ _ (w.heap.size+1+1) 99 _ (0,0) _ rfl T underlying99 rfl Znz) rfl ⟨Zal (Zal n f n.size) V (by omega),Or.inr ⟨Z.out,_,_,_,_,_,rfl⟩⟩
   | true =>
    obtain ⟨_,ha,_⟩:=ZbD z;obtain ⟨kb,Y⟩:∃ kb,Hid (allR a (tdR m)=kb):=⟨_,rfl⟩;refine Zlj (w.heap.size+1) (w.heap.size+1+1+1) i.heap.size a.length d c _ _ _ m I _ t1 t3 t8 (fun W E=>by obtain ⟨q1,q2,q3,q4⟩:=RW W E;have:=ZcM _ _ _ _ ns is ds a m W q1 q2 q3 q4;rw [z] at this;exact this) kb (fun W _=>Zh9 c a.length d m W) (fun W vl E RL=>by have:=Zeg _ vl a (tdR m) W (RW W E).2.2.2 RL X ha;rw [Y.out] at this;exact this) ?_;intro u35 u36 u37 u38 u39 u40 u41 u42 u43 u44 wx f;cases kb with
    | false =>
     have Z:Hid (mrR ns is ds zs=none):=by unfold Hid;rw [HV.out,if_neg];rw [Y.out];intro h;exact absurd h.2.2 (by simp)
     have ab:=(bb t2 f)
     go_wp2_with (refine Zai rfl 99 _ _ rfl (w.heap.size+1+1) (mcs (.slice none 0 0) m0) rfl rfl 99 _ ab Znz rfl (ZbU _ _ _ _) ?_)
     intro wz T V _;go_wp2;exact cx (Zac rfl _ _ (w.heap.size+1+1) 99 _ (0,0) _ rfl T underlying99 rfl Znz) rfl ⟨Zal (Zal n f n.size) V (by omega),Or.inr ⟨Z.out,_,_,_,_,_,rfl⟩⟩
    | true =>
     have s0:=(bb t0 f);have s2:=(f.block _ aE).trans t2;have s3:=(bb t3 f);have sP:=tP.below f tP.lt;have af:=Zal n f n.size;have aw:=Zad aa f;go_wp2_with fail;refine Zk6 w.heap.size (w.heap.size+1+1) (w.heap.size+1+1+1) a.length d c (.slice ao zs.length D) (.pointer (some ⟨P,0,none⟩)) m _ (ZhF b zs.length) wx _ s0 s3 s2 rfl (by omega) (by omega) (fun W E=>Zdl _ zs P b W ⟨ao,D,rfl⟩ (sP.below E sP.lt)) ?_;intro u49 u50 u51 r W ad g av;have ag:=setRow_heap W (w.heap.size+1+1) _ (mcs (.slice c a.length d) m) _ _ av;have al:Below (w.heap.size+1+1) W (W.setRow (w.heap.size+1+1) (mcs (.slice c a.length d) m)):=below_setRow (cj _ _) (ce _) _;have ax:=Zal (Zal af g af.size) al (by omega);have oz:=Zad aw g
     have oZ:(W.setRow (w.heap.size+1+1) (mcs (.slice c a.length d) m)).ownsRow w.heap.size 194 5 (.slice c a.length d) a.length (ncs a):=Zah (Zi6 oz (fun j hj=>setRow_other _ _ _ _ (by have:=(oz.lt j hj).1;omega))) (by omega)
     have HF:Hid ((mrR ns is ds zs=some (a,m)/\r=.nilIface) \/ (mrR ns is ds zs=none/\∃ p,r=badV p)):=by
      unfold Hid;rw [HV.out];rcases ad with ⟨A,e2⟩ | ⟨A,e2⟩
      ·rw [if_neg (fun h=>by have:=h.1;omega)];exact Or.inr ⟨rfl,e2⟩
      ·rw [if_pos ⟨by omega,z,Y.out⟩];exact Or.inl ⟨rfl,e2⟩
     clear ad;go_wp2;refine cx (Zac rfl _ _ (w.heap.size+1+1) 99 _ (0,0) _ rfl ag underlying99 rfl Znz) rfl ⟨ax,?_⟩;rcases HF.out with ⟨f1,f2⟩ | ⟨f1,p,f2⟩
     ·exact Or.inl ⟨a,m,_,_,_,f1,by rw [<- f2];rfl,oZ⟩
     ·exact Or.inr ⟨f1,_,_,_,_,p,by rw [<- f2];rfl⟩
  ·have Z:Hid (mrR ns is ds zs=none):=ZkT HQ.out n1
   have u:Below i.heap.size i (i.alloc (Obj.cells #[.slice none 0 0] 40)):=(cj _ _).alloc (ce _) _;have y2:=(bb x u);unfold badV
   go_wp2_with (refine Zai rfl 99 _ _ rfl (w.heap.size+1+1) (mcs (.slice none 0 0) m0) rfl rfl 99 _ y2 Znz rfl (ZbU _ _ _ _) ?_)
   intro w3 aC ay _;go_wp2;exact cx (Zac rfl _ _ (w.heap.size+1+1) 99 _ (0,0) _ rfl aC underlying99 rfl Znz) rfl ⟨Zal (Zal C u C.size) ay (by omega),Or.inr ⟨Z.out,_,_,_,_,p,rfl⟩⟩
 ·have A:rdK zs 7 0=none:=A
  have Z:Hid (mrR ns is ds zs=none):=ZkH A;unfold badV
  go_wp2_with (refine Zai rfl 99 _ _ rfl (w.heap.size+1+1) (mcs (.slice none 0 0) m0) rfl rfl 99 _ x Znz rfl (ZbU _ _ _ _) ?_)
  intro i au aD _;go_wp2;exact cx (Zac rfl _ _ (w.heap.size+1+1) 99 _ (0,0) _ rfl au underlying99 rfl Znz) rfl ⟨Zal J aD (by omega),Or.inr ⟨Z.out,_,_,_,_,p,rfl⟩⟩
theorem ZhR (v1 v2 v3 v:Value)(ns:List Nd)(is:List In)(ds:List Df)(f:List Nd)(m:Mc)(w:World)(R1:NRow w v1 ns)(R2:InRow w v2 is)(R3:DfRow w v3 ds)(R:NRow w v f) :
  Calls prog 151 #[.agg #[v1,v2,v3],.agg #[v,.int .i64 m.p,.int .i64 m.s,.int .i64 m.e,.int .i64 m.d,.int .i64 m.t,.int .i64 m.q,.int .i64 m.r]] w fun e w'=>e=.returned (.tuple #[.string (mpR ns is ds f m),.bool (Za5 ns is ds f m)])/\Below w.heap.size w w':=by
 have R':=R;obtain ⟨ao,W,rfl,_⟩:=R';obtain ⟨a1,c1,rfl⟩:=R1.small;obtain ⟨a2,c2,rfl⟩:=R2.small;obtain ⟨a3,c3,rfl⟩:=R3.small;obtain ⟨g,aa,V⟩:=Zax w (Obj.cells #[.slice a1 ns.length c1,.slice a2 is.length c2,.slice a3 ds.length c3] 44) (Obj.cells #[.slice ao f.length W,.int .i64 m.p,.int .i64 m.s,.int .i64 m.e,.int .i64 m.d,.int .i64 m.t,.int .i64 m.q,.int .i64 m.r] 99)
 go_enter func151,ntmps151
 go_wp2_with fail;refine (ZdX _ _ _ _ ns is ds f m _ (R1.below g) (R2.below g) (R3.below g) (R.below g)).mono ?_;rintro e w1 ⟨rfl,F⟩;have l:=g.trans (F.mono g.size);have U:=(bb V F);clear g aa V F;cases I:Za5 ns is ds f m with
 | false =>
  have HR:Hid (mpR ns is ds f m=ByteArray.empty):=by unfold Hid mpR;rw [I];rfl
  go_wp2
  go_ret2
  exact ⟨by rw [HR.out,I];rfl,l⟩
 | true =>
  have HR:Hid (mpR ns is ds f m=strOfNums (mpL f m)):=by unfold Hid mpR;rw [I];rfl
  have HL:Hid (mpL f m=(mpN (tdM f m)).flatMap encI ++ ZbG (tdL f m)):=rfl;obtain ⟨hz,D,ak⟩:=Zhm I;have av:=ZbP (ZbD I).1;have IT:=fun (v:Value) (w:World) (R:NRow w v f)=>Zke v f m w R (by omega)
  generalize tdL f m=Q at *;generalize tdM f m=M at *
  go_wp2_with (refine cE rfl 99 _ rfl (w.heap.size+1) rfl 99 #[.slice ao f.length W,.int .i64 m.p,.int .i64 m.s,.int .i64 m.e,.int .i64 m.d,.int .i64 m.t,.int .i64 m.q,.int .i64 m.r] (0,0) _ U underlying99 rfl Znz ?_)
  refine (IT _ _ (R.below l)).mono ?_;rintro e h ⟨v3,rfl,E,P⟩;obtain ⟨X,cq,rfl⟩:=Zag E;have B:=l.trans (P.mono l.size);clear l U P
  go_wp2_with (refine Zai rfl 99 _ _ rfl h.heap.size #[.slice X Q.length cq,.int .i64 M.p,.int .i64 M.s,.int .i64 M.e,.int .i64 M.d,.int .i64 M.t,.int .i64 M.q,.int .i64 M.r] rfl rfl 99 _ (co _ _) Znz rfl (by simp [Value.oneCell']) ?_)
  intro j G L am;have C:Below h.heap.size h j:=((cj _ _).alloc (ce _) _).trans L;have N:=B.trans (C.mono B.size);have RQ:NRow j (.slice X Q.length cq) Q:=(NRow.of_own E (by omega) (ZbK D)).below C;have y:h.heap.size < j.heap.size:=(bl G);clear E L am C B;have x:Below j.heap.size j (j.alloc (Obj.cells #[] 5)):=(cj _ _).alloc (ce _) _;have c:=(x.block _ y).trans G;have A:=Zcj j 5 1 j.heap.size (ce _);generalize ar:j.alloc (Obj.cells #[] 5)=b at x c A;have e0:b.cell? ⟨h.heap.size,0,none⟩=some (.slice X Q.length cq):=cd b _ 0 _ _ _ c;have e1:b.cell? ⟨h.heap.size,1,none⟩=some (.int .i64 M.p):=cd b _ 1 _ _ _ c;have e2:b.cell? ⟨h.heap.size,2,none⟩=some (.int .i64 M.s):=cd b _ 2 _ _ _ c;have e3:b.cell? ⟨h.heap.size,3,none⟩=some (.int .i64 M.e):=cd b _ 3 _ _ _ c
  have e4:b.cell? ⟨h.heap.size,4,none⟩=some (.int .i64 M.d):=cd b _ 4 _ _ _ c;have e5:b.cell? ⟨h.heap.size,5,none⟩=some (.int .i64 M.t):=cd b _ 5 _ _ _ c;have e6:b.cell? ⟨h.heap.size,6,none⟩=some (.int .i64 M.q):=cd b _ 6 _ _ _ c;have e7:b.cell? ⟨h.heap.size,7,none⟩=some (.int .i64 M.r):=cd b _ 7 _ _ _ c;have an:h.heap.size < b.heap.size:=(bl c);have S:Below b.heap.size b (b.alloc (Obj.cells (iv (mpN M)).toArray 3)):=(cj _ _).alloc (ce _) _;have ai:(b.alloc (Obj.cells (iv (mpN M)).toArray 3)).heap[b.heap.size]? = some (.cells (iv (mpN M)).toArray 3 (0,0)):=co _ _;have ay:=Zmd M;have ax:(mpN M).length=7:=rfl;have O:=Zad A S;have al:=x.trans (S.mono x.size);go_wp2_with fail
  go_loopw [7,9] (fun vo i wr=>∃ k:Nat,k <= 7/\i=.int .i64 k/\OwnB wr j.heap.size vo (((mpN M).take k).flatMap encI)/\Below j.heap.size j wr/\wr.heap[b.heap.size]? = some (.cells (iv (mpN M)).toArray 3 (0,0))) (fun _ i _=>7 - (intOf i).toNat)
  case atStart=>exact ⟨0,by omega,rfl,O,al,ai⟩
  case round =>
   obtain ⟨k,hk,rfl,Z,a,o⟩:=hrel;clear e0 e1 e2 e3 e4 e5 e6 e7
   by_cases aw:k < 7
   ·have aj:b.heap.size < wr.heap.size:=(bl o)
    have c0:wr.cell? ⟨b.heap.size,k,none⟩=some (.int .i64 ((mpN M).getD k 0)):=by
     rw [cd wr _ k _ _ _ o]
     simpa using Zc0 (mpN M) k (by omega)
    have T:(mpN M).getD k 0 <= 9223372036854775807:=hz _ (by simp [List.getD_eq_getElem?_getD,List.getElem?_eq_getElem (show k < (mpN M).length by omega)]);have HT:Hid (((mpN M).take (k+1)).flatMap encI=((mpN M).take k).flatMap encI ++ encI ((mpN M).getD k 0)):=Zkw (mpN M) k (by omega)
    have au:(((mpN M).take k).flatMap encI).length <= 63:=by
     have:=ZhM ((mpN M).take k);rw [List.length_take] at this;omega
    obtain ⟨z,ad⟩:∃ z,Hid ((mpN M).getD k 0=z):=⟨_,rfl⟩;rw [ad.out] at c0 T HT;have ap:=Zat z;generalize ((mpN M).take k).flatMap encI=cs at *;go_wp2_with fail;refine (ZaX z _ T).mono ?_;rintro e wc ⟨vc,rfl,H,u⟩;obtain ⟨ac,cc,rfl⟩:=Zag H;clear c0;have n:=Zad Z u
    go_wp2_with (at_builtin;refine ZdF rfl _ _ rfl rfl n (by have:=a.size;have:=u.size;omega) rfl H (by omega) ?_)
    intro vd wd J Y sd;have ab:=(a.trans (u.mono a.size)).trans Y;have ah:=sd _ _ _ (by decide) ((u.block _ aj).trans o);rw [<- HT.out] at J;clear H u n Z Y sd a o;go_wp2
    go_roundw
    case rel=>exact ⟨k+1,by omega,by go_num,J,ab,ah⟩
    case measure=>simp [intOf];omega
   ·have af:k=7:=by omega
    subst af;have eT:(mpN M).take 7=mpN M:=rfl;rw [eT] at Z;have ag:=(a.block _ y).trans G;have f0:wr.cell? ⟨h.heap.size,0,none⟩=some (.slice X Q.length cq):=cd wr _ 0 _ _ _ ag
    have az:(ZbG Q).length <= 90009:=by
     have:=Zgp Q D;have:=Zat Q.length;unfold ZbG;rw [List.length_append];omega
    generalize (mpN M).flatMap encI=cs at *;go_wp2_with fail;refine (ZdV _ Q _ (RQ.below a) D ak).mono ?_;rintro e wc ⟨vc,rfl,H,u⟩;obtain ⟨ac,cc,rfl⟩:=Zag H;have n:=Zad Z u;clear f0
    go_wp2_with (at_builtin;refine ZdF rfl _ _ rfl rfl n (by have:=a.size;have:=u.size;omega) rfl H (by omega) ?_)
    intro vd wd J Y sd;have ae:=N.trans (((a.trans (u.mono a.size)).trans Y).mono N.size);obtain ⟨bb,K⟩:∃ bb,Hid (cs ++ ZbG Q=bb):=⟨_,rfl⟩;rw [K.out] at J;obtain ⟨a6,k6,rfl⟩:=Zag J;have hT:=Zhu J
    go_wp2_with (refine ZbR _ rfl _ 186 9 5 rfl underlying186 underlying9 underlying5 a6 bb.length k6 bb rfl rfl hT ?_)
    go_ret2
    exact ⟨by rw [HR.out,HL.out,K.out,I];rfl,ae⟩
theorem Row.cur {W d:World}{v:Value}{zs:List Int}{C:Nat}{a:Int}{ok:Bool}(R:Row W v zs)(p:C8 W C v a ok)(e:W.grownBy d (some C)):Row d v zs:=by
 obtain ⟨j,c,rfl,l,k,n,m⟩:=R;refine ⟨j,c,rfl,l,k,n,fun b=>?_⟩;obtain ⟨g,o,rfl,h,f⟩:=m b;have n1:=Row.apart (List.length_pos_iff.2 b) f p (ZlM _ _ _ _ _);refine ⟨g,o,rfl,cy h e.size,fun i hi=>?_⟩;rw [World.cell?_of_block (w:=W) (e.block g h (by simpa using n1))];exact f i hi
theorem ZbX {w c d:World}{P g:Nat}(h:w.grownBy c (some P))(e:w.heap.size <= g)(k:c.grownBy d (some g)):w.grownBy d (some P) :=
 ⟨k.os.trans h.os,k.tape.trans h.tape,k.output.trans h.output,Nat.le_trans h.size k.size,fun j b a=>(k.block j (cy b h.size) (by simp;omega)).trans (h.block j b a)⟩
def mrL (r:Option (List Nd × Mc)):List Nd:=match r with | some p=>p.1 | none=>[]
def mrM (r:Option (List Nd × Mc)):Mc:=match r with | some p=>p.2 | none=>m0
def MrAns (B:Nat)(r:Option (List Nd × Mc))(e:Ending)(w':World):Prop:=∃ v',e=.returned (.tuple #[.agg #[v',.int .i64 (mrM r).p,.int .i64 (mrM r).s,.int .i64 (mrM r).e,.int .i64 (mrM r).d,.int .i64 (mrM r).t,.int .i64 (mrM r).q,.int .i64 (mrM r).r],.bool r.isSome])/\w'.ownsRow B 194 5 v' (mrL r).length (ncs (mrL r))
theorem MrAns.intro {B:Nat}{r:Option (List Nd × Mc)}{e:Ending}{b:World}(a:Value)(h:e=.returned (.tuple #[.agg #[a,.int .i64 (mrM r).p,.int .i64 (mrM r).s,.int .i64 (mrM r).e,.int .i64 (mrM r).d,.int .i64 (mrM r).t,.int .i64 (mrM r).q,.int .i64 (mrM r).r],.bool r.isSome]))(k:b.ownsRow B 194 5 a (mrL r).length (ncs (mrL r))):MrAns B r e b:=⟨a,h,k⟩
theorem ZjN {l:List Int}{s:ByteArray}(a:∀ z ∈ l,0 <= z/\z <= 255):strOfNums l=s <-> l=sb s:=by
 constructor
 ·intro h
  rw [<- h,Zkp a]
 ·intro h
  rw [h,Zdc]
theorem ZlQ (b:List Nd)(m:Mc):∀ z ∈ mpL b m,0 <= z/\z <= 255:=by
 intro z a;unfold mpL at a;rcases List.mem_append.1 a with h | h
 ·rw [List.mem_flatMap] at h
  obtain ⟨x,_,c⟩:=h;exact ZbY x z c
 ·exact ZeP _ z h
theorem Znh {ns:List Nd}{is:List In}{ds:List Df}{s:ByteArray}{l:List Int}{a i:Int}{k t:Bool}{b:List Nd}(u:ZdL (sb s) 7 0 true=(l,a,k))(r:sP (sb s) a k=(b,i,t)) :
  (sOk (sb s) a k=false -> mrR ns is ds (sb s)=none)/\(sOk (sb s) a k=true -> Zau b=true/\(Za5 ns is ds b (mcOf l)=false -> mrR ns is ds (sb s)=none)/\(Za5 ns is ds b (mcOf l)=true -> (mpR ns is ds b (mcOf l)=s -> mrR ns is ds (sb s)=some (b,mcOf l))/\(mpR ns is ds b (mcOf l) ≠ s -> mrR ns is ds (sb s)=none))):=by
 have c:=fun ys m=>ZkS (ns:=ns) (is:=is) (ds:=ds) (Zh3 s) u ys m
 rw [r] at c;refine ⟨fun h=>?_,fun h=>⟨?_,fun g=>?_,fun g=>⟨fun e=>?_,fun e=>?_⟩⟩⟩
 ·cases f:mrR ns is ds (sb s) with
  | none=>rfl
  | some p=>have:=((c p.1 p.2).1 f).1.1;rw [h] at this;cases this
 ·unfold sOk at h
  rw [r] at h;simp only [Bool.and_eq_true] at h;exact h.2
 ·cases f:mrR ns is ds (sb s) with
  | none=>rfl
  | some p =>
   obtain ⟨⟨_,d⟩,n,q,_⟩:=(c p.1 p.2).1 f;have d:b=p.1:=d;rw [<- d,n,g] at q;cases q
 ·have j:mpR ns is ds b (mcOf l)=strOfNums (mpL b (mcOf l)):=by unfold mpR;rw [if_pos g]
  rw [j,ZjN (ZlQ _ _)] at e;exact (c b (mcOf l)).2 ⟨⟨h,rfl⟩,rfl,g,e⟩
 ·have j:mpR ns is ds b (mcOf l)=strOfNums (mpL b (mcOf l)):=by unfold mpR;rw [if_pos g]
  cases f:mrR ns is ds (sb s) with
  | none=>rfl
  | some p =>
   obtain ⟨⟨_,d⟩,n,_,o⟩:=(c p.1 p.2).1 f;have d:b=p.1:=d;rw [<- d,n] at o;exact absurd (by rw [j,ZjN (ZlQ _ _)];exact o) e
theorem Ziq (v1 v2 v3:Value)(ns:List Nd)(is:List In)(ds:List Df)(s:ByteArray)(w:World)(R1:NRow w v1 ns)(R2:InRow w v2 is)(R3:DfRow w v3 ds)(hs:s.size <= 140737488351232) :
  Calls prog 117 #[.agg #[v1,v2,v3],.string s] w fun e w'=>MrAns w.heap.size (mrR ns is ds (sb s)) e w'/\Below w.heap.size w w':=by
 obtain ⟨a1,c1,rfl⟩:=R1.small;obtain ⟨a2,c2,rfl⟩:=R2.small;obtain ⟨a3,c3,rfl⟩:=R3.small;obtain ⟨O,z0,z1⟩:=Zax w (Obj.cells #[.slice a1 ns.length c1,.slice a2 is.length c2,.slice a3 ds.length c3] 44) (Obj.cells #[.slice none 0 0,.int .i64 0,.int .i64 0,.int .i64 0,.int .i64 0,.int .i64 0,.int .i64 0,.int .i64 0] 99)
 go_enter func117,ntmps117
 go_wp2_with (first
  | (refine Zbg _ rfl _ 9 186 5 rfl underlying9 underlying186 underlying5 s rfl ?_;intro d J g0 g1 g2 g3))
 obtain ⟨W2,am⟩:∃ W2,(w.alloc (Obj.cells #[.slice a1 ns.length c1,.slice a2 is.length c2,.slice a3 ds.length c3] 44)).alloc (Obj.cells #[.slice none 0 0,.int .i64 0,.int .i64 0,.int .i64 0,.int .i64 0,.int .i64 0,.int .i64 0,.int .i64 0] 99)=W2:=⟨_,rfl⟩;have ar:W2.heap.size=w.heap.size+1+1:=by rw [<- am];simp
 rw [am] at O z0 z1 g1 g2 g3;have RR:=Zbn (w:=W2) hs g0 g1 g3;rw [ar] at RR g3;have z0:=(g2.block _ (by omega) (by simp)).trans z0;have z1:=(g2.block _ (by omega) (by simp)).trans z1;have B2:Below w.heap.size w J:=O.grown g2 O.size (fun k hk=>by cases hk);clear ar g1 g2 am O;have B3:Below J.heap.size J (J.alloc (Obj.cells #[.slice (some ⟨w.heap.size+1+1,0,none⟩) s.size d,.int .i64 0,.bool true] 188)):=(cj _ _).alloc (ce _) _;have i:C8 (J.alloc (Obj.cells #[.slice (some ⟨w.heap.size+1+1,0,none⟩) s.size d,.int .i64 0,.bool true] 188)) J.heap.size (.slice (some ⟨w.heap.size+1+1,0,none⟩) s.size d) 0 true:=co _ _;have x0:=(B3.block w.heap.size (by omega)).trans z0;have x1:=(B3.block (w.heap.size+1) (by omega)).trans z1;have aa:=B2.trans (B3.mono B2.size);have L:=RR.below B3
 have s3:J.heap.size+1 <= (J.alloc (Obj.cells #[.slice (some ⟨w.heap.size+1+1,0,none⟩) s.size d,.int .i64 0,.bool true] 188)).heap.size:=by simp
 obtain ⟨WB,au⟩:∃ WB,J.alloc (Obj.cells #[.slice (some ⟨w.heap.size+1+1,0,none⟩) s.size d,.int .i64 0,.bool true] 188)=WB:=⟨_,rfl⟩;rw [au] at B3 i x0 x1 aa L s3 ⊢;have a9:w.heap.size+1 < J.heap.size:=by omega
 obtain ⟨C,X⟩:∃ C,Hid (J.heap.size=C):=⟨_,rfl⟩;rw [X.out] at i s3 a9 ⊢;clear X au B3 z0 z1 B2 RR g3;have G0:WB.grownBy WB (some C):=⟨rfl,rfl,rfl,ce _,fun _ _ _=>rfl⟩;obtain ⟨q,bc,k1,e1,bI,bZ,aX,bk,aG⟩:=ZaN C (.slice (some ⟨w.heap.size+1+1,0,none⟩) s.size d) (sb s) 0 true WB L i (by omega) (by omega);refine aG.mono ?_;rintro e u1 ⟨rfl,ap,aj⟩;have G1:=Zaj G0 aj
 go_wp2_with (refine Zai rfl 99 _ _ rfl u1.heap.size (mcs (.slice none 0 0) (⟨q,0,0,0,0,0,0⟩:Mc)) rfl rfl 99 _ (co _ _) Znz rfl (ZbU _ _ _ _) ?_)
 intro n1 af aF bq;clear bq;have ak:Below u1.heap.size u1 n1:=((cj _ _).alloc (ce _) _).trans aF;have ap:=ap.below ak;have G1:=Zaj G1 (ZcN ak (some C));have t:WB.heap.size <= u1.heap.size:=aj.size;have lC:C < WB.heap.size:=by omega
 obtain ⟨c,aK⟩:∃ c,Hid (u1.heap.size=c):=⟨_,rfl⟩;rw [aK.out] at af t ⊢;clear aK ak aF aj aG;obtain ⟨f,aM,k2,e2,bQ,bW,bj,aZ,aw⟩:=ZaN C (.slice (some ⟨w.heap.size+1+1,0,none⟩) s.size d) (sb s) bc k1 n1 (L.cur i G1) ap aX bk;have aU:=(bl af);go_wp2_with fail;refine aw.mono ?_;rintro e u2 ⟨rfl,M,ah⟩;have G2:=Zaj G1 ah;have B:=(ah.block c aU (by simp;omega)).trans af;have bN:u2.cell? ⟨c,5,none⟩=some (.int .i64 0):=cd _ _ 5 _ _ _ B;have bT:u2.frozen? ⟨c,5,none⟩=false:=cw _ _ 5 _ _ B;have B:(u2.setCell ⟨c,5,none⟩ (.int .i64 f)).heap[c]? = some (.cells (mcs (.slice none 0 0) (⟨q,0,0,0,f,0,0⟩:Mc)) 99 (0,0)):=cu u2 c 5 _ _ (.int .i64 f) B;have M:C8 (u2.setCell ⟨c,5,none⟩ (.int .i64 f)) C (.slice (some ⟨w.heap.size+1+1,0,none⟩) s.size d) aM k2:=(cr u2 ⟨c,5,none⟩ C (.int .i64 f) (by show C ≠ c;omega)).trans M
 have G2:=ZbX G2 t (Zan u2 c 5 (.int .i64 f));clear aw ah;obtain ⟨n2,bt⟩:∃ n2,u2.setCell ⟨c,5,none⟩ (.int .i64 f)=n2:=⟨_,rfl⟩;rw [bt] at B M G2;obtain ⟨g,aC,k3,e3,bx,bV,bf,a6,ax⟩:=ZaN C (.slice (some ⟨w.heap.size+1+1,0,none⟩) s.size d) (sb s) aM k2 n2 (L.cur i G2) M bj aZ;have bh:=(bl B);go_wp2_with fail;refine ax.mono ?_;rintro e u3 ⟨rfl,P,ac⟩;have G3:=Zaj G2 ac;have D:=(ac.block c bh (by simp;omega)).trans B;have bP:u3.cell? ⟨c,6,none⟩=some (.int .i64 0):=cd _ _ 6 _ _ _ D;have bw:u3.frozen? ⟨c,6,none⟩=false:=cw _ _ 6 _ _ D;have D:(u3.setCell ⟨c,6,none⟩ (.int .i64 g)).heap[c]? = some (.cells (mcs (.slice none 0 0) (⟨q,0,0,0,f,g,0⟩:Mc)) 99 (0,0)):=cu u3 c 6 _ _ (.int .i64 g) D
 have P:C8 (u3.setCell ⟨c,6,none⟩ (.int .i64 g)) C (.slice (some ⟨w.heap.size+1+1,0,none⟩) s.size d) aC k3:=(cr u3 ⟨c,6,none⟩ C (.int .i64 g) (by show C ≠ c;omega)).trans P;have G3:=ZbX G3 t (Zan u3 c 6 (.int .i64 g));clear ax ac;obtain ⟨n3,aS⟩:∃ n3,u3.setCell ⟨c,6,none⟩ (.int .i64 g)=n3:=⟨_,rfl⟩;rw [aS] at D P G3;obtain ⟨j,aH,k4,e4,bG,bM,br,aY,aO⟩:=ZaN C (.slice (some ⟨w.heap.size+1+1,0,none⟩) s.size d) (sb s) aC k3 n3 (L.cur i G3) P bf a6;have bp:=(bl D);go_wp2_with fail;refine aO.mono ?_;rintro e u4 ⟨rfl,V,aq⟩;have G4:=Zaj G3 aq;have y:=(aq.block c bp (by simp;omega)).trans D;have bL:u4.cell? ⟨c,2,none⟩=some (.int .i64 0):=cd _ _ 2 _ _ _ y;have bD:u4.frozen? ⟨c,2,none⟩=false:=cw _ _ 2 _ _ y
 have y:(u4.setCell ⟨c,2,none⟩ (.int .i64 j)).heap[c]? = some (.cells (mcs (.slice none 0 0) (⟨q,j,0,0,f,g,0⟩:Mc)) 99 (0,0)):=cu u4 c 2 _ _ (.int .i64 j) y;have V:C8 (u4.setCell ⟨c,2,none⟩ (.int .i64 j)) C (.slice (some ⟨w.heap.size+1+1,0,none⟩) s.size d) aH k4:=(cr u4 ⟨c,2,none⟩ C (.int .i64 j) (by show C ≠ c;omega)).trans V;have G4:=ZbX G4 t (Zan u4 c 2 (.int .i64 j));clear aO aq;obtain ⟨n4,a7⟩:∃ n4,u4.setCell ⟨c,2,none⟩ (.int .i64 j)=n4:=⟨_,rfl⟩;rw [a7] at y V G4;obtain ⟨m,ay,k5,e5,bK,bH,a0,bg,aA⟩:=ZaN C (.slice (some ⟨w.heap.size+1+1,0,none⟩) s.size d) (sb s) aH k4 n4 (L.cur i G4) V br aY;have bn:=(bl y);go_wp2_with fail;refine aA.mono ?_;rintro e u5 ⟨rfl,U,ag⟩;have G5:=Zaj G4 ag;have u:=(ag.block c bn (by simp;omega)).trans y;have bC:u5.cell? ⟨c,3,none⟩=some (.int .i64 0):=cd _ _ 3 _ _ _ u
 have bY:u5.frozen? ⟨c,3,none⟩=false:=cw _ _ 3 _ _ u;have u:(u5.setCell ⟨c,3,none⟩ (.int .i64 m)).heap[c]? = some (.cells (mcs (.slice none 0 0) (⟨q,j,m,0,f,g,0⟩:Mc)) 99 (0,0)):=cu u5 c 3 _ _ (.int .i64 m) u;have U:C8 (u5.setCell ⟨c,3,none⟩ (.int .i64 m)) C (.slice (some ⟨w.heap.size+1+1,0,none⟩) s.size d) ay k5:=(cr u5 ⟨c,3,none⟩ C (.int .i64 m) (by show C ≠ c;omega)).trans U;have G5:=ZbX G5 t (Zan u5 c 3 (.int .i64 m));clear aA ag;obtain ⟨n5,bi⟩:∃ n5,u5.setCell ⟨c,3,none⟩ (.int .i64 m)=n5:=⟨_,rfl⟩;rw [bi] at u U G5;obtain ⟨n,aL,k6,e6,b0,bE,aW,a5,az⟩:=ZaN C (.slice (some ⟨w.heap.size+1+1,0,none⟩) s.size d) (sb s) ay k5 n5 (L.cur i G5) U a0 bg;have aR:=(bl u);go_wp2_with fail;refine az.mono ?_;rintro e u6 ⟨rfl,S,ab⟩;have G6:=Zaj G5 ab;have z:=(ab.block c aR (by simp;omega)).trans u
 have bJ:u6.cell? ⟨c,4,none⟩=some (.int .i64 0):=cd _ _ 4 _ _ _ z;have bS:u6.frozen? ⟨c,4,none⟩=false:=cw _ _ 4 _ _ z;have z:(u6.setCell ⟨c,4,none⟩ (.int .i64 n)).heap[c]? = some (.cells (mcs (.slice none 0 0) (⟨q,j,m,n,f,g,0⟩:Mc)) 99 (0,0)):=cu u6 c 4 _ _ (.int .i64 n) z;have S:C8 (u6.setCell ⟨c,4,none⟩ (.int .i64 n)) C (.slice (some ⟨w.heap.size+1+1,0,none⟩) s.size d) aL k6:=(cr u6 ⟨c,4,none⟩ C (.int .i64 n) (by show C ≠ c;omega)).trans S;have G6:=ZbX G6 t (Zan u6 c 4 (.int .i64 n));clear az ab;obtain ⟨n6,ba⟩:∃ n6,u6.setCell ⟨c,4,none⟩ (.int .i64 n)=n6:=⟨_,rfl⟩;rw [ba] at z S G6;obtain ⟨o,I,k7,e7,bO,bA,aQ,a4,aD⟩:=ZaN C (.slice (some ⟨w.heap.size+1+1,0,none⟩) s.size d) (sb s) aL k6 n6 (L.cur i G6) S aW a5;have be:=(bl z);go_wp2_with fail;refine aD.mono ?_;rintro e u7 ⟨rfl,N,ad⟩;have G7:=Zaj G6 ad
 have F:=(ad.block c be (by simp;omega)).trans z;have bF:u7.cell? ⟨c,7,none⟩=some (.int .i64 0):=cd _ _ 7 _ _ _ F;have bU:u7.frozen? ⟨c,7,none⟩=false:=cw _ _ 7 _ _ F;have F:(u7.setCell ⟨c,7,none⟩ (.int .i64 o)).heap[c]? = some (.cells (mcs (.slice none 0 0) (⟨q,j,m,n,f,g,o⟩:Mc)) 99 (0,0)):=cu u7 c 7 _ _ (.int .i64 o) F;have N:C8 (u7.setCell ⟨c,7,none⟩ (.int .i64 o)) C (.slice (some ⟨w.heap.size+1+1,0,none⟩) s.size d) I k7:=(cr u7 ⟨c,7,none⟩ C (.int .i64 o) (by show C ≠ c;omega)).trans N;have G7:=ZbX G7 t (Zan u7 c 7 (.int .i64 o));clear aD ad;obtain ⟨n7,aT⟩:∃ n7,u7.setCell ⟨c,7,none⟩ (.int .i64 o)=n7:=⟨_,rfl⟩;rw [aT] at F N G7
 have HK:Hid (ZdL (sb s) 7 0 true=([q,f,g,j,m,n,o],I,k7)):=by unfold Hid;simp only [ZdL];rw [e1];dsimp only;rw [e2];dsimp only;rw [e3];dsimp only;rw [e4];dsimp only;rw [e5];dsimp only;rw [e6];dsimp only;rw [e7]
 clear e1 e2 e3 e4 e5 e6 e7;go_wp2_with fail;have aE:=(bl F);have HR:=ZeC C (.slice (some ⟨w.heap.size+1+1,0,none⟩) s.size d) (sb s) I k7 n7 (L.cur i G7) N aQ a4;obtain ⟨p,hp⟩:∃ p,Hid (sP (sb s) I k7=p):=⟨_,rfl⟩;obtain ⟨l,aP,kk⟩:=p;obtain ⟨b,hb⟩:∃ b,Hid (sOk (sb s) I k7=b):=⟨_,rfl⟩;have HV:=Znh (ns:=ns) (is:=is) (ds:=ds) HK.out hp.out;rw [hb.out,show mcOf [q,f,g,j,m,n,o]=(⟨q,j,m,n,f,g,o⟩:Mc) from rfl] at HV;rw [hp.out,hb.out] at HR
 dsimp only at HR
 refine HR.mono ?_;rintro e n8 ⟨vs,rfl,o8,aI,an,bo⟩;obtain ⟨v,E,rfl⟩:=Zag o8;have G8:=Zaj G7 an;have T:=(an.block c aE (by simp;omega)).trans F;have bB:n8.cell? ⟨c,0,none⟩=some (.slice none 0 0):=cd _ _ 0 _ _ _ T;have bX:n8.frozen? ⟨c,0,none⟩=false:=cw _ _ 0 _ _ T;have R:(n8.setCell ⟨c,0,none⟩ (.slice v l.length E)).heap[c]? = some (.cells #[.slice v l.length E,.int .i64 q,.int .i64 j,.int .i64 m,.int .i64 n,.int .i64 f,.int .i64 g,.int .i64 o] 99 (0,0)):=cu n8 c 0 _ _ (.slice v l.length E) T;have aJ:C8 (n8.setCell ⟨c,0,none⟩ (.slice v l.length E)) C (.slice (some ⟨w.heap.size+1+1,0,none⟩) s.size d) aP b:=(cr n8 ⟨c,0,none⟩ C (.slice v l.length E) (by show C ≠ c;omega)).trans aI;have G9:=ZbX G8 t (Zan n8 c 0 (.slice v l.length E));have o9:=cI o8 (a:=⟨c,0,none⟩) (by show c < n7.heap.size;exact aE) (.slice v l.length E)
 have Z:=(G9.block w.heap.size (by omega) (by simp;omega)).trans x0;have Q:=(G9.block (w.heap.size+1) (by omega) (by simp;omega)).trans x1;have B9:Below w.heap.size w (n8.setCell ⟨c,0,none⟩ (.slice v l.length E)):=aa.grown G9 aa.size (fun k hk=>by simp at hk;omega);have aB:(n8.setCell ⟨c,0,none⟩ (.slice v l.length E)).cell? ⟨C,2,none⟩=some (.bool b):=cd _ _ 2 _ _ _ aJ;have a8:w.heap.size+1 < n7.heap.size:=by omega
 clear HR aI an G8 T o8 G9 aJ HK hp hb bo;obtain ⟨n9,aV⟩:∃ n9,n8.setCell ⟨c,0,none⟩ (.slice v l.length E)=n9:=⟨_,rfl⟩;rw [aV] at R o9 Z Q B9 aB;cases b with
 | false =>
  have H:Hid (mrR ns is ds (sb s)=none):=HV.1 rfl
  go_wp2_with (refine Zai rfl 99 _ _ rfl (w.heap.size+1) #[.slice none 0 0,.int .i64 0,.int .i64 0,.int .i64 0,.int .i64 0,.int .i64 0,.int .i64 0,.int .i64 0] rfl rfl 99 _ Q Znz rfl (by simp [Value.oneCell']) ?_)
  intro wF hF x A;have BF:=B9.trans (x.mono (Nat.le_succ _));clear A;go_wp2;refine cx (Zac rfl _ _ (w.heap.size+1) 99 _ (0,0) _ rfl hF underlying99 rfl Znz) rfl ⟨MrAns.intro (.slice none 0 0) ?_ ?_,BF⟩
  ·rw [H.out];rfl
  ·rw [H.out];exact World.ownsRow_nil _ _ _ _
 | true =>
  obtain ⟨K,Y,G⟩:=HV.2 rfl;have bu:=ZaK K;have R9:NRow n9 (.slice v l.length E) l:=NRow.of_own o9 (by omega) (ZbK (ZbO K));have HP:=ZhR _ _ _ _ ns is ds l (⟨q,j,m,n,f,g,o⟩:Mc) n9 (R1.below B9) (R2.below B9) (R3.below B9) R9;obtain ⟨tx,al⟩:∃ tx,Hid (mpR ns is ds l (⟨q,j,m,n,f,g,o⟩:Mc)=tx):=⟨_,rfl⟩;obtain ⟨tb,W⟩:∃ tb,Hid (Za5 ns is ds l (⟨q,j,m,n,f,g,o⟩:Mc)=tb):=⟨_,rfl⟩;rw [al.out,W.out] at HP;rw [al.out,W.out] at G;rw [W.out] at Y;clear HV al W
  go_wp2_with (first
   | (refine cE rfl 44 _ rfl w.heap.size rfl 44 #[.slice a1 ns.length c1,.slice a2 is.length c2,.slice a3 ds.length c3] (0,0) _ Z underlying44 rfl ZnY ?_)
   | (refine cE rfl 99 _ rfl c rfl 99 #[.slice v l.length E,.int .i64 q,.int .i64 j,.int .i64 m,.int .i64 n,.int .i64 f,.int .i64 g,.int .i64 o] (0,0) _ R underlying99 rfl Znz ?_))
  refine HP.mono ?_;rintro e bR ⟨rfl,r⟩;have ao:=(bb Q r);have bd:=(bb R r);have bs:=Zad o9 r;have ae:=B9.trans (r.mono B9.size);clear HP r Z Q R o9 R9 aB;cases tb with
  | false =>
   have H:Hid (mrR ns is ds (sb s)=none):=Y rfl
   go_wp2_with (refine Zai rfl 99 _ _ rfl (w.heap.size+1) #[.slice none 0 0,.int .i64 0,.int .i64 0,.int .i64 0,.int .i64 0,.int .i64 0,.int .i64 0,.int .i64 0] rfl rfl 99 _ ao Znz rfl (by simp [Value.oneCell']) ?_)
   intro wF hF x A;have BF:=ae.trans (x.mono (Nat.le_succ _));clear A;go_wp2;refine cx (Zac rfl _ _ (w.heap.size+1) 99 _ (0,0) _ rfl hF underlying99 rfl Znz) rfl ⟨MrAns.intro (.slice none 0 0) ?_ ?_,BF⟩
   ·rw [H.out];rfl
   ·rw [H.out];exact World.ownsRow_nil _ _ _ _
  | true =>
   by_cases ai:tx=s
   ·have H:Hid (mrR ns is ds (sb s)=some (l,(⟨q,j,m,n,f,g,o⟩:Mc))):=(G rfl).1 ai
    go_wp2_with (first
     | (refine cE rfl 99 _ rfl c rfl 99 #[.slice v l.length E,.int .i64 q,.int .i64 j,.int .i64 m,.int .i64 n,.int .i64 f,.int .i64 g,.int .i64 o] (0,0) _ bd underlying99 rfl Znz ?_)
     | (refine Zae rfl 99 _ _ rfl (w.heap.size+1) #[.slice v l.length E,.int .i64 q,.int .i64 j,.int .i64 m,.int .i64 n,.int .i64 f,.int .i64 g,.int .i64 o] rfl rfl 99 _ ao Znz rfl (by simp [Value.oneCell']) ?_))
    intro wF hF x A aN;have BF:=ae.trans (x.mono (Nat.le_succ _));have oF:=Zah (Zak bs a8 aN) (by omega:w.heap.size <= n7.heap.size);clear A aN;go_wp2;refine cx (Zac rfl _ _ (w.heap.size+1) 99 _ (0,0) _ rfl hF underlying99 rfl Znz) rfl ⟨MrAns.intro (.slice v l.length E) ?_ ?_,BF⟩
    ·rw [H.out];rfl
    ·rw [H.out];exact oF
   ·have bz:(tx.toList == s.toList)=false:=by
     rw [<- Bool.not_eq_true,beq_iff_eq,ByteArray.toList_eq,ByteArray.toList_eq];intro h;apply ai;cases tx;cases s
     congr 1
     exact Array.toList_inj.1 h
    have H:Hid (mrR ns is ds (sb s)=none):=(G rfl).2 ai
    go_wp2_with (refine Zai rfl 99 _ _ rfl (w.heap.size+1) #[.slice none 0 0,.int .i64 0,.int .i64 0,.int .i64 0,.int .i64 0,.int .i64 0,.int .i64 0,.int .i64 0] rfl rfl 99 _ ao Znz rfl (by simp [Value.oneCell']) ?_)
    intro wF hF x A;have BF:=ae.trans (x.mono (Nat.le_succ _));clear A;go_wp2;refine cx (Zac rfl _ _ (w.heap.size+1) 99 _ (0,0) _ rfl hF underlying99 rfl Znz) rfl ⟨MrAns.intro (.slice none 0 0) ?_ ?_,BF⟩
    ·rw [H.out];rfl
    ·rw [H.out];exact World.ownsRow_nil _ _ _ _
end Go.Proofs.YtkpfangkfknhoaaGreatDoor
