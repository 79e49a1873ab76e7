/-
  Texts that stood by themselves, laid into one.
-/
import Derived.Test.YtkpfangkfknhoaaGreatDoorSAddM
import Derived.Test.YtkpfangkfknhoaaGreatDoorSIntoM
import Derived.Deep.RegionHeld
import Derived.Test.YtkpfangkfknhoaaGreatDoorIWire2M
import Derived.Test.YtkpfangkfknhoaaGreatDoorVMoveM
import Derived.Test.YtkpfangkfknhoaaGreatDoorMark2M
import Derived.Test.YtkpfangkfknhoaaGreatDoorS8RdM
import Derived.Test.YtkpfangkfknhoaaGreatDoorInM
import Derived.Test.YtkpfangkfknhoaaGreatDoorSR8M
import Derived.Test.YtkpfangkfknhoaaGreatDoorMcTM
import Derived.Test.YtkpfangkfknhoaaGreatDoorRcWhyM
import Derived.Deep.CutRange
import Derived.Deep.DeepCutAuto
/-
  Contract of impl's Keep. No condition but that the roots are no more than a row bears.
-/
set_option maxRecDepth 100000
set_option maxHeartbeats 6400000
namespace Go.Proofs.YtkpfangkfknhoaaGreatDoor
open Go.Proofs.Tryz
open Go.RowKit
def Zno (xs:List Nd)(rs:List Int):List Nd:=if Zau xs && allI xs rs then mvN 0 xs rs else []
def Znn (xs:List Nd)(rs:List Int):List Int:=if Zau xs && allI xs rs then mvR 0 xs rs rs else []
theorem Zi4 {w a:World}(h:Below w.drew.heap.size w.drew a):Below w.heap.size w a:=(cj w.heap.size w).drew.trans h
theorem Zct (f:Option Addr)(c:Nat)(vl:Value)(b:List Nd)(rs:List Int)(w:World)(R:NRow w (.slice f b.length c) b)(L:IRow w vl rs)(hp:Zau b=true)(hr:allI b rs=true)(aB:rs.length <= 1048576) :
    Calls prog 201 #[.agg #[.slice f b.length c],vl] w fun e Z=>∃ v1 v2,e=.returned (.tuple #[.agg #[v1],v2])/\Z.ownsRow w.heap.size 194 5 v1 (mvN 0 b rs).length (ncs (mvN 0 b rs))/\Z.ownsRow w.heap.size 3 1 v2 rs.length (iv (mvR 0 b rs rs))/\Below w.heap.size w Z:=by
  obtain ⟨i0,hi,ah,an,ag⟩:=info_parts ZnT;have aq:=ZaK hp;have x:Below w.heap.size w ((w.alloc (Obj.cells #[.slice f b.length c] 40)).alloc (Obj.cells #[.slice none 0 0] 40)):=ZlL w _ _;have P:((w.alloc (Obj.cells #[.slice f b.length c] 40)).alloc (Obj.cells #[.slice none 0 0] 40)).heap.size=w.heap.size+1+1:=by simp
  have J:=old2 w (Obj.cells #[.slice f b.length c] 40) (Obj.cells #[.slice none 0 0] 40);have aa:=cH w (Obj.cells #[.slice f b.length c] 40) (Obj.cells #[.slice none 0 0] 40);have V:=Zbh b rs
  go_enter func201,ntmps201
  go_wp2_with fail;have H:=co ((w.alloc (Obj.cells #[.slice f b.length c] 40)).alloc (Obj.cells #[.slice none 0 0] 40)) (Obj.cells #[.slice none 0 0] 40);have A:Below (w.heap.size+1+1) ((w.alloc (Obj.cells #[.slice f b.length c] 40)).alloc (Obj.cells #[.slice none 0 0] 40)) (((w.alloc (Obj.cells #[.slice f b.length c] 40)).alloc (Obj.cells #[.slice none 0 0] 40)).alloc (Obj.cells #[.slice none 0 0] 40)):=(cj _ _).alloc (by rw [P];exact ce _) _;have az:(((w.alloc (Obj.cells #[.slice f b.length c] 40)).alloc (Obj.cells #[.slice none 0 0] 40)).alloc (Obj.cells #[.slice none 0 0] 40)).heap.size=w.heap.size+1+1+1:=by simp
  rw [P] at H;generalize ((w.alloc (Obj.cells #[.slice f b.length c] 40)).alloc (Obj.cells #[.slice none 0 0] 40)).alloc (Obj.cells #[.slice none 0 0] 40)=N at *;generalize (w.alloc (Obj.cells #[.slice f b.length c] 40)).alloc (Obj.cells #[.slice none 0 0] 40)=W2 at *;have G:=x.trans (A.mono (by omega));have R2:=R.below x;have k3:N.cell? ⟨w.heap.size,0,none⟩=some (.slice f b.length c):=by rw [cd N _ 0 _ _ _ ((A.block _ (by omega)).trans J)];rfl
  have ak:w.heap.size < N.heap.size:=by omega
  go_region_held (fun Z=>Z.cell? ⟨w.heap.size,0,none⟩=some (.slice f b.length c)) (first | exact k5 | exact k4 | go_keep) (first
    | (go_at_call 211;refine (ZgS f c vl b rs _ ?_ ?_ hp hr).mono ?_;exact R.below G.drew;exact L.below G.drew;rintro e wk ⟨vk,rfl,I,S⟩;obtain ⟨aA,av,rfl⟩:=Zag I
       have n:Below N.heap.size N wk:=Zi4 S
       have k4:=(n.cell (p:=⟨w.heap.size,0,none⟩) ak).trans k3)
    | (go_at_call 210;refine (Zka (w.heap.size+1+1) (w.heap.size+1+1) none 0 [] b (Zaw b rs) f c _ W2 _ ((n.block _ (by omega)).trans H) (World.ownsRow_nil _ _ _ _) (ce _) R2 (by omega) (A.trans (n.mono (by omega))) (Zah I (by show w.heap.size+1+1 <= N.heap.size;omega)) V hp (by simp)).mono ?_;rintro e m ⟨v5,vp,rfl,W,t,q,E⟩;obtain ⟨a5,q5,rfl⟩:=Zag q
       have k5:m.cell? ⟨w.heap.size,0,none⟩=some (.slice f b.length c):=by rw [cd m _ 0 _ _ _ ((E.block _ (by omega)).trans J)];rfl))
  have HN:Hid (mvN 0 b rs=(ZbC 0 b (Zaw b rs)).1):=rfl;have HR:Hid (mvR 0 b rs rs=rs.map (fun r=>(ZbC 0 b (Zaw b rs)).2.getD r.toNat 0)):=rfl;have ab:(ZbC 0 b (Zaw b rs)).2.length=b.length:=(ZdH _ _ _).2;rw [List.nil_append] at t;rw [show ([]:List Nd).length=0 from rfl] at t q;generalize ZbC 0 b (Zaw b rs)=M at *;obtain ⟨S1,O⟩:=M;simp only at ab t q HN HR;obtain ⟨ap,qp,rfl⟩:=Zag t;have D:=x.trans (E.mono (by omega));have am:=(E.block (w.heap.size+1) (by omega)).trans aa;have T:=(bl W);obtain ⟨al,cl,rfl,ay,_,B⟩:=L;have U:Below m.heap.size m (m.alloc (Obj.cells #[] 3)):=(cj _ _).alloc (ce _) _;have Q:=Zcj m 3 1 m.heap.size (ce _);clear k5 k4 I S n k3 H A J aa G E R2 R x V;go_wp2_with fail
  go_loopw [8,9] (fun s i wr=>∃ (j:Nat),j <= rs.length/\i=.int .i64 j/\wr.ownsRow m.heap.size 3 1 s j (iv ((rs.take j).map (fun r=>O.getD r.toNat 0)))/\Below m.heap.size m wr) (fun _ i _=>rs.length - (intOf i).toNat)
  case atStart=>exact ⟨0,by omega,rfl,Q,U⟩
  case round =>
    clear Q U;obtain ⟨j,hj,rfl,d,h⟩:=hrel
    by_cases v:j < rs.length
    · obtain ⟨g,o,rfl,hg,B⟩:=B (by intro e;subst e;simp at v)
      have ez:=(h.cell (p:=⟨g,o+j,none⟩) (cy hg D.size)).trans ((D.cell (p:=⟨g,o+j,none⟩) hg).trans (B j v));obtain ⟨z0,z1⟩:=Zgs hr j v
      have HT:Hid (iv ((rs.take (j+1)).map (fun r=>O.getD r.toNat 0))=iv ((rs.take j).map (fun r=>O.getD r.toNat 0)) ++ [.int .i64 (O.getD (rs.getD j 0).toNat 0)]):=by
        unfold Hid;rw [List.take_succ_eq_append_getElem v,List.map_append,ZjT,List.getD_eq_getElem?_getD (l:=rs),List.getElem?_eq_getElem v];rfl
      generalize rs.getD j 0=z at ez z0 z1 HT;obtain ⟨nz,rfl⟩:=cG z0;rw [Int.toNat_natCast] at HT;rcases q.2 with ⟨aw,ax⟩ | ⟨g5,ar,au,e5,_,_,_⟩
      · omega
      simp only [Value.slice.injEq,true_and] at e5;obtain ⟨rfl,rfl⟩:=e5;have e9:=(h.cell (p:=⟨g5,nz,none⟩) (q.lt _ rfl).2).trans ((q.cellAt nz (by omega)).trans (Zc0 _ _ (by omega)));generalize O.getD nz 0=y at e9 HT;obtain ⟨Y,X,rfl⟩:=Zag d;clear B hr;have af:=h.size
      go_wp2_with (at_builtin;refine wpList_append_own _ rfl _ _ 124 rfl m.heap.size 3 i0 (.int .i64 0) 1 8 underlying124 hi ah an ag rfl (by decide) _ _ _ rfl (d.alloc _) ⟨wr.heap.size,0,none⟩ 1 1 [.int .i64 y] rfl rfl (cell_one_new _ _ _) (by simp [Value.oneCell']) (by unfold maxLen;omega) (by omega) (by simp;omega) ?_)
      intro v7 w8 u F _;have ac:Below m.heap.size m w8:=(h.alloc af _).grown F (by simp;omega) (fun k hk=>(d.lt k hk).1);have C:w8.ownsRow m.heap.size 3 1 v7 (j+1) (iv ((rs.take (j+1)).map (fun r=>O.getD r.toNat 0))):=by rw [HT.out];simpa only [List.map_take,List.getD_eq_getElem?_getD] using u
      clear F u;go_wp2_with fail
      go_roundw
      case rel=>exact ⟨j+1,by omega,by go_num,C,ac⟩
      case measure=>simp [intOf];omega
    · have ai:j=rs.length:=by omega
      subst ai;have aj:=(h.block _ T).trans W;have K:=(h.block _ (by omega)).trans am;have c6:wr.cell? ⟨w.heap.size+1+1,0,none⟩=some (.slice ap S1.length qp):=by rw [cd wr _ 0 _ _ _ aj];rfl
      have c4:wr.cell? ⟨w.heap.size+1,0,none⟩=some (.slice none 0 0):=by rw [cd wr _ 0 _ _ _ K];rfl
      have f4:wr.frozen? ⟨w.heap.size+1,0,none⟩=false:=cw wr _ 0 _ _ K;have ae:=Zad t h;rw [List.take_length,<- HR.out] at d;obtain ⟨Y,X,rfl⟩:=Zag d;have ad:=D.trans (h.mono D.size);obtain ⟨p1,p2,p3⟩:=ZkP K ae ad (by omega) (by omega);have p4:=Zah (B':=w.heap.size) (cI d (a:=⟨w.heap.size+1,0,none⟩) (by show w.heap.size+1 < m.heap.size;omega) (.slice ap S1.length qp)) (by omega);go_wp2_with fail;refine cx (Zac rfl _ _ (w.heap.size+1) 40 _ (0,0) _ rfl p1 underlying40 rfl ZnX) rfl ⟨_,.slice Y rs.length X,rfl,?_,p4,p3⟩;rw [HN.out];exact p2
def vpB (xs:List Nd)(v:Int):Bool:=Zau xs && hasI xs v
def vpR (xs:List Nd)(v:Int):ByteArray:=if vpB xs v then strOfNums (ZbG (mvN 0 xs [v])) else ByteArray.empty
theorem ZiL (v:Value)(b:List Nd)(a:Int)(w:World)(R:NRow w v b) :
  Calls prog 174 #[.agg #[v],.int .i64 a] w fun e N=>e=.returned (.tuple #[.string (vpR b a),.bool (vpB b a)])/\Below w.heap.size w N:=by
 have K:=R;obtain ⟨p,f,rfl,_⟩:=K;have h:Below w.heap.size w (w.alloc (Obj.cells #[.slice p b.length f] 40)):=(cj _ _).alloc (ce _) _
 go_enter func174,ntmps174
 go_wp2_with fail;refine (Zcc _ b _ (R.below h)).mono ?_;rintro e E ⟨rfl,n⟩;have l:E.heap[w.heap.size]? = some (.cells #[.slice p b.length f] 40 (0,0)):=(n.block _ (by simp)).trans (co _ _);have d:=h.trans (n.mono h.size);have c1:E.cell? ⟨w.heap.size,0,none⟩=some (.slice p b.length f):=cd E _ 0 _ _ _ l;clear h n;cases r:Zau b with
 | false =>
  have j:Hid (vpB b a=false):=by unfold Hid vpB;rw [r];rfl
  have x:Hid (vpR b a=ByteArray.empty):=by unfold Hid vpR;rw [j.out];rfl
  go_wp2
  go_ret2
  exact ⟨by rw [j.out,x.out];rfl,d⟩
 | true =>
  have F:=ZbP r;go_wp2_with fail;refine (Zlo _ b a _ (R.below d)).mono ?_;rintro e o ⟨rfl,k⟩;have z:=(bb l k);have c:=d.trans (k.mono d.size);have c2:o.cell? ⟨w.heap.size,0,none⟩=some (.slice p b.length f):=cd o _ 0 _ _ _ z;clear d k l c1;cases C:hasI b a with
  | false =>
   have j:Hid (vpB b a=false):=by unfold Hid vpB;rw [C,Bool.and_false]
   have x:Hid (vpR b a=ByteArray.empty):=by unfold Hid vpR;rw [j.out];rfl
   go_wp2
   go_ret2
   exact ⟨by rw [j.out,x.out];rfl,c⟩
  | true =>
   have j:Hid (vpB b a=true):=by unfold Hid vpB;rw [C,r];rfl
   have x:Hid (vpR b a=strOfNums (ZbG (mvN 0 b [a]))):=by unfold Hid vpR;rw [j.out];rfl
   have y:allI b [a]=true:=by simp [allI,C]
   have O:=Zg6 0 b [a];have t:=Zhf 0 b [a] r (by omega);have g:Below o.heap.size o (o.alloc (Obj.cells #[.int .i64 a] 3)):=(cj _ _).alloc (ce _) _;go_wp2_with fail;refine (Zct p f _ b [a] _ (R.below (c.trans (g.mono c.size))) (Zhs (co o _)) r y (by simp)).mono ?_;rintro e B ⟨P,Q,rfl,u,_,s⟩;have i:=(c.trans (g.mono c.size)).trans (s.mono (c.trans (g.mono c.size)).size);clear c g s z c2;generalize mvN 0 b [a]=ys at *;obtain ⟨H,G,rfl⟩:=Zag u;have m:Below B.heap.size B (B.alloc (Obj.cells #[.slice H ys.length G] 40)):=(cj _ _).alloc (ce _) _;have J:=NRow.of_own u (by omega) (ZbK t);go_wp2_with fail;refine (ZdV _ ys _ (J.below m) t (by omega)).mono ?_;rintro e S ⟨T,rfl,q,A⟩;obtain ⟨L,I,rfl⟩:=Zag q;have D:=(i.trans (m.mono i.size)).trans (A.mono (i.trans (m.mono i.size)).size);have M:=Zhu q
   go_wp2_with (refine ZbR _ rfl _ 186 9 5 rfl underlying186 underlying9 underlying5 L (ZbG ys).length I (ZbG ys) rfl rfl M ?_)
   go_ret2
   exact ⟨by rw [j.out,x.out];rfl,D⟩
theorem ZlT {l:List Int}{s:ByteArray}(a:∀ z ∈ l,0 <= z/\z <= 255):strOfNums l=s <-> l=sb s:=by
 constructor
 ·intro h
  rw [<- h,Zkp a]
 ·intro h
  rw [h,Zdc]
theorem Zm8 {s:ByteArray}{a:List Nd}{i:Int}{k:Bool}(n:sP (sb s) 0 true=(a,i,k)) :
  (sOk (sb s) 0 true=false -> vrR (sb s)=none)/\(a=[] -> vrR (sb s)=none)/\(sOk (sb s) 0 true=true -> a ≠ [] -> (Zau a=true/\vpB a ((a.length:Int) - 1)=true)/\(vpR a ((a.length:Int) - 1)=s -> vrR (sb s)=some a)/\(vpR a ((a.length:Int) - 1) ≠ s -> vrR (sb s)=none)):=by
 have b:=fun ys=>Zlu (sb s) (Zh3 s) ys
 rw [n] at b;refine ⟨fun h=>?_,fun h=>?_,fun h d=>?_⟩
 ·cases c:vrR (sb s) with
  | none=>rfl
  | some ys=>have:=((b ys).1 c).1.1;rw [h] at this;cases this
 ·cases c:vrR (sb s) with
  | none=>rfl
  | some ys=>obtain ⟨⟨_,f⟩,p,_⟩:=(b ys).1 c;exact absurd (f.symm.trans h) p
 ·have j:Zau a=true:=by
   unfold sOk at h;rw [n] at h;simp only [Bool.and_eq_true] at h;exact h.2
  have m:=List.length_pos_iff.2 d;have g:vpB a ((a.length:Int) - 1)=true:=by unfold vpB hasI;rw [j];simp;omega
  have l:vpR a ((a.length:Int) - 1)=strOfNums (ZbG (mvN 0 a [(a.length:Int) - 1])):=by unfold vpR;rw [if_pos g]
  refine ⟨⟨j,g⟩,fun e=>?_,fun e=>?_⟩
  ·rw [l,ZlT (ZeP _)] at e
   exact (b a).2 ⟨⟨h,rfl⟩,d,e⟩
  ·cases c:vrR (sb s) with
   | none=>rfl
   | some ys =>
    obtain ⟨⟨_,f⟩,_,o⟩:=(b ys).1 c;have f:a=ys:=f;subst f;exact absurd (by rw [l,ZlT (ZeP _)];exact o) e
theorem ZiI (s:ByteArray)(w:World)(hs:s.size <= 140737488351232) :
  Calls prog 146 #[.string s] w fun e w'=>VrAns w.heap.size (sb s) e w'/\Below w.heap.size w w':=by
 have G:Below w.heap.size w (w.alloc (Obj.cells #[.slice none 0 0] 40)):=(cj _ _).alloc (ce _) _
 go_enter func146,ntmps146
 go_wp2_with (first
  | (refine Zbg _ rfl _ 9 186 5 rfl underlying9 underlying186 underlying5 s rfl ?_;intro y n g0 g1 X N))
 have R:(w.alloc (Obj.cells #[.slice none 0 0] 40)).heap.size=w.heap.size+1:=by simp
 have RR:=Zbn (w:=w.alloc (Obj.cells #[.slice none 0 0] 40)) hs g0 g1 N;rw [R] at RR N;have x2:=(X.block w.heap.size (by rw [R];omega) (by simp)).trans (co w _);have V:Below w.heap.size w n:=G.grown X G.size (fun k Q=>by cases Q);clear R g1 X;have P:Below n.heap.size n (n.alloc (Obj.cells #[.slice (some ⟨w.heap.size+1,0,none⟩) s.size y,.int .i64 0,.bool true] 188)):=(cj _ _).alloc (ce _) _;have L:C8 (n.alloc (Obj.cells #[.slice (some ⟨w.heap.size+1,0,none⟩) s.size y,.int .i64 0,.bool true] 188)) n.heap.size (.slice (some ⟨w.heap.size+1,0,none⟩) s.size y) 0 true:=co _ _;have x3:=(P.block w.heap.size (by omega)).trans x2;have C:=V.trans (P.mono V.size);have v:=ZeC n.heap.size _ (sb s) 0 true _ (RR.below P) L (by omega) (by omega)
 have T:(n.alloc (Obj.cells #[.slice (some ⟨w.heap.size+1,0,none⟩) s.size y,.int .i64 0,.bool true] 188)).heap.size=n.heap.size+1:=by simp
 obtain ⟨p,hp⟩:∃ p,Hid (sP (sb s) 0 true=p):=⟨_,rfl⟩;obtain ⟨c,ag,k⟩:=p;obtain ⟨b,hb⟩:∃ b,Hid (sOk (sb s) 0 true=b):=⟨_,rfl⟩;have F:=Zm8 hp.out;rw [hb.out] at F;rw [hp.out,hb.out] at v
 dsimp only at v
 refine v.mono ?_;rintro e i ⟨vs,rfl,O,c4,z,aj⟩;have x4:=(z.block w.heap.size (by rw [T];omega) (by simp;omega)).trans x3;have E:Below w.heap.size w i:=C.grown z C.size (fun k Q=>by simp at Q;omega);have ak:n.heap.size+1 <= i.heap.size:=by have:=z.size;omega
 rw [T] at O;have ai:w.heap.size+1 < n.heap.size:=N;clear v z x3 C L P T G x2 V N RR;obtain ⟨g,f,rfl⟩:=Zag O;have I:Below i.heap.size i (i.alloc (Obj.cells #[.slice g c.length f] 40)):=(cj _ _).alloc (ce _) _;have A:=(I.block _ (by omega)).trans x4;have c5:=c4.below I;have S:=Zad O I;have r:=E.trans (I.mono E.size);have y5:(i.alloc (Obj.cells #[.slice g c.length f] 40)).heap[i.heap.size]? = some (.cells #[.slice g c.length f] 40 (0,0)):=co _ _;have Y:(i.alloc (Obj.cells #[.slice g c.length f] 40)).cell? ⟨n.heap.size,2,none⟩=some (.bool b):=cd _ _ 2 _ _ _ c5;have cp:(i.alloc (Obj.cells #[.slice g c.length f] 40)).cell? ⟨i.heap.size,0,none⟩=some (.slice g c.length f):=cd _ _ 0 _ _ _ y5;cases b with
 | false =>
  have hN:=F.1 rfl;have j:Hid (vrL (sb s)=[]/\vrI (sb s)=0/\vrB (sb s)=false):=Zlp hN;clear F hN;have W:(i.alloc (Obj.cells #[.slice g c.length f] 40)).cell? ⟨w.heap.size,0,none⟩=some (.slice none 0 0):=cd (i.alloc (Obj.cells #[.slice g c.length f] 40)) _ 0 _ _ _ A;have Z:(i.alloc (Obj.cells #[.slice g c.length f] 40)).frozen? ⟨w.heap.size,0,none⟩=false:=cw (i.alloc (Obj.cells #[.slice g c.length f] 40)) _ 0 _ _ A;have d:=cu (i.alloc (Obj.cells #[.slice g c.length f] 40)) w.heap.size 0 _ _ (.slice none 0 0) A;have l:=r.setCell (p:=⟨w.heap.size,0,none⟩) (ce _) (.slice none 0 0);go_wp2;refine cx (ZaW rfl _ _ w.heap.size 40 _ (0,0) _ rfl d underlying40 rfl ZnX) rfl ⟨VrAns.intro (.slice none 0 0) ?_ ?_,l⟩
  ·rw [j.out.2.1,j.out.2.2];rfl
  ·rw [j.out.1];exact World.ownsRow_nil _ _ _ _
 | true =>
  by_cases t:c=[]
  ·have j:Hid (vrL (sb s)=[]/\vrI (sb s)=0/\vrB (sb s)=false):=Zlp (F.2.1 t)
   have ab:(c.length:Int)=0:=by rw [t];rfl
   clear F t;have W:(i.alloc (Obj.cells #[.slice g c.length f] 40)).cell? ⟨w.heap.size,0,none⟩=some (.slice none 0 0):=cd (i.alloc (Obj.cells #[.slice g c.length f] 40)) _ 0 _ _ _ A;have Z:(i.alloc (Obj.cells #[.slice g c.length f] 40)).frozen? ⟨w.heap.size,0,none⟩=false:=cw (i.alloc (Obj.cells #[.slice g c.length f] 40)) _ 0 _ _ A;have d:=cu (i.alloc (Obj.cells #[.slice g c.length f] 40)) w.heap.size 0 _ _ (.slice none 0 0) A;have l:=r.setCell (p:=⟨w.heap.size,0,none⟩) (ce _) (.slice none 0 0);go_wp2;refine cx (ZaW rfl _ _ w.heap.size 40 _ (0,0) _ rfl d underlying40 rfl ZnX) rfl ⟨VrAns.intro (.slice none 0 0) ?_ ?_,l⟩
   ·rw [j.out.2.1,j.out.2.2];rfl
   ·rw [j.out.1];exact World.ownsRow_nil _ _ _ _
  ·obtain ⟨⟨u,aa⟩,m,x⟩:=F.2.2 rfl t
   have ae:=List.length_pos_iff.2 t;have ad:=ZaK u;have ab:¬ (c.length:Int)=0:=by omega
   have R5:NRow (i.alloc (Obj.cells #[.slice g c.length f] 40)) (.slice g c.length f) c:=NRow.of_own S (by omega) (ZbK (ZbO u));have U:=ZiL _ c ((c.length:Int) - 1) _ R5;obtain ⟨J,D⟩:∃ J,Hid (vpR c ((c.length:Int) - 1)=J):=⟨_,rfl⟩;obtain ⟨tb,M⟩:∃ tb,Hid (vpB c ((c.length:Int) - 1)=tb):=⟨_,rfl⟩;rw [D.out,M.out] at U;rw [D.out] at m x;clear F D M aa;go_wp2_with fail;refine U.mono ?_;rintro e o ⟨rfl,q⟩;have H:=(bb A q);have y6:=(bb y5 q);have o6:=Zad S q;have K:=r.trans (q.mono r.size);clear U q r I E x4 A y5 O S c4 c5 Y cp R5
   by_cases B:J=s
   ·have j:Hid (vrL (sb s)=c/\vrI (sb s)=(c.length:Int) - 1/\vrB (sb s)=true):=ZlH (m B)
    clear m x;have q0:o.cell? ⟨i.heap.size,0,none⟩=some (.slice g c.length f):=cd o _ 0 _ _ _ y6;have W:o.cell? ⟨w.heap.size,0,none⟩=some (.slice none 0 0):=cd o _ 0 _ _ _ H;have Z:o.frozen? ⟨w.heap.size,0,none⟩=false:=cw o _ 0 _ _ H;have af:i.heap.size ≠ w.heap.size:=by omega
    have d:=cu o w.heap.size 0 _ _ (.slice g c.length f) H;have l:=K.setCell (p:=⟨w.heap.size,0,none⟩) (ce _) (.slice g c.length f);have ac:=Zah (cI o6 (a:=⟨w.heap.size,0,none⟩) (by show w.heap.size < n.heap.size+1;omega) (.slice g c.length f)) (show w.heap.size <= n.heap.size+1 by omega);go_wp2_with fail
    go_region
    all_goals
     go_wp2;refine cx (ZaW rfl _ _ w.heap.size 40 _ (0,0) _ rfl d underlying40 rfl ZnX) rfl ⟨VrAns.intro (.slice g c.length f) ?_ ?_,l.drew⟩
     ·rw [j.out.2.1,j.out.2.2];rfl
     ·rw [j.out.1];exact ac
   ·have j:Hid (vrL (sb s)=[]/\vrI (sb s)=0/\vrB (sb s)=false):=Zlp (x B)
    have ah:(J.toList == s.toList)=false:=by
     rw [<- Bool.not_eq_true,beq_iff_eq,ByteArray.toList_eq,ByteArray.toList_eq];intro h;apply B;cases J;cases s
     congr 1
     exact Array.toList_inj.1 h
    clear m x;have W:o.cell? ⟨w.heap.size,0,none⟩=some (.slice none 0 0):=cd o _ 0 _ _ _ H;have Z:o.frozen? ⟨w.heap.size,0,none⟩=false:=cw o _ 0 _ _ H;have d:=cu o w.heap.size 0 _ _ (.slice none 0 0) H;have l:=K.setCell (p:=⟨w.heap.size,0,none⟩) (ce _) (.slice none 0 0);go_wp2;refine cx (ZaW rfl _ _ w.heap.size 40 _ (0,0) _ rfl d underlying40 rfl ZnX) rfl ⟨VrAns.intro (.slice none 0 0) ?_ ?_,l⟩
    ·rw [j.out.2.1,j.out.2.2];rfl
    ·rw [j.out.1];exact World.ownsRow_nil _ _ _ _
def pidB (i:Int):Bool:=decide (1 <= i/\i <= 1000000000)
def boxB (bx:List ByteArray):Bool:=decide (bx.length <= 20) && bx.all fun s=>vrB (sb s)
def outB (ox:List ByteArray):Bool:=decide (ox.length <= 40) && ox.all fun s=>decide (s.size <= 400)
def Zbr (ns:List Nd)(is:List In)(ds:List Df)(i:Int)(xs:List Nd)(m:Mc)(bx ox:List ByteArray):Bool:=pidB i && (boxB bx && (outB ox && Za5 ns is ds xs m))
theorem Zdp {b:List ByteArray}{f:ByteArray -> Bool}{k:Nat}{x:ByteArray}(h:∀ j y,b[j]? = some y -> j < k -> f y=true)(c:b[k]? = some x)(d:f x=true):∀ j y,b[j]? = some y -> j < k+1 -> f y=true:=fun j y a g=>by
 by_cases e:j=k
 ·subst e
  rw [c] at a;cases a;exact d
 ·exact h j y a (by omega)
theorem Zfc {a:List ByteArray}{f:ByteArray -> Bool}(h:∀ j y,a[j]? = some y -> j < a.length -> f y=true):a.all f=true:=List.all_eq_true.2 fun x c=>by
 obtain ⟨j,b,e⟩:=List.getElem_of_mem c;exact h j x (by rw [<- e];simp [b]) b
theorem Zdm {a:List ByteArray}{f:ByteArray -> Bool}{k:Nat}{x:ByteArray}(b:a[k]? = some x)(c:f x=false):a.all f=false:=by
 rw [List.all_eq_false];exact ⟨x,List.mem_of_getElem? b,by simp [c]⟩
theorem ZfR (i:Int)(w:World):Calls prog 94 #[.int .i64 i] w fun e b=>e=.returned (.bool (pidB i))/\b=w:=by
 by_cases c:1 <= i
 ·by_cases a:i <= 1000000000
  ·go_enter func94,ntmps94
   go_wp2;go_ret;exact ⟨retB (by simp [pidB,c,a]),rfl⟩
  ·go_enter func94,ntmps94
   go_wp2;go_ret;exact ⟨retB (by simp [pidB,a]),rfl⟩
 ·go_enter func94,ntmps94
  go_wp2;go_ret;exact ⟨retB (by unfold pidB;rw [decide_eq_false_iff_not.2 (by omega)]),rfl⟩
theorem Zgx (v:Value)(a:List ByteArray)(w:World)(R:StRow w v a)(J:∀ x ∈ a,x.size <= 140737488351232)(O:ErrT w) :
  Calls prog 158 #[v] w fun e M=>e=.returned (.bool (boxB a))/\Below w.heap.size w M:=by
 obtain ⟨Q,N,rfl,H,T,L,b⟩:=R
 by_cases G:a.length <= 20
 rotate_left
 ·have K:20 < (a.length:Int):=by omega
  have d:Hid (boxB a=false):=by show boxB a=false;simp [boxB,G]
  go_enter func158,ntmps158
  go_wp2;go_ret;exact ⟨retB d.out.symm,cj _ _⟩
 have I:Hid (boxB a=a.all fun s=>vrB (sb s)):=by show boxB a=a.all fun s=>vrB (sb s);simp [boxB,G]
 go_enter func158,ntmps158
 go_wp2
 go_loopw [13] (fun i wr=>∃ k:Nat,k <= a.length/\i=.int .i64 k/\Hid (∀ j x,a[j]? = some x -> j < k -> vrB (sb x)=true)/\Below w.heap.size w wr) (fun i _=>a.length - (intOf i).toNat)
 case atStart=>exact ⟨0,by omega,rfl,fun j x _ h=>by omega,cj _ _⟩
 case round =>
  obtain ⟨k,S,rfl,A,z⟩:=hrel
  by_cases t:k < a.length
  ·obtain ⟨g,o,rfl,C,b⟩:=b (by intro e;subst e;simp at t)
   obtain ⟨x,l⟩:∃ x,a[k]? = some x:=⟨a[k],by simp [t]⟩;have c0:=(z.cell (p:=⟨g,o+k,none⟩) C).trans (b k x l);have B:=Ziw x wr (J x (List.mem_of_getElem? l)) (O.below z (ce _));unfold VrAns at B;have V:Hid (a[k]? = some x):=l;have d:=fun h=>Zdm (f:=fun s=>vrB (sb s)) l h
   have c:=fun h=>Zdp (f:=fun s=>vrB (sb s)) A.out l h
   clear b l;generalize vrB (sb x)=bv at B d c;go_wp2_with fail;refine B.mono ?_;rintro e P ⟨⟨U,rfl,r⟩,n⟩;obtain ⟨E,m,rfl⟩:=Zag r;have y:=z.trans (n.mono z.size);clear B r n c0;have q:Below w.heap.size w (P.alloc (Obj.cells #[.slice E (vrL (sb x)).length m] 40)):=y.alloc y.size _;cases bv with
   | true =>
    have u:=c rfl;have F:Hid (∀ j x,a[j]? = some x -> j < k+1 -> vrB (sb x)=true):=u;clear A c u d;go_wp2
    go_roundw
    case rel=>exact ⟨k+1,by omega,by go_num,F,q⟩
    case measure=>simp [intOf];omega
   | false =>
    have D:Hid ((a.all fun s=>vrB (sb s))=false):=d rfl;clear A c d;go_wp2;go_ret;exact ⟨retB (I.out.trans D.out).symm,q⟩
  ·go_wp2
   go_ret;have e:k=a.length:=by omega
   subst e;exact ⟨retB (I.out.trans (Zfc A.out)).symm,z⟩
theorem ZgV (v:Value)(b:List ByteArray)(w:World)(R:StRow w v b) :
  Calls prog 159 #[v] w fun e E=>e=.returned (.bool (outB b))/\Below w.heap.size w E:=by
 obtain ⟨I,F,rfl,y,H,q,a⟩:=R
 by_cases u:b.length <= 40
 rotate_left
 ·have C:40 < (b.length:Int):=by omega
  have D:Hid (outB b=false):=by show outB b=false;simp [outB,u]
  go_enter func159,ntmps159
  go_wp2;go_ret;exact ⟨retB D.out.symm,cj _ _⟩
 have A:Hid (outB b=b.all fun s=>decide (s.size <= 400)):=by show outB b=b.all fun s=>decide (s.size <= 400);simp [outB,u]
 go_enter func159,ntmps159
 go_wp2
 go_loopw [10] (fun i wr=>∃ k:Nat,k <= b.length/\i=.int .i64 k/\Hid (∀ j x,b[j]? = some x -> j < k -> decide (x.size <= 400)=true)/\Below w.heap.size w wr) (fun i _=>b.length - (intOf i).toNat)
 case atStart=>exact ⟨0,by omega,rfl,fun j x _ h=>by omega,cj _ _⟩
 case round =>
  obtain ⟨k,G,rfl,t,l⟩:=hrel
  by_cases c:k < b.length
  ·obtain ⟨g,o,rfl,m,a⟩:=a (by intro e;subst e;simp at c)
   obtain ⟨x,d⟩:∃ x,b[k]? = some x:=⟨b[k],by simp [c]⟩;have c0:=(l.cell (p:=⟨g,o+k,none⟩) m).trans (a k x d);have r:=q x (List.mem_of_getElem? d);unfold maxLen at r;have B:Hid (b[k]? = some x):=d;clear a d
   by_cases z:x.size <= 400
   ·have n:¬ 400 < (x.size:Int):=by omega
    go_wp2
    go_roundw
    case rel=>exact ⟨k+1,by omega,by go_num,Zdp (f:=fun s=>decide (s.size <= 400)) t.out B.out (by simp [z]),l⟩
    case measure=>simp [intOf];omega
   ·have n:400 < (x.size:Int):=by omega
    go_wp2;go_ret;exact ⟨retB (A.out.trans (Zdm (f:=fun s=>decide (s.size <= 400)) B.out (by simp [z]))).symm,l⟩
  ·go_wp2
   go_ret;have e:k=b.length:=by omega
   subst e;exact ⟨retB (A.out.trans (Zfc t.out)).symm,l⟩
theorem ZdJ (J K S v vb L:Value)(ns:List Nd)(is:List In)(ds:List Df)(i:Int)(l:List Nd)(m:Mc)(y u:List ByteArray)(w:World)(M:NRow w J ns)(T:InRow w K is)(Q:DfRow w S ds)(R:NRow w v l)(U:StRow w vb y)(G:StRow w L u)(W:∀ x ∈ y,x.size <= 140737488351232)(hg:ErrT w) :
  Calls prog 124 #[.agg #[J,K,S],.agg #[.int .i64 i,v,.int .i64 m.p,.int .i64 m.s,.int .i64 m.e,.int .i64 m.d,.int .i64 m.t,.int .i64 m.q,.int .i64 m.r,vb,L]] w fun e w'=>e=.returned (.bool (Zbr ns is ds i l m y u))/\Below w.heap.size w w':=by
 obtain ⟨A,g,rfl⟩:∃ A g,v=.slice A l.length g:=by obtain ⟨A,g,rfl,_⟩:=R;exact ⟨A,g,rfl⟩
 obtain ⟨H,c1,rfl⟩:=M.small;obtain ⟨O,c2,rfl⟩:=T.small;obtain ⟨P,c3,rfl⟩:=Q.small;obtain ⟨ab,cb,rfl⟩:=U.small;obtain ⟨N,I,rfl⟩:=G.small;obtain ⟨f,E,C⟩:=Zax w (Obj.cells #[.slice H ns.length c1,.slice O is.length c2,.slice P ds.length c3] 44) (Obj.cells #[.int .i64 i,.slice A l.length g,.int .i64 m.p,.int .i64 m.s,.int .i64 m.e,.int .i64 m.d,.int .i64 m.t,.int .i64 m.q,.int .i64 m.r,.slice ab y.length cb,.slice N u.length I] 101);have o:Hid (Zbr ns is ds i l m y u=(pidB i && (boxB y && (outB u && Za5 ns is ds l m)))):=rfl
 go_enter func124,ntmps124
 go_wp2_with fail;refine (ZfR _ _).mono ?_;rintro e w1 ⟨rfl,rfl⟩;generalize pidB i=X at o ⊢;cases X with
 | false =>
  go_wp2;go_ret;exact ⟨retB (by rw [o.out];rfl),f⟩
 | true =>
  go_wp2_with fail;refine (Zgx _ y _ (U.below f) W (hg.below f (ce _))).mono ?_;rintro e V ⟨rfl,j⟩;have h:=f.trans (j.mono f.size);have D:=(bb E j);have z:=(bb C j);clear f E C j;generalize boxB y=b2 at o ⊢;cases b2 with
  | false =>
   go_wp2;go_ret;exact ⟨retB (by rw [o.out];rfl),h⟩
  | true =>
   have Z:V.cell? ⟨w.heap.size+1,0+10,none⟩=some (.slice N u.length I):=cd V _ 10 _ _ _ z;go_wp2_with fail;refine (ZgV _ u _ (G.below h)).mono ?_;rintro e a ⟨rfl,k⟩;have c:=h.trans (k.mono h.size);have n:=(bb D k);have b:=(bb z k);clear h D z k Z;generalize outB u=b3 at o ⊢;cases b3 with
   | false =>
    go_wp2;go_ret;exact ⟨retB (by rw [o.out];rfl),c⟩
   | true =>
    have l0:a.cell? ⟨w.heap.size,0,none⟩=some (.slice H ns.length c1):=cd a _ 0 _ _ _ n;have Y:a.cell? ⟨w.heap.size,0+1,none⟩=some (.slice O is.length c2):=cd a _ 1 _ _ _ n;have l2:a.cell? ⟨w.heap.size,0+2,none⟩=some (.slice P ds.length c3):=cd a _ 2 _ _ _ n;have k1:a.cell? ⟨w.heap.size+1,0+1,none⟩=some (.slice A l.length g):=cd a _ 1 _ _ _ b;have k2:a.cell? ⟨w.heap.size+1,0+1+1,none⟩=some (.int .i64 m.p):=cd a _ 2 _ _ _ b;have k3:a.cell? ⟨w.heap.size+1,0+1+2,none⟩=some (.int .i64 m.s):=cd a _ 3 _ _ _ b;have k4:a.cell? ⟨w.heap.size+1,0+1+3,none⟩=some (.int .i64 m.e):=cd a _ 4 _ _ _ b;have k5:a.cell? ⟨w.heap.size+1,0+1+4,none⟩=some (.int .i64 m.d):=cd a _ 5 _ _ _ b;have k6:a.cell? ⟨w.heap.size+1,0+1+5,none⟩=some (.int .i64 m.t):=cd a _ 6 _ _ _ b
    have k7:a.cell? ⟨w.heap.size+1,0+1+6,none⟩=some (.int .i64 m.q):=cd a _ 7 _ _ _ b;have k8:a.cell? ⟨w.heap.size+1,0+1+7,none⟩=some (.int .i64 m.r):=cd a _ 8 _ _ _ b;go_wp2_with fail;refine (ZcM _ _ _ _ ns is ds l m _ (M.below c) (T.below c) (Q.below c) (R.below c)).mono ?_;rintro e w4 ⟨rfl,B⟩;have F:=c.trans (B.mono c.size);clear c n b B l0 Y l2;generalize Za5 ns is ds l m=b4 at o ⊢;cases b4 with
    | false =>
     go_wp2;go_ret;exact ⟨retB (by rw [o.out];rfl),F⟩
    | true =>
     go_wp2;go_ret;exact ⟨retB (by rw [o.out];rfl),F⟩
theorem Zl7 (x:Int)(w:World):Calls prog 75 #[.int .i64 x,.int .i64 1,.int .i64 1000000000] w fun e a=>e=.returned (.bool (pidB x))/\a=w:=by
 refine (Zas x 1 1000000000 w).mono ?_;rintro e a ⟨rfl,rfl⟩;exact ⟨retB (by simp [pidB]),rfl⟩
theorem Zd4 (v1 v2 v3 v vb vo:Value)(ns:List Nd)(is:List In)(ds:List Df)(i:Int)(K:List Nd)(m:Mc)(c l:List ByteArray)(w:World)(R1:NRow w v1 ns)(R2:InRow w v2 is)(R3:DfRow w v3 ds)(R:NRow w v K)(Rb:StRow w vb c)(Ro:StRow w vo l)(hz:∀ x ∈ c,x.size <= 140737488351232) :
  Calls prog 112 #[.agg #[v1,v2,v3],.agg #[.int .i64 i,v,.int .i64 m.p,.int .i64 m.s,.int .i64 m.e,.int .i64 m.d,.int .i64 m.t,.int .i64 m.q,.int .i64 m.r,vb,vo]] w fun e w'=>e=.returned (.bool (Zbr ns is ds i K m c l))/\Below w.heap.size w w':=by
 obtain ⟨V,C,rfl⟩:∃ V C,v=.slice V K.length C:=by obtain ⟨V,C,rfl,_⟩:=R;exact ⟨V,C,rfl⟩
 obtain ⟨a1,c1,rfl⟩:=R1.small;obtain ⟨a2,c2,rfl⟩:=R2.small;obtain ⟨a3,c3,rfl⟩:=R3.small;obtain ⟨ab,cb,rfl,af,ar,au,a⟩:=Rb;obtain ⟨ac,cc,rfl,ak,av,ah,b⟩:=Ro;obtain ⟨n,an,aa⟩:=Zax w (Obj.cells #[.slice a1 ns.length c1,.slice a2 is.length c2,.slice a3 ds.length c3] 44) (Obj.cells #[.int .i64 i,.slice V K.length C,.int .i64 m.p,.int .i64 m.s,.int .i64 m.e,.int .i64 m.d,.int .i64 m.t,.int .i64 m.q,.int .i64 m.r,.slice ab c.length cb,.slice ac l.length cc] 101);have H:Hid (Zbr ns is ds i K m c l=(pidB i && (boxB c && (outB l && Za5 ns is ds K m)))):=rfl;have HV:Hid (boxB c=(decide (c.length <= 20) && c.all fun s=>vrB (sb s))):=rfl;have HW:Hid (outB l=(decide (l.length <= 40) && l.all fun s=>decide (s.size <= 400))):=rfl
 go_enter func112,ntmps112
 go_wp2_with fail;refine (Zl7 _ _).mono ?_;rintro e w1 ⟨rfl,rfl⟩;generalize pidB i=b1 at H ⊢;cases b1 with
 | false =>
  go_wp2;go_ret;exact ⟨retB (by rw [H.out];rfl),n⟩
 | true =>
  go_wp2_with fail;refine (ZdX _ _ _ _ ns is ds K m _ (R1.below n) (R2.below n) (R3.below n) (R.below n)).mono ?_;rintro e T ⟨rfl,S⟩;have y:=n.trans (S.mono n.size);have F:=(bb aa S);clear n an aa S R R1 R2 R3;generalize Za5 ns is ds K m=b2 at H ⊢;cases b2 with
  | false =>
   go_wp2;go_ret;exact ⟨retB (by rw [H.out];simp),y⟩
  | true =>
   have k9:T.cell? ⟨w.heap.size+1,0+9,none⟩=some (.slice ab c.length cb):=cd T _ 9 _ _ _ F
   by_cases P:c.length <= 20
   rotate_left
   ·have ap:20 < (c.length:Int):=by omega
    have M:Hid (boxB c=false):=by show boxB c=false;simp [boxB,P]
    go_wp2;go_ret;exact ⟨retB (by rw [H.out,M.out];rfl),y⟩
   have Z:T.cell? ⟨w.heap.size+1,0+10,none⟩=some (.slice ac l.length cc):=cd T _ 10 _ _ _ F
   by_cases O:l.length <= 40
   rotate_left
   ·have aq:40 < (l.length:Int):=by omega
    have M:Hid (outB l=false):=by show outB l=false;simp [outB,O]
    go_wp2;go_ret;exact ⟨retB (by rw [H.out,M.out];simp),y⟩
   replace HV:Hid (boxB c=c.all fun s=>vrB (sb s)):=by show boxB c=c.all fun s=>vrB (sb s);simp [boxB,P]
   replace HW:Hid (outB l=l.all fun s=>decide (s.size <= 400)):=by show outB l=l.all fun s=>decide (s.size <= 400);simp [outB,O]
   go_wp2;clear k9 Z P O
   go_loopw [5] (fun i wr=>∃ k:Nat,k <= c.length/\i=.int .i64 k/\Hid (∀ j x,c[j]? = some x -> j < k -> vrB (sb x)=true)/\Below T.heap.size T wr) (fun i _=>c.length - (intOf i).toNat)
   case atStart=>exact ⟨0,by omega,rfl,fun j x _ h=>by omega,cj _ _⟩
   case round =>
    obtain ⟨k,hk,rfl,L,E⟩:=hrel;have I:=(bb F E);have k9:wr.cell? ⟨w.heap.size+1,0+9,none⟩=some (.slice ab c.length cb):=cd wr _ 9 _ _ _ I;have u:=y.trans (E.mono y.size);clear y F
    by_cases A:k < c.length
    ·obtain ⟨g,o,rfl,N,a⟩:=a (by intro e;subst e;simp at A)
     obtain ⟨x,D⟩:∃ x,c[k]? = some x:=⟨c[k],by simp [A]⟩;have c0:=(u.cell (p:=⟨g,o+k,none⟩) N).trans (a k x D);have HR:=ZiI x wr (hz x (List.mem_of_getElem? D));unfold VrAns at HR;have M:=fun h=>Zdm (f:=fun s=>vrB (sb s)) D h
     have G:=fun h=>Zdp (f:=fun s=>vrB (sb s)) L.out D h
     clear a D b I;generalize vrB (sb x)=bv at HR M G;go_wp2_with fail;refine HR.mono ?_;rintro e w3 ⟨⟨v3,rfl,X⟩,B⟩;obtain ⟨U,J,rfl⟩:=Zag X;have W:=E.trans ((B.trans (((cj w3.heap.size w3).alloc (ce _) (Obj.cells #[.slice U (vrL (sb x)).length J] 40)).mono B.size)).mono E.size);have Y:=u.trans ((B.trans (((cj w3.heap.size w3).alloc (ce _) (Obj.cells #[.slice U (vrL (sb x)).length J] 40)).mono B.size)).mono u.size);clear HR X B c0 k9 E u;cases bv with
     | true =>
      have ai:Hid (∀ j x,c[j]? = some x -> j < k+1 -> vrB (sb x)=true):=G rfl;clear L G M Y;go_wp2
      go_roundw
      case rel=>exact ⟨k+1,by omega,by go_num,ai,W⟩
      case measure=>simp [intOf];omega
     | false =>
      have ae:Hid ((c.all fun s=>vrB (sb s))=false):=M rfl;clear L G M W;go_wp2;go_ret;exact ⟨retB (by rw [H.out,HV.out,ae.out];rfl),Y⟩
    ·have e:k=c.length:=by omega
     subst e;have am:Hid (boxB c=true):=HV.out.trans (Zfc L.out);clear L HV a E A hk;go_wp2;clear k9;obtain ⟨wz,ag⟩:∃ z,z=wr:=⟨_,rfl⟩;subst ag
     go_loopw [9] (fun i wq=>∃ k:Nat,k <= l.length/\i=.int .i64 k/\Hid (∀ j x,l[j]? = some x -> j < k -> decide (x.size <= 400)=true)/\Below wz.heap.size wz wq) (fun i _=>l.length - (intOf i).toNat)
     case atStart=>exact ⟨0,by omega,rfl,fun j x _ h=>by omega,cj _ _⟩
     case round =>
      obtain ⟨k,hk,rfl,L,E⟩:=hrel;have al:=(bb I E);have Z:wr.cell? ⟨w.heap.size+1,0+10,none⟩=some (.slice ac l.length cc):=cd wr _ 10 _ _ _ al;have Q:=u.trans (E.mono u.size);clear u I
      by_cases A:k < l.length
      ·obtain ⟨g,o,rfl,N,b⟩:=b (by intro e;subst e;simp at A)
       obtain ⟨x,D⟩:∃ x,l[k]? = some x:=⟨l[k],by simp [A]⟩;have c0:=(Q.cell (p:=⟨g,o+k,none⟩) N).trans (b k x D);have ad:=ah x (List.mem_of_getElem? D);unfold maxLen at ad;have HX:Hid (l[k]? = some x):=D;clear b D
       by_cases h4:x.size <= 400
       ·have aj:¬ 400 < (x.size:Int):=by omega
        go_wp2
        go_roundw
        case rel=>exact ⟨k+1,by omega,by go_num,Zdp (f:=fun s=>decide (s.size <= 400)) L.out HX.out (by simp [h4]),E⟩
        case measure=>simp [intOf];omega
       ·have aj:400 < (x.size:Int):=by omega
        go_wp2;go_ret;exact ⟨retB (by rw [H.out,HW.out,Zdm (f:=fun s=>decide (s.size <= 400)) HX.out (by simp [h4])];simp),Q⟩
      ·go_wp2
       go_ret;have e:k=l.length:=by omega
       subst e;exact ⟨retB (by rw [H.out,am.out,HW.out,Zfc L.out];rfl),Q⟩
def argB (m:Mc):Bool:=(m.t == 1) || (m.t == 2)
def tdR (m:Mc):List Int:=if argB m then [m.s,m.e,m.d,m.r] else [m.s,m.e,m.d]
def tdOk (xs:List Nd)(m:Mc):Bool:=Zau xs && allI xs (tdR m)
def tdF (xs:List Nd)(m:Mc)(r:Int):Int:=(ZbC 0 xs (Zaw xs (tdR m))).2.getD r.toNat 0
def tdL (xs:List Nd)(m:Mc):List Nd:=if tdOk xs m then mvN 0 xs (tdR m) else xs
def tdM (xs:List Nd)(m:Mc):Mc:=if tdOk xs m then ⟨m.p,tdF xs m m.s,tdF xs m m.e,tdF xs m m.d,m.t,m.q,if argB m then tdF xs m m.r else m.r⟩ else m
theorem Zgr (m:Mc):(tdR m).length=if argB m then 4 else 3:=by unfold tdR;split <;> rfl
theorem ZgL (u:Value)(m:Mc)(w:World) :
  Calls prog 227 #[.agg #[u,.int .i64 m.p,.int .i64 m.s,.int .i64 m.e,.int .i64 m.d,.int .i64 m.t,.int .i64 m.q,.int .i64 m.r]] w fun e c=>e=.returned (.bool (argB m))/\Below w.heap.size w c:=by
 have f:Below w.heap.size w (w.alloc (Obj.cells #[u,.int .i64 m.p,.int .i64 m.s,.int .i64 m.e,.int .i64 m.d,.int .i64 m.t,.int .i64 m.q,.int .i64 m.r] 99)):=(cj _ _).alloc (ce _) _;unfold argB
 by_cases b:m.t=1
 ·rw [b]
  go_enter func227,ntmps227
  go_wp2;go_ret;exact ⟨rfl,(cj _ _).alloc (ce _) _⟩
 ·have a:(m.t == 1)=false:=by simp [b]
  rw [a,Bool.false_or]
  go_enter func227,ntmps227
  go_wp2;go_ret;exact ⟨rfl,f⟩
theorem Zhk (w:World)(l:List Int)(t:TypeId)(n:Nat)(h:n <= l.length)(b:l.length <= 100):IRow (w.alloc (Obj.cells (iv l).toArray t)) (.slice (some ⟨w.heap.size,0,none⟩) n n) (l.take n):=by
 have a:(l.take n).length=n:=by simp;omega
 refine ⟨some ⟨w.heap.size,0,none⟩,n,by rw [a],⟨by omega,fun h=>by cases h⟩,by omega,fun _=>⟨w.heap.size,0,rfl,by simp,fun i hi=>?_⟩⟩;rw [cd _ _ _ _ _ _ (co w _),Nat.zero_add];rw [a] at hi;rw [Zkm _ _ _ _ hi,List.getElem?_toArray,Zc0 _ _ (by omega)]
theorem Zh9 (f:Option Addr)(n a:Nat)(m:Mc)(w:World) :
  Calls prog 217 #[.agg #[.slice f n a,.int .i64 m.p,.int .i64 m.s,.int .i64 m.e,.int .i64 m.d,.int .i64 m.t,.int .i64 m.q,.int .i64 m.r]] w fun e u=>∃ x,e=.returned x/\IRow u x (tdR m)/\Below w.heap.size w u:=by
 have c:=ZlL w (Obj.cells #[.slice f n a,.int .i64 m.p,.int .i64 m.s,.int .i64 m.e,.int .i64 m.d,.int .i64 m.t,.int .i64 m.q,.int .i64 m.r] 99) (Obj.cells #[.int .i64 m.s,.int .i64 m.e,.int .i64 m.d,.int .i64 m.r] 3);have k:=Zhk (w.alloc (Obj.cells #[.slice f n a,.int .i64 m.p,.int .i64 m.s,.int .i64 m.e,.int .i64 m.d,.int .i64 m.t,.int .i64 m.q,.int .i64 m.r] 99)) [m.s,m.e,m.d,m.r] 3 4 (by simp) (by simp);have j:=Zhk (w.alloc (Obj.cells #[.slice f n a,.int .i64 m.p,.int .i64 m.s,.int .i64 m.e,.int .i64 m.d,.int .i64 m.t,.int .i64 m.q,.int .i64 m.r] 99)) [m.s,m.e,m.d,m.r] 3 3 (by simp) (by simp);have g:(w.alloc (Obj.cells #[.slice f n a,.int .i64 m.p,.int .i64 m.s,.int .i64 m.e,.int .i64 m.d,.int .i64 m.t,.int .i64 m.q,.int .i64 m.r] 99)).heap.size=w.heap.size+1:=by simp
 rw [g] at k j;have i:Hid (tdR m=if argB m then [m.s,m.e,m.d,m.r] else [m.s,m.e,m.d]):=rfl;clear g
 go_enter func217,ntmps217
 go_wp2_with fail;refine (ZgL _ m _).mono ?_;rintro e y ⟨rfl,b⟩;have h:=c.trans (b.mono c.size);have l:=k.below b;have o:=j.below b;clear k j c b;cases v:argB m with
 | true =>
  rw [v] at i;go_wp2;go_ret;exact ⟨_,rfl,by rw [i.out];exact l,h⟩
 | false =>
  rw [v] at i;go_wp2;go_ret;exact ⟨_,rfl,by rw [i.out];exact o,h⟩
def mcs (v:Value)(m:Mc):Array Value:=#[v,.int .i64 m.p,.int .i64 m.s,.int .i64 m.e,.int .i64 m.d,.int .i64 m.t,.int .i64 m.q,.int .i64 m.r]
end Go.Proofs.YtkpfangkfknhoaaGreatDoor
