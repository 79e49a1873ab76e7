/-
  Texts that stood by themselves, laid into one.
-/
import Derived.Test.YtkpfangkfknhoaaGreatDoorMcTM
import Derived.Test.YtkpfangkfknhoaaGreatDoorRcWhyM
import Derived.Test.YtkpfangkfknhoaaGreatDoorMach2M
import Derived.Test.YtkpfangkfknhoaaGreatDoorMark2M
import Derived.Test.YtkpfangkfknhoaaGreatDoorShapeM
import Derived.Test.YtkpfangkfknhoaaGreatDoorNumberM
import Derived.Test.YtkpfangkfknhoaaGreatDoorSPTextM
import Derived.Test.YtkpfangkfknhoaaGreatDoorSGTextM
import Derived.LaidEql
import Derived.Stop.Asserts
import Derived.RowKitTokens
import Derived.Test.YtkpfangkfknhoaaGreatDoorIWire2M
/-
  When what is read of bytes is a value: plain mathematics. Both ways of asking whether nothing else is there come to the same. No condition.
-/
set_option maxRecDepth 100000
set_option maxHeartbeats 4000000
namespace Go.Proofs.YtkpfangkfknhoaaGreatDoor
open Go.Proofs.Tryz
open Go.RowKit
theorem ZkQ (a:List Nd)(b:List Bool)(k:Nat)(h:(its a b k).length=a.length):∀ i,i < a.length -> b.getD (k+i) false=true:=by
 induction a generalizing k with
 | nil=>intro i hi;simp at hi
 | cons x a ih =>
  have d:=Zi7 a b (k+1);simp only [its] at h;split at h
  ·rename_i c
   simp only [List.length_cons,Nat.add_right_cancel_iff] at h;intro i hi;cases i with
   | zero=>exact c
   | succ i=>rw [show k+(i+1)=k+1+i by omega];exact ih (k+1) h i (by simpa using hi)
  ·simp at h;omega
def allR (xs:List Nd)(rs:List Int):Bool:=!(Zaw xs rs).contains false
theorem Zhn (a:List Nd)(rs:List Int):allR a rs=true <-> ∀ i,i < a.length -> (Zaw a rs).getD i false=true:=by
 unfold allR;rw [Bool.not_eq_true',<- Bool.not_eq_true,List.contains_iff_mem];constructor
 ·intro h i hi
  rw [List.getD_eq_getElem?_getD,List.getElem?_eq_getElem (by rw [Zbh];exact hi)];cases c:(Zaw a rs)[i]'(by rw [Zbh];exact hi) with
  | true=>rfl
  | false=>exact absurd (by rw [<- c];exact List.getElem_mem _) h
 ·intro h b
  obtain ⟨i,hi,d⟩:=List.getElem_of_mem b;have:=h i (by rw [<- Zbh a rs];exact hi);rw [List.getD_eq_getElem?_getD,List.getElem?_eq_getElem hi,d] at this;cases this
theorem Zds (a:List Nd)(rs:List Int)(b:Zau a=true)(c:allI a rs=true):ZbG (mvN 0 a rs)=ZbG a <-> allR a rs=true:=by
 rw [Zhn];have g:=ZaK b;constructor
 ·intro h
  have f:=Zg6 0 a rs;have e:((mvN 0 a rs).length:Int)=(a.length:Int):=ZfU (by omega) (by omega) (by omega) (by omega) h
  have d:(its a (Zaw a rs) 0).length=a.length:=by
   have:(mvN 0 a rs).length=(its a (Zaw a rs) 0).length:=(ZdH _ _ _).1;omega
  intro i hi;have:=ZkQ a (Zaw a rs) 0 d i hi
  rwa [Nat.zero_add] at this
 ·intro h
  rw [(Zf2 a rs b c h).1]
def vrR (zs:List Int):Option (List Nd) :=
 (rdP zs 0).bind fun q=>if q.2=zs.length/\q.1 ≠ []/\allR q.1 [(q.1.length:Int) - 1]=true then some q.1 else none
theorem ZgH {a:List Nd}(h:a ≠ []):allI a [(a.length:Int) - 1]=true:=by
 have:=List.length_pos_iff.2 h;simp [allI,hasI];omega
theorem Zlu (zs:List Int)(g:∀ z ∈ zs,0 <= z/\z <= 255)(c:List Nd):vrR zs=some c <-> (sOk zs 0 true=true/\(sP zs 0 true).1=c)/\c ≠ []/\ZbG (mvN 0 c [(c.length:Int) - 1])=zs:=by
 rw [ZlN];unfold vrR;rw [Option.bind_eq_some_iff];constructor
 ·rintro ⟨⟨ys,b⟩,d,a⟩
  split at a
  ·rename_i h
   cases a;obtain ⟨c1,c2,c3⟩:=h;simp only at c1 c2 c3;subst c1;obtain ⟨e,f⟩:=ZhG g d;exact ⟨d,c2,((Zds ys _ e (ZgH c2)).2 c3).trans f⟩
  ·cases a
 ·rintro ⟨d,a,i⟩
  obtain ⟨e,f⟩:=ZhG g d;refine ⟨_,d,?_⟩;rw [if_pos ⟨rfl,a,(Zds c _ e (ZgH a)).1 (i.trans f.symm)⟩]
def vb (zs:List Bool):List Value:=zs.map .bool
theorem ZcG (zs:List Bool)(i:Nat)(h:i < zs.length):(vb zs)[i]? = some (.bool (zs.getD i false)):=by simp [vb,List.getD,h]
theorem ZeA (zs:List Bool)(i:Nat)(z:Bool):(vb zs).set i (.bool z)=vb (zs.set i z):=by simp [vb,List.map_set]
def BRow (w:World)(v:Value)(zs:List Bool):Prop :=
 ∃ ao cap,v=.slice ao zs.length cap/\(zs.length <= cap/\(ao=none -> cap=0))/\zs.length <= 9223372036854775807/\(zs ≠ [] -> ∃ g o,ao=some ⟨g,o,none⟩/\g < w.heap.size/\∀ i,i < zs.length -> w.cell? ⟨g,o+i,none⟩=some (.bool (zs.getD i false)))
theorem BRow.below {w d:World}{v:Value}{zs:List Bool}(h:BRow w v zs)(e:Below w.heap.size w d):BRow d v zs:=by
 obtain ⟨l,c,rfl,k,j,a⟩:=h;refine ⟨l,c,rfl,k,j,fun b=>?_⟩;obtain ⟨g,o,rfl,f,a⟩:=a b;exact ⟨g,o,rfl,cy f e.size,fun i hi=>(e.cell (p:=⟨g,o+i,none⟩) f).trans (a i hi)⟩
theorem BRow.of_own {w:World}{base:Nat}{v:Value}{zs:List Bool}(h:w.ownsRow base 4 1 v zs.length (vb zs))(d:zs.length <= 9223372036854775807):BRow w v zs:=by
 rcases h.2 with ⟨rfl,f⟩ | ⟨g,c,cur,rfl,l,j,b,k,e,a⟩
 ·have:zs=[]:=List.eq_nil_of_length_eq_zero f
  subst this;exact ⟨none,0,rfl,by simp,by simp,fun h=>absurd rfl h⟩
 ·refine ⟨_,c,rfl,⟨b,fun h=>by cases h⟩,d,fun _=>⟨g,0,rfl,(bl j),fun i hi=>?_⟩⟩
  have:=h.cellAt i (by omega);rw [Nat.zero_add,this,ZcG zs i hi]
def mk3 (k:Int):Bool:=k % 3 == 0
def Znf (k:Int)(zs:List Bool)(i:Nat):List Bool:=(List.range i).map (fun (j:Nat)=>mk3 (k+(j:Int))) ++ zs.drop i
theorem ZnP:(prog.info? 4).map (fun i=>(i.zero,i.size,i.bytes))=some (some (.bool false),1,1):=by kernel_rfl
theorem Zj8 (n:Nat):vb (List.replicate n false)=(madeCells #[Value.bool false] n).toList:=by rw [toList_madeCells_one];simp [vb]
theorem Zgs {a:List Nd}{rs:List Int}(h:allI a rs=true)(k:Nat)(b:k < rs.length):0 <= rs.getD k 0/\rs.getD k 0 < a.length:=by
 unfold allI at h;rw [List.all_eq_true] at h;have:=h (rs.getD k 0) (by rw [List.getD_eq_getElem?_getD,List.getElem?_eq_getElem b];exact List.getElem_mem _)
 simpa [hasI] using this
theorem ZiC (U:Option Addr)(u:Nat)(vl:Value)(d:List Nd)(rs:List Int)(w:World)(R:NRow w (.slice U d.length u) d)(L:IRow w vl rs)(hp:Zau d=true)(hr:allI d rs=true) :
  Calls prog 222 #[.agg #[.slice U d.length u],vl] w fun e w'=>∃ v',e=.returned v'/\w'.ownsRow w.heap.size 4 1 v' d.length (vb (Zaw d rs))/\Below w.heap.size w w':=by
 have aq:=ZaK hp;have T:Below w.heap.size w (w.alloc (Obj.cells #[.slice U d.length u] 40)):=(cj _ _).alloc (ce _) _;have W:=co w (Obj.cells #[.slice U d.length u] 40);have R0:=R.below T;have L0:=L.below T;clear R L;have af:(w.alloc (Obj.cells #[.slice U d.length u] 40)).heap.size=w.heap.size+1:=by simp
 obtain ⟨i0,hi,ai,ap,ah⟩:=info_parts ZnP;have q:i0.bytes * d.length <= 281474976710656:=by rw [ah];omega
 have M:d.length <= maxLen:=by unfold maxLen;omega
 go_enter func222,ntmps222
 go_wp2_with (at_make;refine wpList_make_full _ rfl _ _ 284 rfl (w.heap.size+1) 4 i0 (.bool false) 1 underlying284 hi ai ap _ _ _ _ d.length rfl rfl rfl rfl q M (by simp) ?_)
 intro w1 c D;generalize w.alloc (Obj.cells #[.slice U d.length u] 40)=Y at *;have Z:Below (w.heap.size+1) Y w1:=(cj _ _).grown D (by omega) (by intro k hk;cases hk);clear D q M;obtain ⟨al,cl,rfl,ax,_,C⟩:=L0;go_wp2_with fail
 go_loopw [18] (fun i wr=>∃ (k:Nat) (f:List Bool),k <= rs.length/\i=.int .i64 k/\f.length=d.length/\Hid ((rs.drop k).foldl setB f=Zdf d.length rs)/\wr.ownsRow (w.heap.size+1) 4 1 (.slice (some ⟨w.heap.size+1,0,none⟩) d.length d.length) d.length (vb f)/\Below (w.heap.size+1) Y wr) (fun i _=>rs.length - (intOf i).toNat)
 case atStart=>exact ⟨0,List.replicate d.length false,by omega,rfl,by simp,rfl,by rw [Zj8];exact c,Z⟩
 case round =>
  clear c Z;obtain ⟨k,f,hk,rfl,n,HF,c,A⟩:=hrel
  by_cases E:k < rs.length
  ·obtain ⟨g,o,rfl,hg,C⟩:=C (by intro e;subst e;simp at E)
   have ez:=(A.cell (p:=⟨g,o+k,none⟩) (by simp;omega)).trans (C k E);obtain ⟨h1,h2⟩:=Zgs hr k E;have X:Hid ((rs.drop (k+1)).foldl setB (setB f (rs.getD k 0))=Zdf d.length rs):=(Zgl rs f k E).symm.trans HF.out;generalize rs.getD k 0=z at ez h1 h2 X;obtain ⟨nz,rfl⟩:=cG h1;have ec:=c.cellAt nz (by omega);rw [ZcG _ _ (by omega)] at ec;have ef:=c.frozenAt nz;have hs:=(c.stored nz (.bool true)).1;rw [ZeA] at hs;clear C hr HF;go_wp2
   go_roundw
   case rel=>exact ⟨k+1,setB f nz,by omega,by go_num,by rw [Zbk,n],X,hs,A.setCell (p:=⟨w.heap.size+1,nz,none⟩) (ce _) _⟩
   case measure=>simp [intOf];omega
  ·have am:k=rs.length:=by omega
   subst am
   have N:Hid (down d d.length f=Zaw d rs):=by
    have:=HF.out;rw [List.drop_length,List.foldl_nil] at this;rw [this];rfl
   clear HF hk E C hr;have ep:=(A.cell (p:=⟨w.heap.size,0,none⟩) (by simp)).trans ((cd Y _ 0 _ _ _ W).trans rfl);have aa:w.heap.size+1 < wr.heap.size:=(c.lt _ rfl).2;go_wp2_with fail
   go_loopw [8] (fun i wq=>∃ (k:Nat) (cs:List Bool),k <= d.length/\i=.int .i64 ((k:Int) - 1)/\cs.length=d.length/\Hid (down d k cs=Zaw d rs)/\wq.ownsRow (w.heap.size+1) 4 1 (.slice (some ⟨w.heap.size+1,0,none⟩) d.length d.length) d.length (vb cs)/\Below (w.heap.size+1) Y wq) (fun i _=>(intOf i+1).toNat)
   case atStart=>exact ⟨d.length,f,ce _,rfl,n,N,c,A⟩
   case round =>
    clear c A N n ep aa;clear f;obtain ⟨k,f,hk,rfl,n,N,c,A⟩:=hrel;have ep:=(A.cell (p:=⟨w.heap.size,0,none⟩) (by simp)).trans ((cd Y _ 0 _ _ _ W).trans rfl);have aa:w.heap.size+1 < wr.heap.size:=(c.lt _ rfl).2;rcases Nat.eq_zero_or_pos k with rfl | ar
    ·have HQ:Hid (f=Zaw d rs):=N
     clear N;go_wp2;go_ret;rw [HQ.out] at c;exact ⟨_,rfl,Zah c (by omega),T.trans (A.mono (by omega))⟩
    ·obtain ⟨j,rfl⟩:∃ j,k=j+1:=⟨k - 1,by omega⟩
     rw [show ((j+1:Nat):Int) - 1=(j:Int) by omega];obtain ⟨az,aw,e',_,_,hz,m⟩:=R0;simp only [Value.slice.injEq,true_and] at e';obtain ⟨rfl,rfl⟩:=e';obtain ⟨g,o,rfl,hg,m⟩:=m (by intro e;subst e;simp at hk);obtain ⟨x,hx⟩:∃ x,d[j]? = some x:=⟨d[j],by simp⟩;obtain ⟨c0,c1,c2,c3,c4⟩:=(m j x hx).below A (by rw [af] at hg;exact hg);have H:=Zbe hp hx;have ad:=ZiH H;have G:Hid (down d j (Zav x (f.getD j false) f)=Zaw d rs):=(ZeS d f j x hx).symm.trans N.out;have hA:hasA x.k=true -> 0 <= x.a/\x.a < (j:Int):=fun h=>Zcb H h
     have F:hasB x.k=true -> 0 <= x.b/\x.b < (j:Int):=fun h=>Zcf H h
     clear m hx N H;go_wp2_with fail;refine (ZdY x.k _).mono ?_;rintro e w4 ⟨rfl,P⟩;rw [Zgk,if_pos ad];have r:=(P.block wr.heap.size (by simp)).trans (co _ _);have d3:=cd w4 _ 3 _ _ _ r;have d4:=cd w4 _ 4 _ _ _ r;simp only [List.getElem?_toArray,List.getElem?_cons_succ,List.getElem?_cons_zero] at d3 d4;have B:Below wr.heap.size wr w4:=((cj wr.heap.size wr).alloc (ce _) _).trans (P.mono (by simp));have l:=Zad c B;have Q:=A.trans (B.mono (by omega));have ay:wr.heap.size < w4.heap.size:=(bl r);have av:w.heap.size+1 < w4.heap.size:=by omega
     have au:w.heap.size+1 ≠ wr.heap.size:=by omega
     have e0:=l.cellAt j (by omega);rw [ZcG _ _ (by omega)] at e0;clear c0 c1 c2 c3 c4 r P B c A ep;have I:∀ z,(Zav x z f).length=d.length:=fun z=>(Zbz x z f).trans n
     cases hb:f.getD j false with
     | false =>
      rw [hb] at e0 G;have ac:=I false;have S:Hid (Zav x false f=f):=by unfold Hid Zav;simp
      clear hA F I hb;go_wp2;refine ⟨⟨j,f,by omega,by go_num,n,by rw [S.out] at G;exact G,l.alloc _,Q.alloc (by omega) _⟩,by simp [intOf]⟩
     | true =>
      rw [hb] at e0 G;have ac:=I true;clear I hb;cases t:hasA x.k with
      | false =>
       have s:hasB x.k=false:=by
        unfold hasA at t;unfold hasB;simp only [decide_eq_false_iff_not] at t ⊢;omega
       have S:Hid (Zav x true f=f):=by unfold Hid Zav;rw [t,s];simp
       rw [s];clear hA F;go_wp2;refine ⟨⟨j,f,by omega,by go_num,n,by rw [S.out] at G;exact G,l.alloc _,Q.alloc (by omega) _⟩,by simp [intOf]⟩
      | true =>
       obtain ⟨ae,an⟩:=hA t;obtain ⟨J,O⟩:=cG ae;rw [O] at d3 an;have e1:=l.cellAt J (by omega);rw [ZcG _ _ (by omega)] at e1;have f1:=l.frozenAt J;have y:=(l.stored J (.bool true)).1;rw [ZeA] at y;have aA:J ≠ j:=by omega
       have ab:=Q.setCell (p:=⟨w.heap.size+1,J,none⟩) (ce _) (.bool true);cases s:hasB x.k with
       | false =>
        have S:Hid (Zav x true f=f.set J true):=by unfold Hid Zav setB;rw [t,s,O];simp
        clear hA F;go_wp2;refine ⟨⟨j,f.set J true,by omega,by go_num,by simpa using n,by rw [S.out] at G;exact G,y.alloc _,ab.alloc (by simp;omega) _⟩,by simp [intOf]⟩
       | true =>
        obtain ⟨ak,aj⟩:=F s;obtain ⟨v,K⟩:=cG ak;rw [K] at d4 aj;have S:Hid (Zav x true f=(f.set J true).set v true):=by unfold Hid Zav setB;rw [t,s,O,K];simp
        have e2:=y.cellAt v (by omega);rw [ZcG _ _ (by simp;omega)] at e2;have f2:=y.frozenAt v;have V:=(y.stored v (.bool true)).1;rw [ZeA] at V;have ag:=ab.setCell (p:=⟨w.heap.size+1,v,none⟩) (ce _) (.bool true);clear hA F;go_wp2;refine ⟨⟨j,(f.set J true).set v true,by omega,by go_num,by simpa using n,by rw [S.out] at G;exact G,V.alloc _,ag.alloc (by simp;omega) _⟩,by simp [intOf]⟩
def Znl (xs:List Nd)(rs:List Int):List Bool:=if Zau xs && allI xs rs then Zaw xs rs else []
theorem Zil (v:Value)(c:List Bool)(w:World)(R:BRow w v c)(A:c.length <= 4194304) :
  Calls prog 242 #[v,.bool false] w fun e s=>∃ r:Int,e=.returned (.int .i64 r)/\(0 <= r <-> false ∈ c)/\s=w:=by
 obtain ⟨B,u,rfl,_,_,a⟩:=R
 go_enter func242,ntmps242
 go_wp2_with fail
 go_loopw [8] (fun i wr=>∃ k:Nat,k <= c.length/\i=.int .i64 k/\Hid (∀ j,j < k -> c[j]? = some true)/\wr=w) (fun i _=>c.length - (intOf i).toNat)
 case atStart=>exact ⟨0,by omega,rfl,fun j f=>by omega,rfl⟩
 case round =>
  obtain ⟨k,z,rfl,q,rfl⟩:=hrel
  by_cases d:k < c.length
  ·obtain ⟨g,o,rfl,y,a⟩:=a (by intro e;subst e;simp at d)
   have t:=a k d;clear a;obtain ⟨b,m⟩:∃ b,c[k]? = some b:=⟨c[k],by simp [d]⟩;rw [show c.getD k false=b by simp [List.getD,m]] at t;cases b with
   | false =>
    have l:false ∈ c:=List.mem_of_getElem? m;go_wp2;go_ret;exact ⟨k,rfl,⟨fun _=>l,fun _=>by omega⟩,rfl⟩
   | true =>
    have n:Hid (∀ j,j < k+1 -> c[j]? = some true):=fun j f=>by
     rcases Nat.lt_or_ge j k with h | h
     ·exact q.out j h
     ·obtain rfl:j=k:=by omega
      exact m
    go_wp2
    go_roundw
    case rel=>exact ⟨k+1,by omega,by go_num,n,by trivial⟩
    case measure=>simp [intOf];omega
  ·have p:k=c.length:=by omega
   subst p
   have l:false ∉ c:=fun h=>by
    obtain ⟨j,f,x⟩:=List.getElem_of_mem h;have:=q.out j f;rw [List.getElem?_eq_getElem f,x] at this;cases this
   go_wp2;go_ret;exact ⟨-1,rfl,⟨fun h=>by omega,fun h=>absurd h l⟩,rfl⟩
theorem Ze7 (v:Value)(a:List Bool)(w:World)(R:BRow w v a)(f:a.length <= 4194304) :
  Calls prog 221 #[v,.bool false] w fun e c=>e=.returned (.bool (a.contains false))/\c=w:=by
 go_enter func221,ntmps221
 go_wp2_with fail;refine (Zil v a w R f).mono ?_;rintro e g ⟨r,rfl,b,rfl⟩
 have d:Hid (a.contains false=decide (0 <= r)):=by
  unfold Hid;rw [Bool.eq_iff_iff,List.contains_iff_mem,decide_eq_true_eq];exact b.symm
 clear b;go_wp2;go_ret;exact ⟨by rw [d.out];rfl,rfl⟩
theorem Zeg (v h:Value)(a:List Nd)(rs:List Int)(w:World)(R:NRow w v a)(L:IRow w h rs)(l:Zau a=true)(p:allI a rs=true) :
  Calls prog 214 #[.agg #[v],h] w fun e t=>e=.returned (.bool (allR a rs))/\Below w.heap.size w t:=by
 obtain ⟨j,f,rfl,_⟩:=id R;have m:=ZaK l;have b:Below w.heap.size w (w.alloc (Obj.cells #[.slice j a.length f] 40)):=(cj _ _).alloc (ce _) _
 go_enter func214,ntmps214
 go_wp2_with fail;refine (ZiC j f h a rs _ (R.below b) (L.below b) l p).mono ?_;rintro e x ⟨q,rfl,k,g⟩;have i:=b.trans (g.mono b.size);have d:=Zbh a rs;have s:Hid ((Zaw a rs).length=a.length):=d;rw [<- d] at k;have u:=BRow.of_own k (by omega);clear d;have n:=Ze7 q (Zaw a rs) _ u (by rw [s.out];omega);obtain ⟨o,c⟩:∃ o,Hid ((Zaw a rs).contains false=o):=⟨_,rfl⟩;rw [c.out] at n;have r:Hid (allR a rs = !o):=by unfold Hid allR;rw [c.out]
 clear c;go_wp2_with fail;refine n.mono ?_;rintro e y ⟨rfl,rfl⟩;go_wp2;go_ret;exact ⟨by rw [r.out];rfl,i⟩
end Go.Proofs.YtkpfangkfknhoaaGreatDoor
namespace Go.Proofs.YtkpfangkfknhoaaGreatDoor
open Go.Proofs.Tryz
open Go.RowKit Go.Extern.Stop Go.Stop Go.Extern
theorem ZmK (t:Value)(w:World) :
  Calls prog 215 #[.nilIface,t] w fun e a=>e=.returned (.bool false)/\a=w:=by
 go_enter func215,ntmps215
 go_wp2;go_ret;exact ⟨rfl,rfl⟩
theorem Tryz.asValueOfP (t:Addr)(w:World):(ReflectliteValue.unpack (.iface 288 (.pointer (some t)))).run prog w
  = .ok (.agg #[.pointer (some ⟨1,288,none⟩),.pointer (some ⟨w.heap.size,0,none⟩),.int .u64 150]) (w.alloc (.cells #[.pointer (some t)] 288)):=by kernel_rfl
theorem Tryz.asTypeP (a:Addr)(w:World):(ReflectliteValue.methodAny (ReflectliteValue.valueError "reflectlite.Value.Type" 0) (fun t _ _ _=>ReflectliteType.toType t) #[.agg #[.pointer (some ⟨1,288,none⟩),.pointer (some a),.int .u64 150]]).run prog w
  = .ok (.iface 317 (.agg #[.pointer (some ⟨1,288,none⟩)])) w:=by kernel_rfl
theorem Tryz.asMethodKind (h:Value)(w:World):(Go.method 460 317 (.agg #[h]) "Kind").run prog w=.ok (264,h) w:=by kernel_rfl
theorem Tryz.asKindP (w:World):((ReflectliteType.abiMethod fun t=>(fun a:Nat=>Value.int IntKind.u8 (a:Int)) <$> Rtype.kind t) #[.pointer (some ⟨1,288,none⟩)]).run prog w=.ok (.int .u8 22) w:=by kernel_rfl
theorem Tryz.asKindT (w:World):((ReflectliteType.abiMethod fun t=>(fun a:Nat=>Value.int IntKind.u8 (a:Int)) <$> Rtype.kind t) #[.pointer (some ⟨1,266,none⟩)]).run prog w=.ok (.int .u8 25) w:=by kernel_rfl
theorem rlm (z:Sem Value)(f:TypeId -> Addr -> Nat -> Nat -> Sem Value)(v:Value) :
  ReflectliteValue.method z f #[v]=(do match <- ReflectliteValue.parts v with | none=>z | some (t,a,fl)=>f t a fl (fl % 32)):=rfl
theorem Tryz.asPartsP (a:Addr)(w:World):(ReflectliteValue.parts (.agg #[.pointer (some ⟨1,288,none⟩),.pointer (some a),.int .u64 150])).run prog w=.ok (some (288,a,150)) w:=by kernel_rfl
theorem Tryz.asIsNilP (a p:Addr)(W:World)(b:W.cell? a=some (.pointer (some p))) :
  (ReflectliteValue.method (ReflectliteValue.valueError "reflectlite.Value.IsNil" 0) ReflectliteValue.isNil #[.agg #[.pointer (some ⟨1,288,none⟩),.pointer (some a),.int .u64 150]]).run prog W=.ok (.bool false) W:=by
 rw [rlm];simp only [Sem.run_bind,Tryz.asPartsP,Result.andThen];simp [ReflectliteValue.isNil,loadVar,isAgg,underlying,underlying288,b,Result.andThen]
theorem Tryz.asMethodElem (h:Value)(w:World):(Go.method 460 317 (.agg #[h]) "Elem").run prog w=.ok (276,.agg #[h]) w:=by kernel_rfl
theorem Tryz.asMethodImplements (h:Value)(w:World):(Go.method 460 317 (.agg #[h]) "Implements").run prog w=.ok (277,.agg #[h]) w:=by kernel_rfl
theorem Tryz.asMethodAssignableTo (h:Value)(w:World):(Go.method 460 317 (.agg #[h]) "AssignableTo").run prog w=.ok (274,.agg #[h]) w:=by kernel_rfl
theorem Tryz.asElemP (w:World):(ReflectliteType.method ReflectliteType.elem #[.agg #[.pointer (some ⟨1,288,none⟩)]]).run prog w=.ok (.iface 317 (.agg #[.pointer (some ⟨1,266,none⟩)])) w:=by kernel_rfl
theorem Tryz.asImplementsT (w:World):(ReflectliteType.relation "Implements" ReflectliteType.implements_ #[.agg #[.pointer (some ⟨1,266,none⟩)],.iface 317 (.agg #[.pointer (some ⟨1,236,none⟩)])]).run prog w=.ok (.bool true) w:=by kernel_rfl
theorem Tryz.asTypeOfT (v:Value)(w:World):(ReflectliteType.typeOf #[.iface 266 v]).run prog w=.ok (.iface 317 (.agg #[.pointer (some ⟨1,266,none⟩)])) w:=by kernel_rfl
theorem Tryz.asAssignableT (w:World):(ReflectliteType.relation "AssignableTo" ReflectliteType.assignableTo #[.agg #[.pointer (some ⟨1,266,none⟩)],.iface 317 (.agg #[.pointer (some ⟨1,266,none⟩)])]).run prog w=.ok (.bool true) w:=by kernel_rfl
theorem Tryz.asValueOfT (p:Int)(w:World):(ReflectliteValue.unpack (.iface 266 (.agg #[.int .i64 p]))).run prog w
  = .ok (.agg #[.pointer (some ⟨1,266,none⟩),.pointer (some ⟨w.heap.size,0,none⟩),.int .u64 153]) (w.alloc (.cells #[.int .i64 p] 266)):=by kernel_rfl
theorem Tryz.asElemOfP (w:World):(Rtype.elem? 288).run prog w=.ok (some 266) w:=by kernel_rfl
theorem Tryz.asMkT (p:Addr)(w:World):(ReflectliteValue.mk 266 p ReflectliteValue.flagAddr).run prog w=.ok (.agg #[.pointer (some ⟨1,266,none⟩),.pointer (some p),.int .u64 409]) w:=by kernel_rfl
theorem Tryz.asElemV (a p:Addr)(W:World)(b:W.cell? a=some (.pointer (some p))) :
  (ReflectliteValue.method (ReflectliteValue.valueError "reflectlite.Value.Elem" 0) ReflectliteValue.elem #[.agg #[.pointer (some ⟨1,288,none⟩),.pointer (some a),.int .u64 150]]).run prog W
   = .ok (.agg #[.pointer (some ⟨1,266,none⟩),.pointer (some p),.int .u64 409]) W:=by
 rw [rlm];simp only [Sem.run_bind,Tryz.asPartsP,Result.andThen];simp [ReflectliteValue.elem,loadVar,isAgg,underlying,underlying288,b,Result.andThen,Tryz.asElemOfP,Tryz.asMkT]
theorem Tryz.asPartsA (a:Addr)(w:World):(ReflectliteValue.parts (.agg #[.pointer (some ⟨1,266,none⟩),.pointer (some a),.int .u64 409])).run prog w=.ok (some (266,a,409)) w:=by kernel_rfl
theorem Tryz.asPartsT (a:Addr)(w:World):(ReflectliteValue.parts (.agg #[.pointer (some ⟨1,266,none⟩),.pointer (some a),.int .u64 153])).run prog w=.ok (some (266,a,153)) w:=by kernel_rfl
theorem Tryz.asDirect (w:World):(Rtype.directlyAssignable 266 266).run prog w=.ok true w:=by kernel_rfl
def ErrT (w:World):Prop:=w.cell? ⟨0,0,none⟩=some (.iface 317 (.agg #[.pointer (some ⟨1,236,none⟩)]))
theorem ErrT.below {w a:World}{B:Nat}(h:ErrT w)(d:Below B w a)(b:w.heap.size <= B):ErrT a:=by
 have c:=World.block_lt_of_cell? _ _ h;unfold ErrT;rw [d.cell (p:=⟨0,0,none⟩) (cy c b)];exact h
theorem Tryz.asSet (a b:Nat)(p q:Int)(W:World)(e:W.heap[b]? = some (.cells #[.int .i64 p] 266 (0,0)))(d:W.heap[a]? = some (.cells #[.int .i64 q] 266 (0,0))) :
  (ReflectliteValue.set #[.agg #[.pointer (some ⟨1,266,none⟩),.pointer (some ⟨a,0,none⟩),.int .u64 409],.agg #[.pointer (some ⟨1,266,none⟩),.pointer (some ⟨b,0,none⟩),.int .u64 153]]).run prog W
   = .ok (.tuple #[]) (W.setCell ⟨a,0,none⟩ (.int .i64 p)):=by
 have c0:W.cell? ⟨b,0,none⟩=some (.int .i64 p):=cd _ _ 0 _ _ _ e;have c1:W.cell? ⟨a,0,none⟩=some (.int .i64 q):=cd _ _ 0 _ _ _ d;have g:W.frozen? ⟨a,0,none⟩=false:=cw _ _ 0 _ _ d
 show (ReflectliteValue.parts _ >>= _).run prog W=_
 simp only [Sem.run_bind,Array.getLit,List.getElem_toArray,List.getElem_cons_zero,List.getElem_cons_succ,Tryz.asPartsA,Tryz.asPartsT,Result.andThen];simp [ReflectliteValue.flagAddr,loadVar,isAgg,underlying,underlying266,Result.andThen,Tryz.asDirect,storeVar,Value.cells,storeCells,Addr.add]
 have f:(loadCells ⟨b,0,none⟩ 1).run prog W=.ok #[.int .i64 p] W:=run_loadCells_list (P:=prog) W ⟨b,0,none⟩ [.int .i64 p] (fun j v c=>by
  cases j with
  | zero=>cases c;exact c0
  | succ j=>simp at c)
 rw [f];simp [storeCells,Addr.add];rw [run_store prog W ⟨a,0,none⟩ _ _ (by rfl)];simp [c1,g]
theorem ZmW (p q:Int)(t:Nat)(w:World)(f:ErrT w)(c:w.heap[t]? = some (.cells #[.int .i64 q] 266 (0,0))) :
  Calls prog 215 #[.iface 266 (.agg #[.int .i64 p]),.iface 288 (.pointer (some ⟨t,0,none⟩))] w fun r x=>r=.returned (.bool true)/\w.grownBy x (some t):=by
 have M:=@run_callFunc_extern prog 223 _ (fun args=>ReflectliteValue.unpack (args.getD 0 (.tuple #[]))) func223 (by kernel_rfl) (by kernel_rfl) (by kernel_rfl) (by kernel_rfl);have B:=@run_callFunc_extern prog 224 _ (ReflectliteValue.methodAny (ReflectliteValue.valueError "reflectlite.Value.Type" 0) (fun t _ _ _=>ReflectliteType.toType t)) func224 (by kernel_rfl) (by kernel_rfl) (by kernel_rfl) (by kernel_rfl);have I:=@run_callFunc_extern prog 225 _ (ReflectliteValue.method (ReflectliteValue.valueError "reflectlite.Value.IsNil" 0) ReflectliteValue.isNil) func225 (by kernel_rfl) (by kernel_rfl) (by kernel_rfl) (by kernel_rfl);have z:=@run_callFunc_extern prog 264 _ (ReflectliteType.abiMethod fun t=>do pure (.int .u8 (<- Rtype.kind t))) func264 (by kernel_rfl) (by kernel_rfl) (by kernel_rfl) (by kernel_rfl)
 have h:=@run_callFunc_extern prog 276 _ (ReflectliteType.method ReflectliteType.elem) func276 (by kernel_rfl) (by kernel_rfl) (by kernel_rfl) (by kernel_rfl);have i:=@run_callFunc_extern prog 277 _ (ReflectliteType.relation "Implements" ReflectliteType.implements_) func277 (by kernel_rfl) (by kernel_rfl) (by kernel_rfl) (by kernel_rfl);have m:=@run_callFunc_extern prog 243 _ ReflectliteType.typeOf func243 (by kernel_rfl) (by kernel_rfl) (by kernel_rfl) (by kernel_rfl);have o:=@run_callFunc_extern prog 274 _ (ReflectliteType.relation "AssignableTo" ReflectliteType.assignableTo) func274 (by kernel_rfl) (by kernel_rfl) (by kernel_rfl) (by kernel_rfl);have k:=@run_callFunc_extern prog 244 _ (ReflectliteValue.method (ReflectliteValue.valueError "reflectlite.Value.Elem" 0) ReflectliteValue.elem) func244 (by kernel_rfl) (by kernel_rfl) (by kernel_rfl) (by kernel_rfl)
 have y:=@run_callFunc_extern prog 245 _ ReflectliteValue.set func245 (by kernel_rfl) (by kernel_rfl) (by kernel_rfl) (by kernel_rfl);have J:=Tryz.asTypeOfT;have G:=Tryz.asMethodAssignableTo;have n:=Tryz.asAssignableT;have l:=Tryz.asValueOfT;have C:=Tryz.asValueOfP;have E:=Tryz.asTypeP;have D:=Tryz.asMethodKind;have L:=Tryz.asMethodElem;have F:=Tryz.asMethodImplements;have A:=Tryz.asKindP;have j:=Tryz.asKindT;have v:=Tryz.asElemP;have u:=Tryz.asImplementsT;obtain ⟨d,e⟩:∃ d:Addr,d=⟨t,0,none⟩:=⟨_,rfl⟩;have n8:=Tryz.asIsNilP ⟨w.heap.size,0,none⟩ ⟨t,0,none⟩ ((w.alloc (.cells #[.pointer (some ⟨t,0,none⟩)] 288)).alloc (.cells #[.pointer (some ⟨1,288,none⟩),.pointer (some ⟨w.heap.size,0,none⟩),.int .u64 150] 304)) (by simp);have a:0 < w.heap.size:=World.block_lt_of_cell? _ _ f
 have g:((w.alloc (.cells #[.pointer (some ⟨t,0,none⟩)] 288)).alloc (.cells #[.pointer (some ⟨1,288,none⟩),.pointer (some ⟨w.heap.size,0,none⟩),.int .u64 150] 304)).cell? ⟨0,0,none⟩=some (.iface 317 (.agg #[.pointer (some ⟨1,236,none⟩)])):=by
  rw [World.cell?_alloc_lt _ _ ⟨0,0,none⟩ (by simp <;> omega),World.cell?_alloc_lt _ _ ⟨0,0,none⟩ a];exact f
 have b:t < w.heap.size:=(bl c);have H:=Tryz.asElemV ⟨w.heap.size,0,none⟩ ⟨t,0,none⟩ (((w.alloc (.cells #[.pointer (some ⟨t,0,none⟩)] 288)).alloc (.cells #[.pointer (some ⟨1,288,none⟩),.pointer (some ⟨w.heap.size,0,none⟩),.int .u64 150] 304)).alloc (.cells #[.pointer (some ⟨1,288,none⟩),.pointer (some ⟨w.heap.size,0,none⟩),.int .u64 150] 304)) (by rw [World.cell?_alloc_lt _ _ ⟨w.heap.size,0,none⟩ (by simp <;> omega)];simp)
 have K:=Tryz.asSet t (w.heap.size+1+1+1) p q ((((w.alloc (.cells #[.pointer (some ⟨t,0,none⟩)] 288)).alloc (.cells #[.pointer (some ⟨1,288,none⟩),.pointer (some ⟨w.heap.size,0,none⟩),.int .u64 150] 304)).alloc (.cells #[.pointer (some ⟨1,288,none⟩),.pointer (some ⟨w.heap.size,0,none⟩),.int .u64 150] 304)).alloc (.cells #[.int .i64 p] 266))
  (by have:=co (((w.alloc (.cells #[.pointer (some ⟨t,0,none⟩)] 288)).alloc (.cells #[.pointer (some ⟨1,288,none⟩),.pointer (some ⟨w.heap.size,0,none⟩),.int .u64 150] 304)).alloc (.cells #[.pointer (some ⟨1,288,none⟩),.pointer (some ⟨w.heap.size,0,none⟩),.int .u64 150] 304)) (.cells #[.int .i64 p] 266);simpa using this)
  (by rw [cz _ _ (by simp <;> omega),cz _ _ (by simp <;> omega),cz _ _ (by simp <;> omega),cz _ _ b];exact c)
 have s:w.grownBy (((((w.alloc (.cells #[.pointer (some ⟨t,0,none⟩)] 288)).alloc (.cells #[.pointer (some ⟨1,288,none⟩),.pointer (some ⟨w.heap.size,0,none⟩),.int .u64 150] 304)).alloc (.cells #[.pointer (some ⟨1,288,none⟩),.pointer (some ⟨w.heap.size,0,none⟩),.int .u64 150] 304)).alloc (.cells #[.int .i64 p] 266)).setCell ⟨t,0,none⟩ (.int .i64 p)) (some t) :=
  Zaj (Zaj (Zaj (Zaj (cF w _ _) (cF _ _ _)) (cF _ _ _)) (cF _ _ _)) (Zan _ t 0 _)
 clear e d a b c f
 go_enter func215,ntmps215
 go_wp2;refine wp_loop_rounds 1 ?_;rw [rounds_succ];go_wp2;go_ret;exact ⟨rfl,s⟩
theorem Zfs (w:World):Calls prog 207 #[.nilIface] w fun e a=>e=.returned (.bool false)/\Below w.heap.size w a:=by
 go_enter func207,ntmps207
 go_wp2_with fail;refine (ZmK _ _).mono ?_;rintro e b ⟨rfl,rfl⟩;go_wp2;go_ret;exact ⟨rfl,(cj _ _).alloc (ce _) _⟩
theorem Zgi (p:Int)(w:World)(f:ErrT w):Calls prog 207 #[.iface 266 (.agg #[.int .i64 p])] w fun e c=>e=.returned (.bool true)/\Below w.heap.size w c:=by
 go_enter func207,ntmps207
 go_wp2_with fail;have a:Below w.heap.size w (w.alloc (Obj.cells #[.int .i64 0] 266)):=(cj _ _).alloc (ce _) _;refine (ZmW p 0 w.heap.size _ (f.below a (ce _)) (co _ _)).mono ?_;rintro e g ⟨rfl,b⟩;go_wp2;go_ret;exact ⟨rfl,a.grown b a.size (fun k d=>by simp at d;omega)⟩
end Go.Proofs.YtkpfangkfknhoaaGreatDoor
namespace Go.Proofs.YtkpfangkfknhoaaGreatDoor
open Go.Proofs.Tryz
open Go.RowKit
theorem Zhf (a:Nat)(b:List Nd)(rs:List Int)(d:Zau b=true)(g:a+(mvN a b rs).length <= 3000):∀ x ∈ mvN a b rs,NdOk x:=by
 have I:=ZjY a b (Zaw b rs) (fun i x h=>Zbe d h) (Zci b rs (fun i x h=>Zbe d h));intro x e;obtain ⟨j,c⟩:=List.getElem?_of_mem e;have f:j < (mvN a b rs).length:=(List.getElem?_eq_some_iff.1 c).1;exact Zjf (I.ok j x c) (by omega)
theorem ZbP {a:List Nd}(h:Zau a=true):a.length <= 3000:=by simp only [Zau,Bool.and_eq_true,decide_eq_true_eq] at h;exact h.1
theorem ZbK {a:List Nd}(h:∀ x ∈ a,NdOk x):∀ x ∈ a,x.s.size <= maxLen:=fun x b=>by have:=(h x b).2.2.1;unfold maxLen;omega
theorem Zhs {w:World}{z:Int}{g:Nat}(h:w.heap[g]? = some (.cells #[.int .i64 z] 3 (0,0))):IRow w (.slice (some ⟨g,0,none⟩) 1 1) [z]:=by
 refine ⟨_,1,rfl,⟨by simp,fun h=>by cases h⟩,by simp,fun _=>⟨g,0,rfl,(bl h),fun i hi=>?_⟩⟩;have:i=0:=by simpa using hi
 subst this;rw [cd w _ 0 _ _ _ h];rfl
end Go.Proofs.YtkpfangkfknhoaaGreatDoor
