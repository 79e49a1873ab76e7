/-
  What a world that came in reads as. Nothing of the program; no condition.
-/
import Derived.Test.YtkpfangkfknhoaaGreatDoorS12tM
import Derived.Test.YtkpfangkfknhoaaGreatDoorDfArgM
set_option maxRecDepth 100000
set_option maxHeartbeats 3200000
namespace Go.Proofs.YtkpfangkfknhoaaGreatDoor
open Go.Proofs.Tryz
open Go.ChangeShapes Go.WideShapes Go.ChangeAt Go.RowKit Go.Deep
section
variable {H:Type} {enc:TypeId × Value -> H} {w:World} {base:Nat} {spare:Nat -> Bool} {held:Bool}
theorem Zet {α:Type}[Inhabited α]{T t:TypeId}{k:Nat}(hT:prog.underlying T=some (.slice t))(W:prog.cellsOf t=k)(N:0 < k){E:Nat -> World -> List Value -> α -> Prop}(V:∀ (c:Nat) (cs:List Value) (y:DataW H × List MemPlace),DataW.trod enc prog w base spare held c t cs=some y -> ∃ x,cs.length=k/\E 0 w cs x){c:Nat}{S:Value}{y0:DataW H × List MemPlace}(l:DataW.trod enc prog w base spare held c T [S]=some y0):∃ Y,XRow 0 k E w S Y:=by
 rcases open_slice hT l with ⟨d,_⟩ | ⟨a,e,M,m,n,D,Pl,d,_,Q,X,B,_,U⟩
 ·simp at d
  subst d;exact ⟨[],none,0,rfl,by simp,by simp,fun h=>absurd rfl h⟩
 ·simp at d
  subst d;have ab:e <= m:=by rw [B];split <;> omega
  rw [W] at U
  have o:∀ i,i < m -> ∃ q:List Value × α,(q.1.length=k/\E 0 w q.1 q.2)/\∀ j,j < k -> w.cell? (a.add (i * k+j))=q.1[j]?:=by
   intro i hi;obtain ⟨A,G,v⟩:=U i hi;obtain ⟨x,Q,he⟩:=V _ _ _ v;obtain ⟨_,P,g⟩:=World.cells?_some G;refine ⟨(A,x),⟨Q,he⟩,fun j s=>?_⟩;have:=g j (by omega);rw [add_add] at this;rw [this]
  obtain ⟨q,O⟩:=choose_lt o;refine ⟨(List.range e).map fun i=>(q i).2,some a,M,?_,?_,?_,?_⟩
  ·simp
  ·exact ⟨by simp;omega,fun h=>by cases h⟩
  ·unfold maxLen at X;simp;omega
  ·intro r
   have R:0 < e:=by
    rcases Nat.eq_zero_or_pos e with l | l
    ·subst l;simp at r
    ·exact l
   obtain ⟨b,J,p⟩:=a;obtain ⟨⟨aa,_⟩,C⟩:=O 0 (by omega);have I:=C 0 N;obtain ⟨u0,K⟩:∃ u,(q 0).1[0]? = some u:=⟨_,List.getElem?_eq_getElem (by omega)⟩;rw [K] at I;have f:p=none:=by simpa [Addr.add] using World.cell?_spot I
   subst f;have hb:=World.block_lt_of_cell? _ _ I;refine ⟨b,J,rfl,Nat.zero_le _,by simpa [Addr.add_lit] using hb,fun i x hi=>?_⟩
   have z:i < e:=by
    have:=(List.getElem?_eq_some_iff.1 hi).1
    simpa using this
   have L:x=(q i).2:=by
    rw [List.getElem?_map,List.getElem?_range z] at hi
    simpa using hi.symm
   subst L;obtain ⟨⟨G,v⟩,Z⟩:=O i (by omega);refine ⟨(q i).1,G,fun j u s=>?_,v⟩;have F:j < k:=by have:=(List.getElem?_eq_some_iff.1 s).1;omega
   have:=Z j F;rw [Addr.add_lit] at this;rw [Nat.add_assoc,this];exact s
theorem Zih (d:Nat)(cs:List Value)(y:DataW H × List MemPlace)(A:DataW.trod enc prog w base spare held d 84 cs=some y):∃ h:Hm,cs.length=12/\EH 0 w cs h:=by
 obtain ⟨c,n,_,_,e,b,a⟩:=DataW.trod_struct underlying84 A;rw [show prog.cellsOf 84=12 by kernel_rfl] at e
 match cs,e with
 | [v0,v1,v2,v3,v4,v5,v6,v7,v8,v9,v10,v11],_ =>
  have o:=a 0 _ rfl;have l:=a 1 _ rfl;have j:prog.cellsOf 3=1:=by kernel_rfl
  have s:prog.cellsOf 82=11:=by kernel_rfl
  match c,b with
  | [y0,y1],_ =>
   simp [j,s] at o l;obtain ⟨m0,i,_⟩:=DataW.trod_int underlying3 o;simp only [List.cons.injEq,and_true] at i;subst i;obtain ⟨c,n,_,_,e,b,a⟩:=DataW.trod_struct underlying82 l;have k:=a 0 _ rfl;have g:=a 1 _ rfl;have k2:=a 2 _ rfl;have p:=a 3 _ rfl;have t:prog.cellsOf 79=8:=by kernel_rfl
   have v:prog.cellsOf 80=1:=by kernel_rfl
   match c,b with
   | [z0,z1,z2,z3],_ =>
    simp [j,t,v] at k g k2 p;obtain ⟨u,f,_⟩:=DataW.trod_int underlying3 k;simp only [List.cons.injEq,and_true] at f;subst f;obtain ⟨c,m,rfl,rfl,rfl,rfl,rfl,rfl,rfl,R⟩:=Zic g;obtain ⟨x,z⟩:=Zco k2;obtain ⟨r,q⟩:=Zco p;exact ⟨⟨m0,u,c,m,x,r⟩,rfl,v2,v10,v11,rfl,R,z,q,Fr.zero _,Fr.zero _,Fr.zero _⟩
theorem ZiN (c:Nat)(cs:List Value)(y:DataW H × List MemPlace)(A:DataW.trod enc prog w base spare held c 88 cs=some y):∃ l:Lk,cs.length=5/\EL 0 w cs l:=by
 obtain ⟨t,n,_,_,g,b,a⟩:=DataW.trod_struct underlying88 A;rw [show prog.cellsOf 88=5 by kernel_rfl] at g
 match cs,g with
 | [v0,v1,v2,v3,v4],_ =>
  have k:=a 0 _ rfl;have h:=a 1 _ rfl;have j:=a 2 _ rfl;have f:=a 3 _ rfl;have m:=a 4 _ rfl;have q:prog.cellsOf 3=1:=by kernel_rfl
  have r:prog.cellsOf 80=1:=by kernel_rfl
  have s:prog.cellsOf 86=1:=by kernel_rfl
  match t,b with
  | [y0,y1,y2,y3,y4],_ =>
   simp [q,r,s] at k h j f m;obtain ⟨m0,e,_⟩:=DataW.trod_int underlying3 k;obtain ⟨u,d,_⟩:=DataW.trod_int underlying3 h;obtain ⟨o,i,_⟩:=DataW.trod_int underlying3 f;obtain ⟨x,v⟩:=Zco j;obtain ⟨p,z⟩:=Zlx m;simp only [List.cons.injEq,and_true] at e d i;subst e d i;exact ⟨⟨m0,u,x,o,p⟩,rfl,v2,v4,rfl,v,z,Fr.zero _,Fr.zero _⟩
theorem ZhW (c:Nat)(cs:List Value)(y:DataW H × List MemPlace)(x:DataW.trod enc prog w base spare held c 93 cs=some y):∃ g:Gm,cs.length=5/\EG 0 w cs g:=by
 obtain ⟨t,n,_,_,h,b,a⟩:=DataW.trod_struct underlying93 x;rw [show prog.cellsOf 93=5 by kernel_rfl] at h
 match cs,h with
 | [v0,v1,v2,v3,v4],_ =>
  have l:=a 0 _ rfl;have j:=a 1 _ rfl;have k:=a 2 _ rfl;have f:=a 3 _ rfl;have p:prog.cellsOf 3=1:=by kernel_rfl
  have r:prog.cellsOf 91=2:=by kernel_rfl
  match t,b with
  | [y0,y1,y2,y3],_ =>
   simp [p,r] at l j k f;obtain ⟨m0,e,_⟩:=DataW.trod_int underlying3 l;obtain ⟨u,d,_⟩:=DataW.trod_int underlying3 j;obtain ⟨q,i,_⟩:=DataW.trod_int underlying3 k;simp only [List.cons.injEq,and_true] at e d i;subst e d i;obtain ⟨m,o,v⟩:=Zhc f;simp only [Pc.cs,List.cons.injEq,and_true] at o;obtain ⟨rfl,rfl⟩:=o;exact ⟨⟨m0,u,q,m.n,m.s⟩,rfl,rfl,v⟩
theorem Zfx (c:Nat)(cs:List Value)(y:DataW H × List MemPlace)(s:DataW.trod enc prog w base spare held c 96 cs=some y):∃ p:Pd,cs.length=3/\EP 0 w cs p:=by
 obtain ⟨o,n,_,_,f,b,a⟩:=DataW.trod_struct underlying96 s;rw [show prog.cellsOf 96=3 by kernel_rfl] at f
 match cs,f with
 | [v0,v1,v2],_ =>
  have d:=a 0 _ rfl;have h:=a 1 _ rfl;have j:=a 2 _ rfl;have k:prog.cellsOf 3=1:=by kernel_rfl
  have m:prog.cellsOf 9=1:=by kernel_rfl
  match o,b with
  | [y0,y1,y2],_ =>
   simp [k,m] at d h j;obtain ⟨m0,i,_⟩:=DataW.trod_int underlying3 d;obtain ⟨q,e,_⟩:=DataW.trod_int underlying3 h;obtain ⟨l,g,_,r⟩:=DataW.trod_string underlying9 j;simp only [List.cons.injEq,and_true] at i e g;subst i e g;exact ⟨⟨m0,q,l⟩,rfl,rfl,r⟩
theorem Zez (c:Nat)(cs:List Value)(y:DataW H × List MemPlace)(d:DataW.trod enc prog w base spare held c 80 cs=some y):∃ ts,cs.length=1/\ES 0 w cs ts:=by
 rcases open_slice underlying80 d with ⟨b,_⟩ | ⟨a,f,e,m,n,D,g,b,_⟩
 ·subst b
  obtain ⟨ts,R⟩:=Zco d;exact ⟨ts,rfl,_,rfl,R,Fr.zero _⟩
 ·subst b
  obtain ⟨ts,R⟩:=Zco d;exact ⟨ts,rfl,_,rfl,R,Fr.zero _⟩
theorem Zh8 {v:Value}{d:DataW H}{p:List MemPlace}(hv:Value.okWide prog w .any base 35 v)(h:DataW.Trod enc prog w 0 (fun _=>true) true 35 v d p) :
  ∃ F E U S O V R A C,∃ d:Wd,v=.agg #[F,E,U,.int .i64 d.pl,S,O,V,R,.int .i64 d.nx,A,C]/\WR 0 w F E U S O V R A C d:=by
 haveI:Inhabited Hm:=⟨⟨0,0,[],⟨0,0,0,0,0,0,0⟩,[],[]⟩⟩
 haveI:Inhabited Lk:=⟨⟨0,0,[],0,[]⟩⟩
 haveI:Inhabited Gm:=⟨⟨0,0,0,0,ByteArray.empty⟩⟩
 haveI:Inhabited Pd:=⟨⟨0,0,ByteArray.empty⟩⟩
 obtain ⟨cs,rfl,f⟩:=okWide_struct underlying35 hv;rw [show prog.cellsOf 35=11 by kernel_rfl] at f;obtain ⟨P,hf⟩:=h
 obtain ⟨q,j,m,t,r,o,g,i,s,e,b,rfl⟩:∃ q j m t r o g i s e b,cs=#[q,j,m,t,r,o,g,i,s,e,b]:=by
  obtain ⟨l⟩:=cs
  match l,f with
  | [q,j,m,t,r,o,g,i,s,e,b],_=>exact ⟨q,j,m,t,r,o,g,i,s,e,b,rfl⟩
 obtain ⟨u,n,_,_,hl,c,a⟩:=DataW.trod_struct underlying35 hf;have N:=a 0 _ rfl;have K:=a 1 _ rfl;have M:=a 2 _ rfl;have G:=a 3 _ rfl;have Q:=a 4 _ rfl;have D:=a 5 _ rfl;have W:=a 6 _ rfl;have T:=a 7 _ rfl;have L:=a 8 _ rfl;have i0:prog.cellsOf 3=1:=by kernel_rfl
 have i1:prog.cellsOf 28=3:=by kernel_rfl
 have i2:prog.cellsOf 29=1:=by kernel_rfl
 have x:prog.cellsOf 30=1:=by kernel_rfl
 have i4:prog.cellsOf 31=1:=by kernel_rfl
 have i5:prog.cellsOf 32=1:=by kernel_rfl
 have i6:prog.cellsOf 33=1:=by kernel_rfl
 match u,c with
 | [y0,y1,y2,y3,y4,y5,y6,y7,y8],_ =>
  simp [Value.cells,i0,i1,i2,x,i4,i5,i6] at N K M G Q D W T L;obtain ⟨m1,y,_⟩:=DataW.trod_int underlying3 K;obtain ⟨m6,I,_⟩:=DataW.trod_int underlying3 W;simp only [List.cons.injEq,and_true] at y I;subst y I;obtain ⟨hs,Rh⟩:=Zet (α:=Hm) underlying29 (k:=12) (by kernel_rfl) (by decide) Zih M;obtain ⟨ls,Y⟩:=Zet (α:=Lk) underlying30 (k:=5) (by kernel_rfl) (by decide) ZiN G;obtain ⟨gs,Rg⟩:=Zet (α:=Gm) underlying31 (k:=5) (by kernel_rfl) (by decide) ZhW Q;obtain ⟨X,Rp⟩:=Zet (α:=Pd) underlying32 (k:=3) (by kernel_rfl) (by decide) Zfx D;obtain ⟨ga,Ra⟩:=Zet (α:=List ByteArray) underlying33 (k:=1) (by kernel_rfl) (by decide) Zez T;obtain ⟨tk,Z⟩:=Zet (α:=List ByteArray) underlying33 (k:=1) (by kernel_rfl) (by decide) Zez L;obtain ⟨u,n,_,_,hl,c,a⟩:=DataW.trod_struct underlying28 N;have J:=a 0 _ rfl;have z:=a 1 _ rfl
  have k2:=a 2 _ rfl;have j0:prog.cellsOf 24=1:=by kernel_rfl
  have j1:prog.cellsOf 25=1:=by kernel_rfl
  have j2:prog.cellsOf 26=1:=by kernel_rfl
  match u,c with
  | [z0,z1,z2],_ =>
   simp [j0,j1,j2] at J z k2;obtain ⟨q0,n',_,_,B⟩:=trod_struct1 underlying24 J;have x:prog.cellsOf 22=1:=by kernel_rfl
   simp [x] at B;obtain ⟨ns,R1⟩:=Zhx B;obtain ⟨is,R2⟩:=Zlv z;obtain ⟨ds,R3⟩:=Zll k2;exact ⟨q,j,m,r,o,g,i,e,b,⟨ns,is,ds,m1,hs,ls,gs,X,m6,ga,tk⟩,rfl,R1,R2,R3,Rh,Y,Rg,Rp,Ra,Z,Fr.zero _,Fr.zero _,Fr.zero _⟩
end
end Go.Proofs.YtkpfangkfknhoaaGreatDoor
