/-
  What a world that came in reads as. Nothing of the program; no condition.
-/
import Derived.Test.YtfeodlbpnghakaaGreatDoorS12tM
import Derived.Test.YtfeodlbpnghakaaGreatDoorDfArgM
set_option maxRecDepth 100000
set_option maxHeartbeats 3200000
namespace Go.Proofs.YtfeodlbpnghakaaGreatDoor
open Go.ChangeShapes Go.WideShapes Go.ChangeAt Go.RowKit Go.Deep
section
variable {H:Type} {enc:TypeId × Value -> H} {w:World} {base:Nat} {spare:Nat -> Bool} {held:Bool}
theorem Zeq {α:Type}[Inhabited α]{T t:TypeId}{k:Nat}(Z:Tryz.prog.underlying T=some (.slice t))(hk:Tryz.prog.cellsOf t=k)(A:0 < k){E:Nat -> World -> List Value -> α -> Prop}(X:∀ (c:Nat) (cs:List Value) (y:DataW H × List MemPlace),DataW.trod enc Tryz.prog w base spare held c t cs=some y -> ∃ x,cs.length=k/\E 0 w cs x){c:Nat}{U:Value}{y0:DataW H × List MemPlace}(o:DataW.trod enc Tryz.prog w base spare held c T [U]=some y0):∃ xs,XRow 0 k E w U xs:=by
 rcases open_slice Z o with ⟨d,_⟩ | ⟨a,e,L,m,n,D,Pl,d,_,P,hm,v,_,S⟩
 ·simp at d
  subst d
  exact ⟨[],none,0,rfl,by simp,by simp,fun h=>absurd rfl h⟩
 ·simp at d
  subst d
  have Y:e <= m:=by rw [v];split <;> omega
  rw [hk] at S
  have p:∀ i,i < m -> ∃ q:List Value × α,(q.1.length=k/\E 0 w q.1 q.2)/\∀ j,j < k -> w.cell? (a.add (i * k+j))=q.1[j]?:=by
   intro i hi
   obtain ⟨z,G,I⟩:=S i hi
   obtain ⟨x,P,W⟩:=X _ _ _ I
   obtain ⟨_,Q,g⟩:=World.cells?_some G
   refine ⟨(z,x),⟨P,W⟩,fun j C=>?_⟩
   have:=g j (by omega)
   rw [add_add] at this
   rw [this]
  obtain ⟨q,O⟩:=choose_lt p
  refine ⟨(List.range e).map fun i=>(q i).2,some a,L,?_,?_,?_,?_⟩
  ·simp
  ·exact ⟨by simp;omega,fun h=>by cases h⟩
  ·unfold maxLen at hm;simp;omega
  ·intro F
   have R:0 < e:=by
    rcases Nat.eq_zero_or_pos e with o | o
    ·subst o;simp at F
    ·exact o
   obtain ⟨b,K,l⟩:=a
   obtain ⟨⟨V,_⟩,B⟩:=O 0 (by omega)
   have r:=B 0 A
   obtain ⟨u0,M⟩:∃ u,(q 0).1[0]? = some u:=⟨_,List.getElem?_eq_getElem (by omega)⟩
   rw [M] at r
   have f:l=none:=by simpa [Addr.add] using World.cell?_spot r
   subst f
   have hb:=World.block_lt_of_cell? _ _ r
   refine ⟨b,K,rfl,Nat.zero_le _,by simpa [Addr.add_lit] using hb,fun i x hi=>?_⟩
   have J:i < e:=by
    have:=(List.getElem?_eq_some_iff.1 hi).1
    simpa using this
   have N:x=(q i).2:=by
    rw [List.getElem?_map,List.getElem?_range J] at hi
    simpa using hi.symm
   subst N
   obtain ⟨⟨G,I⟩,h3⟩:=O i (by omega)
   refine ⟨(q i).1,G,fun j u C=>?_,I⟩
   have s:j < k:=by have:=(List.getElem?_eq_some_iff.1 C).1;omega
   have:=h3 j s
   rw [Addr.add_lit] at this
   rw [Nat.add_assoc,this]
   exact C
theorem Zin (c:Nat)(cs:List Value)(y:DataW H × List MemPlace)(v:DataW.trod enc Tryz.prog w base spare held c 95 cs=some y):∃ h:Hm,cs.length=12/\EH 0 w cs h:=by
 obtain ⟨d,n,_,_,e,b,a⟩:=DataW.trod_struct Tryz.underlying95 v
 rw [show Tryz.prog.cellsOf 95=12 by kernel_rfl] at e
 match cs,e with
 | [v0,v1,v2,v3,v4,v5,v6,v7,v8,v9,v10,v11],_ =>
  have p:=a 0 _ rfl
  have k:=a 1 _ rfl
  have g:Tryz.prog.cellsOf 3=1:=by kernel_rfl
  have q:Tryz.prog.cellsOf 93=11:=by kernel_rfl
  match d,b with
  | [y0,y1],_ =>
   simp [g,q] at p k
   obtain ⟨m0,o,_⟩:=DataW.trod_int Tryz.underlying3 p
   simp only [List.cons.injEq,and_true] at o
   subst o
   obtain ⟨d,n,_,_,e,b,a⟩:=DataW.trod_struct Tryz.underlying93 k
   have l:=a 0 _ rfl
   have j:=a 1 _ rfl
   have k2:=a 2 _ rfl
   have i:=a 3 _ rfl
   have A:Tryz.prog.cellsOf 91=8:=by kernel_rfl
   have r:Tryz.prog.cellsOf 62=1:=by kernel_rfl
   match d,b with
   | [z0,z1,z2,z3],_ =>
    simp [g,A,r] at l j k2 i
    obtain ⟨t,f,_⟩:=DataW.trod_int Tryz.underlying3 l
    simp only [List.cons.injEq,and_true] at f
    subst f
    obtain ⟨d,m,rfl,rfl,rfl,rfl,rfl,rfl,rfl,R⟩:=Zia j
    obtain ⟨u,s⟩:=Zb4 k2
    obtain ⟨z,x⟩:=Zb4 i
    exact ⟨⟨m0,t,d,m,u,z⟩,rfl,v2,v10,v11,rfl,R,s,x,Fr.zero _,Fr.zero _,Fr.zero _⟩
theorem Zhq (c:Nat)(cs:List Value)(y:DataW H × List MemPlace)(v:DataW.trod enc Tryz.prog w base spare held c 99 cs=some y):∃ l:Lk,cs.length=5/\EL 0 w cs l:=by
 obtain ⟨z,n,_,_,e,b,a⟩:=DataW.trod_struct Tryz.underlying99 v
 rw [show Tryz.prog.cellsOf 99=5 by kernel_rfl] at e
 match cs,e with
 | [v0,v1,v2,v3,v4],_ =>
  have m:=a 0 _ rfl
  have g:=a 1 _ rfl
  have f:=a 2 _ rfl
  have h:=a 3 _ rfl
  have i:=a 4 _ rfl
  have p:Tryz.prog.cellsOf 3=1:=by kernel_rfl
  have o:Tryz.prog.cellsOf 62=1:=by kernel_rfl
  have A:Tryz.prog.cellsOf 97=1:=by kernel_rfl
  match z,b with
  | [y0,y1,y2,y3,y4],_ =>
   simp [p,o,A] at m g f h i
   obtain ⟨m0,k,_⟩:=DataW.trod_int Tryz.underlying3 m
   obtain ⟨t,d,_⟩:=DataW.trod_int Tryz.underlying3 g
   obtain ⟨u,j,_⟩:=DataW.trod_int Tryz.underlying3 h
   obtain ⟨r,x⟩:=Zb4 f
   obtain ⟨q,s⟩:=Zk3 i
   simp only [List.cons.injEq,and_true] at k d j
   subst k d j
   exact ⟨⟨m0,t,r,u,q⟩,rfl,v2,v4,rfl,x,s,Fr.zero _,Fr.zero _⟩
theorem ZhD (c:Nat)(cs:List Value)(y:DataW H × List MemPlace)(v:DataW.trod enc Tryz.prog w base spare held c 104 cs=some y):∃ g:Gm,cs.length=5/\EG 0 w cs g:=by
 obtain ⟨x,n,_,_,e,b,a⟩:=DataW.trod_struct Tryz.underlying104 v
 rw [show Tryz.prog.cellsOf 104=5 by kernel_rfl] at e
 match cs,e with
 | [v0,v1,v2,v3,v4],_ =>
  have o:=a 0 _ rfl
  have i:=a 1 _ rfl
  have h:=a 2 _ rfl
  have j:=a 3 _ rfl
  have r:Tryz.prog.cellsOf 3=1:=by kernel_rfl
  have p:Tryz.prog.cellsOf 102=2:=by kernel_rfl
  match x,b with
  | [y0,y1,y2,y3],_ =>
   simp [r,p] at o i h j
   obtain ⟨m0,l,_⟩:=DataW.trod_int Tryz.underlying3 o
   obtain ⟨t,d,_⟩:=DataW.trod_int Tryz.underlying3 i
   obtain ⟨u,k,_⟩:=DataW.trod_int Tryz.underlying3 h
   simp only [List.cons.injEq,and_true] at l d k
   subst l d k
   obtain ⟨m,f,q⟩:=ZgS j
   simp only [Pc.cs,List.cons.injEq,and_true] at f
   obtain ⟨rfl,rfl⟩:=f
   exact ⟨⟨m0,t,u,m.n,m.s⟩,rfl,rfl,q⟩
theorem Zfk (c:Nat)(cs:List Value)(y:DataW H × List MemPlace)(l:DataW.trod enc Tryz.prog w base spare held c 107 cs=some y):∃ p:Pd,cs.length=3/\EP 0 w cs p:=by
 obtain ⟨r,n,_,_,e,b,a⟩:=DataW.trod_struct Tryz.underlying107 l
 rw [show Tryz.prog.cellsOf 107=3 by kernel_rfl] at e
 match cs,e with
 | [v0,v1,v2],_ =>
  have j:=a 0 _ rfl
  have i:=a 1 _ rfl
  have g:=a 2 _ rfl
  have q:Tryz.prog.cellsOf 3=1:=by kernel_rfl
  have k:Tryz.prog.cellsOf 9=1:=by kernel_rfl
  match r,b with
  | [y0,y1,y2],_ =>
   simp [q,k] at j i g
   obtain ⟨m0,f,_⟩:=DataW.trod_int Tryz.underlying3 j
   obtain ⟨s,d,_⟩:=DataW.trod_int Tryz.underlying3 i
   obtain ⟨m,h,_,o⟩:=DataW.trod_string Tryz.underlying9 g
   simp only [List.cons.injEq,and_true] at f d h
   subst f d h
   exact ⟨⟨m0,s,m⟩,rfl,rfl,o⟩
theorem Zei (d:Nat)(cs:List Value)(y:DataW H × List MemPlace)(e:DataW.trod enc Tryz.prog w base spare held d 62 cs=some y):∃ c,cs.length=1/\ES 0 w cs c:=by
 rcases open_slice Tryz.underlying62 e with ⟨b,_⟩ | ⟨a,g,f,m,n,D,h,b,_⟩
 ·subst b
  obtain ⟨c,R⟩:=Zb4 e
  exact ⟨c,rfl,_,rfl,R,Fr.zero _⟩
 ·subst b
  obtain ⟨c,R⟩:=Zb4 e
  exact ⟨c,rfl,_,rfl,R,Fr.zero _⟩
theorem Zh4 {v:Value}{d:DataW H}{p:List MemPlace}(hv:Value.okWide Tryz.prog w .any base 35 v)(h:DataW.Trod enc Tryz.prog w 0 (fun _=>true) true 35 v d p) :
  ∃ z P L K R M O J V,∃ d:Wd,v=.agg #[z,P,L,.int .i64 d.pl,K,R,M,O,.int .i64 d.nx,J,V]/\WR 0 w z P L K R M O J V d:=by
 haveI:Inhabited Hm:=⟨⟨0,0,[],⟨0,0,0,0,0,0,0⟩,[],[]⟩⟩
 haveI:Inhabited Lk:=⟨⟨0,0,[],0,[]⟩⟩
 haveI:Inhabited Gm:=⟨⟨0,0,0,0,ByteArray.empty⟩⟩
 haveI:Inhabited Pd:=⟨⟨0,0,ByteArray.empty⟩⟩
 obtain ⟨cs,rfl,g⟩:=okWide_struct Tryz.underlying35 hv
 rw [show Tryz.prog.cellsOf 35=11 by kernel_rfl] at g
 obtain ⟨A,hf⟩:=h
 obtain ⟨q,i,r,t,m,j,f,e,s,o,c,rfl⟩:∃ q i r t m j f e s o c,cs=#[q,i,r,t,m,j,f,e,s,o,c]:=by
  obtain ⟨l⟩:=cs
  match l,g with
  | [q,i,r,t,m,j,f,e,s,o,c],_=>exact ⟨q,i,r,t,m,j,f,e,s,o,c,rfl⟩
 obtain ⟨x,n,_,_,Z,b,a⟩:=DataW.trod_struct Tryz.underlying35 hf
 have T:=a 0 _ rfl
 have G:=a 1 _ rfl
 have C:=a 2 _ rfl
 have E:=a 3 _ rfl
 have I:=a 4 _ rfl
 have U:=a 5 _ rfl
 have F:=a 6 _ rfl
 have W:=a 7 _ rfl
 have S:=a 8 _ rfl
 have i0:Tryz.prog.cellsOf 3=1:=by kernel_rfl
 have X:Tryz.prog.cellsOf 28=3:=by kernel_rfl
 have i2:Tryz.prog.cellsOf 29=1:=by kernel_rfl
 have u:Tryz.prog.cellsOf 30=1:=by kernel_rfl
 have i4:Tryz.prog.cellsOf 31=1:=by kernel_rfl
 have Y:Tryz.prog.cellsOf 32=1:=by kernel_rfl
 have i6:Tryz.prog.cellsOf 33=1:=by kernel_rfl
 match x,b with
 | [y0,y1,y2,y3,y4,y5,y6,y7,y8],_ =>
  simp [Value.cells,i0,X,i2,u,i4,Y,i6] at T G C E I U F W S
  obtain ⟨m1,y,_⟩:=DataW.trod_int Tryz.underlying3 G
  obtain ⟨m6,Q,_⟩:=DataW.trod_int Tryz.underlying3 F
  simp only [List.cons.injEq,and_true] at y Q
  subst y Q
  obtain ⟨hs,Rh⟩:=Zeq (α:=Hm) Tryz.underlying29 (k:=12) (by kernel_rfl) (by decide) Zin C
  obtain ⟨ls,Rl⟩:=Zeq (α:=Lk) Tryz.underlying30 (k:=5) (by kernel_rfl) (by decide) Zhq E
  obtain ⟨gs,Rg⟩:=Zeq (α:=Gm) Tryz.underlying31 (k:=5) (by kernel_rfl) (by decide) ZhD I
  obtain ⟨ps,Rp⟩:=Zeq (α:=Pd) Tryz.underlying32 (k:=3) (by kernel_rfl) (by decide) Zfk U
  obtain ⟨ga,Ra⟩:=Zeq (α:=List ByteArray) Tryz.underlying33 (k:=1) (by kernel_rfl) (by decide) Zei W
  obtain ⟨tk,Rt⟩:=Zeq (α:=List ByteArray) Tryz.underlying33 (k:=1) (by kernel_rfl) (by decide) Zei S
  obtain ⟨x,n,_,_,Z,b,a⟩:=DataW.trod_struct Tryz.underlying28 T
  have N:=a 0 _ rfl
  have D:=a 1 _ rfl
  have k2:=a 2 _ rfl
  have j0:Tryz.prog.cellsOf 24=1:=by kernel_rfl
  have j1:Tryz.prog.cellsOf 25=1:=by kernel_rfl
  have j2:Tryz.prog.cellsOf 26=1:=by kernel_rfl
  match x,b with
  | [z0,z1,z2],_ =>
   simp [j0,j1,j2] at N D k2
   obtain ⟨q0,n',_,_,B⟩:=trod_struct1 Tryz.underlying24 N
   have u:Tryz.prog.cellsOf 22=1:=by kernel_rfl
   simp [u] at B
   obtain ⟨ns,R1⟩:=Zg7 B
   obtain ⟨is,R2⟩:=Zj7 D
   obtain ⟨ds,R3⟩:=Zkr k2
   exact ⟨q,i,r,m,j,f,e,o,c,⟨ns,is,ds,m1,hs,ls,gs,ps,m6,ga,tk⟩,rfl,R1,R2,R3,Rh,Rl,Rg,Rp,Ra,Rt,Fr.zero _,Fr.zero _,Fr.zero _⟩
end
end Go.Proofs.YtfeodlbpnghakaaGreatDoor
