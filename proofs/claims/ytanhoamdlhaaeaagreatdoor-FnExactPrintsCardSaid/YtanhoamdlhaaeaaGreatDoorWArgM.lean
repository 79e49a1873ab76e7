/-
  Texts that stood by themselves, laid into one.
-/
import Derived.Test.YtanhoamdlhaaeaaGreatDoorStArgM
import Derived.Test.YtanhoamdlhaaeaaGreatDoorNodeFitsM
import Derived.Test.YtanhoamdlhaaeaaGreatDoorInM
import Derived.Test.YtanhoamdlhaaeaaGreatDoorCodeM
import Derived.Test.YtanhoamdlhaaeaaGreatDoorWWM
/-
  What a process that came in reads as: its number, a machine, and two rows of texts. Nothing of the program; no condition.
-/
set_option maxRecDepth 100000
set_option maxHeartbeats 3200000
namespace Go.Proofs.YtanhoamdlhaaeaaGreatDoor
open Go.Proofs.Tryz
open Go.ChangeShapes Go.WideShapes Go.ChangeAt Go.RowKit Go.Deep
section
variable {H:Type} {enc:TypeId × Value -> H} {w:World} {base:Nat} {spare:Nat -> Bool} {held:Bool}
theorem Zhi {b:Nat}{G I J K L M N O:Value}{x:DataW H × List MemPlace}(Q:DataW.trod enc prog w base spare held b 95 [G,I,J,K,L,M,N,O]=some x) :
  ∃ f,∃ m:Mc,I=.int .i64 m.p/\J=.int .i64 m.s/\K=.int .i64 m.e/\L=.int .i64 m.d/\M=.int .i64 m.t/\N=.int .i64 m.q/\O=.int .i64 m.r/\NRow w G f:=by
 obtain ⟨f,n,_,_,hl,c,a⟩:=DataW.trod_struct underlying95 Q;have v:=a 0 _ rfl;have y:=a 1 _ rfl;have z:=a 2 _ rfl;have A:=a 3 _ rfl;have B:=a 4 _ rfl;have C:=a 5 _ rfl;have D:=a 6 _ rfl;have E:=a 7 _ rfl;have R:prog.cellsOf 24=1:=by kernel_rfl
 have S:prog.cellsOf 3=1:=by kernel_rfl
 match f,c with
 | [y0,y1,y2,y3,y4,y5,y6,y7],_ =>
  simp [R,S] at v y z A B C D E;obtain ⟨U,g,_⟩:=DataW.trod_int underlying3 y;obtain ⟨V,i,_⟩:=DataW.trod_int underlying3 z;obtain ⟨W,j,_⟩:=DataW.trod_int underlying3 A;obtain ⟨X,k,_⟩:=DataW.trod_int underlying3 B;obtain ⟨Y,l,_⟩:=DataW.trod_int underlying3 C;obtain ⟨Z,o,_⟩:=DataW.trod_int underlying3 D;obtain ⟨m7,u,_⟩:=DataW.trod_int underlying3 E;simp only [List.cons.injEq,and_true] at g i j k l o u;subst g i j k l o u;obtain ⟨z0,n',_,_,F⟩:=trod_struct1 underlying24 v;have T:prog.cellsOf 22=1:=by kernel_rfl
  simp [T] at F;obtain ⟨ns,P⟩:=Zgq F;exact ⟨ns,⟨U,V,W,X,Y,Z,m7⟩,rfl,rfl,rfl,rfl,rfl,rfl,rfl,P⟩
end
section
variable {H:Type} {enc:TypeId × Value -> H} {w:World} {base:Nat} {spare:Nat -> Bool} {held:Bool}
theorem Zjo {a:Nat}{cs:List Value}{x:DataW H × List MemPlace}(h:DataW.trod enc prog w base spare held a 148 cs=some x) :
  ∃ o:In,cs=o.cs/\o.s.size <= maxLen:=by
 obtain ⟨z,n,_,_,m,b,c⟩:=DataW.trod_struct underlying148 h;rw [show prog.cellsOf 148=4 by kernel_rfl] at m
 match cs,m with
 | [v0,v1,v2,v3],_ =>
  have i:=c 0 _ rfl;have j:=c 1 _ rfl;have k:=c 2 _ rfl;have l:=c 3 _ rfl;have q:prog.cellsOf 3=1:=by kernel_rfl
  have r:prog.cellsOf 9=1:=by kernel_rfl
  match z,b with
  | [y0,y1,y2,y3],_ =>
   simp [q,r] at i j k l;obtain ⟨t,d,_⟩:=DataW.trod_int underlying3 i;obtain ⟨u,e,_⟩:=DataW.trod_int underlying3 j;obtain ⟨v,f,_⟩:=DataW.trod_int underlying3 k;obtain ⟨y,g,_,p⟩:=DataW.trod_string underlying9 l;simp only [List.cons.injEq,and_true] at d e f g;subst d e f g;exact ⟨⟨t,u,v,y⟩,rfl,p⟩
theorem Zjz {l:Nat}{K:Value}{U:DataW H × List MemPlace}(o:DataW.trod enc prog w base spare held l 25 [K]=some U) :
  ∃ T,InRow w K T:=by
 have S:prog.cellsOf 148=4:=by kernel_rfl
 rcases open_slice underlying25 o with ⟨c,_⟩ | ⟨a,d,v,m,n,D,V,c,_,W,Q,A,_,J⟩
 ·simp at c
  subst c;exact ⟨[],none,0,rfl,by simp,by simp,by simp,fun h=>absurd rfl h⟩
 ·simp at c
  subst c;have P:d <= m:=by rw [A];split <;> omega
  rw [S] at J
  have k:∀ i,i < m -> ∃ u:In,u.s.size <= maxLen/\∀ j,j < 4 -> w.cell? (a.add (i * 4+j))=u.cs[j]?:=by
   intro i hi;obtain ⟨L,M,N⟩:=J i hi;obtain ⟨u,rfl,R⟩:=Zjo N;obtain ⟨_,G,f⟩:=World.cells?_some M;refine ⟨u,R,fun j F=>?_⟩;have:=f j (by omega);rw [add_add] at this;rw [this]
  haveI:Inhabited In:=⟨Zfw⟩
  obtain ⟨q,C⟩:=choose_lt k;refine ⟨(List.range d).map q,some a,v,?_,?_,?_,?_,?_⟩
  ·simp
  ·exact ⟨by simp;omega,fun h=>by cases h⟩
  ·unfold maxLen at Q;simp;omega
  ·intro x p
   simp at p;obtain ⟨i,hi,rfl⟩:=p;exact (C i (by omega)).1
  ·intro B
   have I:0 < d:=by
    rcases Nat.eq_zero_or_pos d with o | o
    ·subst o;simp at B
    ·exact o
   obtain ⟨b,r,t⟩:=a;have y:=(C 0 (by omega)).2 0 (by omega);simp only [In.cs,List.getElem?_cons_zero] at y;have g:t=none:=by simpa [Addr.add] using World.cell?_spot y
   subst g;have O:=World.block_lt_of_cell? _ _ y;refine ⟨b,r,rfl,by simpa [Addr.add_lit] using O,fun i x hi=>?_⟩
   have z:i < d:=by
    have:=(List.getElem?_eq_some_iff.1 hi).1
    simpa using this
   have E:x=q i:=by
    rw [List.getElem?_map,List.getElem?_range z] at hi
    simpa using hi.symm
   subst E
   have e:∀ j,j < 4 -> w.cell? ⟨b,r+i * 4+j,none⟩=(q i).cs[j]?:=fun j F=>by
    have:=(C i (by omega)).2 j F;rw [Addr.add_lit] at this;rw [<- this,Nat.add_assoc]
   exact ⟨e 0 (by omega),e 1 (by omega),e 2 (by omega),e 3 (by omega)⟩
end
section
variable {H:Type} {enc:TypeId × Value -> H} {w:World} {base:Nat} {spare:Nat -> Bool} {held:Bool}
theorem Zje {a:Nat}{cs:List Value}{x:DataW H × List MemPlace}(h:DataW.trod enc prog w base spare held a 151 cs=some x) :
  ∃ l:Df,cs=l.cs/\l.s.size <= maxLen:=by
 obtain ⟨u,n,_,_,k,b,c⟩:=DataW.trod_struct underlying151 h;rw [show prog.cellsOf 151=3 by kernel_rfl] at k
 match cs,k with
 | [v0,v1,v2],_ =>
  have g:=c 0 _ rfl;have i:=c 1 _ rfl;have j:=c 2 _ rfl;have o:prog.cellsOf 3=1:=by kernel_rfl
  have p:prog.cellsOf 9=1:=by kernel_rfl
  match u,b with
  | [y0,y1,y2],_ =>
   simp [o,p] at g i j;obtain ⟨q,d,_,m⟩:=DataW.trod_string underlying9 g;obtain ⟨r,e,_⟩:=DataW.trod_int underlying3 i;obtain ⟨t,f,_⟩:=DataW.trod_int underlying3 j;simp only [List.cons.injEq,and_true] at d e f;subst d e f;exact ⟨⟨q,r,t⟩,rfl,m⟩
theorem Zjy {l:Nat}{K:Value}{U:DataW H × List MemPlace}(o:DataW.trod enc prog w base spare held l 26 [K]=some U) :
  ∃ T,DfRow w K T:=by
 have S:prog.cellsOf 151=3:=by kernel_rfl
 rcases open_slice underlying26 o with ⟨c,_⟩ | ⟨a,d,v,m,n,D,V,c,_,W,Q,A,_,J⟩
 ·simp at c
  subst c;exact ⟨[],none,0,rfl,by simp,by simp,by simp,fun h=>absurd rfl h⟩
 ·simp at c
  subst c;have P:d <= m:=by rw [A];split <;> omega
  rw [S] at J
  have k:∀ i,i < m -> ∃ u:Df,u.s.size <= maxLen/\∀ j,j < 3 -> w.cell? (a.add (i * 3+j))=u.cs[j]?:=by
   intro i hi;obtain ⟨L,M,N⟩:=J i hi;obtain ⟨u,rfl,R⟩:=Zje N;obtain ⟨_,G,f⟩:=World.cells?_some M;refine ⟨u,R,fun j F=>?_⟩;have:=f j (by omega);rw [add_add] at this;rw [this]
  haveI:Inhabited Df:=⟨Zfv⟩
  obtain ⟨q,C⟩:=choose_lt k;refine ⟨(List.range d).map q,some a,v,?_,?_,?_,?_,?_⟩
  ·simp
  ·exact ⟨by simp;omega,fun h=>by cases h⟩
  ·unfold maxLen at Q;simp;omega
  ·intro x p
   simp at p;obtain ⟨i,hi,rfl⟩:=p;exact (C i (by omega)).1
  ·intro B
   have I:0 < d:=by
    rcases Nat.eq_zero_or_pos d with o | o
    ·subst o;simp at B
    ·exact o
   obtain ⟨b,r,t⟩:=a;have y:=(C 0 (by omega)).2 0 (by omega);simp only [Df.cs,List.getElem?_cons_zero] at y;have g:t=none:=by simpa [Addr.add] using World.cell?_spot y
   subst g;have O:=World.block_lt_of_cell? _ _ y;refine ⟨b,r,rfl,by simpa [Addr.add_lit] using O,fun i x hi=>?_⟩
   have z:i < d:=by
    have:=(List.getElem?_eq_some_iff.1 hi).1
    simpa using this
   have E:x=q i:=by
    rw [List.getElem?_map,List.getElem?_range z] at hi
    simpa using hi.symm
   subst E
   have e:∀ j,j < 3 -> w.cell? ⟨b,r+i * 3+j,none⟩=(q i).cs[j]?:=fun j F=>by
    have:=(C i (by omega)).2 j F;rw [Addr.add_lit] at this;rw [<- this,Nat.add_assoc]
   exact ⟨e 0 (by omega),e 1 (by omega),e 2 (by omega)⟩
end
section
variable {H:Type} {enc:TypeId × Value -> H} {w:World} {base:Nat} {spare:Nat -> Bool} {held:Bool}
theorem ZdG {α:Type}[Inhabited α]{T t:TypeId}{k:Nat}(X:prog.underlying T=some (.slice t))(hk:prog.cellsOf t=k)(I:0 < k){E:Nat -> World -> List Value -> α -> Prop}(W:∀ (c:Nat) (cs:List Value) (y:DataW H × List MemPlace),DataW.trod enc prog w base spare held c t cs=some y -> ∃ x,cs.length=k/\E 0 w cs x){c:Nat}{U:Value}{y0:DataW H × List MemPlace}(o:DataW.trod enc prog w base spare held c T [U]=some y0):∃ xs,XRow 0 k E w U xs:=by
 rcases open_slice X o with ⟨d,_⟩ | ⟨a,e,r,m,n,D,Pl,d,_,O,hm,J,_,S⟩
 ·simp at d
  subst d;exact ⟨[],none,0,rfl,by simp,by simp,fun h=>absurd rfl h⟩
 ·simp at d
  subst d;have ab:e <= m:=by rw [J];split <;> omega
  rw [hk] at S
  have l:∀ i,i < m -> ∃ q:List Value × α,(q.1.length=k/\E 0 w q.1 q.2)/\∀ j,j < k -> w.cell? (a.add (i * k+j))=q.1[j]?:=by
   intro i hi;obtain ⟨s,v,z⟩:=S i hi;obtain ⟨x,O,Z⟩:=W _ _ _ z;obtain ⟨_,P,f⟩:=World.cells?_some v;refine ⟨(s,x),⟨O,Z⟩,fun j F=>?_⟩;have:=f j (by omega);rw [add_add] at this;rw [this]
  obtain ⟨q,R⟩:=choose_lt l;refine ⟨(List.range e).map fun i=>(q i).2,some a,r,?_,?_,?_,?_⟩
  ·simp
  ·exact ⟨by simp;omega,fun h=>by cases h⟩
  ·unfold maxLen at hm;simp;omega
  ·intro K
   have Q:0 < e:=by
    rcases Nat.eq_zero_or_pos e with o | o
    ·subst o;simp at K
    ·exact o
   obtain ⟨b,N,p⟩:=a;obtain ⟨⟨aa,_⟩,B⟩:=R 0 (by omega);have A:=B 0 I;obtain ⟨u0,L⟩:∃ u,(q 0).1[0]? = some u:=⟨_,List.getElem?_eq_getElem (by omega)⟩;rw [L] at A;have g:p=none:=by simpa [Addr.add] using World.cell?_spot A
   subst g;have Y:=World.block_lt_of_cell? _ _ A;refine ⟨b,N,rfl,Nat.zero_le _,by simpa [Addr.add_lit] using Y,fun i x hi=>?_⟩
   have C:i < e:=by
    have:=(List.getElem?_eq_some_iff.1 hi).1
    simpa using this
   have M:x=(q i).2:=by
    rw [List.getElem?_map,List.getElem?_range C] at hi
    simpa using hi.symm
   subst M;obtain ⟨⟨v,z⟩,V⟩:=R i (by omega);refine ⟨(q i).1,v,fun j u F=>?_,z⟩;have G:j < k:=by have:=(List.getElem?_eq_some_iff.1 F).1;omega
   have:=V j G;rw [Addr.add_lit] at this;rw [Nat.add_assoc,this];exact F
theorem ZgY (c:Nat)(cs:List Value)(y:DataW H × List MemPlace)(t:DataW.trod enc prog w base spare held c 99 cs=some y):∃ h:Hm,cs.length=12/\EH 0 w cs h:=by
 obtain ⟨d,n,_,_,e,b,a⟩:=DataW.trod_struct underlying99 t;rw [show prog.cellsOf 99=12 by kernel_rfl] at e
 match cs,e with
 | [v0,v1,v2,v3,v4,v5,v6,v7,v8,v9,v10,v11],_ =>
  have i:=a 0 _ rfl;have j:=a 1 _ rfl;have k:prog.cellsOf 3=1:=by kernel_rfl
  have u:prog.cellsOf 97=11:=by kernel_rfl
  match d,b with
  | [y0,y1],_ =>
   simp [k,u] at i j;obtain ⟨z,f,_⟩:=DataW.trod_int underlying3 i;simp only [List.cons.injEq,and_true] at f;subst f;obtain ⟨d,n,_,_,e,b,a⟩:=DataW.trod_struct underlying97 j;have l:=a 0 _ rfl;have o:=a 1 _ rfl;have k2:=a 2 _ rfl;have p:=a 3 _ rfl;have v:prog.cellsOf 95=8:=by kernel_rfl
   have x:prog.cellsOf 37=1:=by kernel_rfl
   match d,b with
   | [z0,z1,z2,z3],_ =>
    simp [k,v,x] at l o k2 p;obtain ⟨A,g,_⟩:=DataW.trod_int underlying3 l;simp only [List.cons.injEq,and_true] at g;subst g;obtain ⟨d,m,rfl,rfl,rfl,rfl,rfl,rfl,rfl,R⟩:=Zhi o;obtain ⟨s,q⟩:=ZbZ k2;obtain ⟨B,r⟩:=ZbZ p;exact ⟨⟨z,A,d,m,s,B⟩,rfl,v2,v10,v11,rfl,R,q,r,Fr.zero _,Fr.zero _,Fr.zero _⟩
theorem Zg9 (b:Nat)(cs:List Value)(y:DataW H × List MemPlace)(r:DataW.trod enc prog w base spare held b 103 cs=some y):∃ l:Lk,cs.length=5/\EL 0 w cs l:=by
 obtain ⟨C,n,_,_,o,c,a⟩:=DataW.trod_struct underlying103 r;rw [show prog.cellsOf 103=5 by kernel_rfl] at o
 match cs,o with
 | [v0,v1,v2,v3,v4],_ =>
  have g:=a 0 _ rfl;have i:=a 1 _ rfl;have j:=a 2 _ rfl;have k:=a 3 _ rfl;have m:=a 4 _ rfl;have s:prog.cellsOf 3=1:=by kernel_rfl
  have t:prog.cellsOf 37=1:=by kernel_rfl
  have u:prog.cellsOf 101=1:=by kernel_rfl
  match C,c with
  | [y0,y1,y2,y3,y4],_ =>
   simp [s,t,u] at g i j k m;obtain ⟨v,d,_⟩:=DataW.trod_int underlying3 g;obtain ⟨x,e,_⟩:=DataW.trod_int underlying3 i;obtain ⟨z,f,_⟩:=DataW.trod_int underlying3 k;obtain ⟨B,p⟩:=ZbZ j;obtain ⟨A,q⟩:=ZjA m;simp only [List.cons.injEq,and_true] at d e f;subst d e f;exact ⟨⟨v,x,B,z,A⟩,rfl,v2,v4,rfl,p,q,Fr.zero _,Fr.zero _⟩
theorem ZgW (b:Nat)(cs:List Value)(y:DataW H × List MemPlace)(q:DataW.trod enc prog w base spare held b 108 cs=some y):∃ g:Gm,cs.length=5/\EG 0 w cs g:=by
 obtain ⟨A,n,_,_,o,c,a⟩:=DataW.trod_struct underlying108 q;rw [show prog.cellsOf 108=5 by kernel_rfl] at o
 match cs,o with
 | [v0,v1,v2,v3,v4],_ =>
  have i:=a 0 _ rfl;have j:=a 1 _ rfl;have k:=a 2 _ rfl;have l:=a 3 _ rfl;have t:prog.cellsOf 3=1:=by kernel_rfl
  have u:prog.cellsOf 106=2:=by kernel_rfl
  match A,c with
  | [y0,y1,y2,y3],_ =>
   simp [t,u] at i j k l;obtain ⟨v,d,_⟩:=DataW.trod_int underlying3 i;obtain ⟨x,e,_⟩:=DataW.trod_int underlying3 j;obtain ⟨z,f,_⟩:=DataW.trod_int underlying3 k;simp only [List.cons.injEq,and_true] at d e f;subst d e f;obtain ⟨p,m,r⟩:=Zgt l;simp only [Pc.cs,List.cons.injEq,and_true] at m;obtain ⟨rfl,rfl⟩:=m;exact ⟨⟨v,x,z,p.n,p.s⟩,rfl,rfl,r⟩
theorem Ze6 (b:Nat)(cs:List Value)(y:DataW H × List MemPlace)(l:DataW.trod enc prog w base spare held b 111 cs=some y):∃ p:Pd,cs.length=3/\EP 0 w cs p:=by
 obtain ⟨u,n,_,_,k,c,a⟩:=DataW.trod_struct underlying111 l;rw [show prog.cellsOf 111=3 by kernel_rfl] at k
 match cs,k with
 | [v0,v1,v2],_ =>
  have g:=a 0 _ rfl;have i:=a 1 _ rfl;have j:=a 2 _ rfl;have o:prog.cellsOf 3=1:=by kernel_rfl
  have q:prog.cellsOf 9=1:=by kernel_rfl
  match u,c with
  | [y0,y1,y2],_ =>
   simp [o,q] at g i j;obtain ⟨r,d,_⟩:=DataW.trod_int underlying3 g;obtain ⟨s,e,_⟩:=DataW.trod_int underlying3 i;obtain ⟨t,f,_,m⟩:=DataW.trod_string underlying9 j;simp only [List.cons.injEq,and_true] at d e f;subst d e f;exact ⟨⟨r,s,t⟩,rfl,rfl,m⟩
theorem ZdK (c:Nat)(cs:List Value)(y:DataW H × List MemPlace)(e:DataW.trod enc prog w base spare held c 37 cs=some y):∃ d,cs.length=1/\ES 0 w cs d:=by
 rcases open_slice underlying37 e with ⟨b,_⟩ | ⟨a,g,f,m,n,D,i,b,_⟩
 ·subst b
  obtain ⟨d,R⟩:=ZbZ e;exact ⟨d,rfl,_,rfl,R,Fr.zero _⟩
 ·subst b
  obtain ⟨d,R⟩:=ZbZ e;exact ⟨d,rfl,_,rfl,R,Fr.zero _⟩
theorem Zhj {v:Value}{d:DataW H}{p:List MemPlace}(hv:Value.okWide prog w .any base 35 v)(h:DataW.Trod enc prog w 0 (fun _=>true) true 35 v d p) :
  ∃ U S P R T Q V O W,∃ d:Wd,v=.agg #[U,S,P,.int .i64 d.pl,R,T,Q,V,.int .i64 d.nx,O,W]/\WR 0 w U S P R T Q V O W d:=by
 haveI:Inhabited Hm:=⟨⟨0,0,[],⟨0,0,0,0,0,0,0⟩,[],[]⟩⟩
 haveI:Inhabited Lk:=⟨⟨0,0,[],0,[]⟩⟩
 haveI:Inhabited Gm:=⟨⟨0,0,0,0,ByteArray.empty⟩⟩
 haveI:Inhabited Pd:=⟨⟨0,0,ByteArray.empty⟩⟩
 obtain ⟨cs,rfl,e⟩:=okWide_struct underlying35 hv;rw [show prog.cellsOf 35=11 by kernel_rfl] at e;obtain ⟨A,hf⟩:=h
 obtain ⟨f,g,i,s,j,m,o,q,t,r,c,rfl⟩:∃ f g i s j m o q t r c,cs=#[f,g,i,s,j,m,o,q,t,r,c]:=by
  obtain ⟨l⟩:=cs
  match l,e with
  | [f,g,i,s,j,m,o,q,t,r,c],_=>exact ⟨f,g,i,s,j,m,o,q,t,r,c,rfl⟩
 obtain ⟨x,n,_,_,hl,b,a⟩:=DataW.trod_struct underlying35 hf;have B:=a 0 _ rfl;have C:=a 1 _ rfl;have D:=a 2 _ rfl;have E:=a 3 _ rfl;have F:=a 4 _ rfl;have G:=a 5 _ rfl;have I:=a 6 _ rfl;have J:=a 7 _ rfl;have K:=a 8 _ rfl;have i0:prog.cellsOf 3=1:=by kernel_rfl
 have i1:prog.cellsOf 28=3:=by kernel_rfl
 have i2:prog.cellsOf 29=1:=by kernel_rfl
 have u:prog.cellsOf 30=1:=by kernel_rfl
 have i4:prog.cellsOf 31=1:=by kernel_rfl
 have i5:prog.cellsOf 32=1:=by kernel_rfl
 have i6:prog.cellsOf 33=1:=by kernel_rfl
 match x,b with
 | [y0,y1,y2,y3,y4,y5,y6,y7,y8],_ =>
  simp [Value.cells,i0,i1,i2,u,i4,i5,i6] at B C D E F G I J K;obtain ⟨m1,y,_⟩:=DataW.trod_int underlying3 C;obtain ⟨m6,z,_⟩:=DataW.trod_int underlying3 I;simp only [List.cons.injEq,and_true] at y z;subst y z;obtain ⟨hs,Rh⟩:=ZdG (α:=Hm) underlying29 (k:=12) (by kernel_rfl) (by decide) ZgY D;obtain ⟨ls,Rl⟩:=ZdG (α:=Lk) underlying30 (k:=5) (by kernel_rfl) (by decide) Zg9 E;obtain ⟨gs,Rg⟩:=ZdG (α:=Gm) underlying31 (k:=5) (by kernel_rfl) (by decide) ZgW F;obtain ⟨ps,Rp⟩:=ZdG (α:=Pd) underlying32 (k:=3) (by kernel_rfl) (by decide) Ze6 G;obtain ⟨ga,Ra⟩:=ZdG (α:=List ByteArray) underlying33 (k:=1) (by kernel_rfl) (by decide) ZdK J;obtain ⟨tk,Rt⟩:=ZdG (α:=List ByteArray) underlying33 (k:=1) (by kernel_rfl) (by decide) ZdK K;obtain ⟨x,n,_,_,hl,b,a⟩:=DataW.trod_struct underlying28 B;have M:=a 0 _ rfl;have N:=a 1 _ rfl
  have k2:=a 2 _ rfl;have j0:prog.cellsOf 24=1:=by kernel_rfl
  have j1:prog.cellsOf 25=1:=by kernel_rfl
  have j2:prog.cellsOf 26=1:=by kernel_rfl
  match x,b with
  | [z0,z1,z2],_ =>
   simp [j0,j1,j2] at M N k2;obtain ⟨q0,n',_,_,L⟩:=trod_struct1 underlying24 M;have u:prog.cellsOf 22=1:=by kernel_rfl
   simp [u] at L;obtain ⟨ns,X⟩:=Zgq L;obtain ⟨is,Y⟩:=Zjz N;obtain ⟨ds,Z⟩:=Zjy k2;exact ⟨f,g,i,j,m,o,q,r,c,⟨ns,is,ds,m1,hs,ls,gs,ps,m6,ga,tk⟩,rfl,X,Y,Z,Rh,Rl,Rg,Rp,Ra,Rt,Fr.zero _,Fr.zero _,Fr.zero _⟩
end
end Go.Proofs.YtanhoamdlhaaeaaGreatDoor
