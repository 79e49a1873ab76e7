/-
  Texts that stood by themselves, laid into one.
-/
import Derived.Test.YtanhoamdlhaaeaaGreatDoorCyMathM
import Derived.Test.YtanhoamdlhaaeaaGreatDoorMkListM
import Derived.Test.YtanhoamdlhaaeaaGreatDoorR8cM
import Derived.Test.YtanhoamdlhaaeaaGreatDoorShapeM
import Derived.Test.YtanhoamdlhaaeaaGreatDoorMachRecM
/-
  What is moved is right, and where it was told: plain mathematics. Nothing of the program; no condition.
-/
set_option maxRecDepth 100000
set_option maxHeartbeats 1600000
namespace Go.Proofs.YtanhoamdlhaaeaaGreatDoor
open Go.Proofs.Tryz
open Go.RowKit
def Zfy (xs:List Nd)(bs:List Bool):Prop:=∀ (i:Nat) (x:Nd),xs[i]? = some x -> bs.getD i false=true -> (hasA x.k=true -> bs.getD x.a.toNat false=true)/\(hasB x.k=true -> bs.getD x.b.toNat false=true)
structure MvInv (a:Nat)(xs:List Nd)(bs:List Bool)(k:Nat)(s:List Nd × List Int):Prop where
 len:s.2.length=xs.length
 at_:∀ (i:Nat) (x:Nd),i < k -> xs[i]? = some x -> bs.getD i false=true -> ∃ p:Nat,s.2.getD i 0=((a+p:Nat):Int)/\p <= i/\s.1[p]? = some (nrm s.2 x)
 ok:∀ (j:Nat) (y:Nd),s.1[j]? = some y -> Zav y ((a+j:Nat):Int)=true
 from_:∀ j,j < s.1.length -> ∃ i,i < k/\bs.getD i false=true/\s.2.getD i 0=((a+j:Nat):Int)
 cnt:s.1.length <= k
theorem ZcW (l:List Int)(i j:Nat)(z:Int)(h:i ≠ j):(l.set i z).getD j 0=l.getD j 0:=by
 simp only [List.getD_eq_getElem?_getD];rw [List.getElem?_set,if_neg h]
theorem Zbw (l:List Int)(i:Nat)(z:Int)(h:i < l.length):(l.set i z).getD i 0=z:=by
 simp only [List.getD_eq_getElem?_getD];rw [List.getElem?_set];simp [h]
theorem Zio {x:Nd}{i:Int}{c:List Int}{q:Int}(l:Zav x i=true)(g:hasA x.k=true -> 0 <= c.getD x.a.toNat 0/\c.getD x.a.toNat 0 < q)(j:hasB x.k=true -> 0 <= c.getD x.b.toNat 0/\c.getD x.b.toNat 0 < q):Zav (nrm c x) q=true:=by
 obtain ⟨m,s,t,p,r⟩:=x;simp only [Zav,nrm,Bool.and_eq_true] at l g j ⊢;obtain ⟨n,⟨o,e⟩,f⟩:=l;refine ⟨n,⟨o,?_⟩,?_⟩
 ·cases d:hasA m with
  | false=>rw [d] at e;simpa [Zbf] using e
  | true=>simpa [Zbf] using g d
 ·cases d:hasB m with
  | false=>rw [d] at f;simpa [Zbf] using f
  | true=>simpa [Zbf] using j d
theorem ZeO (b:List Nd)(a:List Bool)(k:Nat)(x:Nd)(h:b[k]? = some x):its (b.take (k+1)) a 0=its (b.take k) a 0 ++ (if a.getD k false then [(k,x)] else []):=by
 have c:=(List.getElem?_eq_some_iff.1 h).1;rw [List.take_add_one,h,Option.toList_some,Zg4]
 congr 1
 rw [List.length_take,Nat.min_eq_left (by omega),Nat.zero_add];simp [its]
theorem Zk5 (a:Nat)(c:List Nd)(g:List Bool)(E:∀ (i:Nat) (x:Nd),c[i]? = some x -> Zav x i=true)(J:Zfy c g)(k:Nat)(M:k <= c.length):MvInv a c g k (mvF a c.length (its (c.take k) g 0)):=by
 induction k with
 | zero =>
  refine ⟨(Zc6 _ _ _).2,fun i x h=>absurd h (by omega),fun j y h=>?_,fun j h=>?_,?_⟩
  ·simp [its,mvF] at h
  ·simp [its,mvF] at h
  ·simp [its,mvF]
 | succ k ih =>
  have I:=ih (by omega);obtain ⟨x,q⟩:∃ x,c[k]? = some x:=⟨c[k],by simp⟩;rw [ZeO c g k x q];cases w:g.getD k false with
  | false =>
   simp only [Bool.false_eq_true,if_false,List.append_nil];refine ⟨I.len,fun i y hi f o=>?_,I.ok,fun j d=>?_,by have:=I.cnt;omega⟩
   ·rcases Nat.lt_or_ge i k with h | h
    ·exact I.at_ i y h f o
    ·have:i=k:=by omega
     subst this;rw [w] at o;cases o
   ·obtain ⟨i,t,u,v⟩:=I.from_ j d
    exact ⟨i,by omega,u,v⟩
  | true =>
   simp only [if_true];rw [Zgp];generalize mvF a c.length (its (c.take k) g 0)=s at I;have B:=E k x q;obtain ⟨G,H⟩:=J k x q w;have n:k < s.2.length:=by rw [I.len];omega
   have F:∀ (i:Nat) (y:Nd),i <= k -> c[i]? = some y -> nrm (s.2.set k ((a+s.1.length:Nat):Int)) y=nrm s.2 y:=fun i y hi f=>by
    have r:=E i y f;refine Zkw _ _ _ _ (fun h=>?_) (fun h=>?_)
    ·have:=ZbX r h;omega
    ·have:=ZbY r h;omega
   have K:hasA x.k=true -> ∃ p:Nat,s.2.getD x.a.toNat 0=((a+p:Nat):Int)/\p < s.1.length:=fun h=>by
    have t:=ZbX B h;obtain ⟨z,D⟩:∃ z,c[x.a.toNat]? = some z:=⟨c[x.a.toNat]'(by omega),by simp⟩;obtain ⟨p,e,m,l⟩:=I.at_ x.a.toNat z (by omega) D (G h);exact ⟨p,e,(List.getElem?_eq_some_iff.1 l).1⟩
   have L:hasB x.k=true -> ∃ p:Nat,s.2.getD x.b.toNat 0=((a+p:Nat):Int)/\p < s.1.length:=fun h=>by
    have t:=ZbY B h;obtain ⟨z,D⟩:∃ z,c[x.b.toNat]? = some z:=⟨c[x.b.toNat]'(by omega),by simp⟩;obtain ⟨p,e,m,l⟩:=I.at_ x.b.toNat z (by omega) D (H h);exact ⟨p,e,(List.getElem?_eq_some_iff.1 l).1⟩
   refine ⟨by simp [mvS,I.len],fun i y hi f o=>?_,fun j y d=>?_,fun j d=>?_,by have:=I.cnt;simp [mvS];omega⟩
   ·rcases Nat.lt_or_ge i k with h | h
    ·obtain ⟨p,e,m,l⟩:=I.at_ i y h f o
     have C:=(List.getElem?_eq_some_iff.1 l).1;refine ⟨p,?_,m,?_⟩
     ·simp only [mvS];rw [ZcW _ _ _ _ (by omega)];exact e
     ·simp only [mvS];rw [List.getElem?_append_left C,F i y (by omega) f];exact l
    ·have:i=k:=by omega
     subst this;rw [q] at f;cases f;refine ⟨s.1.length,?_,I.cnt,?_⟩
     ·simp only [mvS];rw [Zbw _ _ _ n]
     ·simp only [mvS];rw [List.getElem?_append_right (ce _),F i x (ce _) q];simp
   ·simp only [mvS] at d
    rcases Nat.lt_or_ge j s.1.length with h | h
    ·rw [List.getElem?_append_left h] at d;exact I.ok j y d
    ·rw [List.getElem?_append_right h] at d
     have A:=(List.getElem?_eq_some_iff.1 d).1;simp at A;have:j=s.1.length:=by omega
     subst this;simp at d;subst d;refine Zio B (fun h=>?_) (fun h=>?_)
     ·obtain ⟨p,e,m⟩:=K h;rw [e];omega
     ·obtain ⟨p,e,m⟩:=L h;rw [e];omega
   ·simp only [mvS,List.length_append,List.length_singleton] at d
    rcases Nat.lt_or_ge j s.1.length with h | h
    ·obtain ⟨i,t,u,v⟩:=I.from_ j h
     exact ⟨i,by omega,u,by simp only [mvS];rw [ZcW _ _ _ _ (by omega)];exact v⟩
    ·have:j=s.1.length:=by omega
     subst this;exact ⟨k,by omega,w,by simp only [mvS];rw [Zbw _ _ _ n]⟩
theorem Zk4 (a:Nat)(b:List Nd)(c:List Bool)(e:∀ (i:Nat) (x:Nd),b[i]? = some x -> Zav x i=true)(d:Zfy b c):MvInv a b c b.length (Zbz a b c):=by
 have:=Zk5 a b c e d b.length (ce _);rw [List.take_length] at this;exact this
theorem Zfa (a:List Nd)(rs:List Int)(b:∀ (i:Nat) (x:Nd),a[i]? = some x -> Zav x i=true):Zfy a (Zat a rs):=fun i x d c=>Zf0 a rs b i x d c
theorem Zlk (a:List Nd)(b:List Bool)(n:∀ (i:Nat) (x:Nd),a[i]? = some x -> Zav x i=true)(l:∀ i,i < a.length -> b.getD i false=true)(k:Nat)(r:k <= a.length) :
  (mvF 0 a.length (its (a.take k) b 0)).1=a.take k/\∀ i,i < k -> (mvF 0 a.length (its (a.take k) b 0)).2.getD i 0=(i:Int):=by
 induction k with
 | zero=>exact ⟨by simp [its,mvF],fun i h=>absurd h (by omega)⟩
 | succ k ih =>
  obtain ⟨f,d⟩:=ih (by omega);have c:=(Zc6 0 a.length (its (a.take k) b 0)).2;obtain ⟨x,g⟩:∃ x,a[k]? = some x:=⟨a[k],by simp⟩;rw [ZeO a b k x g,l k (by omega),if_pos rfl,Zgp];generalize mvF 0 a.length (its (a.take k) b 0)=s at f d c;have j:=n k x g
  have e:nrm s.2 x=x:=by
   obtain ⟨t,u,q,o,p⟩:=x;simp only [nrm,Nd.mk.injEq,true_and];constructor
   ·split
    ·rename_i h
     have:=ZbX j h
     dsimp only at this
     rw [d o.toNat (by omega)];omega
    ·rfl
   ·split
    ·rename_i h
     have:=ZbY j h
     dsimp only at this
     rw [d p.toNat (by omega)];omega
    ·rfl
  have m:s.1.length=k:=by rw [f];simp;omega
  refine ⟨?_,fun i hi=>?_⟩
  ·simp only [mvS]
   rw [e,f,List.take_add_one,g,Option.toList_some]
  ·simp only [mvS]
   rcases Nat.lt_or_ge i k with h | h
   ·rw [ZcW _ _ _ _ (by omega)];exact d i h
   ·have:i=k:=by omega
    subst this;rw [Zbw _ _ _ (by omega),m];simp
def At8 (xs:List Nd)(rs:List Int)(a:Nat)(i j:Nat):Prop:=i < xs.length/\(Zat xs rs).getD i false=true/\(Zbz a xs (Zat xs rs)).2.getD i 0=(j:Int)
theorem Zid (a:List Nd)(rs:List Int)(e:Zap a=true)(b:allI a rs=true)(c:∀ i,i < a.length -> (Zat a rs).getD i false=true):mvN 0 a rs=a/\mvR 0 a rs rs=rs:=by
 have I:=Zlk a (Zat a rs) (fun _ _ h=>ZbL e h) c a.length (ce _);rw [List.take_length] at I;refine ⟨I.1,?_⟩;unfold mvR
 have:∀ r ∈ rs,(Zbz 0 a (Zat a rs)).2.getD r.toNat 0=r:=fun r h=>by
  have d:hasI a r=true:=by
   unfold allI at b;exact List.all_eq_true.1 b r h
  simp only [hasI,Bool.and_eq_true,decide_eq_true_eq] at d;have:=I.2 r.toNat (by omega);unfold Zbz;rw [this];omega
 rw [List.map_congr_left (g:=id) (fun r h=>this r h)];exact List.map_id rs
theorem Zjr (a:List Nd)(b:List Bool)(k:Nat)(h:(its a b k).length=a.length):∀ i,i < a.length -> b.getD (k+i) false=true:=by
 induction a generalizing k with
 | nil=>intro i hi;simp at hi
 | cons x a ih =>
  have d:=Zib a b (k+1);simp only [its] at h;split at h
  ·rename_i c
   simp only [List.length_cons,Nat.add_right_cancel_iff] at h;intro i hi;cases i with
   | zero=>exact c
   | succ i=>rw [show k+(i+1)=k+1+i by omega];exact ih (k+1) h i (by simpa using hi)
  ·simp at h;omega
def allR (xs:List Nd)(rs:List Int):Bool:=!(Zat xs rs).contains false
theorem Zja (a:List Nd)(rs:List Int):allR a rs=true <-> ∀ i,i < a.length -> (Zat a rs).getD i false=true:=by
 unfold allR;rw [Bool.not_eq_true',<- Bool.not_eq_true,List.contains_iff_mem];constructor
 ·intro h i hi
  rw [List.getD_eq_getElem?_getD,List.getElem?_eq_getElem (by rw [Za2];exact hi)];cases b:(Zat a rs)[i]'(by rw [Za2];exact hi) with
  | true=>rfl
  | false=>exact absurd (by rw [<- b];exact List.getElem_mem _) h
 ·intro h d
  obtain ⟨i,hi,c⟩:=List.getElem_of_mem d;have:=h i (by rw [<- Za2 a rs];exact hi);rw [List.getD_eq_getElem?_getD,List.getElem?_eq_getElem hi,c] at this;cases this
theorem Zeo (a:List Nd)(rs:List Int)(b:Zap a=true)(d:allI a rs=true):Zcu (mvN 0 a rs)=Zcu a <-> allR a rs=true:=by
 rw [Zja];have f:=Za1 b;constructor
 ·intro h
  have g:=Zij 0 a rs;have e:((mvN 0 a rs).length:Int)=(a.length:Int):=ZhT (by omega) (by omega) (by omega) (by omega) h
  have c:(its a (Zat a rs) 0).length=a.length:=by
   have:(mvN 0 a rs).length=(its a (Zat a rs) 0).length:=(Zc6 _ _ _).1;omega
  intro i hi;have:=Zjr a (Zat a rs) 0 c i hi
  rwa [Nat.zero_add] at this
 ·intro h
  rw [(Zid a rs b d h).1]
def vrR (zs:List Int):Option (List Nd) :=
 (rdP zs 0).bind fun q=>if q.2=zs.length/\q.1 ≠ []/\allR q.1 [(q.1.length:Int) - 1]=true then some q.1 else none
theorem ZfQ {a:List Nd}(h:a ≠ []):allI a [(a.length:Int) - 1]=true:=by
 have:=List.length_pos_iff.2 h;simp [allI,hasI];omega
theorem Zj5 (e:List Int)(l:∀ z ∈ e,0 <= z/\z <= 255)(c:List Nd):vrR e=some c <-> (sOk e 0 true=true/\(sP e 0 true).1=c)/\c ≠ []/\Zcu (mvN 0 c [(c.length:Int) - 1])=e:=by
 rw [Zlb];unfold vrR;rw [Option.bind_eq_some_iff];constructor
 ·rintro ⟨⟨o,b⟩,d,a⟩
  split at a
  ·rename_i n
   cases a;obtain ⟨j,f,k⟩:=n;simp only at j f k;subst j;obtain ⟨g,i⟩:=Zgx l d;exact ⟨d,f,((Zeo o _ g (ZfQ f)).2 k).trans i⟩
  ·cases a
 ·rintro ⟨d,a,m⟩
  obtain ⟨g,i⟩:=Zgx l d;refine ⟨_,d,?_⟩;rw [if_pos ⟨rfl,a,(Zeo c _ g (ZfQ a)).1 (m.trans i.symm)⟩]
def vb (zs:List Bool):List Value:=zs.map .bool
theorem Zcc (a:List Bool)(i:Nat)(h:i < a.length):(vb a)[i]? = some (.bool (a.getD i false)):=by simp [vb,List.getD,h]
theorem ZdP (a:List Bool)(i:Nat)(z:Bool):(vb a).set i (.bool z)=vb (a.set i z):=by simp [vb,List.map_set]
def BRow (w:World)(v:Value)(zs:List Bool):Prop :=
 ∃ ao cap,v=.slice ao zs.length cap/\(zs.length <= cap/\(ao=none -> cap=0))/\zs.length <= 9223372036854775807/\(zs ≠ [] -> ∃ g o,ao=some ⟨g,o,none⟩/\g < w.heap.size/\∀ i,i < zs.length -> w.cell? ⟨g,o+i,none⟩=some (.bool (zs.getD i false)))
theorem BRow.of_own {w:World}{b:Nat}{v:Value}{a:List Bool}(h:w.ownsRow b 4 1 v a.length (vb a))(n:a.length <= 9223372036854775807):BRow w v a:=by
 rcases h.2 with ⟨rfl,j⟩ | ⟨g,c,f,rfl,o,m,d,k,l,e⟩
 ·have:a=[]:=List.eq_nil_of_length_eq_zero j
  subst this;exact ⟨none,0,rfl,by simp,by simp,fun h=>absurd rfl h⟩
 ·refine ⟨_,c,rfl,⟨d,fun h=>by cases h⟩,n,fun _=>⟨g,0,rfl,(bl m),fun i hi=>?_⟩⟩
  have:=h.cellAt i (by omega);rw [Nat.zero_add,this,Zcc a i hi]
def mk3 (k:Int):Bool:=k % 3 == 0
def Zlh (k:Int)(zs:List Bool)(i:Nat):List Bool:=(List.range i).map (fun (j:Nat)=>mk3 (k+(j:Int))) ++ zs.drop i
theorem Zl0:(prog.info? 4).map (fun i=>(i.zero,i.size,i.bytes))=some (some (.bool false),1,1):=by kernel_rfl
theorem Zi3 (n:Nat):vb (List.replicate n false)=(madeCells #[Value.bool false] n).toList:=by rw [toList_madeCells_one];simp [vb]
theorem Zfz {a:List Nd}{rs:List Int}(h:allI a rs=true)(k:Nat)(b:k < rs.length):0 <= rs.getD k 0/\rs.getD k 0 < a.length:=by
 unfold allI at h;rw [List.all_eq_true] at h;have:=h (rs.getD k 0) (by rw [List.getD_eq_getElem?_getD,List.getElem?_eq_getElem b];exact List.getElem_mem _)
 simpa [hasI] using this
theorem ZgZ (U:Option Addr)(s:Nat)(vl:Value)(d:List Nd)(rs:List Int)(w:World)(R:NRow w (.slice U d.length s) d)(L:IRow w vl rs)(hp:Zap d=true)(hr:allI d rs=true) :
  Calls prog 180 #[.agg #[.slice U d.length s],vl] w fun e w'=>∃ v',e=.returned v'/\w'.ownsRow w.heap.size 4 1 v' d.length (vb (Zat d rs))/\Below w.heap.size w w':=by
 have ar:=Za1 hp;have P:Below w.heap.size w (w.alloc (Obj.cells #[.slice U d.length s] 41)):=(cf _ _).alloc (ce _) _;have aa:=cg w (Obj.cells #[.slice U d.length s] 41);have R0:=R.below P;have L0:=L.below P;clear R L;have ak:(w.alloc (Obj.cells #[.slice U d.length s] 41)).heap.size=w.heap.size+1:=by simp
 obtain ⟨i0,hi,am,an,ap⟩:=info_parts Zl0;have r:i0.bytes * d.length <= 281474976710656:=by rw [ap];omega
 have K:d.length <= maxLen:=by unfold maxLen;omega
 go_enter func180,ntmps180
 go_wp2_with (at_make;refine wpList_make_full _ rfl _ _ 233 rfl (w.heap.size+1) 4 i0 (.bool false) 1 underlying233 hi am an _ _ _ _ d.length rfl rfl rfl rfl r K (by simp) ?_)
 intro w1 c C;generalize w.alloc (Obj.cells #[.slice U d.length s] 41)=w0 at *;have X:Below (w.heap.size+1) w0 w1:=(cf _ _).grown C (by omega) (by intro k hk;cases hk);clear C r K;obtain ⟨al,cl,rfl,ay,_,D⟩:=L0;go_wp2_with fail
 go_loopw [18] (fun i wr=>∃ (k:Nat) (f:List Bool),k <= rs.length/\i=.int .i64 k/\f.length=d.length/\Hid ((rs.drop k).foldl setB f=Zde d.length rs)/\wr.ownsRow (w.heap.size+1) 4 1 (.slice (some ⟨w.heap.size+1,0,none⟩) d.length d.length) d.length (vb f)/\Below (w.heap.size+1) w0 wr) (fun i _=>rs.length - (intOf i).toNat)
 case atStart=>exact ⟨0,List.replicate d.length false,by omega,rfl,by simp,rfl,by rw [Zi3];exact c,X⟩
 case round =>
  clear c X;obtain ⟨k,f,hk,rfl,m,HF,c,y⟩:=hrel
  by_cases E:k < rs.length
  ·obtain ⟨g,o,rfl,hg,D⟩:=D (by intro e;subst e;simp at E)
   have ez:=(y.cell (p:=⟨g,o+k,none⟩) (by simp;omega)).trans (D k E);obtain ⟨h1,h2⟩:=Zfz hr k E;have V:Hid ((rs.drop (k+1)).foldl setB (setB f (rs.getD k 0))=Zde d.length rs):=(Zez rs f k E).symm.trans HF.out;generalize rs.getD k 0=z at ez h1 h2 V;obtain ⟨nz,rfl⟩:=cu h1;have ec:=c.cellAt nz (by omega);rw [Zcc _ _ (by omega)] at ec;have ef:=c.frozenAt nz;have hs:=(c.stored nz (.bool true)).1;rw [ZdP] at hs;clear D hr HF;go_wp2
   go_roundw
   case rel=>exact ⟨k+1,setB f nz,by omega,by go_num,by rw [Zbs,m],V,hs,y.setCell (p:=⟨w.heap.size+1,nz,none⟩) (ce _) _⟩
   case measure=>simp [intOf];omega
  ·have ai:k=rs.length:=by omega
   subst ai
   have O:Hid (down d d.length f=Zat d rs):=by
    have:=HF.out;rw [List.drop_length,List.foldl_nil] at this;rw [this];rfl
   clear HF hk E D hr;have ep:=(y.cell (p:=⟨w.heap.size,0,none⟩) (by simp)).trans ((cd w0 _ 0 _ _ _ aa).trans rfl);have Z:w.heap.size+1 < wr.heap.size:=(c.lt _ rfl).2;go_wp2_with fail
   go_loopw [8] (fun i wq=>∃ (k:Nat) (cs:List Bool),k <= d.length/\i=.int .i64 ((k:Int) - 1)/\cs.length=d.length/\Hid (down d k cs=Zat d rs)/\wq.ownsRow (w.heap.size+1) 4 1 (.slice (some ⟨w.heap.size+1,0,none⟩) d.length d.length) d.length (vb cs)/\Below (w.heap.size+1) w0 wq) (fun i _=>(intOf i+1).toNat)
   case atStart=>exact ⟨d.length,f,ce _,rfl,m,O,c,y⟩
   case round =>
    clear c y O m ep Z;clear f;obtain ⟨k,f,hk,rfl,m,O,c,y⟩:=hrel;have ep:=(y.cell (p:=⟨w.heap.size,0,none⟩) (by simp)).trans ((cd w0 _ 0 _ _ _ aa).trans rfl);have Z:w.heap.size+1 < wr.heap.size:=(c.lt _ rfl).2;rcases Nat.eq_zero_or_pos k with rfl | av
    ·have HQ:Hid (f=Zat d rs):=O
     clear O;go_wp2;go_ret;rw [HQ.out] at c;exact ⟨_,rfl,Zae c (by omega),P.trans (y.mono (by omega))⟩
    ·obtain ⟨j,rfl⟩:∃ j,k=j+1:=⟨k - 1,by omega⟩
     rw [show ((j+1:Nat):Int) - 1=(j:Int) by omega];obtain ⟨ax,aq,e',_,_,hz,n⟩:=R0;simp only [Value.slice.injEq,true_and] at e';obtain ⟨rfl,rfl⟩:=e';obtain ⟨g,o,rfl,hg,n⟩:=n (by intro e;subst e;simp at hk);obtain ⟨x,hx⟩:∃ x,d[j]? = some x:=⟨d[j],by simp⟩;obtain ⟨c0,c1,c2,c3,c4⟩:=(n j x hx).below y (by rw [ak] at hg;exact hg);have H:=ZbL hp hx;have ah:=Zhd H;have G:Hid (down d j (Zan x (f.getD j false) f)=Zat d rs):=(ZdW d f j x hx).symm.trans O.out;have W:hasA x.k=true -> 0 <= x.a/\x.a < (j:Int):=fun h=>ZbX H h
     have B:hasB x.k=true -> 0 <= x.b/\x.b < (j:Int):=fun h=>ZbY H h
     clear n hx O H;go_wp2_with fail;refine (Zdi x.k _).mono ?_;rintro e w4 ⟨rfl,S⟩;rw [Zfh,if_pos ah];have q:=(S.block wr.heap.size (by simp)).trans (cg _ _);have d3:=cd w4 _ 3 _ _ _ q;have d4:=cd w4 _ 4 _ _ _ q;simp only [List.getElem?_toArray,List.getElem?_cons_succ,List.getElem?_cons_zero] at d3 d4;have A:Below wr.heap.size wr w4:=((cf wr.heap.size wr).alloc (ce _) _).trans (S.mono (by simp));have l:=Zac c A;have Q:=y.trans (A.mono (by omega));have aA:wr.heap.size < w4.heap.size:=(bl q);have aw:w.heap.size+1 < w4.heap.size:=by omega
     have au:w.heap.size+1 ≠ wr.heap.size:=by omega
     have e0:=l.cellAt j (by omega);rw [Zcc _ _ (by omega)] at e0;clear c0 c1 c2 c3 c4 q S A c y ep;have I:∀ z,(Zan x z f).length=d.length:=fun z=>(Zbn x z f).trans m
     cases hb:f.getD j false with
     | false =>
      rw [hb] at e0 G;have aj:=I false;have N:Hid (Zan x false f=f):=by unfold Hid Zan;simp
      clear W B I hb;go_wp2;refine ⟨⟨j,f,by omega,by go_num,m,by rw [N.out] at G;exact G,l.alloc _,Q.alloc (by omega) _⟩,by simp [intOf]⟩
     | true =>
      rw [hb] at e0 G;have aj:=I true;clear I hb;cases t:hasA x.k with
      | false =>
       have u:hasB x.k=false:=by
        unfold hasA at t;unfold hasB;simp only [decide_eq_false_iff_not] at t ⊢;omega
       have N:Hid (Zan x true f=f):=by unfold Hid Zan;rw [t,u];simp
       rw [u];clear W B;go_wp2;refine ⟨⟨j,f,by omega,by go_num,m,by rw [N.out] at G;exact G,l.alloc _,Q.alloc (by omega) _⟩,by simp [intOf]⟩
      | true =>
       obtain ⟨ad,ae⟩:=W t;obtain ⟨J,T⟩:=cu ad;rw [T] at d3 ae;have e1:=l.cellAt J (by omega);rw [Zcc _ _ (by omega)] at e1;have f1:=l.frozenAt J;have F:=(l.stored J (.bool true)).1;rw [ZdP] at F;have az:J ≠ j:=by omega
       have Y:=Q.setCell (p:=⟨w.heap.size+1,J,none⟩) (ce _) (.bool true);cases u:hasB x.k with
       | false =>
        have N:Hid (Zan x true f=f.set J true):=by unfold Hid Zan setB;rw [t,u,T];simp
        clear W B;go_wp2;refine ⟨⟨j,f.set J true,by omega,by go_num,by simpa using m,by rw [N.out] at G;exact G,F.alloc _,Y.alloc (by simp;omega) _⟩,by simp [intOf]⟩
       | true =>
        obtain ⟨af,ag⟩:=B u;obtain ⟨v,M⟩:=cu af;rw [M] at d4 ag;have N:Hid (Zan x true f=(f.set J true).set v true):=by unfold Hid Zan setB;rw [t,u,T,M];simp
        have e2:=F.cellAt v (by omega);rw [Zcc _ _ (by simp;omega)] at e2;have f2:=F.frozenAt v;have ab:=(F.stored v (.bool true)).1;rw [ZdP] at ab;have ac:=Y.setCell (p:=⟨w.heap.size+1,v,none⟩) (ce _) (.bool true);clear W B;go_wp2;refine ⟨⟨j,(f.set J true).set v true,by omega,by go_num,by simpa using m,by rw [N.out] at G;exact G,ab.alloc _,ac.alloc (by simp;omega) _⟩,by simp [intOf]⟩
def Zly (xs:List Nd)(rs:List Int):List Bool:=if Zap xs && allI xs rs then Zat xs rs else []
end Go.Proofs.YtanhoamdlhaaeaaGreatDoor
