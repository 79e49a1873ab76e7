/-
  Texts that stood by themselves, laid into one.
-/
import Derived.Test.YtkpfangkfknhoaaGreatDoorShapeM
import Derived.Test.YtkpfangkfknhoaaGreatDoorMcTM
import Derived.Maps.OwnSet
import Derived.DeepKeys4
import Derived.Test.YtkpfangkfknhoaaGreatDoorMach2M
/-
  What is reached: plain mathematics. From behind: what hangs on a node stands behind it. No condition.
-/
namespace Go.Proofs.YtkpfangkfknhoaaGreatDoor
open Go.Proofs.Tryz
open Go.RowKit
def setB (bs:List Bool)(i:Int):List Bool:=bs.set i.toNat true
def Zdf (n:Nat)(rs:List Int):List Bool:=rs.foldl setB (List.replicate n false)
def Zav (x:Nd)(b:Bool)(bs:List Bool):List Bool :=
 if b && hasB x.k then setB (if b && hasA x.k then setB bs x.a else bs) x.b else (if b && hasA x.k then setB bs x.a else bs)
def down (xs:List Nd):Nat -> List Bool -> List Bool
 | 0,bs=>bs
 | k+1,bs=>down xs k (Zav (xs.getD k ⟨0,0,ByteArray.empty,0,0⟩) (bs.getD k false) bs)
def Zaw (xs:List Nd)(rs:List Int):List Bool:=down xs xs.length (Zdf xs.length rs)
theorem Zbk (a:List Bool)(i:Int):(setB a i).length=a.length:=by simp [setB]
theorem Zf1 (rs:List Int)(a:List Bool):(rs.foldl setB a).length=a.length:=by
 induction rs generalizing a with
 | nil=>rfl
 | cons r rs ih=>rw [List.foldl_cons,ih,Zbk]
theorem Zc3 (n:Nat)(rs:List Int):(Zdf n rs).length=n:=by unfold Zdf;rw [Zf1];simp
theorem Zbz (x:Nd)(b:Bool)(a:List Bool):(Zav x b a).length=a.length:=by
 unfold Zav;split <;> (split <;> simp [Zbk])
theorem ZgY (b:List Nd)(k:Nat)(a:List Bool):(down b k a).length=a.length:=by
 induction k generalizing a with
 | zero=>rfl
 | succ k ih=>simp only [down];rw [ih,Zbz]
theorem Zbh (a:List Nd)(rs:List Int):(Zaw a rs).length=a.length:=by unfold Zaw;rw [ZgY,Zc3]
theorem Zgl (rs:List Int)(a:List Bool)(k:Nat)(h:k < rs.length):(rs.drop k).foldl setB a=(rs.drop (k+1)).foldl setB (setB a (rs.getD k 0)):=by
 rw [List.drop_eq_getElem_cons h,List.foldl_cons,List.getD_eq_getElem?_getD,List.getElem?_eq_getElem h];rfl
theorem ZeS (a:List Nd)(b:List Bool)(k:Nat)(x:Nd)(h:a[k]? = some x):down a (k+1) b=down a k (Zav x (b.getD k false) b):=by
 simp only [down,List.getD_eq_getElem?_getD,h,Option.getD_some]
end Go.Proofs.YtkpfangkfknhoaaGreatDoor
namespace Go.Proofs.YtkpfangkfknhoaaGreatDoor
open Go.Proofs.Tryz
open Go.RowKit Go.Maps
theorem ZeO:laidOutB prog=true:=by kernel_rfl
theorem Tryz.keyed:Keyed prog 194:=Keyed.of_law (deep_law_laid ZeO (m:=8) (by decide) (of_decide_eq_true (by kernel_rfl)) (by kernel_rfl) (by kernel_rfl))
def nrm (fs:List Int)(x:Nd):Nd:=⟨x.k,x.n,x.s,if hasA x.k then fs.getD x.a.toNat 0 else x.a,if hasB x.k then fs.getD x.b.toNat 0 else x.b⟩
open Classical in
noncomputable def idx:List Nd -> Nd -> Nat
 | [],_=>0
 | k :: ks,y=>if k=y then 0 else idx ks y+1
noncomputable def cls:List Nd -> List Nd -> List Int -> List Nd × List Int
 | [],ks,fs=>(ks,fs)
 | x :: xs,ks,fs=>cls xs (ks ++ [nrm fs x]) (fs ++ [((idx ks (nrm fs x):Nat):Int)])
noncomputable def Znj (xs:List Nd)(k:Nat):List Nd:=(cls (xs.take k) [] []).1
noncomputable def ZmZ (xs:List Nd)(k:Nat):List Int:=(cls (xs.take k) [] []).2
theorem ZiZ (a:List Nd)(z y:Nd)(h:y ∈ a):idx (a ++ [z]) y=idx a y:=by
 induction a with
 | nil=>simp at h
 | cons k a ih =>
  simp only [List.cons_append,idx];split
  ·rfl
  ·rename_i b
   rw [ih (by simp only [List.mem_cons] at h;rcases h with rfl | h;exact absurd rfl b;exact h)]
theorem ZlC (a:List Nd)(y:Nd)(h:y ∉ a):idx (a ++ [y]) y=a.length:=by
 induction a with
 | nil=>simp [idx]
 | cons k a ih =>
  simp only [List.mem_cons,not_or] at h;have b:¬ k=y:=fun e=>h.1 e.symm
  simp only [List.cons_append,idx,if_neg b,ih h.2,List.length_cons]
def nkey (y:Nd):Value:=.agg #[.int .i64 y.k,.int .i64 y.n,.string y.s,.int .i64 y.a,.int .i64 y.b]
theorem ZkG {x y:Nd}(h:nkey x=nkey y):x=y:=by
 obtain ⟨k,n,s,a,b⟩:=x;obtain ⟨c,d,f,g,e⟩:=y;simp [nkey] at h;obtain ⟨rfl,rfl,rfl,rfl,rfl⟩:=h;rfl
def Holds {H:Type}(D:DataW H)(ks:List Nd):Prop :=
 ∀ y kl,keyOf prog 194 (nkey y)=some kl -> (y ∈ ks -> Maps.has D kl=true/\D.atKey kl (.lit (.int .i64 0))=.lit (.int .i64 (idx ks y)))/\(y ∉ ks -> Maps.has D kl=false)
theorem Holds.put {H:Type}{D:DataW H}{c:List Nd}(h:Holds D c)(l:IsMap D)(z:Nd)(o:z ∉ c)(j:Lit)(i:keyOf prog 194 (nkey z)=some j) :
  Holds (D.put j (.lit (.int .i64 c.length))) (c ++ [z]):=by
 intro y f g
 by_cases e:y=z
 ·subst e
  rw [i] at g;cases g;refine ⟨fun _=>⟨has_put_same l (Tryz.keyed.key i) _,?_⟩,fun a=>absurd (by simp) a⟩;rw [atKey_put_same l (Tryz.keyed.key i),ZlC c y o]
 ·have b:f ≠ j:=by
   intro k;subst k;exact e (ZkG (Tryz.keyed.inj g i))
  obtain ⟨n,m⟩:=h y f g;refine ⟨fun a=>?_,fun a=>?_⟩
  ·have d:y ∈ c:=by
    simp only [List.mem_append,List.mem_singleton] at a;rcases a with a | a
    ·exact a
    ·exact absurd a e
   rw [has_put_other b,atKey_put_other b,ZiZ c z y d];exact n d
  ·rw [has_put_other b]
   exact m (fun k=>a (by simp [k]))
end Go.Proofs.YtkpfangkfknhoaaGreatDoor
namespace Go.Proofs.YtkpfangkfknhoaaGreatDoor
open Go.Proofs.Tryz
open Go.RowKit
def its:List Nd -> List Bool -> Nat -> List (Nat × Nd)
 | [],_,_=>[]
 | x :: r,bs,k=>if bs.getD k false then (k,x) :: its r bs (k+1) else its r bs (k+1)
def mvS (a:Nat)(s:List Nd × List Int)(p:Nat × Nd):List Nd × List Int:=(s.1 ++ [nrm s.2 p.2],s.2.set p.1 ((a+s.1.length:Nat):Int))
def mvF (a n:Nat)(l:List (Nat × Nd)):List Nd × List Int:=l.foldl (mvS a) ([],List.replicate n 0)
def ZbC (a:Nat)(xs:List Nd)(bs:List Bool):List Nd × List Int:=mvF a xs.length (its xs bs 0)
def mvN (a:Nat)(xs:List Nd)(rs:List Int):List Nd:=(ZbC a xs (Zaw xs rs)).1
def mvR (a:Nat)(xs:List Nd)(rs qs:List Int):List Int:=qs.map (fun r=>(ZbC a xs (Zaw xs rs)).2.getD r.toNat 0)
theorem ZhE (a n:Nat)(l:List (Nat × Nd))(p:Nat × Nd):mvF a n (l ++ [p])=mvS a (mvF a n l) p:=by simp [mvF]
theorem Zls (a:Nat)(l:List (Nat × Nd))(s:List Nd × List Int):(l.foldl (mvS a) s).1.length=s.1.length+l.length/\(l.foldl (mvS a) s).2.length=s.2.length:=by
 induction l generalizing s with
 | nil=>simp
 | cons p l ih =>
  rw [List.foldl_cons];obtain ⟨c,b⟩:=ih (mvS a s p);rw [c,b];simp [mvS];omega
theorem ZdH (a n:Nat)(l:List (Nat × Nd)):(mvF a n l).1.length=l.length/\(mvF a n l).2.length=n:=by
 obtain ⟨c,b⟩:=Zls a l ([],List.replicate n 0);exact ⟨by unfold mvF;rw [c];simp,by unfold mvF;rw [b];simp⟩
theorem ZmS (a:List Nd)(b:List Bool)(k:Nat)(x:Nd)(h:a[k]? = some x):its (a.drop k) b k=if b.getD k false then (k,x) :: its (a.drop (k+1)) b (k+1) else its (a.drop (k+1)) b (k+1):=by
 obtain ⟨c,d⟩:=List.getElem?_eq_some_iff.1 h;rw [List.drop_eq_getElem_cons c,its,d]
theorem Zme (a:List Nd)(b:List Bool):its (a.drop a.length) b a.length=[]:=by rw [List.drop_length];rfl
theorem Zi7 (a:List Nd)(b:List Bool)(k:Nat):(its a b k).length <= a.length:=by
 induction a generalizing k with
 | nil=>simp [its]
 | cons x a ih =>
  have:=ih (k+1);simp only [its];split <;> simp <;> omega
theorem Zg6 (a:Nat)(b:List Nd)(rs:List Int):(mvN a b rs).length <= b.length:=by
 unfold mvN ZbC;rw [(ZdH _ _ _).1];exact Zi7 _ _ _
theorem Zmr (l:List Int)(i:Nat)(z:Int)(x:Nd)(d:hasA x.k=true -> x.a.toNat ≠ i)(c:hasB x.k=true -> x.b.toNat ≠ i):nrm (l.set i z) x=nrm l x:=by
 unfold nrm;simp only [Nd.mk.injEq,true_and];constructor
 ·split
  ·rename_i h;simp only [List.getD_eq_getElem?_getD];rw [List.getElem?_set,if_neg (fun e=>d h e.symm)]
  ·rfl
 ·split
  ·rename_i h;simp only [List.getD_eq_getElem?_getD];rw [List.getElem?_set,if_neg (fun e=>c h e.symm)]
  ·rfl
theorem ZeY (a:List Bool)(i j:Nat)(h:a.getD j false=true):(a.set i true).getD j false=true:=by
 simp only [List.getD_eq_getElem?_getD] at h ⊢;rw [List.getElem?_set];split
 ·split
  ·rfl
  ·rename_i e b;subst e;rw [List.getElem?_eq_none (by omega)] at h;exact h
 ·exact h
theorem Zbv (a:List Bool)(i:Nat)(h:i < a.length):(a.set i true).getD i false=true:=by
 simp only [List.getD_eq_getElem?_getD];rw [List.getElem?_set,if_pos rfl,if_pos h];rfl
theorem ZbL (a:List Bool)(i j:Nat)(h:i ≠ j):(a.set i true).getD j false=a.getD j false:=by
 simp only [List.getD_eq_getElem?_getD];rw [List.getElem?_set,if_neg h]
theorem Zb7 (a:List Bool)(i:Int)(j:Nat)(h:a.getD j false=true):(setB a i).getD j false=true:=ZeY a _ j h
theorem Zjl (rs:List Int)(a:List Bool)(j:Nat)(h:a.getD j false=true):(rs.foldl setB a).getD j false=true:=by
 induction rs generalizing a with
 | nil=>exact h
 | cons r rs ih=>exact ih _ (Zb7 a r j h)
theorem Zly (rs:List Int)(a:List Bool)(r:Int)(b:r ∈ rs)(h:r.toNat < a.length):(rs.foldl setB a).getD r.toNat false=true:=by
 induction rs generalizing a with
 | nil=>simp at b
 | cons q rs ih =>
  rw [List.foldl_cons];rcases List.mem_cons.1 b with rfl | b
  ·exact Zjl rs _ _ (Zbv a _ h)
  ·exact ih (setB a q) b (by rw [Zbk];exact h)
theorem ZjB (x:Nd)(b:Bool)(a:List Bool)(j:Nat)(h:a.getD j false=true):(Zav x b a).getD j false=true:=by
 unfold Zav;split
 ·apply Zb7
  split
  ·exact Zb7 a _ j h
  ·exact h
 ·split
  ·exact Zb7 a _ j h
  ·exact h
theorem Zd1 (b:List Nd)(k:Nat)(a:List Bool)(j:Nat)(h:a.getD j false=true):(down b k a).getD j false=true:=by
 induction k generalizing a with
 | zero=>exact h
 | succ k ih=>exact ih _ (ZjB _ _ a j h)
theorem Zgg (x:Nd)(k:Nat)(b:Bool)(g:List Bool)(j:Nat)(f:ZaA x k=true)(l:k <= j):(Zav x b g).getD j false=g.getD j false:=by
 have d:hasA x.k=true -> x.a.toNat ≠ j:=fun h=>by have:=Zcb f h;omega
 have i:hasB x.k=true -> x.b.toNat ≠ j:=fun h=>by have:=Zcf f h;omega
 unfold Zav setB;split
 ·rename_i e
  rw [Bool.and_eq_true] at e;rw [ZbL _ _ _ (i e.2)];split
  ·rename_i c
   rw [Bool.and_eq_true] at c;rw [ZbL _ _ _ (d c.2)]
  ·rfl
 ·split
  ·rename_i c
   rw [Bool.and_eq_true] at c;rw [ZbL _ _ _ (d c.2)]
  ·rfl
theorem ZjC (a:List Nd)(k:Nat)(b:List Bool)(j:Nat)(f:k <= a.length)(d:∀ (i:Nat) (x:Nd),a[i]? = some x -> ZaA x i=true)(e:k <= j):(down a k b).getD j false=b.getD j false:=by
 induction k generalizing b with
 | zero=>rfl
 | succ k ih =>
  have c:a[k]? = some a[k]:=List.getElem?_eq_getElem (by omega);rw [ZeS a b k _ c,ih _ (by omega) (by omega),Zgg _ k _ _ _ (d k _ c) (by omega)]
theorem Zh5 (c:List Nd)(k:Nat)(e:List Bool)(r:k <= c.length)(q:e.length=c.length)(n:∀ (i:Nat) (x:Nd),c[i]? = some x -> ZaA x i=true)(i:Nat)(hi:i < k)(x:Nd)(l:c[i]? = some x)(f:(down c k e).getD i false=true) :
  (hasA x.k=true -> (down c k e).getD x.a.toNat false=true)/\(hasB x.k=true -> (down c k e).getD x.b.toNat false=true):=by
 induction k generalizing e with
 | zero=>omega
 | succ k ih =>
  have d:c[k]? = some c[k]:=List.getElem?_eq_getElem (by omega);rw [ZeS c e k _ d] at f ⊢
  by_cases j:i < k
  ·exact ih _ (by omega) (by rw [Zbz];exact q) j f
  ·have g:i=k:=by omega
   subst g;rw [l] at d
   injection d with d
   rw [<- d] at f ⊢;have h:=n i x l;rw [ZjC c i _ i (by omega) n (ce _),Zgg x i _ _ i h (ce _)] at f;rw [f];constructor
   ·intro o
    have p:=Zcb h o;apply Zd1;unfold Zav;rw [o];split
    ·exact Zb7 _ _ _ (Zbv _ _ (by omega))
    ·exact Zbv _ _ (by omega)
   ·intro m
    have p:=Zcf h m;apply Zd1;unfold Zav;rw [m];simp only [Bool.and_self,if_true];refine Zbv _ _ ?_;split <;> (try rw [Zbk]) <;> omega
theorem Zej (a:List Nd)(rs:List Int)(r:Int)(b:r ∈ rs)(c:0 <= r)(d:r < a.length):(Zaw a rs).getD r.toNat false=true:=by
 unfold Zaw;apply Zd1;unfold Zdf;exact Zly rs _ r b (by simp;omega)
theorem Zgt (c:List Nd)(rs:List Int)(e:∀ (i:Nat) (x:Nd),c[i]? = some x -> ZaA x i=true)(i:Nat)(x:Nd)(d:c[i]? = some x)(f:(Zaw c rs).getD i false=true) :
  (hasA x.k=true -> (Zaw c rs).getD x.a.toNat false=true)/\(hasB x.k=true -> (Zaw c rs).getD x.b.toNat false=true) :=
 Zh5 c c.length _ (ce _) (Zc3 _ _) e i (List.getElem?_eq_some_iff.1 d).1 x d f
theorem Zkm {α:Type}(l:List α)(m i:Nat)(d:α)(h:i < m):(l.take m).getD i d=l.getD i d:=by
 simp only [List.getD_eq_getElem?_getD,List.getElem?_take,if_pos h]
theorem ZiW (a c:List Nd)(b:List Bool)(k:Nat):its (a ++ c) b k=its a b k ++ its c b (k+a.length):=by
 induction a generalizing k with
 | nil=>simp [its]
 | cons x l ih =>
  simp only [List.cons_append,its,List.length_cons];rw [ih,show k+1+l.length=k+(l.length+1) by omega];split <;> simp
def Alm (s t:List Nd × List Int):Prop:=s.1=t.1/\∀ j,s.2.getD j 0=t.2.getD j 0
def cyOk (ps xs:List Nd)(v:Int):Bool:=Zau xs && hasI xs v && decide (ps.length+(mvN ps.length xs [v]).length <= 3000)
def cyL (ps xs:List Nd)(v:Int):List Nd:=if Zau ps then (if cyOk ps xs v then ps ++ mvN ps.length xs [v] else ps) else []
def cyI (ps xs:List Nd)(v:Int):Int:=if Zau ps then (if cyOk ps xs v then (ZbC ps.length xs (Zaw xs [v])).2.getD v.toNat 0 else -1) else -1
def Zgw (xs:List Nd)(bs:List Bool):Prop:=∀ (i:Nat) (x:Nd),xs[i]? = some x -> bs.getD i false=true -> (hasA x.k=true -> bs.getD x.a.toNat false=true)/\(hasB x.k=true -> bs.getD x.b.toNat false=true)
structure MvInv (a:Nat)(xs:List Nd)(bs:List Bool)(k:Nat)(s:List Nd × List Int):Prop where
 len:s.2.length=xs.length
 at_:∀ (i:Nat) (x:Nd),i < k -> xs[i]? = some x -> bs.getD i false=true -> ∃ p:Nat,s.2.getD i 0=((a+p:Nat):Int)/\p <= i/\s.1[p]? = some (nrm s.2 x)
 ok:∀ (j:Nat) (y:Nd),s.1[j]? = some y -> ZaA y ((a+j:Nat):Int)=true
 from_:∀ j,j < s.1.length -> ∃ i,i < k/\bs.getD i false=true/\s.2.getD i 0=((a+j:Nat):Int)
 cnt:s.1.length <= k
theorem Zdw (l:List Int)(i j:Nat)(z:Int)(h:i ≠ j):(l.set i z).getD j 0=l.getD j 0:=by
 simp only [List.getD_eq_getElem?_getD];rw [List.getElem?_set,if_neg h]
theorem ZbM (l:List Int)(i:Nat)(z:Int)(h:i < l.length):(l.set i z).getD i 0=z:=by
 simp only [List.getD_eq_getElem?_getD];rw [List.getElem?_set];simp [h]
theorem ZjW {x:Nd}{i:Int}{c:List Int}{q:Int}(h:ZaA x i=true)(j:hasA x.k=true -> 0 <= c.getD x.a.toNat 0/\c.getD x.a.toNat 0 < q)(e:hasB x.k=true -> 0 <= c.getD x.b.toNat 0/\c.getD x.b.toNat 0 < q):ZaA (nrm c x) q=true:=by
 obtain ⟨f,s,r,o,p⟩:=x;simp only [ZaA,nrm,Bool.and_eq_true] at h j e ⊢;obtain ⟨n,⟨m,l⟩,g⟩:=h;refine ⟨n,⟨m,?_⟩,?_⟩
 ·cases d:hasA f with
  | false=>rw [d] at l;simpa [Zbt] using l
  | true=>simpa [Zbt] using j d
 ·cases d:hasB f with
  | false=>rw [d] at g;simpa [Zbt] using g
  | true=>simpa [Zbt] using e d
theorem ZfN (a:List Nd)(b:List Bool)(k:Nat)(x:Nd)(h:a[k]? = some x):its (a.take (k+1)) b 0=its (a.take k) b 0 ++ (if b.getD k false then [(k,x)] else []):=by
 have c:=(List.getElem?_eq_some_iff.1 h).1;rw [List.take_add_one,h,Option.toList_some,ZiW]
 congr 1
 rw [List.length_take,Nat.min_eq_left (by omega),Nat.zero_add];simp [its]
theorem ZmB (a:Nat)(c:List Nd)(l:List Bool)(E:∀ (i:Nat) (x:Nd),c[i]? = some x -> ZaA x i=true)(K:Zgw c l)(k:Nat)(M:k <= c.length):MvInv a c l k (mvF a c.length (its (c.take k) l 0)):=by
 induction k with
 | zero =>
  refine ⟨(ZdH _ _ _).2,fun i x h=>absurd h (by omega),fun j y h=>?_,fun j h=>?_,?_⟩
  ·simp [its,mvF] at h
  ·simp [its,mvF] at h
  ·simp [its,mvF]
 | succ k ih =>
  have I:=ih (by omega);obtain ⟨x,r⟩:∃ x,c[k]? = some x:=⟨c[k],by simp⟩;rw [ZfN c l k x r];cases D:l.getD k false with
  | false =>
   simp only [Bool.false_eq_true,if_false,List.append_nil];refine ⟨I.len,fun i y hi f m=>?_,I.ok,fun j d=>?_,by have:=I.cnt;omega⟩
   ·rcases Nat.lt_or_ge i k with h | h
    ·exact I.at_ i y h f m
    ·have:i=k:=by omega
     subst this;rw [D] at m;cases m
   ·obtain ⟨i,B,t,w⟩:=I.from_ j d
    exact ⟨i,by omega,t,w⟩
  | true =>
   simp only [if_true];rw [ZhE];generalize mvF a c.length (its (c.take k) l 0)=s at I;have C:=E k x r;obtain ⟨J,G⟩:=K k x r D;have q:k < s.2.length:=by rw [I.len];omega
   have F:∀ (i:Nat) (y:Nd),i <= k -> c[i]? = some y -> nrm (s.2.set k ((a+s.1.length:Nat):Int)) y=nrm s.2 y:=fun i y hi f=>by
    have o:=E i y f;refine Zmr _ _ _ _ (fun h=>?_) (fun h=>?_)
    ·have:=Zcb o h;omega
    ·have:=Zcf o h;omega
   have L:hasA x.k=true -> ∃ p:Nat,s.2.getD x.a.toNat 0=((a+p:Nat):Int)/\p < s.1.length:=fun h=>by
    have B:=Zcb C h;obtain ⟨z,u⟩:∃ z,c[x.a.toNat]? = some z:=⟨c[x.a.toNat]'(by omega),by simp⟩;obtain ⟨p,e,n,g⟩:=I.at_ x.a.toNat z (by omega) u (J h);exact ⟨p,e,(List.getElem?_eq_some_iff.1 g).1⟩
   have H:hasB x.k=true -> ∃ p:Nat,s.2.getD x.b.toNat 0=((a+p:Nat):Int)/\p < s.1.length:=fun h=>by
    have B:=Zcf C h;obtain ⟨z,u⟩:∃ z,c[x.b.toNat]? = some z:=⟨c[x.b.toNat]'(by omega),by simp⟩;obtain ⟨p,e,n,g⟩:=I.at_ x.b.toNat z (by omega) u (G h);exact ⟨p,e,(List.getElem?_eq_some_iff.1 g).1⟩
   refine ⟨by simp [mvS,I.len],fun i y hi f m=>?_,fun j y d=>?_,fun j d=>?_,by have:=I.cnt;simp [mvS];omega⟩
   ·rcases Nat.lt_or_ge i k with h | h
    ·obtain ⟨p,e,n,g⟩:=I.at_ i y h f m
     have A:=(List.getElem?_eq_some_iff.1 g).1;refine ⟨p,?_,n,?_⟩
     ·simp only [mvS];rw [Zdw _ _ _ _ (by omega)];exact e
     ·simp only [mvS];rw [List.getElem?_append_left A,F i y (by omega) f];exact g
    ·have:i=k:=by omega
     subst this;rw [r] at f;cases f;refine ⟨s.1.length,?_,I.cnt,?_⟩
     ·simp only [mvS];rw [ZbM _ _ _ q]
     ·simp only [mvS];rw [List.getElem?_append_right (ce _),F i x (ce _) r];simp
   ·simp only [mvS] at d
    rcases Nat.lt_or_ge j s.1.length with h | h
    ·rw [List.getElem?_append_left h] at d;exact I.ok j y d
    ·rw [List.getElem?_append_right h] at d
     have v:=(List.getElem?_eq_some_iff.1 d).1;simp at v;have:j=s.1.length:=by omega
     subst this;simp at d;subst d;refine ZjW C (fun h=>?_) (fun h=>?_)
     ·obtain ⟨p,e,n⟩:=L h;rw [e];omega
     ·obtain ⟨p,e,n⟩:=H h;rw [e];omega
   ·simp only [mvS,List.length_append,List.length_singleton] at d
    rcases Nat.lt_or_ge j s.1.length with h | h
    ·obtain ⟨i,B,t,w⟩:=I.from_ j h
     exact ⟨i,by omega,t,by simp only [mvS];rw [Zdw _ _ _ _ (by omega)];exact w⟩
    ·have:j=s.1.length:=by omega
     subst this;exact ⟨k,by omega,D,by simp only [mvS];rw [ZbM _ _ _ q]⟩
theorem ZjY (a:Nat)(b:List Nd)(c:List Bool)(e:∀ (i:Nat) (x:Nd),b[i]? = some x -> ZaA x i=true)(d:Zgw b c):MvInv a b c b.length (ZbC a b c):=by
 have:=ZmB a b c e d b.length (ce _);rw [List.take_length] at this;exact this
theorem Zci (a:List Nd)(rs:List Int)(c:∀ (i:Nat) (x:Nd),a[i]? = some x -> ZaA x i=true):Zgw a (Zaw a rs):=fun i x b d=>Zgt a rs c i x b d
theorem Zm5 (a:List Nd)(b:List Bool)(p:∀ (i:Nat) (x:Nd),a[i]? = some x -> ZaA x i=true)(m:∀ i,i < a.length -> b.getD i false=true)(k:Nat)(r:k <= a.length) :
  (mvF 0 a.length (its (a.take k) b 0)).1=a.take k/\∀ i,i < k -> (mvF 0 a.length (its (a.take k) b 0)).2.getD i 0=(i:Int):=by
 induction k with
 | zero=>exact ⟨by simp [its,mvF],fun i h=>absurd h (by omega)⟩
 | succ k ih =>
  obtain ⟨g,d⟩:=ih (by omega);have c:=(ZdH 0 a.length (its (a.take k) b 0)).2;obtain ⟨x,f⟩:∃ x,a[k]? = some x:=⟨a[k],by simp⟩;rw [ZfN a b k x f,m k (by omega),if_pos rfl,ZhE];generalize mvF 0 a.length (its (a.take k) b 0)=s at g d c;have j:=p k x f
  have e:nrm s.2 x=x:=by
   obtain ⟨t,u,q,l,o⟩:=x;simp only [nrm,Nd.mk.injEq,true_and];constructor
   ·split
    ·rename_i h
     have:=Zcb j h
     dsimp only at this
     rw [d l.toNat (by omega)];omega
    ·rfl
   ·split
    ·rename_i h
     have:=Zcf j h
     dsimp only at this
     rw [d o.toNat (by omega)];omega
    ·rfl
  have n:s.1.length=k:=by rw [g];simp;omega
  refine ⟨?_,fun i hi=>?_⟩
  ·simp only [mvS]
   rw [e,g,List.take_add_one,f,Option.toList_some]
  ·simp only [mvS]
   rcases Nat.lt_or_ge i k with h | h
   ·rw [Zdw _ _ _ _ (by omega)];exact d i h
   ·have:i=k:=by omega
    subst this;rw [ZbM _ _ _ (by omega),n];simp
def At8 (xs:List Nd)(rs:List Int)(a:Nat)(i j:Nat):Prop:=i < xs.length/\(Zaw xs rs).getD i false=true/\(ZbC a xs (Zaw xs rs)).2.getD i 0=(j:Int)
theorem ZkN (b:List Nd)(rs:List Int)(g:Zau b=true)(f:allI b rs=true)(a:Nat)(r:Int)(h:r ∈ rs):At8 b rs a r.toNat ((ZbC a b (Zaw b rs)).2.getD r.toNat 0).toNat/\0 <= r/\0 <= (ZbC a b (Zaw b rs)).2.getD r.toNat 0:=by
 have d:hasI b r=true:=by
  unfold allI at f;exact List.all_eq_true.1 f r h
 simp only [hasI,Bool.and_eq_true,decide_eq_true_eq] at d;have e:=Zej b rs r h d.1 d.2;have I:=ZjY a b (Zaw b rs) (fun _ _ h=>Zbe g h) (Zci b rs (fun _ _ h=>Zbe g h));obtain ⟨z,i⟩:∃ z,b[r.toNat]? = some z:=⟨b[r.toNat]'(by omega),by simp⟩;obtain ⟨j,c,_,_⟩:=I.at_ r.toNat z (by omega) i e;exact ⟨⟨by omega,e,by rw [c];omega⟩,d.1,by rw [c];omega⟩
theorem Zf2 (a:List Nd)(rs:List Int)(e:Zau a=true)(b:allI a rs=true)(c:∀ i,i < a.length -> (Zaw a rs).getD i false=true):mvN 0 a rs=a/\mvR 0 a rs rs=rs:=by
 have I:=Zm5 a (Zaw a rs) (fun _ _ h=>Zbe e h) c a.length (ce _);rw [List.take_length] at I;refine ⟨I.1,?_⟩;unfold mvR
 have:∀ r ∈ rs,(ZbC 0 a (Zaw a rs)).2.getD r.toNat 0=r:=fun r h=>by
  have d:hasI a r=true:=by
   unfold allI at b;exact List.all_eq_true.1 b r h
  simp only [hasI,Bool.and_eq_true,decide_eq_true_eq] at d;have:=I.2 r.toNat (by omega);unfold ZbC;rw [this];omega
 rw [List.map_congr_left (g:=id) (fun r h=>this r h)];exact List.map_id rs
end Go.Proofs.YtkpfangkfknhoaaGreatDoor
