/-
  Texts that stood by themselves, laid into one.
-/
import Derived.Test.YtanhoamdlhaaeaaGreatDoorShapeM
import Derived.Test.YtanhoamdlhaaeaaGreatDoorMachRecM
import Derived.Maps.OwnSet
import Derived.DeepKeys4
/-
  What is reached: plain mathematics. From behind: what hangs on a node stands behind it. No condition.
-/
namespace Go.Proofs.YtanhoamdlhaaeaaGreatDoor
open Go.Proofs.Tryz
open Go.RowKit
def setB (bs:List Bool)(i:Int):List Bool:=bs.set i.toNat true
def Zde (n:Nat)(rs:List Int):List Bool:=rs.foldl setB (List.replicate n false)
def Zan (x:Nd)(b:Bool)(bs:List Bool):List Bool :=
 if b && hasB x.k then setB (if b && hasA x.k then setB bs x.a else bs) x.b else (if b && hasA x.k then setB bs x.a else bs)
def down (xs:List Nd):Nat -> List Bool -> List Bool
 | 0,bs=>bs
 | k+1,bs=>down xs k (Zan (xs.getD k ⟨0,0,ByteArray.empty,0,0⟩) (bs.getD k false) bs)
def Zat (xs:List Nd)(rs:List Int):List Bool:=down xs xs.length (Zde xs.length rs)
theorem Zbs (a:List Bool)(i:Int):(setB a i).length=a.length:=by simp [setB]
theorem Zey (rs:List Int)(a:List Bool):(rs.foldl setB a).length=a.length:=by
 induction rs generalizing a with
 | nil=>rfl
 | cons r rs ih=>rw [List.foldl_cons,ih,Zbs]
theorem Zcp (n:Nat)(rs:List Int):(Zde n rs).length=n:=by unfold Zde;rw [Zey];simp
theorem Zbn (x:Nd)(b:Bool)(a:List Bool):(Zan x b a).length=a.length:=by
 unfold Zan;split <;> (split <;> simp [Zbs])
theorem ZfE (b:List Nd)(k:Nat)(a:List Bool):(down b k a).length=a.length:=by
 induction k generalizing a with
 | zero=>rfl
 | succ k ih=>simp only [down];rw [ih,Zbn]
theorem Za2 (a:List Nd)(rs:List Int):(Zat a rs).length=a.length:=by unfold Zat;rw [ZfE,Zcp]
theorem Zez (rs:List Int)(a:List Bool)(k:Nat)(h:k < rs.length):(rs.drop k).foldl setB a=(rs.drop (k+1)).foldl setB (setB a (rs.getD k 0)):=by
 rw [List.drop_eq_getElem_cons h,List.foldl_cons,List.getD_eq_getElem?_getD,List.getElem?_eq_getElem h];rfl
theorem ZdW (b:List Nd)(a:List Bool)(k:Nat)(x:Nd)(h:b[k]? = some x):down b (k+1) a=down b k (Zan x (a.getD k false) a):=by
 simp only [down,List.getD_eq_getElem?_getD,h,Option.getD_some]
end Go.Proofs.YtanhoamdlhaaeaaGreatDoor
namespace Go.Proofs.YtanhoamdlhaaeaaGreatDoor
open Go.Proofs.Tryz
open Go.RowKit Go.Maps
def nrm (fs:List Int)(x:Nd):Nd:=⟨x.k,x.n,x.s,if hasA x.k then fs.getD x.a.toNat 0 else x.a,if hasB x.k then fs.getD x.b.toNat 0 else x.b⟩
open Classical in
noncomputable def idx:List Nd -> Nd -> Nat
 | [],_=>0
 | k :: ks,y=>if k=y then 0 else idx ks y+1
noncomputable def cls:List Nd -> List Nd -> List Int -> List Nd × List Int
 | [],ks,fs=>(ks,fs)
 | x :: xs,ks,fs=>cls xs (ks ++ [nrm fs x]) (fs ++ [((idx ks (nrm fs x):Nat):Int)])
noncomputable def Zlw (xs:List Nd)(k:Nat):List Nd:=(cls (xs.take k) [] []).1
noncomputable def Zle (xs:List Nd)(k:Nat):List Int:=(cls (xs.take k) [] []).2
def nkey (y:Nd):Value:=.agg #[.int .i64 y.k,.int .i64 y.n,.string y.s,.int .i64 y.a,.int .i64 y.b]
def Zlz {H:Type}(D:DataW H)(ks:List Nd):Prop :=
 ∀ y kl,keyOf prog 176 (nkey y)=some kl -> (y ∈ ks -> Maps.has D kl=true/\D.atKey kl (.lit (.int .i64 0))=.lit (.int .i64 (idx ks y)))/\(y ∉ ks -> Maps.has D kl=false)
end Go.Proofs.YtanhoamdlhaaeaaGreatDoor
namespace Go.Proofs.YtanhoamdlhaaeaaGreatDoor
open Go.Proofs.Tryz
open Go.RowKit
def its:List Nd -> List Bool -> Nat -> List (Nat × Nd)
 | [],_,_=>[]
 | x :: r,bs,k=>if bs.getD k false then (k,x) :: its r bs (k+1) else its r bs (k+1)
def mvS (a:Nat)(s:List Nd × List Int)(p:Nat × Nd):List Nd × List Int:=(s.1 ++ [nrm s.2 p.2],s.2.set p.1 ((a+s.1.length:Nat):Int))
def mvF (a n:Nat)(l:List (Nat × Nd)):List Nd × List Int:=l.foldl (mvS a) ([],List.replicate n 0)
def Zbz (a:Nat)(xs:List Nd)(bs:List Bool):List Nd × List Int:=mvF a xs.length (its xs bs 0)
def mvN (a:Nat)(xs:List Nd)(rs:List Int):List Nd:=(Zbz a xs (Zat xs rs)).1
def mvR (a:Nat)(xs:List Nd)(rs qs:List Int):List Int:=qs.map (fun r=>(Zbz a xs (Zat xs rs)).2.getD r.toNat 0)
theorem Zgp (a n:Nat)(l:List (Nat × Nd))(p:Nat × Nd):mvF a n (l ++ [p])=mvS a (mvF a n l) p:=by simp [mvF]
theorem Zji (a:Nat)(l:List (Nat × Nd))(s:List Nd × List Int):(l.foldl (mvS a) s).1.length=s.1.length+l.length/\(l.foldl (mvS a) s).2.length=s.2.length:=by
 induction l generalizing s with
 | nil=>simp
 | cons p l ih =>
  rw [List.foldl_cons];obtain ⟨b,c⟩:=ih (mvS a s p);rw [b,c];simp [mvS];omega
theorem Zc6 (a n:Nat)(l:List (Nat × Nd)):(mvF a n l).1.length=l.length/\(mvF a n l).2.length=n:=by
 obtain ⟨b,c⟩:=Zji a l ([],List.replicate n 0);exact ⟨by unfold mvF;rw [b];simp,by unfold mvF;rw [c];simp⟩
theorem ZkY (b:List Nd)(a:List Bool)(k:Nat)(x:Nd)(h:b[k]? = some x):its (b.drop k) a k=if a.getD k false then (k,x) :: its (b.drop (k+1)) a (k+1) else its (b.drop (k+1)) a (k+1):=by
 obtain ⟨d,c⟩:=List.getElem?_eq_some_iff.1 h;rw [List.drop_eq_getElem_cons d,its,c]
theorem Zkq (a:List Nd)(b:List Bool):its (a.drop a.length) b a.length=[]:=by rw [List.drop_length];rfl
theorem Zib (a:List Nd)(b:List Bool)(k:Nat):(its a b k).length <= a.length:=by
 induction a generalizing k with
 | nil=>simp [its]
 | cons x a ih =>
  have:=ih (k+1);simp only [its];split <;> simp <;> omega
theorem Zij (a:Nat)(b:List Nd)(rs:List Int):(mvN a b rs).length <= b.length:=by
 unfold mvN Zbz;rw [(Zc6 _ _ _).1];exact Zib _ _ _
theorem Zkw (l:List Int)(i:Nat)(z:Int)(x:Nd)(c:hasA x.k=true -> x.a.toNat ≠ i)(d:hasB x.k=true -> x.b.toNat ≠ i):nrm (l.set i z) x=nrm l x:=by
 unfold nrm;simp only [Nd.mk.injEq,true_and];constructor
 ·split
  ·rename_i h;simp only [List.getD_eq_getElem?_getD];rw [List.getElem?_set,if_neg (fun e=>c h e.symm)]
  ·rfl
 ·split
  ·rename_i h;simp only [List.getD_eq_getElem?_getD];rw [List.getElem?_set,if_neg (fun e=>d h e.symm)]
  ·rfl
theorem ZdY (a:List Bool)(i j:Nat)(h:a.getD j false=true):(a.set i true).getD j false=true:=by
 simp only [List.getD_eq_getElem?_getD] at h ⊢;rw [List.getElem?_set];split
 ·split
  ·rfl
  ·rename_i e b;subst e;rw [List.getElem?_eq_none (by omega)] at h;exact h
 ·exact h
theorem ZbH (a:List Bool)(i:Nat)(h:i < a.length):(a.set i true).getD i false=true:=by
 simp only [List.getD_eq_getElem?_getD];rw [List.getElem?_set,if_pos rfl,if_pos h];rfl
theorem Zbx (a:List Bool)(i j:Nat)(h:i ≠ j):(a.set i true).getD j false=a.getD j false:=by
 simp only [List.getD_eq_getElem?_getD];rw [List.getElem?_set,if_neg h]
theorem Zcr (a:List Bool)(i:Int)(j:Nat)(h:a.getD j false=true):(setB a i).getD j false=true:=ZdY a _ j h
theorem ZiJ (x:Nd)(b:Bool)(a:List Bool)(j:Nat)(h:a.getD j false=true):(Zan x b a).getD j false=true:=by
 unfold Zan;split
 ·apply Zcr
  split
  ·exact Zcr a _ j h
  ·exact h
 ·split
  ·exact Zcr a _ j h
  ·exact h
theorem Zet (b:List Nd)(k:Nat)(a:List Bool)(j:Nat)(h:a.getD j false=true):(down b k a).getD j false=true:=by
 induction k generalizing a with
 | zero=>exact h
 | succ k ih=>exact ih _ (ZiJ _ _ a j h)
theorem Zfj (x:Nd)(k:Nat)(b:Bool)(d:List Bool)(j:Nat)(g:Zav x k=true)(l:k <= j):(Zan x b d).getD j false=d.getD j false:=by
 have f:hasA x.k=true -> x.a.toNat ≠ j:=fun h=>by have:=ZbX g h;omega
 have i:hasB x.k=true -> x.b.toNat ≠ j:=fun h=>by have:=ZbY g h;omega
 unfold Zan setB;split
 ·rename_i e
  rw [Bool.and_eq_true] at e;rw [Zbx _ _ _ (i e.2)];split
  ·rename_i c
   rw [Bool.and_eq_true] at c;rw [Zbx _ _ _ (f c.2)]
  ·rfl
 ·split
  ·rename_i c
   rw [Bool.and_eq_true] at c;rw [Zbx _ _ _ (f c.2)]
  ·rfl
theorem ZhR (a:List Nd)(k:Nat)(b:List Bool)(j:Nat)(f:k <= a.length)(d:∀ (i:Nat) (x:Nd),a[i]? = some x -> Zav x i=true)(e:k <= j):(down a k b).getD j false=b.getD j false:=by
 induction k generalizing b with
 | zero=>rfl
 | succ k ih =>
  have c:a[k]? = some a[k]:=List.getElem?_eq_getElem (by omega);rw [ZdW a b k _ c,ih _ (by omega) (by omega),Zfj _ k _ _ _ (d k _ c) (by omega)]
theorem ZgJ (d:List Nd)(k:Nat)(e:List Bool)(s:k <= d.length)(q:e.length=d.length)(o:∀ (i:Nat) (x:Nd),d[i]? = some x -> Zav x i=true)(i:Nat)(hi:i < k)(x:Nd)(p:d[i]? = some x)(f:(down d k e).getD i false=true) :
  (hasA x.k=true -> (down d k e).getD x.a.toNat false=true)/\(hasB x.k=true -> (down d k e).getD x.b.toNat false=true):=by
 induction k generalizing e with
 | zero=>omega
 | succ k ih =>
  have c:d[k]? = some d[k]:=List.getElem?_eq_getElem (by omega);rw [ZdW d e k _ c] at f ⊢
  by_cases j:i < k
  ·exact ih _ (by omega) (by rw [Zbn];exact q) j f
  ·have g:i=k:=by omega
   subst g;rw [p] at c
   injection c with c
   rw [<- c] at f ⊢;have l:=o i x p;rw [ZhR d i _ i (by omega) o (ce _),Zfj x i _ _ i l (ce _)] at f;rw [f];constructor
   ·intro m
    have r:=ZbX l m;apply Zet;unfold Zan;rw [m];split
    ·exact Zcr _ _ _ (ZbH _ _ (by omega))
    ·exact ZbH _ _ (by omega)
   ·intro n
    have r:=ZbY l n;apply Zet;unfold Zan;rw [n];simp only [Bool.and_self,if_true];refine ZbH _ _ ?_;split <;> (try rw [Zbs]) <;> omega
theorem Zf0 (c:List Nd)(rs:List Int)(e:∀ (i:Nat) (x:Nd),c[i]? = some x -> Zav x i=true)(i:Nat)(x:Nd)(d:c[i]? = some x)(f:(Zat c rs).getD i false=true) :
  (hasA x.k=true -> (Zat c rs).getD x.a.toNat false=true)/\(hasB x.k=true -> (Zat c rs).getD x.b.toNat false=true) :=
 ZgJ c c.length _ (ce _) (Zcp _ _) e i (List.getElem?_eq_some_iff.1 d).1 x d f
theorem Zg4 (a c:List Nd)(b:List Bool)(k:Nat):its (a ++ c) b k=its a b k ++ its c b (k+a.length):=by
 induction a generalizing k with
 | nil=>simp [its]
 | cons x l ih =>
  simp only [List.cons_append,its,List.length_cons];rw [ih,show k+1+l.length=k+(l.length+1) by omega];split <;> simp
def Alm (s t:List Nd × List Int):Prop:=s.1=t.1/\∀ j,s.2.getD j 0=t.2.getD j 0
def cyOk (ps xs:List Nd)(v:Int):Bool:=Zap xs && hasI xs v && decide (ps.length+(mvN ps.length xs [v]).length <= 3000)
def cyL (ps xs:List Nd)(v:Int):List Nd:=if Zap ps then (if cyOk ps xs v then ps ++ mvN ps.length xs [v] else ps) else []
def cyI (ps xs:List Nd)(v:Int):Int:=if Zap ps then (if cyOk ps xs v then (Zbz ps.length xs (Zat xs [v])).2.getD v.toNat 0 else -1) else -1
end Go.Proofs.YtanhoamdlhaaeaaGreatDoor
