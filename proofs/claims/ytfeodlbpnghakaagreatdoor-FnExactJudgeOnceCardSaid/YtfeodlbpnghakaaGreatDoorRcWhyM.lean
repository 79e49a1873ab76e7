/-
  Texts that stood by themselves, laid into one.
-/
import Derived.Test.YtfeodlbpnghakaaGreatDoorShapeM
import Derived.Test.YtfeodlbpnghakaaGreatDoorMcTM
import Derived.Maps.OwnSet
import Derived.DeepKeys4
import Derived.Test.YtfeodlbpnghakaaGreatDoorMach2M
/-
  What is reached: plain mathematics. From behind: what hangs on a node stands behind it. No condition.
-/
namespace Go.Proofs.YtfeodlbpnghakaaGreatDoor
open Go.RowKit
def setB (bs:List Bool)(i:Int):List Bool:=bs.set i.toNat true
def Zc6 (n:Nat)(rs:List Int):List Bool:=rs.foldl setB (List.replicate n false)
def Zat (x:Nd)(b:Bool)(bs:List Bool):List Bool :=
 if b && hasB x.k then setB (if b && hasA x.k then setB bs x.a else bs) x.b else (if b && hasA x.k then setB bs x.a else bs)
def down (xs:List Nd):Nat -> List Bool -> List Bool
 | 0,bs=>bs
 | k+1,bs=>down xs k (Zat (xs.getD k ⟨0,0,ByteArray.empty,0,0⟩) (bs.getD k false) bs)
def Zau (xs:List Nd)(rs:List Int):List Bool:=down xs xs.length (Zc6 xs.length rs)
theorem Zbk (a:List Bool)(i:Int):(setB a i).length=a.length:=by simp [setB]
theorem ZfG (rs:List Int)(a:List Bool):(rs.foldl setB a).length=a.length:=by
 induction rs generalizing a with
 | nil=>rfl
 | cons r rs ih=>rw [List.foldl_cons,ih,Zbk]
theorem ZcP (n:Nat)(rs:List Int):(Zc6 n rs).length=n:=by unfold Zc6;rw [ZfG];simp
theorem Zby (x:Nd)(b:Bool)(a:List Bool):(Zat x b a).length=a.length:=by
 unfold Zat
 split <;> (split <;> simp [Zbk])
theorem Zgf (b:List Nd)(k:Nat)(a:List Bool):(down b k a).length=a.length:=by
 induction k generalizing a with
 | zero=>rfl
 | succ k ih=>simp only [down];rw [ih,Zby]
theorem Zbc (a:List Nd)(rs:List Int):(Zau a rs).length=a.length:=by unfold Zau;rw [Zgf,ZcP]
theorem ZfJ (rs:List Int)(a:List Bool)(k:Nat)(h:k < rs.length):(rs.drop k).foldl setB a=(rs.drop (k+1)).foldl setB (setB a (rs.getD k 0)):=by
 rw [List.drop_eq_getElem_cons h,List.foldl_cons,List.getD_eq_getElem?_getD,List.getElem?_eq_getElem h]
 rfl
theorem ZeM (b:List Nd)(a:List Bool)(k:Nat)(x:Nd)(h:b[k]? = some x):down b (k+1) a=down b k (Zat x (a.getD k false) a):=by
 simp only [down,List.getD_eq_getElem?_getD,h,Option.getD_some]
end Go.Proofs.YtfeodlbpnghakaaGreatDoor
namespace Go.Proofs.YtfeodlbpnghakaaGreatDoor
open Go.RowKit Go.Maps
def nrm (fs:List Int)(x:Nd):Nd:=⟨x.k,x.n,x.s,if hasA x.k then fs.getD x.a.toNat 0 else x.a,if hasB x.k then fs.getD x.b.toNat 0 else x.b⟩
open Classical in
noncomputable def idx:List Nd -> Nd -> Nat
 | [],_=>0
 | k :: ks,y=>if k=y then 0 else idx ks y+1
noncomputable def cls:List Nd -> List Nd -> List Int -> List Nd × List Int
 | [],ks,fs=>(ks,fs)
 | x :: xs,ks,fs=>cls xs (ks ++ [nrm fs x]) (fs ++ [((idx ks (nrm fs x):Nat):Int)])
noncomputable def ZmF (xs:List Nd)(k:Nat):List Nd:=(cls (xs.take k) [] []).1
noncomputable def Zmn (xs:List Nd)(k:Nat):List Int:=(cls (xs.take k) [] []).2
def nkey (y:Nd):Value:=.agg #[.int .i64 y.k,.int .i64 y.n,.string y.s,.int .i64 y.a,.int .i64 y.b]
def ZmK {H:Type}(D:DataW H)(ks:List Nd):Prop :=
 ∀ y kl,keyOf Tryz.prog 194 (nkey y)=some kl -> (y ∈ ks -> Maps.has D kl=true/\D.atKey kl (.lit (.int .i64 0))=.lit (.int .i64 (idx ks y)))/\(y ∉ ks -> Maps.has D kl=false)
end Go.Proofs.YtfeodlbpnghakaaGreatDoor
namespace Go.Proofs.YtfeodlbpnghakaaGreatDoor
open Go.RowKit
def its:List Nd -> List Bool -> Nat -> List (Nat × Nd)
 | [],_,_=>[]
 | x :: r,bs,k=>if bs.getD k false then (k,x) :: its r bs (k+1) else its r bs (k+1)
def mvS (a:Nat)(s:List Nd × List Int)(p:Nat × Nd):List Nd × List Int:=(s.1 ++ [nrm s.2 p.2],s.2.set p.1 ((a+s.1.length:Nat):Int))
def mvF (a n:Nat)(l:List (Nat × Nd)):List Nd × List Int:=l.foldl (mvS a) ([],List.replicate n 0)
def ZbB (a:Nat)(xs:List Nd)(bs:List Bool):List Nd × List Int:=mvF a xs.length (its xs bs 0)
def mvN (a:Nat)(xs:List Nd)(rs:List Int):List Nd:=(ZbB a xs (Zau xs rs)).1
def mvR (a:Nat)(xs:List Nd)(rs qs:List Int):List Int:=qs.map (fun r=>(ZbB a xs (Zau xs rs)).2.getD r.toNat 0)
theorem ZgO (a n:Nat)(l:List (Nat × Nd))(p:Nat × Nd):mvF a n (l ++ [p])=mvS a (mvF a n l) p:=by simp [mvF]
theorem Zkg (a:Nat)(l:List (Nat × Nd))(s:List Nd × List Int):(l.foldl (mvS a) s).1.length=s.1.length+l.length/\(l.foldl (mvS a) s).2.length=s.2.length:=by
 induction l generalizing s with
 | nil=>simp
 | cons p l ih =>
  rw [List.foldl_cons]
  obtain ⟨b,c⟩:=ih (mvS a s p)
  rw [b,c]
  simp [mvS]
  omega
theorem Zdm (a n:Nat)(l:List (Nat × Nd)):(mvF a n l).1.length=l.length/\(mvF a n l).2.length=n:=by
 obtain ⟨b,c⟩:=Zkg a l ([],List.replicate n 0)
 exact ⟨by unfold mvF;rw [b];simp,by unfold mvF;rw [c];simp⟩
theorem Zl4 (b:List Nd)(a:List Bool)(k:Nat)(x:Nd)(h:b[k]? = some x):its (b.drop k) a k=if a.getD k false then (k,x) :: its (b.drop (k+1)) a (k+1) else its (b.drop (k+1)) a (k+1):=by
 obtain ⟨c,d⟩:=List.getElem?_eq_some_iff.1 h
 rw [List.drop_eq_getElem_cons c,its,d]
theorem ZlM (a:List Nd)(b:List Bool):its (a.drop a.length) b a.length=[]:=by rw [List.drop_length];rfl
theorem Zjz (a:List Nd)(b:List Bool)(k:Nat):(its a b k).length <= a.length:=by
 induction a generalizing k with
 | nil=>simp [its]
 | cons x a ih =>
  have:=ih (k+1)
  simp only [its]
  split <;> simp <;> omega
theorem Zga (a:Nat)(b:List Nd)(rs:List Int):(mvN a b rs).length <= b.length:=by
 unfold mvN ZbB
 rw [(Zdm _ _ _).1]
 exact Zjz _ _ _
theorem Zlw (l:List Int)(i:Nat)(z:Int)(x:Nd)(d:hasA x.k=true -> x.a.toNat ≠ i)(c:hasB x.k=true -> x.b.toNat ≠ i):nrm (l.set i z) x=nrm l x:=by
 unfold nrm
 simp only [Nd.mk.injEq,true_and]
 constructor
 ·split
  ·rename_i h;simp only [List.getD_eq_getElem?_getD];rw [List.getElem?_set,if_neg (fun e=>d h e.symm)]
  ·rfl
 ·split
  ·rename_i h;simp only [List.getD_eq_getElem?_getD];rw [List.getElem?_set,if_neg (fun e=>c h e.symm)]
  ·rfl
theorem Zey (a:List Bool)(i j:Nat)(h:a.getD j false=true):(a.set i true).getD j false=true:=by
 simp only [List.getD_eq_getElem?_getD] at h ⊢
 rw [List.getElem?_set]
 split
 ·split
  ·rfl
  ·rename_i e b;subst e;rw [List.getElem?_eq_none (by omega)] at h;exact h
 ·exact h
theorem Zbu (a:List Bool)(i:Nat)(h:i < a.length):(a.set i true).getD i false=true:=by
 simp only [List.getD_eq_getElem?_getD]
 rw [List.getElem?_set,if_pos rfl,if_pos h]
 rfl
theorem ZbI (a:List Bool)(i j:Nat)(h:i ≠ j):(a.set i true).getD j false=a.getD j false:=by
 simp only [List.getD_eq_getElem?_getD]
 rw [List.getElem?_set,if_neg h]
theorem Zb7 (a:List Bool)(i:Int)(j:Nat)(h:a.getD j false=true):(setB a i).getD j false=true:=Zey a _ j h
theorem Zjc (rs:List Int)(a:List Bool)(j:Nat)(h:a.getD j false=true):(rs.foldl setB a).getD j false=true:=by
 induction rs generalizing a with
 | nil=>exact h
 | cons r rs ih=>exact ih _ (Zb7 a r j h)
theorem Zkn (rs:List Int)(a:List Bool)(r:Int)(b:r ∈ rs)(h:r.toNat < a.length):(rs.foldl setB a).getD r.toNat false=true:=by
 induction rs generalizing a with
 | nil=>simp at b
 | cons q rs ih =>
  rw [List.foldl_cons]
  rcases List.mem_cons.1 b with rfl | b
  ·exact Zjc rs _ _ (Zbu a _ h)
  ·exact ih (setB a q) b (by rw [Zbk];exact h)
theorem Zjq (x:Nd)(b:Bool)(a:List Bool)(j:Nat)(h:a.getD j false=true):(Zat x b a).getD j false=true:=by
 unfold Zat
 split
 ·apply Zb7
  split
  ·exact Zb7 a _ j h
  ·exact h
 ·split
  ·exact Zb7 a _ j h
  ·exact h
theorem ZdV (b:List Nd)(k:Nat)(a:List Bool)(j:Nat)(h:a.getD j false=true):(down b k a).getD j false=true:=by
 induction k generalizing a with
 | zero=>exact h
 | succ k ih=>exact ih _ (Zjq _ _ a j h)
theorem Zfq (x:Nd)(k:Nat)(b:Bool)(d:List Bool)(j:Nat)(g:Zaz x k=true)(l:k <= j):(Zat x b d).getD j false=d.getD j false:=by
 have f:hasA x.k=true -> x.a.toNat ≠ j:=fun h=>by have:=Zch g h;omega
 have i:hasB x.k=true -> x.b.toNat ≠ j:=fun h=>by have:=Zcc g h;omega
 unfold Zat setB
 split
 ·rename_i e
  rw [Bool.and_eq_true] at e
  rw [ZbI _ _ _ (i e.2)]
  split
  ·rename_i c
   rw [Bool.and_eq_true] at c
   rw [ZbI _ _ _ (f c.2)]
  ·rfl
 ·split
  ·rename_i c
   rw [Bool.and_eq_true] at c
   rw [ZbI _ _ _ (f c.2)]
  ·rfl
theorem Zj2 (a:List Nd)(k:Nat)(b:List Bool)(j:Nat)(e:k <= a.length)(d:∀ (i:Nat) (x:Nd),a[i]? = some x -> Zaz x i=true)(f:k <= j):(down a k b).getD j false=b.getD j false:=by
 induction k generalizing b with
 | zero=>rfl
 | succ k ih =>
  have c:a[k]? = some a[k]:=List.getElem?_eq_getElem (by omega)
  rw [ZeM a b k _ c,ih _ (by omega) (by omega),Zfq _ k _ _ _ (d k _ c) (by omega)]
theorem Zhz (d:List Nd)(k:Nat)(e:List Bool)(r:k <= d.length)(p:e.length=d.length)(m:∀ (i:Nat) (x:Nd),d[i]? = some x -> Zaz x i=true)(i:Nat)(hi:i < k)(x:Nd)(n:d[i]? = some x)(f:(down d k e).getD i false=true) :
  (hasA x.k=true -> (down d k e).getD x.a.toNat false=true)/\(hasB x.k=true -> (down d k e).getD x.b.toNat false=true):=by
 induction k generalizing e with
 | zero=>omega
 | succ k ih =>
  have c:d[k]? = some d[k]:=List.getElem?_eq_getElem (by omega)
  rw [ZeM d e k _ c] at f ⊢
  by_cases h:i < k
  ·exact ih _ (by omega) (by rw [Zby];exact p) h f
  ·have g:i=k:=by omega
   subst g
   rw [n] at c
   injection c with c
   rw [<- c] at f ⊢
   have j:=m i x n
   rw [Zj2 d i _ i (by omega) m (Nat.le_refl _),Zfq x i _ _ i j (Nat.le_refl _)] at f
   rw [f]
   constructor
   ·intro l
    have q:=Zch j l
    apply ZdV
    unfold Zat
    rw [l]
    split
    ·exact Zb7 _ _ _ (Zbu _ _ (by omega))
    ·exact Zbu _ _ (by omega)
   ·intro o
    have q:=Zcc j o
    apply ZdV
    unfold Zat
    rw [o]
    simp only [Bool.and_self,if_true]
    refine Zbu _ _ ?_
    split <;> (try rw [Zbk]) <;> omega
theorem Zd5 (a:List Nd)(rs:List Int)(r:Int)(b:r ∈ rs)(d:0 <= r)(c:r < a.length):(Zau a rs).getD r.toNat false=true:=by
 unfold Zau
 apply ZdV
 unfold Zc6
 exact Zkn rs _ r b (by simp;omega)
theorem ZgB (c:List Nd)(rs:List Int)(f:∀ (i:Nat) (x:Nd),c[i]? = some x -> Zaz x i=true)(i:Nat)(x:Nd)(d:c[i]? = some x)(e:(Zau c rs).getD i false=true) :
  (hasA x.k=true -> (Zau c rs).getD x.a.toNat false=true)/\(hasB x.k=true -> (Zau c rs).getD x.b.toNat false=true) :=
 Zhz c c.length _ (Nat.le_refl _) (ZcP _ _) f i (List.getElem?_eq_some_iff.1 d).1 x d e
theorem ZiP {α:Type}(l:List α)(m i:Nat)(d:α)(h:i < m):(l.take m).getD i d=l.getD i d:=by
 simp only [List.getD_eq_getElem?_getD,List.getElem?_take,if_pos h]
theorem Zih (a c:List Nd)(b:List Bool)(k:Nat):its (a ++ c) b k=its a b k ++ its c b (k+a.length):=by
 induction a generalizing k with
 | nil=>simp [its]
 | cons x l ih =>
  simp only [List.cons_append,its,List.length_cons]
  rw [ih,show k+1+l.length=k+(l.length+1) by omega]
  split <;> simp
def Alm (s t:List Nd × List Int):Prop:=s.1=t.1/\∀ j,s.2.getD j 0=t.2.getD j 0
def cyOk (ps xs:List Nd)(v:Int):Bool:=Zas xs && hasI xs v && decide (ps.length+(mvN ps.length xs [v]).length <= 3000)
def cyL (ps xs:List Nd)(v:Int):List Nd:=if Zas ps then (if cyOk ps xs v then ps ++ mvN ps.length xs [v] else ps) else []
def cyI (ps xs:List Nd)(v:Int):Int:=if Zas ps then (if cyOk ps xs v then (ZbB ps.length xs (Zau xs [v])).2.getD v.toNat 0 else -1) else -1
def Zgu (xs:List Nd)(bs:List Bool):Prop:=∀ (i:Nat) (x:Nd),xs[i]? = some x -> bs.getD i false=true -> (hasA x.k=true -> bs.getD x.a.toNat false=true)/\(hasB x.k=true -> bs.getD x.b.toNat false=true)
structure MvInv (a:Nat)(xs:List Nd)(bs:List Bool)(k:Nat)(s:List Nd × List Int):Prop where
 len:s.2.length=xs.length
 at_:∀ (i:Nat) (x:Nd),i < k -> xs[i]? = some x -> bs.getD i false=true -> ∃ p:Nat,s.2.getD i 0=((a+p:Nat):Int)/\p <= i/\s.1[p]? = some (nrm s.2 x)
 ok:∀ (j:Nat) (y:Nd),s.1[j]? = some y -> Zaz y ((a+j:Nat):Int)=true
 from_:∀ j,j < s.1.length -> ∃ i,i < k/\bs.getD i false=true/\s.2.getD i 0=((a+j:Nat):Int)
 cnt:s.1.length <= k
theorem Zdu (l:List Int)(i j:Nat)(z:Int)(h:i ≠ j):(l.set i z).getD j 0=l.getD j 0:=by
 simp only [List.getD_eq_getElem?_getD];rw [List.getElem?_set,if_neg h]
theorem ZbJ (l:List Int)(i:Nat)(z:Int)(h:i < l.length):(l.set i z).getD i 0=z:=by
 simp only [List.getD_eq_getElem?_getD];rw [List.getElem?_set];simp [h]
theorem ZjL {x:Nd}{i:Int}{d:List Int}{q:Int}(j:Zaz x i=true)(g:hasA x.k=true -> 0 <= d.getD x.a.toNat 0/\d.getD x.a.toNat 0 < q)(h:hasB x.k=true -> 0 <= d.getD x.b.toNat 0/\d.getD x.b.toNat 0 < q):Zaz (nrm d x) q=true:=by
 obtain ⟨f,s,r,p,o⟩:=x
 simp only [Zaz,nrm,Bool.and_eq_true] at j g h ⊢
 obtain ⟨m,⟨n,e⟩,l⟩:=j
 refine ⟨m,⟨n,?_⟩,?_⟩
 ·cases c:hasA f with
  | false=>rw [c] at e;simpa [Zbq] using e
  | true=>simpa [Zbq] using g c
 ·cases c:hasB f with
  | false=>rw [c] at l;simpa [Zbq] using l
  | true=>simpa [Zbq] using h c
theorem Zfv (b:List Nd)(a:List Bool)(k:Nat)(x:Nd)(h:b[k]? = some x):its (b.take (k+1)) a 0=its (b.take k) a 0 ++ (if a.getD k false then [(k,x)] else []):=by
 have c:=(List.getElem?_eq_some_iff.1 h).1
 rw [List.take_add_one,h,Option.toList_some,Zih]
 congr 1
 rw [List.length_take,Nat.min_eq_left (by omega),Nat.zero_add]
 simp [its]
theorem ZlX (a:Nat)(c:List Nd)(l:List Bool)(E:∀ (i:Nat) (x:Nd),c[i]? = some x -> Zaz x i=true)(G:Zgu c l)(k:Nat)(M:k <= c.length):MvInv a c l k (mvF a c.length (its (c.take k) l 0)):=by
 induction k with
 | zero =>
  refine ⟨(Zdm _ _ _).2,fun i x h=>absurd h (by omega),fun j y h=>?_,fun j h=>?_,?_⟩
  ·simp [its,mvF] at h
  ·simp [its,mvF] at h
  ·simp [its,mvF]
 | succ k ih =>
  have I:=ih (by omega)
  obtain ⟨x,m⟩:∃ x,c[k]? = some x:=⟨c[k],by simp⟩
  rw [Zfv c l k x m]
  cases D:l.getD k false with
  | false =>
   simp only [Bool.false_eq_true,if_false,List.append_nil]
   refine ⟨I.len,fun i y hi f n=>?_,I.ok,fun j d=>?_,by have:=I.cnt;omega⟩
   ·rcases Nat.lt_or_ge i k with h | h
    ·exact I.at_ i y h f n
    ·have:i=k:=by omega
     subst this
     rw [D] at n;cases n
   ·obtain ⟨i,u,v,w⟩:=I.from_ j d
    exact ⟨i,by omega,v,w⟩
  | true =>
   simp only [if_true]
   rw [ZgO]
   generalize mvF a c.length (its (c.take k) l 0)=s at I
   have C:=E k x m
   obtain ⟨K,L⟩:=G k x m D
   have r:k < s.2.length:=by rw [I.len];omega
   have F:∀ (i:Nat) (y:Nd),i <= k -> c[i]? = some y -> nrm (s.2.set k ((a+s.1.length:Nat):Int)) y=nrm s.2 y:=fun i y hi f=>by
    have q:=E i y f
    refine Zlw _ _ _ _ (fun h=>?_) (fun h=>?_)
    ·have:=Zch q h;omega
    ·have:=Zcc q h;omega
   have H:hasA x.k=true -> ∃ p:Nat,s.2.getD x.a.toNat 0=((a+p:Nat):Int)/\p < s.1.length:=fun h=>by
    have u:=Zch C h
    obtain ⟨z,A⟩:∃ z,c[x.a.toNat]? = some z:=⟨c[x.a.toNat]'(by omega),by simp⟩
    obtain ⟨p,e,o,g⟩:=I.at_ x.a.toNat z (by omega) A (K h)
    exact ⟨p,e,(List.getElem?_eq_some_iff.1 g).1⟩
   have J:hasB x.k=true -> ∃ p:Nat,s.2.getD x.b.toNat 0=((a+p:Nat):Int)/\p < s.1.length:=fun h=>by
    have u:=Zcc C h
    obtain ⟨z,A⟩:∃ z,c[x.b.toNat]? = some z:=⟨c[x.b.toNat]'(by omega),by simp⟩
    obtain ⟨p,e,o,g⟩:=I.at_ x.b.toNat z (by omega) A (L h)
    exact ⟨p,e,(List.getElem?_eq_some_iff.1 g).1⟩
   refine ⟨by simp [mvS,I.len],fun i y hi f n=>?_,fun j y d=>?_,fun j d=>?_,by have:=I.cnt;simp [mvS];omega⟩
   ·rcases Nat.lt_or_ge i k with h | h
    ·obtain ⟨p,e,o,g⟩:=I.at_ i y h f n
     have t:=(List.getElem?_eq_some_iff.1 g).1
     refine ⟨p,?_,o,?_⟩
     ·simp only [mvS];rw [Zdu _ _ _ _ (by omega)];exact e
     ·simp only [mvS];rw [List.getElem?_append_left t,F i y (by omega) f];exact g
    ·have:i=k:=by omega
     subst this
     rw [m] at f;cases f
     refine ⟨s.1.length,?_,I.cnt,?_⟩
     ·simp only [mvS];rw [ZbJ _ _ _ r]
     ·simp only [mvS];rw [List.getElem?_append_right (Nat.le_refl _),F i x (Nat.le_refl _) m];simp
   ·simp only [mvS] at d
    rcases Nat.lt_or_ge j s.1.length with h | h
    ·rw [List.getElem?_append_left h] at d;exact I.ok j y d
    ·rw [List.getElem?_append_right h] at d
     have B:=(List.getElem?_eq_some_iff.1 d).1
     simp at B
     have:j=s.1.length:=by omega
     subst this
     simp at d
     subst d
     refine ZjL C (fun h=>?_) (fun h=>?_)
     ·obtain ⟨p,e,o⟩:=H h;rw [e];omega
     ·obtain ⟨p,e,o⟩:=J h;rw [e];omega
   ·simp only [mvS,List.length_append,List.length_singleton] at d
    rcases Nat.lt_or_ge j s.1.length with h | h
    ·obtain ⟨i,u,v,w⟩:=I.from_ j h
     exact ⟨i,by omega,v,by simp only [mvS];rw [Zdu _ _ _ _ (by omega)];exact w⟩
    ·have:j=s.1.length:=by omega
     subst this
     exact ⟨k,by omega,D,by simp only [mvS];rw [ZbJ _ _ _ r]⟩
theorem ZjW (a:Nat)(b:List Nd)(c:List Bool)(e:∀ (i:Nat) (x:Nd),b[i]? = some x -> Zaz x i=true)(d:Zgu b c):MvInv a b c b.length (ZbB a b c):=by
 have:=ZlX a b c e d b.length (Nat.le_refl _)
 rw [List.take_length] at this
 exact this
theorem Zb8 (a:List Nd)(rs:List Int)(d:∀ (i:Nat) (x:Nd),a[i]? = some x -> Zaz x i=true):Zgu a (Zau a rs):=fun i x c b=>ZgB a rs d i x c b
theorem Zmw (a:List Nd)(b:List Bool)(p:∀ (i:Nat) (x:Nd),a[i]? = some x -> Zaz x i=true)(m:∀ i,i < a.length -> b.getD i false=true)(k:Nat)(r:k <= a.length) :
  (mvF 0 a.length (its (a.take k) b 0)).1=a.take k/\∀ i,i < k -> (mvF 0 a.length (its (a.take k) b 0)).2.getD i 0=(i:Int):=by
 induction k with
 | zero=>exact ⟨by simp [its,mvF],fun i h=>absurd h (by omega)⟩
 | succ k ih =>
  obtain ⟨f,d⟩:=ih (by omega)
  have c:=(Zdm 0 a.length (its (a.take k) b 0)).2
  obtain ⟨x,g⟩:∃ x,a[k]? = some x:=⟨a[k],by simp⟩
  rw [Zfv a b k x g,m k (by omega),if_pos rfl,ZgO]
  generalize mvF 0 a.length (its (a.take k) b 0)=s at f d c
  have j:=p k x g
  have e:nrm s.2 x=x:=by
   obtain ⟨u,t,o,q,n⟩:=x
   simp only [nrm,Nd.mk.injEq,true_and]
   constructor
   ·split
    ·rename_i h
     have:=Zch j h
     dsimp only at this
     rw [d q.toNat (by omega)];omega
    ·rfl
   ·split
    ·rename_i h
     have:=Zcc j h
     dsimp only at this
     rw [d n.toNat (by omega)];omega
    ·rfl
  have l:s.1.length=k:=by rw [f];simp;omega
  refine ⟨?_,fun i hi=>?_⟩
  ·simp only [mvS]
   rw [e,f,List.take_add_one,g,Option.toList_some]
  ·simp only [mvS]
   rcases Nat.lt_or_ge i k with h | h
   ·rw [Zdu _ _ _ _ (by omega)];exact d i h
   ·have:i=k:=by omega
    subst this
    rw [ZbJ _ _ _ (by omega),l];simp
def At8 (xs:List Nd)(rs:List Int)(a:Nat)(i j:Nat):Prop:=i < xs.length/\(Zau xs rs).getD i false=true/\(ZbB a xs (Zau xs rs)).2.getD i 0=(j:Int)
theorem Zkk (b:List Nd)(rs:List Int)(f:Zas b=true)(g:allI b rs=true)(a:Nat)(r:Int)(h:r ∈ rs):At8 b rs a r.toNat ((ZbB a b (Zau b rs)).2.getD r.toNat 0).toNat/\0 <= r/\0 <= (ZbB a b (Zau b rs)).2.getD r.toNat 0:=by
 have d:hasI b r=true:=by
  unfold allI at g
  exact List.all_eq_true.1 g r h
 simp only [hasI,Bool.and_eq_true,decide_eq_true_eq] at d
 have e:=Zd5 b rs r h d.1 d.2
 have I:=ZjW a b (Zau b rs) (fun _ _ h=>Za6 f h) (Zb8 b rs (fun _ _ h=>Za6 f h))
 obtain ⟨z,i⟩:∃ z,b[r.toNat]? = some z:=⟨b[r.toNat]'(by omega),by simp⟩
 obtain ⟨j,c,_,_⟩:=I.at_ r.toNat z (by omega) i e
 exact ⟨⟨by omega,e,by rw [c];omega⟩,d.1,by rw [c];omega⟩
theorem ZfB (a:List Nd)(rs:List Int)(d:Zas a=true)(b:allI a rs=true)(c:∀ i,i < a.length -> (Zau a rs).getD i false=true):mvN 0 a rs=a/\mvR 0 a rs rs=rs:=by
 have I:=Zmw a (Zau a rs) (fun _ _ h=>Za6 d h) c a.length (Nat.le_refl _)
 rw [List.take_length] at I
 refine ⟨I.1,?_⟩
 unfold mvR
 have:∀ r ∈ rs,(ZbB 0 a (Zau a rs)).2.getD r.toNat 0=r:=fun r h=>by
  have e:hasI a r=true:=by
   unfold allI at b
   exact List.all_eq_true.1 b r h
  simp only [hasI,Bool.and_eq_true,decide_eq_true_eq] at e
  have:=I.2 r.toNat (by omega)
  unfold ZbB
  rw [this]
  omega
 rw [List.map_congr_left (g:=id) (fun r h=>this r h)]
 exact List.map_id rs
end Go.Proofs.YtfeodlbpnghakaaGreatDoor
