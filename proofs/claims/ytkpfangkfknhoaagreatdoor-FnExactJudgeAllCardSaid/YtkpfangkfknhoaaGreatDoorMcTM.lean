/-
  Texts that stood by themselves, laid into one.
-/
import Derived.Test.YtkpfangkfknhoaaGreatDoorShapeM
import Derived.Test.YtkpfangkfknhoaaGreatDoorNumberM
/-
  Contracts of impl's nodeFits and PoolOk: when a node and a pool are right.
-/
set_option maxHeartbeats 1600000
namespace Go.Proofs.YtkpfangkfknhoaaGreatDoor
open Go.Proofs.Tryz
open Go.RowKit
theorem Zdg (x:Nd)(n:Int)(w:World)(A:x.s.size <= maxLen) :
  Calls prog 152 #[.agg #[.int .i64 x.k,.int .i64 x.n,.string x.s,.int .i64 x.a,.int .i64 x.b],.int .i64 n] w fun e u=>e=.returned (.bool (ZaA x n))/\Below w.heap.size w u:=by
 go_enter func152,ntmps152
 go_wp2_with fail;have l:Below w.heap.size w (w.alloc (Obj.cells #[.int .i64 x.k,.int .i64 x.n,.string x.s,.int .i64 x.a,.int .i64 x.b] 194)):=(cj _ _).alloc (ce _) _;refine (ZdY x.k _).mono ?_;rintro e o ⟨rfl,i⟩;have f:=(i.block w.heap.size (by simp)).trans (co _ _);have c:∀ j,o.cell? ⟨w.heap.size,j,none⟩=#[Value.int .i64 x.k,.int .i64 x.n,.string x.s,.int .i64 x.a,.int .i64 x.b][j]?:=fun j=>cd o _ j _ _ _ f
 have c1:=c 1;have c2:=c 2;have c3:=c 3;have c4:=c 4;simp only [List.getElem?_toArray,List.getElem?_cons_succ,List.getElem?_cons_zero] at c1 c2 c3 c4;have y:w.heap.size < o.heap.size:=(bl f);have d:Below w.heap.size w o:=l.trans (i.mono (by simp));clear c f l i
 by_cases m:1 <= x.k/\x.k <= 9
 ·rw [Zgk,if_pos m]
  by_cases q:lo x.k <= x.n/\x.n <= hi x.k
  ·have g:Hid (ZaA x n=(Zbu x.s (hasS x.k) && Zbt x.a (hasA x.k) n && Zbt x.b (hasB x.k) n)):=by
    unfold Hid ZaA;simp [m,q]
   obtain ⟨z,v⟩:=q;go_wp2_with fail;refine (ZfL _ _ _ A).mono ?_;rintro e t ⟨rfl,rfl⟩;generalize r:Zbu x.s (hasS x.k)=p at g ⊢;clear r;cases p with
   | false =>
    go_wp2;go_ret;exact ⟨by rw [g.out];rfl,d.alloc d.size _⟩
   | true =>
    go_wp2_with fail;refine (Zdb _ _ _ _).mono ?_;rintro e t ⟨rfl,rfl⟩;generalize r:Zbt x.a (hasA x.k) n=p at g ⊢;clear r;cases p with
    | false =>
     go_wp2;go_ret;exact ⟨by rw [g.out];rfl,d.alloc d.size _⟩
    | true =>
     go_wp2_with fail;refine (Zdb _ _ _ _).mono ?_;rintro e t ⟨rfl,rfl⟩;go_wp2;go_ret;exact ⟨by rw [g.out];rfl,d.alloc d.size _⟩
  ·have g:Hid (ZaA x n=false):=by
    unfold Hid ZaA;rw [Bool.eq_false_iff];intro h;simp only [Bool.and_eq_true,decide_eq_true_eq] at h;exact q ⟨h.1.1.2,h.1.2⟩
   go_wp2_with fail
   all_goals go_ret
   all_goals first | exact ⟨by rw [g.out];rfl,d.alloc d.size _⟩ | (exfalso;omega)
 ·have g:Hid (ZaA x n=false):=by
   unfold Hid ZaA;rw [Bool.eq_false_iff];intro h;simp only [Bool.and_eq_true,decide_eq_true_eq] at h;exact m h.1.1.1
  rw [Zgk,if_neg m];go_wp2_with fail
  all_goals go_ret
  all_goals exact ⟨by rw [g.out];rfl,d.alloc d.size _⟩
theorem Zft (v:Value)(a:List Nd)(w:World)(R:NRow w v a) :
  Calls prog 120 #[.agg #[v]] w fun e z=>e=.returned (.bool (Zau a))/\Below w.heap.size w z:=by
 have y:=R;obtain ⟨E,A,rfl,p,G,s,b⟩:=y
 by_cases d:a.length <= 3000
 ·have c:Hid (Zau a=ZaG (a.drop 0) 0):=by unfold Hid Zau;simp [d]
  go_enter func120,ntmps120
  go_wp2_with fail
  go_loopw [12] (fun i wr=>∃ k:Nat,k <= a.length/\i=.int .i64 k/\Hid (Zau a=ZaG (a.drop k) k)/\Below w.heap.size w wr) (fun i _=>a.length - (intOf i).toNat)
  case atStart=>exact ⟨0,by omega,rfl,c.out,(cj _ _).alloc (ce _) _⟩
  case round =>
   clear c;obtain ⟨k,F,rfl,c,j⟩:=hrel
   by_cases h:k < a.length
   ·obtain ⟨g,o,rfl,B,b⟩:=b (by intro e;subst e;simp at h)
    obtain ⟨x,l⟩:∃ x,a[k]? = some x:=⟨a[k],by simp [h]⟩;obtain ⟨c0,c1,c2,c3,c4⟩:=(b k x l).below j B;have q:Hid (ZaG (a.drop k) k=(ZaA x k && ZaG (a.drop (k+1)) (k+1))):=ZdC a k x l;have n:=s x (List.mem_of_getElem? l);clear b l;go_wp2_with fail;refine (Zdg x _ _ n).mono ?_;rintro e D ⟨rfl,f⟩;have r:Below w.heap.size w D:=(j.alloc j.size _).trans (f.mono (by have:=j.size;simp;omega));clear c0 c1 c2 c3 c4 f;have m:Hid (Zau a=(ZaA x k && ZaG (a.drop (k+1)) (k+1))):=by unfold Hid;rw [c.out,q.out]
    clear q c;generalize C:ZaA x k=t at m ⊢;clear C;cases t with
    | false =>
     go_wp2;go_ret;exact ⟨by rw [m.out];rfl,r⟩
    | true =>
     go_wp2
     go_roundw
     case rel=>exact ⟨k+1,by omega,by go_num,m.out,r⟩
     case measure=>simp [intOf];omega
   ·have e:k=a.length:=by omega
    subst e;have u:Hid (Zau a=true):=by unfold Hid;rw [c.out,List.drop_length];rfl
    clear c;go_wp2;go_ret;exact ⟨by rw [u.out];rfl,j⟩
 ·have c:Hid (Zau a=false):=by unfold Hid Zau;simp [d]
  go_enter func120,ntmps120
  go_wp2_with fail;go_ret;exact ⟨by rw [c.out];rfl,(cj _ _).alloc (ce _) _⟩
def iv (zs:List Int):List Value:=zs.map (Value.int .i64)
theorem Zc0 (zs:List Int)(i:Nat)(h:i < zs.length):(iv zs)[i]? = some (.int .i64 (zs.getD i 0)):=by simp [iv,List.getD,h]
theorem ZmL (zs:List Int)(i:Nat)(z:Int):(iv zs).set i (.int .i64 z)=iv (zs.set i z):=by simp [iv,List.map_set]
theorem ZjT (a b:List Int):iv (a ++ b)=iv a ++ iv b:=by simp [iv]
def szA (acc:List Int)(x:Nd):Int:=if hasA x.k then acc.getD x.a.toNat 0 else 0
def szB (acc:List Int)(x:Nd):Int:=if hasB x.k then acc.getD x.b.toNat 0 else 0
def szN (acc:List Int)(x:Nd):Int:=min (1+szA acc x+szB acc x) 1000000000
def ZmI:List Nd -> List Int -> List Int
 | [],acc=>acc
 | x :: xs,acc=>ZmI xs (acc ++ [szN acc x])
def Zj9 (xs:List Nd)(k:Nat):List Int:=ZmI (xs.take k) []
theorem ZiR (c:List Nd)(a i:Nat)(x:Nd)(h:ZaG c a=true)(b:c[i]? = some x):ZaA x (a+i:Nat)=true:=by
 induction c generalizing i a with
 | nil=>simp at b
 | cons y ys ih =>
  simp only [ZaG,Bool.and_eq_true] at h;cases i with
  | zero=>simp at b;subst b;exact h.1
  | succ i =>
   have:=ih (a+1) i h.2 (by simpa using b)
   rwa [show a+1+i=a+(i+1) by omega] at this
theorem Zbe {a:List Nd}(h:Zau a=true){i:Nat}{x:Nd}(b:a[i]? = some x):ZaA x i=true:=by
 simp only [Zau,Bool.and_eq_true] at h;have:=ZiR a 0 i x h.2 b
 simpa using this
theorem ZiH {x:Nd}{n:Int}(h:ZaA x n=true):1 <= x.k/\x.k <= 9:=by
 simp only [ZaA,Bool.and_eq_true,decide_eq_true_eq] at h;exact h.1.1.1
theorem Zcb {x:Nd}{n:Int}(h:ZaA x n=true)(b:hasA x.k=true):0 <= x.a/\x.a < n:=by
 simp only [ZaA,Bool.and_eq_true,decide_eq_true_eq] at h;have:=h.2.1.2;rw [b] at this
 simpa [Zbt] using this
theorem Zcf {x:Nd}{n:Int}(h:ZaA x n=true)(a:hasB x.k=true):0 <= x.b/\x.b < n:=by
 simp only [ZaA,Bool.and_eq_true,decide_eq_true_eq] at h;have:=h.2.2;rw [a] at this
 simpa [Zbt] using this
theorem ZaK {a:List Nd}(h:Zau a=true):a.length <= 3000:=by
 simp only [Zau,Bool.and_eq_true,decide_eq_true_eq] at h;exact h.1
def hasI (xs:List Nd)(v:Int):Bool:=decide (0 <= v) && decide (v < xs.length)
def sizeR (xs:List Nd)(v:Int):Int:=if Zau xs && hasI xs v then (Zj9 xs xs.length).getD v.toNat 0 else 0
theorem Zgz (v:Value)(b:List Nd)(a:Int)(w:World)(R:NRow w v b) :
  Calls prog 205 #[.agg #[v],.int .i64 a] w fun e c=>e=.returned (.bool (hasI b a))/\Below w.heap.size w c:=by
 obtain ⟨f,d,rfl,_⟩:=R
 go_enter func205,ntmps205
 go_wp2
 all_goals go_ret
 all_goals (refine ⟨retB ?_,(cj _ _).alloc (ce _) _⟩;rw [Bool.eq_iff_iff];simp [hasI, *];try omega)
def ZbZ (x:Nd):List Int :=
 if x.k=2 \/ x.k=8 \/ x.k=9 then encI x.n else if x.k=3 then encI (x.n+1000000000) else if x.k=4 then pt x.s
 else if x.k=5 then encI x.a ++ encI x.b else if x.k=6 then encI x.n ++ encI x.a else if x.k=7 then encI x.a else []
def Za3 (x:Nd):List Int:=encI x.k ++ ZbZ x
def ZbG (xs:List Nd):List Int:=encI xs.length ++ xs.flatMap Za3
def NdOk (x:Nd):Prop:=(1 <= x.k/\x.k <= 9)/\(-1000000000 <= x.n/\x.n <= 1000000000)/\x.s.size <= 12/\(x.a <= 3000/\x.b <= 3000)
theorem Zjf {x:Nd}{i:Int}(h:ZaA x i=true)(n:i <= 3000):NdOk x:=by
 have m : -1000000000 <= lo x.k:=by unfold lo;split <;> decide
 have g:hi x.k <= 1000000000:=by
  unfold hi;split
  ·decide
  ·split
   ·decide
   ·split <;> decide
 simp only [ZaA,Bool.and_eq_true,decide_eq_true_eq] at h;obtain ⟨⟨⟨⟨l,j⟩,o⟩,p⟩,⟨c,d⟩,f⟩:=h;refine ⟨⟨l,j⟩,⟨by omega,by omega⟩,?_,?_,?_⟩
 ·unfold Zbu at c
  split at c
  ·simp only [Zb3,Bool.and_eq_true,decide_eq_true_eq] at c
   exact c.1.2
  ·have e:x.s.toList=[]:=by simpa using c
   rw [ByteArray.toList_eq] at e
   have:x.s.size=0:=by
    rw [show x.s.size=x.s.data.toList.length by rw [Array.length_toList];rfl,e];rfl
   omega
 ·unfold Zbt at d
  split at d
  ·simp only [Bool.and_eq_true,decide_eq_true_eq] at d;omega
  ·have:x.a=0:=by simpa using d
   omega
 ·unfold Zbt at f
  split at f
  ·simp only [Bool.and_eq_true,decide_eq_true_eq] at f;omega
  ·have:x.b=0:=by simpa using f
   omega
theorem ZbO {a:List Nd}(h:Zau a=true):∀ x ∈ a,NdOk x:=by
 intro x b;obtain ⟨i,hi⟩:=List.getElem?_of_mem b;have d:i < a.length:=(List.getElem?_eq_some_iff.1 hi).1;have c:a.length <= 3000:=by simp only [Zau,Bool.and_eq_true,decide_eq_true_eq] at h;exact h.1
 exact Zjf (Zbe h hi) (by omega)
theorem Zkq (x:Nd)(h:x.s.size <= 12):(ZbZ x).length <= 21:=by
 have e:=Zat;unfold ZbZ;split
 ·have:=e x.n;omega
 ·split
  ·have:=e (x.n+1000000000);omega
  ·split
   ·rw [Zc4];have:=e x.s.size;omega
   ·split
    ·rw [List.length_append];have:=e x.a;have:=e x.b;omega
    ·split
     ·rw [List.length_append];have:=e x.n;have:=e x.a;omega
     ·split
      ·have:=e x.a;omega
      ·simp
theorem Zi3 (x:Nd)(h:x.s.size <= 12):(Za3 x).length <= 30:=by
 have:=Zkq x h;have:=Zat x.k;unfold Za3;rw [List.length_append];omega
theorem Zgp (a:List Nd)(h:∀ x ∈ a,NdOk x):(a.flatMap Za3).length <= 30 * a.length:=by
 induction a with
 | nil=>simp
 | cons x a ih =>
  have d:=Zi3 x (h x List.mem_cons_self).2.2.1;have c:=ih (fun y b=>h y (List.mem_cons_of_mem _ b));rw [List.flatMap_cons,List.length_append,List.length_cons];omega
theorem Zlq (x:Nd):∀ z ∈ ZbZ x,0 <= z/\z <= 255:=by
 intro z a;unfold ZbZ at a;split at a
 ·exact ZbY _ z a
 ·split at a
  ·exact ZbY _ z a
  ·split at a
   ·exact Zna _ z a
   ·split at a
    ·rcases List.mem_append.1 a with h | h <;> exact ZbY _ z h
    ·split at a
     ·rcases List.mem_append.1 a with h | h <;> exact ZbY _ z h
     ·split at a
      ·exact ZbY _ z a
      ·simp at a
theorem ZkD (a:List Nd):∀ z ∈ a.flatMap Za3,0 <= z/\z <= 255:=by
 intro z b;obtain ⟨x,_,h⟩:=List.mem_flatMap.1 b;unfold Za3 at h;rcases List.mem_append.1 h with h | h
 ·exact ZbY _ z h
 ·exact Zlq x z h
theorem ZeP (a:List Nd):∀ z ∈ ZbG a,0 <= z/\z <= 255:=by
 intro z b;unfold ZbG at b;rcases List.mem_append.1 b with h | h
 ·exact ZbY _ z h
 ·exact ZkD a z h
theorem Zin (a:List Nd)(k:Nat)(x:Nd)(h:a[k]? = some x):(a.take (k+1)).flatMap Za3=(a.take k).flatMap Za3 ++ Za3 x:=by
 rw [List.take_add_one,h];simp
def Lies (zs:List Int)(a:Int)(L:List Int)(b:Int):Prop:=0 <= a/\b=a+L.length/\∃ rest,zs.drop a.toNat=L ++ rest
theorem Lies.append {zs L M:List Int}{a b c:Int}(h:Lies zs a L b)(k:Lies zs b M c):Lies zs a (L ++ M) c:=by
 obtain ⟨i,g,r,f⟩:=h;obtain ⟨j,k2,t,d⟩:=k;refine ⟨i,by rw [k2,g];simp;omega,t,?_⟩;have e:b.toNat=a.toNat+L.length:=by omega
 rw [e,<- List.drop_drop,f,List.drop_left] at d;rw [f,d,List.append_assoc]
theorem Lies.nil {zs:List Int}{a:Int}(h:0 <= a):Lies zs a [] a:=⟨h,by simp,_,rfl⟩
theorem Zkp {l:List Int}(h:∀ z ∈ l,0 <= z/\z <= 255):sb (strOfNums l)=l:=by
 unfold sb strOfNums;simp only [List.map_map]
 conv=>rhs;rw [<- List.map_id l]
 apply List.map_congr_left;intro z a;have:=h z a;simp only [Function.comp,id];rw [UInt8.toNat_ofNat'];omega
theorem Zjv {zs:List Int}{a next:Int}{s:ByteArray}(e:∀ z ∈ zs,0 <= z/\z <= 255)(h:gT zs a=(s,next,true)):Lies zs a (pt s) next:=by
 unfold gT at h;split at h
 ·rename_i p
  obtain ⟨k,t⟩:=p;have i:gN zs a=((gN zs a).1,(gN zs a).2.1,true):=by rw [<- k]
  obtain ⟨l,u,g,r,j⟩:=Zg7 e i;generalize (gN zs a).1=n at *;generalize (gN zs a).2.1=m at *;cases h;have f:0 <= m:=by omega
  have b:((zs.drop m.toNat).take n.toNat).length=n.toNat:=by rw [List.length_take,List.length_drop];omega
  have c:sb (strOfNums ((zs.drop m.toNat).take n.toNat))=(zs.drop m.toNat).take n.toNat:=Zkp (fun z h=>e z (List.mem_of_mem_drop (List.mem_of_mem_take h)))
  have d:((strOfNums ((zs.drop m.toNat).take n.toNat)).size:Int)=n:=by
   have:=congrArg List.length c;rw [ZaJ,b] at this;omega
  have q:Lies zs a (encI n) m:=⟨l,g,r,j⟩;have o:Lies zs m ((zs.drop m.toNat).take n.toNat) (m+n):=⟨f,by rw [b];omega,(zs.drop m.toNat).drop n.toNat,(List.take_append_drop _ _).symm⟩;have:=q.append o;unfold pt;rw [d,c];exact this
 ·cases h
def rd1 (zs:List Int)(a:Int):Option (Int × Int):=if (gN zs a).2.2 then some ((gN zs a).1,(gN zs a).2.1) else none
def rdB (zs:List Int)(k a:Int):Option (Nd × Int) :=
 if k=1 then some (⟨1,0,ByteArray.empty,0,0⟩,a)
 else if k=2 \/ k=8 \/ k=9 then (rd1 zs a).map fun p=>(⟨k,p.1,ByteArray.empty,0,0⟩,p.2)
 else if k=3 then (rd1 zs a).map fun p=>(⟨3,p.1 - 1000000000,ByteArray.empty,0,0⟩,p.2)
 else if k=4 then (if (gT zs a).2.2 then some (⟨4,0,(gT zs a).1,0,0⟩,(gT zs a).2.1) else none)
 else if k=5 then (rd1 zs a).bind fun p=>(rd1 zs p.2).map fun q=>(⟨5,0,ByteArray.empty,p.1,q.1⟩,q.2)
 else if k=6 then (rd1 zs a).bind fun p=>(rd1 zs p.2).map fun q=>(⟨6,p.1,ByteArray.empty,q.1,0⟩,q.2)
 else if k=7 then (rd1 zs a).map fun p=>(⟨7,0,ByteArray.empty,p.1,0⟩,p.2)
 else none
def rdNd (zs:List Int)(a:Int):Option (Nd × Int):=(rd1 zs a).bind fun p=>rdB zs p.1 p.2
def Zbo (zs:List Int):Nat -> Int -> Option (List Nd × Int)
 | 0,a=>some ([],a)
 | n+1,a=>(rdNd zs a).bind fun p=>(Zbo zs n p.2).map fun q=>(p.1 :: q.1,q.2)
theorem Za1 {zs:List Int}{a x b:Int}(f:∀ z ∈ zs,0 <= z/\z <= 255)(h:rd1 zs a=some (x,b)):Lies zs a (encI x) b/\0 <= x:=by
 unfold rd1 at h;split at h
 ·rename_i e
  cases h;have i:gN zs a=((gN zs a).1,(gN zs a).2.1,true):=by rw [<- e]
  obtain ⟨g,j,c,d⟩:=Zg7 f i;exact ⟨⟨g,c,d⟩,j⟩
 ·cases h
theorem Zk3 {zs:List Int}{k a b:Int}{x:Nd}(j:∀ z ∈ zs,0 <= z/\z <= 255)(p:0 <= a)(h:rdB zs k a=some (x,b)):Lies zs a (ZbZ x) b/\x.k=k:=by
 unfold rdB at h;split at h
 ·rename_i f;subst f
  cases h;exact ⟨Lies.nil p,rfl⟩
 split at h
 ·rename_i f
  rw [Option.map_eq_some_iff] at h;obtain ⟨⟨n,c⟩,i,g⟩:=h;cases g;refine ⟨?_,rfl⟩;unfold ZbZ;rw [if_pos f];exact (Za1 j i).1
 rename_i r s
 split at h
 ·rename_i f;subst f
  rw [Option.map_eq_some_iff] at h;obtain ⟨⟨n,c⟩,i,g⟩:=h;cases g;refine ⟨?_,rfl⟩
  show Lies zs a (encI (n - 1000000000+1000000000)) c
  rw [show n - 1000000000+1000000000=n by omega];exact (Za1 j i).1
 split at h
 ·rename_i f;subst f
  split at h
  ·rename_i q
   cases h;refine ⟨?_,rfl⟩;have e:gT zs a=((gT zs a).1,(gT zs a).2.1,true):=by rw [<- q]
   exact Zjv j e
  ·cases h
 split at h
 ·rename_i f;subst f
  rw [Option.bind_eq_some_iff] at h;obtain ⟨⟨n,c⟩,i,g⟩:=h;rw [Option.map_eq_some_iff] at g;obtain ⟨⟨m,d⟩,o,l⟩:=g;cases l;exact ⟨(Za1 j i).1.append (Za1 j o).1,rfl⟩
 split at h
 ·rename_i f;subst f
  rw [Option.bind_eq_some_iff] at h;obtain ⟨⟨n,c⟩,i,g⟩:=h;rw [Option.map_eq_some_iff] at g;obtain ⟨⟨m,d⟩,o,l⟩:=g;cases l;exact ⟨(Za1 j i).1.append (Za1 j o).1,rfl⟩
 split at h
 ·rename_i f;subst f
  rw [Option.map_eq_some_iff] at h;obtain ⟨⟨n,c⟩,i,g⟩:=h;cases g;exact ⟨(Za1 j i).1,rfl⟩
 ·cases h
theorem Zja {zs:List Int}{a b:Int}{x:Nd}(e:∀ z ∈ zs,0 <= z/\z <= 255)(h:rdNd zs a=some (x,b)):Lies zs a (Za3 x) b:=by
 unfold rdNd at h;rw [Option.bind_eq_some_iff] at h;obtain ⟨⟨k,c⟩,j,i⟩:=h;obtain ⟨d,_⟩:=Za1 e j;obtain ⟨f,g⟩:=Zk3 e (by have:=d.1;have:=d.2.1;omega) i;unfold Za3;rw [g];exact d.append f
theorem Zcv {zs:List Int}(i:∀ z ∈ zs,0 <= z/\z <= 255):∀ (n:Nat) (a b:Int) (e:List Nd),0 <= a -> Zbo zs n a=some (e,b) -> Lies zs a (e.flatMap Za3) b/\e.length=n
 | 0,a,b,e,ha,h=>by cases h;exact ⟨Lies.nil ha,rfl⟩
 | n+1,a,b,e,ha,h=>by
  rw [Zbo,Option.bind_eq_some_iff] at h;obtain ⟨⟨x,c⟩,l,g⟩:=h;rw [Option.map_eq_some_iff] at g;obtain ⟨⟨ys,d⟩,o,m⟩:=g;cases m;have f:=Zja i l;obtain ⟨j,k⟩:=Zcv i n c d ys (by have:=f.1;have:=f.2.1;omega) o;exact ⟨f.append j,by simp [k]⟩
theorem Zhg (b:List Int)(f:Nat)(x:Int)(e:0 <= x)(d:x < lim (f+1)):scan (f+1) (enc (f+1) x ++ b)=some (enc (f+1) x):=by
 induction f generalizing x with
 | zero =>
  have a:x < 128:=by simpa [lim] using d
  rw [Za9 0 x a];simp [scan,a]
 | succ f ih =>
  by_cases a:x < 128
  ·rw [Za9 _ x a];simp [scan,a]
  ·obtain ⟨h,g,c⟩:=Zdo (f+1) x (by omega) d
   rw [ZcC _ x (by omega),List.cons_append];simp only [scan];rw [if_neg (by omega),ih (x / 128) (by omega) c];rfl
theorem Zl9 (f:Nat)(x:Int)(d:0 <= x)(c:x < lim (f+1)):val (enc (f+1) x)=x:=by
 induction f generalizing x with
 | zero =>
  have a:x < 128:=by simpa [lim] using c
  rw [Za9 0 x a];simp only [val];omega
 | succ f ih =>
  by_cases a:x < 128
  ·rw [Za9 _ x a];simp only [val];omega
  ·obtain ⟨g,e,b⟩:=Zdo (f+1) x (by omega) c
   rw [ZcC _ x (by omega)];simp only [val];rw [ih (x / 128) (by omega) b];omega
theorem Zk2 (f:Nat)(x:Int)(g:0 < x)(d:x < lim (f+1)):(enc (f+1) x).getLast? ≠ some 0:=by
 induction f generalizing x with
 | zero =>
  have b:x < 128:=by simpa [lim] using d
  rw [Za9 0 x b];simp;omega
 | succ f ih =>
  by_cases b:x < 128
  ·rw [Za9 _ x b];simp;omega
  ·obtain ⟨i,h,a⟩:=Zdo (f+1) x (by omega) d
   rw [ZcC _ x (by omega)]
   have c:enc (f+1) (x / 128) ≠ []:=by
    intro e;have:=Zhg [] f (x / 128) (by omega) a;rw [e] at this;simp [scan] at this
   rw [List.getLast?_cons_of_ne_nil c];exact ih (x / 128) (by omega) a
theorem Zfm {x:Int}(h:x <= 9223372036854775807):x < lim (8+1):=by
 rw [Zfg];omega
theorem ZlP (a b:List Int)(x:Int)(f:0 <= x)(e:x <= 9223372036854775807):gN (a ++ (enc 9 x ++ b)) (a.length:Int)=(x,(a.length:Int)+(enc 9 x).length,true):=by
 have g:scan 9 ((a ++ (enc 9 x ++ b)).drop a.length)=some (enc 9 x):=by
  rw [List.drop_left];exact Zhg b 8 x f (Zfm e)
 have d:¬ (a.length:Int) < 0:=by omega
 simp only [gN,d,if_false,Int.toNat_natCast,g];rw [if_neg,Zl9 8 x f (Zfm e)];intro c;rcases Int.lt_or_eq_of_le f with h | h
 ·exact Zk2 8 x h (Zfm e) c.2
 ·subst h
  have:=c.1;rw [Za9 8 0 (by omega)] at this;simp at this
theorem Zdc (s:ByteArray):strOfNums (sb s)=s:=by
 have a:∀ l:List UInt8,(l.map fun b=>(b.toNat:Int)).map (fun n=>UInt8.ofNat n.toNat)=l:=by
  intro l
  induction l with
  | nil=>rfl
  | cons b l ih=>simp only [List.map_cons,ih];simp
 have e:(sb s).map (fun n=>UInt8.ofNat n.toNat)=s.data.toList:=a _;unfold strOfNums;rw [e]
def num8 (zs:List Int)(at_:Int)(ok:Bool):Int × Int × Bool:=if ok && (gN zs at_).2.2 then ((gN zs at_).1,(gN zs at_).2.1,true) else (0,at_,false)
def rdP (zs:List Int)(a:Int):Option (List Nd × Int) :=
 (rd1 zs a).bind fun p=>if p.1 > 3000 then none else (Zbo zs p.1.toNat p.2).bind fun q=>if Zau q.1 then some q else none
def sB (zs:List Int)(k a:Int)(ok:Bool):Nd × Int × Bool :=
 if k=2 \/ k=8 \/ k=9 then (⟨k,(num8 zs a ok).1,ByteArray.empty,0,0⟩,(num8 zs a ok).2)
 else if k=3 then (⟨k,(num8 zs a ok).1 - 1000000000,ByteArray.empty,0,0⟩,(num8 zs a ok).2)
 else if k=4 then (⟨k,0,(gT zs a).1,0,0⟩,(gT zs a).2.1,ok && (gT zs a).2.2)
 else if k=5 then (⟨k,0,ByteArray.empty,(num8 zs a ok).1,(num8 zs (num8 zs a ok).2.1 (num8 zs a ok).2.2).1⟩,(num8 zs (num8 zs a ok).2.1 (num8 zs a ok).2.2).2)
 else if k=6 then (⟨k,(num8 zs a ok).1,ByteArray.empty,(num8 zs (num8 zs a ok).2.1 (num8 zs a ok).2.2).1,0⟩,(num8 zs (num8 zs a ok).2.1 (num8 zs a ok).2.2).2)
 else if k=7 then (⟨k,0,ByteArray.empty,(num8 zs a ok).1,0⟩,(num8 zs a ok).2)
 else (⟨k,0,ByteArray.empty,0,0⟩,a,ok)
def sN (zs:List Int)(a:Int):Nd × Int × Bool:=sB zs (num8 zs a true).1 (num8 zs a true).2.1 (num8 zs a true).2.2
def sNs (zs:List Int):Nat -> List Nd -> Int -> Bool -> List Nd × Int × Bool
 | 0,xs,a,ok=>(xs,a,ok)
 | m+1,xs,a,ok=>if ok then sNs zs m (xs ++ [(sN zs a).1]) (sN zs a).2.1 (sN zs a).2.2 else (xs,a,false)
def Zhj (zs:List Int)(a:Int)(ok:Bool):Bool:=(num8 zs a ok).2.2 && decide ((num8 zs a ok).1 <= 3000)
def sP (zs:List Int)(a:Int)(ok:Bool):List Nd × Int × Bool:=sNs zs (num8 zs a ok).1.toNat [] (num8 zs a ok).2.1 (Zhj zs a ok)
def sOk (zs:List Int)(a:Int)(ok:Bool):Bool:=(sP zs a ok).2.2 && decide ((sP zs a ok).2.1=zs.length) && Zau (sP zs a ok).1
theorem ZaL (zs:List Int)(a:Int):(num8 zs a true).2.2=(rd1 zs a).isSome/\∀ p,rd1 zs a=some p -> num8 zs a true=(p.1,p.2,true):=by
 unfold num8 rd1;cases (gN zs a).2.2 <;> simp
theorem Zby (zs:List Int)(a:Int):num8 zs a false=(0,a,false):=by simp [num8]
theorem ZaF {zs:List Int}{a:Int}(h:rd1 zs a=none):num8 zs a true=(0,a,false):=by
 unfold num8 rd1 at *;cases b:(gN zs a).2.2 with
 | false=>simp
 | true=>rw [b] at h;cases h
theorem Zbc {zs:List Int}{a:Int}{p:Int × Int}(h:rd1 zs a=some p):0 <= p.1/\p.1 <= 9223372036854775807/\0 <= p.2/\p.2 <= zs.length:=by
 unfold rd1 at h;split at h
 ·rename_i b
  cases h;have:=Zku zs a (gN zs a).1 (gN zs a).2.1 (by rw [<- b]);exact this
 ·cases h
theorem Zc7 (zs:List Int)(a:Int)(ok:Bool)(c:0 <= a)(d:a <= zs.length):0 <= (num8 zs a ok).1/\(num8 zs a ok).1 <= 9223372036854775807/\0 <= (num8 zs a ok).2.1/\(num8 zs a ok).2.1 <= zs.length:=by
 cases ok with
 | false=>rw [Zby];exact ⟨by omega,by omega,c,d⟩
 | true =>
  cases b:rd1 zs a with
  | none=>rw [ZaF b];exact ⟨by omega,by omega,c,d⟩
  | some p=>rw [(ZaL zs a).2 p b];exact Zbc b
theorem ZmD (zs:List Int)(k a:Int):(∀ p,rdB zs k a=some p -> sB zs k a true=(p.1,p.2,true))/\(rdB zs k a=none -> (sB zs k a true).2.2=false \/ ∀ i,ZaA (sB zs k a true).1 i=false):=by
 unfold rdB sB
 by_cases m:k=1
 ·subst m
  rw [if_pos rfl,if_neg (by omega),if_neg (by omega),if_neg (by omega),if_neg (by omega),if_neg (by omega),if_neg (by omega)];exact ⟨fun p h=>by (cases h;rfl),fun h=>by (cases h)⟩
 rw [if_neg m]
 by_cases d:k=2 \/ k=8 \/ k=9
 ·rw [if_pos d,if_pos d]
  cases b:rd1 zs a with
  | none=>rw [ZaF b];exact ⟨fun p h=>by (simp at h),fun _=>.inl rfl⟩
  | some q=>rw [(ZaL zs a).2 q b];exact ⟨fun p h=>by (simp at h;subst h;rfl),fun h=>by (simp at h)⟩
 rw [if_neg d,if_neg d]
 by_cases j:k=3
 ·subst j
  rw [if_pos rfl,if_pos rfl];cases b:rd1 zs a with
  | none=>rw [ZaF b];exact ⟨fun p h=>by (simp at h),fun _=>.inl rfl⟩
  | some q=>rw [(ZaL zs a).2 q b];exact ⟨fun p h=>by (simp at h;subst h;rfl),fun h=>by (simp at h)⟩
 rw [if_neg j,if_neg j]
 by_cases g:k=4
 ·subst g
  rw [if_pos rfl,if_pos rfl];cases o:(gT zs a).2.2 with
  | false=>exact ⟨fun p h=>by (simp at h),fun _=>.inl (by simp)⟩
  | true=>exact ⟨fun p h=>by (simp at h;subst h;rfl),fun h=>by (simp at h)⟩
 rw [if_neg g,if_neg g]
 by_cases e:k=5
 ·subst e
  rw [if_pos rfl,if_pos rfl];cases b:rd1 zs a with
  | none=>rw [ZaF b];exact ⟨fun p h=>by (simp at h),fun _=>.inl (by simp only [Zby])⟩
  | some q =>
   rw [(ZaL zs a).2 q b];simp only [Option.bind_some];cases c:rd1 zs q.2 with
   | none=>rw [ZaF c];exact ⟨fun p h=>by (simp at h),fun _=>.inl rfl⟩
   | some t=>rw [(ZaL zs q.2).2 t c];exact ⟨fun p h=>by (simp at h;subst h;rfl),fun h=>by (simp at h)⟩
 rw [if_neg e,if_neg e]
 by_cases l:k=6
 ·subst l
  rw [if_pos rfl,if_pos rfl];cases b:rd1 zs a with
  | none=>rw [ZaF b];exact ⟨fun p h=>by (simp at h),fun _=>.inl (by simp only [Zby])⟩
  | some q =>
   rw [(ZaL zs a).2 q b];simp only [Option.bind_some];cases c:rd1 zs q.2 with
   | none=>rw [ZaF c];exact ⟨fun p h=>by (simp at h),fun _=>.inl rfl⟩
   | some t=>rw [(ZaL zs q.2).2 t c];exact ⟨fun p h=>by (simp at h;subst h;rfl),fun h=>by (simp at h)⟩
 rw [if_neg l,if_neg l]
 by_cases f:k=7
 ·subst f
  rw [if_pos rfl,if_pos rfl];cases b:rd1 zs a with
  | none=>rw [ZaF b];exact ⟨fun p h=>by (simp at h),fun _=>.inl rfl⟩
  | some q=>rw [(ZaL zs a).2 q b];exact ⟨fun p h=>by (simp at h;subst h;rfl),fun h=>by (simp at h)⟩
 rw [if_neg f,if_neg f];refine ⟨fun p h=>by (cases h),fun _=>Or.inr fun i=>?_⟩;unfold ZaA
 have:(decide (1 <= k) && decide (k <= 9))=false:=by
  rcases Int.lt_or_le k 1 with h | h
  ·rw [decide_eq_false (by omega)];rfl
  ·rcases Int.lt_or_le 9 k with n | n
   ·rw [decide_eq_false (p:=k <= 9) (by omega),Bool.and_false]
   ·omega
 show (decide (1 <= k) && decide (k <= 9) && _ && _ && _)=false
 rw [this];rfl
theorem Zm6 (zs:List Int)(a:Int):(∀ p,rdNd zs a=some p -> sN zs a=(p.1,p.2,true))/\(rdNd zs a=none -> (sN zs a).2.2=false \/ ∀ i,ZaA (sN zs a).1 i=false):=by
 unfold rdNd sN;cases b:rd1 zs a with
 | none =>
  rw [ZaF b];refine ⟨fun p h=>by (simp at h),fun _=>.inl ?_⟩;simp [sB]
 | some q =>
  rw [(ZaL zs a).2 q b];exact ZmD zs q.1 q.2
theorem Zb1 (a ys:List Nd)(i:Nat):ZaG (a ++ ys) i=(ZaG a i && ZaG ys (i+a.length)):=by
 induction a generalizing i with
 | nil=>simp [ZaG]
 | cons x a ih=>simp only [List.cons_append,ZaG,List.length_cons];rw [ih,Bool.and_assoc,show i+1+a.length=i+(a.length+1) by omega]
theorem Zf9 (zs:List Int):∀ (m:Nat) (b:List Nd) (a:Int) (ok:Bool),∃ ys,(sNs zs m b a ok).1=b ++ ys
 | 0,b,a,ok=>⟨[],by simp [sNs]⟩
 | m+1,b,a,ok=>by
  rw [sNs];split
  ·obtain ⟨ys,h⟩:=Zf9 zs m (b ++ [(sN zs a).1]) (sN zs a).2.1 (sN zs a).2.2
   exact ⟨[(sN zs a).1] ++ ys,by rw [h,List.append_assoc]⟩
  ·exact ⟨[],by simp⟩
theorem Zcd (zs:List Int)(m:Nat)(b:List Nd)(a:Int):sNs zs m b a false=(b,a,false):=by cases m <;> rfl
theorem ZlK (zs:List Int):∀ (m:Nat) (b:List Nd) (a:Int),
  (∀ p,Zbo zs m a=some p -> sNs zs m b a true=(b ++ p.1,p.2,true))/\(Zbo zs m a=none -> (sNs zs m b a true).2.2=false \/ ZaG (sNs zs m b a true).1 0=false)
 | 0,b,a=>⟨fun p h=>by cases h;simp [sNs],fun h=>by cases h⟩
 | m+1,b,a=>by
  rw [Zbo,sNs,if_pos rfl];obtain ⟨n1,n2⟩:=Zm6 zs a;cases d:rdNd zs a with
  | some p =>
   rw [n1 p d];obtain ⟨f,g⟩:=ZlK zs m (b ++ [p.1]) p.2;simp only [Option.bind_some];cases c:Zbo zs m p.2 with
   | some q=>exact ⟨fun t h=>by (simp at h;subst h;rw [f q c];simp),fun h=>by (simp at h)⟩
   | none=>exact ⟨fun t h=>by (simp at h),fun _=>g c⟩
  | none =>
   refine ⟨fun t h=>by (simp at h),fun _=>?_⟩;rcases n2 d with h | h
   ·rw [h,Zcd];exact .inl rfl
   ·right
    obtain ⟨ys,e⟩:=Zf9 zs m (b ++ [(sN zs a).1]) (sN zs a).2.1 (sN zs a).2.2;rw [e,List.append_assoc,Zb1,List.singleton_append,ZaG,h,Bool.false_and,Bool.and_false]
theorem ZlN (zs:List Int)(a:Int)(g:List Nd):(sOk zs a true=true/\(sP zs a true).1=g) <-> rdP zs a=some (g,(zs.length:Int)):=by
 unfold sOk rdP sP Zhj;cases e:rd1 zs a with
 | none=>rw [ZaF e];simp [sNs]
 | some q =>
  rw [(ZaL zs a).2 q e];simp only [Option.bind_some,Bool.true_and]
  by_cases i:q.1 > 3000
  ·rw [if_pos i,decide_eq_false (by omega),Zcd]
   simp
  ·rw [if_neg i,decide_eq_true (by omega)]
   obtain ⟨k,l⟩:=ZlK zs q.1.toNat [] q.2;cases b:Zbo zs q.1.toNat q.2 with
   | some p =>
    rw [k p b];simp only [List.nil_append,Option.bind_some,Bool.true_and,Bool.and_eq_true,decide_eq_true_eq];obtain ⟨m,n⟩:=p;constructor
    ·rintro ⟨⟨f,c⟩,j⟩
     rw [if_pos c];simp only at f j;rw [f,j]
    ·intro h
     split at h
     ·rename_i c
      cases h;exact ⟨⟨rfl,c⟩,rfl⟩
     ·cases h
   | none =>
    simp only [Option.bind_none,reduceCtorEq,iff_false];rintro ⟨h,-⟩;simp only [Bool.and_eq_true,Zau] at h;rcases l b with d | d
    ·rw [d] at h;simp at h
    ·rw [d] at h;simp at h
theorem ZhG {zs:List Int}{f:List Nd}(l:∀ z ∈ zs,0 <= z/\z <= 255)(h:rdP zs 0=some (f,(zs.length:Int))):Zau f=true/\ZbG f=zs:=by
 unfold rdP at h;rw [Option.bind_eq_some_iff] at h;obtain ⟨⟨n,a⟩,o,g⟩:=h;split at g
 ·cases g
 rw [Option.bind_eq_some_iff] at g;obtain ⟨⟨ys,b⟩,r,j⟩:=g;split at j
 ·rename_i p
  cases j;obtain ⟨k,t⟩:=Za1 l o;obtain ⟨q,s⟩:=Zcv l n.toNat a _ f (by have:=k.1;have:=k.2.1;omega) r;refine ⟨p,?_⟩;obtain ⟨_,m,d,i⟩:=k.append q;have e:(f.length:Int)=n:=by omega
  unfold ZbG;rw [e];rw [Int.toNat_zero,List.drop_zero] at i;have c:=congrArg List.length i;rw [List.length_append] at c;have:d=[]:=List.eq_nil_of_length_eq_zero (by omega);rw [this,List.append_nil] at i;exact i.symm
 ·cases j
theorem ZfU {x y:Int}{l m:List Int}(c:0 <= x)(d:0 <= y)(a:x <= 9223372036854775807)(b:y <= 9223372036854775807)(h:encI x ++ l=encI y ++ m):x=y:=by
 have e:=ZlP [] l x c a;have f:=ZlP [] m y d b;rw [Zcu x c,Zcu y d] at h;rw [h,f] at e;have:=congrArg (fun t=>t.1) e;exact this.symm
def rt (zs:List Int)(a:Int):Option (ByteArray × Int):=if (gT zs a).2.2 then some ((gT zs a).1,(gT zs a).2.1) else none
def txt8 (zs:List Int)(at_:Int)(ok:Bool):ByteArray × Int × Bool:=if ok && (gT zs at_).2.2 then ((gT zs at_).1,(gT zs at_).2.1,true) else (⟨#[]⟩,at_,false)
theorem Zg5 (zs:List Int)(a:Int):txt8 zs a true=match rt zs a with | some p=>(p.1,p.2,true) | none=>(⟨#[]⟩,a,false):=by
 unfold txt8 rt;cases (gT zs a).2.2 <;> rfl
theorem gT_range (zs:List Int)(a:Int):0 <= (gT zs a).2.1/\(gT zs a).2.1 <= zs.length:=by
 unfold gT;split
 ·rename_i b
  obtain ⟨c,d⟩:=b;have e:=Zku zs a (gN zs a).1 (gN zs a).2.1 (by rw [<- c])
  show 0 <= (gN zs a).2.1+(gN zs a).1/\(gN zs a).2.1+(gN zs a).1 <= zs.length
  omega
 ·show (0:Int) <= 0/\(0:Int) <= zs.length
  omega
structure Mc where
 p:Int
 s:Int
 e:Int
 d:Int
 t:Int
 q:Int
 r:Int
theorem Znz:(prog.info? 99).map (·.size)=some 8:=by kernel_rfl
theorem Zax (w:World)(A B:Obj):Below w.heap.size w ((w.alloc A).alloc B)/\((w.alloc A).alloc B).heap[w.heap.size]? = some A/\((w.alloc A).alloc B).heap[w.heap.size+1]? = some B :=
 ⟨((cj _ _).alloc (ce _) _).alloc (by simp) _,(cz _ _ (by simp)).trans (co _ _),cH _ _ _⟩
end Go.Proofs.YtkpfangkfknhoaaGreatDoor
