/-
  Texts that stood by themselves, laid into one.
-/
import Derived.Test.YtanhoamdlhaaeaaGreatDoorR8aM
import Derived.Lib.AppendStr
import Derived.Laws.IdiomStrings
import Derived.Test.YtanhoamdlhaaeaaGreatDoorIGetM
import Derived.Laws.BytesArg
import Derived.Test.YtanhoamdlhaaeaaGreatDoorMachRecM
/-
  Plain facts on a text's bytes, and the law of a text turned into bytes. Nothing of the program; no condition.
-/
namespace Go.Proofs.YtanhoamdlhaaeaaGreatDoor
open Go.RowKit
def sb (s:ByteArray):List Int:=s.data.toList.map fun b=>(b.toNat:Int)
theorem Zbr (s:ByteArray):(sb s).length=s.size:=by rw [sb,List.length_map,Array.length_toList];rfl
theorem ZjQ (s:ByteArray):∀ z ∈ sb s,0 <= z/\z <= 255:=by
 intro z a;simp only [sb,List.mem_map] at a;obtain ⟨b,_,rfl⟩:=a;have:=b.toNat_lt;omega
def pt (s:ByteArray):List Int:=encI s.size ++ sb s
theorem Zdc (s:ByteArray):(pt s).length=(encI s.size).length+s.size:=by rw [pt,List.length_append,Zbr]
theorem Zlo (s:ByteArray):∀ z ∈ pt s,0 <= z/\z <= 255:=by
 intro z a;simp only [pt,List.mem_append] at a;rcases a with a | a
 ·exact ZbU _ z a
 ·exact ZjQ s z a
theorem ZcB (s:ByteArray)(a j:Nat)(u:Value)(h:(bv (sb s))[j]? = some u):(bytesRow s a)[j]? = some u:=by
 have b:j < s.data.size:=by
  have:=(List.getElem?_eq_some_iff.1 h).1;rw [ZaV,Zbr] at this;exact this
 unfold bytesRow;rw [Array.getElem?_append_left (by simpa using b)];simp only [bv,sb,List.map_map,List.getElem?_map,Array.getElem?_toList] at h
 simpa using h
theorem Zch {P:Program}(w:World){ops:Array Oper}{i:List Oper}{o:Oper}{a:Act}{Q:Exit -> Act -> World -> Prop}(t:o.guard=none)(x:Operand)(g f e:TypeId)(v:o.op=.convert g f x)(y:P.underlying g=some .string)(q:P.underlying f=some (.slice e))(r:P.underlying e=some (.int .u8))(s:ByteArray)(A:a.eval x=.string s)(h:∀ b d,(∀ j u,(bv (sb s))[j]? = some u -> d.cell? ((⟨w.heap.size,0,none⟩:Addr).add j)=some u) -> w.grownBy d none -> w.heap.size < d.heap.size -> wpList P ops Q i (a.put o.dst (.slice (some ⟨w.heap.size,0,none⟩) s.size b)) d) :
  wpList P ops Q (o :: i) a w:=by
 refine wpList_plain t fun K p=>?_
 obtain ⟨b,d,k,l,m,n⟩:∃ b d,(convert g f (.string s)).run P w=.ok (.slice (some ⟨w.heap.size,0,none⟩) s.size b) d /\
   (∀ j u,(bv (sb s))[j]? = some u -> d.cell? ((⟨w.heap.size,0,none⟩:Addr).add j)=some u)/\w.grownBy d none/\w.heap.size < d.heap.size:=by
  refine ⟨_,_,run_bytes_of_string w g f e s y q r,?_,?_,?_⟩
  ·intro j u z
   rw [Addr.add_lit,Nat.zero_add,cd _ w.heap.size j _ e _ (cg w.drew _)];exact ZcB s _ j u z
  ·have c:=cr w.drew (Obj.cells (bytesRow s (grownCap w s.size 0 e)) e ((bytesRow s (grownCap w s.size 0 e)).size,(bytesRow s (grownCap w s.size 0 e)).size+1)) none
   exact ⟨c.os,c.tape,c.output,c.size,c.block⟩
  ·show w.heap.size < (w.heap.push _).size
   simp
 unfold Oper.wp;simp [execOp,v,A,k,Result.andThen];exact p _ _ (h b d l m n)
theorem Zf1 (f:Nat)(l a:List Int)(h:scan f l=some a):a.length <= f/\a.length <= l.length:=by
 induction f generalizing l a with
 | zero=>simp [scan] at h
 | succ f ih =>
  cases l with
  | nil=>simp [scan] at h
  | cons b l =>
   simp only [scan] at h;split at h
   ·simp at h;subst h;simp
   ·simp only [Option.map_eq_some_iff] at h
    obtain ⟨c,d,rfl⟩:=h;have:=ih l c d;simp only [List.length_cons];omega
theorem Zjj (d:List Int)(a n next:Int)(h:gN d a=(n,next,true)):0 <= n/\n <= 9223372036854775807/\0 <= next/\next <= d.length:=by
 unfold gN at h
 by_cases f:a < 0
 ·simp [f] at h
 ·simp only [f,if_false] at h
  cases c:scan 9 (d.drop a.toNat) with
  | none=>simp [c] at h
  | some bs =>
   simp only [c] at h;have i:=Zf1 9 _ bs c;have o:=ZbD bs;have m:=Zd8 i.1;rw [Zd9] at m
   by_cases g:1 < bs.length/\bs.getLast? = some 0
   ·rw [if_pos g] at h;simp at h
   ·rw [if_neg g] at h
    simp only [Prod.mk.injEq,and_true] at h;obtain ⟨rfl,rfl⟩:=h;have e:=i.2;simp only [List.length_drop] at e
    have k:0 < bs.length:=by
     rcases Nat.eq_zero_or_pos bs.length with h | h
     ·rw [List.eq_nil_of_length_eq_zero h] at c
      exfalso
      cases j:d.drop a.toNat with
      | nil=>rw [j] at c;simp [scan] at c
      | cons b l =>
       rw [j] at c;simp only [scan] at c;split at c
       ·simp at c
       ·simp at c
     ·exact h
    omega
def gT (zs:List Int)(a:Int):ByteArray × Int × Bool :=
 if (gN zs a).2.2=true/\(gN zs a).1 <= (zs.length:Int) - (gN zs a).2.1 then
  (strOfNums ((zs.drop (gN zs a).2.1.toNat).take (gN zs a).1.toNat),(gN zs a).2.1+(gN zs a).1,true)
 else (⟨#[]⟩,0,false)
abbrev tV (r:ByteArray × Int × Bool):Value:=.tuple #[.string r.1,.int .i64 r.2.1,.bool r.2.2]
theorem Zjk (b:List Int)(a n next:Int)(d:Bool)(h:gN b a=(n,next,d))(c:d=false \/ (b.length:Int) - next < n):gT b a=(⟨#[]⟩,0,false):=by
 unfold gT;rw [h,if_neg];rcases c with rfl | c
 ·simp
 ·intro h;have:=h.2;simp only at this;omega
theorem Zkc (b:List Int)(a:Int)(n next:Nat)(h:gN b a=((n:Int),(next:Int),true))(c:(n:Int) <= (b.length:Int) - next):gT b a=(strOfNums ((b.drop next).take n),(next:Int)+n,true):=by
 unfold gT;rw [h,if_pos ⟨rfl,c⟩];simp
theorem Zjd {w:World}{g o:Nat}{b:List Int}(a:∀ i,i < b.length -> w.cell? ⟨g,o+i,none⟩=some (.int .u8 (b.getD i 0)))(next n:Nat)(c:next+n <= b.length)(i:Nat)(hi:i < n) :
  w.cell? ⟨g,o+next+i,none⟩=some (.int .u8 (((b.drop next).take n).getD i 0)):=by
 rw [Nat.add_assoc,a (next+i) (by omega)];simp only [List.getD_eq_getElem?_getD,List.getElem?_take,List.getElem?_drop];rw [if_pos hi]
theorem Zdt (a:List Int)(next n:Nat)(b:next+n <= a.length):((a.drop next).take n).length=n:=by
 simp only [List.length_take,List.length_drop];omega
theorem Zep {w:World}{f:Option Addr}{c:Nat}{b:List Int}(a:b ≠ [] -> ∃ g o,f=some ⟨g,o,none⟩/\g < w.heap.size/\∀ i,i < b.length -> w.cell? ⟨g,o+i,none⟩=some (.int .u8 (b.getD i 0)))(next n:Nat)(d:next+n <= b.length)(j:b.length <= c) :
  n ≠ 0 -> ∃ g k,(if c=next then f else f.map (·.add next))=some ⟨g,k,none⟩/\∀ i,i < n -> w.cell? ⟨g,k+i,none⟩=some (.int .u8 (((b.drop next).take n).getD i 0)):=by
 intro m;obtain ⟨g,o,rfl,_,l⟩:=a (by intro e;subst e;simp at d;omega);rw [if_neg (by omega)];exact ⟨g,o+next,by simp [Addr.add_lit],Zjd l next n d⟩
theorem Zbt {P:Program}(w:World){ops:Array Oper}{f:List Oper}{o:Oper}{a:Act}{Q:Exit -> Act -> World -> Prop}(A:o.guard=none)(x:Operand)(d b e:TypeId)(C:o.op=.convert d b x)(t:P.underlying d=some (.slice e))(r:P.underlying b=some .string)(s:P.underlying e=some (.int .u8))(p:Option Addr)(n c:Nat)(l:List Int)(D:a.eval x=.slice p n c)(v:l.length=n)(z:n ≠ 0 -> ∃ g q,p=some ⟨g,q,none⟩/\∀ i,i < n -> w.cell? ⟨g,q+i,none⟩=some (.int .u8 (l.getD i 0)))(h:wpList P ops Q f (a.put o.dst (.string (strOfNums l))) w):wpList P ops Q (o :: f) a w:=by
 refine wpList_plain A fun K y=>?_
 have m:(convert d b (.slice p n c)).run P w=.ok (.string (strOfNums l)) w:=by
  by_cases u:n=0
  ·subst u
   have:l=[]:=List.eq_nil_of_length_eq_zero v;subst this;cases p with
   | none=>exact run_convert_bytes_nil w d e t s 0 c b r
   | some ad=>exact run_convert_bytes_back w d b e ad c [] t s r (fun j B=>absurd B (by simp))
  ·obtain ⟨g,q,rfl,k⟩:=z u
   exact run_convert_bytes_arg w d e t s g q n c l v k b r
 unfold Oper.wp;simp [execOp,C,D,m,Result.andThen];exact y _ _ h
def ZbN (x:Nd):List Int :=
 if x.k=2 \/ x.k=8 \/ x.k=9 then encI x.n else if x.k=3 then encI (x.n+1000000000) else if x.k=4 then pt x.s
 else if x.k=5 then encI x.a ++ encI x.b else if x.k=6 then encI x.n ++ encI x.a else if x.k=7 then encI x.a else []
def ZaT (x:Nd):List Int:=encI x.k ++ ZbN x
def Zcu (xs:List Nd):List Int:=encI xs.length ++ xs.flatMap ZaT
def NdOk (x:Nd):Prop:=(1 <= x.k/\x.k <= 9)/\(-1000000000 <= x.n/\x.n <= 1000000000)/\x.s.size <= 12/\(x.a <= 3000/\x.b <= 3000)
theorem Zim {x:Nd}{i:Int}(h:Zav x i=true)(m:i <= 3000):NdOk x:=by
 have n : -1000000000 <= lo x.k:=by unfold lo;split <;> decide
 have l:hi x.k <= 1000000000:=by
  unfold hi;split
  ·decide
  ·split
   ·decide
   ·split <;> decide
 simp only [Zav,Bool.and_eq_true,decide_eq_true_eq] at h;obtain ⟨⟨⟨⟨g,j⟩,o⟩,p⟩,⟨c,d⟩,f⟩:=h;refine ⟨⟨g,j⟩,⟨by omega,by omega⟩,?_,?_,?_⟩
 ·unfold Zbj at c
  split at c
  ·simp only [ZbQ,Bool.and_eq_true,decide_eq_true_eq] at c
   exact c.1.2
  ·have e:x.s.toList=[]:=by simpa using c
   rw [ByteArray.toList_eq] at e
   have:x.s.size=0:=by
    rw [show x.s.size=x.s.data.toList.length by rw [Array.length_toList];rfl,e];rfl
   omega
 ·unfold Zbf at d
  split at d
  ·simp only [Bool.and_eq_true,decide_eq_true_eq] at d;omega
  ·have:x.a=0:=by simpa using d
   omega
 ·unfold Zbf at f
  split at f
  ·simp only [Bool.and_eq_true,decide_eq_true_eq] at f;omega
  ·have:x.b=0:=by simpa using f
   omega
theorem Ze8 {a:List Nd}(h:Zap a=true):∀ x ∈ a,NdOk x:=by
 intro x b;obtain ⟨i,hi⟩:=List.getElem?_of_mem b;have c:i < a.length:=(List.getElem?_eq_some_iff.1 hi).1;have d:a.length <= 3000:=by simp only [Zap,Bool.and_eq_true,decide_eq_true_eq] at h;exact h.1
 exact Zim (ZbL h hi) (by omega)
theorem Zi6 (x:Nd)(h:x.s.size <= 12):(ZbN x).length <= 21:=by
 have e:=Zaq;unfold ZbN;split
 ·have:=e x.n;omega
 ·split
  ·have:=e (x.n+1000000000);omega
  ·split
   ·rw [Zdc];have:=e x.s.size;omega
   ·split
    ·rw [List.length_append];have:=e x.a;have:=e x.b;omega
    ·split
     ·rw [List.length_append];have:=e x.n;have:=e x.a;omega
     ·split
      ·have:=e x.a;omega
      ·simp
theorem Zi7 (x:Nd)(h:x.s.size <= 12):(ZaT x).length <= 30:=by
 have:=Zi6 x h;have:=Zaq x.k;unfold ZaT;rw [List.length_append];omega
theorem Zi8 (a:List Nd)(h:∀ x ∈ a,NdOk x):(a.flatMap ZaT).length <= 30 * a.length:=by
 induction a with
 | nil=>simp
 | cons x a ih =>
  have c:=Zi7 x (h x List.mem_cons_self).2.2.1;have d:=ih (fun y b=>h y (List.mem_cons_of_mem _ b));rw [List.flatMap_cons,List.length_append,List.length_cons];omega
theorem Zj7 (x:Nd):∀ z ∈ ZbN x,0 <= z/\z <= 255:=by
 intro z a;unfold ZbN at a;split at a
 ·exact ZbU _ z a
 ·split at a
  ·exact ZbU _ z a
  ·split at a
   ·exact Zlo _ z a
   ·split at a
    ·rcases List.mem_append.1 a with h | h <;> exact ZbU _ z h
    ·split at a
     ·rcases List.mem_append.1 a with h | h <;> exact ZbU _ z h
     ·split at a
      ·exact ZbU _ z a
      ·simp at a
theorem Zj8 (b:List Nd):∀ z ∈ b.flatMap ZaT,0 <= z/\z <= 255:=by
 intro z a;obtain ⟨x,_,h⟩:=List.mem_flatMap.1 a;unfold ZaT at h;rcases List.mem_append.1 h with h | h
 ·exact ZbU _ z h
 ·exact Zj7 x z h
theorem ZgG (b:List Nd):∀ z ∈ Zcu b,0 <= z/\z <= 255:=by
 intro z a;unfold Zcu at a;rcases List.mem_append.1 a with h | h
 ·exact ZbU _ z h
 ·exact Zj8 b z h
theorem ZhM (a:List Nd)(k:Nat)(x:Nd)(h:a[k]? = some x):(a.take (k+1)).flatMap ZaT=(a.take k).flatMap ZaT ++ ZaT x:=by
 rw [List.take_add_one,h];simp
def Lies (zs:List Int)(a:Int)(L:List Int)(b:Int):Prop:=0 <= a/\b=a+L.length/\∃ rest,zs.drop a.toNat=L ++ rest
theorem Lies.append {d L M:List Int}{a b c:Int}(h:Lies d a L b)(k:Lies d b M c):Lies d a (L ++ M) c:=by
 obtain ⟨i,j,r,f⟩:=h;obtain ⟨l,k2,t,g⟩:=k;refine ⟨i,by rw [k2,j];simp;omega,t,?_⟩;have e:b.toNat=a.toNat+L.length:=by omega
 rw [e,<- List.drop_drop,f,List.drop_left] at g;rw [f,g,List.append_assoc]
theorem Lies.nil {b:List Int}{a:Int}(h:0 <= a):Lies b a [] a:=⟨h,by simp,_,rfl⟩
theorem Zkh {l:List Int}(h:∀ z ∈ l,0 <= z/\z <= 255):sb (strOfNums l)=l:=by
 unfold sb strOfNums;simp only [List.map_map]
 conv=>rhs;rw [<- List.map_id l]
 apply List.map_congr_left;intro z a;have:=h z a;simp only [Function.comp,id];rw [UInt8.toNat_ofNat'];omega
theorem Zko {b:List Int}{a next:Int}{s:ByteArray}(f:∀ z ∈ b,0 <= z/\z <= 255)(h:gT b a=(s,next,true)):Lies b a (pt s) next:=by
 unfold gT at h;split at h
 ·rename_i p
  obtain ⟨o,v⟩:=p;have q:gN b a=((gN b a).1,(gN b a).2.1,true):=by rw [<- o]
  obtain ⟨j,u,k,r,l⟩:=Zgj f q;generalize (gN b a).1=n at *;generalize (gN b a).2.1=m at *;cases h;have t:0 <= m:=by omega
  have c:((b.drop m.toNat).take n.toNat).length=n.toNat:=by rw [List.length_take,List.length_drop];omega
  have d:sb (strOfNums ((b.drop m.toNat).take n.toNat))=(b.drop m.toNat).take n.toNat:=Zkh (fun z h=>f z (List.mem_of_mem_drop (List.mem_of_mem_take h)))
  have e:((strOfNums ((b.drop m.toNat).take n.toNat)).size:Int)=n:=by
   have:=congrArg List.length d;rw [Zbr,c] at this;omega
  have g:Lies b a (encI n) m:=⟨j,k,r,l⟩;have i:Lies b m ((b.drop m.toNat).take n.toNat) (m+n):=⟨t,by rw [c];omega,(b.drop m.toNat).drop n.toNat,(List.take_append_drop _ _).symm⟩;have:=g.append i;unfold pt;rw [e,d];exact this
 ·cases h
def rd1 (zs:List Int)(a:Int):Option (Int × Int):=if (gN zs a).2.2 then some ((gN zs a).1,(gN zs a).2.1) else none
def rdB (zs:List Int)(k a:Int):Option (Nd × Int) :=
 if k=1 then some (⟨1,0,ByteArray.empty,0,0⟩,a)
 else if k=2 \/ k=8 \/ k=9 then (rd1 zs a).map fun p=>(⟨k,p.1,ByteArray.empty,0,0⟩,p.2)
 else if k=3 then (rd1 zs a).map fun p=>(⟨3,p.1 - 1000000000,ByteArray.empty,0,0⟩,p.2)
 else if k=4 then (if (gT zs a).2.2 then some (⟨4,0,(gT zs a).1,0,0⟩,(gT zs a).2.1) else none)
 else if k=5 then (rd1 zs a).bind fun p=>(rd1 zs p.2).map fun q=>(⟨5,0,ByteArray.empty,p.1,q.1⟩,q.2)
 else if k=6 then (rd1 zs a).bind fun p=>(rd1 zs p.2).map fun q=>(⟨6,p.1,ByteArray.empty,q.1,0⟩,q.2)
 else if k=7 then (rd1 zs a).map fun p=>(⟨7,0,ByteArray.empty,p.1,0⟩,p.2)
 else none
def rdNd (zs:List Int)(a:Int):Option (Nd × Int):=(rd1 zs a).bind fun p=>rdB zs p.1 p.2
def Zbd (zs:List Int):Nat -> Int -> Option (List Nd × Int)
 | 0,a=>some ([],a)
 | n+1,a=>(rdNd zs a).bind fun p=>(Zbd zs n p.2).map fun q=>(p.1 :: q.1,q.2)
theorem Za9 {c:List Int}{a x b:Int}(k:∀ z ∈ c,0 <= z/\z <= 255)(h:rd1 c a=some (x,b)):Lies c a (encI x) b/\0 <= x:=by
 unfold rd1 at h;split at h
 ·rename_i i
  cases h;have j:gN c a=((gN c a).1,(gN c a).2.1,true):=by rw [<- i]
  obtain ⟨d,e,f,g⟩:=Zgj k j;exact ⟨⟨d,f,g⟩,e⟩
 ·cases h
theorem ZjE {l:List Int}{k a b:Int}{x:Nd}(j:∀ z ∈ l,0 <= z/\z <= 255)(q:0 <= a)(h:rdB l k a=some (x,b)):Lies l a (ZbN x) b/\x.k=k:=by
 unfold rdB at h;split at h
 ·rename_i f;subst f
  cases h;exact ⟨Lies.nil q,rfl⟩
 split at h
 ·rename_i f
  rw [Option.map_eq_some_iff] at h;obtain ⟨⟨n,c⟩,i,g⟩:=h;cases g;refine ⟨?_,rfl⟩;unfold ZbN;rw [if_pos f];exact (Za9 j i).1
 rename_i s t
 split at h
 ·rename_i f;subst f
  rw [Option.map_eq_some_iff] at h;obtain ⟨⟨n,c⟩,i,g⟩:=h;cases g;refine ⟨?_,rfl⟩
  show Lies l a (encI (n - 1000000000+1000000000)) c
  rw [show n - 1000000000+1000000000=n by omega];exact (Za9 j i).1
 split at h
 ·rename_i f;subst f
  split at h
  ·rename_i r
   cases h;refine ⟨?_,rfl⟩;have e:gT l a=((gT l a).1,(gT l a).2.1,true):=by rw [<- r]
   exact Zko j e
  ·cases h
 split at h
 ·rename_i f;subst f
  rw [Option.bind_eq_some_iff] at h;obtain ⟨⟨n,c⟩,i,g⟩:=h;rw [Option.map_eq_some_iff] at g;obtain ⟨⟨m,d⟩,o,p⟩:=g;cases p;exact ⟨(Za9 j i).1.append (Za9 j o).1,rfl⟩
 split at h
 ·rename_i f;subst f
  rw [Option.bind_eq_some_iff] at h;obtain ⟨⟨n,c⟩,i,g⟩:=h;rw [Option.map_eq_some_iff] at g;obtain ⟨⟨m,d⟩,o,p⟩:=g;cases p;exact ⟨(Za9 j i).1.append (Za9 j o).1,rfl⟩
 split at h
 ·rename_i f;subst f
  rw [Option.map_eq_some_iff] at h;obtain ⟨⟨n,c⟩,i,g⟩:=h;cases g;exact ⟨(Za9 j i).1,rfl⟩
 ·cases h
theorem Ziw {e:List Int}{a b:Int}{x:Nd}(f:∀ z ∈ e,0 <= z/\z <= 255)(h:rdNd e a=some (x,b)):Lies e a (ZaT x) b:=by
 unfold rdNd at h;rw [Option.bind_eq_some_iff] at h;obtain ⟨⟨k,c⟩,g,i⟩:=h;obtain ⟨d,_⟩:=Za9 f g;obtain ⟨l,j⟩:=ZjE f (by have:=d.1;have:=d.2.1;omega) i;unfold ZaT;rw [j];exact d.append l
theorem Zcz {g:List Int}(j:∀ z ∈ g,0 <= z/\z <= 255):∀ (n:Nat) (a b:Int) (e:List Nd),0 <= a -> Zbd g n a=some (e,b) -> Lies g a (e.flatMap ZaT) b/\e.length=n
 | 0,a,b,e,ha,h=>by cases h;exact ⟨Lies.nil ha,rfl⟩
 | n+1,a,b,e,ha,h=>by
  rw [Zbd,Option.bind_eq_some_iff] at h;obtain ⟨⟨x,c⟩,k,i⟩:=h;rw [Option.map_eq_some_iff] at i;obtain ⟨⟨q,d⟩,l,m⟩:=i;cases m;have f:=Ziw j k;obtain ⟨p,o⟩:=Zcz j n c d q (by have:=f.1;have:=f.2.1;omega) l;exact ⟨f.append p,by simp [o]⟩
theorem Zgz (b:List Int)(f:Nat)(x:Int)(g:0 <= x)(d:x < lim (f+1)):scan (f+1) (enc (f+1) x ++ b)=some (enc (f+1) x):=by
 induction f generalizing x with
 | zero =>
  have a:x < 128:=by simpa [lim] using d
  rw [ZaW 0 x a];simp [scan,a]
 | succ f ih =>
  by_cases a:x < 128
  ·rw [ZaW _ x a];simp [scan,a]
  ·obtain ⟨e,i,c⟩:=ZcQ (f+1) x (by omega) d
   rw [Zb4 _ x (by omega),List.cons_append];simp only [scan];rw [if_neg (by omega),ih (x / 128) (by omega) c];rfl
theorem ZkF (f:Nat)(x:Int)(e:0 <= x)(c:x < lim (f+1)):val (enc (f+1) x)=x:=by
 induction f generalizing x with
 | zero =>
  have b:x < 128:=by simpa [lim] using c
  rw [ZaW 0 x b];simp only [val];omega
 | succ f ih =>
  by_cases b:x < 128
  ·rw [ZaW _ x b];simp only [val];omega
  ·obtain ⟨d,g,a⟩:=ZcQ (f+1) x (by omega) c
   rw [Zb4 _ x (by omega)];simp only [val];rw [ih (x / 128) (by omega) a];omega
theorem Zjs (f:Nat)(x:Int)(i:0 < x)(d:x < lim (f+1)):(enc (f+1) x).getLast? ≠ some 0:=by
 induction f generalizing x with
 | zero =>
  have c:x < 128:=by simpa [lim] using d
  rw [ZaW 0 x c];simp;omega
 | succ f ih =>
  by_cases c:x < 128
  ·rw [ZaW _ x c];simp;omega
  ·obtain ⟨g,j,a⟩:=ZcQ (f+1) x (by omega) d
   rw [Zb4 _ x (by omega)]
   have b:enc (f+1) (x / 128) ≠ []:=by
    intro e;have:=Zgz [] f (x / 128) (by omega) a;rw [e] at this;simp [scan] at this
   rw [List.getLast?_cons_of_ne_nil b];exact ih (x / 128) (by omega) a
theorem Zee {x:Int}(h:x <= 9223372036854775807):x < lim (8+1):=by
 rw [Zd9];omega
theorem Zka (a b:List Int)(x:Int)(e:0 <= x)(f:x <= 9223372036854775807):gN (a ++ (enc 9 x ++ b)) (a.length:Int)=(x,(a.length:Int)+(enc 9 x).length,true):=by
 have g:scan 9 ((a ++ (enc 9 x ++ b)).drop a.length)=some (enc 9 x):=by
  rw [List.drop_left];exact Zgz b 8 x e (Zee f)
 have d:¬ (a.length:Int) < 0:=by omega
 simp only [gN,d,if_false,Int.toNat_natCast,g];rw [if_neg,ZkF 8 x e (Zee f)];intro c;rcases Int.lt_or_eq_of_le e with h | h
 ·exact Zjs 8 x h (Zee f) c.2
 ·subst h
  have:=c.1;rw [ZaW 8 0 (by omega)] at this;simp at this
theorem Zfk (s:ByteArray):strOfNums (sb s)=s:=by
 have a:∀ l:List UInt8,(l.map fun b=>(b.toNat:Int)).map (fun n=>UInt8.ofNat n.toNat)=l:=by
  intro l
  induction l with
  | nil=>rfl
  | cons b l ih=>simp only [List.map_cons,ih];simp
 have e:(sb s).map (fun n=>UInt8.ofNat n.toNat)=s.data.toList:=a _;unfold strOfNums;rw [e]
def num8 (zs:List Int)(at_:Int)(ok:Bool):Int × Int × Bool:=if ok && (gN zs at_).2.2 then ((gN zs at_).1,(gN zs at_).2.1,true) else (0,at_,false)
def rdP (zs:List Int)(a:Int):Option (List Nd × Int) :=
 (rd1 zs a).bind fun p=>if p.1 > 3000 then none else (Zbd zs p.1.toNat p.2).bind fun q=>if Zap q.1 then some q else none
def sB (zs:List Int)(k a:Int)(ok:Bool):Nd × Int × Bool :=
 if k=2 \/ k=8 \/ k=9 then (⟨k,(num8 zs a ok).1,ByteArray.empty,0,0⟩,(num8 zs a ok).2)
 else if k=3 then (⟨k,(num8 zs a ok).1 - 1000000000,ByteArray.empty,0,0⟩,(num8 zs a ok).2)
 else if k=4 then (⟨k,0,(gT zs a).1,0,0⟩,(gT zs a).2.1,ok && (gT zs a).2.2)
 else if k=5 then (⟨k,0,ByteArray.empty,(num8 zs a ok).1,(num8 zs (num8 zs a ok).2.1 (num8 zs a ok).2.2).1⟩,(num8 zs (num8 zs a ok).2.1 (num8 zs a ok).2.2).2)
 else if k=6 then (⟨k,(num8 zs a ok).1,ByteArray.empty,(num8 zs (num8 zs a ok).2.1 (num8 zs a ok).2.2).1,0⟩,(num8 zs (num8 zs a ok).2.1 (num8 zs a ok).2.2).2)
 else if k=7 then (⟨k,0,ByteArray.empty,(num8 zs a ok).1,0⟩,(num8 zs a ok).2)
 else (⟨k,0,ByteArray.empty,0,0⟩,a,ok)
def sN (zs:List Int)(a:Int):Nd × Int × Bool:=sB zs (num8 zs a true).1 (num8 zs a true).2.1 (num8 zs a true).2.2
def sNs (zs:List Int):Nat -> List Nd -> Int -> Bool -> List Nd × Int × Bool
 | 0,xs,a,ok=>(xs,a,ok)
 | m+1,xs,a,ok=>if ok then sNs zs m (xs ++ [(sN zs a).1]) (sN zs a).2.1 (sN zs a).2.2 else (xs,a,false)
def ZiA (zs:List Int)(a:Int)(ok:Bool):Bool:=(num8 zs a ok).2.2 && decide ((num8 zs a ok).1 <= 3000)
def sP (zs:List Int)(a:Int)(ok:Bool):List Nd × Int × Bool:=sNs zs (num8 zs a ok).1.toNat [] (num8 zs a ok).2.1 (ZiA zs a ok)
def sOk (zs:List Int)(a:Int)(ok:Bool):Bool:=(sP zs a ok).2.2 && decide ((sP zs a ok).2.1=zs.length) && Zap (sP zs a ok).1
theorem Zba (b:List Int)(a:Int):(num8 b a true).2.2=(rd1 b a).isSome/\∀ p,rd1 b a=some p -> num8 b a true=(p.1,p.2,true):=by
 unfold num8 rd1;cases (gN b a).2.2 <;> simp
theorem Zcy (b:List Int)(a:Int):num8 b a false=(0,a,false):=by simp [num8]
theorem ZaQ {b:List Int}{a:Int}(h:rd1 b a=none):num8 b a true=(0,a,false):=by
 unfold num8 rd1 at *;cases c:(gN b a).2.2 with
 | false=>simp
 | true=>rw [c] at h;cases h
theorem Zco {b:List Int}{a:Int}{p:Int × Int}(h:rd1 b a=some p):0 <= p.1/\p.1 <= 9223372036854775807/\0 <= p.2/\p.2 <= b.length:=by
 unfold rd1 at h;split at h
 ·rename_i c
  cases h;have:=Zjj b a (gN b a).1 (gN b a).2.1 (by rw [<- c]);exact this
 ·cases h
theorem Zhg (b:List Int)(a:Int)(c:Bool)(e:0 <= a)(f:a <= b.length):0 <= (num8 b a c).1/\(num8 b a c).1 <= 9223372036854775807/\0 <= (num8 b a c).2.1/\(num8 b a c).2.1 <= b.length:=by
 cases c with
 | false=>rw [Zcy];exact ⟨by omega,by omega,e,f⟩
 | true =>
  cases d:rd1 b a with
  | none=>rw [ZaQ d];exact ⟨by omega,by omega,e,f⟩
  | some p=>rw [(Zba b a).2 p d];exact Zco d
theorem Zla (b:List Int)(k a:Int):(∀ p,rdB b k a=some p -> sB b k a true=(p.1,p.2,true))/\(rdB b k a=none -> (sB b k a true).2.2=false \/ ∀ i,Zav (sB b k a true).1 i=false):=by
 unfold rdB sB
 by_cases n:k=1
 ·subst n
  rw [if_pos rfl,if_neg (by omega),if_neg (by omega),if_neg (by omega),if_neg (by omega),if_neg (by omega),if_neg (by omega)];exact ⟨fun p h=>by (cases h;rfl),fun h=>by (cases h)⟩
 rw [if_neg n]
 by_cases e:k=2 \/ k=8 \/ k=9
 ·rw [if_pos e,if_pos e]
  cases c:rd1 b a with
  | none=>rw [ZaQ c];exact ⟨fun p h=>by (simp at h),fun _=>.inl rfl⟩
  | some q=>rw [(Zba b a).2 q c];exact ⟨fun p h=>by (simp at h;subst h;rfl),fun h=>by (simp at h)⟩
 rw [if_neg e,if_neg e]
 by_cases f:k=3
 ·subst f
  rw [if_pos rfl,if_pos rfl];cases c:rd1 b a with
  | none=>rw [ZaQ c];exact ⟨fun p h=>by (simp at h),fun _=>.inl rfl⟩
  | some q=>rw [(Zba b a).2 q c];exact ⟨fun p h=>by (simp at h;subst h;rfl),fun h=>by (simp at h)⟩
 rw [if_neg f,if_neg f]
 by_cases g:k=4
 ·subst g
  rw [if_pos rfl,if_pos rfl];cases r:(gT b a).2.2 with
  | false=>exact ⟨fun p h=>by (simp at h),fun _=>.inl (by simp)⟩
  | true=>exact ⟨fun p h=>by (simp at h;subst h;rfl),fun h=>by (simp at h)⟩
 rw [if_neg g,if_neg g]
 by_cases j:k=5
 ·subst j
  rw [if_pos rfl,if_pos rfl];cases c:rd1 b a with
  | none=>rw [ZaQ c];exact ⟨fun p h=>by (simp at h),fun _=>.inl (by simp only [Zcy])⟩
  | some q =>
   rw [(Zba b a).2 q c];simp only [Option.bind_some];cases d:rd1 b q.2 with
   | none=>rw [ZaQ d];exact ⟨fun p h=>by (simp at h),fun _=>.inl rfl⟩
   | some t=>rw [(Zba b q.2).2 t d];exact ⟨fun p h=>by (simp at h;subst h;rfl),fun h=>by (simp at h)⟩
 rw [if_neg j,if_neg j]
 by_cases l:k=6
 ·subst l
  rw [if_pos rfl,if_pos rfl];cases c:rd1 b a with
  | none=>rw [ZaQ c];exact ⟨fun p h=>by (simp at h),fun _=>.inl (by simp only [Zcy])⟩
  | some q =>
   rw [(Zba b a).2 q c];simp only [Option.bind_some];cases d:rd1 b q.2 with
   | none=>rw [ZaQ d];exact ⟨fun p h=>by (simp at h),fun _=>.inl rfl⟩
   | some t=>rw [(Zba b q.2).2 t d];exact ⟨fun p h=>by (simp at h;subst h;rfl),fun h=>by (simp at h)⟩
 rw [if_neg l,if_neg l]
 by_cases m:k=7
 ·subst m
  rw [if_pos rfl,if_pos rfl];cases c:rd1 b a with
  | none=>rw [ZaQ c];exact ⟨fun p h=>by (simp at h),fun _=>.inl rfl⟩
  | some q=>rw [(Zba b a).2 q c];exact ⟨fun p h=>by (simp at h;subst h;rfl),fun h=>by (simp at h)⟩
 rw [if_neg m,if_neg m];refine ⟨fun p h=>by (cases h),fun _=>Or.inr fun i=>?_⟩;unfold Zav
 have:(decide (1 <= k) && decide (k <= 9))=false:=by
  rcases Int.lt_or_le k 1 with h | h
  ·rw [decide_eq_false (by omega)];rfl
  ·rcases Int.lt_or_le 9 k with o | o
   ·rw [decide_eq_false (p:=k <= 9) (by omega),Bool.and_false]
   ·omega
 show (decide (1 <= k) && decide (k <= 9) && _ && _ && _)=false
 rw [this];rfl
theorem Zlp (b:List Int)(a:Int):(∀ p,rdNd b a=some p -> sN b a=(p.1,p.2,true))/\(rdNd b a=none -> (sN b a).2.2=false \/ ∀ i,Zav (sN b a).1 i=false):=by
 unfold rdNd sN;cases c:rd1 b a with
 | none =>
  rw [ZaQ c];refine ⟨fun p h=>by (simp at h),fun _=>.inl ?_⟩;simp [sB]
 | some q =>
  rw [(Zba b a).2 q c];exact Zla b q.1 q.2
theorem ZbK (a b:List Nd)(i:Nat):ZaA (a ++ b) i=(ZaA a i && ZaA b (i+a.length)):=by
 induction a generalizing i with
 | nil=>simp [ZaA]
 | cons x a ih=>simp only [List.cons_append,ZaA,List.length_cons];rw [ih,Bool.and_assoc,show i+1+a.length=i+(a.length+1) by omega]
theorem Zfg (b:List Int):∀ (m:Nat) (c:List Nd) (a:Int) (d:Bool),∃ e,(sNs b m c a d).1=c ++ e
 | 0,c,a,d=>⟨[],by simp [sNs]⟩
 | m+1,c,a,d=>by
  rw [sNs];split
  ·obtain ⟨e,h⟩:=Zfg b m (c ++ [(sN b a).1]) (sN b a).2.1 (sN b a).2.2
   exact ⟨[(sN b a).1] ++ e,by rw [h,List.append_assoc]⟩
  ·exact ⟨[],by simp⟩
theorem Zb2 (c:List Int)(m:Nat)(b:List Nd)(a:Int):sNs c m b a false=(b,a,false):=by cases m <;> rfl
theorem Zkg (b:List Int):∀ (m:Nat) (c:List Nd) (a:Int),
  (∀ p,Zbd b m a=some p -> sNs b m c a true=(c ++ p.1,p.2,true))/\(Zbd b m a=none -> (sNs b m c a true).2.2=false \/ ZaA (sNs b m c a true).1 0=false)
 | 0,c,a=>⟨fun p h=>by cases h;simp [sNs],fun h=>by cases h⟩
 | m+1,c,a=>by
  rw [Zbd,sNs,if_pos rfl];obtain ⟨j,k⟩:=Zlp b a;cases e:rdNd b a with
  | some p =>
   rw [j p e];obtain ⟨g,i⟩:=Zkg b m (c ++ [p.1]) p.2;simp only [Option.bind_some];cases d:Zbd b m p.2 with
   | some q=>exact ⟨fun t h=>by (simp at h;subst h;rw [g q d];simp),fun h=>by (simp at h)⟩
   | none=>exact ⟨fun t h=>by (simp at h),fun _=>i d⟩
  | none =>
   refine ⟨fun t h=>by (simp at h),fun _=>?_⟩;rcases k e with h | h
   ·rw [h,Zb2];exact .inl rfl
   ·right
    obtain ⟨l,f⟩:=Zfg b m (c ++ [(sN b a).1]) (sN b a).2.1 (sN b a).2.2;rw [f,List.append_assoc,ZbK,List.singleton_append,ZaA,h,Bool.false_and,Bool.and_false]
theorem Zlb (b:List Int)(a:Int)(k:List Nd):(sOk b a true=true/\(sP b a true).1=k) <-> rdP b a=some (k,(b.length:Int)):=by
 unfold sOk rdP sP ZiA;cases j:rd1 b a with
 | none=>rw [ZaQ j];simp [sNs]
 | some q =>
  rw [(Zba b a).2 q j];simp only [Option.bind_some,Bool.true_and]
  by_cases i:q.1 > 3000
  ·rw [if_pos i,decide_eq_false (by omega),Zb2]
   simp
  ·rw [if_neg i,decide_eq_true (by omega)]
   obtain ⟨l,m⟩:=Zkg b q.1.toNat [] q.2;cases c:Zbd b q.1.toNat q.2 with
   | some p =>
    rw [l p c];simp only [List.nil_append,Option.bind_some,Bool.true_and,Bool.and_eq_true,decide_eq_true_eq];obtain ⟨n,o⟩:=p;constructor
    ·rintro ⟨⟨f,e⟩,g⟩
     rw [if_pos e];simp only at f g;rw [f,g]
    ·intro h
     split at h
     ·rename_i e
      cases h;exact ⟨⟨rfl,e⟩,rfl⟩
     ·cases h
   | none =>
    simp only [Option.bind_none,reduceCtorEq,iff_false];rintro ⟨h,-⟩;simp only [Bool.and_eq_true,Zap] at h;rcases m c with d | d
    ·rw [d] at h;simp at h
    ·rw [d] at h;simp at h
theorem Zgx {j:List Int}{f:List Nd}(o:∀ z ∈ j,0 <= z/\z <= 255)(h:rdP j 0=some (f,(j.length:Int))):Zap f=true/\Zcu f=j:=by
 unfold rdP at h;rw [Option.bind_eq_some_iff] at h;obtain ⟨⟨n,a⟩,q,g⟩:=h;split at g
 ·cases g
 rw [Option.bind_eq_some_iff] at g;obtain ⟨⟨v,b⟩,r,l⟩:=g;split at l
 ·rename_i s
  cases l;obtain ⟨k,u⟩:=Za9 o q;obtain ⟨p,t⟩:=Zcz o n.toNat a _ f (by have:=k.1;have:=k.2.1;omega) r;refine ⟨s,?_⟩;obtain ⟨_,m,d,i⟩:=k.append p;have e:(f.length:Int)=n:=by omega
  unfold Zcu;rw [e];rw [Int.toNat_zero,List.drop_zero] at i;have c:=congrArg List.length i;rw [List.length_append] at c;have:d=[]:=List.eq_nil_of_length_eq_zero (by omega);rw [this,List.append_nil] at i;exact i.symm
 ·cases l
theorem ZhT {x y:Int}{l m:List Int}(d:0 <= x)(e:0 <= y)(a:x <= 9223372036854775807)(b:y <= 9223372036854775807)(h:encI x ++ l=encI y ++ m):x=y:=by
 have c:=Zka [] l x d a;have f:=Zka [] m y e b;rw [Zck x d,Zck y e] at h;rw [h,f] at c;have:=congrArg (fun t=>t.1) c;exact this.symm
end Go.Proofs.YtanhoamdlhaaeaaGreatDoor
