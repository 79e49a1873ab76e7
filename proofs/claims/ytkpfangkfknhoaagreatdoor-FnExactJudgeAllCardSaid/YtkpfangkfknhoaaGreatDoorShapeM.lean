/-
  Texts that stood by themselves, laid into one.
-/
import Derived.Test.YtkpfangkfknhoaaGreatDoorNumberM
import Derived.Lib.AppendStr
import Derived.Laws.IdiomStrings
import Derived.Laws.BytesArg
import Derived.Laws.CopyOwn
import Derived.Below
import Derived.Deep.MidRow
import Derived.Laws.ResultCell
/-
  Contract of (impl.reader).next: the byte at the place, and the place one further; none where there is no byte.
-/
set_option maxHeartbeats 1600000
namespace Go.Proofs.YtkpfangkfknhoaaGreatDoor
open Go.Proofs.Tryz
open Go.RowKit
def One (w:World)(P:Nat)(a:Int):Prop:=w.heap[P]? = some (.cells #[.int .i64 a] 3 (0,0))
theorem One.cell {w:World}{P:Nat}{a:Int}(h:One w P a):w.cell? ⟨P,0,none⟩=some (.int .i64 a):=by
 rw [cd w P 0 _ 3 (0,0) h];rfl
theorem One.free {w:World}{P:Nat}{a:Int}(h:One w P a):w.frozen? ⟨P,0,none⟩=false:=cw w P 0 _ 3 h
theorem One.lt {w:World}{P:Nat}{a:Int}(h:One w P a):P < w.heap.size:=(bl h)
theorem One.set {w:World}{P:Nat}{a:Int}(h:One w P a)(b:Int):One (w.setCell ⟨P,0,none⟩ (.int .i64 b)) P b:=cu w P 0 _ 3 _ h
theorem One.kept {w c:World}{P:Nat}{a:Int}(h:One w P a){row:Option Nat}(d:w.grownBy c row)(b:some P ≠ row):One c P a:=(d.block P h.lt b).trans h
theorem One.below {w b:World}{P B:Nat}{a:Int}(h:One w P a)(d:Below B w b)(c:P < B):One b P a:=(d.block P c).trans h
theorem ZjS (v:Value)(zs:List Int)(P:Nat)(a:Int)(w:World)(R:∃ f b,v=.slice f zs.length b)(h:One w P a)(_hl:zs.length <= 140737488351232)(c:a < 0 \/ (zs.length:Int) <= a) :
  Calls prog 195 #[.agg #[v,.pointer (some ⟨P,0,none⟩)]] w fun e d=>e=.returned (.tuple #[.int .u8 0,.bool false])/\One d P a/\w.grownBy d (some P):=by
 obtain ⟨f,b,rfl⟩:=R;have j:=h.cell;have k:=h.lt
 by_cases g:a < 0
 ·clear c
  go_enter func195,ntmps195
  go_wp2
  go_ret2
  exact ⟨rfl,h.kept (cF w _ none) (by simp),cF w _ _⟩
 ·have i:(zs.length:Int) <= a:=by omega
  clear c
  go_enter func195,ntmps195
  go_wp2
  go_ret2
  exact ⟨rfl,h.kept (cF w _ none) (by simp),cF w _ _⟩
theorem ZkA (zs:List Int)(P n g o c:Nat)(w:World)(h:One w P n)(k:zs.length <= 140737488351232)(m:n < zs.length)(a:w.cell? ⟨g,o+n,none⟩=some (.int .u8 zs[n]))(j:g ≠ P) :
  Calls prog 195 #[.agg #[.slice (some ⟨g,o,none⟩) zs.length c,.pointer (some ⟨P,0,none⟩)]] w fun e d=>e=.returned (.tuple #[.int .u8 zs[n],.bool true])/\One d P ((n:Int)+1)/\w.grownBy d (some P):=by
 have p:=h.cell;have q:=h.free;have l:=h.lt;have f:=World.block_lt_of_cell? _ _ a;simp only at f;generalize zs[n]=b at a ⊢
 go_enter func195,ntmps195
 go_wp2
 go_ret2
 have i:=(h.set ((n:Int)+1)).kept (cF (w.setCell ⟨P,0,none⟩ (.int .i64 ((n:Int)+1))) (.cells #[.slice (some ⟨g,o,none⟩) zs.length c,.pointer (some ⟨P,0,none⟩)] 231) none) (by simp);exact ⟨rfl,i,Zaj (Zan w P 0 _) (cF _ _ _)⟩
theorem Zal {w c b:World}{row:Option Nat}{B:Nat}(h:w.grownBy c row)(k:Below B c b)(d:w.heap.size <= B):w.grownBy b row :=
 ⟨k.os.trans h.os,k.tape.trans h.tape,k.output.trans h.output,Nat.le_trans h.size k.size,fun i hi a=>(k.block i (by omega)).trans (h.block i hi a)⟩
theorem Zm1 (zs:List Int)(n:Nat)(a:List Int)(h:scan 9 (zs.drop n)=some a) :
  (gN zs (n:Int)).1=(nV a).1/\(gN zs (n:Int)).2.2=(nV a).2/\((gN zs (n:Int)).2.2=true -> (gN zs (n:Int)).2.1=(n:Int)+a.length):=by
 have b:¬ (n:Int) < 0:=by omega
 simp only [gN,b,if_false,Int.toNat_natCast,h,nV];split <;> simp
def ZgI (w:World)(F:Nat):Nat :=
 match w.cell? ⟨F,9,none⟩ with
 | some v=>(intOf v).toNat
 | none=>0
theorem ZeH {w:World}{F:Nat}{a:List Int}(h:a.length <= 9)(b:w.heap[F]? = some (.cells (Zcm a) 261 (0,0))):ZgI w F=a.length:=by
 unfold ZgI;rw [cd w F 9 _ 261 (0,0) b,ZbT a h];simp [intOf]
theorem Zl8 (v:Value)(zs:List Int)(P:Nat)(a:Int)(w:World)(R:∃ g b,v=.slice g zs.length b)(h:One w P a)(m:zs.length <= 140737488351232)(l:a < 0 \/ (zs.length:Int) <= a) :
  Calls prog 164 #[.agg #[v,.pointer (some ⟨P,0,none⟩)]] w fun e j=>e=.returned (.tuple #[.int .i64 0,.bool false])/\(∃ q,One j P q)/\w.grownBy j (some P):=by
 have o:=h.lt;obtain ⟨g,b,rfl⟩:=R
 go_enter func164,ntmps164
 go_wp2_with fail;refine wp_loop_rounds 1 ?_;rw [rounds_succ];go_wp2_with fail
 have d:w.grownBy ((w.alloc (Obj.cells #[Value.slice g zs.length b,Value.pointer (some ⟨P,0,none⟩)] 231)).alloc (Obj.cells (Zcm []) 261)) (some P) :=
  Zaj (cF _ _ _) (cF _ _ _)
 have k:One ((w.alloc (Obj.cells #[Value.slice g zs.length b,Value.pointer (some ⟨P,0,none⟩)] 231)).alloc (Obj.cells (Zcm []) 261)) P a :=
  (h.kept (cF w _ none) (by simp)).kept (cF _ _ none) (by simp)
 refine (ZjS _ zs P a _ ⟨g,b,rfl⟩ k m l).mono ?_;rintro e n ⟨rfl,f,c⟩;have i:=Zaj d c;clear d k c;go_wp2_with fail
 go_ret2
 exact ⟨rfl,⟨_,f⟩,i⟩
theorem Zmw (zs:List Int)(P n g o y:Nat)(w:World)(h:One w P n)(Y:zs.length <= 140737488351232)(hn:n < zs.length)(hz:∀ z ∈ zs,0 <= z/\z <= 255)(U:∀ i,i < zs.length -> w.cell? ⟨g,o+i,none⟩=some (.int .u8 (zs.getD i 0)))(hg:g < w.heap.size)(M:g ≠ P) :
  Calls prog 164 #[.agg #[.slice (some ⟨g,o,none⟩) zs.length y,.pointer (some ⟨P,0,none⟩)]] w fun e Z =>
   e=.returned (.tuple #[.int .i64 (gN zs n).1,.bool (gN zs n).2.2])/\(∃ q,One Z P q/\((gN zs n).2.2=true -> q=(gN zs n).2.1))/\w.grownBy Z (some P):=by
 have hP:=h.lt
 go_enter func164,ntmps164
 go_wp2_with fail
 go_loopw [5] (fun _ wr=>∃ (k:Nat) (a:List Int),k <= 9/\n+k <= zs.length/\Hid (Sc zs n k a)/\Hid (∀ z ∈ a,0 <= z/\z <= 255)/\One wr P ((n:Int)+k)/\wr.heap[w.heap.size+1]? = some (.cells (Zcm a) 261 (0,0)) /\
   wr.heap[w.heap.size]? = some (.cells #[.slice (some ⟨g,o,none⟩) zs.length y,.pointer (some ⟨P,0,none⟩)] 231 (0,0))/\w.grownBy wr (some P)) (fun _ wr=>9 - ZgI wr (w.heap.size+1))
 case atStart =>
  refine ⟨0,[],by omega,by omega,Sc.start zs n,by simp [Hid],?_,cH _ _ _,heap_alloc2_old _ _ _,Zaj (cF _ _ _) (cF _ _ _)⟩;rw [show (n:Int)+((0:Nat):Int)=(n:Int) by omega];exact (h.kept (cF w _ none) (by simp)).kept (cF _ _ none) (by simp)
 case round =>
  obtain ⟨k,a,hk,aa,J,HZ,l,f,r,B⟩:=hrel;have F:=J.out.1
  have V:wr.cell? ⟨w.heap.size+1,9,none⟩=some (.int .i64 k):=by
   rw [cd wr _ 9 _ 261 (0,0) f,ZbT a (by omega),F]
  have R:wr.cell? ⟨w.heap.size,0,none⟩=some (.slice (some ⟨g,o,none⟩) zs.length y):=by rw [cd wr _ 0 _ 231 (0,0) r];rfl
  have S:wr.cell? ⟨w.heap.size,1,none⟩=some (.pointer (some ⟨P,0,none⟩)):=by rw [cd wr _ 1 _ 231 (0,0) r];rfl
  have N:Hid (a.length=k):=F;clear F
  by_cases h9:k < 9
  ·by_cases x:n+k < zs.length
   ·have G:wr.cell? ⟨g,o+(n+k),none⟩=some (.int .u8 zs[n+k]):=by
     rw [World.cell?_of_block (w:=w) (B.block g hg (by simpa using M)),U (n+k) x];simp [x]
    have t:One wr P ((n+k:Nat):Int):=by rw [show ((n+k:Nat):Int)=(n:Int)+k by omega];exact l
    have T:=hz zs[n+k] (List.getElem_mem _);have I:some (w.heap.size+1) ≠ some P:=by simp;omega
    have K:some w.heap.size ≠ some P:=by simp;omega
    have W:=(bl f);have X:=(bl r)
    have H:Hid (∀ z ∈ a ++ [zs[n+k]],0 <= z/\z <= 255):=by
     intro z A;simp only [List.mem_append,List.mem_singleton] at A;rcases A with A | rfl
     ·exact HZ.out z A
     ·exact T
    have s:Hid ((a ++ [zs[n+k]]).length=k+1):=by unfold Hid;rw [List.length_append,N.out];rfl
    go_wp2_with fail;refine (ZkA zs P (n+k) g o y wr t Y x G M).mono ?_;rintro e O ⟨rfl,j,b⟩;have p:O.heap[w.heap.size+1]? = some (.cells (Zcm a) 261 (0,0)):=(b.block _ W I).trans f;have v:O.heap[w.heap.size]? = some (.cells #[.slice (some ⟨g,o,none⟩) zs.length y,.pointer (some ⟨P,0,none⟩)] 231 (0,0)):=(b.block _ X K).trans r;clear V R S l t G;go_wp2_with fail;refine (Zmi (w.heap.size+1) zs[n+k] a O (by have:=N.out;omega) p).mono ?_;rintro e w2 ⟨rfl,c,d⟩;have u:=j.below d (by omega);have E:=(d.block _ (by omega)).trans v;have m:=Zal (Zaj B b) d (by omega);clear p v j b d
    by_cases D:zs[n+k] < 128
    ·have L:=J.out.last h9 x D
     have C:Hid _:=Zm1 zs n _ L;clear L;go_wp2_with fail;refine (Zit (w.heap.size+1) (a ++ [zs[n+k]]) w2 (by rw [s.out];omega) (by rw [s.out];omega) H.out c).mono ?_;rintro e w3 ⟨rfl,rfl⟩;go_wp2_with fail
     go_ret2
     obtain ⟨e1,e2,e3⟩:=C.out;refine ⟨by rw [e1,e2];rfl,⟨_,u,fun Q=>?_⟩,m⟩;rw [e3 Q,s.out];omega
    ·go_wp2_with fail
     go_roundw
     case rel =>
      exact ⟨k+1,a ++ [zs[n+k]],by omega,by omega,J.out.more h9 x (by omega),H,by rw [show (n:Int)+((k+1:Nat):Int)=((n+k:Nat):Int)+1 by omega];exact u,c,E,m⟩
     case measure =>
      rw [ZeH (by rw [s.out];omega) c,ZeH (by rw [N.out];omega) f,s.out,N.out];omega
   ·have C:Hid (gN zs (n:Int)=(0,0,false)):=Zc5 zs n (J.out.out (Or.inr (by omega)))
    go_wp2_with fail;refine (ZjS _ zs P _ wr ⟨_,_,rfl⟩ l Y (Or.inr (by omega))).mono ?_;rintro e O ⟨rfl,j,b⟩;have m:=Zaj B b;go_wp2_with fail
    go_ret2
    exact ⟨by rw [C.out];rfl,⟨_,j,by rw [C.out];intro h;cases h⟩,m⟩
  ·have C:Hid (gN zs (n:Int)=(0,0,false)):=Zc5 zs n (J.out.out (Or.inl (by omega)))
   go_wp2_with fail
   go_ret2
   exact ⟨by rw [C.out];rfl,⟨_,l,by rw [C.out];intro h;cases h⟩,B⟩
theorem Zdy (v:Value)(zs:List Int)(P:Nat)(a:Int)(j w:World)(R:Row j v zs)(r:Below j.heap.size j w)(z:j.heap.size <= P)(h:One w P a) :
  Calls prog 164 #[.agg #[v,.pointer (some ⟨P,0,none⟩)]] w fun e k =>
   e=.returned (.tuple #[.int .i64 (gN zs a).1,.bool (gN zs a).2.2])/\(∃ q,One k P q/\((gN zs a).2.2=true -> q=(gN zs a).2.1))/\w.grownBy k (some P):=by
 obtain ⟨y,d,rfl,s,m,u,b⟩:=R
 by_cases c:a < 0 \/ (zs.length:Int) <= a
 ·have f:gN zs a=(0,0,false):=by
   by_cases t:a < 0
   ·exact ZlR zs a t
   ·obtain ⟨n,rfl⟩:=cG (show 0 <= a by omega)
    exact Zc5 zs n ((Sc.start zs n).out (Or.inr (by omega)))
  rw [f];refine (Zl8 _ zs P a w ⟨y,d,rfl⟩ h m c).mono ?_;rintro e k ⟨rfl,⟨q,x⟩,l⟩;exact ⟨rfl,⟨q,x,by intro h;cases h⟩,l⟩
 ·obtain ⟨n,rfl⟩:=cG (show 0 <= a by omega)
  obtain ⟨g,o,rfl,f,b⟩:=b (by intro e;subst e;simp at c);exact Zmw zs P n g o d w h m (by omega) u (fun i hi=>(r.cell (p:=⟨g,o+i,none⟩) f).trans (b i hi)) (cy f r.size) (by omega)
def sb (s:ByteArray):List Int:=s.data.toList.map fun b=>(b.toNat:Int)
theorem ZaJ (s:ByteArray):(sb s).length=s.size:=by rw [sb,List.length_map,Array.length_toList];rfl
theorem Zh3 (s:ByteArray):∀ z ∈ sb s,0 <= z/\z <= 255:=by
 intro z a;simp only [sb,List.mem_map] at a;obtain ⟨b,_,rfl⟩:=a;have:=b.toNat_lt;omega
def pt (s:ByteArray):List Int:=encI s.size ++ sb s
theorem Zc4 (s:ByteArray):(pt s).length=(encI s.size).length+s.size:=by rw [pt,List.length_append,ZaJ]
theorem Zna (s:ByteArray):∀ z ∈ pt s,0 <= z/\z <= 255:=by
 intro z a;simp only [pt,List.mem_append] at a;rcases a with a | a
 ·exact ZbY _ z a
 ·exact Zh3 s z a
theorem Zdj (s:ByteArray)(a j:Nat)(u:Value)(h:(bv (sb s))[j]? = some u):(bytesRow s a)[j]? = some u:=by
 have b:j < s.data.size:=by
  have:=(List.getElem?_eq_some_iff.1 h).1;rw [ZaV,ZaJ] at this;exact this
 unfold bytesRow;rw [Array.getElem?_append_left (by simpa using b)];simp only [bv,sb,List.map_map,List.getElem?_map,Array.getElem?_toList] at h
 simpa using h
theorem ZcH {P:Program}(w:World){ops:Array Oper}{i:List Oper}{o:Oper}{a:Act}{Q:Exit -> Act -> World -> Prop}(p:o.guard=none)(x:Operand)(g f e:TypeId)(r:o.op=.convert g f x)(v:P.underlying g=some .string)(y:P.underlying f=some (.slice e))(z:P.underlying e=some (.int .u8))(s:ByteArray)(l:a.eval x=.string s)(h:∀ c b,(∀ j u,(bv (sb s))[j]? = some u -> b.cell? ((⟨w.heap.size,0,none⟩:Addr).add j)=some u) -> w.grownBy b none -> w.heap.size < b.heap.size -> wpList P ops Q i (a.put o.dst (.slice (some ⟨w.heap.size,0,none⟩) s.size c)) b) :
  wpList P ops Q (o :: i) a w:=by
 refine wpList_plain p fun K m=>?_
 obtain ⟨c,b,k,t,q,A⟩:∃ c b,(convert g f (.string s)).run P w=.ok (.slice (some ⟨w.heap.size,0,none⟩) s.size c) b /\
   (∀ j u,(bv (sb s))[j]? = some u -> b.cell? ((⟨w.heap.size,0,none⟩:Addr).add j)=some u)/\w.grownBy b none/\w.heap.size < b.heap.size:=by
  refine ⟨_,_,run_bytes_of_string w g f e s v y z,?_,?_,?_⟩
  ·intro j u n
   rw [Addr.add_lit,Nat.zero_add,cd _ w.heap.size j _ e _ (co w.drew _)];exact Zdj s _ j u n
  ·have d:=cF w.drew (Obj.cells (bytesRow s (grownCap w s.size 0 e)) e ((bytesRow s (grownCap w s.size 0 e)).size,(bytesRow s (grownCap w s.size 0 e)).size+1)) none
   exact ⟨d.os,d.tape,d.output,d.size,d.block⟩
  ·show w.heap.size < (w.heap.push _).size
   simp
 unfold Oper.wp;simp [execOp,r,l,k,Result.andThen];exact m _ _ (h c b t q A)
theorem Zgy (f:Nat)(l a:List Int)(h:scan f l=some a):a.length <= f/\a.length <= l.length:=by
 induction f generalizing l a with
 | zero=>simp [scan] at h
 | succ f ih =>
  cases l with
  | nil=>simp [scan] at h
  | cons b l =>
   simp only [scan] at h;split at h
   ·simp at h;subst h;simp
   ·simp only [Option.map_eq_some_iff] at h
    obtain ⟨c,d,rfl⟩:=h;have:=ih l c d;simp only [List.length_cons];omega
theorem Zku (zs:List Int)(a n next:Int)(h:gN zs a=(n,next,true)):0 <= n/\n <= 9223372036854775807/\0 <= next/\next <= zs.length:=by
 unfold gN at h
 by_cases g:a < 0
 ·simp [g] at h
 ·simp only [g,if_false] at h
  cases c:scan 9 (zs.drop a.toNat) with
  | none=>simp [c] at h
  | some bs =>
   simp only [c] at h;have e:=Zgy 9 _ bs c;have m:=ZbQ bs;have k:=ZeR e.1;rw [Zfg] at k
   by_cases f:1 < bs.length/\bs.getLast? = some 0
   ·rw [if_pos f] at h;simp at h
   ·rw [if_neg f] at h
    simp only [Prod.mk.injEq,and_true] at h;obtain ⟨rfl,rfl⟩:=h;have d:=e.2;simp only [List.length_drop] at d
    have i:0 < bs.length:=by
     rcases Nat.eq_zero_or_pos bs.length with h | h
     ·rw [List.eq_nil_of_length_eq_zero h] at c
      exfalso
      cases j:zs.drop a.toNat with
      | nil=>rw [j] at c;simp [scan] at c
      | cons b l =>
       rw [j] at c;simp only [scan] at c;split at c
       ·simp at c
       ·simp at c
     ·exact h
    omega
def gT (zs:List Int)(a:Int):ByteArray × Int × Bool :=
 if (gN zs a).2.2=true/\(gN zs a).1 <= (zs.length:Int) - (gN zs a).2.1 then
  (strOfNums ((zs.drop (gN zs a).2.1.toNat).take (gN zs a).1.toNat),(gN zs a).2.1+(gN zs a).1,true)
 else (⟨#[]⟩,0,false)
abbrev tV (r:ByteArray × Int × Bool):Value:=.tuple #[.string r.1,.int .i64 r.2.1,.bool r.2.2]
theorem Zlz (zs:List Int)(a n next:Int)(ok:Bool)(h:gN zs a=(n,next,ok))(b:ok=false \/ (zs.length:Int) - next < n):gT zs a=(⟨#[]⟩,0,false):=by
 unfold gT;rw [h,if_neg];rcases b with rfl | b
 ·simp
 ·intro h;have:=h.2;simp only at this;omega
theorem ZlJ (zs:List Int)(a:Int)(n next:Nat)(h:gN zs a=((n:Int),(next:Int),true))(b:(n:Int) <= (zs.length:Int) - next):gT zs a=(strOfNums ((zs.drop next).take n),(next:Int)+n,true):=by
 unfold gT;rw [h,if_pos ⟨rfl,b⟩];simp
theorem Zk5 {w:World}{g o:Nat}{zs:List Int}(a:∀ i,i < zs.length -> w.cell? ⟨g,o+i,none⟩=some (.int .u8 (zs.getD i 0)))(next n:Nat)(b:next+n <= zs.length)(i:Nat)(hi:i < n) :
  w.cell? ⟨g,o+next+i,none⟩=some (.int .u8 (((zs.drop next).take n).getD i 0)):=by
 rw [Nat.add_assoc,a (next+i) (by omega)];simp only [List.getD_eq_getElem?_getD,List.getElem?_take,List.getElem?_drop];rw [if_pos hi]
theorem ZeB (zs:List Int)(next n:Nat)(a:next+n <= zs.length):((zs.drop next).take n).length=n:=by
 simp only [List.length_take,List.length_drop];omega
theorem ZfH {w:World}{d:Option Addr}{b:Nat}{zs:List Int}(a:zs ≠ [] -> ∃ g o,d=some ⟨g,o,none⟩/\g < w.heap.size/\∀ i,i < zs.length -> w.cell? ⟨g,o+i,none⟩=some (.int .u8 (zs.getD i 0)))(next n:Nat)(c:next+n <= zs.length)(h:zs.length <= b) :
  n ≠ 0 -> ∃ g f,(if b=next then d else d.map (·.add next))=some ⟨g,f,none⟩/\∀ i,i < n -> w.cell? ⟨g,f+i,none⟩=some (.int .u8 (((zs.drop next).take n).getD i 0)):=by
 intro k;obtain ⟨g,o,rfl,_,j⟩:=a (by intro e;subst e;simp at c;omega);rw [if_neg (by omega)];exact ⟨g,o+next,by simp [Addr.add_lit],Zk5 j next n c⟩
theorem ZbB {P:Program}(w:World){ops:Array Oper}{f:List Oper}{o:Oper}{a:Act}{Q:Exit -> Act -> World -> Prop}(D:o.guard=none)(x:Operand)(d b e:TypeId)(z:o.op=.convert d b x)(s:P.underlying d=some (.slice e))(r:P.underlying b=some .string)(t:P.underlying e=some (.int .u8))(q:Option Addr)(n c:Nat)(l:List Int)(C:a.eval x=.slice q n c)(v:l.length=n)(A:n ≠ 0 -> ∃ g p,q=some ⟨g,p,none⟩/\∀ i,i < n -> w.cell? ⟨g,p+i,none⟩=some (.int .u8 (l.getD i 0)))(h:wpList P ops Q f (a.put o.dst (.string (strOfNums l))) w):wpList P ops Q (o :: f) a w:=by
 refine wpList_plain D fun K B=>?_
 have m:(convert d b (.slice q n c)).run P w=.ok (.string (strOfNums l)) w:=by
  by_cases u:n=0
  ·subst u
   have:l=[]:=List.eq_nil_of_length_eq_zero v;subst this;cases q with
   | none=>exact run_convert_bytes_nil w d e s t 0 c b r
   | some ad=>exact run_convert_bytes_back w d b e ad c [] s t r (fun j y=>absurd y (by simp))
  ·obtain ⟨g,p,rfl,k⟩:=A u
   exact run_convert_bytes_arg w d e s t g p n c l v k b r
 unfold Oper.wp;simp [execOp,z,C,m,Result.andThen];exact B _ _ h
structure Nd where
 k:Int
 n:Int
 s:ByteArray
 a:Int
 b:Int
def Nd.cs (x:Nd):List Value:=[.int .i64 x.k,.int .i64 x.n,.string x.s,.int .i64 x.a,.int .i64 x.b]
def ncs (xs:List Nd):List Value:=xs.flatMap Nd.cs
theorem Zjh:ncs []=[]:=rfl
theorem Zfh (x:Nd)(a:List Nd):ncs (x :: a)=x.cs ++ ncs a:=rfl
theorem ZaD (a b:List Nd):ncs (a ++ b)=ncs a ++ ncs b:=by simp [ncs]
theorem Zcx (a:List Nd):(ncs a).length=a.length * 5:=by
 induction a with
 | nil=>rfl
 | cons x a ih=>rw [Zfh,List.length_append,ih,List.length_cons];simp [Nd.cs];omega
theorem Zgu (a:List Nd)(i:Nat)(x:Nd)(h:a[i]? = some x)(j:Nat)(b:j < 5):(ncs a)[i * 5+j]? = x.cs[j]?:=by
 induction a generalizing i with
 | nil=>simp at h
 | cons y ys ih =>
  rw [Zfh];cases i with
  | zero =>
   simp at h;subst h;rw [Nat.zero_mul,Nat.zero_add,List.getElem?_append_left (by simpa [Nd.cs] using b)]
  | succ i =>
   rw [List.getElem?_append_right (by simp [Nd.cs];omega)];rw [show (i+1) * 5+j - y.cs.length=i * 5+j by simp [Nd.cs];omega];exact ih i (by simpa using h)
theorem Zdz (a:List Nd)(i:Nat)(x b:Nd)(h:a[i]? = some x)(j:Nat)(c:j < 5)(u:Value)(e:x.cs.set j u=b.cs):(ncs a).set (i * 5+j) u=ncs (a.set i b):=by
 induction a generalizing i with
 | nil=>simp at h
 | cons y ys ih =>
  rw [Zfh];cases i with
  | zero =>
   simp at h;subst h;rw [Nat.zero_mul,Nat.zero_add,List.set_append_left _ _ (by simpa [Nd.cs] using c),e];rfl
  | succ i =>
   rw [List.set_append_right _ _ (by simp [Nd.cs];omega)];rw [show (i+1) * 5+j - y.cs.length=i * 5+j by simp [Nd.cs];omega,ih i (by simpa using h)];rfl
theorem ZkR (a:List Nd)(i:Nat)(x b:Nd)(h:a[i]? = some x)(u:Value)(e:x.cs.set 0 u=b.cs):(ncs a).set (i * 5) u=ncs (a.set i b) :=
 Zdz a i x b h 0 (by omega) u e
theorem Nd.one (x:Nd):∀ u ∈ x.cs,u.oneCell'=true:=by
 intro u a;simp only [Nd.cs,List.mem_cons,List.not_mem_nil,or_false] at a;rcases a with rfl | rfl | rfl | rfl | rfl <;> rfl
theorem Za6 (b:List Nd):∀ u ∈ ncs b,u.oneCell'=true:=by
 intro u a;simp only [ncs,List.mem_flatMap] at a;obtain ⟨x,_,c⟩:=a;exact x.one u c
def NAt (w:World)(g o:Nat)(x:Nd):Prop :=
 w.cell? ⟨g,o,none⟩=some (.int .i64 x.k)/\w.cell? ⟨g,o+1,none⟩=some (.int .i64 x.n)/\w.cell? ⟨g,o+2,none⟩=some (.string x.s) /\
  w.cell? ⟨g,o+3,none⟩=some (.int .i64 x.a)/\w.cell? ⟨g,o+4,none⟩=some (.int .i64 x.b)
theorem NAt.below {w c:World}{g o B:Nat}{x:Nd}(h:NAt w g o x)(a:Below B w c)(b:g < B):NAt c g o x :=
 ⟨(a.cell (p:=⟨g,o,none⟩) b).trans h.1,(a.cell (p:=⟨g,o+1,none⟩) b).trans h.2.1,(a.cell (p:=⟨g,o+2,none⟩) b).trans h.2.2.1,
  (a.cell (p:=⟨g,o+3,none⟩) b).trans h.2.2.2.1,(a.cell (p:=⟨g,o+4,none⟩) b).trans h.2.2.2.2⟩
def NRow (w:World)(v:Value)(xs:List Nd):Prop :=
 ∃ ao cap,v=.slice ao xs.length cap/\(xs.length <= cap/\(ao=none -> cap=0))/\xs.length <= 9223372036854775807/\(∀ x ∈ xs,x.s.size <= maxLen) /\
  (xs ≠ [] -> ∃ g o,ao=some ⟨g,o,none⟩/\g < w.heap.size/\∀ i x,xs[i]? = some x -> NAt w g (o+i * 5) x)
theorem NRow.below {w d:World}{v:Value}{f:List Nd}(h:NRow w v f)(e:Below w.heap.size w d):NRow d v f:=by
 obtain ⟨n,c,rfl,m,k,l,a⟩:=h;refine ⟨n,c,rfl,m,k,l,fun b=>?_⟩;obtain ⟨g,o,rfl,j,a⟩:=a b;exact ⟨g,o,rfl,cy j e.size,fun i x hi=>(a i x hi).below e j⟩
theorem NRow.of_own {w:World}{base:Nat}{v:Value}{a:List Nd}(h:w.ownsRow base 194 5 v a.length (ncs a))(f:a.length <= 9223372036854775807)(m:∀ x ∈ a,x.s.size <= maxLen):NRow w v a:=by
 rcases h.2 with ⟨rfl,n⟩ | ⟨g,d,cur,rfl,q,o,c,p,l,b⟩
 ·have:a=[]:=List.eq_nil_of_length_eq_zero n
  subst this;exact ⟨none,0,rfl,by simp,by simp,by simp,fun h=>absurd rfl h⟩
 ·refine ⟨_,d,rfl,⟨c,fun h=>by cases h⟩,f,m,fun _=>⟨g,0,rfl,(bl o),fun i x hi=>?_⟩⟩
  have r:i < a.length:=(List.getElem?_eq_some_iff.1 hi).1
  have e:∀ j,j < 5 -> w.cell? ⟨g,0+i * 5+j,none⟩=x.cs[j]?:=fun j k=>by
   have:=h.cellAt (i * 5+j) (by omega);rw [Nat.zero_add,this,Zgu a i x hi j k]
  exact ⟨e 0 (by omega),e 1 (by omega),e 2 (by omega),e 3 (by omega),e 4 (by omega)⟩
theorem Zn1:(prog.info? 194).map (fun i=>(i.zero,i.size,i.bytes))=some (some (.agg #[.int .i64 0,.int .i64 0,.string ByteArray.empty,.int .i64 0,.int .i64 0]),5,48):=by kernel_rfl
theorem retB {p q:Bool}(h:p=q):Ending.returned (.bool p)=.returned (.bool q):=by rw [h]
theorem NRow.cells {w:World}{p:Option Addr}{n k:Nat}{c:List Nd}(h:NRow w (.slice p n k) c):∀ i,p=some i -> ∀ j u,(ncs c)[j]? = some u -> w.cell? (i.add j)=some u:=by
 obtain ⟨s,q,e,_,_,_,a⟩:=h;simp only [Value.slice.injEq] at e;obtain ⟨rfl,_,_⟩:=e;intro i f j u l;have r:j < c.length * 5:=by rw [<- Zcx];exact (List.getElem?_eq_some_iff.1 l).1
 obtain ⟨g,o,e,_,a⟩:=a (by intro h;subst h;simp at r);rw [e] at f;cases f;have hi:j / 5 < c.length:=by omega
 have m:c[j / 5]? = some c[j / 5]:=List.getElem?_eq_getElem hi;have d:=Zgu c (j / 5) _ m (j % 5) (by omega);rw [show j / 5 * 5+j % 5=j by omega,l] at d;obtain ⟨c0,c1,c2,c3,c4⟩:=a (j / 5) _ m;rw [Addr.add_lit];have b:j % 5=0 \/ j % 5=1 \/ j % 5=2 \/ j % 5=3 \/ j % 5=4:=by omega
 rcases b with b | b | b | b | b
 ·rw [show o+j=o+j / 5 * 5 by omega,c0,d,b];rfl
 ·rw [show o+j=o+j / 5 * 5+1 by omega,c1,d,b];rfl
 ·rw [show o+j=o+j / 5 * 5+2 by omega,c2,d,b];rfl
 ·rw [show o+j=o+j / 5 * 5+3 by omega,c3,d,b];rfl
 ·rw [show o+j=o+j / 5 * 5+4 by omega,c4,d,b];rfl
theorem Zad {w b:World}{B:Nat}{e:TypeId}{k:Nat}{v:Value}{n:Nat}{c:List Value}(h:w.ownsRow B e k v n c)(f:Below w.heap.size w b):b.ownsRow B e k v n c:=by
 refine ⟨h.1,?_⟩;rcases h.2 with ⟨rfl,l⟩ | ⟨g,a,cur,rfl,j,d,i⟩
 ·exact Or.inl ⟨rfl,l⟩
 ·exact Or.inr ⟨g,a,cur,rfl,j,(f.block g (bl d)).trans d,i⟩
theorem Zag {w:World}{B:Nat}{e:TypeId}{k:Nat}{v:Value}{n:Nat}{b:List Value}(h:w.ownsRow B e k v n b):∃ d a,v=.slice d n a:=by
 rcases h.2 with ⟨rfl,c⟩ | ⟨g,a,cur,rfl,_⟩
 ·exact ⟨none,0,by rw [c]⟩
 ·exact ⟨_,_,rfl⟩
theorem Zah {w:World}{B B':Nat}{e:TypeId}{k:Nat}{v:Value}{n:Nat}{b:List Value}(h:w.ownsRow B e k v n b)(c:B' <= B):w.ownsRow B' e k v n b:=by
 refine ⟨h.1,?_⟩;rcases h.2 with ⟨rfl,i⟩ | ⟨g,a,cur,rfl,f,d⟩
 ·exact Or.inl ⟨rfl,i⟩
 ·exact Or.inr ⟨g,a,cur,rfl,Nat.le_trans c f,d⟩
theorem Zn0:(prog.info? 194).map (·.size)=some 5:=by kernel_rfl
theorem Zc9 {ops:Array Oper}{l:List Oper}{op:Oper}{a:Act}{w:World}{Q:Exit -> Act -> World -> Prop}(q:op.guard=none)(x y:Operand)(B:op.op=.store 194 x y)(base g i m:Nat)(d:List Nd)(c:Nd)(D:a.eval x=.pointer (some ⟨g,i * 5,none⟩))(z:a.eval y=.agg #[.int .i64 c.k,.int .i64 c.n,.string c.s,.int .i64 c.a,.int .i64 c.b])(hi:i < d.length)(e:w.ownsRow base 194 5 (.slice (some ⟨g,0,none⟩) d.length m) d.length (ncs d))(h:∀ t:World,t.ownsRow base 194 5 (.slice (some ⟨g,0,none⟩) d.length m) d.length (ncs (d.set i c)) -> w.grownBy t (some g) -> wpList prog ops Q l (a.put op.dst undef) t):wpList prog ops Q (op :: l) a w:=by
 have A:w.there g (i * 5) 5:=fun j E=>by
  have:=e.cellAt (i * 5+j) (by omega);refine ⟨?_,e.frozenAt _⟩;rw [this,List.getElem?_eq_getElem (by rw [Zcx];omega)];rfl
 refine wpList_store_mid q 194 x y B g (i * 5) _ D z A Zn0 (all_oneCell_toArray c.one) ?_;have C:d[i]? = some d[i]:=List.getElem?_eq_getElem hi;have f:∀ y:Nd,(d.set i y)[i]? = some y:=fun y=>by simp [hi]
 have r:=e.stored (i * 5) (.int .i64 c.k);rw [ZkR d i d[i] ⟨c.k,d[i].n,d[i].s,d[i].a,d[i].b⟩ C _ rfl] at r;have u:=r.1.stored (i * 5+1) (.int .i64 c.n);rw [Zdz (d.set i ⟨c.k,d[i].n,d[i].s,d[i].a,d[i].b⟩) i ⟨c.k,d[i].n,d[i].s,d[i].a,d[i].b⟩ ⟨c.k,c.n,d[i].s,d[i].a,d[i].b⟩ (f _) 1 (by omega) (.int .i64 c.n) rfl,List.set_set] at u;have p:=u.1.stored (i * 5+2) (.string c.s);rw [Zdz (d.set i ⟨c.k,c.n,d[i].s,d[i].a,d[i].b⟩) i ⟨c.k,c.n,d[i].s,d[i].a,d[i].b⟩ ⟨c.k,c.n,c.s,d[i].a,d[i].b⟩ (f _) 2 (by omega) (.string c.s) rfl,List.set_set] at p;have o:=p.1.stored (i * 5+3) (.int .i64 c.a);rw [Zdz (d.set i ⟨c.k,c.n,c.s,d[i].a,d[i].b⟩) i ⟨c.k,c.n,c.s,d[i].a,d[i].b⟩ ⟨c.k,c.n,c.s,c.a,d[i].b⟩ (f _) 3 (by omega) (.int .i64 c.a) rfl,List.set_set] at o;have v:=o.1.stored (i * 5+4) (.int .i64 c.b)
 rw [Zdz (d.set i ⟨c.k,c.n,c.s,c.a,d[i].b⟩) i ⟨c.k,c.n,c.s,c.a,d[i].b⟩ ⟨c.k,c.n,c.s,c.a,c.b⟩ (f _) 4 (by omega) (.int .i64 c.b) rfl,List.set_set] at v;exact h _ v.1 ((((r.2.trans u.2).trans p.2).trans o.2).trans v.2)
def nb (b:Int):Bool:=b == 43 || b == 45 || b == 42 || b == 60 || b == 61 || b == 63 || b == 33 || b == 47 || (decide (97 <= b) && decide (b <= 122))
def Zb3 (s:ByteArray):Bool:=decide (1 <= s.size) && decide (s.size <= 12) && decide (∀ i:Fin s.size,nb (s[i].toNat)=true)
theorem ZfY {s:ByteArray}(a:1 <= s.size)(b:s.size <= 12)(h:∀ j (c:j < s.size),nb (s[j].toNat)=true):Zb3 s=true:=by
 simp only [Zb3,Bool.and_eq_true,decide_eq_true_eq];exact ⟨⟨a,b⟩,fun i=>h i.1 i.2⟩
theorem Zfy {s:ByteArray}(j:Nat)(b:j < s.size)(h:nb (s[j].toNat)=false):Zb3 s=false:=by
 rw [Bool.eq_false_iff];intro a;simp only [Zb3,Bool.and_eq_true,decide_eq_true_eq] at a;have:=a.2 ⟨j,b⟩;simp only [Fin.getElem_fin] at this;rw [this] at h;cases h
theorem ZeI {s:ByteArray}(h:¬ (1 <= s.size/\s.size <= 12)):Zb3 s=false:=by
 rw [Bool.eq_false_iff];intro a;simp only [Zb3,Bool.and_eq_true,decide_eq_true_eq] at a;exact h a.1
def lo (k:Int):Int:=if k=3 then -1000000000 else 0
def hi (k:Int):Int:=if k=2 then 1 else if k=3 \/ k=6 \/ k=9 then 1000000000 else if k=8 then 99 else 0
def hasS (k:Int):Bool:=decide (k=4)
def hasA (k:Int):Bool:=decide (k=5 \/ k=6 \/ k=7)
def hasB (k:Int):Bool:=decide (k=5)
def Zbt (p:Int)(named:Bool)(at_:Int):Bool:=if named then decide (0 <= p) && decide (p < at_) else p == 0
def Zbu (s:ByteArray)(named:Bool):Bool:=if named then Zb3 s else s.toList == []
def ZaA (x:Nd)(at_:Int):Bool :=
 decide (1 <= x.k) && decide (x.k <= 9) && decide (lo x.k <= x.n) && decide (x.n <= hi x.k) && (Zbu x.s (hasS x.k) && Zbt x.a (hasA x.k) at_ && Zbt x.b (hasB x.k) at_)
def ZaG (xs:List Nd)(i:Nat):Bool:=match xs with
 | []=>true
 | x :: xs=>ZaA x i && ZaG xs (i+1)
def Zau (xs:List Nd):Bool:=decide (xs.length <= 3000) && ZaG xs 0
theorem ZdC (a:List Nd)(i:Nat)(x:Nd)(h:a[i]? = some x):ZaG (a.drop i) i=(ZaA x i && ZaG (a.drop (i+1)) (i+1)):=by
 obtain ⟨b,c⟩:=List.getElem?_eq_some_iff.1 h;rw [List.drop_eq_getElem_cons b,c];rfl
theorem Zl1 (b:Int)(w:World):Calls prog 188 #[.int .u8 b] w fun e a=>e=.returned (.bool (nb b))/\a=w:=by
 go_enter func188,ntmps188
 go_wp2
 all_goals go_ret
 all_goals (refine ⟨retB ?_,rfl⟩;rw [Bool.eq_iff_iff];simp [nb, *];try omega)
theorem ZlV (b:Int)(w:World):Calls prog 144 #[.int .u8 b] w fun e a=>e=.returned (.bool (nb b))/\a=w:=by
 go_enter func144,ntmps144
 go_wp2
 all_goals go_ret
 all_goals (refine ⟨retB ?_,rfl⟩;rw [Bool.eq_iff_iff];simp [nb, *];try omega)
theorem Zas (x l h:Int)(w:World):Calls prog 75 #[.int .i64 x,.int .i64 l,.int .i64 h] w fun e a=>e=.returned (.bool (decide (l <= x) && decide (x <= h)))/\a=w:=by
 go_enter func75,ntmps75
 go_wp2
 all_goals go_ret
 all_goals (refine ⟨retB ?_,rfl⟩;rw [Bool.eq_iff_iff];simp [*];try omega)
theorem ZdO (s:ByteArray)(w:World)(_:s.size <= maxLen):Calls prog 154 #[.string s] w fun e l=>e=.returned (.bool (Zb3 s))/\l=w:=by
 by_cases f:1 <= s.size/\s.size <= 12
 ·go_enter func154,ntmps154
  go_wp2
  go_loop [3] (fun i=>∃ k:Nat,k <= s.size/\i=.int .i64 k/\Hid (∀ j (a:j < s.size),j < k -> nb (s[j].toNat)=true)) (fun i=>s.size - (intOf i).toNat)
  case atStart=>exact ⟨0,by omega,rfl,fun j a h=>by omega⟩
  case round =>
   obtain ⟨k,h,rfl,H⟩:=hrel
   by_cases d:k < s.size
   ·go_wp2_with fail
    refine (Zl1 _ _).mono ?_;rintro e m ⟨rfl,rfl⟩
    by_cases g:nb (s[k].toNat)=true
    ·rw [g]
     go_wp2
     go_round
     case rel =>
      refine ⟨k+1,by omega,by go_num,fun j a h=>?_⟩
      by_cases e:j=k
      ·subst e;exact g
      ·exact H.out j a (by omega)
     case measure=>simp [intOf];omega
    ·have b:nb (s[k].toNat)=false:=by simpa using g
     have c:Hid (Zb3 s=false):=Zfy k d b;rw [b];go_wp2;go_ret;exact ⟨by rw [c.out];rfl,rfl⟩
   ·have c:Hid (Zb3 s=true):=ZfY f.1 f.2 fun j a=>H.out j a (by omega)
    go_wp2;go_ret;exact ⟨by rw [c.out];rfl,rfl⟩
 ·have c:Hid (Zb3 s=false):=ZeI f
  go_enter func154,ntmps154
  go_wp2
  all_goals go_ret
  all_goals first | exact ⟨by rw [c.out];rfl,rfl⟩ | (exfalso;omega)
theorem ZaS (s:ByteArray)(w:World)(n:s.size <= maxLen):Calls prog 110 #[.string s] w fun e h=>e=.returned (.bool (Zb3 s))/\h=w:=by
 unfold maxLen at n
 go_enter func110,ntmps110
 go_wp2
 go_loop [3] (fun i=>∃ k:Nat,k <= s.size/\i=.int .i64 k/\Hid (∀ j (a:j < s.size),j < k -> nb (s[j].toNat)=true)) (fun i=>s.size - (intOf i).toNat)
 case atStart=>exact ⟨0,by omega,rfl,fun j a g=>by omega⟩
 case round =>
  obtain ⟨k,g,rfl,H⟩:=hrel
  by_cases c:k < s.size
  ·go_wp2_with fail
   refine (ZlV _ _).mono ?_;rintro e m ⟨rfl,rfl⟩
   by_cases f:nb (s[k].toNat)=true
   ·rw [f]
    go_wp2
    go_round
    case rel =>
     refine ⟨k+1,by omega,by go_num,fun j a g=>?_⟩
     by_cases e:j=k
     ·subst e;exact f
     ·exact H.out j a (by omega)
    case measure=>simp [intOf];omega
   ·have b:nb (s[k].toNat)=false:=by simpa using f
    have o:Hid (Zb3 s=false):=Zfy k c b;rw [b];go_wp2;go_ret;exact ⟨by rw [o.out];rfl,rfl⟩
  ·have l:Hid (∀ j (a:j < s.size),nb (s[j].toNat)=true):=fun j a=>H.out j a (by omega)
   go_wp2_with fail;refine (Zas _ _ _ _).mono ?_;rintro e m ⟨rfl,rfl⟩;go_wp2;go_ret;refine ⟨retB ?_,rfl⟩
   by_cases d:1 <= s.size/\s.size <= 12
   ·rw [ZfY d.1 d.2 l.out]
    simp;omega
   ·rw [ZeI d]
    simp;omega
theorem Zac {P:Program}{c:Func}{p u:Tmp}{b:TypeId}(h:c.results=#[.cell p b,.tmp u])(a:Array Value)(w:World)(g:Nat)(t:TypeId)(cs:Array Value)(fr:Nat × Nat)(d:TypeDesc)(f:a.getD p undef=.pointer (some ⟨g,0,none⟩))(i:w.heap[g]? = some (.cells cs t fr))(e:P.underlying b=some d)(j:(match d with | .struct _ | .array _ _=>true | _=>false)=true)(hi:(P.info? b).map (·.size)=some cs.size) :
  (results c a).run P w=.ok (.tuple #[.agg cs,a.getD u undef]) w:=by
 rw [results_cell_tmp h,f];simp [asAddr,run_loadVar_row w g t b cs fr d i e j hi]
theorem Znt:(prog.info? 249).map (·.size)=some 5:=by kernel_rfl
def Zgk (k:Int):Value :=
 if 1 <= k/\k <= 9 then .tuple #[.agg #[.int .i64 (lo k),.int .i64 (hi k),.bool (hasS k),.bool (hasA k),.bool (hasB k)],.bool true]
 else .tuple #[.agg #[.int .i64 0,.int .i64 0,.bool false,.bool false,.bool false],.bool false]
theorem ZdY (k:Int)(w:World):Calls prog 178 #[.int .i64 k] w fun e a=>e=.returned (Zgk k)/\Below w.heap.size w a:=by
 go_enter func178,ntmps178
 go_wp2
 all_goals refine cx (Zac rfl _ _ w.heap.size 249 _ (0,0) _ rfl (co _ _) underlying249 rfl Znt) rfl ⟨?_,(cj _ _).alloc (ce _) _⟩
 all_goals simp only [beq_iff_eq,beq_eq_false_iff_ne] at *
 all_goals (try subst k)
 all_goals first | rfl | (rw [Zgk,if_neg (by omega)];rfl)
theorem ZfL (s:ByteArray)(b:Bool)(w:World)(c:s.size <= maxLen):Calls prog 179 #[.string s,.bool b] w fun e a=>e=.returned (.bool (Zbu s b))/\a=w:=by
 cases b with
 | false =>
  go_enter func179,ntmps179
  go_wp2
  all_goals go_ret
  all_goals simp [Zbu]
 | true =>
  go_enter func179,ntmps179
  go_wp2_with fail;refine (ZdO s _ c).mono ?_;rintro e d ⟨rfl,rfl⟩;go_wp2;go_ret;simp [Zbu]
theorem Zdb (p:Int)(b:Bool)(n:Int)(w:World):Calls prog 180 #[.int .i64 p,.bool b,.int .i64 n] w fun e a=>e=.returned (.bool (Zbt p b n))/\a=w:=by
 cases b with
 | false =>
  go_enter func180,ntmps180
  go_wp2
  all_goals go_ret
  all_goals simp [Zbt]
 | true =>
  go_enter func180,ntmps180
  go_wp2
  all_goals go_ret
  all_goals (refine ⟨retB ?_,rfl⟩;rw [Bool.eq_iff_iff];simp [Zbt, *];try omega)
end Go.Proofs.YtkpfangkfknhoaaGreatDoor
