/-
  Texts that stood by themselves, laid into one.
-/
import Derived.Test.YtfeodlbpnghakaaGreatDoorNumberM
import Derived.Lib.AppendStr
import Derived.Laws.IdiomStrings
import Derived.Laws.BytesArg
import Derived.Laws.CopyOwn
import Derived.Below
import Derived.Deep.MidRow
import Derived.Laws.ResultCell
/-
  Contract of (impl.reader).next: the byte at the place, and the place one further; none where there is no byte.
-/
set_option maxHeartbeats 1600000
namespace Go.Proofs.YtfeodlbpnghakaaGreatDoor
open Go.RowKit
def One (w:World)(P:Nat)(a:Int):Prop:=w.heap[P]? = some (.cells #[.int .i64 a] 3 (0,0))
theorem One.cell {w:World}{P:Nat}{a:Int}(h:One w P a):w.cell? ⟨P,0,none⟩=some (.int .i64 a):=by
 rw [cell_of_row w P 0 _ 3 (0,0) h];rfl
theorem One.free {w:World}{P:Nat}{a:Int}(h:One w P a):w.frozen? ⟨P,0,none⟩=false:=frozen_of_row w P 0 _ 3 h
theorem One.lt {w:World}{P:Nat}{a:Int}(h:One w P a):P < w.heap.size:=(bl h)
theorem One.set {w:World}{P:Nat}{a:Int}(h:One w P a)(b:Int):One (w.setCell ⟨P,0,none⟩ (.int .i64 b)) P b:=heap_setCell_same w P 0 _ 3 _ h
theorem One.kept {w c:World}{P:Nat}{a:Int}(h:One w P a){row:Option Nat}(d:w.grownBy c row)(b:some P ≠ row):One c P a:=(d.block P h.lt b).trans h
theorem One.below {w b:World}{P B:Nat}{a:Int}(h:One w P a)(d:Below B w b)(c:P < B):One b P a:=(d.block P c).trans h
theorem ZiF (v:Value)(zs:List Int)(P:Nat)(a:Int)(w:World)(R:∃ d b,v=.slice d zs.length b)(h:One w P a)(_hl:zs.length <= 140737488351232)(c:a < 0 \/ (zs.length:Int) <= a) :
  Calls Tryz.prog 192 #[.agg #[v,.pointer (some ⟨P,0,none⟩)]] w fun e f=>e=.returned (.tuple #[.int .u8 0,.bool false])/\One f P a/\w.grownBy f (some P):=by
 obtain ⟨d,b,rfl⟩:=R
 have j:=h.cell
 have k:=h.lt
 by_cases i:a < 0
 ·clear c
  go_enter Tryz.func192,Tryz.ntmps192
  go_wp2
  go_ret2
  exact ⟨rfl,h.kept (World.grownBy_alloc w _ none) (by simp),World.grownBy_alloc w _ _⟩
 ·have g:(zs.length:Int) <= a:=by omega
  clear c
  go_enter Tryz.func192,Tryz.ntmps192
  go_wp2
  go_ret2
  exact ⟨rfl,h.kept (World.grownBy_alloc w _ none) (by simp),World.grownBy_alloc w _ _⟩
theorem Zkf (zs:List Int)(P n g o a:Nat)(w:World)(h:One w P n)(l:zs.length <= 140737488351232)(q:n < zs.length)(c:w.cell? ⟨g,o+n,none⟩=some (.int .u8 zs[n]))(j:g ≠ P) :
  Calls Tryz.prog 192 #[.agg #[.slice (some ⟨g,o,none⟩) zs.length a,.pointer (some ⟨P,0,none⟩)]] w fun e d=>e=.returned (.tuple #[.int .u8 zs[n],.bool true])/\One d P ((n:Int)+1)/\w.grownBy d (some P):=by
 have m:=h.cell
 have k:=h.free
 have p:=h.lt
 have i:=World.block_lt_of_cell? _ _ c
 simp only at i
 generalize zs[n]=b at c ⊢
 go_enter Tryz.func192,Tryz.ntmps192
 go_wp2
 go_ret2
 have f:=(h.set ((n:Int)+1)).kept (World.grownBy_alloc (w.setCell ⟨P,0,none⟩ (.int .i64 ((n:Int)+1))) (.cells #[.slice (some ⟨g,o,none⟩) zs.length a,.pointer (some ⟨P,0,none⟩)] 235) none) (by simp)
 exact ⟨rfl,f,Zaj (Zan w P 0 _) (World.grownBy_alloc _ _ _)⟩
theorem Zal {w b c:World}{row:Option Nat}{B:Nat}(h:w.grownBy b row)(k:Below B b c)(d:w.heap.size <= B):w.grownBy c row :=
 ⟨k.os.trans h.os,k.tape.trans h.tape,k.output.trans h.output,Nat.le_trans h.size k.size,fun i hi a=>(k.block i (by omega)).trans (h.block i hi a)⟩
theorem ZmB (zs:List Int)(n:Nat)(a:List Int)(h:scan 9 (zs.drop n)=some a) :
  (gN zs (n:Int)).1=(nV a).1/\(gN zs (n:Int)).2.2=(nV a).2/\((gN zs (n:Int)).2.2=true -> (gN zs (n:Int)).2.1=(n:Int)+a.length):=by
 have b:¬ (n:Int) < 0:=by omega
 simp only [gN,b,if_false,Int.toNat_natCast,h,nV]
 split <;> simp
def Zgw (w:World)(F:Nat):Nat :=
 match w.cell? ⟨F,9,none⟩ with
 | some v=>(intOf v).toNat
 | none=>0
theorem Zd9 {w:World}{F:Nat}{a:List Int}(h:a.length <= 9)(b:w.heap[F]? = some (.cells (Zb5 a) 265 (0,0))):Zgw w F=a.length:=by
 unfold Zgw
 rw [cell_of_row w F 9 _ 265 (0,0) b,ZbV a h]
 simp [intOf]
theorem ZlB (v:Value)(zs:List Int)(P:Nat)(a:Int)(w:World)(R:∃ g c,v=.slice g zs.length c)(h:One w P a)(l:zs.length <= 140737488351232)(m:a < 0 \/ (zs.length:Int) <= a) :
  Calls Tryz.prog 161 #[.agg #[v,.pointer (some ⟨P,0,none⟩)]] w fun e k=>e=.returned (.tuple #[.int .i64 0,.bool false])/\(∃ q,One k P q)/\w.grownBy k (some P):=by
 have n:=h.lt
 obtain ⟨g,c,rfl⟩:=R
 go_enter Tryz.func161,Tryz.ntmps161
 go_wp2_with fail
 refine wp_loop_rounds 1 ?_
 rw [rounds_succ]
 go_wp2_with fail
 have f:w.grownBy ((w.alloc (Obj.cells #[Value.slice g zs.length c,Value.pointer (some ⟨P,0,none⟩)] 235)).alloc (Obj.cells (Zb5 []) 265)) (some P) :=
  Zaj (World.grownBy_alloc _ _ _) (World.grownBy_alloc _ _ _)
 have j:One ((w.alloc (Obj.cells #[Value.slice g zs.length c,Value.pointer (some ⟨P,0,none⟩)] 235)).alloc (Obj.cells (Zb5 []) 265)) P a :=
  (h.kept (World.grownBy_alloc w _ none) (by simp)).kept (World.grownBy_alloc _ _ none) (by simp)
 refine (ZiF _ zs P a _ ⟨g,c,rfl⟩ j l m).mono ?_
 rintro e o ⟨rfl,d,b⟩
 have i:=Zaj f b
 clear f j b
 go_wp2_with fail
 go_ret2
 exact ⟨rfl,⟨_,d⟩,i⟩
theorem Zl5 (zs:List Int)(P n g o u:Nat)(w:World)(h:One w P n)(Y:zs.length <= 140737488351232)(hn:n < zs.length)(hz:∀ z ∈ zs,0 <= z/\z <= 255)(T:∀ i,i < zs.length -> w.cell? ⟨g,o+i,none⟩=some (.int .u8 (zs.getD i 0)))(hg:g < w.heap.size)(H:g ≠ P) :
  Calls Tryz.prog 161 #[.agg #[.slice (some ⟨g,o,none⟩) zs.length u,.pointer (some ⟨P,0,none⟩)]] w fun e w' =>
   e=.returned (.tuple #[.int .i64 (gN zs n).1,.bool (gN zs n).2.2])/\(∃ q,One w' P q/\((gN zs n).2.2=true -> q=(gN zs n).2.1))/\w.grownBy w' (some P):=by
 have hP:=h.lt
 go_enter Tryz.func161,Tryz.ntmps161
 go_wp2_with fail
 go_loopw [5] (fun _ wr=>∃ (k:Nat) (a:List Int),k <= 9/\n+k <= zs.length/\Hid (Sc zs n k a)/\Hid (∀ z ∈ a,0 <= z/\z <= 255)/\One wr P ((n:Int)+k)/\wr.heap[w.heap.size+1]? = some (.cells (Zb5 a) 265 (0,0)) /\
   wr.heap[w.heap.size]? = some (.cells #[.slice (some ⟨g,o,none⟩) zs.length u,.pointer (some ⟨P,0,none⟩)] 235 (0,0))/\w.grownBy wr (some P)) (fun _ wr=>9 - Zgw wr (w.heap.size+1))
 case atStart =>
  refine ⟨0,[],by omega,by omega,Sc.start zs n,by simp [Hid],?_,heap_alloc2_new _ _ _,heap_alloc2_old _ _ _,Zaj (World.grownBy_alloc _ _ _) (World.grownBy_alloc _ _ _)⟩
  rw [show (n:Int)+((0:Nat):Int)=(n:Int) by omega]
  exact (h.kept (World.grownBy_alloc w _ none) (by simp)).kept (World.grownBy_alloc _ _ none) (by simp)
 case round =>
  obtain ⟨k,a,hk,aa,G,HZ,m,j,p,A⟩:=hrel
  have E:=G.out.1
  have V:wr.cell? ⟨w.heap.size+1,9,none⟩=some (.int .i64 k):=by
   rw [cell_of_row wr _ 9 _ 265 (0,0) j,ZbV a (by omega),E]
  have Q:wr.cell? ⟨w.heap.size,0,none⟩=some (.slice (some ⟨g,o,none⟩) zs.length u):=by rw [cell_of_row wr _ 0 _ 235 (0,0) p];rfl
  have X:wr.cell? ⟨w.heap.size,1,none⟩=some (.pointer (some ⟨P,0,none⟩)):=by rw [cell_of_row wr _ 1 _ 235 (0,0) p];rfl
  have O:Hid (a.length=k):=E
  clear E
  by_cases Z:k < 9
  ·by_cases x:n+k < zs.length
   ·have J:wr.cell? ⟨g,o+(n+k),none⟩=some (.int .u8 zs[n+k]):=by
     rw [World.cell?_of_block (w:=w) (A.block g hg (by simpa using H)),T (n+k) x]
     simp [x]
    have s:One wr P ((n+k:Nat):Int):=by rw [show ((n+k:Nat):Int)=(n:Int)+k by omega];exact m
    have S:=hz zs[n+k] (List.getElem_mem _)
    have M:some (w.heap.size+1) ≠ some P:=by simp;omega
    have L:some w.heap.size ≠ some P:=by simp;omega
    have U:=(bl j)
    have W:=(bl p)
    have I:Hid (∀ z ∈ a ++ [zs[n+k]],0 <= z/\z <= 255):=by
     intro z B;simp only [List.mem_append,List.mem_singleton] at B
     rcases B with B | rfl
     ·exact HZ.out z B
     ·exact S
    have v:Hid ((a ++ [zs[n+k]]).length=k+1):=by unfold Hid;rw [List.length_append,O.out];rfl
    go_wp2_with fail
    refine (Zkf zs P (n+k) g o u wr s Y x J H).mono ?_
    rintro e N ⟨rfl,d,b⟩
    have l:N.heap[w.heap.size+1]? = some (.cells (Zb5 a) 265 (0,0)):=(b.block _ U M).trans j
    have t:N.heap[w.heap.size]? = some (.cells #[.slice (some ⟨g,o,none⟩) zs.length u,.pointer (some ⟨P,0,none⟩)] 235 (0,0)):=(b.block _ W L).trans p
    clear V Q X m s J
    go_wp2_with fail
    refine (Zlu (w.heap.size+1) zs[n+k] a N (by have:=O.out;omega) l).mono ?_
    rintro e w2 ⟨rfl,f,c⟩
    have y:=d.below c (by omega)
    have D:=(c.block _ (by omega)).trans t
    have r:=Zal (Zaj A b) c (by omega)
    clear l t d b c
    by_cases F:zs[n+k] < 128
    ·have K:=G.out.last Z x F
     have C:Hid _:=ZmB zs n _ K
     clear K
     go_wp2_with fail
     refine (ZhF (w.heap.size+1) (a ++ [zs[n+k]]) w2 (by rw [v.out];omega) (by rw [v.out];omega) I.out f).mono ?_
     rintro e w3 ⟨rfl,rfl⟩
     go_wp2_with fail
     go_ret2
     obtain ⟨e1,e2,e3⟩:=C.out
     refine ⟨by rw [e1,e2];rfl,⟨_,y,fun R=>?_⟩,r⟩
     rw [e3 R,v.out]
     omega
    ·go_wp2_with fail
     go_roundw
     case rel =>
      exact ⟨k+1,a ++ [zs[n+k]],by omega,by omega,G.out.more Z x (by omega),I,by rw [show (n:Int)+((k+1:Nat):Int)=((n+k:Nat):Int)+1 by omega];exact y,f,D,r⟩
     case measure =>
      rw [Zd9 (by rw [v.out];omega) f,Zd9 (by rw [O.out];omega) j,v.out,O.out]
      omega
   ·have C:Hid (gN zs (n:Int)=(0,0,false)):=Zc0 zs n (G.out.out (Or.inr (by omega)))
    go_wp2_with fail
    refine (ZiF _ zs P _ wr ⟨_,_,rfl⟩ m Y (Or.inr (by omega))).mono ?_
    rintro e N ⟨rfl,d,b⟩
    have r:=Zaj A b
    go_wp2_with fail
    go_ret2
    exact ⟨by rw [C.out];rfl,⟨_,d,by rw [C.out];intro h;cases h⟩,r⟩
  ·have C:Hid (gN zs (n:Int)=(0,0,false)):=Zc0 zs n (G.out.out (Or.inl (by omega)))
   go_wp2_with fail
   go_ret2
   exact ⟨by rw [C.out];rfl,⟨_,m,by rw [C.out];intro h;cases h⟩,A⟩
theorem ZdG (v:Value)(zs:List Int)(P:Nat)(a:Int)(f w:World)(R:Row f v zs)(r:Below f.heap.size f w)(z:f.heap.size <= P)(h:One w P a) :
  Calls Tryz.prog 161 #[.agg #[v,.pointer (some ⟨P,0,none⟩)]] w fun e l =>
   e=.returned (.tuple #[.int .i64 (gN zs a).1,.bool (gN zs a).2.2])/\(∃ q,One l P q/\((gN zs a).2.2=true -> q=(gN zs a).2.1))/\w.grownBy l (some P):=by
 obtain ⟨y,d,rfl,m,s,t,b⟩:=R
 by_cases c:a < 0 \/ (zs.length:Int) <= a
 ·have j:gN zs a=(0,0,false):=by
   by_cases x:a < 0
   ·exact Zlo zs a x
   ·obtain ⟨n,rfl⟩:=Int.eq_ofNat_of_zero_le (show 0 <= a by omega)
    exact Zc0 zs n ((Sc.start zs n).out (Or.inr (by omega)))
  rw [j]
  refine (ZlB _ zs P a w ⟨y,d,rfl⟩ h s c).mono ?_
  rintro e l ⟨rfl,⟨q,u⟩,k⟩
  exact ⟨rfl,⟨q,u,by intro h;cases h⟩,k⟩
 ·obtain ⟨n,rfl⟩:=Int.eq_ofNat_of_zero_le (show 0 <= a by omega)
  obtain ⟨g,o,rfl,j,b⟩:=b (by intro e;subst e;simp at c)
  exact Zl5 zs P n g o d w h s (by omega) t (fun i hi=>(r.cell (p:=⟨g,o+i,none⟩) j).trans (b i hi)) (Nat.lt_of_lt_of_le j r.size) (by omega)
def sb (s:ByteArray):List Int:=s.data.toList.map fun b=>(b.toNat:Int)
theorem ZaJ (s:ByteArray):(sb s).length=s.size:=by rw [sb,List.length_map,Array.length_toList];rfl
theorem ZhG (s:ByteArray):∀ z ∈ sb s,0 <= z/\z <= 255:=by
 intro z a
 simp only [sb,List.mem_map] at a
 obtain ⟨b,_,rfl⟩:=a
 have:=b.toNat_lt
 omega
def pt (s:ByteArray):List Int:=encI s.size ++ sb s
theorem ZcY (s:ByteArray):(pt s).length=(encI s.size).length+s.size:=by rw [pt,List.length_append,ZaJ]
theorem ZmC (s:ByteArray):∀ z ∈ pt s,0 <= z/\z <= 255:=by
 intro z a
 simp only [pt,List.mem_append] at a
 rcases a with a | a
 ·exact ZbX _ z a
 ·exact ZhG s z a
theorem Zc5 (s:ByteArray)(a j:Nat)(u:Value)(h:(bv (sb s))[j]? = some u):(bytesRow s a)[j]? = some u:=by
 have b:j < s.data.size:=by
  have:=(List.getElem?_eq_some_iff.1 h).1
  rw [ZaU,ZaJ] at this
  exact this
 unfold bytesRow
 rw [Array.getElem?_append_left (by simpa using b)]
 simp only [bv,sb,List.map_map,List.getElem?_map,Array.getElem?_toList] at h
 simpa using h
theorem ZcJ {P:Program}(w:World){ops:Array Oper}{i:List Oper}{o:Oper}{a:Act}{Q:Exit -> Act -> World -> Prop}(t:o.guard=none)(x:Operand)(g f e:TypeId)(n:o.op=.convert g f x)(q:P.underlying g=some .string)(y:P.underlying f=some (.slice e))(A:P.underlying e=some (.int .u8))(s:ByteArray)(r:a.eval x=.string s)(h:∀ c b,(∀ j u,(bv (sb s))[j]? = some u -> b.cell? ((⟨w.heap.size,0,none⟩:Addr).add j)=some u) -> w.grownBy b none -> w.heap.size < b.heap.size -> wpList P ops Q i (a.put o.dst (.slice (some ⟨w.heap.size,0,none⟩) s.size c)) b) :
  wpList P ops Q (o :: i) a w:=by
 refine wpList_plain t fun K v=>?_
 obtain ⟨c,b,k,l,m,p⟩:∃ c b,(convert g f (.string s)).run P w=.ok (.slice (some ⟨w.heap.size,0,none⟩) s.size c) b /\
   (∀ j u,(bv (sb s))[j]? = some u -> b.cell? ((⟨w.heap.size,0,none⟩:Addr).add j)=some u)/\w.grownBy b none/\w.heap.size < b.heap.size:=by
  refine ⟨_,_,run_bytes_of_string w g f e s q y A,?_,?_,?_⟩
  ·intro j u z
   rw [Addr.add_lit,Nat.zero_add,cell_of_row _ w.heap.size j _ e _ (heap_alloc_new w.drew _)]
   exact Zc5 s _ j u z
  ·have d:=World.grownBy_alloc w.drew (Obj.cells (bytesRow s (grownCap w s.size 0 e)) e ((bytesRow s (grownCap w s.size 0 e)).size,(bytesRow s (grownCap w s.size 0 e)).size+1)) none
   exact ⟨d.os,d.tape,d.output,d.size,d.block⟩
  ·show w.heap.size < (w.heap.push _).size
   simp
 unfold Oper.wp
 simp [execOp,n,r,k,Result.andThen]
 exact v _ _ (h c b l m p)
theorem Zgd (f:Nat)(l a:List Int)(h:scan f l=some a):a.length <= f/\a.length <= l.length:=by
 induction f generalizing l a with
 | zero=>simp [scan] at h
 | succ f ih =>
  cases l with
  | nil=>simp [scan] at h
  | cons b l =>
   simp only [scan] at h
   split at h
   ·simp at h;subst h;simp
   ·simp only [Option.map_eq_some_iff] at h
    obtain ⟨c,d,rfl⟩:=h
    have:=ih l c d
    simp only [List.length_cons];omega
theorem ZjE (zs:List Int)(a n next:Int)(h:gN zs a=(n,next,true)):0 <= n/\n <= 9223372036854775807/\0 <= next/\next <= zs.length:=by
 unfold gN at h
 by_cases f:a < 0
 ·simp [f] at h
 ·simp only [f,if_false] at h
  cases c:scan 9 (zs.drop a.toNat) with
  | none=>simp [c] at h
  | some bs =>
   simp only [c] at h
   have g:=Zgd 9 _ bs c
   have m:=ZbN bs
   have k:=Ze6 g.1
   rw [ZeH] at k
   by_cases e:1 < bs.length/\bs.getLast? = some 0
   ·rw [if_pos e] at h;simp at h
   ·rw [if_neg e] at h
    simp only [Prod.mk.injEq,and_true] at h
    obtain ⟨rfl,rfl⟩:=h
    have d:=g.2
    simp only [List.length_drop] at d
    have j:0 < bs.length:=by
     rcases Nat.eq_zero_or_pos bs.length with h | h
     ·rw [List.eq_nil_of_length_eq_zero h] at c
      exfalso
      cases i:zs.drop a.toNat with
      | nil=>rw [i] at c;simp [scan] at c
      | cons b l =>
       rw [i] at c
       simp only [scan] at c
       split at c
       ·simp at c
       ·simp at c
     ·exact h
    omega
def gT (zs:List Int)(a:Int):ByteArray × Int × Bool :=
 if (gN zs a).2.2=true/\(gN zs a).1 <= (zs.length:Int) - (gN zs a).2.1 then
  (strOfNums ((zs.drop (gN zs a).2.1.toNat).take (gN zs a).1.toNat),(gN zs a).2.1+(gN zs a).1,true)
 else (⟨#[]⟩,0,false)
abbrev tV (r:ByteArray × Int × Bool):Value:=.tuple #[.string r.1,.int .i64 r.2.1,.bool r.2.2]
theorem Zkl (zs:List Int)(a n next:Int)(ok:Bool)(h:gN zs a=(n,next,ok))(b:ok=false \/ (zs.length:Int) - next < n):gT zs a=(⟨#[]⟩,0,false):=by
 unfold gT
 rw [h,if_neg]
 rcases b with rfl | b
 ·simp
 ·intro h;have:=h.2;simp only at this;omega
theorem Zlf (zs:List Int)(a:Int)(n next:Nat)(h:gN zs a=((n:Int),(next:Int),true))(b:(n:Int) <= (zs.length:Int) - next):gT zs a=(strOfNums ((zs.drop next).take n),(next:Int)+n,true):=by
 unfold gT
 rw [h,if_pos ⟨rfl,b⟩]
 simp
theorem Zki {w:World}{g o:Nat}{zs:List Int}(a:∀ i,i < zs.length -> w.cell? ⟨g,o+i,none⟩=some (.int .u8 (zs.getD i 0)))(next n:Nat)(b:next+n <= zs.length)(i:Nat)(hi:i < n) :
  w.cell? ⟨g,o+next+i,none⟩=some (.int .u8 (((zs.drop next).take n).getD i 0)):=by
 rw [Nat.add_assoc,a (next+i) (by omega)]
 simp only [List.getD_eq_getElem?_getD,List.getElem?_take,List.getElem?_drop]
 rw [if_pos hi]
theorem Zep (zs:List Int)(next n:Nat)(a:next+n <= zs.length):((zs.drop next).take n).length=n:=by
 simp only [List.length_take,List.length_drop];omega
theorem ZfC {w:World}{d:Option Addr}{c:Nat}{zs:List Int}(a:zs ≠ [] -> ∃ g o,d=some ⟨g,o,none⟩/\g < w.heap.size/\∀ i,i < zs.length -> w.cell? ⟨g,o+i,none⟩=some (.int .u8 (zs.getD i 0)))(next n:Nat)(b:next+n <= zs.length)(h:zs.length <= c) :
  n ≠ 0 -> ∃ g f,(if c=next then d else d.map (·.add next))=some ⟨g,f,none⟩/\∀ i,i < n -> w.cell? ⟨g,f+i,none⟩=some (.int .u8 (((zs.drop next).take n).getD i 0)):=by
 intro k
 obtain ⟨g,o,rfl,_,j⟩:=a (by intro e;subst e;simp at b;omega)
 rw [if_neg (by omega)]
 exact ⟨g,o+next,by simp [Addr.add_lit],Zki j next n b⟩
theorem Zbz {P:Program}(w:World){ops:Array Oper}{f:List Oper}{o:Oper}{a:Act}{Q:Exit -> Act -> World -> Prop}(B:o.guard=none)(x:Operand)(d b e:TypeId)(C:o.op=.convert d b x)(r:P.underlying d=some (.slice e))(t:P.underlying b=some .string)(s:P.underlying e=some (.int .u8))(p:Option Addr)(n c:Nat)(l:List Int)(z:a.eval x=.slice p n c)(u:l.length=n)(y:n ≠ 0 -> ∃ g q,p=some ⟨g,q,none⟩/\∀ i,i < n -> w.cell? ⟨g,q+i,none⟩=some (.int .u8 (l.getD i 0)))(h:wpList P ops Q f (a.put o.dst (.string (strOfNums l))) w):wpList P ops Q (o :: f) a w:=by
 refine wpList_plain B fun K D=>?_
 have m:(convert d b (.slice p n c)).run P w=.ok (.string (strOfNums l)) w:=by
  by_cases v:n=0
  ·subst v
   have:l=[]:=List.eq_nil_of_length_eq_zero u
   subst this
   cases p with
   | none=>exact run_convert_bytes_nil w d e r s 0 c b t
   | some ad=>exact run_convert_bytes_back w d b e ad c [] r s t (fun j A=>absurd A (by simp))
  ·obtain ⟨g,q,rfl,k⟩:=y v
   exact run_convert_bytes_arg w d e r s g q n c l u k b t
 unfold Oper.wp
 simp [execOp,C,z,m,Result.andThen]
 exact D _ _ h
structure Nd where
 k:Int
 n:Int
 s:ByteArray
 a:Int
 b:Int
def Nd.cs (x:Nd):List Value:=[.int .i64 x.k,.int .i64 x.n,.string x.s,.int .i64 x.a,.int .i64 x.b]
def ncs (xs:List Nd):List Value:=xs.flatMap Nd.cs
theorem Zjk:ncs []=[]:=rfl
theorem ZeF (x:Nd)(a:List Nd):ncs (x :: a)=x.cs ++ ncs a:=rfl
theorem ZaB (a b:List Nd):ncs (a ++ b)=ncs a ++ ncs b:=by simp [ncs]
theorem Zcq (a:List Nd):(ncs a).length=a.length * 5:=by
 induction a with
 | nil=>rfl
 | cons x a ih=>rw [ZeF,List.length_append,ih,List.length_cons];simp [Nd.cs];omega
theorem Zgr (a:List Nd)(i:Nat)(x:Nd)(h:a[i]? = some x)(j:Nat)(b:j < 5):(ncs a)[i * 5+j]? = x.cs[j]?:=by
 induction a generalizing i with
 | nil=>simp at h
 | cons y ys ih =>
  rw [ZeF]
  cases i with
  | zero =>
   simp at h;subst h
   rw [Nat.zero_mul,Nat.zero_add,List.getElem?_append_left (by simpa [Nd.cs] using b)]
  | succ i =>
   rw [List.getElem?_append_right (by simp [Nd.cs];omega)]
   rw [show (i+1) * 5+j - y.cs.length=i * 5+j by simp [Nd.cs];omega]
   exact ih i (by simpa using h)
theorem ZdN (a:List Nd)(i:Nat)(x b:Nd)(h:a[i]? = some x)(j:Nat)(c:j < 5)(u:Value)(e:x.cs.set j u=b.cs):(ncs a).set (i * 5+j) u=ncs (a.set i b):=by
 induction a generalizing i with
 | nil=>simp at h
 | cons y ys ih =>
  rw [ZeF]
  cases i with
  | zero =>
   simp at h;subst h
   rw [Nat.zero_mul,Nat.zero_add,List.set_append_left _ _ (by simpa [Nd.cs] using c),e]
   rfl
  | succ i =>
   rw [List.set_append_right _ _ (by simp [Nd.cs];omega)]
   rw [show (i+1) * 5+j - y.cs.length=i * 5+j by simp [Nd.cs];omega,ih i (by simpa using h)]
   rfl
theorem ZkR (a:List Nd)(i:Nat)(x b:Nd)(h:a[i]? = some x)(u:Value)(e:x.cs.set 0 u=b.cs):(ncs a).set (i * 5) u=ncs (a.set i b) :=
 ZdN a i x b h 0 (by omega) u e
theorem Nd.one (x:Nd):∀ u ∈ x.cs,u.oneCell'=true:=by
 intro u a
 simp only [Nd.cs,List.mem_cons,List.not_mem_nil,or_false] at a
 rcases a with rfl | rfl | rfl | rfl | rfl <;> rfl
theorem Za2 (b:List Nd):∀ u ∈ ncs b,u.oneCell'=true:=by
 intro u a
 simp only [ncs,List.mem_flatMap] at a
 obtain ⟨x,_,c⟩:=a
 exact x.one u c
def NAt (w:World)(g o:Nat)(x:Nd):Prop :=
 w.cell? ⟨g,o,none⟩=some (.int .i64 x.k)/\w.cell? ⟨g,o+1,none⟩=some (.int .i64 x.n)/\w.cell? ⟨g,o+2,none⟩=some (.string x.s) /\
  w.cell? ⟨g,o+3,none⟩=some (.int .i64 x.a)/\w.cell? ⟨g,o+4,none⟩=some (.int .i64 x.b)
theorem NAt.below {w c:World}{g o B:Nat}{x:Nd}(h:NAt w g o x)(b:Below B w c)(a:g < B):NAt c g o x :=
 ⟨(b.cell (p:=⟨g,o,none⟩) a).trans h.1,(b.cell (p:=⟨g,o+1,none⟩) a).trans h.2.1,(b.cell (p:=⟨g,o+2,none⟩) a).trans h.2.2.1,
  (b.cell (p:=⟨g,o+3,none⟩) a).trans h.2.2.2.1,(b.cell (p:=⟨g,o+4,none⟩) a).trans h.2.2.2.2⟩
def NRow (w:World)(v:Value)(xs:List Nd):Prop :=
 ∃ ao cap,v=.slice ao xs.length cap/\(xs.length <= cap/\(ao=none -> cap=0))/\xs.length <= 9223372036854775807/\(∀ x ∈ xs,x.s.size <= maxLen) /\
  (xs ≠ [] -> ∃ g o,ao=some ⟨g,o,none⟩/\g < w.heap.size/\∀ i x,xs[i]? = some x -> NAt w g (o+i * 5) x)
theorem NRow.below {w j:World}{v:Value}{f:List Nd}(h:NRow w v f)(d:Below w.heap.size w j):NRow j v f:=by
 obtain ⟨n,c,rfl,m,l,k,a⟩:=h
 refine ⟨n,c,rfl,m,l,k,fun b=>?_⟩
 obtain ⟨g,o,rfl,e,a⟩:=a b
 exact ⟨g,o,rfl,Nat.lt_of_lt_of_le e d.size,fun i x hi=>(a i x hi).below d e⟩
theorem NRow.of_own {w:World}{base:Nat}{v:Value}{a:List Nd}(h:w.ownsRow base 194 5 v a.length (ncs a))(l:a.length <= 9223372036854775807)(f:∀ x ∈ a,x.s.size <= maxLen):NRow w v a:=by
 rcases h.2 with ⟨rfl,k⟩ | ⟨g,b,cur,rfl,r,m,d,n,p,c⟩
 ·have:a=[]:=List.eq_nil_of_length_eq_zero k
  subst this
  exact ⟨none,0,rfl,by simp,by simp,by simp,fun h=>absurd rfl h⟩
 ·refine ⟨_,b,rfl,⟨d,fun h=>by cases h⟩,l,f,fun _=>⟨g,0,rfl,(bl m),fun i x hi=>?_⟩⟩
  have q:i < a.length:=(List.getElem?_eq_some_iff.1 hi).1
  have e:∀ j,j < 5 -> w.cell? ⟨g,0+i * 5+j,none⟩=x.cs[j]?:=fun j o=>by
   have:=h.cellAt (i * 5+j) (by omega)
   rw [Nat.zero_add,this,Zgr a i x hi j o]
  exact ⟨e 0 (by omega),e 1 (by omega),e 2 (by omega),e 3 (by omega),e 4 (by omega)⟩
theorem Zno:(Tryz.prog.info? 194).map (fun i=>(i.zero,i.size,i.bytes))=some (some (.agg #[.int .i64 0,.int .i64 0,.string ByteArray.empty,.int .i64 0,.int .i64 0]),5,48):=by kernel_rfl
theorem retB {p q:Bool}(h:p=q):Ending.returned (.bool p)=.returned (.bool q):=by rw [h]
theorem NRow.cells {w:World}{p:Option Addr}{n i:Nat}{c:List Nd}(h:NRow w (.slice p n i) c):∀ k,p=some k -> ∀ j u,(ncs c)[j]? = some u -> w.cell? (k.add j)=some u:=by
 obtain ⟨s,m,e,_,_,_,a⟩:=h
 simp only [Value.slice.injEq] at e
 obtain ⟨rfl,_,_⟩:=e
 intro k f j u q
 have r:j < c.length * 5:=by rw [<- Zcq];exact (List.getElem?_eq_some_iff.1 q).1
 obtain ⟨g,o,e,_,a⟩:=a (by intro h;subst h;simp at r)
 rw [e] at f
 cases f
 have hi:j / 5 < c.length:=by omega
 have l:c[j / 5]? = some c[j / 5]:=List.getElem?_eq_getElem hi
 have d:=Zgr c (j / 5) _ l (j % 5) (by omega)
 rw [show j / 5 * 5+j % 5=j by omega,q] at d
 obtain ⟨c0,c1,c2,c3,c4⟩:=a (j / 5) _ l
 rw [Addr.add_lit]
 have b:j % 5=0 \/ j % 5=1 \/ j % 5=2 \/ j % 5=3 \/ j % 5=4:=by omega
 rcases b with b | b | b | b | b
 ·rw [show o+j=o+j / 5 * 5 by omega,c0,d,b];rfl
 ·rw [show o+j=o+j / 5 * 5+1 by omega,c1,d,b];rfl
 ·rw [show o+j=o+j / 5 * 5+2 by omega,c2,d,b];rfl
 ·rw [show o+j=o+j / 5 * 5+3 by omega,c3,d,b];rfl
 ·rw [show o+j=o+j / 5 * 5+4 by omega,c4,d,b];rfl
theorem Zac {w d:World}{B:Nat}{e:TypeId}{k:Nat}{v:Value}{n:Nat}{c:List Value}(h:w.ownsRow B e k v n c)(i:Below w.heap.size w d):d.ownsRow B e k v n c:=by
 refine ⟨h.1,?_⟩
 rcases h.2 with ⟨rfl,f⟩ | ⟨g,a,cur,rfl,j,b,l⟩
 ·exact Or.inl ⟨rfl,f⟩
 ·exact Or.inr ⟨g,a,cur,rfl,j,(i.block g (bl b)).trans b,l⟩
theorem Zag {w:World}{B:Nat}{e:TypeId}{k:Nat}{v:Value}{n:Nat}{b:List Value}(h:w.ownsRow B e k v n b):∃ d a,v=.slice d n a:=by
 rcases h.2 with ⟨rfl,c⟩ | ⟨g,a,cur,rfl,_⟩
 ·exact ⟨none,0,by rw [c]⟩
 ·exact ⟨_,_,rfl⟩
theorem Zah {w:World}{B B':Nat}{e:TypeId}{k:Nat}{v:Value}{n:Nat}{b:List Value}(h:w.ownsRow B e k v n b)(d:B' <= B):w.ownsRow B' e k v n b:=by
 refine ⟨h.1,?_⟩
 rcases h.2 with ⟨rfl,c⟩ | ⟨g,a,cur,rfl,f,i⟩
 ·exact Or.inl ⟨rfl,c⟩
 ·exact Or.inr ⟨g,a,cur,rfl,Nat.le_trans d f,i⟩
theorem Znj:(Tryz.prog.info? 194).map (·.size)=some 5:=by kernel_rfl
theorem Zc2 {ops:Array Oper}{l:List Oper}{op:Oper}{a:Act}{w:World}{Q:Exit -> Act -> World -> Prop}(v:op.guard=none)(x y:Operand)(D:op.op=.store 194 x y)(base g i m:Nat)(d:List Nd)(c:Nd)(z:a.eval x=.pointer (some ⟨g,i * 5,none⟩))(B:a.eval y=.agg #[.int .i64 c.k,.int .i64 c.n,.string c.s,.int .i64 c.a,.int .i64 c.b])(hi:i < d.length)(e:w.ownsRow base 194 5 (.slice (some ⟨g,0,none⟩) d.length m) d.length (ncs d))(h:∀ q:World,q.ownsRow base 194 5 (.slice (some ⟨g,0,none⟩) d.length m) d.length (ncs (d.set i c)) -> w.grownBy q (some g) -> wpList Tryz.prog ops Q l (a.put op.dst undef) q):wpList Tryz.prog ops Q (op :: l) a w:=by
 have A:w.there g (i * 5) 5:=fun j E=>by
  have:=e.cellAt (i * 5+j) (by omega)
  refine ⟨?_,e.frozenAt _⟩
  rw [this,List.getElem?_eq_getElem (by rw [Zcq];omega)]
  rfl
 refine wpList_store_mid v 194 x y D g (i * 5) _ z B A Znj (all_oneCell_toArray c.one) ?_
 have C:d[i]? = some d[i]:=List.getElem?_eq_getElem hi
 have f:∀ y:Nd,(d.set i y)[i]? = some y:=fun y=>by simp [hi]
 have u:=e.stored (i * 5) (.int .i64 c.k)
 rw [ZkR d i d[i] ⟨c.k,d[i].n,d[i].s,d[i].a,d[i].b⟩ C _ rfl] at u
 have o:=u.1.stored (i * 5+1) (.int .i64 c.n)
 rw [ZdN (d.set i ⟨c.k,d[i].n,d[i].s,d[i].a,d[i].b⟩) i ⟨c.k,d[i].n,d[i].s,d[i].a,d[i].b⟩ ⟨c.k,c.n,d[i].s,d[i].a,d[i].b⟩ (f _) 1 (by omega) (.int .i64 c.n) rfl,List.set_set] at o
 have t:=o.1.stored (i * 5+2) (.string c.s)
 rw [ZdN (d.set i ⟨c.k,c.n,d[i].s,d[i].a,d[i].b⟩) i ⟨c.k,c.n,d[i].s,d[i].a,d[i].b⟩ ⟨c.k,c.n,c.s,d[i].a,d[i].b⟩ (f _) 2 (by omega) (.string c.s) rfl,List.set_set] at t
 have r:=t.1.stored (i * 5+3) (.int .i64 c.a)
 rw [ZdN (d.set i ⟨c.k,c.n,c.s,d[i].a,d[i].b⟩) i ⟨c.k,c.n,c.s,d[i].a,d[i].b⟩ ⟨c.k,c.n,c.s,c.a,d[i].b⟩ (f _) 3 (by omega) (.int .i64 c.a) rfl,List.set_set] at r
 have p:=r.1.stored (i * 5+4) (.int .i64 c.b)
 rw [ZdN (d.set i ⟨c.k,c.n,c.s,c.a,d[i].b⟩) i ⟨c.k,c.n,c.s,c.a,d[i].b⟩ ⟨c.k,c.n,c.s,c.a,c.b⟩ (f _) 4 (by omega) (.int .i64 c.b) rfl,List.set_set] at p
 exact h _ p.1 ((((u.2.trans o.2).trans t.2).trans r.2).trans p.2)
def nb (b:Int):Bool:=b == 43 || b == 45 || b == 42 || b == 60 || b == 61 || b == 63 || b == 33 || b == 47 || (decide (97 <= b) && decide (b <= 122))
def Zb1 (s:ByteArray):Bool:=decide (1 <= s.size) && decide (s.size <= 12) && decide (∀ i:Fin s.size,nb (s[i].toNat)=true)
theorem Zfw {s:ByteArray}(a:1 <= s.size)(b:s.size <= 12)(h:∀ j (c:j < s.size),nb (s[j].toNat)=true):Zb1 s=true:=by
 simp only [Zb1,Bool.and_eq_true,decide_eq_true_eq]
 exact ⟨⟨a,b⟩,fun i=>h i.1 i.2⟩
theorem Zf0 {s:ByteArray}(j:Nat)(b:j < s.size)(h:nb (s[j].toNat)=false):Zb1 s=false:=by
 rw [Bool.eq_false_iff]
 intro a
 simp only [Zb1,Bool.and_eq_true,decide_eq_true_eq] at a
 have:=a.2 ⟨j,b⟩
 simp only [Fin.getElem_fin] at this
 rw [this] at h
 cases h
theorem Zeo {s:ByteArray}(h:¬ (1 <= s.size/\s.size <= 12)):Zb1 s=false:=by
 rw [Bool.eq_false_iff]
 intro a
 simp only [Zb1,Bool.and_eq_true,decide_eq_true_eq] at a
 exact h a.1
def lo (k:Int):Int:=if k=3 then -1000000000 else 0
def hi (k:Int):Int:=if k=2 then 1 else if k=3 \/ k=6 \/ k=9 then 1000000000 else if k=8 then 99 else 0
def hasS (k:Int):Bool:=decide (k=4)
def hasA (k:Int):Bool:=decide (k=5 \/ k=6 \/ k=7)
def hasB (k:Int):Bool:=decide (k=5)
def Zbq (p:Int)(named:Bool)(at_:Int):Bool:=if named then decide (0 <= p) && decide (p < at_) else p == 0
def Zbt (s:ByteArray)(named:Bool):Bool:=if named then Zb1 s else s.toList == []
def Zaz (x:Nd)(at_:Int):Bool :=
 decide (1 <= x.k) && decide (x.k <= 9) && decide (lo x.k <= x.n) && decide (x.n <= hi x.k) && (Zbt x.s (hasS x.k) && Zbq x.a (hasA x.k) at_ && Zbq x.b (hasB x.k) at_)
def ZaD (xs:List Nd)(i:Nat):Bool:=match xs with
 | []=>true
 | x :: xs=>Zaz x i && ZaD xs (i+1)
def Zas (xs:List Nd):Bool:=decide (xs.length <= 3000) && ZaD xs 0
theorem Zdt (a:List Nd)(i:Nat)(x:Nd)(h:a[i]? = some x):ZaD (a.drop i) i=(Zaz x i && ZaD (a.drop (i+1)) (i+1)):=by
 obtain ⟨b,c⟩:=List.getElem?_eq_some_iff.1 h
 rw [List.drop_eq_getElem_cons b,c]
 rfl
theorem ZlF (b:Int)(w:World):Calls Tryz.prog 185 #[.int .u8 b] w fun e a=>e=.returned (.bool (nb b))/\a=w:=by
 go_enter Tryz.func185,Tryz.ntmps185
 go_wp2
 all_goals go_ret
 all_goals (refine ⟨retB ?_,rfl⟩;rw [Bool.eq_iff_iff];simp [nb, *];try omega)
theorem ZlS (b:Int)(w:World):Calls Tryz.prog 113 #[.int .u8 b] w fun e a=>e=.returned (.bool (nb b))/\a=w:=by
 go_enter Tryz.func113,Tryz.ntmps113
 go_wp2
 all_goals go_ret
 all_goals (refine ⟨retB ?_,rfl⟩;rw [Bool.eq_iff_iff];simp [nb, *];try omega)
theorem Zar (x l h:Int)(w:World):Calls Tryz.prog 40 #[.int .i64 x,.int .i64 l,.int .i64 h] w fun e a=>e=.returned (.bool (decide (l <= x) && decide (x <= h)))/\a=w:=by
 go_enter Tryz.func40,Tryz.ntmps40
 go_wp2
 all_goals go_ret
 all_goals (refine ⟨retB ?_,rfl⟩;rw [Bool.eq_iff_iff];simp [*];try omega)
theorem Zdo (s:ByteArray)(w:World)(_:s.size <= maxLen):Calls Tryz.prog 151 #[.string s] w fun e l=>e=.returned (.bool (Zb1 s))/\l=w:=by
 by_cases d:1 <= s.size/\s.size <= 12
 ·go_enter Tryz.func151,Tryz.ntmps151
  go_wp2
  go_loop [3] (fun i=>∃ k:Nat,k <= s.size/\i=.int .i64 k/\Hid (∀ j (c:j < s.size),j < k -> nb (s[j].toNat)=true)) (fun i=>s.size - (intOf i).toNat)
  case atStart=>exact ⟨0,by omega,rfl,fun j c h=>by omega⟩
  case round =>
   obtain ⟨k,h,rfl,H⟩:=hrel
   by_cases f:k < s.size
   ·go_wp2_with fail
    refine (ZlF _ _).mono ?_
    rintro e m ⟨rfl,rfl⟩
    by_cases g:nb (s[k].toNat)=true
    ·rw [g]
     go_wp2
     go_round
     case rel =>
      refine ⟨k+1,by omega,by go_num,fun j c h=>?_⟩
      by_cases e:j=k
      ·subst e;exact g
      ·exact H.out j c (by omega)
     case measure=>simp [intOf];omega
    ·have b:nb (s[k].toNat)=false:=by simpa using g
     have a:Hid (Zb1 s=false):=Zf0 k f b
     rw [b]
     go_wp2
     go_ret
     exact ⟨by rw [a.out];rfl,rfl⟩
   ·have a:Hid (Zb1 s=true):=Zfw d.1 d.2 fun j c=>H.out j c (by omega)
    go_wp2
    go_ret
    exact ⟨by rw [a.out];rfl,rfl⟩
 ·have a:Hid (Zb1 s=false):=Zeo d
  go_enter Tryz.func151,Tryz.ntmps151
  go_wp2
  all_goals go_ret
  all_goals first | exact ⟨by rw [a.out];rfl,rfl⟩ | (exfalso;omega)
theorem ZaT (s:ByteArray)(w:World)(m:s.size <= maxLen):Calls Tryz.prog 77 #[.string s] w fun e o=>e=.returned (.bool (Zb1 s))/\o=w:=by
 unfold maxLen at m
 go_enter Tryz.func77,Tryz.ntmps77
 go_wp2
 go_loop [3] (fun i=>∃ k:Nat,k <= s.size/\i=.int .i64 k/\Hid (∀ j (a:j < s.size),j < k -> nb (s[j].toNat)=true)) (fun i=>s.size - (intOf i).toNat)
 case atStart=>exact ⟨0,by omega,rfl,fun j a g=>by omega⟩
 case round =>
  obtain ⟨k,g,rfl,H⟩:=hrel
  by_cases d:k < s.size
  ·go_wp2_with fail
   refine (ZlS _ _).mono ?_
   rintro e h ⟨rfl,rfl⟩
   by_cases f:nb (s[k].toNat)=true
   ·rw [f]
    go_wp2
    go_round
    case rel =>
     refine ⟨k+1,by omega,by go_num,fun j a g=>?_⟩
     by_cases e:j=k
     ·subst e;exact f
     ·exact H.out j a (by omega)
    case measure=>simp [intOf];omega
   ·have b:nb (s[k].toNat)=false:=by simpa using f
    have l:Hid (Zb1 s=false):=Zf0 k d b
    rw [b]
    go_wp2
    go_ret
    exact ⟨by rw [l.out];rfl,rfl⟩
  ·have n:Hid (∀ j (a:j < s.size),nb (s[j].toNat)=true):=fun j a=>H.out j a (by omega)
   go_wp2_with fail
   refine (Zar _ _ _ _).mono ?_
   rintro e h ⟨rfl,rfl⟩
   go_wp2
   go_ret
   refine ⟨retB ?_,rfl⟩
   by_cases c:1 <= s.size/\s.size <= 12
   ·rw [Zfw c.1 c.2 n.out]
    simp;omega
   ·rw [Zeo c]
    simp;omega
theorem Zab {P:Program}{c:Func}{p u:Tmp}{b:TypeId}(h:c.results=#[.cell p b,.tmp u])(a:Array Value)(w:World)(g:Nat)(t:TypeId)(cs:Array Value)(fr:Nat × Nat)(d:TypeDesc)(f:a.getD p undef=.pointer (some ⟨g,0,none⟩))(e:w.heap[g]? = some (.cells cs t fr))(i:P.underlying b=some d)(j:(match d with | .struct _ | .array _ _=>true | _=>false)=true)(hi:(P.info? b).map (·.size)=some cs.size) :
  (results c a).run P w=.ok (.tuple #[.agg cs,a.getD u undef]) w:=by
 rw [results_cell_tmp h,f]
 simp [asAddr,run_loadVar_row w g t b cs fr d e i j hi]
theorem ZmQ:(Tryz.prog.info? 253).map (·.size)=some 5:=by kernel_rfl
def Zfx (k:Int):Value :=
 if 1 <= k/\k <= 9 then .tuple #[.agg #[.int .i64 (lo k),.int .i64 (hi k),.bool (hasS k),.bool (hasA k),.bool (hasB k)],.bool true]
 else .tuple #[.agg #[.int .i64 0,.int .i64 0,.bool false,.bool false,.bool false],.bool false]
theorem Zdq (k:Int)(w:World):Calls Tryz.prog 175 #[.int .i64 k] w fun e a=>e=.returned (Zfx k)/\Below w.heap.size w a:=by
 go_enter Tryz.func175,Tryz.ntmps175
 go_wp2
 all_goals refine bodyPost_ret (Zab rfl _ _ w.heap.size 253 _ (0,0) _ rfl (heap_alloc_new _ _) Tryz.underlying253 rfl ZmQ) rfl ⟨?_,(Below.refl _ _).alloc (Nat.le_refl _) _⟩
 all_goals simp only [beq_iff_eq,beq_eq_false_iff_ne] at *
 all_goals (try subst k)
 all_goals first | rfl | (rw [Zfx,if_neg (by omega)];rfl)
theorem Zfo (s:ByteArray)(b:Bool)(w:World)(a:s.size <= maxLen):Calls Tryz.prog 176 #[.string s,.bool b] w fun e c=>e=.returned (.bool (Zbt s b))/\c=w:=by
 cases b with
 | false =>
  go_enter Tryz.func176,Tryz.ntmps176
  go_wp2
  all_goals go_ret
  all_goals simp [Zbt]
 | true =>
  go_enter Tryz.func176,Tryz.ntmps176
  go_wp2_with fail
  refine (Zdo s _ a).mono ?_
  rintro e d ⟨rfl,rfl⟩
  go_wp2
  go_ret
  simp [Zbt]
theorem Zdb (p:Int)(b:Bool)(n:Int)(w:World):Calls Tryz.prog 177 #[.int .i64 p,.bool b,.int .i64 n] w fun e a=>e=.returned (.bool (Zbq p b n))/\a=w:=by
 cases b with
 | false =>
  go_enter Tryz.func177,Tryz.ntmps177
  go_wp2
  all_goals go_ret
  all_goals simp [Zbq]
 | true =>
  go_enter Tryz.func177,Tryz.ntmps177
  go_wp2
  all_goals go_ret
  all_goals (refine ⟨retB ?_,rfl⟩;rw [Bool.eq_iff_iff];simp [Zbq, *];try omega)
end Go.Proofs.YtfeodlbpnghakaaGreatDoor
