/-
  Texts that stood by themselves, laid into one.
-/
import Derived.Test.YtkpfangkfknhoaaGreatDoorRows
import Derived.WalkKit
import Derived.WalkLawsBesides
import Derived.WalkSpells
import Derived.Deep.QuietTactic
import Derived.BigQuiet
import Derived.Laws.CopyOwn
/-
  Helpers for the proofs over this seat: what it is for a slice of bytes to read as a list of numbers in a world. Nothing of the program is proved here; no condition.
-/
set_option maxRecDepth 100000
set_option maxHeartbeats 800000
namespace Go.Proofs.YtkpfangkfknhoaaGreatDoor
open Go.Proofs.Tryz
open Go.RowKit
abbrev cd:=@cell_of_row
abbrev ce:=@Nat.le_refl
abbrev cj:=@Below.refl
abbrev co:=@heap_alloc_new
abbrev cr:=@heap_setCell_other
abbrev cu:=@heap_setCell_same
abbrev cw:=@frozen_of_row
abbrev cx:=@bodyPost_ret
abbrev cy:=@Nat.lt_of_lt_of_le
abbrev cz:=@heap_alloc_old
abbrev cE:=@wpList_load_row
abbrev cF:=@World.grownBy_alloc
abbrev cG:=@Int.eq_ofNat_of_zero_le
abbrev cH:=@heap_alloc2_new
abbrev cI:=@ownsRow_setCell_below
theorem sit {α:Type}(l:List α)(i:Nat)(a:α):l.toArray.setIfInBounds i a=(l.set i a).toArray:=List.setIfInBounds_toArray ..
theorem sc0 {α:Type}(a b:α)(l:List α):(a :: l).set 0 b=b :: l:=rfl
theorem scs {α:Type}(a b:α)(l:List α)(i:Nat):(a :: l).set (i+1) b=a :: l.set i b:=rfl
theorem bl {α:Type}{a:Array α}{i:Nat}{b:α}(h:a[i]? = some b):i < a.size:=(Array.getElem?_eq_some_iff.1 h).1
theorem bb {w a:World}{k:Nat}{o:Obj}(h:w.heap[k]? = some o)(b:Below w.heap.size w a):a.heap[k]? = some o:=(b.block _ (bl h)).trans h
def Row (w:World)(v:Value)(zs:List Int):Prop :=
 ∃ ao cap,v=.slice ao zs.length cap/\zs.length <= cap/\zs.length <= 140737488351232/\(∀ z ∈ zs,0 <= z/\z <= 255) /\
  (zs ≠ [] -> ∃ g o,ao=some ⟨g,o,none⟩/\g < w.heap.size/\∀ i,i < zs.length -> w.cell? ⟨g,o+i,none⟩=some (.int .u8 (zs.getD i 0)))
theorem Row.below {w d:World}{v:Value}{zs:List Int}(h:Row w v zs)(e:Below w.heap.size w d):Row d v zs:=by
 obtain ⟨m,c,rfl,l,j,k,a⟩:=h;refine ⟨m,c,rfl,l,j,k,fun b=>?_⟩;obtain ⟨g,o,rfl,f,a⟩:=a b;exact ⟨g,o,rfl,cy f e.size,fun i hi=>(e.cell (p:=⟨g,o+i,none⟩) f).trans (a i hi)⟩
theorem ZnS:(prog.info? 5).map (fun i=>(i.zero,i.size,i.bytes))=some (some (.int .u8 0),1,1):=by kernel_rfl
def bv (zs:List Int):List Value:=zs.map (Value.int .u8)
theorem ZaV (zs:List Int):(bv zs).length=zs.length:=by simp [bv]
theorem Zcn (a b:List Int):bv (a ++ b)=bv a ++ bv b:=by simp [bv]
theorem ZhC (zs:List Int)(i:Nat)(h:i < zs.length):(bv zs)[i]? = some (.int .u8 (zs.getD i 0)):=by
 simp [bv,List.getD,h]
theorem Row.of_own {w:World}{base:Nat}{v:Value}{zs:List Int}(h:w.ownsRow base 5 1 v zs.length (bv zs))(d:zs.length <= 140737488351232)(f:∀ z ∈ zs,0 <= z/\z <= 255):Row w v zs:=by
 rcases h.2 with ⟨rfl,j⟩ | ⟨g,c,cur,rfl,m,k,b,l,e,a⟩
 ·have:zs=[]:=List.eq_nil_of_length_eq_zero j
  subst this;exact ⟨none,0,rfl,by simp,by simp,by simp,fun h=>absurd rfl h⟩
 ·refine ⟨_,c,rfl,b,d,f,fun _=>⟨g,0,rfl,(bl k),fun i hi=>?_⟩⟩
  have:=h.cellAt i (by omega);rw [Nat.zero_add,this,ZhC zs i hi]
end Go.Proofs.YtkpfangkfknhoaaGreatDoor
namespace Go.Proofs.YtkpfangkfknhoaaGreatDoor
open Go.Proofs.Tryz
def enc:Nat -> Int -> List Int
 | 0,_=>[]
 | f+1,x=>if x < 128 then [x] else (x % 128+128) :: enc f (x / 128)
def lim:Nat -> Int
 | 0=>1
 | f+1=>128 * lim f
theorem Zfg:lim 9=9223372036854775808:=by simp [lim]
theorem ZgE (f:Nat):1 <= lim f:=by
 induction f with
 | zero=>simp [lim]
 | succ f ih=>simp only [lim];omega
theorem Za9 (f:Nat)(x:Int)(h:x < 128):enc (f+1) x=[x]:=by simp [enc,h]
theorem ZcC (f:Nat)(x:Int)(h:128 <= x):enc (f+1) x=(x % 128+128) :: enc f (x / 128):=by
 have:¬ x < 128:=by omega
 simp [enc,this]
theorem Zdo (f:Nat)(y:Int)(h:128 <= y)(b:y < lim (f+1)):∃ a,f=a+1/\y / 128 < lim f:=by
 cases f with
 | zero=>simp [lim] at b;omega
 | succ a=>exact ⟨a,rfl,by simp only [lim] at b ⊢;omega⟩
theorem ZhQ (f:Nat)(x:Int):(enc f x).length <= f:=by
 induction f generalizing x with
 | zero=>simp [enc]
 | succ f ih =>
  simp only [enc];split
  ·simp
  ·simp only [List.length_cons];have:=ih (x / 128);omega
theorem ZmQ (f:Nat)(x:Int)(h:0 <= x):∀ z ∈ enc f x,0 <= z/\z <= 255:=by
 induction f generalizing x with
 | zero=>simp [enc]
 | succ f ih =>
  simp only [enc];split
  ·intro z a;simp at a;omega
  ·intro z a
   simp only [List.mem_cons] at a;rcases a with rfl | a
   ·omega
   ·exact ih _ (by omega) z a
def encI (x:Int):List Int:=if x < 0 then [] else enc 9 x
theorem ZkW (x:Int)(h:x < 0):encI x=[]:=by simp [encI,h]
theorem Zcu (x:Int)(h:0 <= x):encI x=enc 9 x:=by
 have:¬ x < 0:=by omega
 simp [encI,this]
theorem Zat (x:Int):(encI x).length <= 9:=by
 unfold encI;split
 ·simp
 ·exact ZhQ 9 x
theorem ZbY (x:Int):∀ z ∈ encI x,0 <= z/\z <= 255:=by
 unfold encI;split
 ·simp
 ·exact ZmQ 9 x (by omega)
end Go.Proofs.YtkpfangkfknhoaaGreatDoor
namespace Go.Proofs.YtkpfangkfknhoaaGreatDoor
open Go.Proofs.Tryz
open Go.RowKit
def scan:Nat -> List Int -> Option (List Int)
 | 0,_=>none
 | _+1,[]=>none
 | f+1,b :: bs=>if b < 128 then some [b] else (scan f bs).map (b :: ·)
def val:List Int -> Int
 | []=>0
 | b :: bs=>b % 128+128 * val bs
theorem ZbQ (a:List Int):0 <= val a/\val a < lim a.length:=by
 induction a with
 | nil=>simp [val,lim]
 | cons b a ih=>simp only [val,List.length_cons,lim];omega
theorem Zho (a:List Int)(b:Int):val (a ++ [b])=val a+b % 128 * lim a.length:=by
 induction a with
 | nil=>simp [val,lim]
 | cons c a ih =>
  simp only [List.cons_append,val,ih,List.length_cons,lim];rw [Int.mul_add,<- Int.mul_assoc,<- Int.mul_assoc,Int.mul_comm (b % 128) 128];omega
theorem ZeR {a b:Nat}(h:a <= b):lim a <= lim b:=by
 induction h with
 | refl=>exact Int.le_refl _
 | step h ih=>rename_i m;have:=ZgE m;simp only [lim];omega
theorem Zl3 (b:Int)(k:Nat):0 <= b % 128 * lim k/\b % 128 * lim k <= 127 * lim k:=by
 have c:0 <= b % 128:=by omega
 have a:b % 128 <= 127:=by omega
 have d:=ZgE k;exact ⟨Int.mul_nonneg c (by omega),Int.mul_le_mul_of_nonneg_right a (by omega)⟩
def gN (zs:List Int)(a:Int):Int × Int × Bool :=
 if a < 0 then (0,0,false) else
 match scan 9 (zs.drop a.toNat) with
 | none=>(0,0,false)
 | some bs=>if 1 < bs.length/\bs.getLast? = some 0 then (0,0,false) else (val bs,a+bs.length,true)
theorem ZlR (zs:List Int)(a:Int)(h:a < 0):gN zs a=(0,0,false):=by simp [gN,h]
theorem Zc5 (zs:List Int)(a:Nat)(h:scan 9 (zs.drop a)=none):gN zs (a:Int)=(0,0,false):=by
 have:¬ (a:Int) < 0:=by omega
 simp [gN,h]
theorem ZlW (zs:List Int)(a:Nat)(b:List Int)(h:scan 9 (zs.drop a)=some (b ++ [0]))(c:0 < b.length):gN zs (a:Int)=(0,0,false):=by
 have:¬ (a:Int) < 0:=by omega
 simp [gN,h];intro d;subst d;simp at c
theorem Zkh (zs:List Int)(a:Nat)(c:List Int)(b:Int)(h:scan 9 (zs.drop a)=some (c ++ [b]))(f:¬ (b=0/\0 < c.length)) :
  gN zs (a:Int)=(val c+b % 128 * lim c.length,(a:Int)+c.length+1,true):=by
 have e:¬ (a:Int) < 0:=by omega
 have d:¬ (1 < (c ++ [b]).length/\(c ++ [b]).getLast? = some 0):=by
  simp only [List.length_append,List.length_cons,List.length_nil,List.getLast?_append,List.getLast?_singleton,Option.some_or,Option.some.injEq];omega
 simp only [gN,e,if_false,Int.toNat_natCast,h];rw [if_neg d,Zho];simp only [List.length_append,List.length_cons,List.length_nil]
 congr 2
def Sc (zs:List Int)(a k:Nat)(acc:List Int):Prop:=acc.length=k/\scan 9 (zs.drop a)=(scan (9 - k) (zs.drop (a+k))).map (acc ++ ·)
theorem Sc.start (zs:List Int)(a:Nat):Sc zs a 0 []:=⟨rfl,by simp⟩
theorem Sc.more {zs:List Int}{a k:Nat}{b:List Int}(h:Sc zs a k b)(d:k < 9)(c:a+k < zs.length)(e:128 <= zs[a+k]):Sc zs a (k+1) (b ++ [zs[a+k]]):=by
 refine ⟨by simp [h.1],?_⟩;rw [h.2,show 9 - k=9 - (k+1)+1 by omega,List.drop_eq_getElem_cons c];simp only [scan];rw [if_neg (by omega),Option.map_map]
 congr 1
 funext x
 simp
theorem Sc.last {zs:List Int}{a k:Nat}{b:List Int}(h:Sc zs a k b)(e:k < 9)(c:a+k < zs.length)(d:zs[a+k] < 128):scan 9 (zs.drop a)=some (b ++ [zs[a+k]]):=by
 rw [h.2,show 9 - k=9 - (k+1)+1 by omega,List.drop_eq_getElem_cons c];simp only [scan];rw [if_pos d];rfl
theorem Sc.out {zs:List Int}{a k:Nat}{c:List Int}(h:Sc zs a k c)(b:9 <= k \/ zs.length <= a+k):scan 9 (zs.drop a)=none:=by
 rw [h.2];rcases b with b | b
 ·rw [show 9 - k=0 by omega];rfl
 ·rw [List.drop_eq_nil_of_le b]
  cases 9 - k <;> rfl
abbrev gV (r:Int × Int × Bool):Value:=.tuple #[.int .i64 r.1,.int .i64 r.2.1,.bool r.2.2]
theorem Zdt {k:Nat}(h:k <= 8):lim k <= 72057594037927936:=by
 have:=ZeR h;rw [show lim 8=72057594037927936 from by simp [lim]] at this;exact this
theorem Zkx {k:Nat}(h:k <= 7):lim k <= 562949953421312:=by
 have:=ZeR h;rw [show lim 7=562949953421312 from by simp [lim]] at this;exact this
end Go.Proofs.YtkpfangkfknhoaaGreatDoor
namespace Go.Proofs.YtkpfangkfknhoaaGreatDoor
open Go.Proofs.Tryz
theorem Zfa:∀ (f:Nat) (ys c:List Int),scan f ys=some c -> c ≠ []/\c.length <= f/\∃ a,ys=c ++ a
 | 0,_,_,h=>by simp [scan] at h
 | _+1,[],_,h=>by simp [scan] at h
 | f+1,b :: ys,c,h=>by
  simp only [scan] at h;split at h
  ·cases h;exact ⟨by simp,by simp,ys,rfl⟩
  ·cases d:scan f ys with
   | none=>rw [d] at h;cases h
   | some cs =>
    rw [d] at h;cases h;obtain ⟨i,g,a,e⟩:=Zfa f ys cs d;exact ⟨by simp,by simp;omega,a,by rw [e];rfl⟩
theorem Zhi:∀ (f:Nat) (ys g:List Int),(∀ z ∈ ys,0 <= z/\z <= 255) -> scan f ys=some g -> (1 < g.length -> g.getLast? ≠ some 0) -> enc f (val g)=g
 | 0,_,_,_,h,_=>by simp [scan] at h
 | _+1,[],_,_,h,_=>by simp [scan] at h
 | f+1,b :: ys,g,hz,h,hl=>by
  have t:=hz b (by simp);simp only [scan] at h;split at h
  ·rename_i k
   cases h;have e:val [b]=b:=by simp only [val];omega
   rw [e,Za9 f b k]
  ·rename_i p
   cases j:scan f ys with
   | none=>rw [j] at h;cases h
   | some cs =>
    rw [j] at h;cases h;obtain ⟨a,m,_⟩:=Zfa f ys cs j;have c:(b :: cs).getLast? = cs.getLast?:=List.getLast?_cons_of_ne_nil a
    have d:cs.getLast? ≠ some 0:=by
     rw [<- c];apply hl;have:=List.length_pos_iff.2 a;simp;omega
    have i:=Zhi f ys cs (fun z h=>hz z (by simp [h])) j (fun _=>d);have s:=(ZbQ cs).1
    have r:1 <= val cs:=by
     rcases Int.lt_or_le 0 (val cs) with q | q
     ·omega
     ·have l:val cs=0:=by omega
      rw [l] at i;cases f with
      | zero=>rw [<- i] at a;simp [enc] at a
      | succ f =>
       rw [Za9 f 0 (by omega)] at i;rw [<- i] at d;simp at d
    have e:val (b :: cs)=b % 128+128 * val cs:=rfl;rw [e,ZcC f _ (by omega)];have n:(b % 128+128 * val cs) % 128+128=b:=by omega
    have o:(b % 128+128 * val cs) / 128=val cs:=by omega
    rw [n,o,i]
theorem Zg7 {zs:List Int}{a x next:Int}(j:∀ z ∈ zs,0 <= z/\z <= 255)(h:gN zs a=(x,next,true)):0 <= a/\0 <= x/\next=a+(encI x).length/\∃ b,zs.drop a.toNat=encI x ++ b:=by
 unfold gN at h;split at h
 ·cases h
 ·rename_i n
  cases c:scan 9 (zs.drop a.toNat) with
  | none=>rw [c] at h;cases h
  | some bs =>
   rw [c] at h;simp only at h;split at h
   ·cases h
   ·rename_i k
    cases h;have l:∀ z ∈ zs.drop a.toNat,0 <= z/\z <= 255:=fun z h=>j z (List.mem_of_mem_drop h)
    have m:=Zhi 9 _ bs l c (fun i f=>k ⟨i,f⟩);obtain ⟨_,_,b,g⟩:=Zfa 9 _ bs c;have e:=(ZbQ bs).1;have d:encI (val bs)=bs:=by rw [Zcu _ e,m]
    exact ⟨by omega,e,by rw [d],b,by rw [d];exact g⟩
end Go.Proofs.YtkpfangkfknhoaaGreatDoor
namespace Go.Proofs.YtkpfangkfknhoaaGreatDoor
open Go.Proofs.Tryz
open Go.RowKit
theorem Zaj {d b c:World}{row:Option Nat}(h:d.grownBy b row)(k:b.grownBy c row):d.grownBy c row :=
 ⟨k.os.trans h.os,k.tape.trans h.tape,k.output.trans h.output,Nat.le_trans h.size k.size,fun i hi a=>(k.block i (cy hi h.size) a).trans (h.block i hi a)⟩
theorem Zan (w:World)(P:Nat)(j:Nat)(v:Value):w.grownBy (w.setCell ⟨P,j,none⟩ v) (some P) :=
 ⟨rfl,rfl,rfl,by simp [World.setCell],fun k _ a=>cr w ⟨P,j,none⟩ k v (fun e=>a (by simp [e]))⟩
theorem ZcN {w a:World}(h:Below w.heap.size w a)(row:Option Nat):w.grownBy a row :=
 ⟨h.os,h.tape,h.output,h.size,fun k b _=>h.block k b⟩
theorem Zb8 {w a:World}(h:Below w.heap.size w a)(row:Option Nat):w.grownBy a row :=
 ⟨h.os,h.tape,h.output,h.size,fun k b _=>h.block k b⟩
theorem Zai {P:Program}{ops:Array Oper}{c:List Oper}{o:Oper}{a:Act}{w:World}{Q:Exit -> Act -> World -> Prop}(i:o.guard=none)(f:TypeId)(x y:Operand)(m:o.op=.store f x y)(g:Nat)(cells:Array Value)(k:a.eval x=.pointer (some ⟨g,0,none⟩))(l:a.eval y=.agg cells)(t:TypeId)(b:Array Value)(j:w.heap[g]? = some (.cells b t (0,0)))(hi:(P.info? f).map (·.size)=some cells.size)(d:b.size=cells.size)(n:cells.all (·.oneCell')=true)(h:∀ e:World,e.heap[g]? = some (.cells cells t (0,0)) -> Below g w e -> e.heap.size=w.heap.size -> wpList P ops Q c (a.put o.dst undef) e):wpList P ops Q (o :: c) a w :=
 wpList_store_row i f x y m g cells k l t b j hi d n (h _ (setRow_heap w g b _ t _ j) (below_setRow (cj _ _) (ce _) _) (size_setRow w g cells))
theorem old2 (w:World)(A B:Obj):((w.alloc A).alloc B).heap[w.heap.size]? = some A:=(cz _ _ (by simp)).trans (co _ _)
theorem ZlL (w:World)(A B:Obj):Below w.heap.size w ((w.alloc A).alloc B):=((cj _ _).alloc (ce _) _).alloc (by simp) _
def Zcm (xs:List Int):Array Value:=(bv (xs ++ List.replicate (9 - xs.length) 0) ++ [Value.int .i64 xs.length]).toArray
theorem ZfT (a:List Int)(h:a.length <= 9)(i:Nat)(hi:i < 9):(Zcm a)[i]? = some (.int .u8 ((a ++ List.replicate (9 - a.length) 0).getD i 0)):=by
 have b:(a ++ List.replicate (9 - a.length) 0).length=9:=by simp;omega
 unfold Zcm;rw [List.getElem?_toArray,List.getElem?_append_left (by rw [ZaV,b];exact hi)];exact ZhC _ i (by rw [b];exact hi)
theorem ZbT (a:List Int)(h:a.length <= 9):(Zcm a)[9]? = some (.int .i64 a.length):=by
 have b:(a ++ List.replicate (9 - a.length) 0).length=9:=by simp;omega
 unfold Zcm;rw [List.getElem?_toArray,List.getElem?_append_right (by rw [ZaV,b];exact ce _)];simp [ZaV,b]
theorem Zkr (a:List Int)(b:Int)(h:a.length < 9):((Zcm a).setIfInBounds a.length (.int .u8 b)).setIfInBounds 9 (.int .i64 ((a.length:Int)+1))=Zcm (a ++ [b]):=by
 have e:List.replicate (9 - a.length) (0:Int)=0 :: List.replicate (9 - (a ++ [b]).length) 0:=by
  rw [show 9 - a.length=(9 - (a ++ [b]).length)+1 by simp;omega,List.replicate_succ]
 apply Array.ext';simp only [Zcm,Array.toList_setIfInBounds,List.toList_toArray,bv,List.map_append];rw [e];simp only [List.map_cons,List.append_assoc];rw [List.set_append_right _ _ (by simp)];simp only [List.length_map,Nat.sub_self,List.cons_append,List.set_cons_zero];rw [List.set_append_right _ _ (by simp;omega)];rw [show 9 - (List.map (Value.int IntKind.u8) a).length=9 - (a.length+1)+1 by simp;omega,List.set_cons_succ];rw [List.set_append_right _ _ (by simp)];simp
theorem Zmi (B:Nat)(b:Int)(a:List Int)(w:World)(h:a.length < 9)(f:w.heap[B]? = some (.cells (Zcm a) 261 (0,0))) :
  Calls prog 196 #[.pointer (some ⟨B,0,none⟩),.int .u8 b] w fun e g=>e=.returned (.tuple #[])/\g.heap[B]? = some (.cells (Zcm (a ++ [b])) 261 (0,0))/\Below B w g:=by
 have d:∀ i,w.cell? ⟨B,i,none⟩=(Zcm a)[i]?:=fun i=>cd w B i _ 261 (0,0) f
 have c:∀ i,w.frozen? ⟨B,i,none⟩=false:=fun i=>cw w B i _ 261 f
 have c9:w.cell? ⟨B,9,none⟩=some (.int .i64 a.length):=by rw [d,ZbT a (by omega)]
 have j:=c 9;have k:=(d a.length).trans (ZfT a (by omega) a.length h);have l:=c a.length;clear d c
 go_enter func196,ntmps196
 go_wp2
 go_region
 all_goals go_wp2
 all_goals go_end0
 refine ⟨rfl,?_,(((cj B w).setCell (p:=⟨B,a.length,none⟩) (ce B) _).setCell (p:=⟨B,9,none⟩) (ce B) _).drew⟩;rw [<- Zkr a b h];exact cu _ B 9 _ 261 _ (cu w B a.length _ 261 _ f)
def nV (bs:List Int):Int × Bool:=if 1 < bs.length/\bs.getLast? = some 0 then (0,false) else (val bs,true)
theorem Zjt (a:List Int)(h:a.length <= 9)(w:World)(F:Nat)(b:w.heap[F]? = some (.cells (Zcm a) 261 (0,0)))(i:Nat)(hi:i < a.length) :
  w.cell? ⟨F,i,none⟩=some (.int .u8 a[i]):=by
 rw [cd w F i _ 261 (0,0) b,ZfT a h i (by omega),List.getD_eq_getElem?_getD,List.getElem?_append_left hi];simp [hi]
theorem Zk9 (a:List Int)(m:Nat)(h:m < a.length):val (a.drop m)=val (a.drop (m+1)) * 128+a[m] % 128:=by
 rw [List.drop_eq_getElem_cons h];simp only [val];omega
theorem ZmH (a:List Int)(n:Nat)(l:Int)(b:a.length=n+1)(c:a[n]? = some l)(d:0 < n)(h:l=0):nV a=(0,false):=by
 have e:a.getLast? = some 0:=by rw [List.getLast?_eq_getElem?,b,Nat.add_sub_cancel,c,h]
 unfold nV;rw [if_pos ⟨by omega,e⟩]
theorem Zm9 (a:List Int)(n:Nat)(l:Int)(b:a.length=n+1)(c:a[n]? = some l)(h:n=0 \/ (0 < n/\¬ l=0)):nV a=(val a,true):=by
 have e:a.getLast? = some l:=by rw [List.getLast?_eq_getElem?,b,Nat.add_sub_cancel,c]
 unfold nV;rw [if_neg];rw [e,b];simp only [Option.some.injEq];omega
theorem Zit (F:Nat)(a:List Int)(w:World)(K:1 <= a.length)(v:a.length <= 9)(h:∀ z ∈ a,0 <= z/\z <= 255)(p:w.heap[F]? = some (.cells (Zcm a) 261 (0,0))) :
  Calls prog 197 #[.pointer (some ⟨F,0,none⟩)] w fun e G=>e=.returned (.tuple #[.int .i64 (nV a).1,.bool (nV a).2])/\G=w:=by
 obtain ⟨n,d⟩:∃ n,a.length=n+1:=⟨a.length - 1,by omega⟩;have B:n < 9:=by omega
 have c9:w.cell? ⟨F,9,none⟩=some (.int .i64 ((n:Int)+1)):=by
  rw [cd w F 9 _ 261 (0,0) p,ZbT a v,d];simp
 have k:=Zjt a v w F p;clear p;obtain ⟨l,c⟩:∃ l,a[n]? = some l:=⟨a[n],by simp⟩
 have A:w.cell? ⟨F,n,none⟩=some (.int .u8 l):=by
  have:=k n (by omega);rw [this];rw [List.getElem?_eq_getElem (by omega)] at c;rw [Option.some.inj c]
 have D:=h l (List.mem_of_getElem? c)
 by_cases b:0 < n/\l=0
 ·have o:Hid (nV a=(0,false)):=ZmH a n l d c b.1 b.2
  obtain ⟨y,rfl⟩:=b;clear k h c d
  go_enter func197,ntmps197
  go_wp2
  go_ret2
  exact ⟨by rw [o.out];rfl,rfl⟩
 ·have f:n=0 \/ (0 < n/\¬ l=0):=by omega
  have o:Hid (nV a=(val a,true)):=Zm9 a n l d c f;have u:Hid (a.length=n+1):=d;have f:n < 1 \/ (0 < n/\¬ l=0):=by omega
  clear b d c;rcases f with f | ⟨f,E⟩
  all_goals
   go_enter func197,ntmps197
   go_wp2
   go_loop [5,6] (fun x i=>∃ (j:Nat) (q:Int),j <= n+1/\i=.int .i64 q/\x=.int .i64 (val (a.drop j))/\Hid (q=(j:Int) - 1)) (fun _ i=>(intOf i+1).toNat)
   case atStart=>exact ⟨n+1,n,by omega,by go_num,by rw [List.drop_eq_nil_of_le (by have:=u.out;omega)];rfl,by unfold Hid;omega⟩
   case round =>
    obtain ⟨j,q,I,rfl,rfl,r⟩:=hrel;cases j with
    | zero =>
     have s:q < 0:=by have:=r.out;omega
     go_wp2
     go_ret2
     exact ⟨by rw [o.out];rfl,rfl⟩
    | succ m =>
     have s:q=(m:Int):=by have:=r.out;omega
     subst s;clear r;have g:m < a.length:=by have:=u.out;omega
     have L:=k m g;have J:=ZbQ (a.drop (m+1));have t:=Zdt (show (a.drop (m+1)).length <= 8 by simp;omega);have H:Hid (val (a.drop m)=val (a.drop (m+1)) * 128+a[m] % 128):=Zk9 a m g;have C:=h a[m] (List.getElem_mem _);clear k h;go_wp2
     go_round
     case rel=>exact ⟨m,_,by omega,rfl,by rw [H.out],rfl⟩
     case measure=>simp [intOf]
end Go.Proofs.YtkpfangkfknhoaaGreatDoor
