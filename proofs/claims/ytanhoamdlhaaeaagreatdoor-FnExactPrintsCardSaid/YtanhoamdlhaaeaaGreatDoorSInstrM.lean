/-
  Texts that stood by themselves, laid into one.
-/
import Derived.Test.YtanhoamdlhaaeaaGreatDoorCodeM
import Derived.Test.YtanhoamdlhaaeaaGreatDoorMachRecM
/-
  The place of the first definition of a name, and the contracts of spec.DefOf and impl.DefOf. No condition.
-/
set_option maxRecDepth 100000
set_option maxHeartbeats 4000000
namespace Go.Proofs.YtanhoamdlhaaeaaGreatDoor
open Go.Proofs.Tryz
open Go.RowKit
def Za6:List Df -> ByteArray -> Nat -> Int
 | [],_,_=>-1
 | d :: ds,s,i=>if d.s.toList == s.toList then i else Za6 ds s (i+1)
theorem Zer (a:List Df)(s:ByteArray)(i:Nat)(d:Df)(h:a[i]? = some d)(e:(d.s.toList == s.toList)=true):Za6 (a.drop i) s i=i:=by
 obtain ⟨c,b⟩:=List.getElem?_eq_some_iff.1 h;rw [List.drop_eq_getElem_cons c,b,Za6,if_pos e]
theorem Zdv (a:List Df)(s:ByteArray)(i:Nat)(d:Df)(h:a[i]? = some d)(e:(d.s.toList == s.toList)=false):Za6 (a.drop i) s i=Za6 (a.drop (i+1)) s (i+1):=by
 obtain ⟨c,b⟩:=List.getElem?_eq_some_iff.1 h;rw [List.drop_eq_getElem_cons c,b,Za6,if_neg (by rw [e];simp)]
theorem Zeq (a:List Df)(s:ByteArray)(i:Nat)(h:a.length <= i):Za6 (a.drop i) s i = -1:=by
 rw [List.drop_eq_nil_of_le h,Za6]
theorem Zhr (q r:Option Addr)(y u z v:Nat)(G:Value)(b:List Df)(s:ByteArray)(w:World)(R:DfRow w G b) :
  Calls prog 94 #[.agg #[.slice q y u,.slice r z v,G],.string s] w fun e J=>e=.returned (.int .i64 (Za6 b s 0))/\Below w.heap.size w J:=by
 obtain ⟨t,c,rfl,F,O,P,a⟩:=R
 go_enter func94,ntmps94
 have j:Below w.heap.size w (w.alloc (Obj.cells #[.slice q y u,.slice r z v,.slice t b.length c] 45)):=(cf _ _).alloc (ce _) _;have n:=cg w (Obj.cells #[.slice q y u,.slice r z v,.slice t b.length c] 45);go_wp2_with fail;generalize w.alloc (Obj.cells #[.slice q y u,.slice r z v,.slice t b.length c] 45)=A at *;have D:A.cell? ⟨w.heap.size,0+2,none⟩=some (.slice t b.length c):=by rw [cd A _ 2 _ _ _ n];rfl
 have E:=(bl n)
 go_loopw [5] (fun i wr=>∃ k:Nat,k <= b.length/\i=.int .i64 k/\Hid (Za6 b s 0=Za6 (b.drop k) s k)/\Below A.heap.size A wr) (fun i _=>b.length - (intOf i).toNat)
 case atStart=>exact ⟨0,by omega,rfl,rfl,cf _ _⟩
 case round =>
  obtain ⟨k,N,rfl,d,C⟩:=hrel;have B:=j.trans (C.mono j.size);have H:=(C.cell (p:=⟨w.heap.size,0+2,none⟩) E).trans D
  by_cases l:k < b.length
  ·obtain ⟨g,o,rfl,I,a⟩:=a (by intro e;subst e;simp at l)
   obtain ⟨x,m⟩:∃ x,b[k]? = some x:=⟨b[k],by simp [l]⟩;obtain ⟨K,L,M⟩:=(a k x m).below B I;clear a;cases e:(x.s.toList == s.toList) with
   | true =>
    have f:Hid (Za6 b s 0=k):=by unfold Hid;rw [d.out,Zer b s k x m e]
    clear m d;go_wp2;go_ret;exact ⟨by rw [f.out];rfl,B⟩
   | false =>
    have f:Hid (Za6 b s 0=Za6 (b.drop (k+1)) s (k+1)):=by unfold Hid;rw [d.out,Zdv b s k x m e]
    clear m d;go_wp2
    go_roundw
    case rel=>exact ⟨k+1,by omega,by go_num,f,C⟩
    case measure=>simp [intOf];omega
  ·have f:Hid (Za6 b s 0 = -1):=by unfold Hid;rw [d.out,Zeq b s k (by omega)]
   clear d a;go_wp2;go_ret;exact ⟨by rw [f.out];rfl,B⟩
theorem Zdu (d:Df)(s:ByteArray)(q:Nat)(w:World)(f:w.cell? ⟨q,0,none⟩=some (.string s))(c:q < w.heap.size) :
  Calls prog 152 #[.agg #[.string d.s,.int .i64 d.p,.int .i64 d.m],.pointer (some ⟨q,0,none⟩)] w fun e b=>e=.returned (.bool (d.s.toList == s.toList))/\Below w.heap.size w b:=by
 have a:¬ q=w.heap.size:=by omega
 go_enter func152,ntmps152
 go_wp2;go_ret;exact ⟨rfl,(cf _ _).alloc (ce _) _⟩
theorem Zd3 (B:Value)(b:List Df)(s:ByteArray)(q:Nat)(w:World)(R:DfRow w B b)(F:w.cell? ⟨q,0,none⟩=some (.string s))(A:q < w.heap.size) :
  Calls prog 151 #[B,.func (.func 152) #[] #[.pointer (some ⟨q,0,none⟩)]] w fun e G=>e=.returned (.int .i64 (Za6 b s 0))/\Below w.heap.size w G:=by
 obtain ⟨I,C,rfl,z,K,L,a⟩:=R
 go_enter func151,ntmps151
 go_wp2_with fail
 go_loopw [8] (fun i wr=>∃ k:Nat,k <= b.length/\i=.int .i64 k/\Hid (Za6 b s 0=Za6 (b.drop k) s k)/\Below w.heap.size w wr) (fun i _=>b.length - (intOf i).toNat)
 case atStart=>exact ⟨0,by omega,rfl,rfl,cf _ _⟩
 case round =>
  obtain ⟨k,J,rfl,l,f⟩:=hrel;have d:=(f.cell (p:=⟨q,0,none⟩) A).trans F;have n:=cm A f.size
  by_cases r:k < b.length
  ·obtain ⟨g,o,rfl,E,a⟩:=a (by intro e;subst e;simp at r)
   obtain ⟨x,t⟩:∃ x,b[k]? = some x:=⟨b[k],by simp [r]⟩;obtain ⟨u,v,y⟩:=(a k x t).below f E;clear a;cases e:(x.s.toList == s.toList) with
   | true =>
    have m:Hid (Za6 b s 0=k):=by unfold Hid;rw [l.out,Zer b s k x t e]
    clear t l;go_wp2_with fail;refine (Zdu x s q _ d n).mono ?_;rintro D H ⟨rfl,c⟩;rw [e];have j:=f.trans (c.mono f.size);clear u v y d c;go_wp2;go_ret;exact ⟨by rw [m.out];rfl,j⟩
   | false =>
    have m:Hid (Za6 b s 0=Za6 (b.drop (k+1)) s (k+1)):=by unfold Hid;rw [l.out,Zdv b s k x t e]
    clear t l;go_wp2_with fail;refine (Zdu x s q _ d n).mono ?_;rintro D H ⟨rfl,c⟩;rw [e];have j:=f.trans (c.mono f.size);clear u v y d c;go_wp2
    go_roundw
    case rel=>exact ⟨k+1,by omega,by go_num,m,j⟩
    case measure=>simp [intOf];omega
  ·have m:Hid (Za6 b s 0 = -1):=by unfold Hid;rw [l.out,Zeq b s k (by omega)]
   clear l a;go_wp2;go_ret;exact ⟨by rw [m.out];rfl,f⟩
theorem Zg0 (g i:Option Addr)(m j n k:Nat)(o:Value)(d:List Df)(s:ByteArray)(w:World)(R:DfRow w o d) :
  Calls prog 129 #[.agg #[.slice g m j,.slice i n k,o],.string s] w fun e t=>e=.returned (.int .i64 (Za6 d s 0))/\Below w.heap.size w t:=by
 have r:∀ (l:Fn) (first b:Array Value) (w:World),(Instr.makeFunc l first b).run prog w=.ok (.func l first b) w:=fun _ _ _ _=>rfl
 obtain ⟨p,q,rfl⟩:=R.small
 go_enter func129,ntmps129
 go_wp2_with fail;have a:Below w.heap.size w ((w.alloc (Obj.cells #[.slice g m j,.slice i n k,.slice p d.length q] 45)).alloc (Obj.cells #[.string s] 9)):=((cf _ _).alloc (ce _) _).alloc (by simp) _;refine (Zd3 _ d s (w.heap.size+1) _ (R.below a) ?_ ?_).mono ?_
 ·rw [cd _ _ 0 _ _ _ (cw _ _ _)];rfl
 ·simp
 rintro e u ⟨rfl,c⟩;have f:=a.trans (c.mono a.size);clear a c;go_wp2;go_ret;exact ⟨rfl,f⟩
def ZbS (x:In):Bool:=x.n == 0 && x.i == 0 && x.s.toList == []
def litB (x:In)(n1:Nat):Bool:=x.i == 0 && x.s.toList == [] && decide (0 <= x.n) && decide (x.n < n1)
def varB (x:In):Bool:=x.s.toList == [] && decide (0 <= x.n) && decide (x.n <= 20) && decide (0 <= x.i) && decide (x.i < 4)
def ZaY (x:In):Bool:=x.n == 0 && x.i == 0 && ZbQ x.s
def wayB (x:In)(i:Int)(n2:Nat):Bool:=x.i == 0 && x.s.toList == [] && decide (i < x.n) && decide (x.n <= n2)
def funB (x:In)(i:Int)(n2:Nat):Bool:=x.s.toList == [] && decide (i < x.n) && decide (x.n < n2) && decide (0 <= x.i) && decide (x.i <= 4)
def Zcj (x:In):Bool:=x.n == 0 && x.s.toList == [] && decide (0 <= x.i) && decide (x.i <= 4)
theorem ZdB (x:In)(a b c:Option Addr)(j k l d f g:Nat)(i:Int)(w:World) :
  Calls prog 149 #[.agg #[.int .i64 x.o,.int .i64 x.n,.int .i64 x.i,.string x.s],.agg #[.slice a j d,.slice b k f,.slice c l g],.int .i64 i] w fun e m=>e=.returned (.bool (ZbS x))/\Below w.heap.size w m:=by
 go_enter func149,ntmps149
 go_wp2
 all_goals
  go_ret;refine ⟨retB ?_,?_⟩
  ·unfold ZbS
   first
    | (simp [*];done)
    | (simp [*];omega)
    | (rw [Bool.eq_iff_iff];simp [*];omega)
  ·first
    | exact ((cf _ _).alloc (ce _) _).alloc (by simp) _
    | exact (((cf _ _).alloc (ce _) _).alloc (by simp) _).alloc (by simp;omega) _
theorem Zh9 (x:In)(b c d:Option Addr)(a k l f g j:Nat)(i:Int)(w:World) :
  Calls prog 143 #[.agg #[.int .i64 x.o,.int .i64 x.n,.int .i64 x.i,.string x.s],.agg #[.slice b a f,.slice c k g,.slice d l j],.int .i64 i] w fun e m=>e=.returned (.bool (litB x a))/\Below w.heap.size w m:=by
 go_enter func143,ntmps143
 go_wp2
 all_goals
  go_ret;refine ⟨retB ?_,?_⟩
  ·unfold litB
   first
    | (simp [*];done)
    | (simp [*];omega)
    | (rw [Bool.eq_iff_iff];simp [*];omega)
  ·first
    | exact ((cf _ _).alloc (ce _) _).alloc (by simp) _
    | exact (((cf _ _).alloc (ce _) _).alloc (by simp) _).alloc (by simp;omega) _
theorem Zia (x:In)(a b c:Option Addr)(j k l d f g:Nat)(i:Int)(w:World) :
  Calls prog 144 #[.agg #[.int .i64 x.o,.int .i64 x.n,.int .i64 x.i,.string x.s],.agg #[.slice a j d,.slice b k f,.slice c l g],.int .i64 i] w fun e m=>e=.returned (.bool (varB x))/\Below w.heap.size w m:=by
 go_enter func144,ntmps144
 go_wp2
 all_goals
  go_ret;refine ⟨retB ?_,?_⟩
  ·unfold varB
   first
    | (simp [*];done)
    | (simp [*];omega)
    | (rw [Bool.eq_iff_iff];simp [*];omega)
  ·first
    | exact ((cf _ _).alloc (ce _) _).alloc (by simp) _
    | exact (((cf _ _).alloc (ce _) _).alloc (by simp) _).alloc (by simp;omega) _
theorem ZeL (x:In)(a b c:Option Addr)(k l m d f g:Nat)(i:Int)(w:World)(j:x.s.size <= maxLen) :
  Calls prog 145 #[.agg #[.int .i64 x.o,.int .i64 x.n,.int .i64 x.i,.string x.s],.agg #[.slice a k d,.slice b l f,.slice c m g],.int .i64 i] w fun e p=>e=.returned (.bool (ZaY x))/\Below w.heap.size w p:=by
 go_enter func145,ntmps145
 go_wp2_with (go_at_call 128;refine (ZcZ x.s _ j).mono ?_;rintro e q ⟨rfl,rfl⟩)
 all_goals
  go_ret;refine ⟨retB ?_,?_⟩
  ·unfold ZaY
   first
    | (simp [*];done)
    | (simp [*];omega)
    | (rw [Bool.eq_iff_iff];simp [*];omega)
  ·first
    | exact ((cf _ _).alloc (ce _) _).alloc (by simp) _
    | exact (((cf _ _).alloc (ce _) _).alloc (by simp) _).alloc (by simp;omega) _
theorem ZeN (x:In)(b c d:Option Addr)(k a l f g j:Nat)(i:Int)(w:World) :
  Calls prog 146 #[.agg #[.int .i64 x.o,.int .i64 x.n,.int .i64 x.i,.string x.s],.agg #[.slice b k f,.slice c a g,.slice d l j],.int .i64 i] w fun e m=>e=.returned (.bool (wayB x i a))/\Below w.heap.size w m:=by
 go_enter func146,ntmps146
 go_wp2
 all_goals
  go_ret;refine ⟨retB ?_,?_⟩
  ·unfold wayB
   first
    | (simp [*];done)
    | (simp [*];omega)
    | (rw [Bool.eq_iff_iff];simp [*];omega)
  ·first
    | exact ((cf _ _).alloc (ce _) _).alloc (by simp) _
    | exact (((cf _ _).alloc (ce _) _).alloc (by simp) _).alloc (by simp;omega) _
theorem Zh8 (x:In)(b c d:Option Addr)(k a l f g j:Nat)(i:Int)(w:World) :
  Calls prog 147 #[.agg #[.int .i64 x.o,.int .i64 x.n,.int .i64 x.i,.string x.s],.agg #[.slice b k f,.slice c a g,.slice d l j],.int .i64 i] w fun e m=>e=.returned (.bool (funB x i a))/\Below w.heap.size w m:=by
 go_enter func147,ntmps147
 go_wp2
 all_goals
  go_ret;refine ⟨retB ?_,?_⟩
  ·unfold funB
   first
    | (simp [*];done)
    | (simp [*];omega)
    | (rw [Bool.eq_iff_iff];simp [*];omega)
  ·first
    | exact ((cf _ _).alloc (ce _) _).alloc (by simp) _
    | exact (((cf _ _).alloc (ce _) _).alloc (by simp) _).alloc (by simp;omega) _
theorem Zg2 (x:In)(a b c:Option Addr)(j k l d f g:Nat)(i:Int)(w:World) :
  Calls prog 148 #[.agg #[.int .i64 x.o,.int .i64 x.n,.int .i64 x.i,.string x.s],.agg #[.slice a j d,.slice b k f,.slice c l g],.int .i64 i] w fun e m=>e=.returned (.bool (Zcj x))/\Below w.heap.size w m:=by
 go_enter func148,ntmps148
 go_wp2
 all_goals
  go_ret;refine ⟨retB ?_,?_⟩
  ·unfold Zcj
   first
    | (simp [*];done)
    | (simp [*];omega)
    | (rw [Bool.eq_iff_iff];simp [*];omega)
  ·first
    | exact ((cf _ _).alloc (ce _) _).alloc (by simp) _
    | exact (((cf _ _).alloc (ce _) _).alloc (by simp) _).alloc (by simp;omega) _
def Zau (x:In)(i:Int)(n1 n2:Nat):Bool :=
 if x.o=1 then litB x n1 else if x.o=2 then varB x else if x.o=3 then ZaY x else if x.o=4 then wayB x i n2 else if x.o=5 then wayB x i n2
 else if x.o=6 then funB x i n2 else if x.o=7 then Zcj x else if x.o=8 then ZbS x else if x.o=9 then ZbS x else false
theorem Zbl (c:Option Addr)(n b:Nat)(a:Int)(w:World)(f:n <= 9223372036854775807) :
  Calls prog 119 #[.agg #[.slice c n b],.int .i64 a] w fun e d=>e=.returned (.bool (decide (0 <= a) && decide (a < n)))/\Below w.heap.size w d:=by
 go_enter func119,ntmps119
 go_wp2_with fail;refine (Zao _ _ _ _).mono ?_;rintro e g ⟨rfl,rfl⟩;go_wp2;go_ret;refine ⟨retB ?_,(cf _ _).alloc (ce _) _⟩;rw [Bool.eq_iff_iff];simp;omega
theorem Zht (r s:Option Addr)(n t A u:Nat)(B:Value)(m:List In)(k:Nat)(x:In)(w:World)(R:InRow w B m)(p:m[k]? = some x)(j:n <= 9223372036854775807) :
  Calls prog 92 #[.agg #[.slice r n t,B,.slice s A u],.int .i64 k] w fun e J=>e=.returned (.bool (Zau x k n m.length))/\Below w.heap.size w J:=by
 obtain ⟨M,D,rfl,y,Y,z,i⟩:=R;have q:k < m.length:=(List.getElem?_eq_some_iff.1 p).1;obtain ⟨g,o,rfl,X,i⟩:=i (by intro e;subst e;simp at q);obtain ⟨E,F,G,H⟩:=i k x p;have f:=z x (List.mem_of_getElem? p);have I:¬ g=w.heap.size:=by omega
 clear i p z;have a:Below w.heap.size w (w.alloc (Obj.cells #[.slice r n t,.slice (some ⟨g,o,none⟩) m.length D,.slice s A u] 45)):=(cf _ _).alloc (ce _) _;obtain ⟨c,L,K,l⟩:=x
 dsimp only at E F G H f
 have v:(c < 1 \/ 9 < c) \/ c=1 \/ c=2 \/ c=3 \/ c=4 \/ c=5 \/ c=6 \/ c=7 \/ c=8 \/ c=9:=by omega
 rcases v with v | rfl | rfl | rfl | rfl | rfl | rfl | rfl | rfl | rfl
 ·have C:Hid (Zau ⟨c,L,K,l⟩ k n m.length=false):=by unfold Hid;simp [Zau,show ¬ c=1 by omega,show ¬ c=2 by omega,show ¬ c=3 by omega,show ¬ c=4 by omega,show ¬ c=5 by omega,show ¬ c=6 by omega,show ¬ c=7 by omega,show ¬ c=8 by omega,show ¬ c=9 by omega]
  have N:¬ c=1:=by omega
  have O:¬ c=2:=by omega
  have P:¬ c=3:=by omega
  have Q:¬ c=4:=by omega
  have S:¬ c=5:=by omega
  have T:¬ c=6:=by omega
  have U:¬ c=7:=by omega
  have V:¬ c=8:=by omega
  have W:¬ c=9:=by omega
  go_enter func92,ntmps92
  go_wp2;go_ret;exact ⟨by rw [C.out];rfl,(a.alloc a.size _).alloc (by have:=a.size;simp;omega) _⟩
 ·go_enter func92,ntmps92
  go_wp2_with (first
   | (go_at_call 119;refine (Zbl _ _ _ _ _ j).mono ?_;rintro e d ⟨rfl,b⟩)
   | (go_at_call 93;refine (ZaK l _ f).mono ?_;rintro e d ⟨rfl,rfl⟩)
   | (go_at_call 51;refine (Zao _ _ _ _).mono ?_;rintro e d ⟨rfl,rfl⟩))
  all_goals
   go_ret;refine ⟨retB ?_,?_⟩
   ·simp only [Zau,litB,varB,ZaY,wayB,funB,Zcj,ZbS]
    first
     | (simp [*];done)
     | (simp [*];omega)
     | (rw [Bool.eq_iff_iff];simp [*];omega)
   ·first
     | exact (a.alloc a.size _).alloc (by have:=a.size;simp;omega) _
     | exact ((a.alloc a.size _).alloc (by have:=a.size;simp;omega) _).trans (b.mono (by simp;omega))
 ·go_enter func92,ntmps92
  go_wp2_with (first
   | (go_at_call 119;refine (Zbl _ _ _ _ _ j).mono ?_;rintro e d ⟨rfl,b⟩)
   | (go_at_call 93;refine (ZaK l _ f).mono ?_;rintro e d ⟨rfl,rfl⟩)
   | (go_at_call 51;refine (Zao _ _ _ _).mono ?_;rintro e d ⟨rfl,rfl⟩))
  all_goals
   go_ret;refine ⟨retB ?_,?_⟩
   ·simp only [Zau,litB,varB,ZaY,wayB,funB,Zcj,ZbS]
    first
     | (simp [*];done)
     | (simp [*];omega)
     | (rw [Bool.eq_iff_iff];simp [*];omega)
   ·first
     | exact (a.alloc a.size _).alloc (by have:=a.size;simp;omega) _
     | exact ((a.alloc a.size _).alloc (by have:=a.size;simp;omega) _).trans (b.mono (by simp;omega))
 ·go_enter func92,ntmps92
  go_wp2_with (first
   | (go_at_call 119;refine (Zbl _ _ _ _ _ j).mono ?_;rintro e d ⟨rfl,b⟩)
   | (go_at_call 93;refine (ZaK l _ f).mono ?_;rintro e d ⟨rfl,rfl⟩)
   | (go_at_call 51;refine (Zao _ _ _ _).mono ?_;rintro e d ⟨rfl,rfl⟩))
  all_goals
   go_ret;refine ⟨retB ?_,?_⟩
   ·simp only [Zau,litB,varB,ZaY,wayB,funB,Zcj,ZbS]
    first
     | (simp [*];done)
     | (simp [*];omega)
     | (rw [Bool.eq_iff_iff];simp [*];omega)
   ·first
     | exact (a.alloc a.size _).alloc (by have:=a.size;simp;omega) _
     | exact ((a.alloc a.size _).alloc (by have:=a.size;simp;omega) _).trans (b.mono (by simp;omega))
 ·go_enter func92,ntmps92
  go_wp2_with (first
   | (go_at_call 119;refine (Zbl _ _ _ _ _ j).mono ?_;rintro e d ⟨rfl,b⟩)
   | (go_at_call 93;refine (ZaK l _ f).mono ?_;rintro e d ⟨rfl,rfl⟩)
   | (go_at_call 51;refine (Zao _ _ _ _).mono ?_;rintro e d ⟨rfl,rfl⟩))
  all_goals
   go_ret;refine ⟨retB ?_,?_⟩
   ·simp only [Zau,litB,varB,ZaY,wayB,funB,Zcj,ZbS]
    first
     | (simp [*];done)
     | (simp [*];omega)
     | (rw [Bool.eq_iff_iff];simp [*];omega)
   ·first
     | exact (a.alloc a.size _).alloc (by have:=a.size;simp;omega) _
     | exact ((a.alloc a.size _).alloc (by have:=a.size;simp;omega) _).trans (b.mono (by simp;omega))
 ·go_enter func92,ntmps92
  go_wp2_with (first
   | (go_at_call 119;refine (Zbl _ _ _ _ _ j).mono ?_;rintro e d ⟨rfl,b⟩)
   | (go_at_call 93;refine (ZaK l _ f).mono ?_;rintro e d ⟨rfl,rfl⟩)
   | (go_at_call 51;refine (Zao _ _ _ _).mono ?_;rintro e d ⟨rfl,rfl⟩))
  all_goals
   go_ret;refine ⟨retB ?_,?_⟩
   ·simp only [Zau,litB,varB,ZaY,wayB,funB,Zcj,ZbS]
    first
     | (simp [*];done)
     | (simp [*];omega)
     | (rw [Bool.eq_iff_iff];simp [*];omega)
   ·first
     | exact (a.alloc a.size _).alloc (by have:=a.size;simp;omega) _
     | exact ((a.alloc a.size _).alloc (by have:=a.size;simp;omega) _).trans (b.mono (by simp;omega))
 ·go_enter func92,ntmps92
  go_wp2_with (first
   | (go_at_call 119;refine (Zbl _ _ _ _ _ j).mono ?_;rintro e d ⟨rfl,b⟩)
   | (go_at_call 93;refine (ZaK l _ f).mono ?_;rintro e d ⟨rfl,rfl⟩)
   | (go_at_call 51;refine (Zao _ _ _ _).mono ?_;rintro e d ⟨rfl,rfl⟩))
  all_goals
   go_ret;refine ⟨retB ?_,?_⟩
   ·simp only [Zau,litB,varB,ZaY,wayB,funB,Zcj,ZbS]
    first
     | (simp [*];done)
     | (simp [*];omega)
     | (rw [Bool.eq_iff_iff];simp [*];omega)
   ·first
     | exact (a.alloc a.size _).alloc (by have:=a.size;simp;omega) _
     | exact ((a.alloc a.size _).alloc (by have:=a.size;simp;omega) _).trans (b.mono (by simp;omega))
 ·go_enter func92,ntmps92
  go_wp2_with (first
   | (go_at_call 119;refine (Zbl _ _ _ _ _ j).mono ?_;rintro e d ⟨rfl,b⟩)
   | (go_at_call 93;refine (ZaK l _ f).mono ?_;rintro e d ⟨rfl,rfl⟩)
   | (go_at_call 51;refine (Zao _ _ _ _).mono ?_;rintro e d ⟨rfl,rfl⟩))
  all_goals
   go_ret;refine ⟨retB ?_,?_⟩
   ·simp only [Zau,litB,varB,ZaY,wayB,funB,Zcj,ZbS]
    first
     | (simp [*];done)
     | (simp [*];omega)
     | (rw [Bool.eq_iff_iff];simp [*];omega)
   ·first
     | exact (a.alloc a.size _).alloc (by have:=a.size;simp;omega) _
     | exact ((a.alloc a.size _).alloc (by have:=a.size;simp;omega) _).trans (b.mono (by simp;omega))
 ·go_enter func92,ntmps92
  go_wp2_with (first
   | (go_at_call 119;refine (Zbl _ _ _ _ _ j).mono ?_;rintro e d ⟨rfl,b⟩)
   | (go_at_call 93;refine (ZaK l _ f).mono ?_;rintro e d ⟨rfl,rfl⟩)
   | (go_at_call 51;refine (Zao _ _ _ _).mono ?_;rintro e d ⟨rfl,rfl⟩))
  all_goals
   go_ret;refine ⟨retB ?_,?_⟩
   ·simp only [Zau,litB,varB,ZaY,wayB,funB,Zcj,ZbS]
    first
     | (simp [*];done)
     | (simp [*];omega)
     | (rw [Bool.eq_iff_iff];simp [*];omega)
   ·first
     | exact (a.alloc a.size _).alloc (by have:=a.size;simp;omega) _
     | exact ((a.alloc a.size _).alloc (by have:=a.size;simp;omega) _).trans (b.mono (by simp;omega))
 ·go_enter func92,ntmps92
  go_wp2_with (first
   | (go_at_call 119;refine (Zbl _ _ _ _ _ j).mono ?_;rintro e d ⟨rfl,b⟩)
   | (go_at_call 93;refine (ZaK l _ f).mono ?_;rintro e d ⟨rfl,rfl⟩)
   | (go_at_call 51;refine (Zao _ _ _ _).mono ?_;rintro e d ⟨rfl,rfl⟩))
  all_goals
   go_ret;refine ⟨retB ?_,?_⟩
   ·simp only [Zau,litB,varB,ZaY,wayB,funB,Zcj,ZbS]
    first
     | (simp [*];done)
     | (simp [*];omega)
     | (rw [Bool.eq_iff_iff];simp [*];omega)
   ·first
     | exact (a.alloc a.size _).alloc (by have:=a.size;simp;omega) _
     | exact ((a.alloc a.size _).alloc (by have:=a.size;simp;omega) _).trans (b.mono (by simp;omega))
end Go.Proofs.YtanhoamdlhaaeaaGreatDoor
