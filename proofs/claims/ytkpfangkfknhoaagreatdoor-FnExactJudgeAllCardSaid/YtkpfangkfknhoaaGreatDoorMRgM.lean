/-
  Texts that stood by themselves, laid into one.
-/
import Derived.Test.YtkpfangkfknhoaaGreatDoorVMoveM
import Derived.Test.YtkpfangkfknhoaaGreatDoorSPTextM
import Derived.Test.YtkpfangkfknhoaaGreatDoorMPackM
import Derived.Test.YtkpfangkfknhoaaGreatDoorMcTM
import Derived.Test.YtkpfangkfknhoaaGreatDoorITdM
import Derived.Test.YtkpfangkfknhoaaGreatDoorMark2M
import Derived.Deep.MidRow
import Derived.Deep.RegionHeld3
import Derived.Test.YtkpfangkfknhoaaGreatDoorSGTextM
import Derived.Test.YtkpfangkfknhoaaGreatDoorInM
import Derived.Test.YtkpfangkfknhoaaGreatDoorS8RgM
import Derived.Test.YtkpfangkfknhoaaGreatDoorMach2M
import Derived.Test.YtkpfangkfknhoaaGreatDoorSAddM
/-
  When what is read of bytes is a machine: plain mathematics. Both ways of asking whether nothing else is there come to the same. No condition.
-/
set_option maxRecDepth 100000
set_option maxHeartbeats 6400000
namespace Go.Proofs.YtkpfangkfknhoaaGreatDoor
open Go.Proofs.Tryz
open Go.RowKit
def mcOf:List Int -> Mc
 | [p,t,q,s,e,d,r]=>⟨p,s,e,d,t,q,r⟩
 | _=>⟨0,0,0,0,0,0,0⟩
theorem ZmV {l:List Int}(h:l.length=7):mpN (mcOf l)=l:=by
 match l,h with
 | [p,t,q,s,e,d,r],_=>rfl
def ZdL (zs:List Int):Nat -> Int -> Bool -> List Int × Int × Bool
 | 0,a,ok=>([],a,ok)
 | n+1,a,ok=>((num8 zs a ok).1 :: (ZdL zs n (num8 zs a ok).2.1 (num8 zs a ok).2.2).1,(ZdL zs n (num8 zs a ok).2.1 (num8 zs a ok).2.2).2)
theorem ZdD (zs:List Int):∀ (n:Nat) (a:Int),(ZdL zs n a false).2.2=false
 | 0,a=>rfl
 | n+1,a=>by rw [ZdL,Zby];exact ZdD zs n a
theorem ZhA (zs:List Int):∀ (n:Nat) (a:Int),(∀ q,rdK zs n a=some q -> ZdL zs n a true=(q.1,q.2,true))/\(rdK zs n a=none -> (ZdL zs n a true).2.2=false)
 | 0,a=>⟨fun q h=>by cases h;rfl,fun h=>by cases h⟩
 | n+1,a=>by
  rw [rdK,ZdL];cases h:rd1 zs a with
  | none=>rw [ZaF h];exact ⟨fun q b=>by (simp at b),fun _=>ZdD zs n a⟩
  | some p =>
   rw [(ZaL zs a).2 p h];obtain ⟨d,e⟩:=ZhA zs n p.2;simp only [Option.bind_some];cases c:rdK zs n p.2 with
   | none=>exact ⟨fun q b=>by (simp at b),fun _=>e c⟩
   | some t=>rw [d t c];exact ⟨fun q b=>by (simp at b;subst b;rfl),fun b=>by (simp at b)⟩
theorem ZhH {zs:List Int}(f:∀ z ∈ zs,0 <= z/\z <= 255):∀ (n:Nat) (a:Int) (q:List Int × Int),0 <= a -> rdK zs n a=some q -> Lies zs a (q.1.flatMap encI) q.2/\∀ x ∈ q.1,0 <= x/\x <= 9223372036854775807
 | 0,a,q,ha,h=>by cases h;exact ⟨Lies.nil ha,by intro x c;cases c⟩
 | n+1,a,q,ha,h=>by
  rw [rdK,Option.bind_eq_some_iff] at h;obtain ⟨p,e,d⟩:=h;rw [Option.map_eq_some_iff] at d;obtain ⟨t,o,rfl⟩:=d;obtain ⟨m,_⟩:=Za1 (x:=p.1) (b:=p.2) f e;obtain ⟨l,g,j,_⟩:=Zbc e;obtain ⟨k,i⟩:=ZhH f n p.2 t j o;refine ⟨by rw [List.flatMap_cons];exact m.append k,fun x c=>?_⟩;rcases List.mem_cons.1 c with rfl | c
  ·exact ⟨l,g⟩
  ·exact i x c
theorem Zhb {zs:List Int}{d:List Nd}{a b:Int}(i:∀ z ∈ zs,0 <= z/\z <= 255)(h:rdP zs a=some (d,b)):Zau d=true/\Lies zs a (ZbG d) b:=by
 unfold rdP at h;rw [Option.bind_eq_some_iff] at h;obtain ⟨⟨n,l⟩,j,e⟩:=h;split at e
 ·cases e
 rw [Option.bind_eq_some_iff] at e;obtain ⟨⟨ys,c⟩,o,f⟩:=e;split at f
 ·rename_i k
  cases f;obtain ⟨g,q⟩:=Za1 i j;obtain ⟨m,p⟩:=Zcv i n.toNat l _ d (by have:=g.1;have:=g.2.1;omega) o;refine ⟨k,?_⟩;unfold ZbG;rw [show (d.length:Int)=n by omega];exact g.append m
 ·cases f
theorem Lies.whole {zs L:List Int}(h:Lies zs 0 L zs.length):L=zs:=by
 obtain ⟨_,d,b,c⟩:=h;rw [Int.toNat_zero,List.drop_zero] at c;have a:=congrArg List.length c;rw [List.length_append] at a;have:b=[]:=List.eq_nil_of_length_eq_zero (by omega);rw [this,List.append_nil] at c;exact c.symm
theorem ZfK:∀ (l m:List Int) (p q:List Int),l.length=m.length -> (∀ x ∈ l,0 <= x/\x <= 9223372036854775807) -> (∀ x ∈ m,0 <= x/\x <= 9223372036854775807) -> l.flatMap encI ++ p=m.flatMap encI ++ q -> l=m/\p=q
 | [],[],p,q,_,_,_,h=>⟨rfl,h⟩
 | x :: l,y :: m,p,q,hl,h1,h2,h=>by
  rw [List.flatMap_cons,List.flatMap_cons,List.append_assoc,List.append_assoc] at h;have b:=h1 x (by simp);have c:=h2 y (by simp);have e:=ZfU b.1 c.1 b.2 c.2 h;subst e;obtain ⟨d,f⟩:=ZfK l m p q (by simpa using hl) (fun z a=>h1 z (by simp [a])) (fun z a=>h2 z (by simp [a])) (List.append_cancel_left h);exact ⟨by rw [d],f⟩
theorem Zht {ns:List Nd}{is:List In}{ds:List Df}{a:List Nd}{m:Mc}(h:Za5 ns is ds a m=true)(u:∀ x ∈ mpN m,0 <= x/\x <= 9223372036854775807):mpL a m=(mpN m).flatMap encI ++ ZbG a <-> allR a (tdR m)=true:=by
 obtain ⟨k,l,_⟩:=ZbD h;have g:tdOk a m=true:=by unfold tdOk;rw [k,l];rfl
 have w:tdL a m=mvN 0 a (tdR m):=by unfold tdL;rw [if_pos g]
 have c:∀ r ∈ tdR m,0 <= tdF a m r:=fun r f=>(ZkN a (tdR m) k l 0 r f).2.2
 have i:∀ r,r ∈ [m.s,m.e,m.d] -> r ∈ tdR m:=fun r f=>by
  unfold tdR;split
  ·simp only [List.mem_cons,List.mem_nil_iff,or_false] at f ⊢;rcases f with h | h | h <;> simp [h]
  ·exact f
 constructor
 ·intro e
  unfold mpL at e;obtain ⟨z,_,_⟩:=Zhm h
  have p:∀ x ∈ mpN (tdM a m),0 <= x:=by
   unfold tdM;rw [if_pos g];intro x j;have b:=u;simp only [mpN,List.mem_cons,List.mem_nil_iff,or_false] at j b;rcases j with rfl | rfl | rfl | rfl | rfl | rfl | rfl
   ·exact (b _ (by simp)).1
   ·exact (b _ (by simp)).1
   ·exact (b _ (by simp)).1
   ·exact c _ (i _ (by simp))
   ·exact c _ (i _ (by simp))
   ·exact c _ (i _ (by simp))
   ·show 0 <= (if argB m then tdF a m m.r else m.r)
    split
    ·rename_i q;exact c _ (by unfold tdR;rw [if_pos q];simp)
    ·exact (b _ (by simp)).1
  obtain ⟨_,v⟩:=ZfK (mpN (tdM a m)) (mpN m) _ _ rfl (fun x j=>⟨p x j,z x j⟩) u e;rw [w] at v;exact (Zds a (tdR m) k l).1 v
 ·intro f
  have t:=Zf2 a (tdR m) k l ((Zhn a (tdR m)).1 f)
  have n:∀ r ∈ tdR m,tdF a m r=r:=by
   intro r o;have:=t.2;unfold mvR at this;have y:=List.map_inj_left.1 (this.trans (List.map_id _).symm) r o;exact y
  have A:tdM a m=m:=by
   unfold tdM;rw [if_pos g,n _ (i _ (by simp)),n _ (i _ (by simp)),n _ (i _ (by simp))];split
   ·rename_i q;rw [n m.r (by unfold tdR;rw [if_pos q];simp)]
   ·rfl
  unfold mpL;rw [w,A,t.1]
def mrR (ns:List Nd)(is:List In)(ds:List Df)(zs:List Int):Option (List Nd × Mc) :=
 (rdK zs 7 0).bind fun q=>(rdP zs q.2).bind fun r=>if r.2=zs.length/\Za5 ns is ds r.1 (mcOf q.1)=true/\allR r.1 (tdR (mcOf q.1))=true then some (r.1,mcOf q.1) else none
theorem ZkS {ns:List Nd}{is:List In}{ds:List Df}{zs l:List Int}{a:Int}{k:Bool}(j:∀ z ∈ zs,0 <= z/\z <= 255)(s:ZdL zs 7 0 true=(l,a,k))(h:List Nd)(m:Mc) :
  mrR ns is ds zs=some (h,m) <-> (sOk zs a k=true/\(sP zs a k).1=h)/\m=mcOf l/\Za5 ns is ds h m=true/\mpL h m=zs:=by
 obtain ⟨n1,n2⟩:=ZhA zs 7 0;unfold mrR;cases g:rdK zs 7 0 with
 | none =>
  have f:=n2 g;rw [s] at f;have f:k=false:=f;subst f;simp only [Option.bind_none,reduceCtorEq,false_iff];rintro ⟨⟨d,_⟩,_⟩;have:sOk zs a false=false:=by unfold sOk sP Zhj;rw [Zby];simp [sNs]
  rw [this] at d;cases d
 | some q =>
  have p:=n1 q g;rw [s] at p;obtain ⟨u,v⟩:=q;cases p;obtain ⟨r,e⟩:=ZhH j 7 0 (u,v) (by omega) g;have w:u.length=7:=ZeZ g;have c:=ZmV w;simp only [Option.bind_some];rw [ZlN,Option.bind_eq_some_iff];constructor
  ·rintro ⟨⟨ys,b⟩,d,i⟩
   split at i
   ·rename_i y
    cases i;obtain ⟨c1,c2,c3⟩:=y;simp only at c1 c2 c3;subst c1;obtain ⟨_,o⟩:=Zhb j d;have n:=(r.append o).whole;refine ⟨d,rfl,c2,?_⟩;rw [(Zht c2 (by rw [c];exact e)).2 c3,c];exact n
   ·cases i
  ·rintro ⟨d,rfl,t,x⟩
   obtain ⟨_,o⟩:=Zhb j d;have n:=(r.append o).whole;refine ⟨_,d,?_⟩;rw [if_pos ⟨rfl,t,(Zht t (by rw [c];exact e)).1 (by rw [x,c];exact n.symm)⟩]
def rdTs (zs:List Int):Nat -> Int -> Option (List ByteArray × Int)
 | 0,a=>some ([],a)
 | n+1,a=>(rt zs a).bind fun p=>(rdTs zs n p.2).map fun q=>(p.1 :: q.1,q.2)
def rdTL (zs:List Int)(a:Int):Option (List ByteArray × Int):=(rd1 zs a).bind fun p=>rdTs zs p.1.toNat p.2
def rdTB (zs:List Int)(most:Nat)(a:Int):Option (List ByteArray × Int):=(rd1 zs a).bind fun p=>if p.1 > most then none else rdTs zs p.1.toNat p.2
theorem ZdS (zs:List Int):∀ (n:Nat) (a:Int),rdTs zs (n+1) a=(rdTs zs n a).bind fun q=>(rt zs q.2).map fun p=>(q.1 ++ [p.1],p.2)
 | 0,a=>by
  simp only [rdTs,Option.bind_some];cases rt zs a <;> rfl
 | n+1,a=>by
  rw [rdTs];cases h:rt zs a with
  | none=>simp [rdTs,h]
  | some p =>
   simp only [Option.bind_some];rw [ZdS zs n p.2,rdTs,h];simp only [Option.bind_some];cases rdTs zs n p.2 with
   | none=>rfl
   | some q=>simp only [Option.bind_some,Option.map_some];cases rt zs q.2 <;> rfl
theorem Ze8 {zs:List Int}:∀ {n:Nat} {a:Int} {q:List ByteArray × Int},rdTs zs n a=some q -> q.1.length=n
 | 0,a,q,h=>by cases h;rfl
 | n+1,a,q,h=>by
  rw [rdTs,Option.bind_eq_some_iff] at h;obtain ⟨p,_,b⟩:=h;rw [Option.map_eq_some_iff] at b;obtain ⟨t,d,c⟩:=b;cases c;simp [Ze8 d]
theorem Zfr {zs:List Int}{a:Int}:∀ {n m:Nat},n <= m -> rdTs zs n a=none -> rdTs zs m a=none
 | n,0,h,e=>by
  obtain rfl:n=0:=by omega
  exact e
 | n,m+1,h,e=>by
  rcases Nat.lt_or_ge n (m+1) with b | b
  ·rw [ZdS,Zfr (by omega) e];rfl
  ·obtain rfl:n=m+1:=by omega
   exact e
def pdR (ns:List Nd)(is:List In)(ds:List Df)(zs:List Int):Option (Int × (List Nd × Mc) × List ByteArray × List ByteArray) :=
 (rd1 zs 0).bind fun p=>(rt zs p.2).bind fun t=>(rdTL zs t.2).bind fun b=>(rdTL zs b.2).bind fun o=>if o.2=zs.length then (mrR ns is ds (sb t.1)).bind fun r=>if Zbr ns is ds p.1 r.1 r.2 b.1 o.1 then some (p.1,r,b.1,o.1) else none else none
theorem Zc2 {zs:List Int}{b:Nat}{a:Int}{q:List ByteArray × Int}(h:rdTB zs b a=some q):rdTL zs a=some q/\q.1.length <= b:=by
 unfold rdTB at h;rw [Option.bind_eq_some_iff] at h;obtain ⟨p,d,c⟩:=h;split at c
 ·cases c
 ·refine ⟨by unfold rdTL;rw [d];exact c,?_⟩
  rw [Ze8 c];omega
theorem Zj3 {zs:List Int}{b:Nat}{a:Int}(h:rdTB zs b a=none):rdTL zs a=none \/ ∃ q,rdTL zs a=some q/\b < q.1.length:=by
 unfold rdTB at h;unfold rdTL;cases d:rd1 zs a with
 | none=>exact Or.inl rfl
 | some p =>
  rw [d] at h;simp only [Option.bind_some] at h ⊢;split at h
  ·cases c:rdTs zs p.1.toNat p.2 with
   | none=>exact Or.inl rfl
   | some q=>exact Or.inr ⟨q,rfl,by rw [Ze8 c];omega⟩
  ·exact Or.inl h
theorem ZhN {ns:List Nd}{is:List In}{ds:List Df}{i:Int}{c:List Nd}{m:Mc}{a b:List ByteArray}(h:20 < a.length \/ 40 < b.length):Zbr ns is ds i c m a b=false:=by
 unfold Zbr boxB outB;rcases h with h | h
 ·have:decide (a.length <= 20)=false:=by simp;omega
  rw [this];simp
 ·have:decide (b.length <= 40)=false:=by simp;omega
  rw [this];simp
theorem Zli (ns:List Nd)(is:List In)(ds:List Df)(zs:List Int):pdR ns is ds zs=((rd1 zs 0).bind fun p=>(rt zs p.2).bind fun t=>(rdTB zs 20 t.2).bind fun b=>(rdTB zs 40 b.2).bind fun o=>if o.2=zs.length then (mrR ns is ds (sb t.1)).bind fun r=>if Zbr ns is ds p.1 r.1 r.2 b.1 o.1 then some (p.1,r,b.1,o.1) else none else none):=by
 unfold pdR;cases rd1 zs 0 with
 | none=>rfl
 | some p =>
  simp only [Option.bind_some];cases rt zs p.2 with
  | none=>rfl
  | some t =>
   simp only [Option.bind_some]
   have a:∀ (b o:List ByteArray × Int),(20 < b.1.length \/ 40 < o.1.length) -> (if o.2=(zs.length:Int) then (mrR ns is ds (sb t.1)).bind fun r=>if Zbr ns is ds p.1 r.1 r.2 b.1 o.1 then some (p.1,r,b.1,o.1) else none else none)=none:=fun b o h=>by
    split
    ·cases mrR ns is ds (sb t.1) with
     | none=>rfl
     | some r=>simp only [Option.bind_some];rw [ZhN h];rfl
    ·rfl
   cases e:rdTB zs 20 t.2 with
   | some b =>
    rw [(Zc2 e).1];simp only [Option.bind_some];cases d:rdTB zs 40 b.2 with
    | some o=>rw [(Zc2 d).1]
    | none =>
     rcases Zj3 d with h | ⟨q,h,c⟩
     ·rw [h]
     ·rw [h]
      exact a b q (Or.inr c)
   | none =>
    rcases Zj3 e with h | ⟨q,h,c⟩
    ·rw [h]
     rfl
    ·rw [h]
     simp only [Option.bind_some,Option.bind_none];cases rdTL zs q.2 with
     | none=>rfl
     | some o=>exact a q o (Or.inl c)
theorem ZaC {P:Program}{ops:Array Oper}{S:World -> Prop}{op:Oper}{a:Act}(m:Region.wanted op (yielded ops a.tmps)=true)(c:TypeId)(x:Operand)(i:op.op=.load c x)(b:Nat)(f:a.eval x=.pointer (some ⟨b,0,none⟩))(cs:Array Value)(t:TypeId)(d:TypeDesc)(k:∀ w,S w -> w.heap[b]? = some (.cells cs t (0,0)))(g:P.underlying c=some d)(l:d.isRow=true)(hi:(P.info? c).map (·.size)=some cs.size):YieldsIf P ops S op (.agg cs) a:=by
 have h:=yieldsIf_load_mid (P:=P) (ops:=ops) (S:=S) (op:=op) (a:=a) m c x i b 0 f cs.toList d (fun w e=>by
  have j:=World.rangeAt_of_block (k w e) 0 cs.size
  simpa using j) g l (by simpa using hi)
 simpa using h
theorem ZaH {w c:World}{B k n g:Nat}{e:TypeId}{v:Value}{l:List Value}(h:w.ownsRow B e k v n l)(p:v.ownBlock ≠ some g)(f:∀ j,j ≠ g -> c.heap[j]? = w.heap[j]?):c.ownsRow B e k v n l:=by
 refine ⟨h.1,?_⟩;rcases h.2 with ⟨rfl,o⟩ | ⟨d,b,cur,rfl,m,a,i⟩
 ·exact Or.inl ⟨rfl,o⟩
 ·exact Or.inr ⟨d,b,cur,rfl,m,(f d (fun e=>p (by rw [e];rfl))).trans a,i⟩
theorem Zar (w:World):Below w.heap.size w w.drew:=(cj _ _).drew
theorem Zap (w:World)(o:Obj):Below w.heap.size w (w.alloc o):=(cj _ _).alloc (ce _) _
theorem Zao {w:World}{b:Nat}{o:Obj}(h:w.heap[b]? = some o):b < w.heap.size:=(bl h)
theorem Zaa {w a:World}{b:Nat}{o:Obj}(h:w.heap[b]? = some o)(c:Below w.heap.size w a):a.heap[b]? = some o:=(c.block _ (Zao h)).trans h
theorem ZaE {w a b:World}{P:Nat}{o:Option Nat}(h:w.grownBy a (some P))(d:a.grownBy b o)(g:∀ k,o=some k -> k=P \/ w.heap.size <= k):w.grownBy b (some P) :=
 ⟨d.os.trans h.os,d.tape.trans h.tape,d.output.trans h.output,Nat.le_trans h.size d.size,fun k f c=>(d.block k (cy f h.size) (fun e=>by rcases g k e.symm with rfl | i;exact c rfl;omega)).trans (h.block k f c)⟩
theorem Zch {w a:World}{B P k n:Nat}{e:TypeId}{v:Value}{l:List Value}(h:w.ownsRow B e k v n l)(d:P < B)(c:w.grownBy a (some P)):a.ownsRow B e k v n l:=h.kept c (by
 cases b:v.ownBlock with
 | none=>exact Or.inl rfl
 | some g=>exact Or.inr (fun e=>by have:=(h.lt g b).1;cases e;omega))
theorem StRow.one9 (w:World)(s:ByteArray)(b:s.size <= maxLen):StRow (w.alloc (Obj.cells #[.string s] 9)) (.slice (some ⟨w.heap.size,0,none⟩) 1 1) [s]:=by
 refine ⟨_,1,rfl,⟨by simp,fun h=>by cases h⟩,by simp,by simpa using b,fun _=>⟨_,0,rfl,by simp,fun j x a=>?_⟩⟩;rw [cd _ w.heap.size (0+j) _ 9 (0,0) (co w _)];cases j with
 | zero=>simp at a;subst a;rfl
 | succ j=>simp at a
theorem Zii (v:Value)(zs:List Int)(z w:World)(P:Nat)(a:Int)(b:Nat)(R:Row z v zs)(hb:Below z.heap.size z w)(hP:z.heap.size <= P)(h1:One w P a)(ak:b <= 40)(au:zs.length <= 140737488351232) :
  Calls prog 198 #[.agg #[v,.pointer (some ⟨P,0,none⟩)],.int .i64 b] w fun e w'=>w.grownBy w' (some P) /\
   ((∃ q v',rdTB zs b a=some q/\e=.returned (.tuple #[v',.bool true])/\One w' P q.2/\w'.ownsRow w.heap.size 9 1 v' q.1.length (stv q.1)) \/ (rdTB zs b a=none/\e=.returned (.tuple #[.slice none 0 0,.bool false])/\∃ q,One w' P q)):=by
 have R':=R;obtain ⟨T,o,rfl,_⟩:=R';have ab:=h1.lt;have ae:=hb.size;obtain ⟨i0,hi,ai,ap,ah⟩:=info_parts ZnD;have f:Below z.heap.size z (w.alloc (Obj.cells #[Value.slice T zs.length o,Value.pointer (some ⟨P,0,none⟩)] 231)):=hb.alloc hb.size _;have h2:One (w.alloc (Obj.cells #[Value.slice T zs.length o,Value.pointer (some ⟨P,0,none⟩)] 231)) P a:=h1.below ((cj _ _).alloc (ce _) _) ab;have hx:=co w (Obj.cells #[Value.slice T zs.length o,Value.pointer (some ⟨P,0,none⟩)] 231);have G:=cF w (Obj.cells #[Value.slice T zs.length o,Value.pointer (some ⟨P,0,none⟩)] 231) (some P);obtain ⟨g,A⟩:∃ g,Hid (gN zs a=g):=⟨_,rfl⟩;obtain ⟨s,gn,gk⟩:=g;have V:=Zdy _ zs P a z _ R f hP h2;rw [A.out] at V;simp only at V
 have u:Hid (rdTB zs b a=if gk then (if s > b then none else rdTs zs s.toNat gn) else none):=by
  unfold Hid rdTB rd1;rw [A.out];cases gk <;> rfl
 have Z:gk=true -> 0 <= s/\s <= 9223372036854775807:=fun h=>by
  have:=Zbc (zs:=zs) (a:=a) (p:=(s,gn)) (by unfold rd1;rw [A.out];simp [h]);exact ⟨this.1,this.2.1⟩
 clear A
 go_enter func198,ntmps198
 go_wp2_with fail;refine V.mono ?_;rintro e U ⟨rfl,⟨L,o1,aa⟩,g1⟩;replace G:=ZaE G g1 (fun k hk=>Or.inl (by cases hk;rfl));have ad:=(g1.block w.heap.size (by simp) (by simp;omega)).trans hx;clear V g1 f h2 hx;cases gk with
 | false =>
  replace u:Hid (rdTB zs b a=none):=u.out;go_wp2
  go_ret2
  exact ⟨G,Or.inr ⟨u.out,rfl,L,o1⟩⟩
 | true =>
  obtain ⟨r0,r1⟩:=Z rfl;obtain rfl:=aa rfl;clear Z aa
  by_cases hm:(b:Int) < s
  ·replace u:Hid (rdTB zs b a=none):=by unfold Hid;rw [u.out];simp [hm]
   go_wp2
   go_ret2
   exact ⟨G,Or.inr ⟨u.out,rfl,L,o1⟩⟩
  ·replace u:Hid (rdTB zs b a=rdTs zs s.toNat L):=by unfold Hid;rw [u.out];simp [hm]
   have aq:s <= 40:=by omega
   have D:Below U.heap.size U (U.alloc (Obj.cells #[] 9)):=(cj _ _).alloc (ce _) _;have I:=ZaE G (cF U (Obj.cells #[] 9) none) (fun k hk=>by cases hk);have oE:=Zcj U 9 1 w.heap.size G.size;have t:=o1.below D o1.lt;have J:=Zaa ad D;go_wp2_with fail;generalize U.alloc (Obj.cells #[] 9)=wE at D I oE t J ⊢;clear G o1 ad D
   go_loopw [8,25] (fun vo i wr=>∃ (k:Nat) (ts:List ByteArray) (c:Int),(k:Int) <= s/\i=.int .i64 k/\ts.length=k/\Hid (rdTs zs k L=some (ts,c))/\One wr P c/\wr.ownsRow w.heap.size 9 1 vo ts.length (stv ts)/\wr.heap[w.heap.size]? = some (.cells #[Value.slice T zs.length o,Value.pointer (some ⟨P,0,none⟩)] 231 (0,0))/\w.grownBy wr (some P)) (fun _ i _=>s.toNat - (intOf i).toNat)
   case atStart=>exact ⟨0,[],L,by omega,rfl,rfl,rfl,t,oE,J,I⟩
   case round =>
    clear I oE t J;obtain ⟨k,ts,c,hk,rfl,X,W,x,S,l,B⟩:=hrel;have al:wr.cell? ⟨w.heap.size,0,none⟩=some (.slice T zs.length o):=cd wr _ 0 _ _ _ l;have am:wr.cell? ⟨w.heap.size,1,none⟩=some (.pointer (some ⟨P,0,none⟩)):=cd wr _ 1 _ _ _ l
    by_cases ar:(k:Int) < s
    ·have f:Below z.heap.size z wr:=hb.grown B ae (fun j N=>by cases N;exact hP)
     have HT:=Zdn _ zs P c z wr R f hP x;have F:=ZcQ zs c;obtain ⟨gg,O⟩:∃ g,Hid (gT zs c=g):=⟨_,rfl⟩;obtain ⟨r,tn,tk⟩:=gg;rw [O.out] at HT F;simp only at HT F
     have HS:Hid (rdTs zs (k+1) L=if tk then some (ts ++ [r],tn) else none):=by
      unfold Hid;rw [ZdS,W.out];unfold rt;simp only [Option.bind_some];rw [O.out];cases tk <;> rfl
     clear O;go_wp2_with fail;refine HT.mono ?_;rintro e M ⟨rfl,⟨q2,o2,ac⟩,g2⟩;have E:=Zch S ab g2;have Q:=ZaE B g2 (fun j N=>Or.inl (by cases N;rfl));have y:=(g2.block _ (Zao l) (by simp;omega)).trans l;clear HT g2 S B l al am x f;cases tk with
     | false =>
      have V:Hid (rdTB zs b a=none):=by unfold Hid;rw [u.out];exact Zfr (n:=k+1) (by omega) HS.out
      clear u HS W;go_wp2
      go_ret2
      exact ⟨Q,Or.inr ⟨V.out,rfl,q2,o2⟩⟩
     | true =>
      obtain rfl:=ac rfl;have af:r.size <= maxLen:=by unfold maxLen;omega
      have S1:=StRow.one9 M r af;have C:Below M.heap.size M (M.alloc (Obj.cells #[.string r] 9)):=(cj _ _).alloc (ce _) _;have P2:=Zad E C;have o3:=o2.below C o2.lt;have d:=Zaa y C;have H:=ZaE Q (cF M (Obj.cells #[.string r] 9) none) (fun j N=>by cases N);have Y:w.heap.size <= (M.alloc (Obj.cells #[.string r] 9)).heap.size:=H.size;have ag:Hid (rdTs zs (k+1) L=some (ts ++ [r],q2)):=HS.out;clear E Q y o2 ac HS C W F
      go_wp2_with (at_builtin;refine ZaB _ rfl _ _ 80 rfl w.heap.size 9 i0 _ 1 16 underlying80 hi ai ap ah rfl (by decide) _ ts.length _ rfl P2 (some ⟨M.heap.size,0,none⟩) 1 1 (stv [r]) rfl (by simp [stv]) S1.nilcap S1.cells (Zjw [r]) (by unfold maxLen;omega) (by omega) Y ?_)
      intro v4 w4 O4 m;have o4:One w4 P q2:=o3.kept m (by intro e;have:=(P2.lt P e.symm).1;omega);have K:=(m.block _ (Zao d) (fun e=>ZaI P2 d (by decide) e.symm)).trans d;have an:=ZaE H m (fun j N=>Or.inr (P2.lt j N).1);have O5:w4.ownsRow w.heap.size 9 1 v4 (ts ++ [r]).length (stv (ts ++ [r])):=by rw [Zed,List.length_append,X];exact O4
      clear O4 m P2 o3 d H S1 Y;go_wp2
      go_roundw
      case rel=>exact ⟨k+1,ts ++ [r],q2,by omega,by go_num,by simp [X],ag,o4,O5,K,an⟩
      case measure=>simp [intOf];omega
    ·have aj:k=s.toNat:=by omega
     rw [aj] at W;go_wp2
     go_ret2
     exact ⟨B,Or.inl ⟨ts,c,u.out.trans W.out,u8,rfl,x,S⟩⟩
abbrev opr2:List Oper:=⟨some 35,.load 44 (.tmp 3),44, "l08_wire.go:224", #[],none⟩ :: ⟨some 36,.load 99 (.tmp 6),99, "l08_wire.go:224", #[],none⟩ :: ⟨some 37,.call { callee:=.value (.func 160),args:=#[.tmp 35,.tmp 36],argTypes:=#[44,99] },4, "l08_wire.go:224", #[⟨0,.data⟩,⟨1,.data⟩],none⟩ :: ⟨some 38,.unOp .not 4 (.tmp 37),4, "l08_wire.go:224", #[⟨2,.data⟩],none⟩ :: ⟨some 39,.move (.tmp 38),4, "l08_wire.go:224", #[⟨3,.data⟩,⟨2,.chain⟩],none⟩ :: ⟨some 40,.load 40 (.tmp 8),40, "l08_wire.go:224", #[⟨4,.guard⟩],some (4,false)⟩ :: ⟨some 41,.load 99 (.tmp 6),99, "l08_wire.go:224", #[⟨4,.guard⟩],some (4,false)⟩ :: ⟨some 42,.call { callee:=.value (.func 217),args:=#[.tmp 41],argTypes:=#[99] },124, "l08_wire.go:224", #[⟨6,.data⟩,⟨4,.chain⟩,⟨4,.guard⟩],some (4,false)⟩ :: ⟨some 43,.call { callee:=.value (.func 214),args:=#[.tmp 40,.tmp 42],argTypes:=#[40,124] },4, "l08_wire.go:224", #[⟨5,.data⟩,⟨7,.data⟩,⟨7,.chain⟩,⟨4,.guard⟩],some (4,false)⟩ :: ⟨some 44,.unOp .not 4 (.tmp 43),4, "l08_wire.go:224", #[⟨8,.data⟩,⟨4,.guard⟩],some (4,false)⟩ :: ⟨some 45,.pick (.tmp 39) (.const (.bool true)) (.tmp 44),4, "l08_wire.go:224", #[⟨4,.data⟩,⟨9,.data⟩],none⟩ :: []
theorem ZkB {t0 t1 t2 t4 t5 t7 t9 U l L N ab J B P C H n G k aa M E X z ad F D x u A ac af au ag am ai ar ah aq aj ak ao v y R o Z I:Value}{fs:List Deferred}(f b O j i:Nat)(h:Option Addr)(V Y T:Value)(m:Mc)(w:World)(Q:Exit -> Act -> World -> Prop)(hc:w.heap[f]? = some (.cells #[V,Y,T] 44 (0,0)))(hm:w.heap[b]? = some (.cells #[.slice h j i,.int .i64 m.p,.int .i64 m.s,.int .i64 m.e,.int .i64 m.d,.int .i64 m.t,.int .i64 m.q,.int .i64 m.r] 99 (0,0)))(hp:w.heap[O]? = some (.cells #[.slice h j i] 40 (0,0)))(HM:∀ W,Below w.heap.size w W -> Calls prog 160 #[.agg #[V,Y,T],.agg #[.slice h j i,.int .i64 m.p,.int .i64 m.s,.int .i64 m.e,.int .i64 m.d,.int .i64 m.t,.int .i64 m.q,.int .i64 m.r]] W fun e a=>e=.returned (.bool false)/\Below W.heap.size W a)(hQ:∀ u35 u36 u37 u38 u39 u40 u41 u42 u43 u44 (wx:World),Below w.heap.size w wx -> Q .normal ⟨#[t0,t1,t2,.pointer (some ⟨f,0,none⟩),t4,t5,.pointer (some ⟨b,0,none⟩),t7,.pointer (some ⟨O,0,none⟩),t9,U,l,L,N,ab,J,B,P,C,H,n,G,k,aa,M,E,X,z,ad,F,D,x,u,A,ac,u35,u36,u37,u38,u39,u40,u41,u42,u43,u44,.bool true,v,y,R,o,Z,I],fs⟩ wx) :
  (Code.region 9 opr2.toArray true).wp prog Q ⟨#[t0,t1,t2,.pointer (some ⟨f,0,none⟩),t4,t5,.pointer (some ⟨b,0,none⟩),t7,.pointer (some ⟨O,0,none⟩),t9,U,l,L,N,ab,J,B,P,C,H,n,G,k,aa,M,E,X,z,ad,F,D,x,u,A,ac,af,au,ag,am,ai,ar,ah,aq,aj,ak,ao,v,y,R,o,Z,I],fs⟩ w:=by
 have hS:∀ a,Below w.heap.size w a -> ((a.cell? ⟨f,0,none⟩=some V/\a.cell? ⟨f,1,none⟩=some Y/\a.cell? ⟨f,2,none⟩=some T)/\(a.cell? ⟨b,0,none⟩=some (.slice h j i)/\a.cell? ⟨b,1,none⟩=some (.int .i64 m.p)/\a.cell? ⟨b,2,none⟩=some (.int .i64 m.s)/\a.cell? ⟨b,3,none⟩=some (.int .i64 m.e)/\a.cell? ⟨b,4,none⟩=some (.int .i64 m.d)/\a.cell? ⟨b,5,none⟩=some (.int .i64 m.t)/\a.cell? ⟨b,6,none⟩=some (.int .i64 m.q)/\a.cell? ⟨b,7,none⟩=some (.int .i64 m.r))/\a.cell? ⟨O,0,none⟩=some (.slice h j i)):=fun a hb=>by
  have g1:=(bb hc hb);have g:=(bb hm hb);have g3:=(bb hp hb);exact ⟨⟨cd a _ 0 _ _ _ g1,cd a _ 1 _ _ _ g1,cd a _ 2 _ _ _ g1⟩,⟨cd a _ 0 _ _ _ g,cd a _ 1 _ _ _ g,cd a _ 2 _ _ _ g,cd a _ 3 _ _ _ g,cd a _ 4 _ _ _ g,cd a _ 5 _ _ _ g,cd a _ 6 _ _ _ g,cd a _ 7 _ _ _ g⟩,cd a _ 0 _ _ _ g3⟩
 have b0:Below w.heap.size w w.drew:=(cj _ _).drew;have s0:=hS _ b0;refine wp_region_noPanic ?_;refine wp_region_held_drew (S:=fun a=>(a.cell? ⟨f,0,none⟩=some V/\a.cell? ⟨f,1,none⟩=some Y/\a.cell? ⟨f,2,none⟩=some T)/\(a.cell? ⟨b,0,none⟩=some (.slice h j i)/\a.cell? ⟨b,1,none⟩=some (.int .i64 m.p)/\a.cell? ⟨b,2,none⟩=some (.int .i64 m.s)/\a.cell? ⟨b,3,none⟩=some (.int .i64 m.e)/\a.cell? ⟨b,4,none⟩=some (.int .i64 m.d)/\a.cell? ⟨b,5,none⟩=some (.int .i64 m.t)/\a.cell? ⟨b,6,none⟩=some (.int .i64 m.q)/\a.cell? ⟨b,7,none⟩=some (.int .i64 m.r))/\a.cell? ⟨O,0,none⟩=some (.slice h j i)) (by kernel_rfl) s0 (fun al=>?_);refine tk 0 (.agg #[V,Y,T]) nz (by kernel_rfl) (Or.inl ⟨by rfl,by intro w c;(try dsimp only at c);go_simp⟩) ‹_› ?_;simp only [Act.put,sit,sc0,scs]
 refine tk 1 (.agg #[.slice h j i,.int .i64 m.p,.int .i64 m.s,.int .i64 m.e,.int .i64 m.d,.int .i64 m.t,.int .i64 m.q,.int .i64 m.r]) (n1 nz) (by kernel_rfl) (Or.inl ⟨by rfl,by intro w c;(try dsimp only at c);go_simp⟩) ‹_› ?_;simp only [Act.put,sit,sc0,scs];refine wpAnyH_ready (rs:=[2]) (by kernel_rfl) (by simp) ?_;refine AllReadyH.cons rfl (fun K hK=>?_) AllReadyH.nil
 go_simp
 go_wp2_with (go_at_call 160;with_reducible refine (HM _ b0).mono ?_;rintro e w1 ⟨rfl,an⟩)
 have b1:Below w.heap.size w w1:=b0.trans (an.mono b0.size);have s1:=hS _ b1;refine hK.out _ _ s1 (fun ae=>?_);clear hK;refine tk 3 (.bool true) (n2 (n1 nz)) (by kernel_rfl) (Or.inl ⟨by rfl,by intro w c;(try dsimp only at c);go_simp⟩) ‹_› ?_;simp only [Act.put,sit,sc0,scs];refine tk 4 (.bool true) (n4 nz) (by kernel_rfl) (Or.inl ⟨by rfl,by intro w c;(try dsimp only at c);go_simp⟩) ‹_› ?_;simp only [Act.put,sit,sc0,scs];refine tk 5 (undef) (n4 (n1 nz)) (by kernel_rfl) (Or.inr ⟨by rfl,rfl⟩) ‹_› ?_;simp only [Act.put,sit,sc0,scs];refine tk 6 (undef) (n4 (n2 nz)) (by kernel_rfl) (Or.inr ⟨by rfl,rfl⟩) ‹_› ?_;simp only [Act.put,sit,sc0,scs];refine tk 7 (undef) (n4 (n2 (n1 nz))) (by kernel_rfl) (Or.inr ⟨by rfl,rfl⟩) ‹_› ?_;simp only [Act.put,sit,sc0,scs];refine tk 8 (undef) (n8 nz) (by kernel_rfl) (Or.inr ⟨by rfl,rfl⟩) ‹_› ?_;simp only [Act.put,sit,sc0,scs]
 refine tk 9 (undef) (n8 (n1 nz)) (by kernel_rfl) (Or.inr ⟨by rfl,rfl⟩) ‹_› ?_;simp only [Act.put,sit,sc0,scs];refine tk 10 (.bool true) (n8 (n2 nz)) (by kernel_rfl) (Or.inl ⟨by rfl,by intro w c;(try dsimp only at c);go_simp⟩) ‹_› ?_;simp only [Act.put,sit,sc0,scs];refine wpAnyH_done (by kernel_rfl) ?_ _;exact NoPanic.normal <| hQ _ _ _ _ _ _ _ _ _ _ _ b1
theorem Zlj {t0 t1 t2 t4 t5 t7 t9 V n M O ac L C R D I o H l ab N F Y A ae G E y v B ad ai az aj ar al ay ak ax an ao aw x z T u aa J:Value}{fs:List Deferred}(i c P h g:Nat)(f:Option Addr)(X Z U:Value)(m:Mc)(w:World)(Q:Exit -> Act -> World -> Prop)(hc:w.heap[i]? = some (.cells #[X,Z,U] 44 (0,0)))(hm:w.heap[c]? = some (.cells #[.slice f h g,.int .i64 m.p,.int .i64 m.s,.int .i64 m.e,.int .i64 m.d,.int .i64 m.t,.int .i64 m.q,.int .i64 m.r] 99 (0,0)))(hp:w.heap[P]? = some (.cells #[.slice f h g] 40 (0,0)))(HM:∀ W,Below w.heap.size w W -> Calls prog 160 #[.agg #[X,Z,U],.agg #[.slice f h g,.int .i64 m.p,.int .i64 m.s,.int .i64 m.e,.int .i64 m.d,.int .i64 m.t,.int .i64 m.q,.int .i64 m.r]] W fun e a=>e=.returned (.bool true)/\Below W.heap.size W a)(kb:Bool)(HR:∀ W,Below w.heap.size w W -> Calls prog 217 #[.agg #[.slice f h g,.int .i64 m.p,.int .i64 m.s,.int .i64 m.e,.int .i64 m.d,.int .i64 m.t,.int .i64 m.q,.int .i64 m.r]] W fun e a=>∃ v',e=.returned v'/\IRow a v' (tdR m)/\Below W.heap.size W a)(HK:∀ W vl,Below w.heap.size w W -> IRow W vl (tdR m) -> Calls prog 214 #[.agg #[.slice f h g],vl] W fun e a=>e=.returned (.bool kb)/\Below W.heap.size W a)(hQ:∀ u35 u36 u37 u38 u39 u40 u41 u42 u43 u44 (wx:World),Below w.heap.size w wx -> Q .normal ⟨#[t0,t1,t2,.pointer (some ⟨i,0,none⟩),t4,t5,.pointer (some ⟨c,0,none⟩),t7,.pointer (some ⟨P,0,none⟩),t9,V,n,M,O,ac,L,C,R,D,I,o,H,l,ab,N,F,Y,A,ae,G,E,y,v,B,ad,u35,u36,u37,u38,u39,u40,u41,u42,u43,u44,.bool (!kb),x,z,T,u,aa,J],fs⟩ wx) :
  (Code.region 9 opr2.toArray true).wp prog Q ⟨#[t0,t1,t2,.pointer (some ⟨i,0,none⟩),t4,t5,.pointer (some ⟨c,0,none⟩),t7,.pointer (some ⟨P,0,none⟩),t9,V,n,M,O,ac,L,C,R,D,I,o,H,l,ab,N,F,Y,A,ae,G,E,y,v,B,ad,ai,az,aj,ar,al,ay,ak,ax,an,ao,aw,x,z,T,u,aa,J],fs⟩ w:=by
 have hS:∀ a,Below w.heap.size w a -> ((a.cell? ⟨i,0,none⟩=some X/\a.cell? ⟨i,1,none⟩=some Z/\a.cell? ⟨i,2,none⟩=some U)/\(a.cell? ⟨c,0,none⟩=some (.slice f h g)/\a.cell? ⟨c,1,none⟩=some (.int .i64 m.p)/\a.cell? ⟨c,2,none⟩=some (.int .i64 m.s)/\a.cell? ⟨c,3,none⟩=some (.int .i64 m.e)/\a.cell? ⟨c,4,none⟩=some (.int .i64 m.d)/\a.cell? ⟨c,5,none⟩=some (.int .i64 m.t)/\a.cell? ⟨c,6,none⟩=some (.int .i64 m.q)/\a.cell? ⟨c,7,none⟩=some (.int .i64 m.r))/\a.cell? ⟨P,0,none⟩=some (.slice f h g)):=fun a hb=>by
  have g1:=(bb hc hb);have j:=(bb hm hb);have g3:=(bb hp hb);exact ⟨⟨cd a _ 0 _ _ _ g1,cd a _ 1 _ _ _ g1,cd a _ 2 _ _ _ g1⟩,⟨cd a _ 0 _ _ _ j,cd a _ 1 _ _ _ j,cd a _ 2 _ _ _ j,cd a _ 3 _ _ _ j,cd a _ 4 _ _ _ j,cd a _ 5 _ _ _ j,cd a _ 6 _ _ _ j,cd a _ 7 _ _ _ j⟩,cd a _ 0 _ _ _ g3⟩
 have b0:Below w.heap.size w w.drew:=(cj _ _).drew;have s0:=hS _ b0;refine wp_region_noPanic ?_;refine wp_region_held_drew (S:=fun a=>(a.cell? ⟨i,0,none⟩=some X/\a.cell? ⟨i,1,none⟩=some Z/\a.cell? ⟨i,2,none⟩=some U)/\(a.cell? ⟨c,0,none⟩=some (.slice f h g)/\a.cell? ⟨c,1,none⟩=some (.int .i64 m.p)/\a.cell? ⟨c,2,none⟩=some (.int .i64 m.s)/\a.cell? ⟨c,3,none⟩=some (.int .i64 m.e)/\a.cell? ⟨c,4,none⟩=some (.int .i64 m.d)/\a.cell? ⟨c,5,none⟩=some (.int .i64 m.t)/\a.cell? ⟨c,6,none⟩=some (.int .i64 m.q)/\a.cell? ⟨c,7,none⟩=some (.int .i64 m.r))/\a.cell? ⟨P,0,none⟩=some (.slice f h g)) (by kernel_rfl) s0 (fun aq=>?_);refine tk 0 (.agg #[X,Z,U]) nz (by kernel_rfl) (Or.inl ⟨by rfl,by intro w b;(try dsimp only at b);go_simp⟩) ‹_› ?_;simp only [Act.put,sit,sc0,scs]
 refine tk 1 (.agg #[.slice f h g,.int .i64 m.p,.int .i64 m.s,.int .i64 m.e,.int .i64 m.d,.int .i64 m.t,.int .i64 m.q,.int .i64 m.r]) (n1 nz) (by kernel_rfl) (Or.inl ⟨by rfl,by intro w b;(try dsimp only at b);go_simp⟩) ‹_› ?_;simp only [Act.put,sit,sc0,scs];refine wpAnyH_ready (rs:=[2]) (by kernel_rfl) (by simp) ?_;refine AllReadyH.cons rfl (fun K k=>?_) AllReadyH.nil
 go_simp
 go_wp2_with (go_at_call 160;with_reducible refine (HM _ b0).mono ?_;rintro e w1 ⟨rfl,av⟩)
 have b1:Below w.heap.size w w1:=b0.trans (av.mono b0.size);have s1:=hS _ b1;refine k.out _ _ s1 (fun ah=>?_);clear k;refine tk 3 (.bool false) (n2 (n1 nz)) (by kernel_rfl) (Or.inl ⟨by rfl,by intro w b;(try dsimp only at b);go_simp⟩) ‹_› ?_;simp only [Act.put,sit,sc0,scs];refine tk 4 (.bool false) (n4 nz) (by kernel_rfl) (Or.inl ⟨by rfl,by intro w b;(try dsimp only at b);go_simp⟩) ‹_› ?_;simp only [Act.put,sit,sc0,scs];refine tk 5 (.agg #[.slice f h g]) (n4 (n1 nz)) (by kernel_rfl) (Or.inl ⟨by rfl,by intro w b;(try dsimp only at b);go_simp⟩) ‹_› ?_;simp only [Act.put,sit,sc0,scs];refine tk 6 (.agg #[.slice f h g,.int .i64 m.p,.int .i64 m.s,.int .i64 m.e,.int .i64 m.d,.int .i64 m.t,.int .i64 m.q,.int .i64 m.r]) (n4 (n2 nz)) (by kernel_rfl) (Or.inl ⟨by rfl,by intro w b;(try dsimp only at b);go_simp⟩) ‹_› ?_;simp only [Act.put,sit,sc0,scs]
 refine wpAnyH_ready (rs:=[7]) (by kernel_rfl) (by simp) ?_;refine AllReadyH.cons rfl (fun K k=>?_) AllReadyH.nil
 go_simp
 go_wp2_with (go_at_call 217;with_reducible refine (HR _ b1).mono ?_;rintro e w2 ⟨vl,rfl,RL,au⟩)
 have b2:Below w.heap.size w w2:=b1.trans (au.mono b1.size);have s2:=hS _ b2;refine k.out _ _ s2 (fun af=>?_);clear k;refine wpAnyH_ready (rs:=[8]) (by kernel_rfl) (by simp) ?_;refine AllReadyH.cons rfl (fun K k=>?_) AllReadyH.nil
 go_simp
 go_wp2_with (go_at_call 214;with_reducible refine (HK _ vl b2 RL).mono ?_;rintro e w3 ⟨rfl,am⟩)
 have b3:Below w.heap.size w w3:=b2.trans (am.mono b2.size);have s3:=hS _ b3;refine k.out _ _ s3 (fun ag=>?_);clear k;refine tk 9 (.bool (!kb)) (n8 (n1 nz)) (by kernel_rfl) (Or.inl ⟨by rfl,by intro w b;(try dsimp only at b);go_simp⟩) ‹_› ?_;simp only [Act.put,sit,sc0,scs];refine tk 10 (.bool (!kb)) (n8 (n2 nz)) (by kernel_rfl) (Or.inl ⟨by rfl,by intro w b;(try dsimp only at b);go_simp⟩) ‹_› ?_;simp only [Act.put,sit,sc0,scs];refine wpAnyH_done (by kernel_rfl) ?_ _;exact NoPanic.normal <| hQ _ _ _ _ _ _ _ _ _ _ _ b3
theorem Zk6 {t0 t1 t3 t5 t7 t8 t9 ac u X Z ah V J aa L U v T o ag Y O ad H ak P N E y I ai x aj A M C af B ae D G R z F ab an aw au:Value}{fs:List Deferred}(f i b l k:Nat)(j:Option Addr)(vb n:Value)(m:Mc)(g:Array Value)(Pr:Value -> Prop)(w:World)(Q:Exit -> Act -> World -> Prop)(hr:w.heap[f]? = some (.cells #[vb,n] 231 (0,0)))(hm:w.heap[b]? = some (.cells #[.slice j l k,.int .i64 m.p,.int .i64 m.s,.int .i64 m.e,.int .i64 m.d,.int .i64 m.t,.int .i64 m.q,.int .i64 m.r] 99 (0,0)))(ho:w.heap[i]? = some (.cells g 99 (0,0)))(h8:g.size=8)(nAq:f ≠ i)(nBq:b ≠ i)(HE:∀ W,Below w.heap.size w W -> Calls prog 166 #[.agg #[vb,n]] W fun e a=>∃ r,e=.returned r/\Pr r/\Below W.heap.size W a)(hQ:∀ u49 u50 u51 r (W:World),Pr r -> Below w.heap.size w W -> W.heap[i]? = some (.cells g 99 (0,0)) -> Q .normal ⟨#[t0,t1,.pointer (some ⟨f,0,none⟩),t3,.pointer (some ⟨i,0,none⟩),r,.pointer (some ⟨b,0,none⟩),t7,t8,t9,ac,u,X,Z,ah,V,J,aa,L,U,v,T,o,ag,Y,O,ad,H,ak,P,N,E,y,I,ai,x,aj,A,M,C,af,B,ae,D,G,R,z,F,ab,u49,u50,u51],fs⟩ (W.setRow i #[.slice j l k,.int .i64 m.p,.int .i64 m.s,.int .i64 m.e,.int .i64 m.d,.int .i64 m.t,.int .i64 m.q,.int .i64 m.r])) :
  (Code.region 11 (List.toArray (⟨some 49,.load 99 (.tmp 6),99, "l08_wire.go:227", #[],none⟩ :: ⟨some 50,.load 231 (.tmp 2),231, "l08_wire.go:227", #[],none⟩ :: ⟨some 51,.call { callee:=.value (.func 166),args:=#[.tmp 50],argTypes:=#[231] },236, "l08_wire.go:227", #[⟨1,.data⟩],none⟩ :: ⟨none,.store 99 (.tmp 4) (.tmp 49),0, "l08_wire.go:227", #[⟨0,.data⟩,⟨2,.chain⟩,⟨0,.phase⟩,{ on:=1,ground:=Ground.textOnly Departure.lateStores },{ on:=2,ground:=Ground.textOnly Departure.lateStoresUnsure }],none⟩ :: ⟨some 5,.assign (.tmp 51),236, "l08_wire.go:227", #[⟨2,.data⟩,⟨3,.chain⟩,⟨0,.phase⟩,⟨1,.phase⟩,⟨2,.phase⟩,⟨3,.phase⟩],none⟩ :: [])) true).wp prog Q ⟨#[t0,t1,.pointer (some ⟨f,0,none⟩),t3,.pointer (some ⟨i,0,none⟩),t5,.pointer (some ⟨b,0,none⟩),t7,t8,t9,ac,u,X,Z,ah,V,J,aa,L,U,v,T,o,ag,Y,O,ad,H,ak,P,N,E,y,I,ai,x,aj,A,M,C,af,B,ae,D,G,R,z,F,ab,an,aw,au],fs⟩ w:=by
 have hS:∀ a:World,a.heap[f]? = some (.cells #[vb,n] 231 (0,0)) -> a.heap[b]? = some (.cells #[.slice j l k,.int .i64 m.p,.int .i64 m.s,.int .i64 m.e,.int .i64 m.d,.int .i64 m.t,.int .i64 m.q,.int .i64 m.r] 99 (0,0)) -> (a.cell? ⟨f,0,none⟩=some vb/\a.cell? ⟨f,1,none⟩=some n/\(a.cell? ⟨b,0,none⟩=some (.slice j l k)/\a.cell? ⟨b,1,none⟩=some (.int .i64 m.p)/\a.cell? ⟨b,2,none⟩=some (.int .i64 m.s)/\a.cell? ⟨b,3,none⟩=some (.int .i64 m.e)/\a.cell? ⟨b,4,none⟩=some (.int .i64 m.d)/\a.cell? ⟨b,5,none⟩=some (.int .i64 m.t)/\a.cell? ⟨b,6,none⟩=some (.int .i64 m.q)/\a.cell? ⟨b,7,none⟩=some (.int .i64 m.r))):=fun a g1 h =>
  ⟨cd a _ 0 _ _ _ g1,cd a _ 1 _ _ _ g1,⟨cd a _ 0 _ _ _ h,cd a _ 1 _ _ _ h,cd a _ 2 _ _ _ h,cd a _ 3 _ _ _ h,cd a _ 4 _ _ _ h,cd a _ 5 _ _ _ h,cd a _ 6 _ _ _ h,cd a _ 7 _ _ _ h⟩⟩
 have b0:Below w.heap.size w w.drew:=(cj _ _).drew;have lr:=(bl hr);have lm:=(bl hm);have ao:=(bl ho);have s0:=hS w.drew hr hm;refine wp_region_noPanic ?_;refine wp_region_held_drew (S:=fun a=>a.cell? ⟨f,0,none⟩=some vb/\a.cell? ⟨f,1,none⟩=some n/\(a.cell? ⟨b,0,none⟩=some (.slice j l k)/\a.cell? ⟨b,1,none⟩=some (.int .i64 m.p)/\a.cell? ⟨b,2,none⟩=some (.int .i64 m.s)/\a.cell? ⟨b,3,none⟩=some (.int .i64 m.e)/\a.cell? ⟨b,4,none⟩=some (.int .i64 m.d)/\a.cell? ⟨b,5,none⟩=some (.int .i64 m.t)/\a.cell? ⟨b,6,none⟩=some (.int .i64 m.q)/\a.cell? ⟨b,7,none⟩=some (.int .i64 m.r))) (by kernel_rfl) s0 (fun aq=>?_)
 refine tk 0 (.agg #[.slice j l k,.int .i64 m.p,.int .i64 m.s,.int .i64 m.e,.int .i64 m.d,.int .i64 m.t,.int .i64 m.q,.int .i64 m.r]) nz (by kernel_rfl) (Or.inl ⟨by rfl,by intro w c;(try dsimp only at c);go_simp⟩) ‹_› ?_;simp only [Act.put,sit,sc0,scs];refine tk 1 (.agg #[vb,n]) (n1 nz) (by kernel_rfl) (Or.inl ⟨by rfl,by intro w c;(try dsimp only at c);go_simp⟩) ‹_› ?_;simp only [Act.put,sit,sc0,scs];refine wpAnyH_ready (rs:=[2]) (by kernel_rfl) (by simp) ?_;refine AllReadyH.cons rfl (fun K hK=>?_) AllReadyH.nil
 go_simp
 go_wp2_with (go_at_call 166;with_reducible refine (HE _ b0).mono ?_;rintro e w1 ⟨r,rfl,av,ar⟩)
 have b1:Below w.heap.size w w1:=b0.trans (ar.mono b0.size);have r1:=(b1.block _ lr).trans hr;have m1:=(b1.block _ lm).trans hm;have o1:=(b1.block _ ao).trans ho;refine hK.out _ _ (hS w1 r1 m1) (fun am=>?_);clear hK;refine wpAnyH_ready (rs:=[3]) (by kernel_rfl) (by simp) ?_;refine AllReadyH.cons rfl (fun K hK=>?_) AllReadyH.nil;rw [if_pos (by rfl)];refine wp_store_row 99 _ _ rfl i #[.slice j l k,.int .i64 m.p,.int .i64 m.s,.int .i64 m.e,.int .i64 m.d,.int .i64 m.t,.int .i64 m.q,.int .i64 m.r] rfl rfl 99 g o1 Znz h8 (by simp [Value.oneCell']) ?_;refine hK.out _ _ (hS _ ((setRow_other _ _ _ _ nAq).trans r1) ((setRow_other _ _ _ _ nBq).trans m1)) (fun al=>?_);clear hK;simp only [Act.put];refine tk 4 (r) (n4 nz) (by kernel_rfl) (Or.inl ⟨by rfl,by intro w c;(try dsimp only at c);go_simp⟩) ‹_› ?_;simp only [Act.put];refine wpAnyH_done (by kernel_rfl) ?_ _
 exact NoPanic.normal <| hQ _ _ _ _ w1 av b1 o1
end Go.Proofs.YtkpfangkfknhoaaGreatDoor
