/-
  Texts that stood by themselves, laid into one.
-/
import Derived.Test.YtfeodlbpnghakaaGreatDoorVMoveM
import Derived.Test.YtfeodlbpnghakaaGreatDoorSPTextM
import Derived.Test.YtfeodlbpnghakaaGreatDoorMPackM
import Derived.Test.YtfeodlbpnghakaaGreatDoorMcTM
import Derived.Test.YtfeodlbpnghakaaGreatDoorITdM
import Derived.Test.YtfeodlbpnghakaaGreatDoorMark2M
import Derived.Deep.MidRow
import Derived.Deep.RegionHeld3
import Derived.Test.YtfeodlbpnghakaaGreatDoorSGTextM
import Derived.Test.YtfeodlbpnghakaaGreatDoorInM
import Derived.Test.YtfeodlbpnghakaaGreatDoorS8RgM
import Derived.Test.YtfeodlbpnghakaaGreatDoorMach2M
import Derived.Test.YtfeodlbpnghakaaGreatDoorSAddM
/-
  When what is read of bytes is a machine: plain mathematics. Both ways of asking whether nothing else is there come to the same. No condition.
-/
set_option maxRecDepth 100000
set_option maxHeartbeats 6400000
namespace Go.Proofs.YtfeodlbpnghakaaGreatDoor
open Go.RowKit
def mcOf:List Int -> Mc
 | [p,t,q,s,e,d,r]=>⟨p,s,e,d,t,q,r⟩
 | _=>⟨0,0,0,0,0,0,0⟩
theorem Zmg {l:List Int}(h:l.length=7):mpN (mcOf l)=l:=by
 match l,h with
 | [p,t,q,s,e,d,r],_=>rfl
def Zdx (zs:List Int):Nat -> Int -> Bool -> List Int × Int × Bool
 | 0,a,ok=>([],a,ok)
 | n+1,a,ok=>((num8 zs a ok).1 :: (Zdx zs n (num8 zs a ok).2.1 (num8 zs a ok).2.2).1,(Zdx zs n (num8 zs a ok).2.1 (num8 zs a ok).2.2).2)
theorem Zdz (zs:List Int):∀ (n:Nat) (a:Int),(Zdx zs n a false).2.2=false
 | 0,a=>rfl
 | n+1,a=>by rw [Zdx,Zbx];exact Zdz zs n a
theorem ZgH (zs:List Int):∀ (n:Nat) (a:Int),(∀ q,rdK zs n a=some q -> Zdx zs n a true=(q.1,q.2,true))/\(rdK zs n a=none -> (Zdx zs n a true).2.2=false)
 | 0,a=>⟨fun q h=>by cases h;rfl,fun h=>by cases h⟩
 | n+1,a=>by
  rw [rdK,Zdx]
  cases h:rd1 zs a with
  | none=>rw [ZaF h];exact ⟨fun q b=>by (simp at b),fun _=>Zdz zs n a⟩
  | some p =>
   rw [(ZaK zs a).2 p h]
   obtain ⟨d,e⟩:=ZgH zs n p.2
   simp only [Option.bind_some]
   cases c:rdK zs n p.2 with
   | none=>exact ⟨fun q b=>by (simp at b),fun _=>e c⟩
   | some t=>rw [d t c];exact ⟨fun q b=>by (simp at b;subst b;rfl),fun b=>by (simp at b)⟩
theorem Zg1 {zs:List Int}(d:∀ z ∈ zs,0 <= z/\z <= 255):∀ (n:Nat) (a:Int) (q:List Int × Int),0 <= a -> rdK zs n a=some q -> Lies zs a (q.1.flatMap encI) q.2/\∀ x ∈ q.1,0 <= x/\x <= 9223372036854775807
 | 0,a,q,ha,h=>by cases h;exact ⟨Lies.nil ha,by intro x c;cases c⟩
 | n+1,a,q,ha,h=>by
  rw [rdK,Option.bind_eq_some_iff] at h
  obtain ⟨p,f,e⟩:=h
  rw [Option.map_eq_some_iff] at e
  obtain ⟨t,j,rfl⟩:=e
  obtain ⟨k,_⟩:=Za0 (x:=p.1) (b:=p.2) d f
  obtain ⟨g,m,o,_⟩:=Za9 f
  obtain ⟨i,l⟩:=Zg1 d n p.2 t o j
  refine ⟨by rw [List.flatMap_cons];exact k.append i,fun x c=>?_⟩
  rcases List.mem_cons.1 c with rfl | c
  ·exact ⟨g,m⟩
  ·exact l x c
theorem Zhi {zs:List Int}{d:List Nd}{a b:Int}(i:∀ z ∈ zs,0 <= z/\z <= 255)(h:rdP zs a=some (d,b)):Zas d=true/\Lies zs a (ZbD d) b:=by
 unfold rdP at h
 rw [Option.bind_eq_some_iff] at h
 obtain ⟨⟨n,o⟩,k,e⟩:=h
 split at e
 ·cases e
 rw [Option.bind_eq_some_iff] at e
 obtain ⟨⟨ys,c⟩,l,g⟩:=e
 split at g
 ·rename_i m
  cases g
  obtain ⟨f,q⟩:=Za0 i k
  obtain ⟨j,p⟩:=Zcv i n.toNat o _ d (by have:=f.1;have:=f.2.1;omega) l
  refine ⟨m,?_⟩
  unfold ZbD
  rw [show (d.length:Int)=n by omega]
  exact f.append j
 ·cases g
theorem Lies.whole {zs L:List Int}(h:Lies zs 0 L zs.length):L=zs:=by
 obtain ⟨_,d,b,c⟩:=h
 rw [Int.toNat_zero,List.drop_zero] at c
 have a:=congrArg List.length c
 rw [List.length_append] at a
 have:b=[]:=List.eq_nil_of_length_eq_zero (by omega)
 rw [this,List.append_nil] at c
 exact c.symm
theorem ZfV:∀ (l m:List Int) (p q:List Int),l.length=m.length -> (∀ x ∈ l,0 <= x/\x <= 9223372036854775807) -> (∀ x ∈ m,0 <= x/\x <= 9223372036854775807) -> l.flatMap encI ++ p=m.flatMap encI ++ q -> l=m/\p=q
 | [],[],p,q,_,_,_,h=>⟨rfl,h⟩
 | x :: l,y :: m,p,q,hl,h1,h2,h=>by
  rw [List.flatMap_cons,List.flatMap_cons,List.append_assoc,List.append_assoc] at h
  have b:=h1 x (by simp)
  have c:=h2 y (by simp)
  have e:=Zft b.1 c.1 b.2 c.2 h
  subst e
  obtain ⟨d,f⟩:=ZfV l m p q (by simpa using hl) (fun z a=>h1 z (by simp [a])) (fun z a=>h2 z (by simp [a])) (List.append_cancel_left h)
  exact ⟨by rw [d],f⟩
theorem Zhc {ns:List Nd}{is:List In}{ds:List Df}{b:List Nd}{m:Mc}(h:Za3 ns is ds b m=true)(v:∀ x ∈ mpN m,0 <= x/\x <= 9223372036854775807):mpL b m=(mpN m).flatMap encI ++ ZbD b <-> allR b (tdR m)=true:=by
 obtain ⟨k,n,_⟩:=ZbC h
 have f:tdOk b m=true:=by unfold tdOk;rw [k,n];rfl
 have w:tdL b m=mvN 0 b (tdR m):=by unfold tdL;rw [if_pos f]
 have c:∀ r ∈ tdR m,0 <= tdF b m r:=fun r g=>(Zkk b (tdR m) k n 0 r g).2.2
 have i:∀ r,r ∈ [m.s,m.e,m.d] -> r ∈ tdR m:=fun r g=>by
  unfold tdR
  split
  ·simp only [List.mem_cons,List.mem_nil_iff,or_false] at g ⊢;rcases g with h | h | h <;> simp [h]
  ·exact g
 constructor
 ·intro e
  unfold mpL at e
  obtain ⟨A,_,_⟩:=Zhd h
  have o:∀ x ∈ mpN (tdM b m),0 <= x:=by
   unfold tdM
   rw [if_pos f]
   intro x j
   have a:=v
   simp only [mpN,List.mem_cons,List.mem_nil_iff,or_false] at j a
   rcases j with rfl | rfl | rfl | rfl | rfl | rfl | rfl
   ·exact (a _ (by simp)).1
   ·exact (a _ (by simp)).1
   ·exact (a _ (by simp)).1
   ·exact c _ (i _ (by simp))
   ·exact c _ (i _ (by simp))
   ·exact c _ (i _ (by simp))
   ·show 0 <= (if argB m then tdF b m m.r else m.r)
    split
    ·rename_i q;exact c _ (by unfold tdR;rw [if_pos q];simp)
    ·exact (a _ (by simp)).1
  obtain ⟨_,t⟩:=ZfV (mpN (tdM b m)) (mpN m) _ _ rfl (fun x j=>⟨o x j,A x j⟩) v e
  rw [w] at t
  exact (ZdU b (tdR m) k n).1 t
 ·intro g
  have u:=ZfB b (tdR m) k n ((Zg0 b (tdR m)).1 g)
  have l:∀ r ∈ tdR m,tdF b m r=r:=by
   intro r p
   have:=u.2
   unfold mvR at this
   have z:=List.map_inj_left.1 (this.trans (List.map_id _).symm) r p
   exact z
  have y:tdM b m=m:=by
   unfold tdM
   rw [if_pos f,l _ (i _ (by simp)),l _ (i _ (by simp)),l _ (i _ (by simp))]
   split
   ·rename_i q;rw [l m.r (by unfold tdR;rw [if_pos q];simp)]
   ·rfl
  unfold mpL
  rw [w,y,u.1]
def mrR (ns:List Nd)(is:List In)(ds:List Df)(zs:List Int):Option (List Nd × Mc) :=
 (rdK zs 7 0).bind fun q=>(rdP zs q.2).bind fun r=>if r.2=zs.length/\Za3 ns is ds r.1 (mcOf q.1)=true/\allR r.1 (tdR (mcOf q.1))=true then some (r.1,mcOf q.1) else none
theorem Zk4 {ns:List Nd}{is:List In}{ds:List Df}{zs l:List Int}{a:Int}{k:Bool}(j:∀ z ∈ zs,0 <= z/\z <= 255)(r:Zdx zs 7 0 true=(l,a,k))(h:List Nd)(m:Mc) :
  mrR ns is ds zs=some (h,m) <-> (sOk zs a k=true/\(sP zs a k).1=h)/\m=mcOf l/\Za3 ns is ds h m=true/\mpL h m=zs:=by
 obtain ⟨n1,n2⟩:=ZgH zs 7 0
 unfold mrR
 cases f:rdK zs 7 0 with
 | none =>
  have g:=n2 f
  rw [r] at g
  have g:k=false:=g
  subst g
  simp only [Option.bind_none,reduceCtorEq,false_iff]
  rintro ⟨⟨d,_⟩,_⟩
  have:sOk zs a false=false:=by unfold sOk sP ZgM;rw [Zbx];simp [sNs]
  rw [this] at d
  cases d
 | some q =>
  have p:=n1 q f
  rw [r] at p
  obtain ⟨u,w⟩:=q
  cases p
  obtain ⟨t,e⟩:=Zg1 j 7 0 (u,w) (by omega) f
  have y:u.length=7:=ZeG f
  have c:=Zmg y
  simp only [Option.bind_some]
  rw [Zlr,Option.bind_eq_some_iff]
  constructor
  ·rintro ⟨⟨ys,b⟩,d,n⟩
   split at n
   ·rename_i v
    cases n
    obtain ⟨c1,c2,c3⟩:=v
    simp only at c1 c2 c3
    subst c1
    obtain ⟨_,i⟩:=Zhi j d
    have o:=(t.append i).whole
    refine ⟨d,rfl,c2,?_⟩
    rw [(Zhc c2 (by rw [c];exact e)).2 c3,c]
    exact o
   ·cases n
  ·rintro ⟨d,rfl,s,x⟩
   obtain ⟨_,i⟩:=Zhi j d
   have o:=(t.append i).whole
   refine ⟨_,d,?_⟩
   rw [if_pos ⟨rfl,s,(Zhc s (by rw [c];exact e)).1 (by rw [x,c];exact o.symm)⟩]
def rdTs (zs:List Int):Nat -> Int -> Option (List ByteArray × Int)
 | 0,a=>some ([],a)
 | n+1,a=>(rt zs a).bind fun p=>(rdTs zs n p.2).map fun q=>(p.1 :: q.1,q.2)
def rdTL (zs:List Int)(a:Int):Option (List ByteArray × Int):=(rd1 zs a).bind fun p=>rdTs zs p.1.toNat p.2
def rdTB (zs:List Int)(most:Nat)(a:Int):Option (List ByteArray × Int):=(rd1 zs a).bind fun p=>if p.1 > most then none else rdTs zs p.1.toNat p.2
theorem Zdw (zs:List Int):∀ (n:Nat) (a:Int),rdTs zs (n+1) a=(rdTs zs n a).bind fun q=>(rt zs q.2).map fun p=>(q.1 ++ [p.1],p.2)
 | 0,a=>by
  simp only [rdTs,Option.bind_some]
  cases rt zs a <;> rfl
 | n+1,a=>by
  rw [rdTs]
  cases h:rt zs a with
  | none=>simp [rdTs,h]
  | some p =>
   simp only [Option.bind_some]
   rw [Zdw zs n p.2,rdTs,h]
   simp only [Option.bind_some]
   cases rdTs zs n p.2 with
   | none=>rfl
   | some q=>simp only [Option.bind_some,Option.map_some];cases rt zs q.2 <;> rfl
theorem ZeO {zs:List Int}:∀ {n:Nat} {a:Int} {q:List ByteArray × Int},rdTs zs n a=some q -> q.1.length=n
 | 0,a,q,h=>by cases h;rfl
 | n+1,a,q,h=>by
  rw [rdTs,Option.bind_eq_some_iff] at h
  obtain ⟨p,_,b⟩:=h
  rw [Option.map_eq_some_iff] at b
  obtain ⟨t,c,d⟩:=b
  cases d
  simp [ZeO c]
theorem Zfm {zs:List Int}{a:Int}:∀ {n m:Nat},n <= m -> rdTs zs n a=none -> rdTs zs m a=none
 | n,0,h,e=>by
  obtain rfl:n=0:=by omega
  exact e
 | n,m+1,h,e=>by
  rcases Nat.lt_or_ge n (m+1) with b | b
  ·rw [Zdw,Zfm (by omega) e];rfl
  ·obtain rfl:n=m+1:=by omega
   exact e
def pdR (ns:List Nd)(is:List In)(ds:List Df)(zs:List Int):Option (Int × (List Nd × Mc) × List ByteArray × List ByteArray) :=
 (rd1 zs 0).bind fun p=>(rt zs p.2).bind fun t=>(rdTL zs t.2).bind fun b=>(rdTL zs b.2).bind fun o=>if o.2=zs.length then (mrR ns is ds (sb t.1)).bind fun r=>if Zbr ns is ds p.1 r.1 r.2 b.1 o.1 then some (p.1,r,b.1,o.1) else none else none
theorem ZcR {zs:List Int}{b:Nat}{a:Int}{q:List ByteArray × Int}(h:rdTB zs b a=some q):rdTL zs a=some q/\q.1.length <= b:=by
 unfold rdTB at h
 rw [Option.bind_eq_some_iff] at h
 obtain ⟨p,d,c⟩:=h
 split at c
 ·cases c
 ·refine ⟨by unfold rdTL;rw [d];exact c,?_⟩
  rw [ZeO c]
  omega
theorem ZjB {zs:List Int}{b:Nat}{a:Int}(h:rdTB zs b a=none):rdTL zs a=none \/ ∃ q,rdTL zs a=some q/\b < q.1.length:=by
 unfold rdTB at h
 unfold rdTL
 cases c:rd1 zs a with
 | none=>exact Or.inl rfl
 | some p =>
  rw [c] at h
  simp only [Option.bind_some] at h ⊢
  split at h
  ·cases d:rdTs zs p.1.toNat p.2 with
   | none=>exact Or.inl rfl
   | some q=>exact Or.inr ⟨q,rfl,by rw [ZeO d];omega⟩
  ·exact Or.inl h
theorem Zhm {ns:List Nd}{is:List In}{ds:List Df}{i:Int}{c:List Nd}{m:Mc}{b a:List ByteArray}(h:20 < b.length \/ 40 < a.length):Zbr ns is ds i c m b a=false:=by
 unfold Zbr boxB outB
 rcases h with h | h
 ·have:decide (b.length <= 20)=false:=by simp;omega
  rw [this]
  simp
 ·have:decide (a.length <= 40)=false:=by simp;omega
  rw [this]
  simp
theorem Zkj (ns:List Nd)(is:List In)(ds:List Df)(zs:List Int):pdR ns is ds zs=((rd1 zs 0).bind fun p=>(rt zs p.2).bind fun t=>(rdTB zs 20 t.2).bind fun b=>(rdTB zs 40 b.2).bind fun o=>if o.2=zs.length then (mrR ns is ds (sb t.1)).bind fun r=>if Zbr ns is ds p.1 r.1 r.2 b.1 o.1 then some (p.1,r,b.1,o.1) else none else none):=by
 unfold pdR
 cases rd1 zs 0 with
 | none=>rfl
 | some p =>
  simp only [Option.bind_some]
  cases rt zs p.2 with
  | none=>rfl
  | some t =>
   simp only [Option.bind_some]
   have a:∀ (b o:List ByteArray × Int),(20 < b.1.length \/ 40 < o.1.length) -> (if o.2=(zs.length:Int) then (mrR ns is ds (sb t.1)).bind fun r=>if Zbr ns is ds p.1 r.1 r.2 b.1 o.1 then some (p.1,r,b.1,o.1) else none else none)=none:=fun b o h=>by
    split
    ·cases mrR ns is ds (sb t.1) with
     | none=>rfl
     | some r=>simp only [Option.bind_some];rw [Zhm h];rfl
    ·rfl
   cases e:rdTB zs 20 t.2 with
   | some b =>
    rw [(ZcR e).1]
    simp only [Option.bind_some]
    cases d:rdTB zs 40 b.2 with
    | some o=>rw [(ZcR d).1]
    | none =>
     rcases ZjB d with h | ⟨q,h,c⟩
     ·rw [h]
     ·rw [h]
      exact a b q (Or.inr c)
   | none =>
    rcases ZjB e with h | ⟨q,h,c⟩
    ·rw [h]
     rfl
    ·rw [h]
     simp only [Option.bind_some,Option.bind_none]
     cases rdTL zs q.2 with
     | none=>rfl
     | some o=>exact a q o (Or.inl c)
theorem ZaI {P:Program}{ops:Array Oper}{S:World -> Prop}{op:Oper}{a:Act}(g:Region.wanted op (yielded ops a.tmps)=true)(c:TypeId)(x:Operand)(f:op.op=.load c x)(b:Nat)(i:a.eval x=.pointer (some ⟨b,0,none⟩))(cs:Array Value)(t:TypeId)(d:TypeDesc)(j:∀ w,S w -> w.heap[b]? = some (.cells cs t (0,0)))(m:P.underlying c=some d)(k:d.isRow=true)(hi:(P.info? c).map (·.size)=some cs.size):YieldsIf P ops S op (.agg cs) a:=by
 have h:=yieldsIf_load_mid (P:=P) (ops:=ops) (S:=S) (op:=op) (a:=a) g c x f b 0 i cs.toList d (fun w e=>by
  have l:=World.rangeAt_of_block (j w e) 0 cs.size
  simpa using l) m k (by simpa using hi)
 simpa using h
theorem ZaE {w d:World}{B k n g:Nat}{e:TypeId}{v:Value}{l:List Value}(h:w.ownsRow B e k v n l)(o:v.ownBlock ≠ some g)(m:∀ j,j ≠ g -> d.heap[j]? = w.heap[j]?):d.ownsRow B e k v n l:=by
 refine ⟨h.1,?_⟩
 rcases h.2 with ⟨rfl,f⟩ | ⟨c,b,cur,rfl,i,a,p⟩
 ·exact Or.inl ⟨rfl,f⟩
 ·exact Or.inr ⟨c,b,cur,rfl,i,(m c (fun e=>o (by rw [e];rfl))).trans a,p⟩
theorem Zaw (w:World):Below w.heap.size w w.drew:=(Below.refl _ _).drew
theorem Zap (w:World)(o:Obj):Below w.heap.size w (w.alloc o):=(Below.refl _ _).alloc (Nat.le_refl _) _
theorem Zao {w:World}{b:Nat}{o:Obj}(h:w.heap[b]? = some o):b < w.heap.size:=(bl h)
theorem Zae {w a:World}{b:Nat}{o:Obj}(h:w.heap[b]? = some o)(c:Below w.heap.size w a):a.heap[b]? = some o:=(c.block _ (Zao h)).trans h
theorem ZaC {w a b:World}{P:Nat}{o:Option Nat}(h:w.grownBy a (some P))(d:a.grownBy b o)(g:∀ k,o=some k -> k=P \/ w.heap.size <= k):w.grownBy b (some P) :=
 ⟨d.os.trans h.os,d.tape.trans h.tape,d.output.trans h.output,Nat.le_trans h.size d.size,fun k f c=>(d.block k (Nat.lt_of_lt_of_le f h.size) (fun e=>by rcases g k e.symm with rfl | i;exact c rfl;omega)).trans (h.block k f c)⟩
theorem Zcb {w a:World}{B P k n:Nat}{e:TypeId}{v:Value}{l:List Value}(h:w.ownsRow B e k v n l)(d:P < B)(c:w.grownBy a (some P)):a.ownsRow B e k v n l:=h.kept c (by
 cases b:v.ownBlock with
 | none=>exact Or.inl rfl
 | some g=>exact Or.inr (fun e=>by have:=(h.lt g b).1;cases e;omega))
theorem StRow.one9 (w:World)(s:ByteArray)(b:s.size <= maxLen):StRow (w.alloc (Obj.cells #[.string s] 9)) (.slice (some ⟨w.heap.size,0,none⟩) 1 1) [s]:=by
 refine ⟨_,1,rfl,⟨by simp,fun h=>by cases h⟩,by simp,by simpa using b,fun _=>⟨_,0,rfl,by simp,fun j x a=>?_⟩⟩
 rw [cell_of_row _ w.heap.size (0+j) _ 9 (0,0) (heap_alloc_new w _)]
 cases j with
 | zero=>simp at a;subst a;rfl
 | succ j=>simp at a
theorem ZhI (v:Value)(zs:List Int)(A w:World)(P:Nat)(a:Int)(b:Nat)(R:Row A v zs)(hb:Below A.heap.size A w)(hP:A.heap.size <= P)(h1:One w P a)(an:b <= 40)(au:zs.length <= 140737488351232) :
  Calls Tryz.prog 195 #[.agg #[v,.pointer (some ⟨P,0,none⟩)],.int .i64 b] w fun e w'=>w.grownBy w' (some P) /\
   ((∃ q v',rdTB zs b a=some q/\e=.returned (.tuple #[v',.bool true])/\One w' P q.2/\w'.ownsRow w.heap.size 9 1 v' q.1.length (stv q.1)) \/ (rdTB zs b a=none/\e=.returned (.tuple #[.slice none 0 0,.bool false])/\∃ q,One w' P q)):=by
 have R':=R
 obtain ⟨W,o,rfl,_⟩:=R'
 have Z:=h1.lt
 have aq:=hb.size
 obtain ⟨i0,hi,ai,ap,ak⟩:=info_parts Zm3
 have l:Below A.heap.size A (w.alloc (Obj.cells #[Value.slice W zs.length o,Value.pointer (some ⟨P,0,none⟩)] 235)):=hb.alloc hb.size _
 have h2:One (w.alloc (Obj.cells #[Value.slice W zs.length o,Value.pointer (some ⟨P,0,none⟩)] 235)) P a:=h1.below ((Below.refl _ _).alloc (Nat.le_refl _) _) Z
 have hx:=heap_alloc_new w (Obj.cells #[Value.slice W zs.length o,Value.pointer (some ⟨P,0,none⟩)] 235)
 have H:=World.grownBy_alloc w (Obj.cells #[Value.slice W zs.length o,Value.pointer (some ⟨P,0,none⟩)] 235) (some P)
 obtain ⟨g,B⟩:∃ g,Hid (gN zs a=g):=⟨_,rfl⟩
 obtain ⟨t,gn,gk⟩:=g
 have U:=ZdG _ zs P a A _ R l hP h2
 rw [B.out] at U
 simp only at U
 have z:Hid (rdTB zs b a=if gk then (if t > b then none else rdTs zs t.toNat gn) else none):=by
  unfold Hid rdTB rd1
  rw [B.out]
  cases gk <;> rfl
 have aa:gk=true -> 0 <= t/\t <= 9223372036854775807:=fun h=>by
  have:=Za9 (zs:=zs) (a:=a) (p:=(t,gn)) (by unfold rd1;rw [B.out];simp [h])
  exact ⟨this.1,this.2.1⟩
 clear B
 go_enter Tryz.func195,Tryz.ntmps195
 go_wp2_with fail
 refine U.mono ?_
 rintro e V ⟨rfl,⟨N,X,ab⟩,g1⟩
 replace H:=ZaC H g1 (fun k hk=>Or.inl (by cases hk;rfl))
 have ac:=(g1.block w.heap.size (by simp) (by simp;omega)).trans hx
 clear U g1 l h2 hx
 cases gk with
 | false =>
  replace z:Hid (rdTB zs b a=none):=z.out
  go_wp2
  go_ret2
  exact ⟨H,Or.inr ⟨z.out,rfl,N,X⟩⟩
 | true =>
  obtain ⟨r0,r1⟩:=aa rfl
  obtain rfl:=ab rfl
  clear aa ab
  by_cases hm:(b:Int) < t
  ·replace z:Hid (rdTB zs b a=none):=by unfold Hid;rw [z.out];simp [hm]
   go_wp2
   go_ret2
   exact ⟨H,Or.inr ⟨z.out,rfl,N,X⟩⟩
  ·replace z:Hid (rdTB zs b a=rdTs zs t.toNat N):=by unfold Hid;rw [z.out];simp [hm]
   have ar:t <= 40:=by omega
   have E:Below V.heap.size V (V.alloc (Obj.cells #[] 9)):=(Below.refl _ _).alloc (Nat.le_refl _) _
   have M:=ZaC H (World.grownBy_alloc V (Obj.cells #[] 9) none) (fun k hk=>by cases hk)
   have oE:=Zcl V 9 1 w.heap.size H.size
   have y:=X.below E X.lt
   have L:=Zae ac E
   go_wp2_with fail
   generalize V.alloc (Obj.cells #[] 9)=wE at E M oE y L ⊢
   clear H X ac E
   go_loopw [8,25] (fun vo i wr=>∃ (k:Nat) (r:List ByteArray) (c:Int),(k:Int) <= t/\i=.int .i64 k/\r.length=k/\Hid (rdTs zs k N=some (r,c))/\One wr P c/\wr.ownsRow w.heap.size 9 1 vo r.length (stv r)/\wr.heap[w.heap.size]? = some (.cells #[Value.slice W zs.length o,Value.pointer (some ⟨P,0,none⟩)] 235 (0,0))/\w.grownBy wr (some P)) (fun _ i _=>t.toNat - (intOf i).toNat)
   case atStart=>exact ⟨0,[],N,by omega,rfl,rfl,rfl,y,oE,L,M⟩
   case round =>
    clear M oE y L
    obtain ⟨k,r,c,hk,rfl,ae,HR,x,Q,f,D⟩:=hrel
    have af:wr.cell? ⟨w.heap.size,0,none⟩=some (.slice W zs.length o):=cell_of_row wr _ 0 _ _ _ f
    have aj:wr.cell? ⟨w.heap.size,1,none⟩=some (.pointer (some ⟨P,0,none⟩)):=cell_of_row wr _ 1 _ _ _ f
    by_cases av:(k:Int) < t
    ·have l:Below A.heap.size A wr:=hb.grown D aq (fun j T=>by cases T;exact hP)
     have HT:=Zde _ zs P c A wr R l hP x
     have I:=ZcD zs c
     obtain ⟨gg,K⟩:∃ g,Hid (gT zs c=g):=⟨_,rfl⟩
     obtain ⟨s,tn,tk⟩:=gg
     rw [K.out] at HT I
     simp only at HT I
     have HS:Hid (rdTs zs (k+1) N=if tk then some (r ++ [s],tn) else none):=by
      unfold Hid
      rw [Zdw,HR.out]
      unfold rt
      simp only [Option.bind_some]
      rw [K.out]
      cases tk <;> rfl
     clear K
     go_wp2_with fail
     refine HT.mono ?_
     rintro e O ⟨rfl,⟨q2,o2,ad⟩,g2⟩
     have F:=Zcb Q Z g2
     have S:=ZaC D g2 (fun j T=>Or.inl (by cases T;rfl))
     have u:=(g2.block _ (Zao f) (by simp;omega)).trans f
     clear HT g2 Q D f af aj x l
     cases tk with
     | false =>
      have U:Hid (rdTB zs b a=none):=by unfold Hid;rw [z.out];exact Zfm (n:=k+1) (by omega) HS.out
      clear z HS HR
      go_wp2
      go_ret2
      exact ⟨S,Or.inr ⟨U.out,rfl,q2,o2⟩⟩
     | true =>
      obtain rfl:=ad rfl
      have ah:s.size <= maxLen:=by unfold maxLen;omega
      have S1:=StRow.one9 O s ah
      have C:Below O.heap.size O (O.alloc (Obj.cells #[.string s] 9)):=(Below.refl _ _).alloc (Nat.le_refl _) _
      have P2:=Zac F C
      have o3:=o2.below C o2.lt
      have d:=Zae u C
      have J:=ZaC S (World.grownBy_alloc O (Obj.cells #[.string s] 9) none) (fun j T=>by cases T)
      have Y:w.heap.size <= (O.alloc (Obj.cells #[.string s] 9)).heap.size:=J.size
      have al:Hid (rdTs zs (k+1) N=some (r ++ [s],q2)):=HS.out
      clear F S u o2 ad HS C HR I
      go_wp2_with (at_builtin;refine ZaA _ rfl _ _ 62 rfl w.heap.size 9 i0 _ 1 16 Tryz.underlying62 hi ai ap ak rfl (by decide) _ r.length _ rfl P2 (some ⟨O.heap.size,0,none⟩) 1 1 (stv [s]) rfl (by simp [stv]) S1.nilcap S1.cells (ZiL [s]) (by unfold maxLen;omega) (by omega) Y ?_)
      intro v4 w4 O4 m
      have o4:One w4 P q2:=o3.kept m (by intro e;have:=(P2.lt P e.symm).1;omega)
      have G:=(m.block _ (Zao d) (fun e=>ZaG P2 d (by decide) e.symm)).trans d
      have am:=ZaC J m (fun j T=>Or.inr (P2.lt j T).1)
      have O5:w4.ownsRow w.heap.size 9 1 v4 (r ++ [s]).length (stv (r ++ [s])):=by rw [Zd2,List.length_append,ae];exact O4
      clear O4 m P2 o3 d J S1 Y
      go_wp2
      go_roundw
      case rel=>exact ⟨k+1,r ++ [s],q2,by omega,by go_num,by simp [ae],al,o4,O5,G,am⟩
      case measure=>simp [intOf];omega
    ·have ag:k=t.toNat:=by omega
     rw [ag] at HR
     go_wp2
     go_ret2
     exact ⟨D,Or.inl ⟨r,c,z.out.trans HR.out,u8,rfl,x,Q⟩⟩
abbrev opr2:List Oper:=⟨some 35,.load 44 (.tmp 3),44, "l08_wire.go:224", #[],none⟩ :: ⟨some 36,.load 61 (.tmp 6),61, "l08_wire.go:224", #[],none⟩ :: ⟨some 37,.call { callee:=.value (.func 157),args:=#[.tmp 35,.tmp 36],argTypes:=#[44,61] },4, "l08_wire.go:224", #[⟨0,.data⟩,⟨1,.data⟩],none⟩ :: ⟨some 38,.unOp .not 4 (.tmp 37),4, "l08_wire.go:224", #[⟨2,.data⟩],none⟩ :: ⟨some 39,.move (.tmp 38),4, "l08_wire.go:224", #[⟨3,.data⟩,⟨2,.chain⟩],none⟩ :: ⟨some 40,.load 40 (.tmp 8),40, "l08_wire.go:224", #[⟨4,.guard⟩],some (4,false)⟩ :: ⟨some 41,.load 61 (.tmp 6),61, "l08_wire.go:224", #[⟨4,.guard⟩],some (4,false)⟩ :: ⟨some 42,.call { callee:=.value (.func 211),args:=#[.tmp 41],argTypes:=#[61] },129, "l08_wire.go:224", #[⟨6,.data⟩,⟨4,.chain⟩,⟨4,.guard⟩],some (4,false)⟩ :: ⟨some 43,.call { callee:=.value (.func 208),args:=#[.tmp 40,.tmp 42],argTypes:=#[40,129] },4, "l08_wire.go:224", #[⟨5,.data⟩,⟨7,.data⟩,⟨7,.chain⟩,⟨4,.guard⟩],some (4,false)⟩ :: ⟨some 44,.unOp .not 4 (.tmp 43),4, "l08_wire.go:224", #[⟨8,.data⟩,⟨4,.guard⟩],some (4,false)⟩ :: ⟨some 45,.pick (.tmp 39) (.const (.bool true)) (.tmp 44),4, "l08_wire.go:224", #[⟨4,.data⟩,⟨9,.data⟩],none⟩ :: []
theorem Zku {t0 t1 t2 t4 t5 t7 t9 k H M R Z z G T A x v U ac l L n O aa X o N I J u ab ai ar am an ag af al ak aj ae ao P E C Y B F:Value}{fs:List Deferred}(f c V i g:Nat)(j:Option Addr)(D v2 y:Value)(m:Mc)(w:World)(Q:Exit -> Act -> World -> Prop)(hc:w.heap[f]? = some (.cells #[D,v2,y] 44 (0,0)))(hm:w.heap[c]? = some (.cells #[.slice j i g,.int .i64 m.p,.int .i64 m.s,.int .i64 m.e,.int .i64 m.d,.int .i64 m.t,.int .i64 m.q,.int .i64 m.r] 61 (0,0)))(hp:w.heap[V]? = some (.cells #[.slice j i g] 40 (0,0)))(HM:∀ W,Below w.heap.size w W -> Calls Tryz.prog 157 #[.agg #[D,v2,y],.agg #[.slice j i g,.int .i64 m.p,.int .i64 m.s,.int .i64 m.e,.int .i64 m.d,.int .i64 m.t,.int .i64 m.q,.int .i64 m.r]] W fun e a=>e=.returned (.bool false)/\Below W.heap.size W a)(hQ:∀ u35 u36 u37 u38 u39 u40 u41 u42 u43 u44 (wx:World),Below w.heap.size w wx -> Q .normal ⟨#[t0,t1,t2,.pointer (some ⟨f,0,none⟩),t4,t5,.pointer (some ⟨c,0,none⟩),t7,.pointer (some ⟨V,0,none⟩),t9,k,H,M,R,Z,z,G,T,A,x,v,U,ac,l,L,n,O,aa,X,o,N,I,J,u,ab,u35,u36,u37,u38,u39,u40,u41,u42,u43,u44,.bool true,P,E,C,Y,B,F],fs⟩ wx) :
  (Code.region 9 opr2.toArray true).wp Tryz.prog Q ⟨#[t0,t1,t2,.pointer (some ⟨f,0,none⟩),t4,t5,.pointer (some ⟨c,0,none⟩),t7,.pointer (some ⟨V,0,none⟩),t9,k,H,M,R,Z,z,G,T,A,x,v,U,ac,l,L,n,O,aa,X,o,N,I,J,u,ab,ai,ar,am,an,ag,af,al,ak,aj,ae,ao,P,E,C,Y,B,F],fs⟩ w:=by
 have hS:∀ a,Below w.heap.size w a -> ((a.cell? ⟨f,0,none⟩=some D/\a.cell? ⟨f,1,none⟩=some v2/\a.cell? ⟨f,2,none⟩=some y)/\(a.cell? ⟨c,0,none⟩=some (.slice j i g)/\a.cell? ⟨c,1,none⟩=some (.int .i64 m.p)/\a.cell? ⟨c,2,none⟩=some (.int .i64 m.s)/\a.cell? ⟨c,3,none⟩=some (.int .i64 m.e)/\a.cell? ⟨c,4,none⟩=some (.int .i64 m.d)/\a.cell? ⟨c,5,none⟩=some (.int .i64 m.t)/\a.cell? ⟨c,6,none⟩=some (.int .i64 m.q)/\a.cell? ⟨c,7,none⟩=some (.int .i64 m.r))/\a.cell? ⟨V,0,none⟩=some (.slice j i g)):=fun a hb=>by
  have g1:=(bb hc hb)
  have h:=(bb hm hb)
  have g3:=(bb hp hb)
  exact ⟨⟨cell_of_row a _ 0 _ _ _ g1,cell_of_row a _ 1 _ _ _ g1,cell_of_row a _ 2 _ _ _ g1⟩,⟨cell_of_row a _ 0 _ _ _ h,cell_of_row a _ 1 _ _ _ h,cell_of_row a _ 2 _ _ _ h,cell_of_row a _ 3 _ _ _ h,cell_of_row a _ 4 _ _ _ h,cell_of_row a _ 5 _ _ _ h,cell_of_row a _ 6 _ _ _ h,cell_of_row a _ 7 _ _ _ h⟩,cell_of_row a _ 0 _ _ _ g3⟩
 have b0:Below w.heap.size w w.drew:=(Below.refl _ _).drew
 have s0:=hS _ b0
 refine wp_region_noPanic ?_
 refine wp_region_held_drew (S:=fun a=>(a.cell? ⟨f,0,none⟩=some D/\a.cell? ⟨f,1,none⟩=some v2/\a.cell? ⟨f,2,none⟩=some y)/\(a.cell? ⟨c,0,none⟩=some (.slice j i g)/\a.cell? ⟨c,1,none⟩=some (.int .i64 m.p)/\a.cell? ⟨c,2,none⟩=some (.int .i64 m.s)/\a.cell? ⟨c,3,none⟩=some (.int .i64 m.e)/\a.cell? ⟨c,4,none⟩=some (.int .i64 m.d)/\a.cell? ⟨c,5,none⟩=some (.int .i64 m.t)/\a.cell? ⟨c,6,none⟩=some (.int .i64 m.q)/\a.cell? ⟨c,7,none⟩=some (.int .i64 m.r))/\a.cell? ⟨V,0,none⟩=some (.slice j i g)) (by kernel_rfl) s0 (fun aq=>?_)
 refine tk 0 (.agg #[D,v2,y]) nz (by kernel_rfl) (Or.inl ⟨by rfl,by intro w b;(try dsimp only at b);go_simp⟩) ‹_› ?_
 simp only [Act.put,sit,sc0,scs]
 refine tk 1 (.agg #[.slice j i g,.int .i64 m.p,.int .i64 m.s,.int .i64 m.e,.int .i64 m.d,.int .i64 m.t,.int .i64 m.q,.int .i64 m.r]) (n1 nz) (by kernel_rfl) (Or.inl ⟨by rfl,by intro w b;(try dsimp only at b);go_simp⟩) ‹_› ?_
 simp only [Act.put,sit,sc0,scs]
 refine wpAnyH_ready (rs:=[2]) (by kernel_rfl) (by simp) ?_
 refine AllReadyH.cons rfl (fun K hK=>?_) AllReadyH.nil
 go_simp
 go_wp2_with (go_at_call 157;with_reducible refine (HM _ b0).mono ?_;rintro e w1 ⟨rfl,ah⟩)
 have b1:Below w.heap.size w w1:=b0.trans (ah.mono b0.size)
 have s1:=hS _ b1
 refine hK.out _ _ s1 (fun ad=>?_)
 clear hK
 refine tk 3 (.bool true) (n2 (n1 nz)) (by kernel_rfl) (Or.inl ⟨by rfl,by intro w b;(try dsimp only at b);go_simp⟩) ‹_› ?_
 simp only [Act.put,sit,sc0,scs]
 refine tk 4 (.bool true) (n4 nz) (by kernel_rfl) (Or.inl ⟨by rfl,by intro w b;(try dsimp only at b);go_simp⟩) ‹_› ?_
 simp only [Act.put,sit,sc0,scs]
 refine tk 5 (undef) (n4 (n1 nz)) (by kernel_rfl) (Or.inr ⟨by rfl,rfl⟩) ‹_› ?_
 simp only [Act.put,sit,sc0,scs]
 refine tk 6 (undef) (n4 (n2 nz)) (by kernel_rfl) (Or.inr ⟨by rfl,rfl⟩) ‹_› ?_
 simp only [Act.put,sit,sc0,scs]
 refine tk 7 (undef) (n4 (n2 (n1 nz))) (by kernel_rfl) (Or.inr ⟨by rfl,rfl⟩) ‹_› ?_
 simp only [Act.put,sit,sc0,scs]
 refine tk 8 (undef) (n8 nz) (by kernel_rfl) (Or.inr ⟨by rfl,rfl⟩) ‹_› ?_
 simp only [Act.put,sit,sc0,scs]
 refine tk 9 (undef) (n8 (n1 nz)) (by kernel_rfl) (Or.inr ⟨by rfl,rfl⟩) ‹_› ?_
 simp only [Act.put,sit,sc0,scs]
 refine tk 10 (.bool true) (n8 (n2 nz)) (by kernel_rfl) (Or.inl ⟨by rfl,by intro w b;(try dsimp only at b);go_simp⟩) ‹_› ?_
 simp only [Act.put,sit,sc0,scs]
 refine wpAnyH_done (by kernel_rfl) ?_ _
 exact NoPanic.normal <| hQ _ _ _ _ _ _ _ _ _ _ _ b1
theorem ZkU {t0 t1 t2 t4 t5 t7 t9 l I N T aa A H U B y x V ad n M o P ab Y u O J L v ac am ay au av ak aj ar ao an ai aw R F D Z C G:Value}{fs:List Deferred}(i c X g f:Nat)(h:Option Addr)(E v2 z:Value)(m:Mc)(w:World)(Q:Exit -> Act -> World -> Prop)(hc:w.heap[i]? = some (.cells #[E,v2,z] 44 (0,0)))(hm:w.heap[c]? = some (.cells #[.slice h g f,.int .i64 m.p,.int .i64 m.s,.int .i64 m.e,.int .i64 m.d,.int .i64 m.t,.int .i64 m.q,.int .i64 m.r] 61 (0,0)))(hp:w.heap[X]? = some (.cells #[.slice h g f] 40 (0,0)))(HM:∀ W,Below w.heap.size w W -> Calls Tryz.prog 157 #[.agg #[E,v2,z],.agg #[.slice h g f,.int .i64 m.p,.int .i64 m.s,.int .i64 m.e,.int .i64 m.d,.int .i64 m.t,.int .i64 m.q,.int .i64 m.r]] W fun e a=>e=.returned (.bool true)/\Below W.heap.size W a)(kb:Bool)(HR:∀ W,Below w.heap.size w W -> Calls Tryz.prog 211 #[.agg #[.slice h g f,.int .i64 m.p,.int .i64 m.s,.int .i64 m.e,.int .i64 m.d,.int .i64 m.t,.int .i64 m.q,.int .i64 m.r]] W fun e a=>∃ v',e=.returned v'/\IRow a v' (tdR m)/\Below W.heap.size W a)(HK:∀ W vl,Below w.heap.size w W -> IRow W vl (tdR m) -> Calls Tryz.prog 208 #[.agg #[.slice h g f],vl] W fun e a=>e=.returned (.bool kb)/\Below W.heap.size W a)(hQ:∀ u35 u36 u37 u38 u39 u40 u41 u42 u43 u44 (wx:World),Below w.heap.size w wx -> Q .normal ⟨#[t0,t1,t2,.pointer (some ⟨i,0,none⟩),t4,t5,.pointer (some ⟨c,0,none⟩),t7,.pointer (some ⟨X,0,none⟩),t9,l,I,N,T,aa,A,H,U,B,y,x,V,ad,n,M,o,P,ab,Y,u,O,J,L,v,ac,u35,u36,u37,u38,u39,u40,u41,u42,u43,u44,.bool (!kb),R,F,D,Z,C,G],fs⟩ wx) :
  (Code.region 9 opr2.toArray true).wp Tryz.prog Q ⟨#[t0,t1,t2,.pointer (some ⟨i,0,none⟩),t4,t5,.pointer (some ⟨c,0,none⟩),t7,.pointer (some ⟨X,0,none⟩),t9,l,I,N,T,aa,A,H,U,B,y,x,V,ad,n,M,o,P,ab,Y,u,O,J,L,v,ac,am,ay,au,av,ak,aj,ar,ao,an,ai,aw,R,F,D,Z,C,G],fs⟩ w:=by
 have hS:∀ a,Below w.heap.size w a -> ((a.cell? ⟨i,0,none⟩=some E/\a.cell? ⟨i,1,none⟩=some v2/\a.cell? ⟨i,2,none⟩=some z)/\(a.cell? ⟨c,0,none⟩=some (.slice h g f)/\a.cell? ⟨c,1,none⟩=some (.int .i64 m.p)/\a.cell? ⟨c,2,none⟩=some (.int .i64 m.s)/\a.cell? ⟨c,3,none⟩=some (.int .i64 m.e)/\a.cell? ⟨c,4,none⟩=some (.int .i64 m.d)/\a.cell? ⟨c,5,none⟩=some (.int .i64 m.t)/\a.cell? ⟨c,6,none⟩=some (.int .i64 m.q)/\a.cell? ⟨c,7,none⟩=some (.int .i64 m.r))/\a.cell? ⟨X,0,none⟩=some (.slice h g f)):=fun a hb=>by
  have g1:=(bb hc hb)
  have k:=(bb hm hb)
  have g3:=(bb hp hb)
  exact ⟨⟨cell_of_row a _ 0 _ _ _ g1,cell_of_row a _ 1 _ _ _ g1,cell_of_row a _ 2 _ _ _ g1⟩,⟨cell_of_row a _ 0 _ _ _ k,cell_of_row a _ 1 _ _ _ k,cell_of_row a _ 2 _ _ _ k,cell_of_row a _ 3 _ _ _ k,cell_of_row a _ 4 _ _ _ k,cell_of_row a _ 5 _ _ _ k,cell_of_row a _ 6 _ _ _ k,cell_of_row a _ 7 _ _ _ k⟩,cell_of_row a _ 0 _ _ _ g3⟩
 have b0:Below w.heap.size w w.drew:=(Below.refl _ _).drew
 have s0:=hS _ b0
 refine wp_region_noPanic ?_
 refine wp_region_held_drew (S:=fun a=>(a.cell? ⟨i,0,none⟩=some E/\a.cell? ⟨i,1,none⟩=some v2/\a.cell? ⟨i,2,none⟩=some z)/\(a.cell? ⟨c,0,none⟩=some (.slice h g f)/\a.cell? ⟨c,1,none⟩=some (.int .i64 m.p)/\a.cell? ⟨c,2,none⟩=some (.int .i64 m.s)/\a.cell? ⟨c,3,none⟩=some (.int .i64 m.e)/\a.cell? ⟨c,4,none⟩=some (.int .i64 m.d)/\a.cell? ⟨c,5,none⟩=some (.int .i64 m.t)/\a.cell? ⟨c,6,none⟩=some (.int .i64 m.q)/\a.cell? ⟨c,7,none⟩=some (.int .i64 m.r))/\a.cell? ⟨X,0,none⟩=some (.slice h g f)) (by kernel_rfl) s0 (fun ax=>?_)
 refine tk 0 (.agg #[E,v2,z]) nz (by kernel_rfl) (Or.inl ⟨by rfl,by intro w b;(try dsimp only at b);go_simp⟩) ‹_› ?_
 simp only [Act.put,sit,sc0,scs]
 refine tk 1 (.agg #[.slice h g f,.int .i64 m.p,.int .i64 m.s,.int .i64 m.e,.int .i64 m.d,.int .i64 m.t,.int .i64 m.q,.int .i64 m.r]) (n1 nz) (by kernel_rfl) (Or.inl ⟨by rfl,by intro w b;(try dsimp only at b);go_simp⟩) ‹_› ?_
 simp only [Act.put,sit,sc0,scs]
 refine wpAnyH_ready (rs:=[2]) (by kernel_rfl) (by simp) ?_
 refine AllReadyH.cons rfl (fun K j=>?_) AllReadyH.nil
 go_simp
 go_wp2_with (go_at_call 157;with_reducible refine (HM _ b0).mono ?_;rintro e w1 ⟨rfl,al⟩)
 have b1:Below w.heap.size w w1:=b0.trans (al.mono b0.size)
 have s1:=hS _ b1
 refine j.out _ _ s1 (fun ae=>?_)
 clear j
 refine tk 3 (.bool false) (n2 (n1 nz)) (by kernel_rfl) (Or.inl ⟨by rfl,by intro w b;(try dsimp only at b);go_simp⟩) ‹_› ?_
 simp only [Act.put,sit,sc0,scs]
 refine tk 4 (.bool false) (n4 nz) (by kernel_rfl) (Or.inl ⟨by rfl,by intro w b;(try dsimp only at b);go_simp⟩) ‹_› ?_
 simp only [Act.put,sit,sc0,scs]
 refine tk 5 (.agg #[.slice h g f]) (n4 (n1 nz)) (by kernel_rfl) (Or.inl ⟨by rfl,by intro w b;(try dsimp only at b);go_simp⟩) ‹_› ?_
 simp only [Act.put,sit,sc0,scs]
 refine tk 6 (.agg #[.slice h g f,.int .i64 m.p,.int .i64 m.s,.int .i64 m.e,.int .i64 m.d,.int .i64 m.t,.int .i64 m.q,.int .i64 m.r]) (n4 (n2 nz)) (by kernel_rfl) (Or.inl ⟨by rfl,by intro w b;(try dsimp only at b);go_simp⟩) ‹_› ?_
 simp only [Act.put,sit,sc0,scs]
 refine wpAnyH_ready (rs:=[7]) (by kernel_rfl) (by simp) ?_
 refine AllReadyH.cons rfl (fun K j=>?_) AllReadyH.nil
 go_simp
 go_wp2_with (go_at_call 211;with_reducible refine (HR _ b1).mono ?_;rintro e w2 ⟨vl,rfl,RL,ah⟩)
 have b2:Below w.heap.size w w2:=b1.trans (ah.mono b1.size)
 have s2:=hS _ b2
 refine j.out _ _ s2 (fun ag=>?_)
 clear j
 refine wpAnyH_ready (rs:=[8]) (by kernel_rfl) (by simp) ?_
 refine AllReadyH.cons rfl (fun K j=>?_) AllReadyH.nil
 go_simp
 go_wp2_with (go_at_call 208;with_reducible refine (HK _ vl b2 RL).mono ?_;rintro e w3 ⟨rfl,aq⟩)
 have b3:Below w.heap.size w w3:=b2.trans (aq.mono b2.size)
 have s3:=hS _ b3
 refine j.out _ _ s3 (fun af=>?_)
 clear j
 refine tk 9 (.bool (!kb)) (n8 (n1 nz)) (by kernel_rfl) (Or.inl ⟨by rfl,by intro w b;(try dsimp only at b);go_simp⟩) ‹_› ?_
 simp only [Act.put,sit,sc0,scs]
 refine tk 10 (.bool (!kb)) (n8 (n2 nz)) (by kernel_rfl) (Or.inl ⟨by rfl,by intro w b;(try dsimp only at b);go_simp⟩) ‹_› ?_
 simp only [Act.put,sit,sc0,scs]
 refine wpAnyH_done (by kernel_rfl) ?_ _
 exact NoPanic.normal <| hQ _ _ _ _ _ _ _ _ _ _ _ b3
theorem Zk0 {t0 t1 t3 t5 t7 t8 t9 o L U ab ah D J ad E A z af al u O v X aj ag x V M N y ak P ai aa ac H F Y T R B ae Z I G av ao ar:Value}{fs:List Deferred}(g h b k j:Nat)(l:Option Addr)(vb n:Value)(m:Mc)(f:Array Value)(Pr:Value -> Prop)(w:World)(Q:Exit -> Act -> World -> Prop)(hr:w.heap[g]? = some (.cells #[vb,n] 235 (0,0)))(hm:w.heap[b]? = some (.cells #[.slice l k j,.int .i64 m.p,.int .i64 m.s,.int .i64 m.e,.int .i64 m.d,.int .i64 m.t,.int .i64 m.q,.int .i64 m.r] 61 (0,0)))(ho:w.heap[h]? = some (.cells f 61 (0,0)))(h8:f.size=8)(nAq:g ≠ h)(nBq:b ≠ h)(HE:∀ W,Below w.heap.size w W -> Calls Tryz.prog 163 #[.agg #[vb,n]] W fun e a=>∃ r,e=.returned r/\Pr r/\Below W.heap.size W a)(hQ:∀ u49 u50 u51 r (W:World),Pr r -> Below w.heap.size w W -> W.heap[h]? = some (.cells f 61 (0,0)) -> Q .normal ⟨#[t0,t1,.pointer (some ⟨g,0,none⟩),t3,.pointer (some ⟨h,0,none⟩),r,.pointer (some ⟨b,0,none⟩),t7,t8,t9,o,L,U,ab,ah,D,J,ad,E,A,z,af,al,u,O,v,X,aj,ag,x,V,M,N,y,ak,P,ai,aa,ac,H,F,Y,T,R,B,ae,Z,I,G,u49,u50,u51],fs⟩ (W.setRow h #[.slice l k j,.int .i64 m.p,.int .i64 m.s,.int .i64 m.e,.int .i64 m.d,.int .i64 m.t,.int .i64 m.q,.int .i64 m.r])) :
  (Code.region 11 (List.toArray (⟨some 49,.load 61 (.tmp 6),61, "l08_wire.go:227", #[],none⟩ :: ⟨some 50,.load 235 (.tmp 2),235, "l08_wire.go:227", #[],none⟩ :: ⟨some 51,.call { callee:=.value (.func 163),args:=#[.tmp 50],argTypes:=#[235] },240, "l08_wire.go:227", #[⟨1,.data⟩],none⟩ :: ⟨none,.store 61 (.tmp 4) (.tmp 49),0, "l08_wire.go:227", #[⟨0,.data⟩,⟨2,.chain⟩,⟨0,.phase⟩,{ on:=1,ground:=Ground.textOnly Departure.lateStores },{ on:=2,ground:=Ground.textOnly Departure.lateStoresUnsure }],none⟩ :: ⟨some 5,.assign (.tmp 51),240, "l08_wire.go:227", #[⟨2,.data⟩,⟨3,.chain⟩,⟨0,.phase⟩,⟨1,.phase⟩,⟨2,.phase⟩,⟨3,.phase⟩],none⟩ :: [])) true).wp Tryz.prog Q ⟨#[t0,t1,.pointer (some ⟨g,0,none⟩),t3,.pointer (some ⟨h,0,none⟩),t5,.pointer (some ⟨b,0,none⟩),t7,t8,t9,o,L,U,ab,ah,D,J,ad,E,A,z,af,al,u,O,v,X,aj,ag,x,V,M,N,y,ak,P,ai,aa,ac,H,F,Y,T,R,B,ae,Z,I,G,av,ao,ar],fs⟩ w:=by
 have hS:∀ a:World,a.heap[g]? = some (.cells #[vb,n] 235 (0,0)) -> a.heap[b]? = some (.cells #[.slice l k j,.int .i64 m.p,.int .i64 m.s,.int .i64 m.e,.int .i64 m.d,.int .i64 m.t,.int .i64 m.q,.int .i64 m.r] 61 (0,0)) -> (a.cell? ⟨g,0,none⟩=some vb/\a.cell? ⟨g,1,none⟩=some n/\(a.cell? ⟨b,0,none⟩=some (.slice l k j)/\a.cell? ⟨b,1,none⟩=some (.int .i64 m.p)/\a.cell? ⟨b,2,none⟩=some (.int .i64 m.s)/\a.cell? ⟨b,3,none⟩=some (.int .i64 m.e)/\a.cell? ⟨b,4,none⟩=some (.int .i64 m.d)/\a.cell? ⟨b,5,none⟩=some (.int .i64 m.t)/\a.cell? ⟨b,6,none⟩=some (.int .i64 m.q)/\a.cell? ⟨b,7,none⟩=some (.int .i64 m.r))):=fun a g1 i =>
  ⟨cell_of_row a _ 0 _ _ _ g1,cell_of_row a _ 1 _ _ _ g1,⟨cell_of_row a _ 0 _ _ _ i,cell_of_row a _ 1 _ _ _ i,cell_of_row a _ 2 _ _ _ i,cell_of_row a _ 3 _ _ _ i,cell_of_row a _ 4 _ _ _ i,cell_of_row a _ 5 _ _ _ i,cell_of_row a _ 6 _ _ _ i,cell_of_row a _ 7 _ _ _ i⟩⟩
 have b0:Below w.heap.size w w.drew:=(Below.refl _ _).drew
 have lr:=(bl hr)
 have lm:=(bl hm)
 have aq:=(bl ho)
 have s0:=hS w.drew hr hm
 refine wp_region_noPanic ?_
 refine wp_region_held_drew (S:=fun a=>a.cell? ⟨g,0,none⟩=some vb/\a.cell? ⟨g,1,none⟩=some n/\(a.cell? ⟨b,0,none⟩=some (.slice l k j)/\a.cell? ⟨b,1,none⟩=some (.int .i64 m.p)/\a.cell? ⟨b,2,none⟩=some (.int .i64 m.s)/\a.cell? ⟨b,3,none⟩=some (.int .i64 m.e)/\a.cell? ⟨b,4,none⟩=some (.int .i64 m.d)/\a.cell? ⟨b,5,none⟩=some (.int .i64 m.t)/\a.cell? ⟨b,6,none⟩=some (.int .i64 m.q)/\a.cell? ⟨b,7,none⟩=some (.int .i64 m.r))) (by kernel_rfl) s0 (fun aw=>?_)
 refine tk 0 (.agg #[.slice l k j,.int .i64 m.p,.int .i64 m.s,.int .i64 m.e,.int .i64 m.d,.int .i64 m.t,.int .i64 m.q,.int .i64 m.r]) nz (by kernel_rfl) (Or.inl ⟨by rfl,by intro w c;(try dsimp only at c);go_simp⟩) ‹_› ?_
 simp only [Act.put,sit,sc0,scs]
 refine tk 1 (.agg #[vb,n]) (n1 nz) (by kernel_rfl) (Or.inl ⟨by rfl,by intro w c;(try dsimp only at c);go_simp⟩) ‹_› ?_
 simp only [Act.put,sit,sc0,scs]
 refine wpAnyH_ready (rs:=[2]) (by kernel_rfl) (by simp) ?_
 refine AllReadyH.cons rfl (fun K C=>?_) AllReadyH.nil
 go_simp
 go_wp2_with (go_at_call 163;with_reducible refine (HE _ b0).mono ?_;rintro e w1 ⟨r,rfl,ax,au⟩)
 have b1:Below w.heap.size w w1:=b0.trans (au.mono b0.size)
 have r1:=(b1.block _ lr).trans hr
 have m1:=(b1.block _ lm).trans hm
 have o1:=(b1.block _ aq).trans ho
 refine C.out _ _ (hS w1 r1 m1) (fun am=>?_)
 clear C
 refine wpAnyH_ready (rs:=[3]) (by kernel_rfl) (by simp) ?_
 refine AllReadyH.cons rfl (fun K C=>?_) AllReadyH.nil
 rw [if_pos (by rfl)]
 refine wp_store_row 61 _ _ rfl h #[.slice l k j,.int .i64 m.p,.int .i64 m.s,.int .i64 m.e,.int .i64 m.d,.int .i64 m.t,.int .i64 m.q,.int .i64 m.r] rfl rfl 61 f o1 ZmU h8 (by simp [Value.oneCell']) ?_
 refine C.out _ _ (hS _ ((setRow_other _ _ _ _ nAq).trans r1) ((setRow_other _ _ _ _ nBq).trans m1)) (fun an=>?_)
 clear C
 simp only [Act.put]
 refine tk 4 (r) (n4 nz) (by kernel_rfl) (Or.inl ⟨by rfl,by intro w c;(try dsimp only at c);go_simp⟩) ‹_› ?_
 simp only [Act.put]
 refine wpAnyH_done (by kernel_rfl) ?_ _
 exact NoPanic.normal <| hQ _ _ _ _ w1 ax b1 o1
end Go.Proofs.YtfeodlbpnghakaaGreatDoor
