/-
  Texts that stood by themselves, laid into one.
-/
import Derived.Test.YtanhoamdlhaaeaaGreatDoorShapeM
import Derived.Deep.RegionWith
import Derived.Deep.MidRow
import Derived.Deep.AppendLies
import Derived.Deep.RegionLawGrows
import Derived.OneCell
/-
  Contracts of the laws' own helpers toNode, toNodeS, toPool, szNode, szNodeS, szPool, eqNode, eqNodeS, eqPool.
-/
set_option maxHeartbeats 1600000
namespace Go.Proofs.YtanhoamdlhaaeaaGreatDoor
open Go.Proofs.Tryz
open Go.RowKit
theorem ZhK (x:Nd)(w:World) :
  Calls prog 124 #[.agg #[.int .i64 x.k,.int .i64 x.n,.string x.s,.int .i64 x.a,.int .i64 x.b]] w fun e c=>e=.returned (.agg #[.int .i64 x.k,.int .i64 x.n,.string x.s,.int .i64 x.a,.int .i64 x.b])/\Below w.heap.size w c:=by
 go_enter func124,ntmps124
 go_wp2
 exact ck (results_cell_row rfl _ _ (w.heap.size+1) 176 _ (0,0) _ rfl ((cn _ _ (by simp)).trans (cw _ _ _)) underlying176 rfl Zme) rfl
  ⟨rfl,(((cf _ _).alloc (ce _) _).alloc (by simp) _).alloc (by simp;omega) _⟩
def less (l n:Int):Int:=if l < n then -1 else l - n
theorem ZdM (x:Nd)(l:Int)(w:World)(f:x.s.size <= maxLen)(i:0 <= l)(d:l <= 1048576) :
  Calls prog 116 #[.agg #[.int .i64 x.k,.int .i64 x.n,.string x.s,.int .i64 x.a,.int .i64 x.b],.int .i64 l] w fun e g=>e=.returned (.int .i64 (less l x.s.size))/\Below w.heap.size w g:=by
 unfold maxLen at f
 go_enter func116,ntmps116
 by_cases h:l < x.s.size
 ·have c:Hid (less l x.s.size = -1):=by unfold Hid less;rw [if_pos h]
  go_wp2;go_ret;exact ⟨by rw [c.out];rfl,(cf _ _).alloc (ce _) _⟩
 ·have c:Hid (less l x.s.size=l - x.s.size):=by unfold Hid less;rw [if_neg h]
  go_wp2;go_ret;exact ⟨by rw [c.out];rfl,(cf _ _).alloc (ce _) _⟩
theorem ZgQ (x:Nd)(w:World) :
  Calls prog 136 #[.agg #[.int .i64 x.k,.int .i64 x.n,.string x.s,.int .i64 x.a,.int .i64 x.b],.agg #[.int .i64 x.k,.int .i64 x.n,.string x.s,.int .i64 x.a,.int .i64 x.b]] w fun e c=>e=.returned (.bool true)/\Below w.heap.size w c:=by
 go_enter func136,ntmps136
 go_wp2;go_ret;exact ⟨rfl,((cf _ _).alloc (ce _) _).alloc (by simp) _⟩
def Zj9:Nd:=⟨0,0,ByteArray.empty,0,0⟩
def ZaZ (xs:List Nd)(j:Nat):List Nd:=xs.take j ++ List.replicate (xs.length - j) Zj9
theorem Zdq (a:List Nd)(j:Nat)(h:j <= a.length):(ZaZ a j).length=a.length:=by simp [ZaZ];omega
theorem Ze2 (a:List Nd):ZaZ a a.length=a:=by simp [ZaZ]
theorem Zil (n:Nat):ncs (List.replicate n Zj9)=(madeCells #[Value.int .i64 0,.int .i64 0,.string ByteArray.empty,.int .i64 0,.int .i64 0] (n * 5)).toList:=by
 apply List.ext_getElem?;intro j
 by_cases b:j < n * 5
 ·have c:j / 5 < n:=by omega
  rw [show j=j / 5 * 5+j % 5 by omega,Zik _ (j / 5) Zj9 (by simp [c]) (j % 5) (by omega)];rw [show j / 5 * 5+j % 5=j by omega];have a:j % 5=0 \/ j % 5=1 \/ j % 5=2 \/ j % 5=3 \/ j % 5=4:=by omega
  rcases a with a | a | a | a | a <;> simp [madeCells,b,a,Zj9,Nd.cs]
 ·rw [List.getElem?_eq_none (by rw [ZdF,List.length_replicate];omega),List.getElem?_eq_none (by simp [madeCells];omega)]
theorem Ze3 (a:List Nd):ncs (ZaZ a 0)=(madeCells #[Value.int .i64 0,.int .i64 0,.string ByteArray.empty,.int .i64 0,.int .i64 0] (a.length * 5)).toList:=by
 rw [<- Zil];simp [ZaZ]
theorem ZfY (a:List Nd)(j:Nat)(h:j < a.length):(ZaZ a j).set j a[j]=ZaZ a (j+1):=by
 unfold ZaZ;rw [show a.length - j=a.length - (j+1)+1 by omega,List.replicate_succ,List.take_succ_eq_append_getElem h];rw [List.set_append_right _ _ (by simp;omega)];have e:j - (List.take j a).length=0:=by simp;omega
 rw [e,List.set_cons_zero,List.append_assoc];rfl
theorem Zge (v:Value)(b:List Nd)(w:World)(R:NRow w v b)(S:b.length <= 2097152) :
  Calls prog 97 #[v] w fun e E=>∃ D,e=.returned D/\E.ownsRow w.heap.size 176 5 D b.length (ncs b)/\Below w.heap.size w E:=by
 obtain ⟨Q,K,rfl,B,_,T,d⟩:=R;obtain ⟨C,hi,y,z,A⟩:=info_parts Zma;have f:C.bytes * b.length <= 281474976710656:=by rw [A];omega
 have p:b.length <= maxLen:=by unfold maxLen;omega
 go_enter func97,ntmps97
 go_wp2_with (at_make;refine wpList_make_full _ rfl _ _ 39 rfl w.heap.size 176 C _ 5 underlying39 hi y z _ _ _ _ b.length rfl rfl rfl rfl f p (ce _) ?_)
 intro N c l;have a:Below w.heap.size w N:=(cf _ _).grown l (ce _) (by intro k x;cases x);clear l;go_wp2
 go_loopw [4] (fun i wr=>∃ j:Nat,j <= b.length/\i=.int .i64 j/\wr.ownsRow w.heap.size 176 5 (.slice (some ⟨w.heap.size,0,none⟩) b.length b.length) b.length (ncs (ZaZ b j))/\Below w.heap.size w wr) (fun i _=>b.length - (intOf i).toNat)
 case atStart=>exact ⟨0,by omega,rfl,by rw [Ze3];exact c,a⟩
 case round =>
  clear c a f p;obtain ⟨j,M,rfl,c,a⟩:=hrel
  by_cases r:j < b.length
  ·obtain ⟨g,o,rfl,L,d⟩:=d (by intro e;subst e;simp at r)
   obtain ⟨c0,G,H,I,J⟩:=(d j b[j] (by simp [r])).below a L;have F:=Zdq b j M;clear d;go_wp2_with fail;refine (ZhK b[j] _).mono ?_;rintro e O ⟨rfl,q⟩
   have m:O.ownsRow w.heap.size 176 5 (.slice (some ⟨w.heap.size,0,none⟩) (ZaZ b j).length b.length) (ZaZ b j).length (ncs (ZaZ b j)):=by
    rw [F];exact Zac c q
   have s:=a.trans (q.mono a.size);clear c0 G H I J c q a
   go_wp2_with (refine ZcA rfl _ _ rfl w.heap.size w.heap.size j b.length (ZaZ b j) b[j] rfl rfl (by omega) m ?_)
   intro P n t;rw [ZfY b j r] at n;have u:Below w.heap.size w P:=s.grown t s.size (fun k x=>by simp at x;omega);clear m t;go_wp2
   go_roundw
   case rel=>exact ⟨j+1,by omega,by go_num,n,u⟩
   case measure=>simp [intOf];omega
  ·go_wp2
   go_ret;have:j=b.length:=by omega
   subst this;rw [Ze2] at c;exact ⟨_,rfl,c,a⟩
theorem Zbm (w:World)(A B C:Obj):(((w.alloc A).alloc B).alloc C).heap[w.heap.size+1+1]? = some C:=by
 have h:=cg ((w.alloc A).alloc B) C
 simpa using h
theorem ZdO (v:Value)(f:List Nd)(w:World)(R:NRow w v f)(u:f.length <= 2097152) :
  Calls prog 56 #[.agg #[v]] w fun e r=>∃ q,e=.returned (.agg #[q])/\r.ownsRow w.heap.size 176 5 q f.length (ncs f)/\Below w.heap.size w r:=by
 have s:=R;obtain ⟨t,m,rfl,_⟩:=s
 go_enter func56,ntmps56
 go_wp2_with fail
 have d:Below w.heap.size w (((w.alloc (Obj.cells #[.slice t f.length m] 24)).alloc (Obj.cells #[.slice none 0 0] 41)).alloc (Obj.cells #[.slice none 0 0] 41)) :=
  (((cf _ _).alloc (ce _) _).alloc (by simp) _).alloc (by simp;omega) _
 refine (Zge _ f _ (R.below d) u).mono ?_;rintro e b ⟨q,rfl,i,k⟩;obtain ⟨j,c,rfl⟩:=Zad i;have g:b.heap[w.heap.size+1+1]? = some (.cells #[.slice none 0 0] 41 (0,0)):=(k.block _ (by simp)).trans (Zbm _ _ _ _);have a:b.heap[w.heap.size+1]? = some (.cells #[.slice none 0 0] 41 (0,0)):=(k.block _ (by simp)).trans ((cn _ _ (by simp)).trans (cw _ _ _));have y:b.cell? ⟨w.heap.size+1+1,0,none⟩=some (.slice none 0 0):=by rw [cd b _ 0 _ _ _ g];rfl
 have x:b.cell? ⟨w.heap.size+1,0,none⟩=some (.slice none 0 0):=by rw [cd b _ 0 _ _ _ a];rfl
 have A:b.frozen? ⟨w.heap.size+1+1,0,none⟩=false:=cj b _ 0 _ _ g;have z:b.frozen? ⟨w.heap.size+1,0,none⟩=false:=cj b _ 0 _ _ a;have n:=d.trans (k.mono d.size);have l:b.ownsRow (w.heap.size+3) 176 5 (.slice j f.length c) f.length (ncs f):=by simpa using i
 go_wp2;have o:=ci (b.setCell ⟨w.heap.size+1+1,0,none⟩ (.slice j f.length c)) (w.heap.size+1) 0 _ _ (.slice j f.length c) ((ch b ⟨w.heap.size+1+1,0,none⟩ (w.heap.size+1) _ (by simp)).trans a);refine ck (results_cell_row rfl _ _ (w.heap.size+1) 41 _ (0,0) _ rfl o underlying41 rfl (by kernel_rfl)) rfl ⟨_,rfl,?_,?_⟩
 ·exact Zae (cx (cx l (by simp) _) (by simp) _) (by omega)
 ·exact (n.setCell (p:=⟨w.heap.size+1+1,0,none⟩) (by simp;omega) _).setCell (p:=⟨w.heap.size+1,0,none⟩) (by simp) _
theorem Zga (v:Value)(b:List Nd)(w:World)(R:NRow w v b) :
  Calls prog 85 #[v,.int .i64 1048576] w fun e M=>∃ r:Int,e=.returned (.int .i64 r) /\ -1 <= r/\r <= 1048576/\(0 <= r -> b.length <= 1048576/\∀ x ∈ b,x.s.size <= 1048576)/\Below w.heap.size w M:=by
 obtain ⟨N,J,rfl,B,P,L,a⟩:=R
 by_cases m:b.length <= 1048576
 ·go_enter func85,ntmps85
  go_wp2
  go_loopw [1,5] (fun l i wr=>∃ (k:Nat) (r:Int),k <= b.length/\i=.int .i64 k/\l=.int .i64 r/\0 <= r/\r <= 1048576/\Hid (∀ j x,b[j]? = some x -> j < k -> x.s.size <= 1048576)/\Below w.heap.size w wr) (fun _ i _=>b.length - (intOf i).toNat)
  case atStart=>exact ⟨0,_,by omega,rfl,rfl,by omega,by omega,fun j x _ h=>by omega,cf _ _⟩
  case round =>
   obtain ⟨k,r,O,rfl,rfl,q,t,A,p⟩:=hrel
   by_cases n:k < b.length
   ·obtain ⟨g,o,rfl,K,a⟩:=a (by intro e;subst e;simp at n)
    obtain ⟨x,c⟩:∃ x,b[k]? = some x:=⟨b[k],by simp [n]⟩;obtain ⟨c0,F,G,H,I⟩:=(a k x c).below p K;have u:=L x (List.mem_of_getElem? c);have E:Hid (b[k]? = some x):=c;clear a c;go_wp2_with fail;refine (ZdM x _ _ u q t).mono ?_;rintro e Q ⟨rfl,f⟩;have d:=p.trans (f.mono p.size);clear c0 F G H I f
    by_cases D:r < x.s.size
    ·rw [less,if_pos D]
     go_wp2;go_ret;exact ⟨-1,rfl,by omega,by omega,fun h=>by omega,d⟩
    ·rw [less,if_neg D]
     go_wp2
     go_roundw
     case rel =>
      refine ⟨k+1,_,by omega,by go_num,rfl,by omega,by omega,fun j y z C=>?_,d⟩
      by_cases e:j=k
      ·subst e
       rw [E.out] at z;cases z;omega
      ·exact A.out j y z (by omega)
     case measure=>simp [intOf];omega
   ·go_wp2
    go_ret;refine ⟨r,rfl,by omega,by omega,fun _=>⟨m,fun x c=>?_⟩,p⟩;obtain ⟨j,C,e⟩:=List.getElem_of_mem c;exact A.out j x (by rw [<- e];simp [C]) (by omega)
 ·go_enter func85,ntmps85
  go_wp2;go_ret;exact ⟨-1,rfl,by omega,by omega,fun h=>by omega,cf _ _⟩
theorem ZfF (o vb:Value)(c:List Nd)(w:World)(p:NRow w o c)(q:NRow w vb c) :
  Calls prog 110 #[o,vb] w fun e E=>e=.returned (.bool true)/\Below w.heap.size w E:=by
 obtain ⟨G,I,rfl,C,N,P,a⟩:=p;obtain ⟨H,J,rfl,D,_,_,b⟩:=q;have O:((c.length:Int) != (c.length:Int))=false:=by simp
 go_enter func110,ntmps110
 go_wp2
 go_loopw [5] (fun i wr=>∃ k:Nat,k <= c.length/\i=.int .i64 k/\Below w.heap.size w wr) (fun i _=>c.length - (intOf i).toNat)
 case atStart=>exact ⟨0,by omega,rfl,cf _ _⟩
 case round =>
  obtain ⟨k,M,rfl,f⟩:=hrel
  by_cases d:k < c.length
  ·obtain ⟨K,Q,rfl,l,a⟩:=a (by intro e;subst e;simp at d)
   obtain ⟨L,R,rfl,m,b⟩:=b (by intro e;subst e;simp at d);obtain ⟨x,n⟩:∃ x,c[k]? = some x:=⟨c[k],by simp [d]⟩;obtain ⟨c0,r,s,t,u⟩:=(a k x n).below f l;obtain ⟨v,y,z,A,B⟩:=(b k x n).below f m;clear a b n;go_wp2_with fail
   go_region_with (go_at_call 136;refine (ZgQ x _).mono ?_;rintro e F ⟨rfl,g⟩)
   all_goals
    have j:Below w.heap.size w F:=f.drew.trans (g.mono f.size);clear c0 r s t u v y z A B g;go_wp2
    go_roundw
    case rel=>exact ⟨k+1,by omega,by go_num,j⟩
    case measure=>simp [intOf];omega
  ·go_wp2
   go_ret;exact ⟨rfl,f⟩
theorem Zdw (k vb:Value)(c:List Nd)(w:World)(i:NRow w k c)(j:NRow w vb c) :
  Calls prog 73 #[.agg #[k],.agg #[vb]] w fun e p=>e=.returned (.bool true)/\Below w.heap.size w p:=by
 have d:=i;have f:=j;obtain ⟨l,n,rfl,_⟩:=d;obtain ⟨m,o,rfl,_⟩:=f
 go_enter func73,ntmps73
 go_wp2_with fail
 have a:Below w.heap.size w ((w.alloc (Obj.cells #[.slice l c.length n] 41)).alloc (Obj.cells #[.slice m c.length o] 41)) :=
  ((cf _ _).alloc (ce _) _).alloc (by simp) _
 refine (ZfF _ _ c _ (i.below a) (j.below a)).mono ?_;rintro e q ⟨rfl,b⟩;have g:=a.trans (b.mono a.size);clear a b;go_wp2;go_ret;exact ⟨rfl,g⟩
theorem ZhD (v:Value)(d:List Nd)(w:World)(R:NRow w v d) :
  Calls prog 43 #[.agg #[v],.int .i64 1048576] w fun e m=>∃ r:Int,e=.returned (.int .i64 r) /\ -1 <= r/\r <= 1048576/\(0 <= r -> d.length <= 1048576/\∀ x ∈ d,x.s.size <= 1048576)/\Below w.heap.size w m:=by
 have g:=R;obtain ⟨i,f,rfl,_⟩:=g
 go_enter func43,ntmps43
 go_wp2_with fail;have a:Below w.heap.size w (w.alloc (Obj.cells #[.slice i d.length f] 24)):=(cf _ _).alloc (ce _) _;refine (Zga _ d _ (R.below a)).mono ?_;rintro e p ⟨r,rfl,j,k,l,c⟩;have b:=a.trans (c.mono a.size);clear a c
 by_cases o:r < 0
 ·have n:Hid (r = -1):=by unfold Hid;omega
  go_wp2;go_ret;exact ⟨-1,rfl,by omega,by omega,fun h=>by omega,b⟩
 ·go_wp2
  go_ret;exact ⟨r,rfl,j,k,l,b⟩
theorem Zab {w a:World}{g o B:Nat}{cs:List Value}(h:w.rangeAt g o cs)(b:Below B w a)(c:g < B):a.rangeAt g o cs :=
 fun j v d=>(b.cell (p:=⟨g,o+j,none⟩) c).trans (h j v d)
def Kp (B:Nat)(w w':World):Prop:=w.heap.size <= w'.heap.size/\∀ k,B <= k -> k < w.heap.size -> w'.heap[k]? = w.heap[k]?
theorem Kp.of_below {B:Nat}{w a:World}(h:Below w.heap.size w a):Kp B w a:=⟨h.size,fun k _ b=>h.block k b⟩
theorem Kp.of_grown {B g:Nat}{w a:World}(h:w.grownBy a (some g))(d:g < B):Kp B w a:=⟨h.size,fun k c b=>h.block k b (by simp;omega)⟩
theorem Kp.of_set {B g o:Nat}{w:World}{u:Value}(b:g < B):Kp B w (w.setCell ⟨g,o,none⟩ u):=⟨by simp,fun k a _=>ch w ⟨g,o,none⟩ k u (by show k ≠ g;omega)⟩
theorem Kp.of_oth {B g:Nat}{w a:World}(b:w.heap.size <= a.heap.size)(h:∀ j,j ≠ g -> a.heap[j]? = w.heap[j]?)(d:g < B):Kp B w a:=⟨b,fun k c _=>h k (by omega)⟩
theorem ZjD {w a:World}{g o B:Nat}{cs:List Value}(h:w.rangeAt g o cs)(e:Kp B w a)(b:B <= g)(c:g < w.heap.size):a.rangeAt g o cs :=
 fun j v d=>(World.cell?_of_block (w:=w) (e.2 g b c)).trans (h j v d)
def Stb {α:Type}(E:Nat -> World -> List Value -> α -> Prop):Prop:=(∀ B w w' cs x,E B w cs x -> Kp B w w' -> E B w' cs x)/\∀ B C w cs x,E B w cs x -> C <= B -> E C w cs x
def XRow {α:Type}(B k:Nat)(E:Nat -> World -> List Value -> α -> Prop)(w:World)(v:Value)(xs:List α):Prop :=
 ∃ ao cap,v=.slice ao xs.length cap/\(xs.length <= cap/\(ao=none -> cap=0))/\xs.length <= 9223372036854775807 /\
  (xs ≠ [] -> ∃ g o,ao=some ⟨g,o,none⟩/\B <= g/\g < w.heap.size/\∀ i x,xs[i]? = some x -> ∃ cs,cs.length=k/\w.rangeAt g (o+i * k) cs/\E B w cs x)
theorem XRow.small {α:Type}{B k:Nat}{E:Nat -> World -> List Value -> α -> Prop}{w:World}{v:Value}{c:List α}(R:XRow B k E w v c):∃ b a,v=.slice b c.length a:=by
 obtain ⟨b,a,rfl,_⟩:=R;exact ⟨b,a,rfl⟩
theorem XRow.kp {α:Type}{B k:Nat}{E:Nat -> World -> List Value -> α -> Prop}{w j:World}{v:Value}{l:List α}(h:XRow B k E w v l)(r:Stb E)(c:Kp B w j):XRow B k E j v l:=by
 obtain ⟨m,b,rfl,s,t,a⟩:=h;refine ⟨m,b,rfl,s,t,fun d=>?_⟩;obtain ⟨g,o,rfl,e,f,a⟩:=a d;refine ⟨g,o,rfl,e,cm f c.1,fun i x hi=>?_⟩;obtain ⟨cs,n,p,q⟩:=a i x hi;exact ⟨cs,n,ZjD p c e f,r.1 _ _ _ _ _ q c⟩
theorem XRow.below {α:Type}{B k:Nat}{E:Nat -> World -> List Value -> α -> Prop}{w a:World}{v:Value}{b:List α}(h:XRow B k E w v b)(c:Stb E)(d:Below w.heap.size w a):XRow B k E a v b:=h.kp c (Kp.of_below d)
theorem XRow.mono {α:Type}{B C k:Nat}{E:Nat -> World -> List Value -> α -> Prop}{w:World}{v:Value}{f:List α}(h:XRow B k E w v f)(q:Stb E)(e:C <= B):XRow C k E w v f:=by
 obtain ⟨j,b,rfl,c,s,a⟩:=h;refine ⟨j,b,rfl,c,s,fun d=>?_⟩;obtain ⟨g,o,rfl,p,r,a⟩:=a d;refine ⟨g,o,rfl,Nat.le_trans e p,r,fun i x hi=>?_⟩;obtain ⟨cs,l,m,n⟩:=a i x hi;exact ⟨cs,l,m,q.2 _ _ _ _ _ n e⟩
theorem ZcO {k:Nat}:∀ {css:List (List Value)},(∀ c ∈ css,c.length=k) -> css.flatten.length=css.length * k
 | [],_=>by simp
 | c :: css,h=>by
  rw [List.flatten_cons,List.length_append,ZcO (fun d a=>h d (List.mem_cons_of_mem _ a)),h c (List.mem_cons_self ..),List.length_cons,Nat.succ_mul];omega
theorem ZaM {k:Nat}:∀ {css:List (List Value)} {i:Nat} {c:List Value},(∀ c ∈ css,c.length=k) -> css[i]? = some c -> ∀ j,j < k -> css.flatten[i * k+j]? = c[j]?
 | [],_,_,_,h,_,_=>by simp at h
 | d :: css,0,c,hl,h,j,hj=>by
  simp at h;subst h;rw [List.flatten_cons,Nat.zero_mul,Nat.zero_add,List.getElem?_append_left (by rw [hl d (List.mem_cons_self ..)];exact hj)]
 | d :: css,i+1,c,hl,h,j,hj=>by
  have a:=hl d (List.mem_cons_self ..);rw [List.flatten_cons,List.getElem?_append_right (by rw [a,Nat.succ_mul];omega),a,show (i+1) * k+j - k=i * k+j by rw [Nat.succ_mul];omega];exact ZaM (fun e b=>hl e (List.mem_cons_of_mem _ b)) (by simpa using h) j hj
theorem XRow.of_own {α:Type}{k:Nat}{E:Nat -> World -> List Value -> α -> Prop}{w:World}{a:Nat}{v:Value}{t:TypeId}{b:List α}{css:List (List Value)}(h:w.ownsRow a t k v b.length css.flatten)(G:css.length=b.length)(r:∀ c ∈ css,c.length=k)(F:b.length <= 9223372036854775807)(z:∀ (i:Nat) c x,css[i]? = some c -> b[i]? = some x -> E a w c x):XRow a k E w v b:=by
 rcases h.2 with ⟨rfl,y⟩ | ⟨g,d,s,rfl,A,D,n,B,C,o⟩
 ·have:b=[]:=List.eq_nil_of_length_eq_zero y
  subst this;exact ⟨none,0,rfl,by simp,by simp,fun h=>absurd rfl h⟩
 ·refine ⟨_,d,rfl,⟨n,fun h=>by cases h⟩,F,fun _=>⟨g,0,rfl,A,(bl D),fun i x hi=>?_⟩⟩
  have e:i < b.length:=(List.getElem?_eq_some_iff.1 hi).1;have p:css[i]? = some css[i]:=List.getElem?_eq_getElem (by omega);have l:=r css[i] (List.getElem_mem _);refine ⟨css[i],l,fun j u q=>?_,z i _ x p hi⟩;have f:j < k:=by have:=(List.getElem?_eq_some_iff.1 q).1;omega
  have m:i * k+j < b.length * k:=by
   have:(i+1) * k <= b.length * k:=Nat.mul_le_mul_right k e;rw [Nat.succ_mul] at this;omega
  have:=h.cellAt (i * k+j) m;rw [Nat.zero_add,this,ZaM r p j f];exact q
theorem ZdH {a g n i b:Nat}{e:TypeId}:∀ (cs:List Value) (o:Nat) (w:World) (d:List Value),w.ownsRow a e b (.slice (some ⟨g,0,none⟩) n i) n d ->
  ∃ f,(w.setCells g o cs).ownsRow a e b (.slice (some ⟨g,0,none⟩) n i) n f/\w.grownBy (w.setCells g o cs) (some g)/\f.length=d.length/\(∀ j,j < o \/ o+cs.length <= j -> f[j]? = d[j]?)/\(∀ j u,cs[j]? = some u -> o+j < d.length -> f[o+j]? = some u)
 | [],o,w,d,h=>⟨d,h,World.grownBy.refl _ _,rfl,fun _ _=>rfl,fun j u h=>by simp at h⟩
 | c :: cs,o,w,d,h=>by
  obtain ⟨r,p⟩:=h.stored o c;obtain ⟨f,s,q,t,m,v⟩:=ZdH cs (o+1) _ _ r;refine ⟨f,s,p.trans q,by rw [t,List.length_set],fun j k=>?_,fun j u k l=>?_⟩
  ·rw [List.length_cons] at k
   rw [m j (by omega),List.getElem?_set_ne (by omega)]
  ·cases j with
   | zero =>
    simp at k;subst k;rw [m (o+0) (by omega)];simp only [Nat.add_zero] at l ⊢;rw [List.getElem?_set_self l]
   | succ j =>
    have:=v j u (by simpa using k) (by rw [List.length_set];omega);rw [show o+(j+1)=o+1+j by omega];exact this
theorem Zbb {P:Program}{ops:Array Oper}{l:List Oper}{op:Oper}{a:Act}{w:World}{Q:Exit -> Act -> World -> Prop}(B:op.guard=none)(r:TypeId)(x y:Operand)(W:op.op=.store r x y)(f g i o k n:Nat)(css:List (List Value))(cs:List Value)(Y:a.eval x=.pointer (some ⟨g,i * k,none⟩))(Z:a.eval y=.agg cs.toArray)(E:cs.length=k)(b:∀ c ∈ css,c.length=k)(N:css.length=n)(hi:i < n)(S:∀ v ∈ cs,v.oneCell'=true)(I:(P.info? r).map (·.size)=some k)(d:w.ownsRow f r k (.slice (some ⟨g,0,none⟩) n o) n css.flatten)(h:∀ K:World,K.ownsRow f r k (.slice (some ⟨g,0,none⟩) n o) n (css.set i cs).flatten -> w.grownBy K (some g) -> wpList P ops Q l (a.put op.dst undef) K):wpList P ops Q (op :: l) a w:=by
 have D:(i+1) * k <= n * k:=Nat.mul_le_mul_right k hi;rw [Nat.succ_mul] at D;have A:=ZcO b;rw [N] at A
 have X:w.there g (i * k) cs.toArray.size:=fun j t=>by
  simp at t;have:=d.cellAt (i * k+j) (by omega);refine ⟨?_,d.frozenAt _⟩;rw [this,List.getElem?_eq_getElem (by omega)];rfl
 refine wpList_store_mid B r x y W g (i * k) _ Y Z X (by simpa [E] using I) (all_oneCell_toArray S) ?_;obtain ⟨ys,M,R,h3,T,U⟩:=ZdH cs (i * k) w css.flatten d
 have e:∀ c ∈ css.set i cs,c.length=k:=fun c V=>by
  rcases List.mem_or_eq_of_mem_set V with h | h
  ·exact b c h
  ·rw [h];exact E
 have J:ys=(css.set i cs).flatten:=by
  apply List.ext_getElem?;intro j;have p:=ZcO e;rw [List.length_set,N] at p
  by_cases t:j < n * k
  ·have F:0 < k:=by rcases Nat.eq_zero_or_pos k with z | z;subst z;simp at t;exact z
   have hq:j / k < n:=Nat.div_lt_of_lt_mul (by rw [Nat.mul_comm];exact t);have H:j % k < k:=Nat.mod_lt _ F;have m:j / k * k+j % k=j:=by rw [Nat.mul_comm];exact Nat.div_add_mod j k
   by_cases q:j / k=i
   ·have s:=ZaM (css:=css.set i cs) (i:=i) (c:=cs) e (by rw [List.getElem?_set_self (by omega)]) (j % k) H
    rw [q] at m;rw [<- m,s];obtain ⟨u,O⟩:∃ u,cs[j % k]? = some u:=⟨_,List.getElem?_eq_getElem (by omega)⟩;rw [O];exact U _ u O (by omega)
   ·have s:=ZaM (css:=css.set i cs) (i:=j / k) (c:=css[j / k]'(by omega)) e (by rw [List.getElem?_set_ne (by omega)];exact List.getElem?_eq_getElem _) (j % k) H
    have L:=ZaM (css:=css) (i:=j / k) (c:=css[j / k]'(by omega)) b (List.getElem?_eq_getElem _) (j % k) H;rw [m] at s L;rw [s,<- L];refine T j ?_;rw [E];rcases Nat.lt_or_gt_of_ne q with G | C
    ·left
     have:(j / k+1) * k <= i * k:=Nat.mul_le_mul_right k G;rw [Nat.succ_mul] at this;omega
    ·right
     have:(i+1) * k <= j / k * k:=Nat.mul_le_mul_right k C;rw [Nat.succ_mul] at this;omega
  ·rw [List.getElem?_eq_none (by omega),List.getElem?_eq_none (by omega)]
 rw [J] at M;exact h _ M R
theorem Zcm {z:Array Value}{k:Nat}(l:z.size=k)(o:0 < k)(n:Nat):(madeCells z (n * k)).toList=(List.replicate n z.toList).flatten:=by
 have a:∀ c ∈ List.replicate n z.toList,c.length=k:=fun c m=>by rw [List.eq_of_mem_replicate m];simpa using l
 have d:=ZcO a;rw [List.length_replicate] at d;apply List.ext_getElem?;intro j
 by_cases g:j < n * k
 ·have p:j / k < n:=Nat.div_lt_of_lt_mul (by rw [Nat.mul_comm];exact g)
  have q:j % k < k:=Nat.mod_lt _ o;have f:j / k * k+j % k=j:=by rw [Nat.mul_comm];exact Nat.div_add_mod j k
  have e:=ZaM (css:=List.replicate n z.toList) (i:=j / k) (c:=z.toList) a (by simp [p]) (j % k) q;rw [f] at e;rw [e];simp [madeCells,g,l];have b:j % k < z.size:=by omega
  rw [getElem!_pos z (j % k) b,Array.getElem?_eq_getElem b]
 ·rw [List.getElem?_eq_none (by simp [madeCells];omega),List.getElem?_eq_none (by omega)]
def Fr (B:Nat)(v:Value):Prop:=∀ g,v.ownBlock=some g -> B <= g
theorem Fr.of_own {w:World}{a:Nat}{e:TypeId}{k n:Nat}{v:Value}{l:List Value}(h:w.ownsRow a e k v n l):Fr a v:=fun g b=>(h.lt g b).1
theorem Fr.mono {B C:Nat}{v:Value}(h:Fr B v)(a:C <= B):Fr C v:=fun g b=>Nat.le_trans a (h g b)
theorem Fr.zero (v:Value):Fr 0 v:=fun _ _=>Nat.zero_le _
theorem Zc3 {w c:World}{B:Nat}{b:Option Addr}{n a g o:Nat}(i:Kp B w c)(e:Fr B (.slice b n a))(d:b=some ⟨g,o,none⟩)(f:g < w.heap.size):c.heap[g]? = w.heap[g]?:=by
 subst d;exact i.2 g (e g rfl) f
theorem NRow.kp {w j:World}{v:Value}{k:List Nd}{B:Nat}(R:NRow w v k)(s:Fr B v)(f:Kp B w j):NRow j v k:=by
 obtain ⟨l,b,rfl,r,t,u,a⟩:=R;refine ⟨l,b,rfl,r,t,u,fun c=>?_⟩;obtain ⟨g,o,rfl,d,a⟩:=a c;have e:=Zc3 f s rfl d;refine ⟨g,o,rfl,cm d f.1,fun i x hi=>?_⟩;obtain ⟨c0,m,n,p,q⟩:=a i x hi;exact ⟨(World.cell?_of_block e).trans c0,(World.cell?_of_block e).trans m,(World.cell?_of_block e).trans n,(World.cell?_of_block e).trans p,(World.cell?_of_block e).trans q⟩
structure Mc where
 p:Int
 s:Int
 e:Int
 d:Int
 t:Int
 q:Int
 r:Int
theorem ZlN:(prog.info? 66).map (·.size)=some 8:=by kernel_rfl
theorem ZaC (w:World)(A B:Obj):Below w.heap.size w ((w.alloc A).alloc B)/\((w.alloc A).alloc B).heap[w.heap.size]? = some A/\((w.alloc A).alloc B).heap[w.heap.size+1]? = some B :=
 ⟨((cf _ _).alloc (ce _) _).alloc (by simp) _,(cn _ _ (by simp)).trans (cg _ _),cw _ _ _⟩
theorem ZcF (x:Nd)(n:Int)(w:World)(D:x.s.size <= maxLen) :
  Calls prog 126 #[.agg #[.int .i64 x.k,.int .i64 x.n,.string x.s,.int .i64 x.a,.int .i64 x.b],.int .i64 n] w fun e E=>e=.returned (.bool (Zav x n))/\Below w.heap.size w E:=by
 go_enter func126,ntmps126
 go_wp2_with fail;have l:Below w.heap.size w (w.alloc (Obj.cells #[.int .i64 x.k,.int .i64 x.n,.string x.s,.int .i64 x.a,.int .i64 x.b] 176)):=(cf _ _).alloc (ce _) _;refine (Zdi x.k _).mono ?_;rintro e o ⟨rfl,i⟩;have f:=(i.block w.heap.size (by simp)).trans (cg _ _);have c:∀ j,o.cell? ⟨w.heap.size,j,none⟩=#[Value.int .i64 x.k,.int .i64 x.n,.string x.s,.int .i64 x.a,.int .i64 x.b][j]?:=fun j=>cd o _ j _ _ _ f
 have u:=c 1;have v:=c 2;have y:=c 3;have z:=c 4;simp only [List.getElem?_toArray,List.getElem?_cons_succ,List.getElem?_cons_zero] at u v y z;have C:w.heap.size < o.heap.size:=(bl f);have d:Below w.heap.size w o:=l.trans (i.mono (by simp));clear c f l i
 by_cases m:1 <= x.k/\x.k <= 9
 ·rw [Zfh,if_pos m]
  by_cases q:lo x.k <= x.n/\x.n <= hi x.k
  ·have g:Hid (Zav x n=(Zbj x.s (hasS x.k) && Zbf x.a (hasA x.k) n && Zbf x.b (hasB x.k) n)):=by
    unfold Hid Zav;simp [m,q]
   obtain ⟨A,B⟩:=q;go_wp2_with fail;refine (Ze1 _ _ _ D).mono ?_;rintro e t ⟨rfl,rfl⟩;generalize r:Zbj x.s (hasS x.k)=p at g ⊢;clear r;cases p with
   | false =>
    go_wp2;go_ret;exact ⟨by rw [g.out];rfl,d.alloc d.size _⟩
   | true =>
    go_wp2_with fail;refine (ZcG _ _ _ _).mono ?_;rintro e t ⟨rfl,rfl⟩;generalize r:Zbf x.a (hasA x.k) n=p at g ⊢;clear r;cases p with
    | false =>
     go_wp2;go_ret;exact ⟨by rw [g.out];rfl,d.alloc d.size _⟩
    | true =>
     go_wp2_with fail;refine (ZcG _ _ _ _).mono ?_;rintro e t ⟨rfl,rfl⟩;go_wp2;go_ret;exact ⟨by rw [g.out];rfl,d.alloc d.size _⟩
  ·have g:Hid (Zav x n=false):=by
    unfold Hid Zav;rw [Bool.eq_false_iff];intro h;simp only [Bool.and_eq_true,decide_eq_true_eq] at h;exact q ⟨h.1.1.2,h.1.2⟩
   go_wp2_with fail
   all_goals go_ret
   all_goals first | exact ⟨by rw [g.out];rfl,d.alloc d.size _⟩ | (exfalso;omega)
 ·have g:Hid (Zav x n=false):=by
   unfold Hid Zav;rw [Bool.eq_false_iff];intro h;simp only [Bool.and_eq_true,decide_eq_true_eq] at h;exact m h.1.1.1
  rw [Zfh,if_neg m];go_wp2_with fail
  all_goals go_ret
  all_goals exact ⟨by rw [g.out];rfl,d.alloc d.size _⟩
theorem ZeK (v:Value)(a:List Nd)(w:World)(R:NRow w v a) :
  Calls prog 103 #[.agg #[v]] w fun e H=>e=.returned (.bool (Zap a))/\Below w.heap.size w H:=by
 have u:=R;obtain ⟨J,D,rfl,s,L,G,b⟩:=u
 by_cases d:a.length <= 3000
 ·have c:Hid (Zap a=ZaA (a.drop 0) 0):=by unfold Hid Zap;simp [d]
  go_enter func103,ntmps103
  go_wp2_with fail
  go_loopw [12] (fun i wr=>∃ k:Nat,k <= a.length/\i=.int .i64 k/\Hid (Zap a=ZaA (a.drop k) k)/\Below w.heap.size w wr) (fun i _=>a.length - (intOf i).toNat)
  case atStart=>exact ⟨0,by omega,rfl,c.out,(cf _ _).alloc (ce _) _⟩
  case round =>
   clear c;obtain ⟨k,K,rfl,c,f⟩:=hrel
   by_cases l:k < a.length
   ·obtain ⟨g,o,rfl,F,b⟩:=b (by intro e;subst e;simp at l)
    obtain ⟨x,m⟩:∃ x,a[k]? = some x:=⟨a[k],by simp [l]⟩;obtain ⟨c0,z,A,B,C⟩:=(b k x m).below f F;have q:Hid (ZaA (a.drop k) k=(Zav x k && ZaA (a.drop (k+1)) (k+1))):=Zc8 a k x m;have p:=G x (List.mem_of_getElem? m);clear b m;go_wp2_with fail;refine (ZcF x _ _ p).mono ?_;rintro e I ⟨rfl,j⟩;have r:Below w.heap.size w I:=(f.alloc f.size _).trans (j.mono (by have:=f.size;simp;omega));clear c0 z A B C j;have n:Hid (Zap a=(Zav x k && ZaA (a.drop (k+1)) (k+1))):=by unfold Hid;rw [c.out,q.out]
    clear q c;generalize E:Zav x k=y at n ⊢;clear E;cases y with
    | false =>
     go_wp2;go_ret;exact ⟨by rw [n.out];rfl,r⟩
    | true =>
     go_wp2
     go_roundw
     case rel=>exact ⟨k+1,by omega,by go_num,n.out,r⟩
     case measure=>simp [intOf];omega
   ·have e:k=a.length:=by omega
    subst e;have t:Hid (Zap a=true):=by unfold Hid;rw [c.out,List.drop_length];rfl
    clear c;go_wp2;go_ret;exact ⟨by rw [t.out];rfl,f⟩
 ·have c:Hid (Zap a=false):=by unfold Hid Zap;simp [d]
  go_enter func103,ntmps103
  go_wp2_with fail;go_ret;exact ⟨by rw [c.out];rfl,(cf _ _).alloc (ce _) _⟩
end Go.Proofs.YtanhoamdlhaaeaaGreatDoor
