/-
  Texts that stood by themselves, laid into one.
-/
import Derived.Test.YtkpfangkfknhoaaGreatDoorMark2M
import Derived.Test.YtkpfangkfknhoaaGreatDoorInM
/-
  Helpers: a definition as 3 cells, a slice of these read as a list, and the contracts of the laws' helpers on them. No condition.
-/
set_option maxRecDepth 100000
set_option maxHeartbeats 4000000
namespace Go.Proofs.YtkpfangkfknhoaaGreatDoor
open Go.Proofs.Tryz
open Go.RowKit
structure Df where
 s:ByteArray
 p:Int
 m:Int
def Df.cs (x:Df):List Value:=[.string x.s,.int .i64 x.p,.int .i64 x.m]
def dfcs (xs:List Df):List Value:=xs.flatMap Df.cs
theorem ZdR (x:Df)(a:List Df):dfcs (x :: a)=x.cs ++ dfcs a:=rfl
theorem Zd5 (a:List Df):(dfcs a).length=a.length * 3:=by
 induction a with
 | nil=>rfl
 | cons x a ih=>rw [ZdR,List.length_append,ih,List.length_cons];simp [Df.cs];omega
theorem ZhK (a:List Df)(i:Nat)(x:Df)(h:a[i]? = some x)(j:Nat)(b:j < 3):(dfcs a)[i * 3+j]? = x.cs[j]?:=by
 induction a generalizing i with
 | nil=>simp at h
 | cons y ys ih =>
  rw [ZdR];cases i with
  | zero =>
   simp at h;subst h;rw [Nat.zero_mul,Nat.zero_add,List.getElem?_append_left (by simpa [Df.cs] using b)]
  | succ i =>
   rw [List.getElem?_append_right (by simp [Df.cs];omega)];rw [show (i+1) * 3+j - y.cs.length=i * 3+j by simp [Df.cs];omega];exact ih i (by simpa using h)
theorem Zfn (a:List Df)(i:Nat)(x b:Df)(h:a[i]? = some x)(j:Nat)(c:j < 3)(u:Value)(e:x.cs.set j u=b.cs):(dfcs a).set (i * 3+j) u=dfcs (a.set i b):=by
 induction a generalizing i with
 | nil=>simp at h
 | cons y ys ih =>
  rw [ZdR];cases i with
  | zero =>
   simp at h;subst h;rw [Nat.zero_mul,Nat.zero_add,List.set_append_left _ _ (by simpa [Df.cs] using c),e];rfl
  | succ i =>
   rw [List.set_append_right _ _ (by simp [Df.cs];omega)];rw [show (i+1) * 3+j - y.cs.length=i * 3+j by simp [Df.cs];omega,ih i (by simpa using h)];rfl
theorem ZjE (a:List Df)(i:Nat)(x b:Df)(h:a[i]? = some x)(u:Value)(e:x.cs.set 0 u=b.cs):(dfcs a).set (i * 3) u=dfcs (a.set i b) :=
 Zfn a i x b h 0 (by omega) u e
theorem Df.one (x:Df):∀ u ∈ x.cs,u.oneCell'=true:=by
 intro u a;simp only [Df.cs,List.mem_cons,List.not_mem_nil,or_false] at a;rcases a with rfl | rfl | rfl <;> rfl
def DfAt (w:World)(g o:Nat)(x:Df):Prop :=
 w.cell? ⟨g,o,none⟩=some (.string x.s)/\w.cell? ⟨g,o+1,none⟩=some (.int .i64 x.p)/\w.cell? ⟨g,o+2,none⟩=some (.int .i64 x.m)
theorem DfAt.below {w c:World}{g o B:Nat}{x:Df}(h:DfAt w g o x)(a:Below B w c)(b:g < B):DfAt c g o x :=
 ⟨(a.cell (p:=⟨g,o,none⟩) b).trans h.1,(a.cell (p:=⟨g,o+1,none⟩) b).trans h.2.1,(a.cell (p:=⟨g,o+2,none⟩) b).trans h.2.2⟩
def DfRow (w:World)(v:Value)(xs:List Df):Prop :=
 ∃ ao cap,v=.slice ao xs.length cap/\(xs.length <= cap/\(ao=none -> cap=0))/\xs.length <= 9223372036854775807/\(∀ x ∈ xs,x.s.size <= maxLen) /\
  (xs ≠ [] -> ∃ g o,ao=some ⟨g,o,none⟩/\g < w.heap.size/\∀ i x,xs[i]? = some x -> DfAt w g (o+i * 3) x)
theorem DfRow.small {w:World}{v:Value}{c:List Df}(R:DfRow w v c):∃ b a,v=.slice b c.length a:=by
 obtain ⟨b,a,rfl,_⟩:=R;exact ⟨b,a,rfl⟩
theorem DfRow.below {w d:World}{v:Value}{f:List Df}(h:DfRow w v f)(e:Below w.heap.size w d):DfRow d v f:=by
 obtain ⟨n,c,rfl,m,k,l,a⟩:=h;refine ⟨n,c,rfl,m,k,l,fun b=>?_⟩;obtain ⟨g,o,rfl,j,a⟩:=a b;exact ⟨g,o,rfl,cy j e.size,fun i x hi=>(a i x hi).below e j⟩
theorem DfRow.of_own {w:World}{base:Nat}{v:Value}{a:List Df}(h:w.ownsRow base 157 3 v a.length (dfcs a))(f:a.length <= 9223372036854775807)(m:∀ x ∈ a,x.s.size <= maxLen):DfRow w v a:=by
 rcases h.2 with ⟨rfl,n⟩ | ⟨g,d,cur,rfl,q,o,c,p,l,b⟩
 ·have:a=[]:=List.eq_nil_of_length_eq_zero n
  subst this;exact ⟨none,0,rfl,by simp,by simp,by simp,fun h=>absurd rfl h⟩
 ·refine ⟨_,d,rfl,⟨c,fun h=>by cases h⟩,f,m,fun _=>⟨g,0,rfl,(bl o),fun i x hi=>?_⟩⟩
  have r:i < a.length:=(List.getElem?_eq_some_iff.1 hi).1
  have e:∀ j,j < 3 -> w.cell? ⟨g,0+i * 3+j,none⟩=x.cs[j]?:=fun j k=>by
   have:=h.cellAt (i * 3+j) (by omega);rw [Nat.zero_add,this,ZhK a i x hi j k]
  exact ⟨e 0 (by omega),e 1 (by omega),e 2 (by omega)⟩
theorem ZnW:(prog.info? 157).map (fun i=>(i.zero,i.size,i.bytes))=some (some (.agg #[.string ByteArray.empty,.int .i64 0,.int .i64 0]),3,32):=by kernel_rfl
theorem ZnJ:(prog.info? 157).map (·.size)=some 3:=by kernel_rfl
theorem ZdZ {ops:Array Oper}{e:List Oper}{op:Oper}{a:Act}{w:World}{Q:Exit -> Act -> World -> Prop}(r:op.guard=none)(x y:Operand)(z:op.op=.store 157 x y)(base g i k:Nat)(b:List Df)(c:Df)(u:a.eval x=.pointer (some ⟨g,i * 3,none⟩))(t:a.eval y=.agg #[.string c.s,.int .i64 c.p,.int .i64 c.m])(hi:i < b.length)(d:w.ownsRow base 157 3 (.slice (some ⟨g,0,none⟩) b.length k) b.length (dfcs b))(h:∀ q:World,q.ownsRow base 157 3 (.slice (some ⟨g,0,none⟩) b.length k) b.length (dfcs (b.set i c)) -> w.grownBy q (some g) -> wpList prog ops Q e (a.put op.dst undef) q):wpList prog ops Q (op :: e) a w:=by
 have v:w.there g (i * 3) 3:=fun j B=>by
  have:=d.cellAt (i * 3+j) (by omega);refine ⟨?_,d.frozenAt _⟩;rw [this,List.getElem?_eq_getElem (by rw [Zd5];omega)];rfl
 refine wpList_store_mid r 157 x y z g (i * 3) _ u t v ZnJ (all_oneCell_toArray c.one) ?_;have A:b[i]? = some b[i]:=List.getElem?_eq_getElem hi;have f:∀ y:Df,(b.set i y)[i]? = some y:=fun y=>by simp [hi]
 have l:=d.stored (i * 3) (.string c.s);rw [ZjE b i b[i] ⟨c.s,b[i].p,b[i].m⟩ A _ rfl] at l;have n:=l.1.stored (i * 3+1) (.int .i64 c.p);rw [Zfn (b.set i ⟨c.s,b[i].p,b[i].m⟩) i ⟨c.s,b[i].p,b[i].m⟩ ⟨c.s,c.p,b[i].m⟩ (f _) 1 (by omega) (.int .i64 c.p) rfl,List.set_set] at n;have o:=n.1.stored (i * 3+2) (.int .i64 c.m);rw [Zfn (b.set i ⟨c.s,c.p,b[i].m⟩) i ⟨c.s,c.p,b[i].m⟩ ⟨c.s,c.p,c.m⟩ (f _) 2 (by omega) (.int .i64 c.m) rfl,List.set_set] at o;exact h _ o.1 ((l.2.trans n.2).trans o.2)
theorem ZkL (x:Df)(w:World) :
  Calls prog 84 #[.agg #[.string x.s,.int .i64 x.p,.int .i64 x.m]] w fun e a=>e=.returned (.agg #[.string x.s,.int .i64 x.p,.int .i64 x.m])/\Below w.heap.size w a:=by
 go_enter func84,ntmps84
 go_wp2
 exact cx (results_cell_row rfl _ _ (w.heap.size+1) 157 _ (0,0) _ rfl ((cz _ _ (by simp)).trans (cH _ _ _)) underlying157 rfl ZnJ) rfl
  ⟨rfl,(((cj _ _).alloc (ce _) _).alloc (by simp) _).alloc (by simp;omega) _⟩
theorem Zlm (x:Df)(l:Int)(w:World)(d:x.s.size <= maxLen)(f:0 <= l)(c:l <= 1048576) :
  Calls prog 71 #[.agg #[.string x.s,.int .i64 x.p,.int .i64 x.m],.int .i64 l] w fun e b=>e=.returned (.int .i64 (less l x.s.size))/\Below w.heap.size w b:=by
 unfold maxLen at d
 go_enter func71,ntmps71
 by_cases h:l < x.s.size
 ·have a:Hid (less l x.s.size = -1):=by unfold Hid less;rw [if_pos h]
  go_wp2;go_ret;exact ⟨by rw [a.out];rfl,(cj _ _).alloc (ce _) _⟩
 ·have a:Hid (less l x.s.size=l - x.s.size):=by unfold Hid less;rw [if_neg h]
  go_wp2;go_ret;exact ⟨by rw [a.out];rfl,(cj _ _).alloc (ce _) _⟩
theorem Zk4 (x:Df)(w:World) :
  Calls prog 102 #[.agg #[.string x.s,.int .i64 x.p,.int .i64 x.m],.agg #[.string x.s,.int .i64 x.p,.int .i64 x.m]] w fun e a=>e=.returned (.bool true)/\Below w.heap.size w a:=by
 go_enter func102,ntmps102
 go_wp2;go_ret;exact ⟨rfl,((cj _ _).alloc (ce _) _).alloc (by simp) _⟩
def Zf5:Df:=⟨ByteArray.empty,0,0⟩
def ZaQ (xs:List Df)(j:Nat):List Df:=xs.take j ++ List.replicate (xs.length - j) Zf5
theorem ZdE (a:List Df)(j:Nat)(h:j <= a.length):(ZaQ a j).length=a.length:=by simp [ZaQ];omega
theorem Ze6 (a:List Df):ZaQ a a.length=a:=by simp [ZaQ]
theorem ZhU (n:Nat):dfcs (List.replicate n Zf5)=(madeCells #[Value.string ByteArray.empty,.int .i64 0,.int .i64 0] (n * 3)).toList:=by
 apply List.ext_getElem?;intro j
 by_cases b:j < n * 3
 ·have c:j / 3 < n:=by omega
  rw [show j=j / 3 * 3+j % 3 by omega,ZhK _ (j / 3) Zf5 (by simp [c]) (j % 3) (by omega)];rw [show j / 3 * 3+j % 3=j by omega];have a:j % 3=0 \/ j % 3=1 \/ j % 3=2:=by omega
  rcases a with a | a | a <;> simp [madeCells,b,a,Zf5,Df.cs]
 ·rw [List.getElem?_eq_none (by rw [Zd5,List.length_replicate];omega),List.getElem?_eq_none (by simp [madeCells];omega)]
theorem Zfl (a:List Df):dfcs (ZaQ a 0)=(madeCells #[Value.string ByteArray.empty,.int .i64 0,.int .i64 0] (a.length * 3)).toList:=by
 rw [<- ZhU];simp [ZaQ]
theorem ZfI (a:List Df)(j:Nat)(h:j < a.length):(ZaQ a j).set j a[j]=ZaQ a (j+1):=by
 unfold ZaQ;rw [show a.length - j=a.length - (j+1)+1 by omega,List.replicate_succ,List.take_succ_eq_append_getElem h];rw [List.set_append_right _ _ (by simp;omega)];have e:j - (List.take j a).length=0:=by simp;omega
 rw [e,List.set_cons_zero,List.append_assoc];rfl
theorem ZjH (v:Value)(a:List Df)(w:World)(R:DfRow w v a)(M:a.length <= 2097152) :
  Calls prog 47 #[v] w fun e D=>∃ C,e=.returned C/\D.ownsRow w.heap.size 157 3 C a.length (dfcs a)/\Below w.heap.size w D:=by
 obtain ⟨N,J,rfl,B,_,L,d⟩:=R;obtain ⟨A,hi,y,z,x⟩:=info_parts ZnW;have f:A.bytes * a.length <= 281474976710656:=by rw [x];omega
 have n:a.length <= maxLen:=by unfold maxLen;omega
 go_enter func47,ntmps47
 go_wp2_with (at_make;refine wpList_make_full _ rfl _ _ 42 rfl w.heap.size 157 A _ 3 underlying42 hi y z _ _ _ _ a.length rfl rfl rfl rfl f n (ce _) ?_)
 intro I c m;have b:Below w.heap.size w I:=(cj _ _).grown m (ce _) (by intro k t;cases t);clear m;go_wp2
 go_loopw [4] (fun i wr=>∃ j:Nat,j <= a.length/\i=.int .i64 j/\wr.ownsRow w.heap.size 157 3 (.slice (some ⟨w.heap.size,0,none⟩) a.length a.length) a.length (dfcs (ZaQ a j))/\Below w.heap.size w wr) (fun i _=>a.length - (intOf i).toNat)
 case atStart=>exact ⟨0,by omega,rfl,by rw [Zfl];exact c,b⟩
 case round =>
  clear c b f n;obtain ⟨j,E,rfl,c,b⟩:=hrel
  by_cases q:j < a.length
  ·obtain ⟨g,o,rfl,K,d⟩:=d (by intro e;subst e;simp at q)
   obtain ⟨c0,c1,c2⟩:=(d j a[j] (by simp [q])).below b K;have G:=ZdE a j E;clear d;go_wp2_with fail;refine (ZkL a[j] _).mono ?_;rintro e F ⟨rfl,p⟩
   have h:F.ownsRow w.heap.size 157 3 (.slice (some ⟨w.heap.size,0,none⟩) (ZaQ a j).length a.length) (ZaQ a j).length (dfcs (ZaQ a j)):=by
    rw [G];exact Zad c p
   have r:=b.trans (p.mono b.size);clear c0 c1 c2 c p b
   go_wp2_with (refine ZdZ rfl _ _ rfl w.heap.size w.heap.size j a.length (ZaQ a j) a[j] rfl rfl (by omega) h ?_)
   intro H l s;rw [ZfI a j q] at l;have u:Below w.heap.size w H:=r.grown s r.size (fun k t=>by simp at t;omega);clear h s;go_wp2
   go_roundw
   case rel=>exact ⟨j+1,by omega,by go_num,l,u⟩
   case measure=>simp [intOf];omega
  ·go_wp2
   go_ret;have:j=a.length:=by omega
   subst this;rw [Ze6] at c;exact ⟨_,rfl,c,b⟩
theorem ZjU (v:Value)(b:List Df)(l:Int)(w:World)(R:DfRow w v b)(F:0 <= l)(G:l <= 1048576) :
  Calls prog 36 #[v,.int .i64 l] w fun e H=>∃ r:Int,e=.returned (.int .i64 r) /\ -1 <= r/\r <= 1048576/\(0 <= r -> b.length <= 1048576/\∀ x ∈ b,x.s.size <= 1048576)/\Below w.heap.size w H:=by
 obtain ⟨O,I,rfl,D,M,E,a⟩:=R
 by_cases A:(b.length:Int) <= l
 ·go_enter func36,ntmps36
  go_wp2
  go_loopw [1,5] (fun l i wr=>∃ (k:Nat) (r:Int),k <= b.length/\i=.int .i64 k/\l=.int .i64 r/\0 <= r/\r <= 1048576/\Hid (∀ j x,b[j]? = some x -> j < k -> x.s.size <= 1048576)/\Below w.heap.size w wr) (fun _ i _=>b.length - (intOf i).toNat)
  case atStart=>exact ⟨0,_,by omega,rfl,rfl,by omega,by omega,fun j x _ h=>by omega,cj _ _⟩
  case round =>
   obtain ⟨k,r,L,rfl,rfl,u,q,B,n⟩:=hrel
   by_cases f:k < b.length
   ·obtain ⟨g,o,rfl,J,a⟩:=a (by intro e;subst e;simp at f)
    obtain ⟨x,c⟩:∃ x,b[k]? = some x:=⟨b[k],by simp [f]⟩;obtain ⟨c0,c1,c2⟩:=(a k x c).below n J;have t:=E x (List.mem_of_getElem? c);have K:Hid (b[k]? = some x):=c;clear a c;go_wp2_with fail;refine (Zlm x _ _ t u q).mono ?_;rintro e N ⟨rfl,d⟩;have m:=n.trans (d.mono n.size);clear c0 c1 c2 d
    by_cases C:r < x.s.size
    ·rw [less,if_pos C]
     go_wp2;go_ret;exact ⟨-1,rfl,by omega,by omega,fun h=>by omega,m⟩
    ·rw [less,if_neg C]
     go_wp2
     go_roundw
     case rel =>
      refine ⟨k+1,_,by omega,by go_num,rfl,by omega,by omega,fun j y p z=>?_,m⟩
      by_cases e:j=k
      ·subst e
       rw [K.out] at p;cases p;omega
      ·exact B.out j y p (by omega)
     case measure=>simp [intOf];omega
   ·go_wp2
    go_ret;refine ⟨r,rfl,by omega,by omega,fun _=>⟨by omega,fun x c=>?_⟩,n⟩;obtain ⟨j,z,e⟩:=List.getElem_of_mem c;exact B.out j x (by rw [<- e];simp [z]) (by omega)
 ·go_enter func36,ntmps36
  go_wp2;go_ret;exact ⟨-1,rfl,by omega,by omega,fun h=>by omega,cj _ _⟩
theorem Zjj (n vb:Value)(c:List Df)(w:World)(y:DfRow w n c)(v:DfRow w vb c) :
  Calls prog 63 #[n,vb] w fun e s=>e=.returned (.bool true)/\Below w.heap.size w s:=by
 obtain ⟨H,G,rfl,p,B,A,a⟩:=y;obtain ⟨E,J,rfl,o,_,_,b⟩:=v;have F:((c.length:Int) != (c.length:Int))=false:=by simp
 go_enter func63,ntmps63
 go_wp2
 go_loopw [5] (fun i wr=>∃ k:Nat,k <= c.length/\i=.int .i64 k/\Below w.heap.size w wr) (fun i _=>c.length - (intOf i).toNat)
 case atStart=>exact ⟨0,by omega,rfl,cj _ _⟩
 case round =>
  obtain ⟨k,z,rfl,g⟩:=hrel
  by_cases d:k < c.length
  ·obtain ⟨I,C,rfl,h,a⟩:=a (by intro e;subst e;simp at d)
   obtain ⟨D,K,rfl,m,b⟩:=b (by intro e;subst e;simp at d);obtain ⟨x,l⟩:∃ x,c[k]? = some x:=⟨c[k],by simp [d]⟩;obtain ⟨c0,c1,c2⟩:=(a k x l).below g h;obtain ⟨r,t,u⟩:=(b k x l).below g m;clear a b l;go_wp2_with fail
   go_region_with (go_at_call 102;refine (Zk4 x _).mono ?_;rintro e q ⟨rfl,f⟩)
   all_goals
    have j:Below w.heap.size w q:=g.drew.trans (f.mono g.size);clear c0 c1 c2 r t u f;go_wp2
    go_roundw
    case rel=>exact ⟨k+1,by omega,by go_num,j⟩
    case measure=>simp [intOf];omega
  ·go_wp2
   go_ret;exact ⟨rfl,g⟩
theorem NRow.small {w:World}{v:Value}{c:List Nd}(R:NRow w v c):∃ b a,v=.slice b c.length a:=by
 obtain ⟨b,a,rfl,_⟩:=R;exact ⟨b,a,rfl⟩
theorem NRow.sz {w:World}{v:Value}{a:List Nd}(R:NRow w v a):∀ x ∈ a,x.s.size <= maxLen:=by obtain ⟨_,_,_,_,_,b,_⟩:=R;exact b
theorem InRow.sz {w:World}{v:Value}{a:List In}(R:InRow w v a):∀ x ∈ a,x.s.size <= maxLen:=by obtain ⟨_,_,_,_,_,b,_⟩:=R;exact b
theorem DfRow.sz {w:World}{v:Value}{a:List Df}(R:DfRow w v a):∀ x ∈ a,x.s.size <= maxLen:=by obtain ⟨_,_,_,_,_,b,_⟩:=R;exact b
theorem Zi0 (z A E:Value)(ns:List Nd)(is:List In)(ds:List Df)(w:World)(C:NRow w z ns)(F:InRow w A is)(D:DfRow w E ds) :
  Calls prog 9 #[.agg #[z,A,E],.int .i64 1048576] w fun e I=>∃ r:Int,e=.returned (.int .i64 r) /\ -1 <= r/\r <= 1048576/\(0 <= r -> ns.length <= 1048576/\is.length <= 1048576/\ds.length <= 1048576)/\Below w.heap.size w I:=by
 obtain ⟨y,c1,rfl⟩:=C.small;obtain ⟨s,c2,rfl⟩:=F.small;obtain ⟨t,c3,rfl⟩:=D.small
 go_enter func9,ntmps9
 go_wp2_with fail;have d:Below w.heap.size w (w.alloc (Obj.cells #[.slice y ns.length c1,.slice s is.length c2,.slice t ds.length c3] 28)):=(cj _ _).alloc (ce _) _;refine (Zip _ ns _ (C.below d)).mono ?_;rintro e v ⟨p,rfl,M,Q,n,g⟩;have c:v.heap[w.heap.size]? = some (.cells #[.slice y ns.length c1,.slice s is.length c2,.slice t ds.length c3] 28 (0,0)):=(g.block _ (by simp)).trans (co _ _);have a:=d.trans (g.mono d.size);have q:v.cell? ⟨w.heap.size,0+1,none⟩=some (.slice s is.length c2):=by rw [cd v _ 1 _ _ _ c];rfl
 have k:=(bl c);clear d g
 by_cases L:p < 0
 ·have B:Hid (p = -1):=by unfold Hid;omega
  go_wp2;go_ret;exact ⟨-1,rfl,by omega,by omega,fun h=>by omega,a⟩
 ·have n:=n (by omega)
  go_wp2_with fail;refine (Zji _ is p _ (F.below a) (by omega) (by omega)).mono ?_;rintro e G ⟨o,rfl,O,K,k2,f⟩;have l:=(f.block _ k).trans c;have b:=a.trans (f.mono a.size);have m:G.cell? ⟨w.heap.size,0+2,none⟩=some (.slice t ds.length c3):=by rw [cd G _ 2 _ _ _ l];rfl
  clear q c a f
  by_cases J:o < 0
  ·have B:Hid (o = -1):=by unfold Hid;omega
   go_wp2;go_ret;exact ⟨-1,rfl,by omega,by omega,fun h=>by omega,b⟩
  ·have k2:=k2 (by omega)
   go_wp2_with fail;refine (ZjU _ ds o _ (D.below b) (by omega) (by omega)).mono ?_;rintro e P ⟨x,rfl,R,N,u,j⟩;have i:=b.trans (j.mono b.size);clear m l j b
   by_cases H:x < 0
   ·have B:Hid (x = -1):=by unfold Hid;omega
    go_wp2;go_ret;exact ⟨-1,rfl,by omega,by omega,fun h=>by omega,i⟩
   ·have u:=u (by omega)
    go_wp2;go_ret;exact ⟨x,rfl,by omega,by omega,fun _=>⟨n.1,k2.1,u.1⟩,i⟩
theorem ZiQ (E F L u1 u2 u3:Value)(ns:List Nd)(is:List In)(ds:List Df)(w:World)(G:NRow w E ns)(M:InRow w F is)(J:DfRow w L ds)(I:NRow w u1 ns)(H:InRow w u2 is)(D:DfRow w u3 ds) :
  Calls prog 28 #[.agg #[E,F,L],.agg #[u1,u2,u3]] w fun e N=>e=.returned (.bool true)/\Below w.heap.size w N:=by
 obtain ⟨C,c1,rfl⟩:=G.small;obtain ⟨x,c2,rfl⟩:=M.small;obtain ⟨y,c3,rfl⟩:=J.small;obtain ⟨B,K,rfl⟩:=I.small;obtain ⟨s,A,rfl⟩:=H.small;obtain ⟨t,u,rfl⟩:=D.small
 go_enter func28,ntmps28
 go_wp2_with fail;have c:Below w.heap.size w ((w.alloc (Obj.cells #[.slice C ns.length c1,.slice x is.length c2,.slice y ds.length c3] 44)).alloc (Obj.cells #[.slice B ns.length K,.slice s is.length A,.slice t ds.length u] 44)):=((cj _ _).alloc (ce _) _).alloc (by simp) _;refine (Zee _ _ ns _ (G.below c) (I.below c)).mono ?_;rintro e i ⟨rfl,h⟩;have f:i.heap[w.heap.size]? = some (.cells #[.slice C ns.length c1,.slice x is.length c2,.slice y ds.length c3] 44 (0,0)):=(h.block _ (by simp;omega)).trans ((cz _ _ (by simp)).trans (co _ _));have g:i.heap[w.heap.size+1]? = some (.cells #[.slice B ns.length K,.slice s is.length A,.slice t ds.length u] 44 (0,0)):=(h.block _ (by simp)).trans (cH _ _ _);have a:=c.trans (h.mono c.size);have v:i.cell? ⟨w.heap.size,0+1,none⟩=some (.slice x is.length c2):=by rw [cd i _ 1 _ _ _ f];rfl
 have q:i.cell? ⟨w.heap.size+1,0+1,none⟩=some (.slice s is.length A):=by rw [cd i _ 1 _ _ _ g];rfl
 have r:=(bl f);have z:=(bl g);clear c h;go_wp2_with fail;refine (ZjA _ _ is _ (M.below a) (H.below a)).mono ?_;rintro e m ⟨rfl,d⟩;have l:=(d.block _ r).trans f;have k:=(d.block _ z).trans g;have b:=a.trans (d.mono a.size);have n:m.cell? ⟨w.heap.size,0+2,none⟩=some (.slice y ds.length c3):=by rw [cd m _ 2 _ _ _ l];rfl
 have p:m.cell? ⟨w.heap.size+1,0+2,none⟩=some (.slice t ds.length u):=by rw [cd m _ 2 _ _ _ k];rfl
 clear v q f g a d;go_wp2_with fail;refine (Zjj _ _ ds _ (J.below b) (D.below b)).mono ?_;rintro e O ⟨rfl,j⟩;have o:=b.trans (j.mono b.size);clear n p l k j b;go_wp2;go_ret;exact ⟨rfl,o⟩
theorem ZnY:(prog.info? 44).map (·.size)=some 3:=by kernel_rfl
theorem Zh1 (v1 v2 v3:Value)(ns:List Nd)(is:List In)(ds:List Df)(w:World)(Z:NRow w v1 ns)(R2:InRow w v2 is)(R3:DfRow w v3 ds)(h1:ns.length <= 2097152)(h2:is.length <= 2097152)(h3:ds.length <= 2097152) :
  Calls prog 18 #[.agg #[v1,v2,v3]] w fun e Q=>∃ u1 u2 u3,e=.returned (.agg #[u1,u2,u3])/\Q.ownsRow w.heap.size 194 5 u1 ns.length (ncs ns)/\Q.ownsRow w.heap.size 155 4 u2 is.length (incs is)/\Q.ownsRow w.heap.size 157 3 u3 ds.length (dfcs ds)/\Below w.heap.size w Q:=by
 have ae:=Z.sz;have ag:=R2.sz;have af:=R3.sz;obtain ⟨U,c1,rfl⟩:=Z.small;obtain ⟨O,c2,rfl⟩:=R2.small;obtain ⟨P,c3,rfl⟩:=R3.small
 go_enter func18,ntmps18
 go_wp2_with fail
 have z:Below w.heap.size w (((w.alloc (Obj.cells #[.slice U ns.length c1,.slice O is.length c2,.slice P ds.length c3] 28)).alloc (Obj.cells #[.slice none 0 0,.slice none 0 0,.slice none 0 0] 44)).alloc (Obj.cells #[.slice none 0 0,.slice none 0 0,.slice none 0 0] 44)) :=
  (((cj _ _).alloc (ce _) _).alloc (by simp) _).alloc (by simp;omega) _
 refine (Zep _ ns _ (Z.below z) h1).mono ?_;rintro e g ⟨u1,rfl,u,o⟩;obtain ⟨s,y,rfl⟩:=Zag u;have S1:=NRow.of_own u (by omega) ae;have E:g.heap[w.heap.size]? = some (.cells #[.slice U ns.length c1,.slice O is.length c2,.slice P ds.length c3] 28 (0,0)):=(o.block _ (by simp;omega)).trans ((cz _ _ (by simp;omega)).trans ((cz _ _ (by simp)).trans (co _ _)));have G:g.heap[w.heap.size+1]? = some (.cells #[.slice none 0 0,.slice none 0 0,.slice none 0 0] 44 (0,0)):=(o.block _ (by simp)).trans ((cz _ _ (by simp)).trans (cH _ _ _));have r:g.heap[w.heap.size+1+1]? = some (.cells #[.slice none 0 0,.slice none 0 0,.slice none 0 0] 44 (0,0)):=(o.block _ (by simp)).trans (ZbE _ _ _ _);have I:=z.trans (o.mono z.size);have B:g.ownsRow (w.heap.size+3) 194 5 (.slice s ns.length y) ns.length (ncs ns):=by simpa using u
 have V:g.cell? ⟨w.heap.size+1+1,0,none⟩=some (.slice none 0 0):=by rw [cd g _ 0 _ _ _ r];rfl
 have ac:g.frozen? ⟨w.heap.size+1+1,0,none⟩=false:=cw g _ 0 _ _ r;have T:g.cell? ⟨w.heap.size,0+1,none⟩=some (.slice O is.length c2):=by rw [cd g _ 1 _ _ _ E];rfl
 have ab:=(bl r);clear z o u;go_wp2_with fail;have d:Below w.heap.size w (g.setCell ⟨w.heap.size+1+1,0,none⟩ (.slice s ns.length y)):=I.setCell (p:=⟨w.heap.size+1+1,0,none⟩) (by simp;omega) _;refine (Zjo _ is _ (R2.below d) h2).mono ?_;rintro e l ⟨u2,rfl,D,i⟩;obtain ⟨x,A,rfl⟩:=Zag D;have q:=Zad (cI B (a:=⟨w.heap.size+1+1,0,none⟩) (by simp) (.slice s ns.length y)) i;have N:l.heap[w.heap.size]? = some (.cells #[.slice U ns.length c1,.slice O is.length c2,.slice P ds.length c3] 28 (0,0)):=(i.block _ (by simp;omega)).trans ((cr g ⟨w.heap.size+1+1,0,none⟩ w.heap.size _ (by simp;omega)).trans E);have J:l.heap[w.heap.size+1]? = some (.cells #[.slice none 0 0,.slice none 0 0,.slice none 0 0] 44 (0,0)):=(i.block _ (by simp;omega)).trans ((cr g ⟨w.heap.size+1+1,0,none⟩ (w.heap.size+1) _ (by simp)).trans G)
 have m:l.heap[w.heap.size+1+1]? = some (.cells #[.slice s ns.length y,.slice none 0 0,.slice none 0 0] 44 (0,0)):=(i.block _ (by simp;omega)).trans (cu g (w.heap.size+1+1) 0 _ _ (.slice s ns.length y) r);have M:=d.trans (i.mono d.size);have C:l.ownsRow (w.heap.size+3) 155 4 (.slice x is.length A) is.length (incs is):=Zah D (by simp;omega);have R:l.cell? ⟨w.heap.size+1+1,0+1,none⟩=some (.slice none 0 0):=by rw [cd l _ 1 _ _ _ m];rfl
 have ad:l.frozen? ⟨w.heap.size+1+1,0+1,none⟩=false:=cw l _ 1 _ _ m;have W:l.cell? ⟨w.heap.size,0+2,none⟩=some (.slice P ds.length c3):=by rw [cd l _ 2 _ _ _ N];rfl
 have H:=(bl m);clear I d i B D E G r V ac T ab S1;go_wp2_with fail;have f:Below w.heap.size w (l.setCell ⟨w.heap.size+1+1,1,none⟩ (.slice x is.length A)):=M.setCell (p:=⟨w.heap.size+1+1,1,none⟩) (by simp;omega) _;refine (ZjH _ ds _ (R3.below f) h3).mono ?_;rintro e b ⟨u3,rfl,F,j⟩;obtain ⟨K,L,rfl⟩:=Zag F;have aa:=Zad (cI q (a:=⟨w.heap.size+1+1,1,none⟩) (by simp) (.slice x is.length A)) j;have Y:=Zad (cI C (a:=⟨w.heap.size+1+1,1,none⟩) (by simp) (.slice x is.length A)) j;have c:b.heap[w.heap.size+1]? = some (.cells #[.slice none 0 0,.slice none 0 0,.slice none 0 0] 44 (0,0)):=(j.block _ (by simp;omega)).trans ((cr l ⟨w.heap.size+1+1,1,none⟩ (w.heap.size+1) _ (by simp)).trans J)
 have t:b.heap[w.heap.size+1+1]? = some (.cells #[.slice s ns.length y,.slice x is.length A,.slice none 0 0] 44 (0,0)):=(j.block _ (by simp;omega)).trans (cu l (w.heap.size+1+1) 1 _ _ (.slice x is.length A) m);have S:=f.trans (j.mono f.size);have X:b.ownsRow (w.heap.size+3) 157 3 (.slice K ds.length L) ds.length (dfcs ds):=Zah F (by simp;omega);have g0:b.cell? ⟨w.heap.size+1+1,0,none⟩=some (.slice s ns.length y):=by rw [cd b _ 0 _ _ _ t];rfl
 have g1:b.cell? ⟨w.heap.size+1+1,0+1,none⟩=some (.slice x is.length A):=by rw [cd b _ 1 _ _ _ t];rfl
 have g2:b.cell? ⟨w.heap.size+1+1,0+2,none⟩=some (.slice none 0 0):=by rw [cd b _ 2 _ _ _ t];rfl
 have gf:b.frozen? ⟨w.heap.size+1+1,0+2,none⟩=false:=cw b _ 2 _ _ t;have k0:b.cell? ⟨w.heap.size+1,0,none⟩=some (.slice none 0 0):=by rw [cd b _ 0 _ _ _ c];rfl
 have k1:b.cell? ⟨w.heap.size+1,0+1,none⟩=some (.slice none 0 0):=by rw [cd b _ 1 _ _ _ c];rfl
 have k2:b.cell? ⟨w.heap.size+1,0+2,none⟩=some (.slice none 0 0):=by rw [cd b _ 2 _ _ _ c];rfl
 have f0:b.frozen? ⟨w.heap.size+1,0,none⟩=false:=cw b _ 0 _ _ c;have f1:b.frozen? ⟨w.heap.size+1,0+1,none⟩=false:=cw b _ 1 _ _ c;have f2:b.frozen? ⟨w.heap.size+1,0+2,none⟩=false:=cw b _ 2 _ _ c;clear M f j q C F N J m R ad W H;go_wp2;have q0:=(cr b ⟨w.heap.size+1+1,2,none⟩ (w.heap.size+1) (.slice K ds.length L) (by simp)).trans c;have q1:=cu _ (w.heap.size+1) 0 _ _ (.slice s ns.length y) q0;have q2:=cu _ (w.heap.size+1) 1 _ _ (.slice x is.length A) q1;have q3:=cu _ (w.heap.size+1) 2 _ _ (.slice K ds.length L) q2
 have up:∀ {e:TypeId} {k:Nat} {v:Value} {n:Nat} {xs:List Value},b.ownsRow (w.heap.size+3) e k v n xs -> ((((b.setCell ⟨w.heap.size+1+1,2,none⟩ (.slice K ds.length L)).setCell ⟨w.heap.size+1,0,none⟩ (.slice s ns.length y)).setCell ⟨w.heap.size+1,1,none⟩ (.slice x is.length A)).setCell ⟨w.heap.size+1,2,none⟩ (.slice K ds.length L)).ownsRow (w.heap.size+3) e k v n xs:=fun h =>
  cI (cI (cI (cI h (by simp) _) (by simp) _) (by simp) _) (by simp) _
 refine cx (results_cell_row rfl _ _ (w.heap.size+1) 44 _ (0,0) _ rfl q3 underlying44 rfl ZnY) rfl ⟨_,_,_,rfl,Zah (up aa) (by omega),Zah (up Y) (by omega),Zah (up X) (by omega),?_⟩;exact (((S.setCell (p:=⟨w.heap.size+1+1,2,none⟩) (by simp;omega) _).setCell (p:=⟨w.heap.size+1,0,none⟩) (by simp) _).setCell (p:=⟨w.heap.size+1,1,none⟩) (by simp) _).setCell (p:=⟨w.heap.size+1,2,none⟩) (by simp) _
def Zbj:List Df -> ByteArray -> Nat -> Int
 | [],_,_=>-1
 | d :: ds,s,i=>if d.s.toList == s.toList then i else Zbj ds s (i+1)
theorem ZfX (ds:List Df)(s:ByteArray)(i:Nat)(d:Df)(h:ds[i]? = some d)(e:(d.s.toList == s.toList)=true):Zbj (ds.drop i) s i=i:=by
 obtain ⟨a,b⟩:=List.getElem?_eq_some_iff.1 h;rw [List.drop_eq_getElem_cons a,b,Zbj,if_pos e]
theorem Zeo (ds:List Df)(s:ByteArray)(i:Nat)(d:Df)(h:ds[i]? = some d)(e:(d.s.toList == s.toList)=false):Zbj (ds.drop i) s i=Zbj (ds.drop (i+1)) s (i+1):=by
 obtain ⟨a,b⟩:=List.getElem?_eq_some_iff.1 h;rw [List.drop_eq_getElem_cons a,b,Zbj,if_neg (by rw [e];simp)]
theorem ZfC (ds:List Df)(s:ByteArray)(i:Nat)(h:ds.length <= i):Zbj (ds.drop i) s i = -1:=by
 rw [List.drop_eq_nil_of_le h,Zbj]
theorem ZiP (n q:Option Addr)(n1 c1 n2 c2:Nat)(A:Value)(ds:List Df)(s:ByteArray)(w:World)(R:DfRow w A ds) :
  Calls prog 111 #[.agg #[.slice n n1 c1,.slice q n2 c2,A],.string s] w fun e C=>e=.returned (.int .i64 (Zbj ds s 0))/\Below w.heap.size w C:=by
 obtain ⟨r,b,rfl,z,G,F,a⟩:=R
 go_enter func111,ntmps111
 have l:Below w.heap.size w (w.alloc (Obj.cells #[.slice n n1 c1,.slice q n2 c2,.slice r ds.length b] 44)):=(cj _ _).alloc (ce _) _;have f:=co w (Obj.cells #[.slice n n1 c1,.slice q n2 c2,.slice r ds.length b] 44);go_wp2_with fail;generalize w.alloc (Obj.cells #[.slice n n1 c1,.slice q n2 c2,.slice r ds.length b] 44)=m at *;have t:m.cell? ⟨w.heap.size,0+2,none⟩=some (.slice r ds.length b):=by rw [cd m _ 2 _ _ _ f];rfl
 have y:=(bl f)
 go_loopw [5] (fun i wr=>∃ k:Nat,k <= ds.length/\i=.int .i64 k/\Hid (Zbj ds s 0=Zbj (ds.drop k) s k)/\Below m.heap.size m wr) (fun i _=>ds.length - (intOf i).toNat)
 case atStart=>exact ⟨0,by omega,rfl,rfl,cj _ _⟩
 case round =>
  obtain ⟨k,E,rfl,c,v⟩:=hrel;have u:=l.trans (v.mono l.size);have B:=(v.cell (p:=⟨w.heap.size,0+2,none⟩) y).trans t
  by_cases d:k < ds.length
  ·obtain ⟨g,o,rfl,D,a⟩:=a (by intro e;subst e;simp at d)
   obtain ⟨x,j⟩:∃ x,ds[k]? = some x:=⟨ds[k],by simp [d]⟩;obtain ⟨H,I,J⟩:=(a k x j).below u D;clear a;cases e:(x.s.toList == s.toList) with
   | true =>
    have h:Hid (Zbj ds s 0=k):=by unfold Hid;rw [c.out,ZfX ds s k x j e]
    clear j c;go_wp2;go_ret;exact ⟨by rw [h.out];rfl,u⟩
   | false =>
    have h:Hid (Zbj ds s 0=Zbj (ds.drop (k+1)) s (k+1)):=by unfold Hid;rw [c.out,Zeo ds s k x j e]
    clear j c;go_wp2
    go_roundw
    case rel=>exact ⟨k+1,by omega,by go_num,h,v⟩
    case measure=>simp [intOf];omega
  ·have h:Hid (Zbj ds s 0 = -1):=by unfold Hid;rw [c.out,ZfC ds s k (by omega)]
   clear c a;go_wp2;go_ret;exact ⟨by rw [h.out];rfl,u⟩
theorem Zew (d:Df)(s:ByteArray)(q:Nat)(w:World)(f:w.cell? ⟨q,0,none⟩=some (.string s))(c:q < w.heap.size) :
  Calls prog 190 #[.agg #[.string d.s,.int .i64 d.p,.int .i64 d.m],.pointer (some ⟨q,0,none⟩)] w fun e a=>e=.returned (.bool (d.s.toList == s.toList))/\Below w.heap.size w a:=by
 have b:¬ q=w.heap.size:=by omega
 go_enter func190,ntmps190
 go_wp2;go_ret;exact ⟨rfl,(cj _ _).alloc (ce _) _⟩
theorem ZeU (z:Value)(ds:List Df)(s:ByteArray)(q:Nat)(w:World)(R:DfRow w z ds)(A:w.cell? ⟨q,0,none⟩=some (.string s))(r:q < w.heap.size) :
  Calls prog 189 #[z,.func (.func 190) #[] #[.pointer (some ⟨q,0,none⟩)]] w fun e B=>e=.returned (.int .i64 (Zbj ds s 0))/\Below w.heap.size w B:=by
 obtain ⟨G,D,rfl,t,J,I,a⟩:=R
 go_enter func189,ntmps189
 go_wp2_with fail
 go_loopw [8] (fun i wr=>∃ k:Nat,k <= ds.length/\i=.int .i64 k/\Hid (Zbj ds s 0=Zbj (ds.drop k) s k)/\Below w.heap.size w wr) (fun i _=>ds.length - (intOf i).toNat)
 case atStart=>exact ⟨0,by omega,rfl,rfl,cj _ _⟩
 case round =>
  obtain ⟨k,H,rfl,h,d⟩:=hrel;have c:=(d.cell (p:=⟨q,0,none⟩) r).trans A;have j:=cy r d.size
  by_cases l:k < ds.length
  ·obtain ⟨g,o,rfl,E,a⟩:=a (by intro e;subst e;simp at l)
   obtain ⟨x,n⟩:∃ x,ds[k]? = some x:=⟨ds[k],by simp [l]⟩;obtain ⟨u,v,y⟩:=(a k x n).below d E;clear a;cases e:(x.s.toList == s.toList) with
   | true =>
    have m:Hid (Zbj ds s 0=k):=by unfold Hid;rw [h.out,ZfX ds s k x n e]
    clear n h;go_wp2_with fail;refine (Zew x s q _ c j).mono ?_;rintro C F ⟨rfl,b⟩;rw [e];have f:=d.trans (b.mono d.size);clear u v y c b;go_wp2;go_ret;exact ⟨by rw [m.out];rfl,f⟩
   | false =>
    have m:Hid (Zbj ds s 0=Zbj (ds.drop (k+1)) s (k+1)):=by unfold Hid;rw [h.out,Zeo ds s k x n e]
    clear n h;go_wp2_with fail;refine (Zew x s q _ c j).mono ?_;rintro C F ⟨rfl,b⟩;rw [e];have f:=d.trans (b.mono d.size);clear u v y c b;go_wp2
    go_roundw
    case rel=>exact ⟨k+1,by omega,by go_num,m,f⟩
    case measure=>simp [intOf];omega
  ·have m:Hid (Zbj ds s 0 = -1):=by unfold Hid;rw [h.out,ZfC ds s k (by omega)]
   clear h a;go_wp2;go_ret;exact ⟨by rw [m.out];rfl,d⟩
theorem Zik (f i:Option Addr)(n1 c1 n2 c2:Nat)(h:Value)(ds:List Df)(s:ByteArray)(w:World)(R:DfRow w h ds) :
  Calls prog 155 #[.agg #[.slice f n1 c1,.slice i n2 c2,h],.string s] w fun e j=>e=.returned (.int .i64 (Zbj ds s 0))/\Below w.heap.size w j:=by
 have k:∀ (g:Fn) (first c:Array Value) (w:World),(Instr.makeFunc g first c).run prog w=.ok (.func g first c) w:=fun _ _ _ _=>rfl
 obtain ⟨l,c3,rfl⟩:=R.small
 go_enter func155,ntmps155
 go_wp2_with fail;have a:Below w.heap.size w ((w.alloc (Obj.cells #[.slice f n1 c1,.slice i n2 c2,.slice l ds.length c3] 44)).alloc (Obj.cells #[.string s] 9)):=((cj _ _).alloc (ce _) _).alloc (by simp) _;refine (ZeU _ ds s (w.heap.size+1) _ (R.below a) ?_ ?_).mono ?_
 ·rw [cd _ _ 0 _ _ _ (cH _ _ _)];rfl
 ·simp
 rintro e m ⟨rfl,b⟩;have d:=a.trans (b.mono a.size);clear a b;go_wp2;go_ret;exact ⟨rfl,d⟩
def Zca (x:In):Bool:=x.n == 0 && x.i == 0 && x.s.toList == []
def litB (x:In)(n1:Nat):Bool:=x.i == 0 && x.s.toList == [] && decide (0 <= x.n) && decide (x.n < n1)
def varB (x:In):Bool:=x.s.toList == [] && decide (0 <= x.n) && decide (x.n <= 20) && decide (0 <= x.i) && decide (x.i < 4)
def Zba (x:In):Bool:=x.n == 0 && x.i == 0 && Zb3 x.s
def wayB (x:In)(i:Int)(n2:Nat):Bool:=x.i == 0 && x.s.toList == [] && decide (i < x.n) && decide (x.n <= n2)
def funB (x:In)(i:Int)(n2:Nat):Bool:=x.s.toList == [] && decide (i < x.n) && decide (x.n < n2) && decide (0 <= x.i) && decide (x.i <= 4)
def ZcR (x:In):Bool:=x.n == 0 && x.s.toList == [] && decide (0 <= x.i) && decide (x.i <= 4)
theorem ZeF (x:In)(c d f:Option Addr)(n1 n2 a c1 c2 c3:Nat)(i:Int)(w:World) :
  Calls prog 187 #[.agg #[.int .i64 x.o,.int .i64 x.n,.int .i64 x.i,.string x.s],.agg #[.slice c n1 c1,.slice d n2 c2,.slice f a c3],.int .i64 i] w fun e b=>e=.returned (.bool (Zca x))/\Below w.heap.size w b:=by
 go_enter func187,ntmps187
 go_wp2
 all_goals
  go_ret;refine ⟨retB ?_,?_⟩
  ·unfold Zca
   first
    | (simp [*];done)
    | (simp [*];omega)
    | (rw [Bool.eq_iff_iff];simp [*];omega)
  ·first
    | exact ((cj _ _).alloc (ce _) _).alloc (by simp) _
    | exact (((cj _ _).alloc (ce _) _).alloc (by simp) _).alloc (by simp;omega) _
theorem ZjG (x:In)(c d f:Option Addr)(n1 n2 a c1 c2 c3:Nat)(i:Int)(w:World) :
  Calls prog 181 #[.agg #[.int .i64 x.o,.int .i64 x.n,.int .i64 x.i,.string x.s],.agg #[.slice c n1 c1,.slice d n2 c2,.slice f a c3],.int .i64 i] w fun e b=>e=.returned (.bool (litB x n1))/\Below w.heap.size w b:=by
 go_enter func181,ntmps181
 go_wp2
 all_goals
  go_ret;refine ⟨retB ?_,?_⟩
  ·unfold litB
   first
    | (simp [*];done)
    | (simp [*];omega)
    | (rw [Bool.eq_iff_iff];simp [*];omega)
  ·first
    | exact ((cj _ _).alloc (ce _) _).alloc (by simp) _
    | exact (((cj _ _).alloc (ce _) _).alloc (by simp) _).alloc (by simp;omega) _
theorem Zj4 (x:In)(c d f:Option Addr)(n1 n2 a c1 c2 c3:Nat)(i:Int)(w:World) :
  Calls prog 182 #[.agg #[.int .i64 x.o,.int .i64 x.n,.int .i64 x.i,.string x.s],.agg #[.slice c n1 c1,.slice d n2 c2,.slice f a c3],.int .i64 i] w fun e b=>e=.returned (.bool (varB x))/\Below w.heap.size w b:=by
 go_enter func182,ntmps182
 go_wp2
 all_goals
  go_ret;refine ⟨retB ?_,?_⟩
  ·unfold varB
   first
    | (simp [*];done)
    | (simp [*];omega)
    | (rw [Bool.eq_iff_iff];simp [*];omega)
  ·first
    | exact ((cj _ _).alloc (ce _) _).alloc (by simp) _
    | exact (((cj _ _).alloc (ce _) _).alloc (by simp) _).alloc (by simp;omega) _
theorem Zf8 (x:In)(c f g:Option Addr)(n1 n2 a c1 c2 c3:Nat)(i:Int)(w:World)(d:x.s.size <= maxLen) :
  Calls prog 183 #[.agg #[.int .i64 x.o,.int .i64 x.n,.int .i64 x.i,.string x.s],.agg #[.slice c n1 c1,.slice f n2 c2,.slice g a c3],.int .i64 i] w fun e b=>e=.returned (.bool (Zba x))/\Below w.heap.size w b:=by
 go_enter func183,ntmps183
 go_wp2_with (go_at_call 154;refine (ZdO x.s _ d).mono ?_;rintro e h ⟨rfl,rfl⟩)
 all_goals
  go_ret;refine ⟨retB ?_,?_⟩
  ·unfold Zba
   first
    | (simp [*];done)
    | (simp [*];omega)
    | (rw [Bool.eq_iff_iff];simp [*];omega)
  ·first
    | exact ((cj _ _).alloc (ce _) _).alloc (by simp) _
    | exact (((cj _ _).alloc (ce _) _).alloc (by simp) _).alloc (by simp;omega) _
theorem ZfZ (x:In)(c d f:Option Addr)(n1 n2 a c1 c2 c3:Nat)(i:Int)(w:World) :
  Calls prog 184 #[.agg #[.int .i64 x.o,.int .i64 x.n,.int .i64 x.i,.string x.s],.agg #[.slice c n1 c1,.slice d n2 c2,.slice f a c3],.int .i64 i] w fun e b=>e=.returned (.bool (wayB x i n2))/\Below w.heap.size w b:=by
 go_enter func184,ntmps184
 go_wp2
 all_goals
  go_ret;refine ⟨retB ?_,?_⟩
  ·unfold wayB
   first
    | (simp [*];done)
    | (simp [*];omega)
    | (rw [Bool.eq_iff_iff];simp [*];omega)
  ·first
    | exact ((cj _ _).alloc (ce _) _).alloc (by simp) _
    | exact (((cj _ _).alloc (ce _) _).alloc (by simp) _).alloc (by simp;omega) _
theorem Zjs (x:In)(c d f:Option Addr)(n1 n2 a c1 c2 c3:Nat)(i:Int)(w:World) :
  Calls prog 185 #[.agg #[.int .i64 x.o,.int .i64 x.n,.int .i64 x.i,.string x.s],.agg #[.slice c n1 c1,.slice d n2 c2,.slice f a c3],.int .i64 i] w fun e b=>e=.returned (.bool (funB x i n2))/\Below w.heap.size w b:=by
 go_enter func185,ntmps185
 go_wp2
 all_goals
  go_ret;refine ⟨retB ?_,?_⟩
  ·unfold funB
   first
    | (simp [*];done)
    | (simp [*];omega)
    | (rw [Bool.eq_iff_iff];simp [*];omega)
  ·first
    | exact ((cj _ _).alloc (ce _) _).alloc (by simp) _
    | exact (((cj _ _).alloc (ce _) _).alloc (by simp) _).alloc (by simp;omega) _
theorem Zib (x:In)(c d f:Option Addr)(n1 n2 a c1 c2 c3:Nat)(i:Int)(w:World) :
  Calls prog 186 #[.agg #[.int .i64 x.o,.int .i64 x.n,.int .i64 x.i,.string x.s],.agg #[.slice c n1 c1,.slice d n2 c2,.slice f a c3],.int .i64 i] w fun e b=>e=.returned (.bool (ZcR x))/\Below w.heap.size w b:=by
 go_enter func186,ntmps186
 go_wp2
 all_goals
  go_ret;refine ⟨retB ?_,?_⟩
  ·unfold ZcR
   first
    | (simp [*];done)
    | (simp [*];omega)
    | (rw [Bool.eq_iff_iff];simp [*];omega)
  ·first
    | exact ((cj _ _).alloc (ce _) _).alloc (by simp) _
    | exact (((cj _ _).alloc (ce _) _).alloc (by simp) _).alloc (by simp;omega) _
def Zaz (x:In)(i:Int)(n1 n2:Nat):Bool :=
 if x.o=1 then litB x n1 else if x.o=2 then varB x else if x.o=3 then Zba x else if x.o=4 then wayB x i n2 else if x.o=5 then wayB x i n2
 else if x.o=6 then funB x i n2 else if x.o=7 then ZcR x else if x.o=8 then Zca x else if x.o=9 then Zca x else false
theorem Zbx (d:Option Addr)(n b:Nat)(a:Int)(w:World)(g:n <= 9223372036854775807) :
  Calls prog 143 #[.agg #[.slice d n b],.int .i64 a] w fun e c=>e=.returned (.bool (decide (0 <= a) && decide (a < n)))/\Below w.heap.size w c:=by
 go_enter func143,ntmps143
 go_wp2_with fail;refine (Zas _ _ _ _).mono ?_;rintro e f ⟨rfl,rfl⟩;go_wp2;go_ret;refine ⟨retB ?_,(cj _ _).alloc (ce _) _⟩;rw [Bool.eq_iff_iff];simp;omega
theorem ZiJ (q u:Option Addr)(n1 c1 n c3:Nat)(r:Value)(is:List In)(k:Nat)(x:In)(w:World)(R:InRow w r is)(l:is[k]? = some x)(h:n1 <= 9223372036854775807) :
  Calls prog 109 #[.agg #[.slice q n1 c1,r,.slice u n c3],.int .i64 k] w fun e C=>e=.returned (.bool (Zaz x k n1 is.length))/\Below w.heap.size w C:=by
 obtain ⟨N,c2,rfl,s,J,p,i⟩:=R;have m:k < is.length:=(List.getElem?_eq_some_iff.1 l).1;obtain ⟨g,o,rfl,Q,i⟩:=i (by intro e;subst e;simp at m);obtain ⟨z,D,E,B⟩:=i k x l;have f:=p x (List.mem_of_getElem? l);have y:¬ g=w.heap.size:=by omega
 clear i l p;have a:Below w.heap.size w (w.alloc (Obj.cells #[.slice q n1 c1,.slice (some ⟨g,o,none⟩) is.length c2,.slice u n c3] 44)):=(cj _ _).alloc (ce _) _;obtain ⟨c,F,A,j⟩:=x
 dsimp only at z D E B f
 have t:(c < 1 \/ 9 < c) \/ c=1 \/ c=2 \/ c=3 \/ c=4 \/ c=5 \/ c=6 \/ c=7 \/ c=8 \/ c=9:=by omega
 rcases t with t | rfl | rfl | rfl | rfl | rfl | rfl | rfl | rfl | rfl
 ·have v:Hid (Zaz ⟨c,F,A,j⟩ k n1 is.length=false):=by unfold Hid;simp [Zaz,show ¬ c=1 by omega,show ¬ c=2 by omega,show ¬ c=3 by omega,show ¬ c=4 by omega,show ¬ c=5 by omega,show ¬ c=6 by omega,show ¬ c=7 by omega,show ¬ c=8 by omega,show ¬ c=9 by omega]
  have L:¬ c=1:=by omega
  have H:¬ c=2:=by omega
  have K:¬ c=3:=by omega
  have M:¬ c=4:=by omega
  have G:¬ c=5:=by omega
  have S:¬ c=6:=by omega
  have I:¬ c=7:=by omega
  have O:¬ c=8:=by omega
  have P:¬ c=9:=by omega
  go_enter func109,ntmps109
  go_wp2;go_ret;exact ⟨by rw [v.out];rfl,(a.alloc a.size _).alloc (by have:=a.size;simp;omega) _⟩
 ·go_enter func109,ntmps109
  go_wp2_with (first
   | (go_at_call 143;refine (Zbx _ _ _ _ _ h).mono ?_;rintro e d ⟨rfl,b⟩)
   | (go_at_call 110;refine (ZaS j _ f).mono ?_;rintro e d ⟨rfl,rfl⟩)
   | (go_at_call 75;refine (Zas _ _ _ _).mono ?_;rintro e d ⟨rfl,rfl⟩))
  all_goals
   go_ret;refine ⟨retB ?_,?_⟩
   ·simp only [Zaz,litB,varB,Zba,wayB,funB,ZcR,Zca]
    first
     | (simp [*];done)
     | (simp [*];omega)
     | (rw [Bool.eq_iff_iff];simp [*];omega)
   ·first
     | exact (a.alloc a.size _).alloc (by have:=a.size;simp;omega) _
     | exact ((a.alloc a.size _).alloc (by have:=a.size;simp;omega) _).trans (b.mono (by simp;omega))
 ·go_enter func109,ntmps109
  go_wp2_with (first
   | (go_at_call 143;refine (Zbx _ _ _ _ _ h).mono ?_;rintro e d ⟨rfl,b⟩)
   | (go_at_call 110;refine (ZaS j _ f).mono ?_;rintro e d ⟨rfl,rfl⟩)
   | (go_at_call 75;refine (Zas _ _ _ _).mono ?_;rintro e d ⟨rfl,rfl⟩))
  all_goals
   go_ret;refine ⟨retB ?_,?_⟩
   ·simp only [Zaz,litB,varB,Zba,wayB,funB,ZcR,Zca]
    first
     | (simp [*];done)
     | (simp [*];omega)
     | (rw [Bool.eq_iff_iff];simp [*];omega)
   ·first
     | exact (a.alloc a.size _).alloc (by have:=a.size;simp;omega) _
     | exact ((a.alloc a.size _).alloc (by have:=a.size;simp;omega) _).trans (b.mono (by simp;omega))
 ·go_enter func109,ntmps109
  go_wp2_with (first
   | (go_at_call 143;refine (Zbx _ _ _ _ _ h).mono ?_;rintro e d ⟨rfl,b⟩)
   | (go_at_call 110;refine (ZaS j _ f).mono ?_;rintro e d ⟨rfl,rfl⟩)
   | (go_at_call 75;refine (Zas _ _ _ _).mono ?_;rintro e d ⟨rfl,rfl⟩))
  all_goals
   go_ret;refine ⟨retB ?_,?_⟩
   ·simp only [Zaz,litB,varB,Zba,wayB,funB,ZcR,Zca]
    first
     | (simp [*];done)
     | (simp [*];omega)
     | (rw [Bool.eq_iff_iff];simp [*];omega)
   ·first
     | exact (a.alloc a.size _).alloc (by have:=a.size;simp;omega) _
     | exact ((a.alloc a.size _).alloc (by have:=a.size;simp;omega) _).trans (b.mono (by simp;omega))
 ·go_enter func109,ntmps109
  go_wp2_with (first
   | (go_at_call 143;refine (Zbx _ _ _ _ _ h).mono ?_;rintro e d ⟨rfl,b⟩)
   | (go_at_call 110;refine (ZaS j _ f).mono ?_;rintro e d ⟨rfl,rfl⟩)
   | (go_at_call 75;refine (Zas _ _ _ _).mono ?_;rintro e d ⟨rfl,rfl⟩))
  all_goals
   go_ret;refine ⟨retB ?_,?_⟩
   ·simp only [Zaz,litB,varB,Zba,wayB,funB,ZcR,Zca]
    first
     | (simp [*];done)
     | (simp [*];omega)
     | (rw [Bool.eq_iff_iff];simp [*];omega)
   ·first
     | exact (a.alloc a.size _).alloc (by have:=a.size;simp;omega) _
     | exact ((a.alloc a.size _).alloc (by have:=a.size;simp;omega) _).trans (b.mono (by simp;omega))
 ·go_enter func109,ntmps109
  go_wp2_with (first
   | (go_at_call 143;refine (Zbx _ _ _ _ _ h).mono ?_;rintro e d ⟨rfl,b⟩)
   | (go_at_call 110;refine (ZaS j _ f).mono ?_;rintro e d ⟨rfl,rfl⟩)
   | (go_at_call 75;refine (Zas _ _ _ _).mono ?_;rintro e d ⟨rfl,rfl⟩))
  all_goals
   go_ret;refine ⟨retB ?_,?_⟩
   ·simp only [Zaz,litB,varB,Zba,wayB,funB,ZcR,Zca]
    first
     | (simp [*];done)
     | (simp [*];omega)
     | (rw [Bool.eq_iff_iff];simp [*];omega)
   ·first
     | exact (a.alloc a.size _).alloc (by have:=a.size;simp;omega) _
     | exact ((a.alloc a.size _).alloc (by have:=a.size;simp;omega) _).trans (b.mono (by simp;omega))
 ·go_enter func109,ntmps109
  go_wp2_with (first
   | (go_at_call 143;refine (Zbx _ _ _ _ _ h).mono ?_;rintro e d ⟨rfl,b⟩)
   | (go_at_call 110;refine (ZaS j _ f).mono ?_;rintro e d ⟨rfl,rfl⟩)
   | (go_at_call 75;refine (Zas _ _ _ _).mono ?_;rintro e d ⟨rfl,rfl⟩))
  all_goals
   go_ret;refine ⟨retB ?_,?_⟩
   ·simp only [Zaz,litB,varB,Zba,wayB,funB,ZcR,Zca]
    first
     | (simp [*];done)
     | (simp [*];omega)
     | (rw [Bool.eq_iff_iff];simp [*];omega)
   ·first
     | exact (a.alloc a.size _).alloc (by have:=a.size;simp;omega) _
     | exact ((a.alloc a.size _).alloc (by have:=a.size;simp;omega) _).trans (b.mono (by simp;omega))
 ·go_enter func109,ntmps109
  go_wp2_with (first
   | (go_at_call 143;refine (Zbx _ _ _ _ _ h).mono ?_;rintro e d ⟨rfl,b⟩)
   | (go_at_call 110;refine (ZaS j _ f).mono ?_;rintro e d ⟨rfl,rfl⟩)
   | (go_at_call 75;refine (Zas _ _ _ _).mono ?_;rintro e d ⟨rfl,rfl⟩))
  all_goals
   go_ret;refine ⟨retB ?_,?_⟩
   ·simp only [Zaz,litB,varB,Zba,wayB,funB,ZcR,Zca]
    first
     | (simp [*];done)
     | (simp [*];omega)
     | (rw [Bool.eq_iff_iff];simp [*];omega)
   ·first
     | exact (a.alloc a.size _).alloc (by have:=a.size;simp;omega) _
     | exact ((a.alloc a.size _).alloc (by have:=a.size;simp;omega) _).trans (b.mono (by simp;omega))
 ·go_enter func109,ntmps109
  go_wp2_with (first
   | (go_at_call 143;refine (Zbx _ _ _ _ _ h).mono ?_;rintro e d ⟨rfl,b⟩)
   | (go_at_call 110;refine (ZaS j _ f).mono ?_;rintro e d ⟨rfl,rfl⟩)
   | (go_at_call 75;refine (Zas _ _ _ _).mono ?_;rintro e d ⟨rfl,rfl⟩))
  all_goals
   go_ret;refine ⟨retB ?_,?_⟩
   ·simp only [Zaz,litB,varB,Zba,wayB,funB,ZcR,Zca]
    first
     | (simp [*];done)
     | (simp [*];omega)
     | (rw [Bool.eq_iff_iff];simp [*];omega)
   ·first
     | exact (a.alloc a.size _).alloc (by have:=a.size;simp;omega) _
     | exact ((a.alloc a.size _).alloc (by have:=a.size;simp;omega) _).trans (b.mono (by simp;omega))
 ·go_enter func109,ntmps109
  go_wp2_with (first
   | (go_at_call 143;refine (Zbx _ _ _ _ _ h).mono ?_;rintro e d ⟨rfl,b⟩)
   | (go_at_call 110;refine (ZaS j _ f).mono ?_;rintro e d ⟨rfl,rfl⟩)
   | (go_at_call 75;refine (Zas _ _ _ _).mono ?_;rintro e d ⟨rfl,rfl⟩))
  all_goals
   go_ret;refine ⟨retB ?_,?_⟩
   ·simp only [Zaz,litB,varB,Zba,wayB,funB,ZcR,Zca]
    first
     | (simp [*];done)
     | (simp [*];omega)
     | (rw [Bool.eq_iff_iff];simp [*];omega)
   ·first
     | exact (a.alloc a.size _).alloc (by have:=a.size;simp;omega) _
     | exact ((a.alloc a.size _).alloc (by have:=a.size;simp;omega) _).trans (b.mono (by simp;omega))
end Go.Proofs.YtkpfangkfknhoaaGreatDoor
