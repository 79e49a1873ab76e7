/-
  Texts that stood by themselves, laid into one.
-/
import Derived.Test.YtanhoamdlhaaeaaGreatDoorNodeFitsM
import Derived.Test.YtanhoamdlhaaeaaGreatDoorMachRecM
import Derived.Test.YtanhoamdlhaaeaaGreatDoorInM
/-
  Helpers: a definition as 3 cells, a slice of these read as a list, and the contracts of the laws' helpers on them. No condition.
-/
set_option maxHeartbeats 1600000
namespace Go.Proofs.YtanhoamdlhaaeaaGreatDoor
open Go.Proofs.Tryz
open Go.RowKit
structure Df where
 s:ByteArray
 p:Int
 m:Int
def Df.cs (x:Df):List Value:=[.string x.s,.int .i64 x.p,.int .i64 x.m]
def dfcs (xs:List Df):List Value:=xs.flatMap Df.cs
theorem ZcT (x:Df)(a:List Df):dfcs (x :: a)=x.cs ++ dfcs a:=rfl
theorem ZcU (a:List Df):(dfcs a).length=a.length * 3:=by
 induction a with
 | nil=>rfl
 | cons x a ih=>rw [ZcT,List.length_append,ih,List.length_cons];simp [Df.cs];omega
theorem Zgg (a:List Df)(i:Nat)(x:Df)(h:a[i]? = some x)(j:Nat)(b:j < 3):(dfcs a)[i * 3+j]? = x.cs[j]?:=by
 induction a generalizing i with
 | nil=>simp at h
 | cons y ys ih =>
  rw [ZcT];cases i with
  | zero =>
   simp at h;subst h;rw [Nat.zero_mul,Nat.zero_add,List.getElem?_append_left (by simpa [Df.cs] using b)]
  | succ i =>
   rw [List.getElem?_append_right (by simp [Df.cs];omega)];rw [show (i+1) * 3+j - y.cs.length=i * 3+j by simp [Df.cs];omega];exact ih i (by simpa using h)
theorem ZdV (a:List Df)(i:Nat)(x b:Df)(h:a[i]? = some x)(j:Nat)(c:j < 3)(u:Value)(e:x.cs.set j u=b.cs):(dfcs a).set (i * 3+j) u=dfcs (a.set i b):=by
 induction a generalizing i with
 | nil=>simp at h
 | cons y ys ih =>
  rw [ZcT];cases i with
  | zero =>
   simp at h;subst h;rw [Nat.zero_mul,Nat.zero_add,List.set_append_left _ _ (by simpa [Df.cs] using c),e];rfl
  | succ i =>
   rw [List.set_append_right _ _ (by simp [Df.cs];omega)];rw [show (i+1) * 3+j - y.cs.length=i * 3+j by simp [Df.cs];omega,ih i (by simpa using h)];rfl
theorem ZhQ (a:List Df)(i:Nat)(x b:Df)(h:a[i]? = some x)(u:Value)(e:x.cs.set 0 u=b.cs):(dfcs a).set (i * 3) u=dfcs (a.set i b) :=
 ZdV a i x b h 0 (by omega) u e
theorem Df.one (x:Df):∀ u ∈ x.cs,u.oneCell'=true:=by
 intro u a;simp only [Df.cs,List.mem_cons,List.not_mem_nil,or_false] at a;rcases a with rfl | rfl | rfl <;> rfl
def DfAt (w:World)(g o:Nat)(x:Df):Prop :=
 w.cell? ⟨g,o,none⟩=some (.string x.s)/\w.cell? ⟨g,o+1,none⟩=some (.int .i64 x.p)/\w.cell? ⟨g,o+2,none⟩=some (.int .i64 x.m)
theorem DfAt.below {w c:World}{g o B:Nat}{x:Df}(h:DfAt w g o x)(a:Below B w c)(b:g < B):DfAt c g o x :=
 ⟨(a.cell (p:=⟨g,o,none⟩) b).trans h.1,(a.cell (p:=⟨g,o+1,none⟩) b).trans h.2.1,(a.cell (p:=⟨g,o+2,none⟩) b).trans h.2.2⟩
def DfRow (w:World)(v:Value)(xs:List Df):Prop :=
 ∃ ao cap,v=.slice ao xs.length cap/\(xs.length <= cap/\(ao=none -> cap=0))/\xs.length <= 9223372036854775807/\(∀ x ∈ xs,x.s.size <= maxLen) /\
  (xs ≠ [] -> ∃ g o,ao=some ⟨g,o,none⟩/\g < w.heap.size/\∀ i x,xs[i]? = some x -> DfAt w g (o+i * 3) x)
theorem DfRow.small {w:World}{v:Value}{c:List Df}(R:DfRow w v c):∃ b a,v=.slice b c.length a:=by
 obtain ⟨b,a,rfl,_⟩:=R;exact ⟨b,a,rfl⟩
theorem DfRow.below {w f:World}{v:Value}{j:List Df}(h:DfRow w v j)(d:Below w.heap.size w f):DfRow f v j:=by
 obtain ⟨k,b,rfl,l,m,n,a⟩:=h;refine ⟨k,b,rfl,l,m,n,fun c=>?_⟩;obtain ⟨g,o,rfl,e,a⟩:=a c;exact ⟨g,o,rfl,cm e d.size,fun i x hi=>(a i x hi).below d e⟩
theorem DfRow.of_own {w:World}{b:Nat}{v:Value}{a:List Df}(h:w.ownsRow b 157 3 v a.length (dfcs a))(q:a.length <= 9223372036854775807)(r:∀ x ∈ a,x.s.size <= maxLen):DfRow w v a:=by
 rcases h.2 with ⟨rfl,l⟩ | ⟨g,c,k,rfl,t,o,d,m,n,f⟩
 ·have:a=[]:=List.eq_nil_of_length_eq_zero l
  subst this;exact ⟨none,0,rfl,by simp,by simp,by simp,fun h=>absurd rfl h⟩
 ·refine ⟨_,c,rfl,⟨d,fun h=>by cases h⟩,q,r,fun _=>⟨g,0,rfl,(bl o),fun i x hi=>?_⟩⟩
  have u:i < a.length:=(List.getElem?_eq_some_iff.1 hi).1
  have e:∀ j,j < 3 -> w.cell? ⟨g,0+i * 3+j,none⟩=x.cs[j]?:=fun j p=>by
   have:=h.cellAt (i * 3+j) (by omega);rw [Nat.zero_add,this,Zgg a i x hi j p]
  exact ⟨e 0 (by omega),e 1 (by omega),e 2 (by omega)⟩
theorem Zl4:(prog.info? 157).map (fun i=>(i.zero,i.size,i.bytes))=some (some (.agg #[.string ByteArray.empty,.int .i64 0,.int .i64 0]),3,32):=by kernel_rfl
theorem Zl5:(prog.info? 157).map (·.size)=some 3:=by kernel_rfl
theorem Zdk {ops:Array Oper}{f:List Oper}{op:Oper}{a:Act}{w:World}{Q:Exit -> Act -> World -> Prop}(n:op.guard=none)(x y:Operand)(v:op.op=.store 157 x y)(e g i k:Nat)(b:List Df)(c:Df)(A:a.eval x=.pointer (some ⟨g,i * 3,none⟩))(B:a.eval y=.agg #[.string c.s,.int .i64 c.p,.int .i64 c.m])(hi:i < b.length)(d:w.ownsRow e 157 3 (.slice (some ⟨g,0,none⟩) b.length k) b.length (dfcs b))(h:∀ t:World,t.ownsRow e 157 3 (.slice (some ⟨g,0,none⟩) b.length k) b.length (dfcs (b.set i c)) -> w.grownBy t (some g) -> wpList prog ops Q f (a.put op.dst undef) t):wpList prog ops Q (op :: f) a w:=by
 have z:w.there g (i * 3) 3:=fun j C=>by
  have:=d.cellAt (i * 3+j) (by omega);refine ⟨?_,d.frozenAt _⟩;rw [this,List.getElem?_eq_getElem (by rw [ZcU];omega)];rfl
 refine wpList_store_mid n 157 x y v g (i * 3) _ A B z Zl5 (all_oneCell_toArray c.one) ?_;have u:b[i]? = some b[i]:=List.getElem?_eq_getElem hi;have l:∀ y:Df,(b.set i y)[i]? = some y:=fun y=>by simp [hi]
 have o:=d.stored (i * 3) (.string c.s);rw [ZhQ b i b[i] ⟨c.s,b[i].p,b[i].m⟩ u _ rfl] at o;have q:=o.1.stored (i * 3+1) (.int .i64 c.p);rw [ZdV (b.set i ⟨c.s,b[i].p,b[i].m⟩) i ⟨c.s,b[i].p,b[i].m⟩ ⟨c.s,c.p,b[i].m⟩ (l _) 1 (by omega) (.int .i64 c.p) rfl,List.set_set] at q;have r:=q.1.stored (i * 3+2) (.int .i64 c.m);rw [ZdV (b.set i ⟨c.s,c.p,b[i].m⟩) i ⟨c.s,c.p,b[i].m⟩ ⟨c.s,c.p,c.m⟩ (l _) 2 (by omega) (.int .i64 c.m) rfl,List.set_set] at r;exact h _ r.1 ((o.2.trans q.2).trans r.2)
theorem ZjY (x:Df)(w:World) :
  Calls prog 99 #[.agg #[.string x.s,.int .i64 x.p,.int .i64 x.m]] w fun e a=>e=.returned (.agg #[.string x.s,.int .i64 x.p,.int .i64 x.m])/\Below w.heap.size w a:=by
 go_enter func99,ntmps99
 go_wp2
 exact ck (results_cell_row rfl _ _ (w.heap.size+1) 157 _ (0,0) _ rfl ((cn _ _ (by simp)).trans (cw _ _ _)) underlying157 rfl Zl5) rfl
  ⟨rfl,(((cf _ _).alloc (ce _) _).alloc (by simp) _).alloc (by simp;omega) _⟩
theorem ZjV (x:Df)(l:Int)(w:World)(c:x.s.size <= maxLen)(f:0 <= l)(b:l <= 1048576) :
  Calls prog 87 #[.agg #[.string x.s,.int .i64 x.p,.int .i64 x.m],.int .i64 l] w fun e d=>e=.returned (.int .i64 (less l x.s.size))/\Below w.heap.size w d:=by
 unfold maxLen at c
 go_enter func87,ntmps87
 by_cases h:l < x.s.size
 ·have a:Hid (less l x.s.size = -1):=by unfold Hid less;rw [if_pos h]
  go_wp2;go_ret;exact ⟨by rw [a.out];rfl,(cf _ _).alloc (ce _) _⟩
 ·have a:Hid (less l x.s.size=l - x.s.size):=by unfold Hid less;rw [if_neg h]
  go_wp2;go_ret;exact ⟨by rw [a.out];rfl,(cf _ _).alloc (ce _) _⟩
theorem Zjg (x:Df)(w:World) :
  Calls prog 112 #[.agg #[.string x.s,.int .i64 x.p,.int .i64 x.m],.agg #[.string x.s,.int .i64 x.p,.int .i64 x.m]] w fun e a=>e=.returned (.bool true)/\Below w.heap.size w a:=by
 go_enter func112,ntmps112
 go_wp2;go_ret;exact ⟨rfl,((cf _ _).alloc (ce _) _).alloc (by simp) _⟩
def Zfv:Df:=⟨ByteArray.empty,0,0⟩
def ZaG (xs:List Df)(j:Nat):List Df:=xs.take j ++ List.replicate (xs.length - j) Zfv
theorem ZcS (a:List Df)(j:Nat)(h:j <= a.length):(ZaG a j).length=a.length:=by simp [ZaG];omega
theorem ZdT (a:List Df):ZaG a a.length=a:=by simp [ZaG]
theorem ZgI (n:Nat):dfcs (List.replicate n Zfv)=(madeCells #[Value.string ByteArray.empty,.int .i64 0,.int .i64 0] (n * 3)).toList:=by
 apply List.ext_getElem?;intro j
 by_cases b:j < n * 3
 ·have c:j / 3 < n:=by omega
  rw [show j=j / 3 * 3+j % 3 by omega,Zgg _ (j / 3) Zfv (by simp [c]) (j % 3) (by omega)];rw [show j / 3 * 3+j % 3=j by omega];have a:j % 3=0 \/ j % 3=1 \/ j % 3=2:=by omega
  rcases a with a | a | a <;> simp [madeCells,b,a,Zfv,Df.cs]
 ·rw [List.getElem?_eq_none (by rw [ZcU,List.length_replicate];omega),List.getElem?_eq_none (by simp [madeCells];omega)]
theorem ZdU (a:List Df):dfcs (ZaG a 0)=(madeCells #[Value.string ByteArray.empty,.int .i64 0,.int .i64 0] (a.length * 3)).toList:=by
 rw [<- ZgI];simp [ZaG]
theorem Zes (a:List Df)(j:Nat)(h:j < a.length):(ZaG a j).set j a[j]=ZaG a (j+1):=by
 unfold ZaG;rw [show a.length - j=a.length - (j+1)+1 by omega,List.replicate_succ,List.take_succ_eq_append_getElem h];rw [List.set_append_right _ _ (by simp;omega)];have e:j - (List.take j a).length=0:=by simp;omega
 rw [e,List.set_cons_zero,List.append_assoc];rfl
theorem ZiU (v:Value)(b:List Df)(w:World)(R:DfRow w v b)(P:b.length <= 2097152) :
  Calls prog 58 #[v] w fun e E=>∃ D,e=.returned D/\E.ownsRow w.heap.size 157 3 D b.length (dfcs b)/\Below w.heap.size w E:=by
 obtain ⟨O,I,rfl,B,_,Q,d⟩:=R;obtain ⟨C,hi,y,z,A⟩:=info_parts Zl4;have f:C.bytes * b.length <= 281474976710656:=by rw [A];omega
 have p:b.length <= maxLen:=by unfold maxLen;omega
 go_enter func58,ntmps58
 go_wp2_with (at_make;refine wpList_make_full _ rfl _ _ 43 rfl w.heap.size 157 C _ 3 underlying43 hi y z _ _ _ _ b.length rfl rfl rfl rfl f p (ce _) ?_)
 intro L c l;have a:Below w.heap.size w L:=(cf _ _).grown l (ce _) (by intro k x;cases x);clear l;go_wp2
 go_loopw [4] (fun i wr=>∃ j:Nat,j <= b.length/\i=.int .i64 j/\wr.ownsRow w.heap.size 157 3 (.slice (some ⟨w.heap.size,0,none⟩) b.length b.length) b.length (dfcs (ZaG b j))/\Below w.heap.size w wr) (fun i _=>b.length - (intOf i).toNat)
 case atStart=>exact ⟨0,by omega,rfl,by rw [ZdU];exact c,a⟩
 case round =>
  clear c a f p;obtain ⟨j,K,rfl,c,a⟩:=hrel
  by_cases r:j < b.length
  ·obtain ⟨g,o,rfl,J,d⟩:=d (by intro e;subst e;simp at r)
   obtain ⟨c0,G,H⟩:=(d j b[j] (by simp [r])).below a J;have F:=ZcS b j K;clear d;go_wp2_with fail;refine (ZjY b[j] _).mono ?_;rintro e M ⟨rfl,q⟩
   have m:M.ownsRow w.heap.size 157 3 (.slice (some ⟨w.heap.size,0,none⟩) (ZaG b j).length b.length) (ZaG b j).length (dfcs (ZaG b j)):=by
    rw [F];exact Zac c q
   have s:=a.trans (q.mono a.size);clear c0 G H c q a
   go_wp2_with (refine Zdk rfl _ _ rfl w.heap.size w.heap.size j b.length (ZaG b j) b[j] rfl rfl (by omega) m ?_)
   intro N n t;rw [Zes b j r] at n;have u:Below w.heap.size w N:=s.grown t s.size (fun k x=>by simp at x;omega);clear m t;go_wp2
   go_roundw
   case rel=>exact ⟨j+1,by omega,by go_num,n,u⟩
   case measure=>simp [intOf];omega
  ·go_wp2
   go_ret;have:j=b.length:=by omega
   subst this;rw [ZdT] at c;exact ⟨_,rfl,c,a⟩
theorem ZiN (v:Value)(b:List Df)(l:Int)(w:World)(R:DfRow w v b)(J:0 <= l)(K:l <= 1048576) :
  Calls prog 45 #[v,.int .i64 l] w fun e M=>∃ r:Int,e=.returned (.int .i64 r) /\ -1 <= r/\r <= 1048576/\(0 <= r -> b.length <= 1048576/\∀ x ∈ b,x.s.size <= 1048576)/\Below w.heap.size w M:=by
 obtain ⟨N,H,rfl,A,P,L,a⟩:=R
 by_cases D:(b.length:Int) <= l
 ·go_enter func45,ntmps45
  go_wp2
  go_loopw [1,5] (fun l i wr=>∃ (k:Nat) (r:Int),k <= b.length/\i=.int .i64 k/\l=.int .i64 r/\0 <= r/\r <= 1048576/\Hid (∀ j x,b[j]? = some x -> j < k -> x.s.size <= 1048576)/\Below w.heap.size w wr) (fun _ i _=>b.length - (intOf i).toNat)
  case atStart=>exact ⟨0,_,by omega,rfl,rfl,by omega,by omega,fun j x _ h=>by omega,cf _ _⟩
  case round =>
   obtain ⟨k,r,O,rfl,rfl,p,q,z,n⟩:=hrel
   by_cases m:k < b.length
   ·obtain ⟨g,o,rfl,I,a⟩:=a (by intro e;subst e;simp at m)
    obtain ⟨x,c⟩:∃ x,b[k]? = some x:=⟨b[k],by simp [m]⟩;obtain ⟨c0,F,G⟩:=(a k x c).below n I;have t:=L x (List.mem_of_getElem? c);have E:Hid (b[k]? = some x):=c;clear a c;go_wp2_with fail;refine (ZjV x _ _ t p q).mono ?_;rintro e Q ⟨rfl,f⟩;have d:=n.trans (f.mono n.size);clear c0 F G f
    by_cases C:r < x.s.size
    ·rw [less,if_pos C]
     go_wp2;go_ret;exact ⟨-1,rfl,by omega,by omega,fun h=>by omega,d⟩
    ·rw [less,if_neg C]
     go_wp2
     go_roundw
     case rel =>
      refine ⟨k+1,_,by omega,by go_num,rfl,by omega,by omega,fun j y u B=>?_,d⟩
      by_cases e:j=k
      ·subst e
       rw [E.out] at u;cases u;omega
      ·exact z.out j y u (by omega)
     case measure=>simp [intOf];omega
   ·go_wp2
    go_ret;refine ⟨r,rfl,by omega,by omega,fun _=>⟨by omega,fun x c=>?_⟩,n⟩;obtain ⟨j,B,e⟩:=List.getElem_of_mem c;exact z.out j x (by rw [<- e];simp [B]) (by omega)
 ·go_enter func45,ntmps45
  go_wp2;go_ret;exact ⟨-1,rfl,by omega,by omega,fun h=>by omega,cf _ _⟩
theorem ZhU (o vb:Value)(c:List Df)(w:World)(p:DfRow w o c)(q:DfRow w vb c) :
  Calls prog 75 #[o,vb] w fun e A=>e=.returned (.bool true)/\Below w.heap.size w A:=by
 obtain ⟨C,E,rfl,y,J,L,a⟩:=p;obtain ⟨D,F,rfl,z,_,_,b⟩:=q;have K:((c.length:Int) != (c.length:Int))=false:=by simp
 go_enter func75,ntmps75
 go_wp2
 go_loopw [5] (fun i wr=>∃ k:Nat,k <= c.length/\i=.int .i64 k/\Below w.heap.size w wr) (fun i _=>c.length - (intOf i).toNat)
 case atStart=>exact ⟨0,by omega,rfl,cf _ _⟩
 case round =>
  obtain ⟨k,I,rfl,f⟩:=hrel
  by_cases d:k < c.length
  ·obtain ⟨G,M,rfl,l,a⟩:=a (by intro e;subst e;simp at d)
   obtain ⟨H,N,rfl,m,b⟩:=b (by intro e;subst e;simp at d);obtain ⟨x,n⟩:∃ x,c[k]? = some x:=⟨c[k],by simp [d]⟩;obtain ⟨c0,r,s⟩:=(a k x n).below f l;obtain ⟨t,u,v⟩:=(b k x n).below f m;clear a b n;go_wp2_with fail
   go_region_with (go_at_call 112;refine (Zjg x _).mono ?_;rintro e B ⟨rfl,g⟩)
   all_goals
    have j:Below w.heap.size w B:=f.drew.trans (g.mono f.size);clear c0 r s t u v g;go_wp2
    go_roundw
    case rel=>exact ⟨k+1,by omega,by go_num,j⟩
    case measure=>simp [intOf];omega
  ·go_wp2
   go_ret;exact ⟨rfl,f⟩
theorem NRow.small {w:World}{v:Value}{c:List Nd}(R:NRow w v c):∃ b a,v=.slice b c.length a:=by
 obtain ⟨b,a,rfl,_⟩:=R;exact ⟨b,a,rfl⟩
theorem NRow.sz {w:World}{v:Value}{a:List Nd}(R:NRow w v a):∀ x ∈ a,x.s.size <= maxLen:=by obtain ⟨_,_,_,_,_,b,_⟩:=R;exact b
theorem InRow.sz {w:World}{v:Value}{a:List In}(R:InRow w v a):∀ x ∈ a,x.s.size <= maxLen:=by obtain ⟨_,_,_,_,_,b,_⟩:=R;exact b
theorem DfRow.sz {w:World}{v:Value}{a:List Df}(R:DfRow w v a):∀ x ∈ a,x.s.size <= maxLen:=by obtain ⟨_,_,_,_,_,b,_⟩:=R;exact b
theorem Zhy (J K L:Value)(o:List Nd)(j:List In)(i:List Df)(w:World)(E:NRow w J o)(F:InRow w K j)(G:DfRow w L i) :
  Calls prog 13 #[.agg #[J,K,L],.int .i64 1048576] w fun e P=>∃ r:Int,e=.returned (.int .i64 r) /\ -1 <= r/\r <= 1048576/\(0 <= r -> o.length <= 1048576/\j.length <= 1048576/\i.length <= 1048576)/\Below w.heap.size w P:=by
 obtain ⟨H,I,rfl⟩:=E.small;obtain ⟨p,s,rfl⟩:=F.small;obtain ⟨q,t,rfl⟩:=G.small
 go_enter func13,ntmps13
 go_wp2_with fail;have c:Below w.heap.size w (w.alloc (Obj.cells #[.slice H o.length I,.slice p j.length s,.slice q i.length t] 28)):=(cf _ _).alloc (ce _) _;refine (ZhD _ o _ (E.below c)).mono ?_;rintro e C ⟨z,rfl,Q,R,u,f⟩;have d:C.heap[w.heap.size]? = some (.cells #[.slice H o.length I,.slice p j.length s,.slice q i.length t] 28 (0,0)):=(f.block _ (by simp)).trans (cg _ _);have a:=c.trans (f.mono c.size);have v:C.cell? ⟨w.heap.size,0+1,none⟩=some (.slice p j.length s):=by rw [cd C _ 1 _ _ _ d];rfl
 have m:=(bl d);clear c f
 by_cases S:z < 0
 ·have D:Hid (z = -1):=by unfold Hid;omega
  go_wp2;go_ret;exact ⟨-1,rfl,by omega,by omega,fun h=>by omega,a⟩
 ·have u:=u (by omega)
  go_wp2_with fail;refine (ZiQ _ j z _ (F.below a) (by omega) (by omega)).mono ?_;rintro e M ⟨A,rfl,T,U,k2,g⟩;have n:=(g.block _ m).trans d;have b:=a.trans (g.mono a.size);have x:M.cell? ⟨w.heap.size,0+2,none⟩=some (.slice q i.length t):=by rw [cd M _ 2 _ _ _ n];rfl
  clear v d a g
  by_cases N:A < 0
  ·have D:Hid (A = -1):=by unfold Hid;omega
   go_wp2;go_ret;exact ⟨-1,rfl,by omega,by omega,fun h=>by omega,b⟩
  ·have k2:=k2 (by omega)
   go_wp2_with fail;refine (ZiN _ i A _ (G.below b) (by omega) (by omega)).mono ?_;rintro e X ⟨B,rfl,V,W,y,l⟩;have k:=b.trans (l.mono b.size);clear x n l b
   by_cases O:B < 0
   ·have D:Hid (B = -1):=by unfold Hid;omega
    go_wp2;go_ret;exact ⟨-1,rfl,by omega,by omega,fun h=>by omega,k⟩
   ·have y:=y (by omega)
    go_wp2;go_ret;exact ⟨B,rfl,by omega,by omega,fun _=>⟨u.1,k2.1,y.1⟩,k⟩
theorem ZgL (R S T u1 u2 u3:Value)(l:List Nd)(k:List In)(d:List Df)(w:World)(H:NRow w R l)(I:InRow w S k)(J:DfRow w T d)(K:NRow w u1 l)(L:InRow w u2 k)(M:DfRow w u3 d) :
  Calls prog 30 #[.agg #[R,S,T],.agg #[u1,u2,u3]] w fun e U=>e=.returned (.bool true)/\Below w.heap.size w U:=by
 obtain ⟨N,P,rfl⟩:=H.small;obtain ⟨r,v,rfl⟩:=I.small;obtain ⟨s,x,rfl⟩:=J.small;obtain ⟨O,Q,rfl⟩:=K.small;obtain ⟨t,y,rfl⟩:=L.small;obtain ⟨u,z,rfl⟩:=M.small
 go_enter func30,ntmps30
 go_wp2_with fail;have a:Below w.heap.size w ((w.alloc (Obj.cells #[.slice N l.length P,.slice r k.length v,.slice s d.length x] 45)).alloc (Obj.cells #[.slice O l.length Q,.slice t k.length y,.slice u d.length z] 45)):=((cf _ _).alloc (ce _) _).alloc (by simp) _;refine (Zdw _ _ l _ (H.below a) (K.below a)).mono ?_;rintro e m ⟨rfl,f⟩;have i:m.heap[w.heap.size]? = some (.cells #[.slice N l.length P,.slice r k.length v,.slice s d.length x] 45 (0,0)):=(f.block _ (by simp;omega)).trans ((cn _ _ (by simp)).trans (cg _ _));have j:m.heap[w.heap.size+1]? = some (.cells #[.slice O l.length Q,.slice t k.length y,.slice u d.length z] 45 (0,0)):=(f.block _ (by simp)).trans (cw _ _ _);have b:=a.trans (f.mono a.size);have B:m.cell? ⟨w.heap.size,0+1,none⟩=some (.slice r k.length v):=by rw [cd m _ 1 _ _ _ i];rfl
 have D:m.cell? ⟨w.heap.size+1,0+1,none⟩=some (.slice t k.length y):=by rw [cd m _ 1 _ _ _ j];rfl
 have F:=(bl i);have G:=(bl j);clear a f;go_wp2_with fail;refine (ZhX _ _ k _ (I.below b) (L.below b)).mono ?_;rintro e q ⟨rfl,g⟩;have o:=(g.block _ F).trans i;have p:=(g.block _ G).trans j;have c:=b.trans (g.mono b.size);have C:q.cell? ⟨w.heap.size,0+2,none⟩=some (.slice s d.length x):=by rw [cd q _ 2 _ _ _ o];rfl
 have E:q.cell? ⟨w.heap.size+1,0+2,none⟩=some (.slice u d.length z):=by rw [cd q _ 2 _ _ _ p];rfl
 clear B D i j b g;go_wp2_with fail;refine (ZhU _ _ d _ (J.below c) (M.below c)).mono ?_;rintro e V ⟨rfl,n⟩;have A:=c.trans (n.mono c.size);clear C E o p n c;go_wp2;go_ret;exact ⟨rfl,A⟩
theorem Zmc:(prog.info? 45).map (·.size)=some 3:=by kernel_rfl
theorem ZdN (v1 v2 v3:Value)(d:List Nd)(c:List In)(f:List Df)(w:World)(W:NRow w v1 d)(X:InRow w v2 c)(Y:DfRow w v3 f)(h1:d.length <= 2097152)(h2:c.length <= 2097152)(h3:f.length <= 2097152) :
  Calls prog 21 #[.agg #[v1,v2,v3]] w fun e V=>∃ u1 u2 u3,e=.returned (.agg #[u1,u2,u3])/\V.ownsRow w.heap.size 176 5 u1 d.length (ncs d)/\V.ownsRow w.heap.size 163 4 u2 c.length (incs c)/\V.ownsRow w.heap.size 157 3 u3 f.length (dfcs f)/\Below w.heap.size w V:=by
 have al:=W.sz;have am:=X.sz;have an:=Y.sz;obtain ⟨Z,c1,rfl⟩:=W.small;obtain ⟨R,T,rfl⟩:=X.small;obtain ⟨S,U,rfl⟩:=Y.small
 go_enter func21,ntmps21
 go_wp2_with fail
 have B:Below w.heap.size w (((w.alloc (Obj.cells #[.slice Z d.length c1,.slice R c.length T,.slice S f.length U] 28)).alloc (Obj.cells #[.slice none 0 0,.slice none 0 0,.slice none 0 0] 45)).alloc (Obj.cells #[.slice none 0 0,.slice none 0 0,.slice none 0 0] 45)) :=
  (((cf _ _).alloc (ce _) _).alloc (by simp) _).alloc (by simp;omega) _
 refine (ZdO _ d _ (W.below B) h1).mono ?_;rintro e l ⟨u1,rfl,C,r⟩;obtain ⟨x,z,rfl⟩:=Zad C;have S1:=NRow.of_own C (by omega) al;have I:l.heap[w.heap.size]? = some (.cells #[.slice Z d.length c1,.slice R c.length T,.slice S f.length U] 28 (0,0)):=(r.block _ (by simp;omega)).trans ((cn _ _ (by simp;omega)).trans ((cn _ _ (by simp)).trans (cg _ _)));have P:l.heap[w.heap.size+1]? = some (.cells #[.slice none 0 0,.slice none 0 0,.slice none 0 0] 45 (0,0)):=(r.block _ (by simp)).trans ((cn _ _ (by simp)).trans (cw _ _ _));have t:l.heap[w.heap.size+1+1]? = some (.cells #[.slice none 0 0,.slice none 0 0,.slice none 0 0] 45 (0,0)):=(r.block _ (by simp)).trans (Zbm _ _ _ _);have L:=B.trans (r.mono B.size);have E:l.ownsRow (w.heap.size+3) 176 5 (.slice x d.length z) d.length (ncs d):=by simpa using C
 have aa:l.cell? ⟨w.heap.size+1+1,0,none⟩=some (.slice none 0 0):=by rw [cd l _ 0 _ _ _ t];rfl
 have ae:l.frozen? ⟨w.heap.size+1+1,0,none⟩=false:=cj l _ 0 _ _ t;have ac:l.cell? ⟨w.heap.size,0+1,none⟩=some (.slice R c.length T):=by rw [cd l _ 1 _ _ _ I];rfl
 have ak:=(bl t);clear B r C;go_wp2_with fail;have i:Below w.heap.size w (l.setCell ⟨w.heap.size+1+1,0,none⟩ (.slice x d.length z)):=L.setCell (p:=⟨w.heap.size+1+1,0,none⟩) (by simp;omega) _;refine (ZiX _ c _ (X.below i) h2).mono ?_;rintro e q ⟨u2,rfl,G,m⟩;obtain ⟨y,A,rfl⟩:=Zad G;have s:=Zac (cx E (a:=⟨w.heap.size+1+1,0,none⟩) (by simp) (.slice x d.length z)) m;have O:q.heap[w.heap.size]? = some (.cells #[.slice Z d.length c1,.slice R c.length T,.slice S f.length U] 28 (0,0)):=(m.block _ (by simp;omega)).trans ((ch l ⟨w.heap.size+1+1,0,none⟩ w.heap.size _ (by simp;omega)).trans I);have Q:q.heap[w.heap.size+1]? = some (.cells #[.slice none 0 0,.slice none 0 0,.slice none 0 0] 45 (0,0)):=(m.block _ (by simp;omega)).trans ((ch l ⟨w.heap.size+1+1,0,none⟩ (w.heap.size+1) _ (by simp)).trans P)
 have u:q.heap[w.heap.size+1+1]? = some (.cells #[.slice x d.length z,.slice none 0 0,.slice none 0 0] 45 (0,0)):=(m.block _ (by simp;omega)).trans (ci l (w.heap.size+1+1) 0 _ _ (.slice x d.length z) t);have M:=i.trans (m.mono i.size);have F:q.ownsRow (w.heap.size+3) 163 4 (.slice y c.length A) c.length (incs c):=Zae G (by simp;omega);have ab:q.cell? ⟨w.heap.size+1+1,0+1,none⟩=some (.slice none 0 0):=by rw [cd q _ 1 _ _ _ u];rfl
 have af:q.frozen? ⟨w.heap.size+1+1,0+1,none⟩=false:=cj q _ 1 _ _ u;have ad:q.cell? ⟨w.heap.size,0+2,none⟩=some (.slice S f.length U):=by rw [cd q _ 2 _ _ _ O];rfl
 have N:=(bl u);clear L i m E G I P t aa ae ac ak S1;go_wp2_with fail;have j:Below w.heap.size w (q.setCell ⟨w.heap.size+1+1,1,none⟩ (.slice y c.length A)):=M.setCell (p:=⟨w.heap.size+1+1,1,none⟩) (by simp;omega) _;refine (ZiU _ f _ (Y.below j) h3).mono ?_;rintro e b ⟨u3,rfl,H,o⟩;obtain ⟨J,K,rfl⟩:=Zad H;have ah:=Zac (cx s (a:=⟨w.heap.size+1+1,1,none⟩) (by simp) (.slice y c.length A)) o;have ai:=Zac (cx F (a:=⟨w.heap.size+1+1,1,none⟩) (by simp) (.slice y c.length A)) o;have g:b.heap[w.heap.size+1]? = some (.cells #[.slice none 0 0,.slice none 0 0,.slice none 0 0] 45 (0,0)):=(o.block _ (by simp;omega)).trans ((ch q ⟨w.heap.size+1+1,1,none⟩ (w.heap.size+1) _ (by simp)).trans Q)
 have D:b.heap[w.heap.size+1+1]? = some (.cells #[.slice x d.length z,.slice y c.length A,.slice none 0 0] 45 (0,0)):=(o.block _ (by simp;omega)).trans (ci q (w.heap.size+1+1) 1 _ _ (.slice y c.length A) u);have ag:=j.trans (o.mono j.size);have aj:b.ownsRow (w.heap.size+3) 157 3 (.slice J f.length K) f.length (dfcs f):=Zae H (by simp;omega);have g0:b.cell? ⟨w.heap.size+1+1,0,none⟩=some (.slice x d.length z):=by rw [cd b _ 0 _ _ _ D];rfl
 have g1:b.cell? ⟨w.heap.size+1+1,0+1,none⟩=some (.slice y c.length A):=by rw [cd b _ 1 _ _ _ D];rfl
 have g2:b.cell? ⟨w.heap.size+1+1,0+2,none⟩=some (.slice none 0 0):=by rw [cd b _ 2 _ _ _ D];rfl
 have gf:b.frozen? ⟨w.heap.size+1+1,0+2,none⟩=false:=cj b _ 2 _ _ D;have k0:b.cell? ⟨w.heap.size+1,0,none⟩=some (.slice none 0 0):=by rw [cd b _ 0 _ _ _ g];rfl
 have k1:b.cell? ⟨w.heap.size+1,0+1,none⟩=some (.slice none 0 0):=by rw [cd b _ 1 _ _ _ g];rfl
 have k2:b.cell? ⟨w.heap.size+1,0+2,none⟩=some (.slice none 0 0):=by rw [cd b _ 2 _ _ _ g];rfl
 have f0:b.frozen? ⟨w.heap.size+1,0,none⟩=false:=cj b _ 0 _ _ g;have f1:b.frozen? ⟨w.heap.size+1,0+1,none⟩=false:=cj b _ 1 _ _ g;have f2:b.frozen? ⟨w.heap.size+1,0+2,none⟩=false:=cj b _ 2 _ _ g;clear M j o s F H O Q u ab af ad N;go_wp2;have q0:=(ch b ⟨w.heap.size+1+1,2,none⟩ (w.heap.size+1) (.slice J f.length K) (by simp)).trans g;have q1:=ci _ (w.heap.size+1) 0 _ _ (.slice x d.length z) q0;have q2:=ci _ (w.heap.size+1) 1 _ _ (.slice y c.length A) q1;have q3:=ci _ (w.heap.size+1) 2 _ _ (.slice J f.length K) q2
 have up:∀ {e:TypeId} {k:Nat} {v:Value} {n:Nat} {xs:List Value},b.ownsRow (w.heap.size+3) e k v n xs -> ((((b.setCell ⟨w.heap.size+1+1,2,none⟩ (.slice J f.length K)).setCell ⟨w.heap.size+1,0,none⟩ (.slice x d.length z)).setCell ⟨w.heap.size+1,1,none⟩ (.slice y c.length A)).setCell ⟨w.heap.size+1,2,none⟩ (.slice J f.length K)).ownsRow (w.heap.size+3) e k v n xs:=fun h =>
  cx (cx (cx (cx h (by simp) _) (by simp) _) (by simp) _) (by simp) _
 refine ck (results_cell_row rfl _ _ (w.heap.size+1) 45 _ (0,0) _ rfl q3 underlying45 rfl Zmc) rfl ⟨_,_,_,rfl,Zae (up ah) (by omega),Zae (up ai) (by omega),Zae (up aj) (by omega),?_⟩;exact (((ag.setCell (p:=⟨w.heap.size+1+1,2,none⟩) (by simp;omega) _).setCell (p:=⟨w.heap.size+1,0,none⟩) (by simp) _).setCell (p:=⟨w.heap.size+1,1,none⟩) (by simp) _).setCell (p:=⟨w.heap.size+1,2,none⟩) (by simp) _
end Go.Proofs.YtanhoamdlhaaeaaGreatDoor
