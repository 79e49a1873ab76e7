/-
  Texts that stood by themselves, laid into one.
-/
import Derived.Test.YtfeodlbpnghakaaGreatDoorMark2M
import Derived.Test.YtfeodlbpnghakaaGreatDoorInM
/-
  Helpers: a definition as 3 cells, a slice of these read as a list, and the contracts of the laws' helpers on them. No condition.
-/
set_option maxRecDepth 100000
set_option maxHeartbeats 4000000
namespace Go.Proofs.YtfeodlbpnghakaaGreatDoor
open Go.RowKit
structure Df where
 s:ByteArray
 p:Int
 m:Int
def Df.cs (x:Df):List Value:=[.string x.s,.int .i64 x.p,.int .i64 x.m]
def dfcs (xs:List Df):List Value:=xs.flatMap Df.cs
theorem ZdH (x:Df)(a:List Df):dfcs (x :: a)=x.cs ++ dfcs a:=rfl
theorem Zdv (a:List Df):(dfcs a).length=a.length * 3:=by
 induction a with
 | nil=>rfl
 | cons x a ih=>rw [ZdH,List.length_append,ih,List.length_cons];simp [Df.cs];omega
theorem ZgW (a:List Df)(i:Nat)(x:Df)(h:a[i]? = some x)(j:Nat)(b:j < 3):(dfcs a)[i * 3+j]? = x.cs[j]?:=by
 induction a generalizing i with
 | nil=>simp at h
 | cons y ys ih =>
  rw [ZdH]
  cases i with
  | zero =>
   simp at h;subst h
   rw [Nat.zero_mul,Nat.zero_add,List.getElem?_append_left (by simpa [Df.cs] using b)]
  | succ i =>
   rw [List.getElem?_append_right (by simp [Df.cs];omega)]
   rw [show (i+1) * 3+j - y.cs.length=i * 3+j by simp [Df.cs];omega]
   exact ih i (by simpa using h)
theorem ZeY (a:List Df)(i:Nat)(x b:Df)(h:a[i]? = some x)(j:Nat)(c:j < 3)(u:Value)(e:x.cs.set j u=b.cs):(dfcs a).set (i * 3+j) u=dfcs (a.set i b):=by
 induction a generalizing i with
 | nil=>simp at h
 | cons y ys ih =>
  rw [ZdH]
  cases i with
  | zero =>
   simp at h;subst h
   rw [Nat.zero_mul,Nat.zero_add,List.set_append_left _ _ (by simpa [Df.cs] using c),e]
   rfl
  | succ i =>
   rw [List.set_append_right _ _ (by simp [Df.cs];omega)]
   rw [show (i+1) * 3+j - y.cs.length=i * 3+j by simp [Df.cs];omega,ih i (by simpa using h)]
   rfl
theorem Ziz (a:List Df)(i:Nat)(x b:Df)(h:a[i]? = some x)(u:Value)(e:x.cs.set 0 u=b.cs):(dfcs a).set (i * 3) u=dfcs (a.set i b) :=
 ZeY a i x b h 0 (by omega) u e
theorem Df.one (x:Df):∀ u ∈ x.cs,u.oneCell'=true:=by
 intro u a
 simp only [Df.cs,List.mem_cons,List.not_mem_nil,or_false] at a
 rcases a with rfl | rfl | rfl <;> rfl
def DfAt (w:World)(g o:Nat)(x:Df):Prop :=
 w.cell? ⟨g,o,none⟩=some (.string x.s)/\w.cell? ⟨g,o+1,none⟩=some (.int .i64 x.p)/\w.cell? ⟨g,o+2,none⟩=some (.int .i64 x.m)
theorem DfAt.below {w c:World}{g o B:Nat}{x:Df}(h:DfAt w g o x)(b:Below B w c)(a:g < B):DfAt c g o x :=
 ⟨(b.cell (p:=⟨g,o,none⟩) a).trans h.1,(b.cell (p:=⟨g,o+1,none⟩) a).trans h.2.1,(b.cell (p:=⟨g,o+2,none⟩) a).trans h.2.2⟩
def DfRow (w:World)(v:Value)(xs:List Df):Prop :=
 ∃ ao cap,v=.slice ao xs.length cap/\(xs.length <= cap/\(ao=none -> cap=0))/\xs.length <= 9223372036854775807/\(∀ x ∈ xs,x.s.size <= maxLen) /\
  (xs ≠ [] -> ∃ g o,ao=some ⟨g,o,none⟩/\g < w.heap.size/\∀ i x,xs[i]? = some x -> DfAt w g (o+i * 3) x)
theorem DfRow.small {w:World}{v:Value}{c:List Df}(R:DfRow w v c):∃ b a,v=.slice b c.length a:=by
 obtain ⟨b,a,rfl,_⟩:=R
 exact ⟨b,a,rfl⟩
theorem DfRow.below {w j:World}{v:Value}{f:List Df}(h:DfRow w v f)(d:Below w.heap.size w j):DfRow j v f:=by
 obtain ⟨n,c,rfl,m,l,k,a⟩:=h
 refine ⟨n,c,rfl,m,l,k,fun b=>?_⟩
 obtain ⟨g,o,rfl,e,a⟩:=a b
 exact ⟨g,o,rfl,Nat.lt_of_lt_of_le e d.size,fun i x hi=>(a i x hi).below d e⟩
theorem DfRow.of_own {w:World}{base:Nat}{v:Value}{a:List Df}(h:w.ownsRow base 155 3 v a.length (dfcs a))(l:a.length <= 9223372036854775807)(f:∀ x ∈ a,x.s.size <= maxLen):DfRow w v a:=by
 rcases h.2 with ⟨rfl,k⟩ | ⟨g,b,cur,rfl,r,m,d,n,p,c⟩
 ·have:a=[]:=List.eq_nil_of_length_eq_zero k
  subst this
  exact ⟨none,0,rfl,by simp,by simp,by simp,fun h=>absurd rfl h⟩
 ·refine ⟨_,b,rfl,⟨d,fun h=>by cases h⟩,l,f,fun _=>⟨g,0,rfl,(bl m),fun i x hi=>?_⟩⟩
  have q:i < a.length:=(List.getElem?_eq_some_iff.1 hi).1
  have e:∀ j,j < 3 -> w.cell? ⟨g,0+i * 3+j,none⟩=x.cs[j]?:=fun j o=>by
   have:=h.cellAt (i * 3+j) (by omega)
   rw [Nat.zero_add,this,ZgW a i x hi j o]
  exact ⟨e 0 (by omega),e 1 (by omega),e 2 (by omega)⟩
theorem Znc:(Tryz.prog.info? 155).map (fun i=>(i.zero,i.size,i.bytes))=some (some (.agg #[.string ByteArray.empty,.int .i64 0,.int .i64 0]),3,32):=by kernel_rfl
theorem Znd:(Tryz.prog.info? 155).map (·.size)=some 3:=by kernel_rfl
theorem ZdI {ops:Array Oper}{e:List Oper}{op:Oper}{a:Act}{w:World}{Q:Exit -> Act -> World -> Prop}(r:op.guard=none)(x y:Operand)(v:op.op=.store 155 x y)(base g i k:Nat)(b:List Df)(c:Df)(z:a.eval x=.pointer (some ⟨g,i * 3,none⟩))(A:a.eval y=.agg #[.string c.s,.int .i64 c.p,.int .i64 c.m])(hi:i < b.length)(d:w.ownsRow base 155 3 (.slice (some ⟨g,0,none⟩) b.length k) b.length (dfcs b))(h:∀ l:World,l.ownsRow base 155 3 (.slice (some ⟨g,0,none⟩) b.length k) b.length (dfcs (b.set i c)) -> w.grownBy l (some g) -> wpList Tryz.prog ops Q e (a.put op.dst undef) l):wpList Tryz.prog ops Q (op :: e) a w:=by
 have t:w.there g (i * 3) 3:=fun j B=>by
  have:=d.cellAt (i * 3+j) (by omega)
  refine ⟨?_,d.frozenAt _⟩
  rw [this,List.getElem?_eq_getElem (by rw [Zdv];omega)]
  rfl
 refine wpList_store_mid r 155 x y v g (i * 3) _ z A t Znd (all_oneCell_toArray c.one) ?_
 have u:b[i]? = some b[i]:=List.getElem?_eq_getElem hi
 have f:∀ y:Df,(b.set i y)[i]? = some y:=fun y=>by simp [hi]
 have o:=d.stored (i * 3) (.string c.s)
 rw [Ziz b i b[i] ⟨c.s,b[i].p,b[i].m⟩ u _ rfl] at o
 have q:=o.1.stored (i * 3+1) (.int .i64 c.p)
 rw [ZeY (b.set i ⟨c.s,b[i].p,b[i].m⟩) i ⟨c.s,b[i].p,b[i].m⟩ ⟨c.s,c.p,b[i].m⟩ (f _) 1 (by omega) (.int .i64 c.p) rfl,List.set_set] at q
 have n:=q.1.stored (i * 3+2) (.int .i64 c.m)
 rw [ZeY (b.set i ⟨c.s,c.p,b[i].m⟩) i ⟨c.s,c.p,b[i].m⟩ ⟨c.s,c.p,c.m⟩ (f _) 2 (by omega) (.int .i64 c.m) rfl,List.set_set] at n
 exact h _ n.1 ((o.2.trans q.2).trans n.2)
theorem Zk5 (x:Df)(w:World) :
  Calls Tryz.prog 87 #[.agg #[.string x.s,.int .i64 x.p,.int .i64 x.m]] w fun e a=>e=.returned (.agg #[.string x.s,.int .i64 x.p,.int .i64 x.m])/\Below w.heap.size w a:=by
 go_enter Tryz.func87,Tryz.ntmps87
 go_wp2
 exact bodyPost_ret (results_cell_row rfl _ _ (w.heap.size+1) 155 _ (0,0) _ rfl ((heap_alloc_old _ _ (by simp)).trans (heap_alloc2_new _ _ _)) Tryz.underlying155 rfl Znd) rfl
  ⟨rfl,(((Below.refl _ _).alloc (Nat.le_refl _) _).alloc (by simp) _).alloc (by simp;omega) _⟩
theorem Zkd (x:Df)(l:Int)(w:World)(b:x.s.size <= maxLen)(f:0 <= l)(c:l <= 1048576) :
  Calls Tryz.prog 71 #[.agg #[.string x.s,.int .i64 x.p,.int .i64 x.m],.int .i64 l] w fun e d=>e=.returned (.int .i64 (less l x.s.size))/\Below w.heap.size w d:=by
 unfold maxLen at b
 go_enter Tryz.func71,Tryz.ntmps71
 by_cases h:l < x.s.size
 ·have a:Hid (less l x.s.size = -1):=by unfold Hid less;rw [if_pos h]
  go_wp2
  go_ret
  exact ⟨by rw [a.out];rfl,(Below.refl _ _).alloc (Nat.le_refl _) _⟩
 ·have a:Hid (less l x.s.size=l - x.s.size):=by unfold Hid less;rw [if_neg h]
  go_wp2
  go_ret
  exact ⟨by rw [a.out];rfl,(Below.refl _ _).alloc (Nat.le_refl _) _⟩
theorem Zkp (x:Df)(w:World) :
  Calls Tryz.prog 105 #[.agg #[.string x.s,.int .i64 x.p,.int .i64 x.m],.agg #[.string x.s,.int .i64 x.p,.int .i64 x.m]] w fun e a=>e=.returned (.bool true)/\Below w.heap.size w a:=by
 go_enter Tryz.func105,Tryz.ntmps105
 go_wp2
 go_ret
 exact ⟨rfl,((Below.refl _ _).alloc (Nat.le_refl _) _).alloc (by simp) _⟩
def ZfE:Df:=⟨ByteArray.empty,0,0⟩
def ZaO (xs:List Df)(j:Nat):List Df:=xs.take j ++ List.replicate (xs.length - j) ZfE
theorem ZdK (a:List Df)(j:Nat)(h:j <= a.length):(ZaO a j).length=a.length:=by simp [ZaO];omega
theorem ZeQ (a:List Df):ZaO a a.length=a:=by simp [ZaO]
theorem Zis (n:Nat):dfcs (List.replicate n ZfE)=(madeCells #[Value.string ByteArray.empty,.int .i64 0,.int .i64 0] (n * 3)).toList:=by
 apply List.ext_getElem?
 intro j
 by_cases c:j < n * 3
 ·have b:j / 3 < n:=by omega
  rw [show j=j / 3 * 3+j % 3 by omega,ZgW _ (j / 3) ZfE (by simp [b]) (j % 3) (by omega)]
  rw [show j / 3 * 3+j % 3=j by omega]
  have a:j % 3=0 \/ j % 3=1 \/ j % 3=2:=by omega
  rcases a with a | a | a <;> simp [madeCells,c,a,ZfE,Df.cs]
 ·rw [List.getElem?_eq_none (by rw [Zdv,List.length_replicate];omega),List.getElem?_eq_none (by simp [madeCells];omega)]
theorem ZeU (a:List Df):dfcs (ZaO a 0)=(madeCells #[Value.string ByteArray.empty,.int .i64 0,.int .i64 0] (a.length * 3)).toList:=by
 rw [<- Zis];simp [ZaO]
theorem Zfe (a:List Df)(j:Nat)(h:j < a.length):(ZaO a j).set j a[j]=ZaO a (j+1):=by
 unfold ZaO
 rw [show a.length - j=a.length - (j+1)+1 by omega,List.replicate_succ,List.take_succ_eq_append_getElem h]
 rw [List.set_append_right _ _ (by simp;omega)]
 have e:j - (List.take j a).length=0:=by simp;omega
 rw [e,List.set_cons_zero,List.append_assoc]
 rfl
theorem Zj1 (v:Value)(a:List Df)(w:World)(R:DfRow w v a)(N:a.length <= 2097152) :
  Calls Tryz.prog 49 #[v] w fun e C=>∃ B,e=.returned B/\C.ownsRow w.heap.size 155 3 B a.length (dfcs a)/\Below w.heap.size w C:=by
 obtain ⟨M,J,rfl,D,_,L,d⟩:=R
 obtain ⟨A,hi,y,t,x⟩:=info_parts Znc
 have f:A.bytes * a.length <= 281474976710656:=by rw [x];omega
 have n:a.length <= maxLen:=by unfold maxLen;omega
 go_enter Tryz.func49,Tryz.ntmps49
 go_wp2_with (at_make;refine wpList_make_full _ rfl _ _ 42 rfl w.heap.size 155 A _ 3 Tryz.underlying42 hi y t _ _ _ _ a.length rfl rfl rfl rfl f n (Nat.le_refl _) ?_)
 intro G c h
 have b:Below w.heap.size w G:=(Below.refl _ _).grown h (Nat.le_refl _) (by intro k z;cases z)
 clear h
 go_wp2
 go_loopw [4] (fun i wr=>∃ j:Nat,j <= a.length/\i=.int .i64 j/\wr.ownsRow w.heap.size 155 3 (.slice (some ⟨w.heap.size,0,none⟩) a.length a.length) a.length (dfcs (ZaO a j))/\Below w.heap.size w wr) (fun i _=>a.length - (intOf i).toNat)
 case atStart=>exact ⟨0,by omega,rfl,by rw [ZeU];exact c,b⟩
 case round =>
  clear c b f n
  obtain ⟨j,H,rfl,c,b⟩:=hrel
  by_cases q:j < a.length
  ·obtain ⟨g,o,rfl,I,d⟩:=d (by intro e;subst e;simp at q)
   obtain ⟨c0,c1,c2⟩:=(d j a[j] (by simp [q])).below b I
   have E:=ZdK a j H
   clear d
   go_wp2_with fail
   refine (Zk5 a[j] _).mono ?_
   rintro e F ⟨rfl,p⟩
   have m:F.ownsRow w.heap.size 155 3 (.slice (some ⟨w.heap.size,0,none⟩) (ZaO a j).length a.length) (ZaO a j).length (dfcs (ZaO a j)):=by
    rw [E];exact Zac c p
   have s:=b.trans (p.mono b.size)
   clear c0 c1 c2 c p b
   go_wp2_with (refine ZdI rfl _ _ rfl w.heap.size w.heap.size j a.length (ZaO a j) a[j] rfl rfl (by omega) m ?_)
   intro K l r
   rw [Zfe a j q] at l
   have u:Below w.heap.size w K:=s.grown r s.size (fun k z=>by simp at z;omega)
   clear m r
   go_wp2
   go_roundw
   case rel=>exact ⟨j+1,by omega,by go_num,l,u⟩
   case measure=>simp [intOf];omega
  ·go_wp2
   go_ret
   have:j=a.length:=by omega
   subst this
   rw [ZeQ] at c
   exact ⟨_,rfl,c,b⟩
theorem Zj0 (v:Value)(b:List Df)(l:Int)(w:World)(R:DfRow w v b)(F:0 <= l)(G:l <= 1048576) :
  Calls Tryz.prog 34 #[v,.int .i64 l] w fun e K=>∃ r:Int,e=.returned (.int .i64 r) /\ -1 <= r/\r <= 1048576/\(0 <= r -> b.length <= 1048576/\∀ x ∈ b,x.s.size <= 1048576)/\Below w.heap.size w K:=by
 obtain ⟨N,J,rfl,D,O,H,a⟩:=R
 by_cases A:(b.length:Int) <= l
 ·go_enter Tryz.func34,Tryz.ntmps34
  go_wp2
  go_loopw [1,5] (fun l i wr=>∃ (k:Nat) (r:Int),k <= b.length/\i=.int .i64 k/\l=.int .i64 r/\0 <= r/\r <= 1048576/\Hid (∀ j x,b[j]? = some x -> j < k -> x.s.size <= 1048576)/\Below w.heap.size w wr) (fun _ i _=>b.length - (intOf i).toNat)
  case atStart=>exact ⟨0,_,by omega,rfl,rfl,by omega,by omega,fun j x _ h=>by omega,Below.refl _ _⟩
  case round =>
   obtain ⟨k,r,M,rfl,rfl,p,u,B,n⟩:=hrel
   by_cases f:k < b.length
   ·obtain ⟨g,o,rfl,I,a⟩:=a (by intro e;subst e;simp at f)
    obtain ⟨x,c⟩:∃ x,b[k]? = some x:=⟨b[k],by simp [f]⟩
    obtain ⟨c0,c1,c2⟩:=(a k x c).below n I
    have q:=H x (List.mem_of_getElem? c)
    have E:Hid (b[k]? = some x):=c
    clear a c
    go_wp2_with fail
    refine (Zkd x _ _ q p u).mono ?_
    rintro e L ⟨rfl,d⟩
    have m:=n.trans (d.mono n.size)
    clear c0 c1 c2 d
    by_cases z:r < x.s.size
    ·rw [less,if_pos z]
     go_wp2
     go_ret
     exact ⟨-1,rfl,by omega,by omega,fun h=>by omega,m⟩
    ·rw [less,if_neg z]
     go_wp2
     go_roundw
     case rel =>
      refine ⟨k+1,_,by omega,by go_num,rfl,by omega,by omega,fun j y t C=>?_,m⟩
      by_cases e:j=k
      ·subst e
       rw [E.out] at t
       cases t
       omega
      ·exact B.out j y t (by omega)
     case measure=>simp [intOf];omega
   ·go_wp2
    go_ret
    refine ⟨r,rfl,by omega,by omega,fun _=>⟨by omega,fun x c=>?_⟩,n⟩
    obtain ⟨j,C,e⟩:=List.getElem_of_mem c
    exact B.out j x (by rw [<- e];simp [C]) (by omega)
 ·go_enter Tryz.func34,Tryz.ntmps34
  go_wp2
  go_ret
  exact ⟨-1,rfl,by omega,by omega,fun h=>by omega,Below.refl _ _⟩
theorem ZiJ (n vb:Value)(c:List Df)(w:World)(t:DfRow w n c)(o:DfRow w vb c) :
  Calls Tryz.prog 63 #[n,vb] w fun e u=>e=.returned (.bool true)/\Below w.heap.size w u:=by
 obtain ⟨C,B,rfl,y,J,E,b⟩:=t
 obtain ⟨G,z,rfl,s,_,_,a⟩:=o
 have I:((c.length:Int) != (c.length:Int))=false:=by simp
 go_enter Tryz.func63,Tryz.ntmps63
 go_wp2
 go_loopw [5] (fun i wr=>∃ k:Nat,k <= c.length/\i=.int .i64 k/\Below w.heap.size w wr) (fun i _=>c.length - (intOf i).toNat)
 case atStart=>exact ⟨0,by omega,rfl,Below.refl _ _⟩
 case round =>
  obtain ⟨k,H,rfl,g⟩:=hrel
  by_cases d:k < c.length
  ·obtain ⟨A,K,rfl,l,b⟩:=b (by intro e;subst e;simp at d)
   obtain ⟨F,D,rfl,h,a⟩:=a (by intro e;subst e;simp at d)
   obtain ⟨x,j⟩:∃ x,c[k]? = some x:=⟨c[k],by simp [d]⟩
   obtain ⟨c0,c1,c2⟩:=(b k x j).below g l
   obtain ⟨p,v,q⟩:=(a k x j).below g h
   clear b a j
   go_wp2_with fail
   go_region_with (go_at_call 105;refine (Zkp x _).mono ?_;rintro e r ⟨rfl,f⟩)
   all_goals
    have m:Below w.heap.size w r:=g.drew.trans (f.mono g.size)
    clear c0 c1 c2 p v q f
    go_wp2
    go_roundw
    case rel=>exact ⟨k+1,by omega,by go_num,m⟩
    case measure=>simp [intOf];omega
  ·go_wp2
   go_ret
   exact ⟨rfl,g⟩
theorem NRow.small {w:World}{v:Value}{c:List Nd}(R:NRow w v c):∃ b a,v=.slice b c.length a:=by
 obtain ⟨b,a,rfl,_⟩:=R
 exact ⟨b,a,rfl⟩
theorem NRow.sz {w:World}{v:Value}{a:List Nd}(R:NRow w v a):∀ x ∈ a,x.s.size <= maxLen:=by obtain ⟨_,_,_,_,_,b,_⟩:=R;exact b
theorem InRow.sz {w:World}{v:Value}{a:List In}(R:InRow w v a):∀ x ∈ a,x.s.size <= maxLen:=by obtain ⟨_,_,_,_,_,b,_⟩:=R;exact b
theorem DfRow.sz {w:World}{v:Value}{a:List Df}(R:DfRow w v a):∀ x ∈ a,x.s.size <= maxLen:=by obtain ⟨_,_,_,_,_,b,_⟩:=R;exact b
theorem Zh3 (z G F:Value)(ns:List Nd)(is:List In)(ds:List Df)(w:World)(E:NRow w z ns)(A:InRow w G is)(B:DfRow w F ds) :
  Calls Tryz.prog 9 #[.agg #[z,G,F],.int .i64 1048576] w fun e J=>∃ r:Int,e=.returned (.int .i64 r) /\ -1 <= r/\r <= 1048576/\(0 <= r -> ns.length <= 1048576/\is.length <= 1048576/\ds.length <= 1048576)/\Below w.heap.size w J:=by
 obtain ⟨C,c1,rfl⟩:=E.small
 obtain ⟨v,c2,rfl⟩:=A.small
 obtain ⟨p,c3,rfl⟩:=B.small
 go_enter Tryz.func9,Tryz.ntmps9
 go_wp2_with fail
 have d:Below w.heap.size w (w.alloc (Obj.cells #[.slice C ns.length c1,.slice v is.length c2,.slice p ds.length c3] 28)):=(Below.refl _ _).alloc (Nat.le_refl _) _
 refine (ZhT _ ns _ (E.below d)).mono ?_
 rintro e s ⟨m,rfl,M,P,t,g⟩
 have c:s.heap[w.heap.size]? = some (.cells #[.slice C ns.length c1,.slice v is.length c2,.slice p ds.length c3] 28 (0,0)):=(g.block _ (by simp)).trans (heap_alloc_new _ _)
 have a:=d.trans (g.mono d.size)
 have q:s.cell? ⟨w.heap.size,0+1,none⟩=some (.slice v is.length c2):=by rw [cell_of_row s _ 1 _ _ _ c];rfl
 have i:=(bl c)
 clear d g
 by_cases L:m < 0
 ·have D:Hid (m = -1):=by unfold Hid;omega
  go_wp2
  go_ret
  exact ⟨-1,rfl,by omega,by omega,fun h=>by omega,a⟩
 ·have t:=t (by omega)
  go_wp2_with fail
  refine (ZiT _ is m _ (A.below a) (by omega) (by omega)).mono ?_
  rintro e y ⟨u,rfl,Q,N,k2,f⟩
  have l:=(f.block _ i).trans c
  have b:=a.trans (f.mono a.size)
  have n:y.cell? ⟨w.heap.size,0+2,none⟩=some (.slice p ds.length c3):=by rw [cell_of_row y _ 2 _ _ _ l];rfl
  clear q c a f
  by_cases H:u < 0
  ·have D:Hid (u = -1):=by unfold Hid;omega
   go_wp2
   go_ret
   exact ⟨-1,rfl,by omega,by omega,fun h=>by omega,b⟩
  ·have k2:=k2 (by omega)
   go_wp2_with fail
   refine (Zj0 _ ds u _ (B.below b) (by omega) (by omega)).mono ?_
   rintro e R ⟨x,rfl,K,O,o,k⟩
   have j:=b.trans (k.mono b.size)
   clear n l k b
   by_cases I:x < 0
   ·have D:Hid (x = -1):=by unfold Hid;omega
    go_wp2
    go_ret
    exact ⟨-1,rfl,by omega,by omega,fun h=>by omega,j⟩
   ·have o:=o (by omega)
    go_wp2
    go_ret
    exact ⟨x,rfl,by omega,by omega,fun _=>⟨t.1,k2.1,o.1⟩,j⟩
theorem Zit (C M L u1 u2 u3:Value)(ns:List Nd)(is:List In)(ds:List Df)(w:World)(I:NRow w C ns)(D:InRow w M is)(E:DfRow w L ds)(B:NRow w u1 ns)(H:InRow w u2 is)(J:DfRow w u3 ds) :
  Calls Tryz.prog 26 #[.agg #[C,M,L],.agg #[u1,u2,u3]] w fun e N=>e=.returned (.bool true)/\Below w.heap.size w N:=by
 obtain ⟨F,c1,rfl⟩:=I.small
 obtain ⟨z,c2,rfl⟩:=D.small
 obtain ⟨s,c3,rfl⟩:=E.small
 obtain ⟨G,K,rfl⟩:=B.small
 obtain ⟨y,q,rfl⟩:=H.small
 obtain ⟨A,v,rfl⟩:=J.small
 go_enter Tryz.func26,Tryz.ntmps26
 go_wp2_with fail
 have b:Below w.heap.size w ((w.alloc (Obj.cells #[.slice F ns.length c1,.slice z is.length c2,.slice s ds.length c3] 44)).alloc (Obj.cells #[.slice G ns.length K,.slice y is.length q,.slice A ds.length v] 44)):=((Below.refl _ _).alloc (Nat.le_refl _) _).alloc (by simp) _
 refine (Zec _ _ ns _ (I.below b) (B.below b)).mono ?_
 rintro e i ⟨rfl,h⟩
 have f:i.heap[w.heap.size]? = some (.cells #[.slice F ns.length c1,.slice z is.length c2,.slice s ds.length c3] 44 (0,0)):=(h.block _ (by simp;omega)).trans ((heap_alloc_old _ _ (by simp)).trans (heap_alloc_new _ _))
 have d:i.heap[w.heap.size+1]? = some (.cells #[.slice G ns.length K,.slice y is.length q,.slice A ds.length v] 44 (0,0)):=(h.block _ (by simp)).trans (heap_alloc2_new _ _ _)
 have a:=b.trans (h.mono b.size)
 have t:i.cell? ⟨w.heap.size,0+1,none⟩=some (.slice z is.length c2):=by rw [cell_of_row i _ 1 _ _ _ f];rfl
 have p:i.cell? ⟨w.heap.size+1,0+1,none⟩=some (.slice y is.length q):=by rw [cell_of_row i _ 1 _ _ _ d];rfl
 have u:=(bl f)
 have n:=(bl d)
 clear b h
 go_wp2_with fail
 refine (Zi3 _ _ is _ (D.below a) (H.below a)).mono ?_
 rintro e m ⟨rfl,g⟩
 have l:=(g.block _ u).trans f
 have k:=(g.block _ n).trans d
 have c:=a.trans (g.mono a.size)
 have r:m.cell? ⟨w.heap.size,0+2,none⟩=some (.slice s ds.length c3):=by rw [cell_of_row m _ 2 _ _ _ l];rfl
 have x:m.cell? ⟨w.heap.size+1,0+2,none⟩=some (.slice A ds.length v):=by rw [cell_of_row m _ 2 _ _ _ k];rfl
 clear t p f d a g
 go_wp2_with fail
 refine (ZiJ _ _ ds _ (E.below c) (J.below c)).mono ?_
 rintro e O ⟨rfl,j⟩
 have o:=c.trans (j.mono c.size)
 clear r x l k j c
 go_wp2
 go_ret
 exact ⟨rfl,o⟩
theorem Znm:(Tryz.prog.info? 44).map (·.size)=some 3:=by kernel_rfl
theorem ZhA (v1 v2 v3:Value)(ns:List Nd)(is:List In)(ds:List Df)(w:World)(R1:NRow w v1 ns)(W:InRow w v2 is)(Y:DfRow w v3 ds)(h1:ns.length <= 2097152)(h2:is.length <= 2097152)(h3:ds.length <= 2097152) :
  Calls Tryz.prog 18 #[.agg #[v1,v2,v3]] w fun e P=>∃ u1 u2 u3,e=.returned (.agg #[u1,u2,u3])/\P.ownsRow w.heap.size 194 5 u1 ns.length (ncs ns)/\P.ownsRow w.heap.size 170 4 u2 is.length (incs is)/\P.ownsRow w.heap.size 155 3 u3 ds.length (dfcs ds)/\Below w.heap.size w P:=by
 have S:=R1.sz
 have af:=W.sz
 have ag:=Y.sz
 obtain ⟨a1,c1,rfl⟩:=R1.small
 obtain ⟨Q,c2,rfl⟩:=W.small
 obtain ⟨O,c3,rfl⟩:=Y.small
 go_enter Tryz.func18,Tryz.ntmps18
 go_wp2_with fail
 have u:Below w.heap.size w (((w.alloc (Obj.cells #[.slice a1 ns.length c1,.slice Q is.length c2,.slice O ds.length c3] 28)).alloc (Obj.cells #[.slice none 0 0,.slice none 0 0,.slice none 0 0] 44)).alloc (Obj.cells #[.slice none 0 0,.slice none 0 0,.slice none 0 0] 44)) :=
  (((Below.refl _ _).alloc (Nat.le_refl _) _).alloc (by simp) _).alloc (by simp;omega) _
 refine (Zel _ ns _ (R1.below u) h1).mono ?_
 rintro e d ⟨u1,rfl,s,q⟩
 obtain ⟨y,z,rfl⟩:=Zag s
 have S1:=NRow.of_own s (by omega) S
 have D:d.heap[w.heap.size]? = some (.cells #[.slice a1 ns.length c1,.slice Q is.length c2,.slice O ds.length c3] 28 (0,0)):=(q.block _ (by simp;omega)).trans ((heap_alloc_old _ _ (by simp;omega)).trans ((heap_alloc_old _ _ (by simp)).trans (heap_alloc_new _ _)))
 have G:d.heap[w.heap.size+1]? = some (.cells #[.slice none 0 0,.slice none 0 0,.slice none 0 0] 44 (0,0)):=(q.block _ (by simp)).trans ((heap_alloc_old _ _ (by simp)).trans (heap_alloc2_new _ _ _))
 have o:d.heap[w.heap.size+1+1]? = some (.cells #[.slice none 0 0,.slice none 0 0,.slice none 0 0] 44 (0,0)):=(q.block _ (by simp)).trans (ZbA _ _ _ _)
 have J:=u.trans (q.mono u.size)
 have C:d.ownsRow (w.heap.size+3) 194 5 (.slice y ns.length z) ns.length (ncs ns):=by simpa using s
 have Z:d.cell? ⟨w.heap.size+1+1,0,none⟩=some (.slice none 0 0):=by rw [cell_of_row d _ 0 _ _ _ o];rfl
 have ae:d.frozen? ⟨w.heap.size+1+1,0,none⟩=false:=frozen_of_row d _ 0 _ _ o
 have aa:d.cell? ⟨w.heap.size,0+1,none⟩=some (.slice Q is.length c2):=by rw [cell_of_row d _ 1 _ _ _ D];rfl
 have R:=(bl o)
 clear u q s
 go_wp2_with fail
 have g:Below w.heap.size w (d.setCell ⟨w.heap.size+1+1,0,none⟩ (.slice y ns.length z)):=J.setCell (p:=⟨w.heap.size+1+1,0,none⟩) (by simp;omega) _
 refine (ZiX _ is _ (W.below g) h2).mono ?_
 rintro e j ⟨u2,rfl,E,l⟩
 obtain ⟨x,t,rfl⟩:=Zag E
 have r:=Zac (ownsRow_setCell_below C (a:=⟨w.heap.size+1+1,0,none⟩) (by simp) (.slice y ns.length z)) l
 have L:j.heap[w.heap.size]? = some (.cells #[.slice a1 ns.length c1,.slice Q is.length c2,.slice O ds.length c3] 28 (0,0)):=(l.block _ (by simp;omega)).trans ((heap_setCell_other d ⟨w.heap.size+1+1,0,none⟩ w.heap.size _ (by simp;omega)).trans D)
 have H:j.heap[w.heap.size+1]? = some (.cells #[.slice none 0 0,.slice none 0 0,.slice none 0 0] 44 (0,0)):=(l.block _ (by simp;omega)).trans ((heap_setCell_other d ⟨w.heap.size+1+1,0,none⟩ (w.heap.size+1) _ (by simp)).trans G)
 have m:j.heap[w.heap.size+1+1]? = some (.cells #[.slice y ns.length z,.slice none 0 0,.slice none 0 0] 44 (0,0)):=(l.block _ (by simp;omega)).trans (heap_setCell_same d (w.heap.size+1+1) 0 _ _ (.slice y ns.length z) o)
 have N:=g.trans (l.mono g.size)
 have B:j.ownsRow (w.heap.size+3) 170 4 (.slice x is.length t) is.length (incs is):=Zah E (by simp;omega)
 have V:j.cell? ⟨w.heap.size+1+1,0+1,none⟩=some (.slice none 0 0):=by rw [cell_of_row j _ 1 _ _ _ m];rfl
 have ab:j.frozen? ⟨w.heap.size+1+1,0+1,none⟩=false:=frozen_of_row j _ 1 _ _ m
 have U:j.cell? ⟨w.heap.size,0+2,none⟩=some (.slice O ds.length c3):=by rw [cell_of_row j _ 2 _ _ _ L];rfl
 have I:=(bl m)
 clear J g l C E D G o Z ae aa R S1
 go_wp2_with fail
 have f:Below w.heap.size w (j.setCell ⟨w.heap.size+1+1,1,none⟩ (.slice x is.length t)):=N.setCell (p:=⟨w.heap.size+1+1,1,none⟩) (by simp;omega) _
 refine (Zj1 _ ds _ (Y.below f) h3).mono ?_
 rintro e b ⟨u3,rfl,F,i⟩
 obtain ⟨M,K,rfl⟩:=Zag F
 have X:=Zac (ownsRow_setCell_below r (a:=⟨w.heap.size+1+1,1,none⟩) (by simp) (.slice x is.length t)) i
 have ad:=Zac (ownsRow_setCell_below B (a:=⟨w.heap.size+1+1,1,none⟩) (by simp) (.slice x is.length t)) i
 have c:b.heap[w.heap.size+1]? = some (.cells #[.slice none 0 0,.slice none 0 0,.slice none 0 0] 44 (0,0)):=(i.block _ (by simp;omega)).trans ((heap_setCell_other j ⟨w.heap.size+1+1,1,none⟩ (w.heap.size+1) _ (by simp)).trans H)
 have A:b.heap[w.heap.size+1+1]? = some (.cells #[.slice y ns.length z,.slice x is.length t,.slice none 0 0] 44 (0,0)):=(i.block _ (by simp;omega)).trans (heap_setCell_same j (w.heap.size+1+1) 1 _ _ (.slice x is.length t) m)
 have T:=f.trans (i.mono f.size)
 have ac:b.ownsRow (w.heap.size+3) 155 3 (.slice M ds.length K) ds.length (dfcs ds):=Zah F (by simp;omega)
 have g0:b.cell? ⟨w.heap.size+1+1,0,none⟩=some (.slice y ns.length z):=by rw [cell_of_row b _ 0 _ _ _ A];rfl
 have g1:b.cell? ⟨w.heap.size+1+1,0+1,none⟩=some (.slice x is.length t):=by rw [cell_of_row b _ 1 _ _ _ A];rfl
 have g2:b.cell? ⟨w.heap.size+1+1,0+2,none⟩=some (.slice none 0 0):=by rw [cell_of_row b _ 2 _ _ _ A];rfl
 have gf:b.frozen? ⟨w.heap.size+1+1,0+2,none⟩=false:=frozen_of_row b _ 2 _ _ A
 have k0:b.cell? ⟨w.heap.size+1,0,none⟩=some (.slice none 0 0):=by rw [cell_of_row b _ 0 _ _ _ c];rfl
 have k1:b.cell? ⟨w.heap.size+1,0+1,none⟩=some (.slice none 0 0):=by rw [cell_of_row b _ 1 _ _ _ c];rfl
 have k2:b.cell? ⟨w.heap.size+1,0+2,none⟩=some (.slice none 0 0):=by rw [cell_of_row b _ 2 _ _ _ c];rfl
 have f0:b.frozen? ⟨w.heap.size+1,0,none⟩=false:=frozen_of_row b _ 0 _ _ c
 have f1:b.frozen? ⟨w.heap.size+1,0+1,none⟩=false:=frozen_of_row b _ 1 _ _ c
 have f2:b.frozen? ⟨w.heap.size+1,0+2,none⟩=false:=frozen_of_row b _ 2 _ _ c
 clear N f i r B F L H m V ab U I
 go_wp2
 have q0:=(heap_setCell_other b ⟨w.heap.size+1+1,2,none⟩ (w.heap.size+1) (.slice M ds.length K) (by simp)).trans c
 have q1:=heap_setCell_same _ (w.heap.size+1) 0 _ _ (.slice y ns.length z) q0
 have q2:=heap_setCell_same _ (w.heap.size+1) 1 _ _ (.slice x is.length t) q1
 have q3:=heap_setCell_same _ (w.heap.size+1) 2 _ _ (.slice M ds.length K) q2
 have up:∀ {e:TypeId} {k:Nat} {v:Value} {n:Nat} {xs:List Value},b.ownsRow (w.heap.size+3) e k v n xs -> ((((b.setCell ⟨w.heap.size+1+1,2,none⟩ (.slice M ds.length K)).setCell ⟨w.heap.size+1,0,none⟩ (.slice y ns.length z)).setCell ⟨w.heap.size+1,1,none⟩ (.slice x is.length t)).setCell ⟨w.heap.size+1,2,none⟩ (.slice M ds.length K)).ownsRow (w.heap.size+3) e k v n xs:=fun h =>
  ownsRow_setCell_below (ownsRow_setCell_below (ownsRow_setCell_below (ownsRow_setCell_below h (by simp) _) (by simp) _) (by simp) _) (by simp) _
 refine bodyPost_ret (results_cell_row rfl _ _ (w.heap.size+1) 44 _ (0,0) _ rfl q3 Tryz.underlying44 rfl Znm) rfl ⟨_,_,_,rfl,Zah (up X) (by omega),Zah (up ad) (by omega),Zah (up ac) (by omega),?_⟩
 exact (((T.setCell (p:=⟨w.heap.size+1+1,2,none⟩) (by simp;omega) _).setCell (p:=⟨w.heap.size+1,0,none⟩) (by simp) _).setCell (p:=⟨w.heap.size+1,1,none⟩) (by simp) _).setCell (p:=⟨w.heap.size+1,2,none⟩) (by simp) _
def Zbg:List Df -> ByteArray -> Nat -> Int
 | [],_,_=>-1
 | d :: ds,s,i=>if d.s.toList == s.toList then i else Zbg ds s (i+1)
theorem Ze9 (ds:List Df)(s:ByteArray)(i:Nat)(d:Df)(h:ds[i]? = some d)(e:(d.s.toList == s.toList)=true):Zbg (ds.drop i) s i=i:=by
 obtain ⟨a,b⟩:=List.getElem?_eq_some_iff.1 h
 rw [List.drop_eq_getElem_cons a,b,Zbg,if_pos e]
theorem Zd3 (ds:List Df)(s:ByteArray)(i:Nat)(d:Df)(h:ds[i]? = some d)(e:(d.s.toList == s.toList)=false):Zbg (ds.drop i) s i=Zbg (ds.drop (i+1)) s (i+1):=by
 obtain ⟨a,b⟩:=List.getElem?_eq_some_iff.1 h
 rw [List.drop_eq_getElem_cons a,b,Zbg,if_neg (by rw [e];simp)]
theorem ZfR (ds:List Df)(s:ByteArray)(i:Nat)(h:ds.length <= i):Zbg (ds.drop i) s i = -1:=by
 rw [List.drop_eq_nil_of_le h,Zbg]
theorem ZhE (m q:Option Addr)(n1 c1 n2 c2:Nat)(z:Value)(ds:List Df)(s:ByteArray)(w:World)(R:DfRow w z ds) :
  Calls Tryz.prog 78 #[.agg #[.slice m n1 c1,.slice q n2 c2,z],.string s] w fun e D=>e=.returned (.int .i64 (Zbg ds s 0))/\Below w.heap.size w D:=by
 obtain ⟨n,b,rfl,A,J,G,a⟩:=R
 go_enter Tryz.func78,Tryz.ntmps78
 have h:Below w.heap.size w (w.alloc (Obj.cells #[.slice m n1 c1,.slice q n2 c2,.slice n ds.length b] 44)):=(Below.refl _ _).alloc (Nat.le_refl _) _
 have d:=heap_alloc_new w (Obj.cells #[.slice m n1 c1,.slice q n2 c2,.slice n ds.length b] 44)
 go_wp2_with fail
 generalize w.alloc (Obj.cells #[.slice m n1 c1,.slice q n2 c2,.slice n ds.length b] 44)=r at *
 have u:r.cell? ⟨w.heap.size,0+2,none⟩=some (.slice n ds.length b):=by rw [cell_of_row r _ 2 _ _ _ d];rfl
 have v:=(bl d)
 go_loopw [5] (fun i wr=>∃ k:Nat,k <= ds.length/\i=.int .i64 k/\Hid (Zbg ds s 0=Zbg (ds.drop k) s k)/\Below r.heap.size r wr) (fun i _=>ds.length - (intOf i).toNat)
 case atStart=>exact ⟨0,by omega,rfl,rfl,Below.refl _ _⟩
 case round =>
  obtain ⟨k,H,rfl,c,y⟩:=hrel
  have t:=h.trans (y.mono h.size)
  have B:=(y.cell (p:=⟨w.heap.size,0+2,none⟩) v).trans u
  by_cases l:k < ds.length
  ·obtain ⟨g,o,rfl,C,a⟩:=a (by intro e;subst e;simp at l)
   obtain ⟨x,f⟩:∃ x,ds[k]? = some x:=⟨ds[k],by simp [l]⟩
   obtain ⟨E,I,F⟩:=(a k x f).below t C
   clear a
   cases e:(x.s.toList == s.toList) with
   | true =>
    have j:Hid (Zbg ds s 0=k):=by unfold Hid;rw [c.out,Ze9 ds s k x f e]
    clear f c
    go_wp2
    go_ret
    exact ⟨by rw [j.out];rfl,t⟩
   | false =>
    have j:Hid (Zbg ds s 0=Zbg (ds.drop (k+1)) s (k+1)):=by unfold Hid;rw [c.out,Zd3 ds s k x f e]
    clear f c
    go_wp2
    go_roundw
    case rel=>exact ⟨k+1,by omega,by go_num,j,y⟩
    case measure=>simp [intOf];omega
  ·have j:Hid (Zbg ds s 0 = -1):=by unfold Hid;rw [c.out,ZfR ds s k (by omega)]
   clear c a
   go_wp2
   go_ret
   exact ⟨by rw [j.out];rfl,t⟩
theorem Zet (d:Df)(s:ByteArray)(q:Nat)(w:World)(c:w.cell? ⟨q,0,none⟩=some (.string s))(f:q < w.heap.size) :
  Calls Tryz.prog 187 #[.agg #[.string d.s,.int .i64 d.p,.int .i64 d.m],.pointer (some ⟨q,0,none⟩)] w fun e b=>e=.returned (.bool (d.s.toList == s.toList))/\Below w.heap.size w b:=by
 have a:¬ q=w.heap.size:=by omega
 go_enter Tryz.func187,Tryz.ntmps187
 go_wp2
 go_ret
 exact ⟨rfl,(Below.refl _ _).alloc (Nat.le_refl _) _⟩
theorem ZeZ (y:Value)(ds:List Df)(s:ByteArray)(q:Nat)(w:World)(R:DfRow w y ds)(A:w.cell? ⟨q,0,none⟩=some (.string s))(r:q < w.heap.size) :
  Calls Tryz.prog 186 #[y,.func (.func 187) #[] #[.pointer (some ⟨q,0,none⟩)]] w fun e E=>e=.returned (.int .i64 (Zbg ds s 0))/\Below w.heap.size w E:=by
 obtain ⟨I,D,rfl,z,J,G,a⟩:=R
 go_enter Tryz.func186,Tryz.ntmps186
 go_wp2_with fail
 go_loopw [8] (fun i wr=>∃ k:Nat,k <= ds.length/\i=.int .i64 k/\Hid (Zbg ds s 0=Zbg (ds.drop k) s k)/\Below w.heap.size w wr) (fun i _=>ds.length - (intOf i).toNat)
 case atStart=>exact ⟨0,by omega,rfl,rfl,Below.refl _ _⟩
 case round =>
  obtain ⟨k,H,rfl,h,d⟩:=hrel
  have c:=(d.cell (p:=⟨q,0,none⟩) r).trans A
  have j:=Nat.lt_of_lt_of_le r d.size
  by_cases n:k < ds.length
  ·obtain ⟨g,o,rfl,C,a⟩:=a (by intro e;subst e;simp at n)
   obtain ⟨x,l⟩:∃ x,ds[k]? = some x:=⟨ds[k],by simp [n]⟩
   obtain ⟨t,v,u⟩:=(a k x l).below d C
   clear a
   cases e:(x.s.toList == s.toList) with
   | true =>
    have m:Hid (Zbg ds s 0=k):=by unfold Hid;rw [h.out,Ze9 ds s k x l e]
    clear l h
    go_wp2_with fail
    refine (Zet x s q _ c j).mono ?_
    rintro F B ⟨rfl,b⟩
    rw [e]
    have f:=d.trans (b.mono d.size)
    clear t v u c b
    go_wp2
    go_ret
    exact ⟨by rw [m.out];rfl,f⟩
   | false =>
    have m:Hid (Zbg ds s 0=Zbg (ds.drop (k+1)) s (k+1)):=by unfold Hid;rw [h.out,Zd3 ds s k x l e]
    clear l h
    go_wp2_with fail
    refine (Zet x s q _ c j).mono ?_
    rintro F B ⟨rfl,b⟩
    rw [e]
    have f:=d.trans (b.mono d.size)
    clear t v u c b
    go_wp2
    go_roundw
    case rel=>exact ⟨k+1,by omega,by go_num,m,f⟩
    case measure=>simp [intOf];omega
  ·have m:Hid (Zbg ds s 0 = -1):=by unfold Hid;rw [h.out,ZfR ds s k (by omega)]
   clear h a
   go_wp2
   go_ret
   exact ⟨by rw [m.out];rfl,d⟩
theorem Zhl (h f:Option Addr)(n1 c1 n2 c2:Nat)(g:Value)(ds:List Df)(s:ByteArray)(w:World)(R:DfRow w g ds) :
  Calls Tryz.prog 152 #[.agg #[.slice h n1 c1,.slice f n2 c2,g],.string s] w fun e l=>e=.returned (.int .i64 (Zbg ds s 0))/\Below w.heap.size w l:=by
 have j:∀ (i:Fn) (first b:Array Value) (w:World),(Instr.makeFunc i first b).run Tryz.prog w=.ok (.func i first b) w:=fun _ _ _ _=>rfl
 obtain ⟨k,c3,rfl⟩:=R.small
 go_enter Tryz.func152,Tryz.ntmps152
 go_wp2_with fail
 have a:Below w.heap.size w ((w.alloc (Obj.cells #[.slice h n1 c1,.slice f n2 c2,.slice k ds.length c3] 44)).alloc (Obj.cells #[.string s] 9)):=((Below.refl _ _).alloc (Nat.le_refl _) _).alloc (by simp) _
 refine (ZeZ _ ds s (w.heap.size+1) _ (R.below a) ?_ ?_).mono ?_
 ·rw [cell_of_row _ _ 0 _ _ _ (heap_alloc2_new _ _ _)];rfl
 ·simp
 rintro e m ⟨rfl,c⟩
 have d:=a.trans (c.mono a.size)
 clear a c
 go_wp2
 go_ret
 exact ⟨rfl,d⟩
def Zb6 (x:In):Bool:=x.n == 0 && x.i == 0 && x.s.toList == []
def litB (x:In)(n1:Nat):Bool:=x.i == 0 && x.s.toList == [] && decide (0 <= x.n) && decide (x.n < n1)
def varB (x:In):Bool:=x.s.toList == [] && decide (0 <= x.n) && decide (x.n <= 20) && decide (0 <= x.i) && decide (x.i < 4)
def Zbf (x:In):Bool:=x.n == 0 && x.i == 0 && Zb1 x.s
def wayB (x:In)(i:Int)(n2:Nat):Bool:=x.i == 0 && x.s.toList == [] && decide (i < x.n) && decide (x.n <= n2)
def funB (x:In)(i:Int)(n2:Nat):Bool:=x.s.toList == [] && decide (i < x.n) && decide (x.n < n2) && decide (0 <= x.i) && decide (x.i <= 4)
def ZcQ (x:In):Bool:=x.n == 0 && x.s.toList == [] && decide (0 <= x.i) && decide (x.i <= 4)
theorem Zev (x:In)(d a b:Option Addr)(n1 n2 c c1 c2 c3:Nat)(i:Int)(w:World) :
  Calls Tryz.prog 184 #[.agg #[.int .i64 x.o,.int .i64 x.n,.int .i64 x.i,.string x.s],.agg #[.slice d n1 c1,.slice a n2 c2,.slice b c c3],.int .i64 i] w fun e f=>e=.returned (.bool (Zb6 x))/\Below w.heap.size w f:=by
 go_enter Tryz.func184,Tryz.ntmps184
 go_wp2
 all_goals
  go_ret
  refine ⟨retB ?_,?_⟩
  ·unfold Zb6
   first
    | (simp [*];done)
    | (simp [*];omega)
    | (rw [Bool.eq_iff_iff];simp [*];omega)
  ·first
    | exact ((Below.refl _ _).alloc (Nat.le_refl _) _).alloc (by simp) _
    | exact (((Below.refl _ _).alloc (Nat.le_refl _) _).alloc (by simp) _).alloc (by simp;omega) _
theorem ZiM (x:In)(d a b:Option Addr)(n1 n2 c c1 c2 c3:Nat)(i:Int)(w:World) :
  Calls Tryz.prog 178 #[.agg #[.int .i64 x.o,.int .i64 x.n,.int .i64 x.i,.string x.s],.agg #[.slice d n1 c1,.slice a n2 c2,.slice b c c3],.int .i64 i] w fun e f=>e=.returned (.bool (litB x n1))/\Below w.heap.size w f:=by
 go_enter Tryz.func178,Tryz.ntmps178
 go_wp2
 all_goals
  go_ret
  refine ⟨retB ?_,?_⟩
  ·unfold litB
   first
    | (simp [*];done)
    | (simp [*];omega)
    | (rw [Bool.eq_iff_iff];simp [*];omega)
  ·first
    | exact ((Below.refl _ _).alloc (Nat.le_refl _) _).alloc (by simp) _
    | exact (((Below.refl _ _).alloc (Nat.le_refl _) _).alloc (by simp) _).alloc (by simp;omega) _
theorem ZjD (x:In)(d a b:Option Addr)(n1 n2 c c1 c2 c3:Nat)(i:Int)(w:World) :
  Calls Tryz.prog 179 #[.agg #[.int .i64 x.o,.int .i64 x.n,.int .i64 x.i,.string x.s],.agg #[.slice d n1 c1,.slice a n2 c2,.slice b c c3],.int .i64 i] w fun e f=>e=.returned (.bool (varB x))/\Below w.heap.size w f:=by
 go_enter Tryz.func179,Tryz.ntmps179
 go_wp2
 all_goals
  go_ret
  refine ⟨retB ?_,?_⟩
  ·unfold varB
   first
    | (simp [*];done)
    | (simp [*];omega)
    | (rw [Bool.eq_iff_iff];simp [*];omega)
  ·first
    | exact ((Below.refl _ _).alloc (Nat.le_refl _) _).alloc (by simp) _
    | exact (((Below.refl _ _).alloc (Nat.le_refl _) _).alloc (by simp) _).alloc (by simp;omega) _
theorem Zfj (x:In)(f a c:Option Addr)(n1 n2 d c1 c2 c3:Nat)(i:Int)(w:World)(b:x.s.size <= maxLen) :
  Calls Tryz.prog 180 #[.agg #[.int .i64 x.o,.int .i64 x.n,.int .i64 x.i,.string x.s],.agg #[.slice f n1 c1,.slice a n2 c2,.slice c d c3],.int .i64 i] w fun e g=>e=.returned (.bool (Zbf x))/\Below w.heap.size w g:=by
 go_enter Tryz.func180,Tryz.ntmps180
 go_wp2_with (go_at_call 151;refine (Zdo x.s _ b).mono ?_;rintro e h ⟨rfl,rfl⟩)
 all_goals
  go_ret
  refine ⟨retB ?_,?_⟩
  ·unfold Zbf
   first
    | (simp [*];done)
    | (simp [*];omega)
    | (rw [Bool.eq_iff_iff];simp [*];omega)
  ·first
    | exact ((Below.refl _ _).alloc (Nat.le_refl _) _).alloc (by simp) _
    | exact (((Below.refl _ _).alloc (Nat.le_refl _) _).alloc (by simp) _).alloc (by simp;omega) _
theorem ZfT (x:In)(d a b:Option Addr)(n1 n2 c c1 c2 c3:Nat)(i:Int)(w:World) :
  Calls Tryz.prog 181 #[.agg #[.int .i64 x.o,.int .i64 x.n,.int .i64 x.i,.string x.s],.agg #[.slice d n1 c1,.slice a n2 c2,.slice b c c3],.int .i64 i] w fun e f=>e=.returned (.bool (wayB x i n2))/\Below w.heap.size w f:=by
 go_enter Tryz.func181,Tryz.ntmps181
 go_wp2
 all_goals
  go_ret
  refine ⟨retB ?_,?_⟩
  ·unfold wayB
   first
    | (simp [*];done)
    | (simp [*];omega)
    | (rw [Bool.eq_iff_iff];simp [*];omega)
  ·first
    | exact ((Below.refl _ _).alloc (Nat.le_refl _) _).alloc (by simp) _
    | exact (((Below.refl _ _).alloc (Nat.le_refl _) _).alloc (by simp) _).alloc (by simp;omega) _
theorem Zi6 (x:In)(d a b:Option Addr)(n1 n2 c c1 c2 c3:Nat)(i:Int)(w:World) :
  Calls Tryz.prog 182 #[.agg #[.int .i64 x.o,.int .i64 x.n,.int .i64 x.i,.string x.s],.agg #[.slice d n1 c1,.slice a n2 c2,.slice b c c3],.int .i64 i] w fun e f=>e=.returned (.bool (funB x i n2))/\Below w.heap.size w f:=by
 go_enter Tryz.func182,Tryz.ntmps182
 go_wp2
 all_goals
  go_ret
  refine ⟨retB ?_,?_⟩
  ·unfold funB
   first
    | (simp [*];done)
    | (simp [*];omega)
    | (rw [Bool.eq_iff_iff];simp [*];omega)
  ·first
    | exact ((Below.refl _ _).alloc (Nat.le_refl _) _).alloc (by simp) _
    | exact (((Below.refl _ _).alloc (Nat.le_refl _) _).alloc (by simp) _).alloc (by simp;omega) _
theorem Zhs (x:In)(d a b:Option Addr)(n1 n2 c c1 c2 c3:Nat)(i:Int)(w:World) :
  Calls Tryz.prog 183 #[.agg #[.int .i64 x.o,.int .i64 x.n,.int .i64 x.i,.string x.s],.agg #[.slice d n1 c1,.slice a n2 c2,.slice b c c3],.int .i64 i] w fun e f=>e=.returned (.bool (ZcQ x))/\Below w.heap.size w f:=by
 go_enter Tryz.func183,Tryz.ntmps183
 go_wp2
 all_goals
  go_ret
  refine ⟨retB ?_,?_⟩
  ·unfold ZcQ
   first
    | (simp [*];done)
    | (simp [*];omega)
    | (rw [Bool.eq_iff_iff];simp [*];omega)
  ·first
    | exact ((Below.refl _ _).alloc (Nat.le_refl _) _).alloc (by simp) _
    | exact (((Below.refl _ _).alloc (Nat.le_refl _) _).alloc (by simp) _).alloc (by simp;omega) _
def Zay (x:In)(i:Int)(n1 n2:Nat):Bool :=
 if x.o=1 then litB x n1 else if x.o=2 then varB x else if x.o=3 then Zbf x else if x.o=4 then wayB x i n2 else if x.o=5 then wayB x i n2
 else if x.o=6 then funB x i n2 else if x.o=7 then ZcQ x else if x.o=8 then Zb6 x else if x.o=9 then Zb6 x else false
theorem Zbv (c:Option Addr)(n b:Nat)(a:Int)(w:World)(g:n <= 9223372036854775807) :
  Calls Tryz.prog 112 #[.agg #[.slice c n b],.int .i64 a] w fun e d=>e=.returned (.bool (decide (0 <= a) && decide (a < n)))/\Below w.heap.size w d:=by
 go_enter Tryz.func112,Tryz.ntmps112
 go_wp2_with fail
 refine (Zar _ _ _ _).mono ?_
 rintro e f ⟨rfl,rfl⟩
 go_wp2
 go_ret
 refine ⟨retB ?_,(Below.refl _ _).alloc (Nat.le_refl _) _⟩
 rw [Bool.eq_iff_iff]
 simp
 omega
theorem Zij (s q:Option Addr)(n1 c1 p c3:Nat)(t:Value)(is:List In)(k:Nat)(x:In)(w:World)(R:InRow w t is)(l:is[k]? = some x)(i:n1 <= 9223372036854775807) :
  Calls Tryz.prog 76 #[.agg #[.slice s n1 c1,t,.slice q p c3],.int .i64 k] w fun e C=>e=.returned (.bool (Zay x k n1 is.length))/\Below w.heap.size w C:=by
 obtain ⟨Q,c2,rfl,u,S,r,h⟩:=R
 have m:k < is.length:=(List.getElem?_eq_some_iff.1 l).1
 obtain ⟨g,o,rfl,M,h⟩:=h (by intro e;subst e;simp at m)
 obtain ⟨v,D,y,A⟩:=h k x l
 have f:=r x (List.mem_of_getElem? l)
 have E:¬ g=w.heap.size:=by omega
 clear h l r
 have a:Below w.heap.size w (w.alloc (Obj.cells #[.slice s n1 c1,.slice (some ⟨g,o,none⟩) is.length c2,.slice q p c3] 44)):=(Below.refl _ _).alloc (Nat.le_refl _) _
 obtain ⟨c,F,z,j⟩:=x
 dsimp only at v D y A f
 have n:(c < 1 \/ 9 < c) \/ c=1 \/ c=2 \/ c=3 \/ c=4 \/ c=5 \/ c=6 \/ c=7 \/ c=8 \/ c=9:=by omega
 rcases n with n | rfl | rfl | rfl | rfl | rfl | rfl | rfl | rfl | rfl
 ·have B:Hid (Zay ⟨c,F,z,j⟩ k n1 is.length=false):=by unfold Hid;simp [Zay,show ¬ c=1 by omega,show ¬ c=2 by omega,show ¬ c=3 by omega,show ¬ c=4 by omega,show ¬ c=5 by omega,show ¬ c=6 by omega,show ¬ c=7 by omega,show ¬ c=8 by omega,show ¬ c=9 by omega]
  have I:¬ c=1:=by omega
  have J:¬ c=2:=by omega
  have K:¬ c=3:=by omega
  have O:¬ c=4:=by omega
  have L:¬ c=5:=by omega
  have N:¬ c=6:=by omega
  have P:¬ c=7:=by omega
  have G:¬ c=8:=by omega
  have H:¬ c=9:=by omega
  go_enter Tryz.func76,Tryz.ntmps76
  go_wp2
  go_ret
  exact ⟨by rw [B.out];rfl,(a.alloc a.size _).alloc (by have:=a.size;simp;omega) _⟩
 ·go_enter Tryz.func76,Tryz.ntmps76
  go_wp2_with (first
   | (go_at_call 112;refine (Zbv _ _ _ _ _ i).mono ?_;rintro e d ⟨rfl,b⟩)
   | (go_at_call 77;refine (ZaT j _ f).mono ?_;rintro e d ⟨rfl,rfl⟩)
   | (go_at_call 40;refine (Zar _ _ _ _).mono ?_;rintro e d ⟨rfl,rfl⟩))
  all_goals
   go_ret
   refine ⟨retB ?_,?_⟩
   ·simp only [Zay,litB,varB,Zbf,wayB,funB,ZcQ,Zb6]
    first
     | (simp [*];done)
     | (simp [*];omega)
     | (rw [Bool.eq_iff_iff];simp [*];omega)
   ·first
     | exact (a.alloc a.size _).alloc (by have:=a.size;simp;omega) _
     | exact ((a.alloc a.size _).alloc (by have:=a.size;simp;omega) _).trans (b.mono (by simp;omega))
 ·go_enter Tryz.func76,Tryz.ntmps76
  go_wp2_with (first
   | (go_at_call 112;refine (Zbv _ _ _ _ _ i).mono ?_;rintro e d ⟨rfl,b⟩)
   | (go_at_call 77;refine (ZaT j _ f).mono ?_;rintro e d ⟨rfl,rfl⟩)
   | (go_at_call 40;refine (Zar _ _ _ _).mono ?_;rintro e d ⟨rfl,rfl⟩))
  all_goals
   go_ret
   refine ⟨retB ?_,?_⟩
   ·simp only [Zay,litB,varB,Zbf,wayB,funB,ZcQ,Zb6]
    first
     | (simp [*];done)
     | (simp [*];omega)
     | (rw [Bool.eq_iff_iff];simp [*];omega)
   ·first
     | exact (a.alloc a.size _).alloc (by have:=a.size;simp;omega) _
     | exact ((a.alloc a.size _).alloc (by have:=a.size;simp;omega) _).trans (b.mono (by simp;omega))
 ·go_enter Tryz.func76,Tryz.ntmps76
  go_wp2_with (first
   | (go_at_call 112;refine (Zbv _ _ _ _ _ i).mono ?_;rintro e d ⟨rfl,b⟩)
   | (go_at_call 77;refine (ZaT j _ f).mono ?_;rintro e d ⟨rfl,rfl⟩)
   | (go_at_call 40;refine (Zar _ _ _ _).mono ?_;rintro e d ⟨rfl,rfl⟩))
  all_goals
   go_ret
   refine ⟨retB ?_,?_⟩
   ·simp only [Zay,litB,varB,Zbf,wayB,funB,ZcQ,Zb6]
    first
     | (simp [*];done)
     | (simp [*];omega)
     | (rw [Bool.eq_iff_iff];simp [*];omega)
   ·first
     | exact (a.alloc a.size _).alloc (by have:=a.size;simp;omega) _
     | exact ((a.alloc a.size _).alloc (by have:=a.size;simp;omega) _).trans (b.mono (by simp;omega))
 ·go_enter Tryz.func76,Tryz.ntmps76
  go_wp2_with (first
   | (go_at_call 112;refine (Zbv _ _ _ _ _ i).mono ?_;rintro e d ⟨rfl,b⟩)
   | (go_at_call 77;refine (ZaT j _ f).mono ?_;rintro e d ⟨rfl,rfl⟩)
   | (go_at_call 40;refine (Zar _ _ _ _).mono ?_;rintro e d ⟨rfl,rfl⟩))
  all_goals
   go_ret
   refine ⟨retB ?_,?_⟩
   ·simp only [Zay,litB,varB,Zbf,wayB,funB,ZcQ,Zb6]
    first
     | (simp [*];done)
     | (simp [*];omega)
     | (rw [Bool.eq_iff_iff];simp [*];omega)
   ·first
     | exact (a.alloc a.size _).alloc (by have:=a.size;simp;omega) _
     | exact ((a.alloc a.size _).alloc (by have:=a.size;simp;omega) _).trans (b.mono (by simp;omega))
 ·go_enter Tryz.func76,Tryz.ntmps76
  go_wp2_with (first
   | (go_at_call 112;refine (Zbv _ _ _ _ _ i).mono ?_;rintro e d ⟨rfl,b⟩)
   | (go_at_call 77;refine (ZaT j _ f).mono ?_;rintro e d ⟨rfl,rfl⟩)
   | (go_at_call 40;refine (Zar _ _ _ _).mono ?_;rintro e d ⟨rfl,rfl⟩))
  all_goals
   go_ret
   refine ⟨retB ?_,?_⟩
   ·simp only [Zay,litB,varB,Zbf,wayB,funB,ZcQ,Zb6]
    first
     | (simp [*];done)
     | (simp [*];omega)
     | (rw [Bool.eq_iff_iff];simp [*];omega)
   ·first
     | exact (a.alloc a.size _).alloc (by have:=a.size;simp;omega) _
     | exact ((a.alloc a.size _).alloc (by have:=a.size;simp;omega) _).trans (b.mono (by simp;omega))
 ·go_enter Tryz.func76,Tryz.ntmps76
  go_wp2_with (first
   | (go_at_call 112;refine (Zbv _ _ _ _ _ i).mono ?_;rintro e d ⟨rfl,b⟩)
   | (go_at_call 77;refine (ZaT j _ f).mono ?_;rintro e d ⟨rfl,rfl⟩)
   | (go_at_call 40;refine (Zar _ _ _ _).mono ?_;rintro e d ⟨rfl,rfl⟩))
  all_goals
   go_ret
   refine ⟨retB ?_,?_⟩
   ·simp only [Zay,litB,varB,Zbf,wayB,funB,ZcQ,Zb6]
    first
     | (simp [*];done)
     | (simp [*];omega)
     | (rw [Bool.eq_iff_iff];simp [*];omega)
   ·first
     | exact (a.alloc a.size _).alloc (by have:=a.size;simp;omega) _
     | exact ((a.alloc a.size _).alloc (by have:=a.size;simp;omega) _).trans (b.mono (by simp;omega))
 ·go_enter Tryz.func76,Tryz.ntmps76
  go_wp2_with (first
   | (go_at_call 112;refine (Zbv _ _ _ _ _ i).mono ?_;rintro e d ⟨rfl,b⟩)
   | (go_at_call 77;refine (ZaT j _ f).mono ?_;rintro e d ⟨rfl,rfl⟩)
   | (go_at_call 40;refine (Zar _ _ _ _).mono ?_;rintro e d ⟨rfl,rfl⟩))
  all_goals
   go_ret
   refine ⟨retB ?_,?_⟩
   ·simp only [Zay,litB,varB,Zbf,wayB,funB,ZcQ,Zb6]
    first
     | (simp [*];done)
     | (simp [*];omega)
     | (rw [Bool.eq_iff_iff];simp [*];omega)
   ·first
     | exact (a.alloc a.size _).alloc (by have:=a.size;simp;omega) _
     | exact ((a.alloc a.size _).alloc (by have:=a.size;simp;omega) _).trans (b.mono (by simp;omega))
 ·go_enter Tryz.func76,Tryz.ntmps76
  go_wp2_with (first
   | (go_at_call 112;refine (Zbv _ _ _ _ _ i).mono ?_;rintro e d ⟨rfl,b⟩)
   | (go_at_call 77;refine (ZaT j _ f).mono ?_;rintro e d ⟨rfl,rfl⟩)
   | (go_at_call 40;refine (Zar _ _ _ _).mono ?_;rintro e d ⟨rfl,rfl⟩))
  all_goals
   go_ret
   refine ⟨retB ?_,?_⟩
   ·simp only [Zay,litB,varB,Zbf,wayB,funB,ZcQ,Zb6]
    first
     | (simp [*];done)
     | (simp [*];omega)
     | (rw [Bool.eq_iff_iff];simp [*];omega)
   ·first
     | exact (a.alloc a.size _).alloc (by have:=a.size;simp;omega) _
     | exact ((a.alloc a.size _).alloc (by have:=a.size;simp;omega) _).trans (b.mono (by simp;omega))
 ·go_enter Tryz.func76,Tryz.ntmps76
  go_wp2_with (first
   | (go_at_call 112;refine (Zbv _ _ _ _ _ i).mono ?_;rintro e d ⟨rfl,b⟩)
   | (go_at_call 77;refine (ZaT j _ f).mono ?_;rintro e d ⟨rfl,rfl⟩)
   | (go_at_call 40;refine (Zar _ _ _ _).mono ?_;rintro e d ⟨rfl,rfl⟩))
  all_goals
   go_ret
   refine ⟨retB ?_,?_⟩
   ·simp only [Zay,litB,varB,Zbf,wayB,funB,ZcQ,Zb6]
    first
     | (simp [*];done)
     | (simp [*];omega)
     | (rw [Bool.eq_iff_iff];simp [*];omega)
   ·first
     | exact (a.alloc a.size _).alloc (by have:=a.size;simp;omega) _
     | exact ((a.alloc a.size _).alloc (by have:=a.size;simp;omega) _).trans (b.mono (by simp;omega))
end Go.Proofs.YtfeodlbpnghakaaGreatDoor
