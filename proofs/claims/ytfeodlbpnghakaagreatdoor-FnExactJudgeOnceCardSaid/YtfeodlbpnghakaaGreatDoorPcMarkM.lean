/-
  Texts that stood by themselves, laid into one.
-/
import Derived.Test.YtfeodlbpnghakaaGreatDoorInM
import Derived.Test.YtfeodlbpnghakaaGreatDoorMark2M
/-
  A process made of the law's own: toProc. No condition.
-/
set_option maxRecDepth 100000
set_option maxHeartbeats 6400000
namespace Go.Proofs.YtfeodlbpnghakaaGreatDoor
open Go.RowKit
theorem Ziq (i:Int)(v vb vo:Value)(u:List Nd)(m:Mc)(y A:List ByteArray)(w:World)(R:NRow w v u)(Rb:StRow w vb y)(Ro:StRow w vo A)(hm:u.length <= 2097152)(ae:y.length <= 2097152)(ag:A.length <= 2097152) :
  Calls Tryz.prog 88 #[.agg #[.int .i64 i,v,.int .i64 m.p,.int .i64 m.s,.int .i64 m.e,.int .i64 m.d,.int .i64 m.t,.int .i64 m.q,.int .i64 m.r,vb,vo]] w fun e w'=>∃ v1 v2 v3,e=.returned (.agg #[.int .i64 i,v1,.int .i64 m.p,.int .i64 m.s,.int .i64 m.e,.int .i64 m.d,.int .i64 m.t,.int .i64 m.q,.int .i64 m.r,v2,v3])/\w'.ownsRow w.heap.size 194 5 v1 u.length (ncs u)/\w'.ownsRow w.heap.size 9 1 v2 y.length (stv y)/\w'.ownsRow w.heap.size 9 1 v3 A.length (stv A)/\(∀ g,v3.ownBlock=some g -> v2.ownBlock ≠ some g)/\Below w.heap.size w w':=by
 obtain ⟨L,l,rfl⟩:∃ L l,v=.slice L u.length l:=by obtain ⟨L,l,rfl,_⟩:=R;exact ⟨L,l,rfl⟩
 obtain ⟨T,Q,rfl⟩:=Rb.small
 obtain ⟨S,U,rfl⟩:=Ro.small
 have o:Below w.heap.size w (((w.alloc (Obj.cells #[.int .i64 i,.slice L u.length l,.int .i64 m.p,.int .i64 m.s,.int .i64 m.e,.int .i64 m.d,.int .i64 m.t,.int .i64 m.q,.int .i64 m.r,.slice T y.length Q,.slice S A.length U] 93)).alloc (Obj.cells #[.int .i64 0,.slice none 0 0,.int .i64 0,.int .i64 0,.int .i64 0,.int .i64 0,.int .i64 0,.int .i64 0,.int .i64 0,.slice none 0 0,.slice none 0 0] 64)).alloc (Obj.cells #[.int .i64 0,.slice none 0 0,.int .i64 0,.int .i64 0,.int .i64 0,.int .i64 0,.int .i64 0,.int .i64 0,.int .i64 0,.slice none 0 0,.slice none 0 0] 64)):=(((Below.refl _ _).alloc (Nat.le_refl _) _).alloc (by simp) _).alloc (by simp;omega) _
 have C:(((w.alloc (Obj.cells #[.int .i64 i,.slice L u.length l,.int .i64 m.p,.int .i64 m.s,.int .i64 m.e,.int .i64 m.d,.int .i64 m.t,.int .i64 m.q,.int .i64 m.r,.slice T y.length Q,.slice S A.length U] 93)).alloc (Obj.cells #[.int .i64 0,.slice none 0 0,.int .i64 0,.int .i64 0,.int .i64 0,.int .i64 0,.int .i64 0,.int .i64 0,.int .i64 0,.slice none 0 0,.slice none 0 0] 64)).alloc (Obj.cells #[.int .i64 0,.slice none 0 0,.int .i64 0,.int .i64 0,.int .i64 0,.int .i64 0,.int .i64 0,.int .i64 0,.int .i64 0,.slice none 0 0,.slice none 0 0] 64)).heap[w.heap.size]? = some (Obj.cells #[.int .i64 i,.slice L u.length l,.int .i64 m.p,.int .i64 m.s,.int .i64 m.e,.int .i64 m.d,.int .i64 m.t,.int .i64 m.q,.int .i64 m.r,.slice T y.length Q,.slice S A.length U] 93):=(heap_alloc_old _ _ (by simp;omega)).trans ((heap_alloc_old _ _ (by simp)).trans (heap_alloc_new _ _))
 have J:(((w.alloc (Obj.cells #[.int .i64 i,.slice L u.length l,.int .i64 m.p,.int .i64 m.s,.int .i64 m.e,.int .i64 m.d,.int .i64 m.t,.int .i64 m.q,.int .i64 m.r,.slice T y.length Q,.slice S A.length U] 93)).alloc (Obj.cells #[.int .i64 0,.slice none 0 0,.int .i64 0,.int .i64 0,.int .i64 0,.int .i64 0,.int .i64 0,.int .i64 0,.int .i64 0,.slice none 0 0,.slice none 0 0] 64)).alloc (Obj.cells #[.int .i64 0,.slice none 0 0,.int .i64 0,.int .i64 0,.int .i64 0,.int .i64 0,.int .i64 0,.int .i64 0,.int .i64 0,.slice none 0 0,.slice none 0 0] 64)).heap[w.heap.size+1]? = some (Obj.cells #[.int .i64 0,.slice none 0 0,.int .i64 0,.int .i64 0,.int .i64 0,.int .i64 0,.int .i64 0,.int .i64 0,.int .i64 0,.slice none 0 0,.slice none 0 0] 64):=(heap_alloc_old _ _ (by simp)).trans (heap_alloc2_new _ _ _)
 have H:(((w.alloc (Obj.cells #[.int .i64 i,.slice L u.length l,.int .i64 m.p,.int .i64 m.s,.int .i64 m.e,.int .i64 m.d,.int .i64 m.t,.int .i64 m.q,.int .i64 m.r,.slice T y.length Q,.slice S A.length U] 93)).alloc (Obj.cells #[.int .i64 0,.slice none 0 0,.int .i64 0,.int .i64 0,.int .i64 0,.int .i64 0,.int .i64 0,.int .i64 0,.int .i64 0,.slice none 0 0,.slice none 0 0] 64)).alloc (Obj.cells #[.int .i64 0,.slice none 0 0,.int .i64 0,.int .i64 0,.int .i64 0,.int .i64 0,.int .i64 0,.int .i64 0,.int .i64 0,.slice none 0 0,.slice none 0 0] 64)).heap[w.heap.size+2]? = some (Obj.cells #[.int .i64 0,.slice none 0 0,.int .i64 0,.int .i64 0,.int .i64 0,.int .i64 0,.int .i64 0,.int .i64 0,.int .i64 0,.slice none 0 0,.slice none 0 0] 64):=by
  have h:=heap_alloc_new ((w.alloc (Obj.cells #[.int .i64 i,.slice L u.length l,.int .i64 m.p,.int .i64 m.s,.int .i64 m.e,.int .i64 m.d,.int .i64 m.t,.int .i64 m.q,.int .i64 m.r,.slice T y.length Q,.slice S A.length U] 93)).alloc (Obj.cells #[.int .i64 0,.slice none 0 0,.int .i64 0,.int .i64 0,.int .i64 0,.int .i64 0,.int .i64 0,.int .i64 0,.int .i64 0,.slice none 0 0,.slice none 0 0] 64)) (Obj.cells #[.int .i64 0,.slice none 0 0,.int .i64 0,.int .i64 0,.int .i64 0,.int .i64 0,.int .i64 0,.int .i64 0,.int .i64 0,.slice none 0 0,.slice none 0 0] 64)
  simpa using h
 go_enter Tryz.func88,Tryz.ntmps88
 go_wp2_with (refine Zaa rfl 3 _ _ rfl (w.heap.size+2) 0 (.int .i64 i) #[.int .i64 i] rfl rfl rfl rfl 64 #[.int .i64 0,.slice none 0 0,.int .i64 0,.int .i64 0,.int .i64 0,.int .i64 0,.int .i64 0,.int .i64 0,.int .i64 0,.slice none 0 0,.slice none 0 0] #[.int .i64 i,.slice none 0 0,.int .i64 0,.int .i64 0,.int .i64 0,.int .i64 0,.int .i64 0,.int .i64 0,.int .i64 0,.slice none 0 0,.slice none 0 0] H (by simp) (by kernel_rfl) rfl ?_)
 intro u0 Z O D F
 replace D:Hid (u0.heap.size=w.heap.size+3):=D.trans (by simp)
 replace C:=(F w.heap.size (by omega)).trans C
 replace J:=(F (w.heap.size+1) (by omega)).trans J
 replace o:=o.trans (O.mono (by omega))
 replace H:=Z
 clear Z O F
 go_wp2_with (refine Zam rfl 91 _ rfl w.heap.size 1 rfl _ 93 #[.slice L u.length l,.int .i64 m.p,.int .i64 m.s,.int .i64 m.e,.int .i64 m.d,.int .i64 m.t,.int .i64 m.q,.int .i64 m.r] _ C rfl Tryz.underlying91 rfl ZmR ?_)
 refine (ZhH _ u m _ (R.below o) hm).mono ?_
 rintro e w1 ⟨v1,rfl,a,n⟩
 obtain ⟨E,c,rfl⟩:=Zag a
 rw [D.out] at a
 have ar:w.heap.size+3 <= w1.heap.size:=D.out ▸ n.size
 replace C:=(bb C n)
 replace J:=(bb J n)
 replace H:=(bb H n)
 replace o:=o.trans (n.mono o.size)
 clear n
 go_wp2_with (refine ZaL rfl 61 _ _ rfl (w.heap.size+2) 1 #[.slice E u.length c,.int .i64 m.p,.int .i64 m.s,.int .i64 m.e,.int .i64 m.d,.int .i64 m.t,.int .i64 m.q,.int .i64 m.r] rfl rfl 64 #[.int .i64 i,.slice none 0 0,.int .i64 0,.int .i64 0,.int .i64 0,.int .i64 0,.int .i64 0,.int .i64 0,.int .i64 0,.slice none 0 0,.slice none 0 0] #[.int .i64 i,.slice E u.length c,.int .i64 m.p,.int .i64 m.s,.int .i64 m.e,.int .i64 m.d,.int .i64 m.t,.int .i64 m.q,.int .i64 m.r,.slice none 0 0,.slice none 0 0] H (by simp) ZmU (by simp [Value.oneCell']) rfl ?_)
 intro u1 X P V z
 have al:w.heap.size+3 <= u1.heap.size:=by omega
 clear V D
 replace C:=(z w.heap.size (by omega)).trans C
 replace J:=(z (w.heap.size+1) (by omega)).trans J
 replace a:=Zak a (by omega) z
 replace o:=o.trans (P.mono (by omega))
 replace H:=X
 clear X P z
 have k9:u1.cell? ⟨w.heap.size,0+9,none⟩=some (.slice T y.length Q):=cell_of_row u1 _ 9 _ _ _ C
 go_wp2_with fail
 refine (Zco _ y _ (Rb.below o) ae).mono ?_
 rintro e w2 ⟨v2,rfl,j,n⟩
 obtain ⟨B,f,rfl⟩:=Zag j
 replace j:=Zah (B':=w.heap.size+3) j (by omega)
 have an:=n.size
 replace C:=(bb C n)
 replace J:=(bb J n)
 replace H:=(bb H n)
 replace a:=Zac a n
 replace o:=o.trans (n.mono o.size)
 clear n k9
 go_wp2_with (refine Zaa rfl 62 _ _ rfl (w.heap.size+2) 9 (.slice B y.length f) #[.slice B y.length f] rfl rfl rfl rfl 64 #[.int .i64 i,.slice E u.length c,.int .i64 m.p,.int .i64 m.s,.int .i64 m.e,.int .i64 m.d,.int .i64 m.t,.int .i64 m.q,.int .i64 m.r,.slice none 0 0,.slice none 0 0] #[.int .i64 i,.slice E u.length c,.int .i64 m.p,.int .i64 m.s,.int .i64 m.e,.int .i64 m.d,.int .i64 m.t,.int .i64 m.q,.int .i64 m.r,.slice B y.length f,.slice none 0 0] H (by simp) (by kernel_rfl) rfl ?_)
 intro u2 aa N W k
 have am:w2.heap.size <= u2.heap.size:=by omega
 clear W
 replace C:=(k w.heap.size (by omega)).trans C
 replace J:=(k (w.heap.size+1) (by omega)).trans J
 replace a:=Zak a (by omega) k
 replace j:=Zak j (by omega) k
 replace o:=o.trans (N.mono (by omega))
 replace H:=aa
 clear aa N k
 have ak:u2.cell? ⟨w.heap.size,0+10,none⟩=some (.slice S A.length U):=cell_of_row u2 _ 10 _ _ _ C
 go_wp2_with fail
 refine (Zco _ A _ (Ro.below o) ag).mono ?_
 rintro e w3 ⟨v3,rfl,I,n⟩
 obtain ⟨K,x,rfl⟩:=Zag I
 have aj:∀ g,(Value.slice K A.length x).ownBlock=some g -> (Value.slice B y.length f).ownBlock ≠ some g:=fun g hg e=>by
  have h1:=(j.lt g e).2
  have h2:=(I.lt g hg).1
  omega
 replace I:=Zah (B':=w.heap.size+3) I (by omega)
 have ap:=n.size
 replace C:=(bb C n)
 replace J:=(bb J n)
 replace H:=(bb H n)
 replace a:=Zac a n
 replace j:=Zac j n
 replace o:=o.trans (n.mono o.size)
 clear n ak
 go_wp2_with (refine Zaa rfl 62 _ _ rfl (w.heap.size+2) 10 (.slice K A.length x) #[.slice K A.length x] rfl rfl rfl rfl 64 #[.int .i64 i,.slice E u.length c,.int .i64 m.p,.int .i64 m.s,.int .i64 m.e,.int .i64 m.d,.int .i64 m.t,.int .i64 m.q,.int .i64 m.r,.slice B y.length f,.slice none 0 0] #[.int .i64 i,.slice E u.length c,.int .i64 m.p,.int .i64 m.s,.int .i64 m.e,.int .i64 m.d,.int .i64 m.t,.int .i64 m.q,.int .i64 m.r,.slice B y.length f,.slice K A.length x] H (by simp) (by kernel_rfl) rfl ?_)
 intro u3 Y M ad b
 clear ad
 replace C:=(b w.heap.size (by omega)).trans C
 replace J:=(b (w.heap.size+1) (by omega)).trans J
 replace a:=Zak a (by omega) b
 replace j:=Zak j (by omega) b
 replace I:=Zak I (by omega) b
 replace o:=o.trans (M.mono (by omega))
 replace H:=Y
 clear Y M b
 go_wp2_with (first
  | (refine wpList_load_row rfl 64 _ rfl (w.heap.size+2) rfl 64 #[.int .i64 i,.slice E u.length c,.int .i64 m.p,.int .i64 m.s,.int .i64 m.e,.int .i64 m.d,.int .i64 m.t,.int .i64 m.q,.int .i64 m.r,.slice B y.length f,.slice K A.length x] (0,0) _ H Tryz.underlying64 rfl ZmS ?_)
  | (refine Zad rfl 64 _ _ rfl (w.heap.size+1) #[.int .i64 i,.slice E u.length c,.int .i64 m.p,.int .i64 m.s,.int .i64 m.e,.int .i64 m.d,.int .i64 m.t,.int .i64 m.q,.int .i64 m.r,.slice B y.length f,.slice K A.length x] rfl rfl 64 #[.int .i64 0,.slice none 0 0,.int .i64 0,.int .i64 0,.int .i64 0,.int .i64 0,.int .i64 0,.int .i64 0,.int .i64 0,.slice none 0 0,.slice none 0 0] J ZmS rfl (by simp [Value.oneCell']) ?_))
 intro w9 ah af aq G
 have p1:=Zah (B':=w.heap.size) (Zak a (by omega) G) (by omega)
 have p2:=Zah (B':=w.heap.size) (Zak j (by omega) G) (by omega)
 have p3:=Zah (B':=w.heap.size) (Zak I (by omega) G) (by omega)
 have ai:Below w.heap.size w w9:=o.trans (af.mono (by omega))
 go_wp2
 exact bodyPost_ret (results_cell_row rfl _ _ (w.heap.size+1) 64 _ (0,0) _ rfl ah Tryz.underlying64 rfl ZmS) rfl ⟨_,_,_,rfl,p1,p2,p3,aj,ai⟩
structure Pc where
 n:Int
 s:ByteArray
def Pc.cs (x:Pc):List Value:=[.int .i64 x.n,.string x.s]
def pccs (xs:List Pc):List Value:=xs.flatMap Pc.cs
theorem Zdl (x:Pc)(a:List Pc):pccs (x :: a)=x.cs ++ pccs a:=rfl
theorem ZcE (a:List Pc):(pccs a).length=a.length * 2:=by
 induction a with
 | nil=>rfl
 | cons x a ih=>rw [Zdl,List.length_append,ih,List.length_cons];simp [Pc.cs];omega
theorem Ze2 (a:List Pc)(i:Nat)(x:Pc)(h:a[i]? = some x)(j:Nat)(b:j < 2):(pccs a)[i * 2+j]? = x.cs[j]?:=by
 induction a generalizing i with
 | nil=>simp at h
 | cons y ys ih =>
  rw [Zdl]
  cases i with
  | zero =>
   simp at h;subst h
   rw [Nat.zero_mul,Nat.zero_add,List.getElem?_append_left (by simpa [Pc.cs] using b)]
  | succ i =>
   rw [List.getElem?_append_right (by simp [Pc.cs];omega)]
   rw [show (i+1) * 2+j - y.cs.length=i * 2+j by simp [Pc.cs];omega]
   exact ih i (by simpa using h)
theorem Zha (a:List Pc)(i:Nat)(x b:Pc)(h:a[i]? = some x)(j:Nat)(c:j < 2)(u:Value)(e:x.cs.set j u=b.cs):(pccs a).set (i * 2+j) u=pccs (a.set i b):=by
 induction a generalizing i with
 | nil=>simp at h
 | cons y ys ih =>
  rw [Zdl]
  cases i with
  | zero =>
   simp at h;subst h
   rw [Nat.zero_mul,Nat.zero_add,List.set_append_left _ _ (by simpa [Pc.cs] using c),e]
   rfl
  | succ i =>
   rw [List.set_append_right _ _ (by simp [Pc.cs];omega)]
   rw [show (i+1) * 2+j - y.cs.length=i * 2+j by simp [Pc.cs];omega,ih i (by simpa using h)]
   rfl
theorem Zja (a:List Pc)(i:Nat)(x b:Pc)(h:a[i]? = some x)(u:Value)(e:x.cs.set 0 u=b.cs):(pccs a).set (i * 2) u=pccs (a.set i b) :=
 Zha a i x b h 0 (by omega) u e
theorem Pc.one (x:Pc):∀ u ∈ x.cs,u.oneCell'=true:=by
 intro u a
 simp only [Pc.cs,List.mem_cons,List.not_mem_nil,or_false] at a
 rcases a with rfl | rfl <;> rfl
def PcAt (w:World)(g o:Nat)(x:Pc):Prop :=
 w.cell? ⟨g,o,none⟩=some (.int .i64 x.n)/\w.cell? ⟨g,o+1,none⟩=some (.string x.s)
theorem PcAt.below {w a:World}{g o B:Nat}{x:Pc}(h:PcAt w g o x)(c:Below B w a)(b:g < B):PcAt a g o x :=
 ⟨(c.cell (p:=⟨g,o,none⟩) b).trans h.1,(c.cell (p:=⟨g,o+1,none⟩) b).trans h.2⟩
def PcRow (w:World)(v:Value)(xs:List Pc):Prop :=
 ∃ ao cap,v=.slice ao xs.length cap/\(xs.length <= cap/\(ao=none -> cap=0))/\xs.length <= 9223372036854775807/\(∀ x ∈ xs,x.s.size <= maxLen) /\
  (xs ≠ [] -> ∃ g o,ao=some ⟨g,o,none⟩/\g < w.heap.size/\∀ i x,xs[i]? = some x -> PcAt w g (o+i * 2) x)
theorem PcRow.small {w:World}{v:Value}{c:List Pc}(R:PcRow w v c):∃ b a,v=.slice b c.length a:=by
 obtain ⟨b,a,rfl,_⟩:=R
 exact ⟨b,a,rfl⟩
theorem PcRow.below {w j:World}{v:Value}{f:List Pc}(h:PcRow w v f)(d:Below w.heap.size w j):PcRow j v f:=by
 obtain ⟨n,c,rfl,m,l,k,a⟩:=h
 refine ⟨n,c,rfl,m,l,k,fun b=>?_⟩
 obtain ⟨g,o,rfl,e,a⟩:=a b
 exact ⟨g,o,rfl,Nat.lt_of_lt_of_le e d.size,fun i x hi=>(a i x hi).below d e⟩
theorem PcRow.of_own {w:World}{base:Nat}{v:Value}{a:List Pc}(h:w.ownsRow base 120 2 v a.length (pccs a))(l:a.length <= 9223372036854775807)(f:∀ x ∈ a,x.s.size <= maxLen):PcRow w v a:=by
 rcases h.2 with ⟨rfl,k⟩ | ⟨g,b,cur,rfl,r,m,d,n,p,c⟩
 ·have:a=[]:=List.eq_nil_of_length_eq_zero k
  subst this
  exact ⟨none,0,rfl,by simp,by simp,by simp,fun h=>absurd rfl h⟩
 ·refine ⟨_,b,rfl,⟨d,fun h=>by cases h⟩,l,f,fun _=>⟨g,0,rfl,(bl m),fun i x hi=>?_⟩⟩
  have q:i < a.length:=(List.getElem?_eq_some_iff.1 hi).1
  have e:∀ j,j < 2 -> w.cell? ⟨g,0+i * 2+j,none⟩=x.cs[j]?:=fun j o=>by
   have:=h.cellAt (i * 2+j) (by omega)
   rw [Nat.zero_add,this,Ze2 a i x hi j o]
  exact ⟨e 0 (by omega),e 1 (by omega)⟩
theorem Znh:(Tryz.prog.info? 120).map (fun i=>(i.zero,i.size,i.bytes))=some (some (.agg #[.int .i64 0,.string ByteArray.empty]),2,24):=by kernel_rfl
theorem Znf:(Tryz.prog.info? 120).map (·.size)=some 2:=by kernel_rfl
theorem ZdQ {ops:Array Oper}{e:List Oper}{op:Oper}{a:Act}{w:World}{Q:Exit -> Act -> World -> Prop}(p:op.guard=none)(x y:Operand)(t:op.op=.store 120 x y)(base g i f:Nat)(b:List Pc)(c:Pc)(u:a.eval x=.pointer (some ⟨g,i * 2,none⟩))(v:a.eval y=.agg #[.int .i64 c.n,.string c.s])(hi:i < b.length)(d:w.ownsRow base 120 2 (.slice (some ⟨g,0,none⟩) b.length f) b.length (pccs b))(h:∀ k:World,k.ownsRow base 120 2 (.slice (some ⟨g,0,none⟩) b.length f) b.length (pccs (b.set i c)) -> w.grownBy k (some g) -> wpList Tryz.prog ops Q e (a.put op.dst undef) k):wpList Tryz.prog ops Q (op :: e) a w:=by
 have q:w.there g (i * 2) 2:=fun j z=>by
  have:=d.cellAt (i * 2+j) (by omega)
  refine ⟨?_,d.frozenAt _⟩
  rw [this,List.getElem?_eq_getElem (by rw [ZcE];omega)]
  rfl
 refine wpList_store_mid p 120 x y t g (i * 2) _ u v q Znf (all_oneCell_toArray c.one) ?_
 have r:b[i]? = some b[i]:=List.getElem?_eq_getElem hi
 have l:∀ y:Pc,(b.set i y)[i]? = some y:=fun y=>by simp [hi]
 have m:=d.stored (i * 2) (.int .i64 c.n)
 rw [Zja b i b[i] ⟨c.n,b[i].s⟩ r _ rfl] at m
 have o:=m.1.stored (i * 2+1) (.string c.s)
 rw [Zha (b.set i ⟨c.n,b[i].s⟩) i ⟨c.n,b[i].s⟩ ⟨c.n,c.s⟩ (l _) 1 (by omega) (.string c.s) rfl,List.set_set] at o
 exact h _ o.1 (m.2.trans o.2)
theorem Zhg (x:Pc)(w:World) :
  Calls Tryz.prog 90 #[.agg #[.int .i64 x.n,.string x.s]] w fun e a=>e=.returned (.agg #[.int .i64 x.n,.string x.s])/\Below w.heap.size w a:=by
 go_enter Tryz.func90,Tryz.ntmps90
 go_wp2
 exact bodyPost_ret (results_cell_row rfl _ _ (w.heap.size+1) 120 _ (0,0) _ rfl ((heap_alloc_old _ _ (by simp)).trans (heap_alloc2_new _ _ _)) Tryz.underlying120 rfl Znf) rfl
  ⟨rfl,(((Below.refl _ _).alloc (Nat.le_refl _) _).alloc (by simp) _).alloc (by simp;omega) _⟩
theorem Zg5 (x:Pc)(l:Int)(w:World)(b:x.s.size <= maxLen)(f:0 <= l)(c:l <= 1048576) :
  Calls Tryz.prog 74 #[.agg #[.int .i64 x.n,.string x.s],.int .i64 l] w fun e d=>e=.returned (.int .i64 (less l x.s.size))/\Below w.heap.size w d:=by
 unfold maxLen at b
 go_enter Tryz.func74,Tryz.ntmps74
 by_cases h:l < x.s.size
 ·have a:Hid (less l x.s.size = -1):=by unfold Hid less;rw [if_pos h]
  go_wp2
  go_ret
  exact ⟨by rw [a.out];rfl,(Below.refl _ _).alloc (Nat.le_refl _) _⟩
 ·have a:Hid (less l x.s.size=l - x.s.size):=by unfold Hid less;rw [if_neg h]
  go_wp2
  go_ret
  exact ⟨by rw [a.out];rfl,(Below.refl _ _).alloc (Nat.le_refl _) _⟩
theorem Zhf (x:Pc)(w:World) :
  Calls Tryz.prog 108 #[.agg #[.int .i64 x.n,.string x.s],.agg #[.int .i64 x.n,.string x.s]] w fun e a=>e=.returned (.bool true)/\Below w.heap.size w a:=by
 go_enter Tryz.func108,Tryz.ntmps108
 go_wp2
 go_ret
 exact ⟨rfl,((Below.refl _ _).alloc (Nat.le_refl _) _).alloc (by simp) _⟩
def ZfX:Pc:=⟨0,ByteArray.empty⟩
def ZaN (xs:List Pc)(j:Nat):List Pc:=xs.take j ++ List.replicate (xs.length - j) ZfX
theorem ZdA (a:List Pc)(j:Nat)(h:j <= a.length):(ZaN a j).length=a.length:=by simp [ZaN];omega
theorem Ze7 (a:List Pc):ZaN a a.length=a:=by simp [ZaN]
theorem Zh0 (n:Nat):pccs (List.replicate n ZfX)=(madeCells #[Value.int .i64 0,.string ByteArray.empty] (n * 2)).toList:=by
 apply List.ext_getElem?
 intro j
 by_cases c:j < n * 2
 ·have b:j / 2 < n:=by omega
  rw [show j=j / 2 * 2+j % 2 by omega,Ze2 _ (j / 2) ZfX (by simp [b]) (j % 2) (by omega)]
  rw [show j / 2 * 2+j % 2=j by omega]
  have a:j % 2=0 \/ j % 2=1:=by omega
  rcases a with a | a <;> simp [madeCells,c,a,ZfX,Pc.cs]
 ·rw [List.getElem?_eq_none (by rw [ZcE,List.length_replicate];omega),List.getElem?_eq_none (by simp [madeCells];omega)]
theorem ZeX (a:List Pc):pccs (ZaN a 0)=(madeCells #[Value.int .i64 0,.string ByteArray.empty] (a.length * 2)).toList:=by
 rw [<- Zh0];simp [ZaN]
theorem Zfl (a:List Pc)(j:Nat)(h:j < a.length):(ZaN a j).set j a[j]=ZaN a (j+1):=by
 unfold ZaN
 rw [show a.length - j=a.length - (j+1)+1 by omega,List.replicate_succ,List.take_succ_eq_append_getElem h]
 rw [List.set_append_right _ _ (by simp;omega)]
 have e:j - (List.take j a).length=0:=by simp;omega
 rw [e,List.set_cons_zero,List.append_assoc]
 rfl
theorem ZiS (v:Value)(a:List Pc)(w:World)(R:PcRow w v a)(N:a.length <= 2097152) :
  Calls Tryz.prog 89 #[v] w fun e C=>∃ B,e=.returned B/\C.ownsRow w.heap.size 120 2 B a.length (pccs a)/\Below w.heap.size w C:=by
 obtain ⟨M,J,rfl,D,_,L,d⟩:=R
 obtain ⟨A,hi,y,t,x⟩:=info_parts Znh
 have f:A.bytes * a.length <= 281474976710656:=by rw [x];omega
 have n:a.length <= maxLen:=by unfold maxLen;omega
 go_enter Tryz.func89,Tryz.ntmps89
 go_wp2_with (at_make;refine wpList_make_full _ rfl _ _ 68 rfl w.heap.size 120 A _ 2 Tryz.underlying68 hi y t _ _ _ _ a.length rfl rfl rfl rfl f n (Nat.le_refl _) ?_)
 intro G c h
 have b:Below w.heap.size w G:=(Below.refl _ _).grown h (Nat.le_refl _) (by intro k z;cases z)
 clear h
 go_wp2
 go_loopw [4] (fun i wr=>∃ j:Nat,j <= a.length/\i=.int .i64 j/\wr.ownsRow w.heap.size 120 2 (.slice (some ⟨w.heap.size,0,none⟩) a.length a.length) a.length (pccs (ZaN a j))/\Below w.heap.size w wr) (fun i _=>a.length - (intOf i).toNat)
 case atStart=>exact ⟨0,by omega,rfl,by rw [ZeX];exact c,b⟩
 case round =>
  clear c b f n
  obtain ⟨j,H,rfl,c,b⟩:=hrel
  by_cases q:j < a.length
  ·obtain ⟨g,o,rfl,I,d⟩:=d (by intro e;subst e;simp at q)
   obtain ⟨c0,c1⟩:=(d j a[j] (by simp [q])).below b I
   have E:=ZdA a j H
   clear d
   go_wp2_with fail
   refine (Zhg a[j] _).mono ?_
   rintro e F ⟨rfl,p⟩
   have m:F.ownsRow w.heap.size 120 2 (.slice (some ⟨w.heap.size,0,none⟩) (ZaN a j).length a.length) (ZaN a j).length (pccs (ZaN a j)):=by
    rw [E];exact Zac c p
   have s:=b.trans (p.mono b.size)
   clear c0 c1 c p b
   go_wp2_with (refine ZdQ rfl _ _ rfl w.heap.size w.heap.size j a.length (ZaN a j) a[j] rfl rfl (by omega) m ?_)
   intro K l r
   rw [Zfl a j q] at l
   have u:Below w.heap.size w K:=s.grown r s.size (fun k z=>by simp at z;omega)
   clear m r
   go_wp2
   go_roundw
   case rel=>exact ⟨j+1,by omega,by go_num,l,u⟩
   case measure=>simp [intOf];omega
  ·go_wp2
   go_ret
   have:j=a.length:=by omega
   subst this
   rw [Ze7] at c
   exact ⟨_,rfl,c,b⟩
theorem ZiK (v:Value)(b:List Pc)(l:Int)(w:World)(R:PcRow w v b)(F:0 <= l)(G:l <= 1048576) :
  Calls Tryz.prog 73 #[v,.int .i64 l] w fun e K=>∃ r:Int,e=.returned (.int .i64 r) /\ -1 <= r/\r <= 1048576/\(0 <= r -> b.length <= 1048576/\∀ x ∈ b,x.s.size <= 1048576)/\Below w.heap.size w K:=by
 obtain ⟨N,J,rfl,D,O,H,a⟩:=R
 by_cases A:(b.length:Int) <= l
 ·go_enter Tryz.func73,Tryz.ntmps73
  go_wp2
  go_loopw [1,5] (fun l i wr=>∃ (k:Nat) (r:Int),k <= b.length/\i=.int .i64 k/\l=.int .i64 r/\0 <= r/\r <= 1048576/\Hid (∀ j x,b[j]? = some x -> j < k -> x.s.size <= 1048576)/\Below w.heap.size w wr) (fun _ i _=>b.length - (intOf i).toNat)
  case atStart=>exact ⟨0,_,by omega,rfl,rfl,by omega,by omega,fun j x _ h=>by omega,Below.refl _ _⟩
  case round =>
   obtain ⟨k,r,M,rfl,rfl,p,u,B,n⟩:=hrel
   by_cases f:k < b.length
   ·obtain ⟨g,o,rfl,I,a⟩:=a (by intro e;subst e;simp at f)
    obtain ⟨x,c⟩:∃ x,b[k]? = some x:=⟨b[k],by simp [f]⟩
    obtain ⟨c0,c1⟩:=(a k x c).below n I
    have q:=H x (List.mem_of_getElem? c)
    have E:Hid (b[k]? = some x):=c
    clear a c
    go_wp2_with fail
    refine (Zg5 x _ _ q p u).mono ?_
    rintro e L ⟨rfl,d⟩
    have m:=n.trans (d.mono n.size)
    clear c0 c1 d
    by_cases z:r < x.s.size
    ·rw [less,if_pos z]
     go_wp2
     go_ret
     exact ⟨-1,rfl,by omega,by omega,fun h=>by omega,m⟩
    ·rw [less,if_neg z]
     go_wp2
     go_roundw
     case rel =>
      refine ⟨k+1,_,by omega,by go_num,rfl,by omega,by omega,fun j y t C=>?_,m⟩
      by_cases e:j=k
      ·subst e
       rw [E.out] at t
       cases t
       omega
      ·exact B.out j y t (by omega)
     case measure=>simp [intOf];omega
   ·go_wp2
    go_ret
    refine ⟨r,rfl,by omega,by omega,fun _=>⟨by omega,fun x c=>?_⟩,n⟩
    obtain ⟨j,C,e⟩:=List.getElem_of_mem c
    exact B.out j x (by rw [<- e];simp [C]) (by omega)
 ·go_enter Tryz.func73,Tryz.ntmps73
  go_wp2
  go_ret
  exact ⟨-1,rfl,by omega,by omega,fun h=>by omega,Below.refl _ _⟩
theorem ZjJ (n vb:Value)(c:List Pc)(w:World)(s:PcRow w n c)(o:PcRow w vb c) :
  Calls Tryz.prog 107 #[n,vb] w fun e t=>e=.returned (.bool true)/\Below w.heap.size w t:=by
 obtain ⟨B,A,rfl,v,I,D,b⟩:=s
 obtain ⟨F,y,rfl,r,_,_,a⟩:=o
 have H:((c.length:Int) != (c.length:Int))=false:=by simp
 go_enter Tryz.func107,Tryz.ntmps107
 go_wp2
 go_loopw [5] (fun i wr=>∃ k:Nat,k <= c.length/\i=.int .i64 k/\Below w.heap.size w wr) (fun i _=>c.length - (intOf i).toNat)
 case atStart=>exact ⟨0,by omega,rfl,Below.refl _ _⟩
 case round =>
  obtain ⟨k,G,rfl,g⟩:=hrel
  by_cases d:k < c.length
  ·obtain ⟨z,J,rfl,l,b⟩:=b (by intro e;subst e;simp at d)
   obtain ⟨E,C,rfl,h,a⟩:=a (by intro e;subst e;simp at d)
   obtain ⟨x,j⟩:∃ x,c[k]? = some x:=⟨c[k],by simp [d]⟩
   obtain ⟨c0,c1⟩:=(b k x j).below g l
   obtain ⟨p,u⟩:=(a k x j).below g h
   clear b a j
   go_wp2_with fail
   go_region_with (go_at_call 108;refine (Zhf x _).mono ?_;rintro e q ⟨rfl,f⟩)
   all_goals
    have m:Below w.heap.size w q:=g.drew.trans (f.mono g.size)
    clear c0 c1 p u f
    go_wp2
    go_roundw
    case rel=>exact ⟨k+1,by omega,by go_num,m⟩
    case measure=>simp [intOf];omega
  ·go_wp2
   go_ret
   exact ⟨rfl,g⟩
theorem PcRow.cells {w:World}{q:Option Addr}{n f:Nat}{c:List Pc}(h:PcRow w (.slice q n f) c):∀ k,q=some k -> ∀ j u,(pccs c)[j]? = some u -> w.cell? (k.add j)=some u:=by
 obtain ⟨t,p,e,_,_,_,s⟩:=h
 simp only [Value.slice.injEq] at e
 obtain ⟨rfl,rfl,rfl⟩:=e
 intro k i j u r
 have v:j < c.length * 2:=by have:=(List.getElem?_eq_some_iff.1 r).1;rwa [ZcE] at this
 have l:j / 2 < c.length:=by omega
 obtain ⟨g,o,e,_,a⟩:=s (by intro e;subst e;simp at l)
 rw [i] at e
 cases e
 have m:c[j / 2]? = some c[j / 2]:=List.getElem?_eq_getElem l
 obtain ⟨c0,c1⟩:=a (j / 2) _ m
 have b:=Ze2 c (j / 2) _ m (j % 2) (by omega)
 rw [show j / 2 * 2+j % 2=j by omega,r] at b
 have d:j % 2=0 \/ j % 2=1:=by omega
 rcases d with d | d
 ·rw [d] at b
  simp only [Pc.cs,List.getElem?_cons_zero,Option.some.injEq] at b
  subst b
  have:o+j=o+j / 2 * 2:=by omega
  rw [Addr.add_lit,this]
  exact c0
 ·rw [d] at b
  simp only [Pc.cs,List.getElem?_cons_succ,List.getElem?_cons_zero,Option.some.injEq] at b
  subst b
  have:o+j=o+j / 2 * 2+1:=by omega
  rw [Addr.add_lit,this]
  exact c1
def pmk (k:Int):Pc:=⟨k,mt (k+1)⟩
def ZlK (k:Int)(xs:List Pc)(i:Nat):List Pc:=(List.range i).map (fun (j:Nat)=>pmk (k+2 * (j:Int))) ++ xs.drop i
end Go.Proofs.YtfeodlbpnghakaaGreatDoor
