/-
  Texts that stood by themselves, laid into one.
-/
import Derived.Test.YtkpfangkfknhoaaGreatDoorInM
import Derived.Test.YtkpfangkfknhoaaGreatDoorMark2M
/-
  A process made of the law's own: toProc. No condition.
-/
set_option maxRecDepth 100000
set_option maxHeartbeats 6400000
namespace Go.Proofs.YtkpfangkfknhoaaGreatDoor
open Go.Proofs.Tryz
open Go.RowKit
theorem Zif (i:Int)(v vb vo:Value)(o:List Nd)(m:Mc)(y A:List ByteArray)(w:World)(R:NRow w v o)(Rb:StRow w vb y)(Ro:StRow w vo A)(hm:o.length <= 2097152)(ak:y.length <= 2097152)(ai:A.length <= 2097152) :
  Calls prog 85 #[.agg #[.int .i64 i,v,.int .i64 m.p,.int .i64 m.s,.int .i64 m.e,.int .i64 m.d,.int .i64 m.t,.int .i64 m.q,.int .i64 m.r,vb,vo]] w fun e w'=>∃ v1 v2 v3,e=.returned (.agg #[.int .i64 i,v1,.int .i64 m.p,.int .i64 m.s,.int .i64 m.e,.int .i64 m.d,.int .i64 m.t,.int .i64 m.q,.int .i64 m.r,v2,v3])/\w'.ownsRow w.heap.size 194 5 v1 o.length (ncs o)/\w'.ownsRow w.heap.size 9 1 v2 y.length (stv y)/\w'.ownsRow w.heap.size 9 1 v3 A.length (stv A)/\(∀ g,v3.ownBlock=some g -> v2.ownBlock ≠ some g)/\Below w.heap.size w w':=by
 obtain ⟨L,n,rfl⟩:∃ L n,v=.slice L o.length n:=by obtain ⟨L,n,rfl,_⟩:=R;exact ⟨L,n,rfl⟩
 obtain ⟨S,U,rfl⟩:=Rb.small;obtain ⟨T,Q,rfl⟩:=Ro.small;have u:Below w.heap.size w (((w.alloc (Obj.cells #[.int .i64 i,.slice L o.length n,.int .i64 m.p,.int .i64 m.s,.int .i64 m.e,.int .i64 m.d,.int .i64 m.t,.int .i64 m.q,.int .i64 m.r,.slice S y.length U,.slice T A.length Q] 82)).alloc (Obj.cells #[.int .i64 0,.slice none 0 0,.int .i64 0,.int .i64 0,.int .i64 0,.int .i64 0,.int .i64 0,.int .i64 0,.int .i64 0,.slice none 0 0,.slice none 0 0] 101)).alloc (Obj.cells #[.int .i64 0,.slice none 0 0,.int .i64 0,.int .i64 0,.int .i64 0,.int .i64 0,.int .i64 0,.int .i64 0,.int .i64 0,.slice none 0 0,.slice none 0 0] 101)):=(((cj _ _).alloc (ce _) _).alloc (by simp) _).alloc (by simp;omega) _
 have D:(((w.alloc (Obj.cells #[.int .i64 i,.slice L o.length n,.int .i64 m.p,.int .i64 m.s,.int .i64 m.e,.int .i64 m.d,.int .i64 m.t,.int .i64 m.q,.int .i64 m.r,.slice S y.length U,.slice T A.length Q] 82)).alloc (Obj.cells #[.int .i64 0,.slice none 0 0,.int .i64 0,.int .i64 0,.int .i64 0,.int .i64 0,.int .i64 0,.int .i64 0,.int .i64 0,.slice none 0 0,.slice none 0 0] 101)).alloc (Obj.cells #[.int .i64 0,.slice none 0 0,.int .i64 0,.int .i64 0,.int .i64 0,.int .i64 0,.int .i64 0,.int .i64 0,.int .i64 0,.slice none 0 0,.slice none 0 0] 101)).heap[w.heap.size]? = some (Obj.cells #[.int .i64 i,.slice L o.length n,.int .i64 m.p,.int .i64 m.s,.int .i64 m.e,.int .i64 m.d,.int .i64 m.t,.int .i64 m.q,.int .i64 m.r,.slice S y.length U,.slice T A.length Q] 82):=(cz _ _ (by simp;omega)).trans ((cz _ _ (by simp)).trans (co _ _))
 have F:(((w.alloc (Obj.cells #[.int .i64 i,.slice L o.length n,.int .i64 m.p,.int .i64 m.s,.int .i64 m.e,.int .i64 m.d,.int .i64 m.t,.int .i64 m.q,.int .i64 m.r,.slice S y.length U,.slice T A.length Q] 82)).alloc (Obj.cells #[.int .i64 0,.slice none 0 0,.int .i64 0,.int .i64 0,.int .i64 0,.int .i64 0,.int .i64 0,.int .i64 0,.int .i64 0,.slice none 0 0,.slice none 0 0] 101)).alloc (Obj.cells #[.int .i64 0,.slice none 0 0,.int .i64 0,.int .i64 0,.int .i64 0,.int .i64 0,.int .i64 0,.int .i64 0,.int .i64 0,.slice none 0 0,.slice none 0 0] 101)).heap[w.heap.size+1]? = some (Obj.cells #[.int .i64 0,.slice none 0 0,.int .i64 0,.int .i64 0,.int .i64 0,.int .i64 0,.int .i64 0,.int .i64 0,.int .i64 0,.slice none 0 0,.slice none 0 0] 101):=(cz _ _ (by simp)).trans (cH _ _ _)
 have G:(((w.alloc (Obj.cells #[.int .i64 i,.slice L o.length n,.int .i64 m.p,.int .i64 m.s,.int .i64 m.e,.int .i64 m.d,.int .i64 m.t,.int .i64 m.q,.int .i64 m.r,.slice S y.length U,.slice T A.length Q] 82)).alloc (Obj.cells #[.int .i64 0,.slice none 0 0,.int .i64 0,.int .i64 0,.int .i64 0,.int .i64 0,.int .i64 0,.int .i64 0,.int .i64 0,.slice none 0 0,.slice none 0 0] 101)).alloc (Obj.cells #[.int .i64 0,.slice none 0 0,.int .i64 0,.int .i64 0,.int .i64 0,.int .i64 0,.int .i64 0,.int .i64 0,.int .i64 0,.slice none 0 0,.slice none 0 0] 101)).heap[w.heap.size+2]? = some (Obj.cells #[.int .i64 0,.slice none 0 0,.int .i64 0,.int .i64 0,.int .i64 0,.int .i64 0,.int .i64 0,.int .i64 0,.int .i64 0,.slice none 0 0,.slice none 0 0] 101):=by
  have h:=co ((w.alloc (Obj.cells #[.int .i64 i,.slice L o.length n,.int .i64 m.p,.int .i64 m.s,.int .i64 m.e,.int .i64 m.d,.int .i64 m.t,.int .i64 m.q,.int .i64 m.r,.slice S y.length U,.slice T A.length Q] 82)).alloc (Obj.cells #[.int .i64 0,.slice none 0 0,.int .i64 0,.int .i64 0,.int .i64 0,.int .i64 0,.int .i64 0,.int .i64 0,.int .i64 0,.slice none 0 0,.slice none 0 0] 101)) (Obj.cells #[.int .i64 0,.slice none 0 0,.int .i64 0,.int .i64 0,.int .i64 0,.int .i64 0,.int .i64 0,.int .i64 0,.int .i64 0,.slice none 0 0,.slice none 0 0] 101)
  simpa using h
 go_enter func85,ntmps85
 go_wp2_with (refine Zab rfl 3 _ _ rfl (w.heap.size+2) 0 (.int .i64 i) #[.int .i64 i] rfl rfl rfl rfl 101 #[.int .i64 0,.slice none 0 0,.int .i64 0,.int .i64 0,.int .i64 0,.int .i64 0,.int .i64 0,.int .i64 0,.int .i64 0,.slice none 0 0,.slice none 0 0] #[.int .i64 i,.slice none 0 0,.int .i64 0,.int .i64 0,.int .i64 0,.int .i64 0,.int .i64 0,.int .i64 0,.int .i64 0,.slice none 0 0,.slice none 0 0] G (by simp) (by kernel_rfl) rfl ?_)
 intro u0 V N B H;replace B:Hid (u0.heap.size=w.heap.size+3):=B.trans (by simp);replace D:=(H w.heap.size (by omega)).trans D;replace F:=(H (w.heap.size+1) (by omega)).trans F;replace u:=u.trans (N.mono (by omega));replace G:=V;clear V N H
 go_wp2_with (refine Zam rfl 79 _ rfl w.heap.size 1 rfl _ 82 #[.slice L o.length n,.int .i64 m.p,.int .i64 m.s,.int .i64 m.e,.int .i64 m.d,.int .i64 m.t,.int .i64 m.q,.int .i64 m.r] _ D rfl underlying79 rfl Znv ?_)
 refine (ZiB _ o m _ (R.below u) hm).mono ?_;rintro e w1 ⟨v1,rfl,a,l⟩;obtain ⟨E,f,rfl⟩:=Zag a;rw [B.out] at a;have aq:w.heap.size+3 <= w1.heap.size:=B.out ▸ l.size;replace D:=(bb D l);replace F:=(bb F l);replace G:=(bb G l);replace u:=u.trans (l.mono u.size);clear l
 go_wp2_with (refine ZaM rfl 99 _ _ rfl (w.heap.size+2) 1 #[.slice E o.length f,.int .i64 m.p,.int .i64 m.s,.int .i64 m.e,.int .i64 m.d,.int .i64 m.t,.int .i64 m.q,.int .i64 m.r] rfl rfl 101 #[.int .i64 i,.slice none 0 0,.int .i64 0,.int .i64 0,.int .i64 0,.int .i64 0,.int .i64 0,.int .i64 0,.int .i64 0,.slice none 0 0,.slice none 0 0] #[.int .i64 i,.slice E o.length f,.int .i64 m.p,.int .i64 m.s,.int .i64 m.e,.int .i64 m.d,.int .i64 m.t,.int .i64 m.q,.int .i64 m.r,.slice none 0 0,.slice none 0 0] G (by simp) Znz (by simp [Value.oneCell']) rfl ?_)
 intro u1 Y M X z;have al:w.heap.size+3 <= u1.heap.size:=by omega
 clear X B;replace D:=(z w.heap.size (by omega)).trans D;replace F:=(z (w.heap.size+1) (by omega)).trans F;replace a:=Zak a (by omega) z;replace u:=u.trans (M.mono (by omega));replace G:=Y;clear Y M z;have k9:u1.cell? ⟨w.heap.size,0+9,none⟩=some (.slice S y.length U):=cd u1 _ 9 _ _ _ D;go_wp2_with fail;refine (ZcA _ y _ (Rb.below u) ak).mono ?_;rintro e w2 ⟨v2,rfl,k,l⟩;obtain ⟨C,c,rfl⟩:=Zag k;replace k:=Zah (B':=w.heap.size+3) k (by omega);have an:=l.size;replace D:=(bb D l);replace F:=(bb F l);replace G:=(bb G l);replace a:=Zad a l;replace u:=u.trans (l.mono u.size);clear l k9
 go_wp2_with (refine Zab rfl 80 _ _ rfl (w.heap.size+2) 9 (.slice C y.length c) #[.slice C y.length c] rfl rfl rfl rfl 101 #[.int .i64 i,.slice E o.length f,.int .i64 m.p,.int .i64 m.s,.int .i64 m.e,.int .i64 m.d,.int .i64 m.t,.int .i64 m.q,.int .i64 m.r,.slice none 0 0,.slice none 0 0] #[.int .i64 i,.slice E o.length f,.int .i64 m.p,.int .i64 m.s,.int .i64 m.e,.int .i64 m.d,.int .i64 m.t,.int .i64 m.q,.int .i64 m.r,.slice C y.length c,.slice none 0 0] G (by simp) (by kernel_rfl) rfl ?_)
 intro u2 aa O ad j;have am:w2.heap.size <= u2.heap.size:=by omega
 clear ad;replace D:=(j w.heap.size (by omega)).trans D;replace F:=(j (w.heap.size+1) (by omega)).trans F;replace a:=Zak a (by omega) j;replace k:=Zak k (by omega) j;replace u:=u.trans (O.mono (by omega));replace G:=aa;clear aa O j;have aj:u2.cell? ⟨w.heap.size,0+10,none⟩=some (.slice T A.length Q):=cd u2 _ 10 _ _ _ D;go_wp2_with fail;refine (ZcA _ A _ (Ro.below u) ai).mono ?_;rintro e w3 ⟨v3,rfl,I,l⟩;obtain ⟨K,x,rfl⟩:=Zag I
 have ae:∀ g,(Value.slice K A.length x).ownBlock=some g -> (Value.slice C y.length c).ownBlock ≠ some g:=fun g hg e=>by
  have h1:=(k.lt g e).2;have h2:=(I.lt g hg).1;omega
 replace I:=Zah (B':=w.heap.size+3) I (by omega);have ar:=l.size;replace D:=(bb D l);replace F:=(bb F l);replace G:=(bb G l);replace a:=Zad a l;replace k:=Zad k l;replace u:=u.trans (l.mono u.size);clear l aj
 go_wp2_with (refine Zab rfl 80 _ _ rfl (w.heap.size+2) 10 (.slice K A.length x) #[.slice K A.length x] rfl rfl rfl rfl 101 #[.int .i64 i,.slice E o.length f,.int .i64 m.p,.int .i64 m.s,.int .i64 m.e,.int .i64 m.d,.int .i64 m.t,.int .i64 m.q,.int .i64 m.r,.slice C y.length c,.slice none 0 0] #[.int .i64 i,.slice E o.length f,.int .i64 m.p,.int .i64 m.s,.int .i64 m.e,.int .i64 m.d,.int .i64 m.t,.int .i64 m.q,.int .i64 m.r,.slice C y.length c,.slice K A.length x] G (by simp) (by kernel_rfl) rfl ?_)
 intro u3 W P Z b;clear Z;replace D:=(b w.heap.size (by omega)).trans D;replace F:=(b (w.heap.size+1) (by omega)).trans F;replace a:=Zak a (by omega) b;replace k:=Zak k (by omega) b;replace I:=Zak I (by omega) b;replace u:=u.trans (P.mono (by omega));replace G:=W;clear W P b
 go_wp2_with (first
  | (refine cE rfl 101 _ rfl (w.heap.size+2) rfl 101 #[.int .i64 i,.slice E o.length f,.int .i64 m.p,.int .i64 m.s,.int .i64 m.e,.int .i64 m.d,.int .i64 m.t,.int .i64 m.q,.int .i64 m.r,.slice C y.length c,.slice K A.length x] (0,0) _ G underlying101 rfl Zny ?_)
  | (refine Zae rfl 101 _ _ rfl (w.heap.size+1) #[.int .i64 i,.slice E o.length f,.int .i64 m.p,.int .i64 m.s,.int .i64 m.e,.int .i64 m.d,.int .i64 m.t,.int .i64 m.q,.int .i64 m.r,.slice C y.length c,.slice K A.length x] rfl rfl 101 #[.int .i64 0,.slice none 0 0,.int .i64 0,.int .i64 0,.int .i64 0,.int .i64 0,.int .i64 0,.int .i64 0,.int .i64 0,.slice none 0 0,.slice none 0 0] F Zny rfl (by simp [Value.oneCell']) ?_))
 intro w9 ah af ap J;have p1:=Zah (B':=w.heap.size) (Zak a (by omega) J) (by omega);have p2:=Zah (B':=w.heap.size) (Zak k (by omega) J) (by omega);have p3:=Zah (B':=w.heap.size) (Zak I (by omega) J) (by omega);have ag:Below w.heap.size w w9:=u.trans (af.mono (by omega));go_wp2;exact cx (results_cell_row rfl _ _ (w.heap.size+1) 101 _ (0,0) _ rfl ah underlying101 rfl Zny) rfl ⟨_,_,_,rfl,p1,p2,p3,ae,ag⟩
structure Pc where
 n:Int
 s:ByteArray
def Pc.cs (x:Pc):List Value:=[.int .i64 x.n,.string x.s]
def pccs (xs:List Pc):List Value:=xs.flatMap Pc.cs
theorem Zdu (x:Pc)(a:List Pc):pccs (x :: a)=x.cs ++ pccs a:=rfl
theorem ZcJ (a:List Pc):(pccs a).length=a.length * 2:=by
 induction a with
 | nil=>rfl
 | cons x a ih=>rw [Zdu,List.length_append,ih,List.length_cons];simp [Pc.cs];omega
theorem ZeX (a:List Pc)(i:Nat)(x:Pc)(h:a[i]? = some x)(j:Nat)(b:j < 2):(pccs a)[i * 2+j]? = x.cs[j]?:=by
 induction a generalizing i with
 | nil=>simp at h
 | cons y ys ih =>
  rw [Zdu];cases i with
  | zero =>
   simp at h;subst h;rw [Nat.zero_mul,Nat.zero_add,List.getElem?_append_left (by simpa [Pc.cs] using b)]
  | succ i =>
   rw [List.getElem?_append_right (by simp [Pc.cs];omega)];rw [show (i+1) * 2+j - y.cs.length=i * 2+j by simp [Pc.cs];omega];exact ih i (by simpa using h)
theorem ZhB (a:List Pc)(i:Nat)(x b:Pc)(h:a[i]? = some x)(j:Nat)(c:j < 2)(u:Value)(e:x.cs.set j u=b.cs):(pccs a).set (i * 2+j) u=pccs (a.set i b):=by
 induction a generalizing i with
 | nil=>simp at h
 | cons y ys ih =>
  rw [Zdu];cases i with
  | zero =>
   simp at h;subst h;rw [Nat.zero_mul,Nat.zero_add,List.set_append_left _ _ (by simpa [Pc.cs] using c),e];rfl
  | succ i =>
   rw [List.set_append_right _ _ (by simp [Pc.cs];omega)];rw [show (i+1) * 2+j - y.cs.length=i * 2+j by simp [Pc.cs];omega,ih i (by simpa using h)];rfl
theorem Zj0 (a:List Pc)(i:Nat)(x b:Pc)(h:a[i]? = some x)(u:Value)(e:x.cs.set 0 u=b.cs):(pccs a).set (i * 2) u=pccs (a.set i b) :=
 ZhB a i x b h 0 (by omega) u e
theorem Pc.one (x:Pc):∀ u ∈ x.cs,u.oneCell'=true:=by
 intro u a;simp only [Pc.cs,List.mem_cons,List.not_mem_nil,or_false] at a;rcases a with rfl | rfl <;> rfl
def PcAt (w:World)(g o:Nat)(x:Pc):Prop :=
 w.cell? ⟨g,o,none⟩=some (.int .i64 x.n)/\w.cell? ⟨g,o+1,none⟩=some (.string x.s)
theorem PcAt.below {w a:World}{g o B:Nat}{x:Pc}(h:PcAt w g o x)(b:Below B w a)(c:g < B):PcAt a g o x :=
 ⟨(b.cell (p:=⟨g,o,none⟩) c).trans h.1,(b.cell (p:=⟨g,o+1,none⟩) c).trans h.2⟩
def PcRow (w:World)(v:Value)(xs:List Pc):Prop :=
 ∃ ao cap,v=.slice ao xs.length cap/\(xs.length <= cap/\(ao=none -> cap=0))/\xs.length <= 9223372036854775807/\(∀ x ∈ xs,x.s.size <= maxLen) /\
  (xs ≠ [] -> ∃ g o,ao=some ⟨g,o,none⟩/\g < w.heap.size/\∀ i x,xs[i]? = some x -> PcAt w g (o+i * 2) x)
theorem PcRow.small {w:World}{v:Value}{c:List Pc}(R:PcRow w v c):∃ b a,v=.slice b c.length a:=by
 obtain ⟨b,a,rfl,_⟩:=R;exact ⟨b,a,rfl⟩
theorem PcRow.below {w d:World}{v:Value}{f:List Pc}(h:PcRow w v f)(e:Below w.heap.size w d):PcRow d v f:=by
 obtain ⟨n,c,rfl,m,k,l,a⟩:=h;refine ⟨n,c,rfl,m,k,l,fun b=>?_⟩;obtain ⟨g,o,rfl,j,a⟩:=a b;exact ⟨g,o,rfl,cy j e.size,fun i x hi=>(a i x hi).below e j⟩
theorem PcRow.of_own {w:World}{base:Nat}{v:Value}{a:List Pc}(h:w.ownsRow base 109 2 v a.length (pccs a))(f:a.length <= 9223372036854775807)(m:∀ x ∈ a,x.s.size <= maxLen):PcRow w v a:=by
 rcases h.2 with ⟨rfl,n⟩ | ⟨g,d,cur,rfl,q,o,c,p,l,b⟩
 ·have:a=[]:=List.eq_nil_of_length_eq_zero n
  subst this;exact ⟨none,0,rfl,by simp,by simp,by simp,fun h=>absurd rfl h⟩
 ·refine ⟨_,d,rfl,⟨c,fun h=>by cases h⟩,f,m,fun _=>⟨g,0,rfl,(bl o),fun i x hi=>?_⟩⟩
  have r:i < a.length:=(List.getElem?_eq_some_iff.1 hi).1
  have e:∀ j,j < 2 -> w.cell? ⟨g,0+i * 2+j,none⟩=x.cs[j]?:=fun j k=>by
   have:=h.cellAt (i * 2+j) (by omega);rw [Nat.zero_add,this,ZeX a i x hi j k]
  exact ⟨e 0 (by omega),e 1 (by omega)⟩
theorem ZnV:(prog.info? 109).map (fun i=>(i.zero,i.size,i.bytes))=some (some (.agg #[.int .i64 0,.string ByteArray.empty]),2,24):=by kernel_rfl
theorem ZnK:(prog.info? 109).map (·.size)=some 2:=by kernel_rfl
theorem ZdK {ops:Array Oper}{e:List Oper}{op:Oper}{a:Act}{w:World}{Q:Exit -> Act -> World -> Prop}(p:op.guard=none)(x y:Operand)(u:op.op=.store 109 x y)(base g i f:Nat)(b:List Pc)(c:Pc)(r:a.eval x=.pointer (some ⟨g,i * 2,none⟩))(q:a.eval y=.agg #[.int .i64 c.n,.string c.s])(hi:i < b.length)(d:w.ownsRow base 109 2 (.slice (some ⟨g,0,none⟩) b.length f) b.length (pccs b))(h:∀ o:World,o.ownsRow base 109 2 (.slice (some ⟨g,0,none⟩) b.length f) b.length (pccs (b.set i c)) -> w.grownBy o (some g) -> wpList prog ops Q e (a.put op.dst undef) o):wpList prog ops Q (op :: e) a w:=by
 have t:w.there g (i * 2) 2:=fun j z=>by
  have:=d.cellAt (i * 2+j) (by omega);refine ⟨?_,d.frozenAt _⟩;rw [this,List.getElem?_eq_getElem (by rw [ZcJ];omega)];rfl
 refine wpList_store_mid p 109 x y u g (i * 2) _ r q t ZnK (all_oneCell_toArray c.one) ?_;have v:b[i]? = some b[i]:=List.getElem?_eq_getElem hi;have m:∀ y:Pc,(b.set i y)[i]? = some y:=fun y=>by simp [hi]
 have k:=d.stored (i * 2) (.int .i64 c.n);rw [Zj0 b i b[i] ⟨c.n,b[i].s⟩ v _ rfl] at k;have l:=k.1.stored (i * 2+1) (.string c.s);rw [ZhB (b.set i ⟨c.n,b[i].s⟩) i ⟨c.n,b[i].s⟩ ⟨c.n,c.s⟩ (m _) 1 (by omega) (.string c.s) rfl,List.set_set] at l;exact h _ l.1 (k.2.trans l.2)
theorem Zhv (x:Pc)(w:World) :
  Calls prog 87 #[.agg #[.int .i64 x.n,.string x.s]] w fun e a=>e=.returned (.agg #[.int .i64 x.n,.string x.s])/\Below w.heap.size w a:=by
 go_enter func87,ntmps87
 go_wp2
 exact cx (results_cell_row rfl _ _ (w.heap.size+1) 109 _ (0,0) _ rfl ((cz _ _ (by simp)).trans (cH _ _ _)) underlying109 rfl ZnK) rfl
  ⟨rfl,(((cj _ _).alloc (ce _) _).alloc (by simp) _).alloc (by simp;omega) _⟩
theorem Zhy (x:Pc)(l:Int)(w:World)(d:x.s.size <= maxLen)(f:0 <= l)(c:l <= 1048576) :
  Calls prog 74 #[.agg #[.int .i64 x.n,.string x.s],.int .i64 l] w fun e b=>e=.returned (.int .i64 (less l x.s.size))/\Below w.heap.size w b:=by
 unfold maxLen at d
 go_enter func74,ntmps74
 by_cases h:l < x.s.size
 ·have a:Hid (less l x.s.size = -1):=by unfold Hid less;rw [if_pos h]
  go_wp2;go_ret;exact ⟨by rw [a.out];rfl,(cj _ _).alloc (ce _) _⟩
 ·have a:Hid (less l x.s.size=l - x.s.size):=by unfold Hid less;rw [if_neg h]
  go_wp2;go_ret;exact ⟨by rw [a.out];rfl,(cj _ _).alloc (ce _) _⟩
theorem Zhe (x:Pc)(w:World) :
  Calls prog 105 #[.agg #[.int .i64 x.n,.string x.s],.agg #[.int .i64 x.n,.string x.s]] w fun e a=>e=.returned (.bool true)/\Below w.heap.size w a:=by
 go_enter func105,ntmps105
 go_wp2;go_ret;exact ⟨rfl,((cj _ _).alloc (ce _) _).alloc (by simp) _⟩
def Zge:Pc:=⟨0,ByteArray.empty⟩
def ZaO (xs:List Pc)(j:Nat):List Pc:=xs.take j ++ List.replicate (xs.length - j) Zge
theorem ZdA (a:List Pc)(j:Nat)(h:j <= a.length):(ZaO a j).length=a.length:=by simp [ZaO];omega
theorem Ze9 (a:List Pc):ZaO a a.length=a:=by simp [ZaO]
theorem ZiE (n:Nat):pccs (List.replicate n Zge)=(madeCells #[Value.int .i64 0,.string ByteArray.empty] (n * 2)).toList:=by
 apply List.ext_getElem?;intro j
 by_cases b:j < n * 2
 ·have c:j / 2 < n:=by omega
  rw [show j=j / 2 * 2+j % 2 by omega,ZeX _ (j / 2) Zge (by simp [c]) (j % 2) (by omega)];rw [show j / 2 * 2+j % 2=j by omega];have a:j % 2=0 \/ j % 2=1:=by omega
  rcases a with a | a <;> simp [madeCells,b,a,Zge,Pc.cs]
 ·rw [List.getElem?_eq_none (by rw [ZcJ,List.length_replicate];omega),List.getElem?_eq_none (by simp [madeCells];omega)]
theorem Zfd (a:List Pc):pccs (ZaO a 0)=(madeCells #[Value.int .i64 0,.string ByteArray.empty] (a.length * 2)).toList:=by
 rw [<- ZiE];simp [ZaO]
theorem Zgc (a:List Pc)(j:Nat)(h:j < a.length):(ZaO a j).set j a[j]=ZaO a (j+1):=by
 unfold ZaO;rw [show a.length - j=a.length - (j+1)+1 by omega,List.replicate_succ,List.take_succ_eq_append_getElem h];rw [List.set_append_right _ _ (by simp;omega)];have e:j - (List.take j a).length=0:=by simp;omega
 rw [e,List.set_cons_zero,List.append_assoc];rfl
theorem Zkt (v:Value)(a:List Pc)(w:World)(R:PcRow w v a)(M:a.length <= 2097152) :
  Calls prog 86 #[v] w fun e D=>∃ C,e=.returned C/\D.ownsRow w.heap.size 109 2 C a.length (pccs a)/\Below w.heap.size w D:=by
 obtain ⟨N,J,rfl,B,_,L,d⟩:=R;obtain ⟨A,hi,y,z,x⟩:=info_parts ZnV;have f:A.bytes * a.length <= 281474976710656:=by rw [x];omega
 have n:a.length <= maxLen:=by unfold maxLen;omega
 go_enter func86,ntmps86
 go_wp2_with (at_make;refine wpList_make_full _ rfl _ _ 105 rfl w.heap.size 109 A _ 2 underlying105 hi y z _ _ _ _ a.length rfl rfl rfl rfl f n (ce _) ?_)
 intro I c m;have b:Below w.heap.size w I:=(cj _ _).grown m (ce _) (by intro k t;cases t);clear m;go_wp2
 go_loopw [4] (fun i wr=>∃ j:Nat,j <= a.length/\i=.int .i64 j/\wr.ownsRow w.heap.size 109 2 (.slice (some ⟨w.heap.size,0,none⟩) a.length a.length) a.length (pccs (ZaO a j))/\Below w.heap.size w wr) (fun i _=>a.length - (intOf i).toNat)
 case atStart=>exact ⟨0,by omega,rfl,by rw [Zfd];exact c,b⟩
 case round =>
  clear c b f n;obtain ⟨j,E,rfl,c,b⟩:=hrel
  by_cases q:j < a.length
  ·obtain ⟨g,o,rfl,K,d⟩:=d (by intro e;subst e;simp at q)
   obtain ⟨c0,c1⟩:=(d j a[j] (by simp [q])).below b K;have G:=ZdA a j E;clear d;go_wp2_with fail;refine (Zhv a[j] _).mono ?_;rintro e F ⟨rfl,p⟩
   have h:F.ownsRow w.heap.size 109 2 (.slice (some ⟨w.heap.size,0,none⟩) (ZaO a j).length a.length) (ZaO a j).length (pccs (ZaO a j)):=by
    rw [G];exact Zad c p
   have r:=b.trans (p.mono b.size);clear c0 c1 c p b
   go_wp2_with (refine ZdK rfl _ _ rfl w.heap.size w.heap.size j a.length (ZaO a j) a[j] rfl rfl (by omega) h ?_)
   intro H l s;rw [Zgc a j q] at l;have u:Below w.heap.size w H:=r.grown s r.size (fun k t=>by simp at t;omega);clear h s;go_wp2
   go_roundw
   case rel=>exact ⟨j+1,by omega,by go_num,l,u⟩
   case measure=>simp [intOf];omega
  ·go_wp2
   go_ret;have:j=a.length:=by omega
   subst this;rw [Ze9] at c;exact ⟨_,rfl,c,b⟩
theorem ZjI (v:Value)(b:List Pc)(l:Int)(w:World)(R:PcRow w v b)(F:0 <= l)(G:l <= 1048576) :
  Calls prog 73 #[v,.int .i64 l] w fun e H=>∃ r:Int,e=.returned (.int .i64 r) /\ -1 <= r/\r <= 1048576/\(0 <= r -> b.length <= 1048576/\∀ x ∈ b,x.s.size <= 1048576)/\Below w.heap.size w H:=by
 obtain ⟨O,I,rfl,D,M,E,a⟩:=R
 by_cases A:(b.length:Int) <= l
 ·go_enter func73,ntmps73
  go_wp2
  go_loopw [1,5] (fun l i wr=>∃ (k:Nat) (r:Int),k <= b.length/\i=.int .i64 k/\l=.int .i64 r/\0 <= r/\r <= 1048576/\Hid (∀ j x,b[j]? = some x -> j < k -> x.s.size <= 1048576)/\Below w.heap.size w wr) (fun _ i _=>b.length - (intOf i).toNat)
  case atStart=>exact ⟨0,_,by omega,rfl,rfl,by omega,by omega,fun j x _ h=>by omega,cj _ _⟩
  case round =>
   obtain ⟨k,r,L,rfl,rfl,u,q,B,n⟩:=hrel
   by_cases f:k < b.length
   ·obtain ⟨g,o,rfl,J,a⟩:=a (by intro e;subst e;simp at f)
    obtain ⟨x,c⟩:∃ x,b[k]? = some x:=⟨b[k],by simp [f]⟩;obtain ⟨c0,c1⟩:=(a k x c).below n J;have t:=E x (List.mem_of_getElem? c);have K:Hid (b[k]? = some x):=c;clear a c;go_wp2_with fail;refine (Zhy x _ _ t u q).mono ?_;rintro e N ⟨rfl,d⟩;have m:=n.trans (d.mono n.size);clear c0 c1 d
    by_cases C:r < x.s.size
    ·rw [less,if_pos C]
     go_wp2;go_ret;exact ⟨-1,rfl,by omega,by omega,fun h=>by omega,m⟩
    ·rw [less,if_neg C]
     go_wp2
     go_roundw
     case rel =>
      refine ⟨k+1,_,by omega,by go_num,rfl,by omega,by omega,fun j y p z=>?_,m⟩
      by_cases e:j=k
      ·subst e
       rw [K.out] at p;cases p;omega
      ·exact B.out j y p (by omega)
     case measure=>simp [intOf];omega
   ·go_wp2
    go_ret;refine ⟨r,rfl,by omega,by omega,fun _=>⟨by omega,fun x c=>?_⟩,n⟩;obtain ⟨j,z,e⟩:=List.getElem_of_mem c;exact B.out j x (by rw [<- e];simp [z]) (by omega)
 ·go_enter func73,ntmps73
  go_wp2;go_ret;exact ⟨-1,rfl,by omega,by omega,fun h=>by omega,cj _ _⟩
theorem Zkg (n vb:Value)(c:List Pc)(w:World)(v:PcRow w n c)(u:PcRow w vb c) :
  Calls prog 104 #[n,vb] w fun e s=>e=.returned (.bool true)/\Below w.heap.size w s:=by
 obtain ⟨G,F,rfl,p,A,z,a⟩:=v;obtain ⟨D,I,rfl,o,_,_,b⟩:=u;have E:((c.length:Int) != (c.length:Int))=false:=by simp
 go_enter func104,ntmps104
 go_wp2
 go_loopw [5] (fun i wr=>∃ k:Nat,k <= c.length/\i=.int .i64 k/\Below w.heap.size w wr) (fun i _=>c.length - (intOf i).toNat)
 case atStart=>exact ⟨0,by omega,rfl,cj _ _⟩
 case round =>
  obtain ⟨k,y,rfl,g⟩:=hrel
  by_cases d:k < c.length
  ·obtain ⟨H,B,rfl,h,a⟩:=a (by intro e;subst e;simp at d)
   obtain ⟨C,J,rfl,m,b⟩:=b (by intro e;subst e;simp at d);obtain ⟨x,l⟩:∃ x,c[k]? = some x:=⟨c[k],by simp [d]⟩;obtain ⟨c0,c1⟩:=(a k x l).below g h;obtain ⟨r,t⟩:=(b k x l).below g m;clear a b l;go_wp2_with fail
   go_region_with (go_at_call 105;refine (Zhe x _).mono ?_;rintro e q ⟨rfl,f⟩)
   all_goals
    have j:Below w.heap.size w q:=g.drew.trans (f.mono g.size);clear c0 c1 r t f;go_wp2
    go_roundw
    case rel=>exact ⟨k+1,by omega,by go_num,j⟩
    case measure=>simp [intOf];omega
  ·go_wp2
   go_ret;exact ⟨rfl,g⟩
theorem PcRow.cells {w:World}{q:Option Addr}{n k:Nat}{c:List Pc}(h:PcRow w (.slice q n k) c):∀ f,q=some f -> ∀ j u,(pccs c)[j]? = some u -> w.cell? (f.add j)=some u:=by
 obtain ⟨s,r,e,_,_,_,t⟩:=h;simp only [Value.slice.injEq] at e;obtain ⟨rfl,rfl,rfl⟩:=e;intro f i j u l;have v:j < c.length * 2:=by have:=(List.getElem?_eq_some_iff.1 l).1;rwa [ZcJ] at this
 have p:j / 2 < c.length:=by omega
 obtain ⟨g,o,e,_,b⟩:=t (by intro e;subst e;simp at p);rw [i] at e;cases e;have m:c[j / 2]? = some c[j / 2]:=List.getElem?_eq_getElem p;obtain ⟨c0,c1⟩:=b (j / 2) _ m;have a:=ZeX c (j / 2) _ m (j % 2) (by omega);rw [show j / 2 * 2+j % 2=j by omega,l] at a;have d:j % 2=0 \/ j % 2=1:=by omega
 rcases d with d | d
 ·rw [d] at a
  simp only [Pc.cs,List.getElem?_cons_zero,Option.some.injEq] at a;subst a;have:o+j=o+j / 2 * 2:=by omega
  rw [Addr.add_lit,this];exact c0
 ·rw [d] at a
  simp only [Pc.cs,List.getElem?_cons_succ,List.getElem?_cons_zero,Option.some.injEq] at a;subst a;have:o+j=o+j / 2 * 2+1:=by omega
  rw [Addr.add_lit,this];exact c1
def pmk (k:Int):Pc:=⟨k,mt (k+1)⟩
def Zmf (k:Int)(xs:List Pc)(i:Nat):List Pc:=(List.range i).map (fun (j:Nat)=>pmk (k+2 * (j:Int))) ++ xs.drop i
end Go.Proofs.YtkpfangkfknhoaaGreatDoor
