/-
  Texts that stood by themselves, laid into one.
-/
import Derived.Test.YtanhoamdlhaaeaaGreatDoorRows
import Derived.WalkKit
import Derived.WalkLawsBesides
import Derived.WalkSpells
import Derived.Deep.QuietTactic
import Derived.BigQuiet
import Derived.Laws.CopyOwn
import Derived.Below
import Derived.Deep.MidRow
import Derived.Laws.ResultCell
/-
  Helpers for the proofs over this seat: what it is for a slice of bytes to read as a list of numbers in a world. Nothing of the program is proved here; no condition.
-/
set_option maxHeartbeats 1600000
namespace Go.Proofs.YtanhoamdlhaaeaaGreatDoor
open Go.Proofs.Tryz
open Go.RowKit
abbrev cd:=@cell_of_row
abbrev ce:=@Nat.le_refl
abbrev cf:=@Below.refl
abbrev cg:=@heap_alloc_new
abbrev ch:=@heap_setCell_other
abbrev ci:=@heap_setCell_same
abbrev cj:=@frozen_of_row
abbrev ck:=@bodyPost_ret
abbrev cm:=@Nat.lt_of_lt_of_le
abbrev cn:=@heap_alloc_old
abbrev co:=@wpList_load_row
abbrev cr:=@World.grownBy_alloc
abbrev cu:=@Int.eq_ofNat_of_zero_le
abbrev cw:=@heap_alloc2_new
abbrev cx:=@ownsRow_setCell_below
theorem sit {α:Type}(l:List α)(i:Nat)(a:α):l.toArray.setIfInBounds i a=(l.set i a).toArray:=List.setIfInBounds_toArray ..
theorem sc0 {α:Type}(a b:α)(l:List α):(a :: l).set 0 b=b :: l:=rfl
theorem scs {α:Type}(a b:α)(l:List α)(i:Nat):(a :: l).set (i+1) b=a :: l.set i b:=rfl
theorem bl {α:Type}{a:Array α}{i:Nat}{b:α}(h:a[i]? = some b):i < a.size:=(Array.getElem?_eq_some_iff.1 h).1
theorem bb {w a:World}{k:Nat}{o:Obj}(h:w.heap[k]? = some o)(b:Below w.heap.size w a):a.heap[k]? = some o:=(b.block _ (bl h)).trans h
def Row (w:World)(v:Value)(zs:List Int):Prop :=
 ∃ ao cap,v=.slice ao zs.length cap/\zs.length <= cap/\zs.length <= 140737488351232/\(∀ z ∈ zs,0 <= z/\z <= 255) /\
  (zs ≠ [] -> ∃ g o,ao=some ⟨g,o,none⟩/\g < w.heap.size/\∀ i,i < zs.length -> w.cell? ⟨g,o+i,none⟩=some (.int .u8 (zs.getD i 0)))
theorem Row.below {w f:World}{v:Value}{j:List Int}(h:Row w v j)(d:Below w.heap.size w f):Row f v j:=by
 obtain ⟨k,b,rfl,l,m,n,a⟩:=h;refine ⟨k,b,rfl,l,m,n,fun c=>?_⟩;obtain ⟨g,o,rfl,e,a⟩:=a c;exact ⟨g,o,rfl,cm e d.size,fun i hi=>(d.cell (p:=⟨g,o+i,none⟩) e).trans (a i hi)⟩
theorem Zl3:(prog.info? 5).map (fun i=>(i.zero,i.size,i.bytes))=some (some (.int .u8 0),1,1):=by kernel_rfl
def bv (zs:List Int):List Value:=zs.map (Value.int .u8)
theorem ZaV (a:List Int):(bv a).length=a.length:=by simp [bv]
theorem Zci (a b:List Int):bv (a ++ b)=bv a ++ bv b:=by simp [bv]
theorem ZhP (a:List Int)(i:Nat)(h:i < a.length):(bv a)[i]? = some (.int .u8 (a.getD i 0)):=by
 simp [bv,List.getD,h]
theorem Zaj {b c d:World}{row:Option Nat}(h:b.grownBy c row)(k:c.grownBy d row):b.grownBy d row :=
 ⟨k.os.trans h.os,k.tape.trans h.tape,k.output.trans h.output,Nat.le_trans h.size k.size,fun i hi a=>(k.block i (cm hi h.size) a).trans (h.block i hi a)⟩
theorem Zam (w:World)(P:Nat)(j:Nat)(v:Value):w.grownBy (w.setCell ⟨P,j,none⟩ v) (some P) :=
 ⟨rfl,rfl,rfl,by simp [World.setCell],fun k _ a=>ch w ⟨P,j,none⟩ k v (fun e=>a (by simp [e]))⟩
theorem ZcX {w a:World}(h:Below w.heap.size w a)(row:Option Nat):w.grownBy a row :=
 ⟨h.os,h.tape,h.output,h.size,fun k b _=>h.block k b⟩
theorem ZaD {w a:World}(h:Below w.heap.size w a)(row:Option Nat):w.grownBy a row :=
 ⟨h.os,h.tape,h.output,h.size,fun k b _=>h.block k b⟩
theorem Zak {P:Program}{ops:Array Oper}{c:List Oper}{o:Oper}{a:Act}{w:World}{Q:Exit -> Act -> World -> Prop}(f:o.guard=none)(i:TypeId)(x y:Operand)(l:o.op=.store i x y)(g:Nat)(cells:Array Value)(m:a.eval x=.pointer (some ⟨g,0,none⟩))(n:a.eval y=.agg cells)(t:TypeId)(b:Array Value)(j:w.heap[g]? = some (.cells b t (0,0)))(hi:(P.info? i).map (·.size)=some cells.size)(d:b.size=cells.size)(k:cells.all (·.oneCell')=true)(h:∀ e:World,e.heap[g]? = some (.cells cells t (0,0)) -> Below g w e -> e.heap.size=w.heap.size -> wpList P ops Q c (a.put o.dst undef) e):wpList P ops Q (o :: c) a w :=
 wpList_store_row f i x y l g cells m n t b j hi d k (h _ (setRow_heap w g b _ t _ j) (below_setRow (cf _ _) (ce _) _) (size_setRow w g cells))
theorem old2 (w:World)(A B:Obj):((w.alloc A).alloc B).heap[w.heap.size]? = some A:=(cn _ _ (by simp)).trans (cg _ _)
theorem ZkM (w:World)(A B:Obj):Below w.heap.size w ((w.alloc A).alloc B):=((cf _ _).alloc (ce _) _).alloc (by simp) _
structure Nd where
 k:Int
 n:Int
 s:ByteArray
 a:Int
 b:Int
def Nd.cs (x:Nd):List Value:=[.int .i64 x.k,.int .i64 x.n,.string x.s,.int .i64 x.a,.int .i64 x.b]
def ncs (xs:List Nd):List Value:=xs.flatMap Nd.cs
theorem Zec (x:Nd)(a:List Nd):ncs (x :: a)=x.cs ++ ncs a:=rfl
theorem Zay (a b:List Nd):ncs (a ++ b)=ncs a ++ ncs b:=by simp [ncs]
theorem ZdF (a:List Nd):(ncs a).length=a.length * 5:=by
 induction a with
 | nil=>rfl
 | cons x a ih=>rw [Zec,List.length_append,ih,List.length_cons];simp [Nd.cs];omega
theorem Zik (a:List Nd)(i:Nat)(x:Nd)(h:a[i]? = some x)(j:Nat)(b:j < 5):(ncs a)[i * 5+j]? = x.cs[j]?:=by
 induction a generalizing i with
 | nil=>simp at h
 | cons y ys ih =>
  rw [Zec];cases i with
  | zero =>
   simp at h;subst h;rw [Nat.zero_mul,Nat.zero_add,List.getElem?_append_left (by simpa [Nd.cs] using b)]
  | succ i =>
   rw [List.getElem?_append_right (by simp [Nd.cs];omega)];rw [show (i+1) * 5+j - y.cs.length=i * 5+j by simp [Nd.cs];omega];exact ih i (by simpa using h)
theorem Zc7 (a:List Nd)(i:Nat)(x b:Nd)(h:a[i]? = some x)(j:Nat)(c:j < 5)(u:Value)(e:x.cs.set j u=b.cs):(ncs a).set (i * 5+j) u=ncs (a.set i b):=by
 induction a generalizing i with
 | nil=>simp at h
 | cons y ys ih =>
  rw [Zec];cases i with
  | zero =>
   simp at h;subst h;rw [Nat.zero_mul,Nat.zero_add,List.set_append_left _ _ (by simpa [Nd.cs] using c),e];rfl
  | succ i =>
   rw [List.set_append_right _ _ (by simp [Nd.cs];omega)];rw [show (i+1) * 5+j - y.cs.length=i * 5+j by simp [Nd.cs];omega,ih i (by simpa using h)];rfl
theorem Zjw (a:List Nd)(i:Nat)(x b:Nd)(h:a[i]? = some x)(u:Value)(e:x.cs.set 0 u=b.cs):(ncs a).set (i * 5) u=ncs (a.set i b) :=
 Zc7 a i x b h 0 (by omega) u e
theorem Nd.one (x:Nd):∀ u ∈ x.cs,u.oneCell'=true:=by
 intro u a;simp only [Nd.cs,List.mem_cons,List.not_mem_nil,or_false] at a;rcases a with rfl | rfl | rfl | rfl | rfl <;> rfl
theorem Za0 (c:List Nd):∀ u ∈ ncs c,u.oneCell'=true:=by
 intro u a;simp only [ncs,List.mem_flatMap] at a;obtain ⟨x,_,b⟩:=a;exact x.one u b
def NAt (w:World)(g o:Nat)(x:Nd):Prop :=
 w.cell? ⟨g,o,none⟩=some (.int .i64 x.k)/\w.cell? ⟨g,o+1,none⟩=some (.int .i64 x.n)/\w.cell? ⟨g,o+2,none⟩=some (.string x.s) /\
  w.cell? ⟨g,o+3,none⟩=some (.int .i64 x.a)/\w.cell? ⟨g,o+4,none⟩=some (.int .i64 x.b)
theorem NAt.below {w c:World}{g o B:Nat}{x:Nd}(h:NAt w g o x)(a:Below B w c)(b:g < B):NAt c g o x :=
 ⟨(a.cell (p:=⟨g,o,none⟩) b).trans h.1,(a.cell (p:=⟨g,o+1,none⟩) b).trans h.2.1,(a.cell (p:=⟨g,o+2,none⟩) b).trans h.2.2.1,
  (a.cell (p:=⟨g,o+3,none⟩) b).trans h.2.2.2.1,(a.cell (p:=⟨g,o+4,none⟩) b).trans h.2.2.2.2⟩
def NRow (w:World)(v:Value)(xs:List Nd):Prop :=
 ∃ ao cap,v=.slice ao xs.length cap/\(xs.length <= cap/\(ao=none -> cap=0))/\xs.length <= 9223372036854775807/\(∀ x ∈ xs,x.s.size <= maxLen) /\
  (xs ≠ [] -> ∃ g o,ao=some ⟨g,o,none⟩/\g < w.heap.size/\∀ i x,xs[i]? = some x -> NAt w g (o+i * 5) x)
theorem NRow.below {w f:World}{v:Value}{j:List Nd}(h:NRow w v j)(d:Below w.heap.size w f):NRow f v j:=by
 obtain ⟨k,b,rfl,l,m,n,a⟩:=h;refine ⟨k,b,rfl,l,m,n,fun c=>?_⟩;obtain ⟨g,o,rfl,e,a⟩:=a c;exact ⟨g,o,rfl,cm e d.size,fun i x hi=>(a i x hi).below d e⟩
theorem NRow.of_own {w:World}{b:Nat}{v:Value}{a:List Nd}(h:w.ownsRow b 176 5 v a.length (ncs a))(q:a.length <= 9223372036854775807)(r:∀ x ∈ a,x.s.size <= maxLen):NRow w v a:=by
 rcases h.2 with ⟨rfl,l⟩ | ⟨g,c,k,rfl,t,o,d,m,n,f⟩
 ·have:a=[]:=List.eq_nil_of_length_eq_zero l
  subst this;exact ⟨none,0,rfl,by simp,by simp,by simp,fun h=>absurd rfl h⟩
 ·refine ⟨_,c,rfl,⟨d,fun h=>by cases h⟩,q,r,fun _=>⟨g,0,rfl,(bl o),fun i x hi=>?_⟩⟩
  have u:i < a.length:=(List.getElem?_eq_some_iff.1 hi).1
  have e:∀ j,j < 5 -> w.cell? ⟨g,0+i * 5+j,none⟩=x.cs[j]?:=fun j p=>by
   have:=h.cellAt (i * 5+j) (by omega);rw [Nat.zero_add,this,Zik a i x hi j p]
  exact ⟨e 0 (by omega),e 1 (by omega),e 2 (by omega),e 3 (by omega),e 4 (by omega)⟩
theorem Zma:(prog.info? 176).map (fun i=>(i.zero,i.size,i.bytes))=some (some (.agg #[.int .i64 0,.int .i64 0,.string ByteArray.empty,.int .i64 0,.int .i64 0]),5,48):=by kernel_rfl
theorem retB {p q:Bool}(h:p=q):Ending.returned (.bool p)=.returned (.bool q):=by rw [h]
theorem Zac {w d:World}{B:Nat}{e:TypeId}{k:Nat}{v:Value}{n:Nat}{f:List Value}(h:w.ownsRow B e k v n f)(l:Below w.heap.size w d):d.ownsRow B e k v n f:=by
 refine ⟨h.1,?_⟩;rcases h.2 with ⟨rfl,i⟩ | ⟨g,a,b,rfl,j,c,m⟩
 ·exact Or.inl ⟨rfl,i⟩
 ·exact Or.inr ⟨g,a,b,rfl,j,(l.block g (bl c)).trans c,m⟩
theorem Zad {w:World}{B:Nat}{e:TypeId}{k:Nat}{v:Value}{n:Nat}{f:List Value}(h:w.ownsRow B e k v n f):∃ b a,v=.slice b n a:=by
 rcases h.2 with ⟨rfl,d⟩ | ⟨g,a,c,rfl,_⟩
 ·exact ⟨none,0,by rw [d]⟩
 ·exact ⟨_,_,rfl⟩
theorem Zae {w:World}{B B':Nat}{e:TypeId}{k:Nat}{v:Value}{n:Nat}{c:List Value}(h:w.ownsRow B e k v n c)(i:B' <= B):w.ownsRow B' e k v n c:=by
 refine ⟨h.1,?_⟩;rcases h.2 with ⟨rfl,d⟩ | ⟨g,a,b,rfl,f,j⟩
 ·exact Or.inl ⟨rfl,d⟩
 ·exact Or.inr ⟨g,a,b,rfl,Nat.le_trans i f,j⟩
theorem Zme:(prog.info? 176).map (·.size)=some 5:=by kernel_rfl
theorem ZcA {ops:Array Oper}{m:List Oper}{op:Oper}{a:Act}{w:World}{Q:Exit -> Act -> World -> Prop}(p:op.guard=none)(x y:Operand)(B:op.op=.store 176 x y)(l g i o:Nat)(d:List Nd)(c:Nd)(D:a.eval x=.pointer (some ⟨g,i * 5,none⟩))(E:a.eval y=.agg #[.int .i64 c.k,.int .i64 c.n,.string c.s,.int .i64 c.a,.int .i64 c.b])(hi:i < d.length)(e:w.ownsRow l 176 5 (.slice (some ⟨g,0,none⟩) d.length o) d.length (ncs d))(h:∀ z:World,z.ownsRow l 176 5 (.slice (some ⟨g,0,none⟩) d.length o) d.length (ncs (d.set i c)) -> w.grownBy z (some g) -> wpList prog ops Q m (a.put op.dst undef) z):wpList prog ops Q (op :: m) a w:=by
 have C:w.there g (i * 5) 5:=fun j F=>by
  have:=e.cellAt (i * 5+j) (by omega);refine ⟨?_,e.frozenAt _⟩;rw [this,List.getElem?_eq_getElem (by rw [ZdF];omega)];rfl
 refine wpList_store_mid p 176 x y B g (i * 5) _ D E C Zme (all_oneCell_toArray c.one) ?_;have A:d[i]? = some d[i]:=List.getElem?_eq_getElem hi;have f:∀ y:Nd,(d.set i y)[i]? = some y:=fun y=>by simp [hi]
 have q:=e.stored (i * 5) (.int .i64 c.k);rw [Zjw d i d[i] ⟨c.k,d[i].n,d[i].s,d[i].a,d[i].b⟩ A _ rfl] at q;have r:=q.1.stored (i * 5+1) (.int .i64 c.n);rw [Zc7 (d.set i ⟨c.k,d[i].n,d[i].s,d[i].a,d[i].b⟩) i ⟨c.k,d[i].n,d[i].s,d[i].a,d[i].b⟩ ⟨c.k,c.n,d[i].s,d[i].a,d[i].b⟩ (f _) 1 (by omega) (.int .i64 c.n) rfl,List.set_set] at r;have t:=r.1.stored (i * 5+2) (.string c.s);rw [Zc7 (d.set i ⟨c.k,c.n,d[i].s,d[i].a,d[i].b⟩) i ⟨c.k,c.n,d[i].s,d[i].a,d[i].b⟩ ⟨c.k,c.n,c.s,d[i].a,d[i].b⟩ (f _) 2 (by omega) (.string c.s) rfl,List.set_set] at t;have u:=t.1.stored (i * 5+3) (.int .i64 c.a);rw [Zc7 (d.set i ⟨c.k,c.n,c.s,d[i].a,d[i].b⟩) i ⟨c.k,c.n,c.s,d[i].a,d[i].b⟩ ⟨c.k,c.n,c.s,c.a,d[i].b⟩ (f _) 3 (by omega) (.int .i64 c.a) rfl,List.set_set] at u;have v:=u.1.stored (i * 5+4) (.int .i64 c.b)
 rw [Zc7 (d.set i ⟨c.k,c.n,c.s,c.a,d[i].b⟩) i ⟨c.k,c.n,c.s,c.a,d[i].b⟩ ⟨c.k,c.n,c.s,c.a,c.b⟩ (f _) 4 (by omega) (.int .i64 c.b) rfl,List.set_set] at v;exact h _ v.1 ((((q.2.trans r.2).trans t.2).trans u.2).trans v.2)
def nb (b:Int):Bool:=b == 43 || b == 45 || b == 42 || b == 60 || b == 61 || b == 63 || b == 33 || b == 47 || (decide (97 <= b) && decide (b <= 122))
def ZbQ (s:ByteArray):Bool:=decide (1 <= s.size) && decide (s.size <= 12) && decide (∀ i:Fin s.size,nb (s[i].toNat)=true)
theorem ZeZ {s:ByteArray}(a:1 <= s.size)(b:s.size <= 12)(h:∀ j (c:j < s.size),nb (s[j].toNat)=true):ZbQ s=true:=by
 simp only [ZbQ,Bool.and_eq_true,decide_eq_true_eq];exact ⟨⟨a,b⟩,fun i=>h i.1 i.2⟩
theorem Ze0 {s:ByteArray}(j:Nat)(b:j < s.size)(h:nb (s[j].toNat)=false):ZbQ s=false:=by
 rw [Bool.eq_false_iff];intro a;simp only [ZbQ,Bool.and_eq_true,decide_eq_true_eq] at a;have:=a.2 ⟨j,b⟩;simp only [Fin.getElem_fin] at this;rw [this] at h;cases h
theorem ZdE {s:ByteArray}(h:¬ (1 <= s.size/\s.size <= 12)):ZbQ s=false:=by
 rw [Bool.eq_false_iff];intro a;simp only [ZbQ,Bool.and_eq_true,decide_eq_true_eq] at a;exact h a.1
def lo (k:Int):Int:=if k=3 then -1000000000 else 0
def hi (k:Int):Int:=if k=2 then 1 else if k=3 \/ k=6 \/ k=9 then 1000000000 else if k=8 then 99 else 0
def hasS (k:Int):Bool:=decide (k=4)
def hasA (k:Int):Bool:=decide (k=5 \/ k=6 \/ k=7)
def hasB (k:Int):Bool:=decide (k=5)
def Zbf (p:Int)(named:Bool)(at_:Int):Bool:=if named then decide (0 <= p) && decide (p < at_) else p == 0
def Zbj (s:ByteArray)(named:Bool):Bool:=if named then ZbQ s else s.toList == []
def Zav (x:Nd)(at_:Int):Bool :=
 decide (1 <= x.k) && decide (x.k <= 9) && decide (lo x.k <= x.n) && decide (x.n <= hi x.k) && (Zbj x.s (hasS x.k) && Zbf x.a (hasA x.k) at_ && Zbf x.b (hasB x.k) at_)
def ZaA (xs:List Nd)(i:Nat):Bool:=match xs with
 | []=>true
 | x :: xs=>Zav x i && ZaA xs (i+1)
def Zap (xs:List Nd):Bool:=decide (xs.length <= 3000) && ZaA xs 0
theorem Zc8 (a:List Nd)(i:Nat)(x:Nd)(h:a[i]? = some x):ZaA (a.drop i) i=(Zav x i && ZaA (a.drop (i+1)) (i+1)):=by
 obtain ⟨c,b⟩:=List.getElem?_eq_some_iff.1 h;rw [List.drop_eq_getElem_cons c,b];rfl
theorem Zas {P:Program}{ops:Array Oper}{c:List Oper}{o:Oper}{a:Act}{w:World}{Q:Exit -> Act -> World -> Prop}(f:o.guard=none)(i:TypeId)(x y:Operand)(n:o.op=.store i x y)(g:Nat)(cells:Array Value)(p:a.eval x=.pointer (some ⟨g,0,none⟩))(q:a.eval y=.agg cells)(t:TypeId)(b:Array Value)(j:w.heap[g]? = some (.cells b t (0,0)))(hi:(P.info? i).map (·.size)=some cells.size)(d:b.size=cells.size)(l:cells.all (·.oneCell')=true)(h:∀ e:World,e.heap[g]? = some (.cells cells t (0,0)) -> Below g w e -> e.heap.size=w.heap.size -> (∀ k,k ≠ g -> e.heap[k]? = w.heap[k]?) -> wpList P ops Q c (a.put o.dst undef) e):wpList P ops Q (o :: c) a w :=
 wpList_store_row f i x y n g cells p q t b j hi d l (h _ (setRow_heap w g b _ t _ j) (below_setRow (cf _ _) (ce _) _) (size_setRow w g cells) (fun k m=>setRow_other w g k cells m))
theorem Zaz {w f:World}{B k n g:Nat}{e:TypeId}{v:Value}{l:List Value}(h:w.ownsRow B e k v n l)(q:g < B)(o:∀ j,j ≠ g -> f.heap[j]? = w.heap[j]?):f.ownsRow B e k v n l:=by
 refine ⟨h.1,?_⟩;rcases h.2 with ⟨rfl,i⟩ | ⟨d,a,b,rfl,m,c,p⟩
 ·exact Or.inl ⟨rfl,i⟩
 ·exact Or.inr ⟨d,a,b,rfl,m,(o d (by omega)).trans c,p⟩
theorem Zgs {w:World}{B:Nat}{e t:TypeId}{k:Nat}{v:Value}{n j:Nat}{m:List Value}{c:Array Value}{fr:Nat × Nat}(h:w.ownsRow B e k v n m)(d:w.heap[j]? = some (.cells c t fr))(a:t ≠ e):v.ownBlock ≠ some j:=by
 rcases h.2 with ⟨rfl,_⟩ | ⟨g,f,i,rfl,o,l,_⟩
 ·simp [Value.ownBlock]
 ·intro b
  simp only [Value.ownBlock,Option.some.injEq] at b;subst b;rw [l] at d;cases d;exact a rfl
theorem Zbo (W:World)(t:TypeId)(k B:Nat)(h:B <= W.heap.size):(W.alloc (Obj.cells #[] t)).ownsRow B t k (.slice (some ⟨W.heap.size,0,none⟩) 0 0) 0 [] :=
 Zae (World.ownsRow_made W #[] 0 (ce _) (by simp) (by simp)) h
theorem Zkp (b:Int)(w:World):Calls prog 150 #[.int .u8 b] w fun e a=>e=.returned (.bool (nb b))/\a=w:=by
 go_enter func150,ntmps150
 go_wp2
 all_goals go_ret
 all_goals (refine ⟨retB ?_,rfl⟩;rw [Bool.eq_iff_iff];simp [nb, *];try omega)
theorem ZkE (b:Int)(w:World):Calls prog 120 #[.int .u8 b] w fun e a=>e=.returned (.bool (nb b))/\a=w:=by
 go_enter func120,ntmps120
 go_wp2
 all_goals go_ret
 all_goals (refine ⟨retB ?_,rfl⟩;rw [Bool.eq_iff_iff];simp [nb, *];try omega)
theorem Zao (x l h:Int)(w:World):Calls prog 51 #[.int .i64 x,.int .i64 l,.int .i64 h] w fun e a=>e=.returned (.bool (decide (l <= x) && decide (x <= h)))/\a=w:=by
 go_enter func51,ntmps51
 go_wp2
 all_goals go_ret
 all_goals (refine ⟨retB ?_,rfl⟩;rw [Bool.eq_iff_iff];simp [*];try omega)
theorem ZcZ (s:ByteArray)(w:World)(_:s.size <= maxLen):Calls prog 128 #[.string s] w fun e m=>e=.returned (.bool (ZbQ s))/\m=w:=by
 by_cases d:1 <= s.size/\s.size <= 12
 ·go_enter func128,ntmps128
  go_wp2
  go_loop [3] (fun i=>∃ k:Nat,k <= s.size/\i=.int .i64 k/\Hid (∀ j (b:j < s.size),j < k -> nb (s[j].toNat)=true)) (fun i=>s.size - (intOf i).toNat)
  case atStart=>exact ⟨0,by omega,rfl,fun j b l=>by omega⟩
  case round =>
   obtain ⟨k,l,rfl,H⟩:=hrel
   by_cases f:k < s.size
   ·go_wp2_with fail
    refine (Zkp _ _).mono ?_;rintro e n ⟨rfl,rfl⟩
    by_cases g:nb (s[k].toNat)=true
    ·rw [g]
     go_wp2
     go_round
     case rel =>
      refine ⟨k+1,by omega,by go_num,fun j b l=>?_⟩
      by_cases e:j=k
      ·subst e;exact g
      ·exact H.out j b (by omega)
     case measure=>simp [intOf];omega
    ·have c:nb (s[k].toNat)=false:=by simpa using g
     have a:Hid (ZbQ s=false):=Ze0 k f c;rw [c];go_wp2;go_ret;exact ⟨by rw [a.out];rfl,rfl⟩
   ·have a:Hid (ZbQ s=true):=ZeZ d.1 d.2 fun j b=>H.out j b (by omega)
    go_wp2;go_ret;exact ⟨by rw [a.out];rfl,rfl⟩
 ·have a:Hid (ZbQ s=false):=ZdE d
  go_enter func128,ntmps128
  go_wp2
  all_goals go_ret
  all_goals first | exact ⟨by rw [a.out];rfl,rfl⟩ | (exfalso;omega)
theorem ZaK (s:ByteArray)(w:World)(n:s.size <= maxLen):Calls prog 93 #[.string s] w fun e o=>e=.returned (.bool (ZbQ s))/\o=w:=by
 unfold maxLen at n
 go_enter func93,ntmps93
 go_wp2
 go_loop [3] (fun i=>∃ k:Nat,k <= s.size/\i=.int .i64 k/\Hid (∀ j (a:j < s.size),j < k -> nb (s[j].toNat)=true)) (fun i=>s.size - (intOf i).toNat)
 case atStart=>exact ⟨0,by omega,rfl,fun j a g=>by omega⟩
 case round =>
  obtain ⟨k,g,rfl,H⟩:=hrel
  by_cases d:k < s.size
  ·go_wp2_with fail
   refine (ZkE _ _).mono ?_;rintro e p ⟨rfl,rfl⟩
   by_cases f:nb (s[k].toNat)=true
   ·rw [f]
    go_wp2
    go_round
    case rel =>
     refine ⟨k+1,by omega,by go_num,fun j a g=>?_⟩
     by_cases e:j=k
     ·subst e;exact f
     ·exact H.out j a (by omega)
    case measure=>simp [intOf];omega
   ·have b:nb (s[k].toNat)=false:=by simpa using f
    have m:Hid (ZbQ s=false):=Ze0 k d b;rw [b];go_wp2;go_ret;exact ⟨by rw [m.out];rfl,rfl⟩
  ·have l:Hid (∀ j (a:j < s.size),nb (s[j].toNat)=true):=fun j a=>H.out j a (by omega)
   go_wp2_with fail;refine (Zao _ _ _ _).mono ?_;rintro e p ⟨rfl,rfl⟩;go_wp2;go_ret;refine ⟨retB ?_,rfl⟩
   by_cases c:1 <= s.size/\s.size <= 12
   ·rw [ZeZ c.1 c.2 l.out]
    simp;omega
   ·rw [ZdE c]
    simp;omega
theorem Zah {P:Program}{c:Func}{p u:Tmp}{b:TypeId}(h:c.results=#[.cell p b,.tmp u])(a:Array Value)(w:World)(g:Nat)(t:TypeId)(cs:Array Value)(fr:Nat × Nat)(d:TypeDesc)(i:a.getD p undef=.pointer (some ⟨g,0,none⟩))(f:w.heap[g]? = some (.cells cs t fr))(j:P.underlying b=some d)(e:(match d with | .struct _ | .array _ _=>true | _=>false)=true)(hi:(P.info? b).map (·.size)=some cs.size) :
  (results c a).run P w=.ok (.tuple #[.agg cs,a.getD u undef]) w:=by
 rw [results_cell_tmp h,i];simp [asAddr,run_loadVar_row w g t b cs fr d f j e hi]
theorem ZlJ:(prog.info? 203).map (·.size)=some 5:=by kernel_rfl
def Zfh (k:Int):Value :=
 if 1 <= k/\k <= 9 then .tuple #[.agg #[.int .i64 (lo k),.int .i64 (hi k),.bool (hasS k),.bool (hasA k),.bool (hasB k)],.bool true]
 else .tuple #[.agg #[.int .i64 0,.int .i64 0,.bool false,.bool false,.bool false],.bool false]
theorem Zdi (k:Int)(w:World):Calls prog 140 #[.int .i64 k] w fun e a=>e=.returned (Zfh k)/\Below w.heap.size w a:=by
 go_enter func140,ntmps140
 go_wp2
 all_goals refine ck (Zah rfl _ _ w.heap.size 203 _ (0,0) _ rfl (cg _ _) underlying203 rfl ZlJ) rfl ⟨?_,(cf _ _).alloc (ce _) _⟩
 all_goals simp only [beq_iff_eq,beq_eq_false_iff_ne] at *
 all_goals (try subst k)
 all_goals first | rfl | (rw [Zfh,if_neg (by omega)];rfl)
theorem Ze1 (s:ByteArray)(b:Bool)(w:World)(a:s.size <= maxLen):Calls prog 141 #[.string s,.bool b] w fun e c=>e=.returned (.bool (Zbj s b))/\c=w:=by
 cases b with
 | false =>
  go_enter func141,ntmps141
  go_wp2
  all_goals go_ret
  all_goals simp [Zbj]
 | true =>
  go_enter func141,ntmps141
  go_wp2_with fail;refine (ZcZ s _ a).mono ?_;rintro e d ⟨rfl,rfl⟩;go_wp2;go_ret;simp [Zbj]
theorem ZcG (p:Int)(b:Bool)(n:Int)(w:World):Calls prog 142 #[.int .i64 p,.bool b,.int .i64 n] w fun e a=>e=.returned (.bool (Zbf p b n))/\a=w:=by
 cases b with
 | false =>
  go_enter func142,ntmps142
  go_wp2
  all_goals go_ret
  all_goals simp [Zbf]
 | true =>
  go_enter func142,ntmps142
  go_wp2
  all_goals go_ret
  all_goals (refine ⟨retB ?_,rfl⟩;rw [Bool.eq_iff_iff];simp [Zbf, *];try omega)
end Go.Proofs.YtanhoamdlhaaeaaGreatDoor
