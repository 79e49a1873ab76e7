/-
  Texts that stood by themselves, laid into one.
-/
import Derived.Test.YtkpfangkfknhoaaGreatDoorShapeM
import Derived.Test.YtkpfangkfknhoaaGreatDoorMark2M
import Derived.Deep.RegionHeld3
import Derived.Test.YtkpfangkfknhoaaGreatDoorMcTM
import Derived.Deep.RegionHeld
import Derived.Test.YtkpfangkfknhoaaGreatDoorMach2M
import Derived.Deep.AppendLies
import Derived.Deep.RegionLawGrows
import Derived.OneCell
import Derived.Test.YtkpfangkfknhoaaGreatDoorNumberM
/-
  Contracts of (impl.reader).text and impl.GetText, for every slice of bytes within the form's reach and every place.
-/
set_option maxRecDepth 100000
set_option maxHeartbeats 3200000
namespace Go.Proofs.YtkpfangkfknhoaaGreatDoor
open Go.Proofs.Tryz
open Go.RowKit
theorem Zdn (v:Value)(zs:List Int)(P:Nat)(a:Int)(t w:World)(R:Row t v zs)(K:Below t.heap.size t w)(N:t.heap.size <= P)(h:One w P a) :
  Calls prog 165 #[.agg #[v,.pointer (some ⟨P,0,none⟩)]] w fun e J =>
   e=.returned (.tuple #[.string (gT zs a).1,.bool (gT zs a).2.2])/\(∃ q,One J P q/\((gT zs a).2.2=true -> q=(gT zs a).2.1))/\w.grownBy J (some P):=by
 have U:=R;obtain ⟨A,s,rfl,C,X,M,c⟩:=U;clear M;have Q:=h.lt
 go_enter func165,ntmps165
 go_wp2_with fail;have d:Below t.heap.size t (w.alloc (Obj.cells #[Value.slice A zs.length s,Value.pointer (some ⟨P,0,none⟩)] 231)):=K.alloc K.size _;have y:One (w.alloc (Obj.cells #[Value.slice A zs.length s,Value.pointer (some ⟨P,0,none⟩)] 231)) P a:=h.kept (cF w _ none) (by simp);refine (Zdy _ zs P a t _ R d N y).mono ?_;rintro e f ⟨rfl,⟨q,b,F⟩,x⟩;have B:w.heap.size < (w.alloc (Obj.cells #[Value.slice A zs.length s,Value.pointer (some ⟨P,0,none⟩)] 231)).heap.size:=by simp
 have l:f.heap[w.heap.size]? = some (.cells #[Value.slice A zs.length s,Value.pointer (some ⟨P,0,none⟩)] 231 (0,0)):=(x.block _ B (by simp;omega)).trans (co w _);have O:f.cell? ⟨w.heap.size,0,none⟩=some (.slice A zs.length s):=by rw [cd f _ 0 _ 231 (0,0) l];rfl
 have S:f.cell? ⟨w.heap.size,1,none⟩=some (.pointer (some ⟨P,0,none⟩)):=by rw [cd f _ 1 _ 231 (0,0) l];rfl
 have hc:=b.cell;have hf:=b.free;have j:w.grownBy f (some P):=Zaj (cF w _ _) x;have m:Below t.heap.size t f:=d.grown x d.size (fun k L=>by simp at L;omega);clear d y B l x R;generalize H:gN zs a=r at F ⊢;obtain ⟨n,next,ok⟩:=r;have G:Hid (gN zs a=(n,next,ok)):=H;clear H;cases ok with
 | false =>
  have z:Hid (gT zs a=(⟨#[]⟩,0,false)):=Zlz zs a n next false G.out (Or.inl rfl);clear F;go_wp2_with fail
  go_ret2
  exact ⟨by rw [z.out];rfl,⟨q,b,by rw [z.out];intro h;cases h⟩,j⟩
 | true =>
  obtain ⟨V,W,T,Z⟩:=Zku zs a n next G.out;obtain ⟨n,rfl⟩:=cG V;obtain ⟨next,rfl⟩:=cG T;obtain rfl:q=(next:Int):=F rfl;clear F
  by_cases D:(zs.length:Int) - next < n
  ·have z:Hid (gT zs a=(⟨#[]⟩,0,false)):=Zlz zs a _ _ true G.out (Or.inr D)
   go_wp2_with fail
   go_ret2
   exact ⟨by rw [z.out];rfl,⟨_,b,by rw [z.out];intro h;cases h⟩,j⟩
  ·have z:Hid (gT zs a=(strOfNums ((zs.drop next).take n),(next:Int)+n,true)):=ZlJ zs a n next G.out (by omega)
   have E:next+n <= zs.length:=by omega
   have u:zs ≠ [] -> ∃ g o,A=some ⟨g,o,none⟩/\g < (f.setCell ⟨P,0,none⟩ (.int .i64 ((next:Int)+n))).heap.size/\∀ i,i < zs.length -> (f.setCell ⟨P,0,none⟩ (.int .i64 ((next:Int)+n))).cell? ⟨g,o+i,none⟩=some (.int .u8 (zs.getD i 0)):=by
    intro I;obtain ⟨g,o,rfl,H,c⟩:=c I;have Y:=m.size;refine ⟨g,o,rfl,by simp [World.setCell];omega,fun i hi=>?_⟩;rw [World.cell?_of_block (w:=f) (cr f ⟨P,0,none⟩ g _ (by simp;omega)),m.cell (p:=⟨g,o+i,none⟩) H];exact c i hi
   clear c
   go_wp2_with (refine ZbB _ rfl _ 186 9 5 rfl underlying186 underlying9 underlying5 _ _ _ ((zs.drop next).take n) rfl (by rw [ZeB zs next n E];omega) (by rw [Nat.add_sub_cancel_left];simpa using ZfH u next n E C) ?_)
   all_goals go_ret2
   all_goals exact ⟨by rw [z.out];rfl,⟨_,b.set _,by rw [z.out];intro _;rfl⟩,Zaj j (Zan f P 0 _)⟩
theorem Zjx (l:List Int):(strOfNums l).size=l.length:=by
 unfold strOfNums;simp [ByteArray.size]
def badV (p:Int):Value:=.iface 266 (.agg #[.int .i64 p])
def ZhF (b:Int)(n:Nat)(r:Value):Prop:=(b < n/\∃ p,r=badV p) \/ (¬ b < n/\r=.nilIface)
theorem Zdl (v:Value)(zs:List Int)(P:Nat)(b:Int)(w:World)(R:∃ d a,v=.slice d zs.length a)(j:One w P b) :
  Calls prog 166 #[.agg #[v,.pointer (some ⟨P,0,none⟩)]] w fun e l=>∃ r,e=.returned r/\ZhF b zs.length r/\Below w.heap.size w l:=by
 obtain ⟨d,a,rfl⟩:=R;have c:Below w.heap.size w (w.alloc (Obj.cells #[Value.slice d zs.length a,Value.pointer (some ⟨P,0,none⟩)] 231)):=(cj _ _).alloc (ce _) _;have i:=j.below c j.lt;have m:=i.cell;obtain ⟨W,k⟩:∃ W,w.alloc (Obj.cells #[Value.slice d zs.length a,Value.pointer (some ⟨P,0,none⟩)] 231)=W:=⟨_,rfl⟩;have h:W.heap[w.heap.size]? = some (.cells #[Value.slice d zs.length a,Value.pointer (some ⟨P,0,none⟩)] 231 (0,0)):=by rw [<- k];exact co _ _
 rw [k] at c i m;have o:W.cell? ⟨w.heap.size,0,none⟩=some (.slice d zs.length a):=cd W _ 0 _ _ _ h;have n:W.cell? ⟨w.heap.size,1,none⟩=some (.pointer (some ⟨P,0,none⟩)):=cd W _ 1 _ _ _ h
 go_enter func166,ntmps166
 go_wp2_with fail
 go_quiet (fail)
 by_cases f:b < zs.length
 ·have g:∀ p,ZhF b zs.length (badV p):=fun p=>Or.inl ⟨f,p,rfl⟩
  go_wp2;go_ret;exact ⟨_,rfl,g _,c.trans ⟨rfl,rfl,rfl,ce _,fun _ _=>rfl⟩⟩
 ·have g:ZhF b zs.length .nilIface:=Or.inr ⟨f,rfl⟩
  go_wp2;go_ret;exact ⟨_,rfl,g,c.trans ⟨rfl,rfl,rfl,ce _,fun _ _=>rfl⟩⟩
theorem Zbg {P:Program}(w:World){ops:Array Oper}{i:List Oper}{o:Oper}{a:Act}{Q:Exit -> Act -> World -> Prop}(B:o.guard=none)(x:Operand)(g f e:TypeId)(m:o.op=.convert g f x)(q:P.underlying g=some .string)(p:P.underlying f=some (.slice e))(v:P.underlying e=some (.int .u8))(s:ByteArray)(y:a.eval x=.string s)(h:∀ b d,s.size <= b -> (∀ j u,(bv (sb s))[j]? = some u -> d.cell? ((⟨w.heap.size,0,none⟩:Addr).add j)=some u) -> w.grownBy d none -> w.heap.size < d.heap.size -> wpList P ops Q i (a.put o.dst (.slice (some ⟨w.heap.size,0,none⟩) s.size b)) d) :
  wpList P ops Q (o :: i) a w:=by
 refine wpList_plain B fun K z=>?_
 obtain ⟨b,d,k,n,t,l,r⟩:∃ b d,(convert g f (.string s)).run P w=.ok (.slice (some ⟨w.heap.size,0,none⟩) s.size b) d/\s.size <= b /\
   (∀ j u,(bv (sb s))[j]? = some u -> d.cell? ((⟨w.heap.size,0,none⟩:Addr).add j)=some u)/\w.grownBy d none/\w.heap.size < d.heap.size:=by
  refine ⟨_,_,run_bytes_of_string w g f e s q p v,?_,?_,?_,?_⟩
  ·exact grownCap_ge _ _ _ _
  ·intro j u A
   rw [Addr.add_lit,Nat.zero_add,cd _ w.heap.size j _ e _ (co w.drew _)];exact Zdj s _ j u A
  ·have c:=cF w.drew (Obj.cells (bytesRow s (grownCap w s.size 0 e)) e ((bytesRow s (grownCap w s.size 0 e)).size,(bytesRow s (grownCap w s.size 0 e)).size+1)) none
   exact ⟨c.os,c.tape,c.output,c.size,c.block⟩
  ·show w.heap.size < (w.heap.push _).size
   simp
 unfold Oper.wp;simp [execOp,m,y,k,Result.andThen];exact z _ _ (h b d n t l r)
theorem ZnR:(prog.info? 231).map (·.size)=some 2:=by kernel_rfl
theorem Zbn {w b:World}{s:ByteArray}{a:Nat}(e:s.size <= 140737488351232)(d:s.size <= a)(c:∀ j u,(bv (sb s))[j]? = some u -> b.cell? ((⟨w.heap.size,0,none⟩:Addr).add j)=some u)(f:w.heap.size < b.heap.size):Row b (.slice (some ⟨w.heap.size,0,none⟩) s.size a) (sb s):=by
 refine ⟨some ⟨w.heap.size,0,none⟩,a,by rw [ZaJ],by rw [ZaJ];exact d,by rw [ZaJ];exact e,Zh3 s,fun _=>⟨w.heap.size,0,rfl,f,fun i hi=>?_⟩⟩;have:=c i (.int .u8 ((sb s).getD i 0)) (by rw [ZhC (sb s) i hi])
 rwa [Addr.add_lit] at this
theorem Za8 (s:ByteArray)(w:World)(K:s.size <= 140737488351232) :
  Calls prog 163 #[.string s] w fun e F=>∃ v l P,e=.returned (.agg #[v,.pointer (some ⟨P,0,none⟩)])/\Row l v (sb s)/\Below w.heap.size w l/\Below l.heap.size l F/\l.heap.size <= P/\One F P 0:=by
 go_enter func163,ntmps163
 go_wp2_with (first
  | (refine Zbg _ rfl _ 9 186 5 rfl underlying9 underlying186 underlying5 s rfl ?_;intro b a H D t C;have x:=(t.block w.heap.size (by simp) (by simp)).trans (co w _);have d:=(cz a (Obj.cells #[Value.int .i64 0] 3) (bl x)).trans x)
  | (refine wpList_store_row rfl 231 _ _ rfl w.heap.size #[.slice (some ⟨w.heap.size+1,0,none⟩) s.size b,.pointer (some ⟨a.heap.size,0,none⟩)] rfl rfl 231 _ d ZnR rfl (by simp [Value.oneCell']) ?_))
 have B:(w.alloc (Obj.cells #[Value.slice none 0 0,Value.pointer none] 231)).heap.size=w.heap.size+1:=by simp
 have E:=Zbn (w:=w.alloc (Obj.cells #[Value.slice none 0 0,Value.pointer none] 231)) K H D C;rw [B] at E C;have A:=setRow_heap a w.heap.size _ #[.slice (some ⟨w.heap.size+1,0,none⟩) s.size b,.pointer (some ⟨a.heap.size,0,none⟩)] _ _ x;have j:=setRow_heap (a.alloc (Obj.cells #[Value.int .i64 0] 3)) w.heap.size _ #[.slice (some ⟨w.heap.size+1,0,none⟩) s.size b,.pointer (some ⟨a.heap.size,0,none⟩)] _ _ d
 have h:Row (a.setRow w.heap.size #[.slice (some ⟨w.heap.size+1,0,none⟩) s.size b,.pointer (some ⟨a.heap.size,0,none⟩)]) (.slice (some ⟨w.heap.size+1,0,none⟩) s.size b) (sb s):=by
  obtain ⟨O,c,p,G,I,J,M⟩:=E;refine ⟨O,c,p,G,I,J,fun q=>?_⟩;obtain ⟨g,o,rfl,N,L⟩:=M q
  obtain ⟨rfl,rfl⟩:g=w.heap.size+1/\o=0:=by
   simp only [Value.slice.injEq,Option.some.injEq,Addr.mk.injEq] at p;exact ⟨p.1.1.symm,p.1.2.1.symm⟩
  refine ⟨_,_,rfl,by rw [size_setRow];exact N,fun i hi=>?_⟩;rw [World.cell?_of_block (w:=a) (setRow_other a w.heap.size (w.heap.size+1) _ (by omega))];exact L i hi
 have z:Below w.heap.size w (a.setRow w.heap.size #[.slice (some ⟨w.heap.size+1,0,none⟩) s.size b,.pointer (some ⟨a.heap.size,0,none⟩)]):=by
  have n:Below w.heap.size w (w.alloc (Obj.cells #[Value.slice none 0 0,Value.pointer none] 231)):=(cj _ _).alloc (ce _) _;have y:Below w.heap.size w a:=n.grown t n.size (fun k r=>by cases r);exact below_setRow y (ce _) _
 have u:Below a.heap.size (a.setRow w.heap.size #[.slice (some ⟨w.heap.size+1,0,none⟩) s.size b,.pointer (some ⟨a.heap.size,0,none⟩)]) ((a.alloc (Obj.cells #[Value.int .i64 0] 3)).setRow w.heap.size #[.slice (some ⟨w.heap.size+1,0,none⟩) s.size b,.pointer (some ⟨a.heap.size,0,none⟩)]):=by
  refine ⟨rfl,rfl,rfl,by simp,fun k r=>?_⟩
  by_cases f:k=w.heap.size
  ·subst f
   rw [A,j]
  ·rw [setRow_other _ _ _ _ f,setRow_other _ _ _ _ f]
   exact cz a _ r
 have m:One ((a.alloc (Obj.cells #[Value.int .i64 0] 3)).setRow w.heap.size #[.slice (some ⟨w.heap.size+1,0,none⟩) s.size b,.pointer (some ⟨a.heap.size,0,none⟩)]) a.heap.size 0:=(setRow_other _ _ _ _ (by omega)).trans (co a _);clear d D t B;go_wp2;exact cx (results_cell_row rfl _ _ w.heap.size 231 _ (0,0) _ rfl j underlying231 rfl ZnR) rfl ⟨_,_,_,rfl,h,z,by rw [size_setRow];exact u,by rw [size_setRow];exact ce _,m⟩
structure K2 (P M:Nat)(w w':World):Prop where
 os:w'.os=w.os
 tape:w'.tape=w.tape
 output:w'.output=w.output
 size:w.heap.size <= w'.heap.size
 block:∀ k,k < w.heap.size -> k ≠ P -> k ≠ M -> w'.heap[k]? = w.heap[k]?
theorem K2.refl (P M:Nat)(w:World):K2 P M w w:=⟨rfl,rfl,rfl,ce _,fun _ _ _ _=>rfl⟩
theorem K2.trans {P M:Nat}{a b c:World}(h:K2 P M a b)(k:K2 P M b c):K2 P M a c :=
 ⟨k.os.trans h.os,k.tape.trans h.tape,k.output.trans h.output,Nat.le_trans h.size k.size,fun i hi e d=>(k.block i (cy hi h.size) e d).trans (h.block i hi e d)⟩
theorem K2.ofP {P M:Nat}{w a:World}(h:w.grownBy a (some P)):K2 P M w a:=⟨h.os,h.tape,h.output,h.size,fun k c b _=>h.block k c (by simp [b])⟩
theorem K2.ofM {P M:Nat}{w a:World}(h:w.grownBy a (some M)):K2 P M w a:=⟨h.os,h.tape,h.output,h.size,fun k c _ b=>h.block k c (by simp [b])⟩
theorem K2.ofB {P M:Nat}{w a:World}(h:Below w.heap.size w a):K2 P M w a:=⟨h.os,h.tape,h.output,h.size,fun k b _ _=>h.block k b⟩
theorem K2.below {P M B:Nat}{w a:World}(h:K2 P M w a)(c:B <= w.heap.size)(d:B <= P)(e:B <= M):Below B w a:=⟨h.os,h.tape,h.output,h.size,fun k b=>h.block k (by omega) (by omega) (by omega)⟩
theorem K2.grown {P M:Nat}{w a:World}(h:K2 P M w a)(d:w.heap.size <= M):w.grownBy a (some P):=⟨h.os,h.tape,h.output,h.size,fun k c b=>h.block k c (by simpa using b) (by omega)⟩
def rdK (zs:List Int):Nat -> Int -> Option (List Int × Int)
 | 0,a=>some ([],a)
 | n+1,a=>(rd1 zs a).bind fun p=>(rdK zs n p.2).map fun q=>(p.1 :: q.1,q.2)
theorem Zdq (zs:List Int):∀ (n:Nat) (a:Int),rdK zs (n+1) a=(rdK zs n a).bind fun q=>(rd1 zs q.2).map fun p=>(q.1 ++ [p.1],p.2)
 | 0,a=>by
  simp only [rdK,Option.bind_some];cases rd1 zs a <;> rfl
 | n+1,a=>by
  rw [rdK];cases h:rd1 zs a with
  | none=>simp [rdK,h]
  | some p =>
   simp only [Option.bind_some];rw [Zdq zs n p.2,rdK,h];simp only [Option.bind_some];cases rdK zs n p.2 with
   | none=>rfl
   | some q=>simp only [Option.bind_some,Option.map_some];cases rd1 zs q.2 <;> rfl
theorem ZeZ {zs:List Int}:∀ {n:Nat} {a:Int} {q:List Int × Int},rdK zs n a=some q -> q.1.length=n
 | 0,a,q,h=>by cases h;rfl
 | n+1,a,q,h=>by
  rw [rdK,Option.bind_eq_some_iff] at h;obtain ⟨p,_,b⟩:=h;rw [Option.map_eq_some_iff] at b;obtain ⟨t,d,c⟩:=b;cases c;simp [ZeZ d]
theorem Zhl {zs:List Int}{a:Int}:∀ {n m:Nat},n <= m -> rdK zs n a=none -> rdK zs m a=none
 | n,0,h,e=>by
  obtain rfl:n=0:=by omega
  exact e
 | n,m+1,h,e=>by
  rcases Nat.lt_or_ge n (m+1) with b | b
  ·rw [Zdq,Zhl (by omega) e];rfl
  ·obtain rfl:n=m+1:=by omega
   exact e
def tgt (M:Nat)(os:List Nat):Array Value:=(os.map fun o=>Value.pointer (some ⟨M,o,none⟩)).toArray
def setL (cs:Array Value)(os:List Nat)(vs:List Int):Array Value:=(os.zip vs).foldl (fun c p=>c.setIfInBounds p.1 (.int .i64 p.2)) cs
theorem ZjQ (cs:Array Value)(os:List Nat)(a:List Int)(x:Int)(o:Nat)(h:os[a.length]? = some o):setL cs (os.take (a.length+1)) (a ++ [x])=(setL cs (os.take a.length) a).setIfInBounds o (.int .i64 x):=by
 obtain ⟨b,c⟩:=List.getElem?_eq_some_iff.1 h;unfold setL;rw [List.take_succ_eq_append_getElem b,c,List.zip_append (by simp;omega),List.foldl_append];rfl
theorem Zkl (cs:Array Value)(os:List Nat)(a:List Int):(setL cs os a).size=cs.size:=by
 unfold setL;generalize os.zip a=l
 induction l generalizing cs with
 | nil=>rfl
 | cons p l ih=>rw [List.foldl_cons,ih];simp
theorem ZmG {zs:List Int}{a x n:Int}(h:gN zs a=(x,n,true)):rd1 zs a=some (x,n):=by unfold rd1;rw [h];rfl
theorem Zmt {zs:List Int}{a x n:Int}(h:gN zs a=(x,n,false)):rd1 zs a=none:=by unfold rd1;rw [h];rfl
theorem ZcT (v:Value)(zs:List Int)(s w:World)(P M L:Nat)(a:Int)(cs:Array Value)(t:TypeId)(os:List Nat)(R:Row s v zs)(hb:Below s.heap.size s w)(hP:s.heap.size <= P)(hM:s.heap.size <= M)(h1:One w P a)(hm:w.heap[M]? = some (.cells cs t (0,0)))(X:∀ o ∈ os,o < cs.size)(hL:w.heap[L]? = some (.cells (tgt M os) 229 (0,0)))(B:P ≠ M)(aa:L ≠ P)(ag:L ≠ M)(hn:os.length <= 10) :
  Calls prog 216 #[.agg #[v,.pointer (some ⟨P,0,none⟩)],.slice (some ⟨L,0,none⟩) os.length os.length] w fun e u=>K2 P M w u /\
   ((∃ q,rdK zs os.length a=some q/\e=.returned .nilIface/\One u P q.2/\u.heap[M]? = some (.cells (setL cs os q.1) t (0,0)))
    \/ (rdK zs os.length a=none/\(∃ p,e=.returned (badV p))/\(∃ q,One u P q)/\∃ d:List Int,d.length < os.length/\u.heap[M]? = some (.cells (setL cs (os.take d.length) d) t (0,0)))):=by
 have R':=R;obtain ⟨K,r,rfl,_⟩:=R';have ai:=h1.lt;have V:=(bl hm);have U:=(bl hL);have N:=hb.size
 go_enter func216,ntmps216
 go_wp2_with fail;have ae:K2 P M w (w.alloc (Obj.cells #[Value.slice K zs.length r,Value.pointer (some ⟨P,0,none⟩)] 231)):=K2.ofB ((cj _ _).alloc (ce _) _)
 go_loopw [12] (fun i wr=>∃ (k:Nat) (d:List Int) (c:Int),k <= os.length/\i=.int .i64 k/\Hid (rdK zs k a=some (d,c))/\One wr P c/\wr.heap[M]? = some (.cells (setL cs (os.take k) d) t (0,0)) /\
   wr.heap[w.heap.size]? = some (.cells #[Value.slice K zs.length r,Value.pointer (some ⟨P,0,none⟩)] 231 (0,0))/\K2 P M w wr) (fun i _=>os.length - (intOf i).toNat)
 case atStart =>
  refine ⟨0,[],a,by omega,rfl,rfl,h1.kept (cF w _ none) (by simp),?_,co _ _,ae⟩;exact (cz _ _ V).trans hm
 case round =>
  obtain ⟨k,d,c,hk,rfl,I,f,l,b,J⟩:=hrel;have z:d.length=k:=ZeZ I.out;have T:wr.cell? ⟨w.heap.size,0,none⟩=some (.slice K zs.length r):=cd wr _ 0 _ _ _ b;have Z:wr.cell? ⟨w.heap.size,1,none⟩=some (.pointer (some ⟨P,0,none⟩)):=cd wr _ 1 _ _ _ b;have hc:=f.cell
  by_cases Y:k < os.length
  ·obtain ⟨o,Q⟩:∃ o,os[k]? = some o:=⟨os[k],by simp [Y]⟩
   have F:=X o (List.mem_of_getElem? Q);have ab:=(J.block L U aa ag).trans hL
   have W:wr.cell? ⟨L,k,none⟩=some (.pointer (some ⟨M,o,none⟩)):=by
    rw [cd wr _ k _ _ _ ab];simp [tgt,Q]
   have G:Below s.heap.size s wr:=hb.trans (J.below N hP hM);obtain ⟨g,hg⟩:∃ g,Hid (gN zs c=g):=⟨_,rfl⟩;obtain ⟨x,gn,gk⟩:=g
   have HN:Calls prog 164 #[.agg #[.slice K zs.length r,.pointer (some ⟨P,0,none⟩)]] wr fun e u =>
     e=.returned (.tuple #[.int .i64 x,.bool gk])/\(∃ q,One u P q/\(gk=true -> q=gn))/\wr.grownBy u (some P):=by
    have:=Zdy _ zs P c s wr R G hP f;rw [hg.out] at this;exact this
   go_wp2_with fail;refine HN.mono ?_;rintro e j ⟨rfl,⟨q,h,hq⟩,A⟩;have O:=(bl l);have m:=(A.block M O (by simpa using fun e=>B e.symm)).trans l;have y:=(A.block _ (bl b) (by simp;omega)).trans b;have H:=J.trans (K2.ofP A);clear T Z hc W HN;cases gk with
   | false =>
    have HE:Hid (rdK zs os.length a=none):=Zhl (n:=k+1) (by omega) (by rw [Zdq,I.out];simp only [Option.bind_some];rw [Zmt hg.out];rfl);go_wp2;go_ret;exact ⟨H,Or.inr ⟨HE.out,⟨_,rfl⟩,⟨_,h⟩,d,by omega,by rw [z];exact m⟩⟩
   | true =>
    obtain rfl:=hq rfl;have af:j.cell? ⟨M,o,none⟩=some ((setL cs (os.take k) d)[o]'(by rw [Zkl];exact F)):=by rw [cd j _ o _ _ _ m,Array.getElem?_eq_getElem]
    have ah:j.frozen? ⟨M,o,none⟩=false:=cw j _ o _ _ m;have ac:Hid (rdK zs (k+1) a=some (d ++ [x],q)):=by unfold Hid;rw [Zdq,I.out];simp only [Option.bind_some];rw [ZmG hg.out];rfl
    have C:=cu j M o _ _ (.int .i64 x) m;have S:K2 P M j (j.setCell ⟨M,o,none⟩ (.int .i64 x)):=K2.ofM (Zan j M o _);have D:One (j.setCell ⟨M,o,none⟩ (.int .i64 x)) P q:=(cr j ⟨M,o,none⟩ P _ (by simpa using B)).trans h;have E:=(cr j ⟨M,o,none⟩ w.heap.size (.int .i64 x) (by simp;omega)).trans y;go_wp2
    go_roundw
    case rel =>
     refine ⟨k+1,d ++ [x],q,by omega,by go_num,ac,D,?_,E,H.trans S⟩;rw [C,<- z,ZjQ _ _ _ _ o (by rw [z];exact Q)]
    case measure=>simp [intOf];omega
  ·have ad:k=os.length:=by omega
   subst ad;rw [List.take_length] at l;go_wp2;go_ret;exact ⟨J,Or.inl ⟨_,I.out,rfl,f,l⟩⟩
def ndA (x:Nd):Array Value:=#[.int .i64 x.k,.int .i64 x.n,.string x.s,.int .i64 x.a,.int .i64 x.b]
def nd0 (k:Int):Nd:=⟨k,0,ByteArray.empty,0,0⟩
def Gets (f:Nat)(k:Int):Prop:=∀ (v:Value) (zs:List Int) (W0 w:World) (P nb:Nat) (a:Int),Row W0 v zs -> Below W0.heap.size W0 w -> W0.heap.size <= P -> W0.heap.size <= nb -> P ≠ nb -> One w P a -> w.heap[nb]? = some (.cells (ndA (nd0 k)) 194 (0,0)) ->
 Calls prog f #[.agg #[v,.pointer (some ⟨P,0,none⟩)],.pointer (some ⟨nb,0,none⟩)] w fun e w'=>K2 P nb w w' /\
  ((∃ x b,rdB zs k a=some (x,b)/\e=.returned .nilIface/\One w' P b/\w'.heap[nb]? = some (.cells (ndA x) 194 (0,0)))
   \/ (rdB zs k a=none/\(∃ p,e=.returned (badV p))/\(∃ q,One w' P q)/\∃ x,x.k=k/\w'.heap[nb]? = some (.cells (ndA x) 194 (0,0))))
theorem Zmu {zs:List Int}{k a b:Int}{x:Nd}(h:rdB zs k a=some (x,b)):x.k=k:=by
 unfold rdB at h
 repeat' split at h
 all_goals first
  | (cases h;done)
  | (cases h;first | rfl | (symm;assumption))
  | (rw [Option.map_eq_some_iff] at h;obtain ⟨_,_,h⟩:=h;cases h;first | rfl | (symm;assumption))
  | (rw [Option.bind_eq_some_iff] at h;obtain ⟨_,_,h⟩:=h;rw [Option.map_eq_some_iff] at h;obtain ⟨_,_,h⟩:=h;cases h;first | rfl | (symm;assumption))
theorem Zd9:Gets 229 1:=by
 intro v zs i w P nb a R h j k f d e;obtain ⟨g,c,rfl,_⟩:=R
 go_enter func229,ntmps229
 go_wp2;go_ret;have b:Below w.heap.size w (w.alloc (Obj.cells #[Value.slice g zs.length c,Value.pointer (some ⟨P,0,none⟩)] 231)):=(cj _ _).alloc (ce _) _;exact ⟨K2.ofB b,Or.inl ⟨nd0 1,a,rfl,rfl,d.below b d.lt,(bb e b)⟩⟩
theorem ZcY (v:Value)(zs:List Int)(f w:World)(P nb:Nat)(a:Int)(cs:Array Value)(c:Obj)(os:List Nat)(R:Row f v zs)(E:Below f.heap.size f w)(G:f.heap.size <= P)(H:f.heap.size <= nb)(k:P ≠ nb)(C:One w P a)(A:w.heap[nb]? = some (.cells cs 194 (0,0)))(m:∀ o ∈ os,o < cs.size)(I:os.length <= 10) :
  Calls prog 216 #[.agg #[v,.pointer (some ⟨P,0,none⟩)],.slice (some ⟨w.heap.size+1,0,none⟩) os.length os.length] ((w.alloc c).alloc (Obj.cells (tgt nb os) 229)).drew fun e d=>∃ r,e=.returned r/\K2 P nb w d/\d.heap[w.heap.size]? = some c /\
   ((∃ q,rdK zs os.length a=some q/\r=.nilIface/\One d P q.2/\d.heap[nb]? = some (.cells (setL cs os q.1) 194 (0,0)))
    \/ (rdK zs os.length a=none/\(∃ p,r=badV p)/\(∃ q,One d P q)/\∃ u:List Int,u.length < os.length/\d.heap[nb]? = some (.cells (setL cs (os.take u.length) u) 194 (0,0)))):=by
 have t:=C.lt;have z:=(bl A);have i:Below w.heap.size w (w.alloc c):=(cj _ _).alloc (ce _) _;have b:Below w.heap.size w ((w.alloc c).alloc (Obj.cells (tgt nb os) 229)).drew:=(i.alloc i.size _).drew;have B:(w.alloc c).heap.size=w.heap.size+1:=by simp
 have F:((w.alloc c).alloc (Obj.cells (tgt nb os) 229)).drew.heap[w.heap.size+1]? = some (.cells (tgt nb os) 229 (0,0)):=by rw [<- B];exact co _ _
 have D:((w.alloc c).alloc (Obj.cells (tgt nb os) 229)).drew.heap[w.heap.size]? = some c:=(cz (w.alloc c) _ (by rw [B];omega)).trans (co w c);have j:=E.size;refine (ZcT v zs f _ P nb (w.heap.size+1) a cs 194 os R (E.trans (b.mono j)) G H (C.below b t) ((b.block _ z).trans A) m F k (by omega) (by omega) I).mono ?_;rintro e d ⟨x,h⟩;have s:w.heap.size < ((w.alloc c).alloc (Obj.cells (tgt nb os) 229)).drew.heap.size:=(bl D);have g:=(x.block _ s (by omega) (by omega)).trans D;rcases h with ⟨q,l,rfl,n,y⟩ | ⟨l,⟨p,rfl⟩,n,y⟩
 ·exact ⟨_,rfl,(K2.ofB b).trans x,g,Or.inl ⟨q,l,rfl,n,y⟩⟩
 ·exact ⟨_,rfl,(K2.ofB b).trans x,g,Or.inr ⟨l,⟨p,rfl⟩,n,y⟩⟩
theorem Zce (zs:List Int)(a:Int):rdK zs 1 a=(rd1 zs a).map fun p=>([p.1],p.2):=by
 simp only [rdK];cases rd1 zs a <;> rfl
theorem Zl5 (zs:List Int)(a:Int):rdK zs 2 a=(rd1 zs a).bind fun p=>(rd1 zs p.2).map fun q=>([p.1,q.1],q.2):=by
 rw [rdK];cases rd1 zs a with
 | none=>rfl
 | some p=>simp only [Option.bind_some];rw [Zce];cases rd1 zs p.2 <;> rfl
theorem ZjL {zs:List Int}{k a:Int}{o:Nat}{f:Int -> Nd}(m:∀ x,setL (ndA (nd0 k)) [o] [x]=ndA (f x))(l:rdB zs k a=(rd1 zs a).map fun p=>(f p.1,p.2)){P nb:Nat}{c:World}{r:Value}(h:(∃ q,rdK zs 1 a=some q/\r=.nilIface/\One c P q.2/\c.heap[nb]? = some (.cells (setL (ndA (nd0 k)) [o] q.1) 194 (0,0)))
    \/ (rdK zs 1 a=none/\(∃ p,r=badV p)/\(∃ q,One c P q)/\∃ e:List Int,e.length < 1/\c.heap[nb]? = some (.cells (setL (ndA (nd0 k)) ([o].take e.length) e) 194 (0,0)))) :
  (∃ x b,rdB zs k a=some (x,b)/\r=.nilIface/\One c P b/\c.heap[nb]? = some (.cells (ndA x) 194 (0,0)))
   \/ (rdB zs k a=none/\(∃ p,r=badV p)/\(∃ q,One c P q)/\c.heap[nb]? = some (.cells (ndA (nd0 k)) 194 (0,0))):=by
 rw [Zce] at h;rw [l];cases j:rd1 zs a with
 | some p =>
  rw [j] at h;rcases h with ⟨q,d,rfl,i,g⟩ | ⟨d,-⟩
  ·cases d
   rw [m] at g;exact Or.inl ⟨_,_,rfl,rfl,i,g⟩
  ·cases d
 | none =>
  rw [j] at h;rcases h with ⟨q,d,-⟩ | ⟨-,⟨p,rfl⟩,i,e,n,g⟩
  ·cases d
  ·obtain rfl:e=[]:=List.eq_nil_of_length_eq_zero (by omega)
   exact Or.inr ⟨rfl,⟨p,rfl⟩,i,g⟩
theorem ZjF {zs:List Int}{k a:Int}{o m:Nat}{f:Int -> Int -> Nd}{g:Int -> Nd}(D:∀ x y,setL (ndA (nd0 k)) [o,m] [x,y]=ndA (f x y))(z:∀ x,setL (ndA (nd0 k)) [o] [x]=ndA (g x))(w:∀ x,(g x).k=k)(A:rdB zs k a=(rd1 zs a).bind fun p=>(rd1 zs p.2).map fun q=>(f p.1 q.1,q.2)){P nb:Nat}{d:World}{r:Value}(h:(∃ q,rdK zs 2 a=some q/\r=.nilIface/\One d P q.2/\d.heap[nb]? = some (.cells (setL (ndA (nd0 k)) [o,m] q.1) 194 (0,0)))
    \/ (rdK zs 2 a=none/\(∃ p,r=badV p)/\(∃ q,One d P q)/\∃ c:List Int,c.length < 2/\d.heap[nb]? = some (.cells (setL (ndA (nd0 k)) ([o,m].take c.length) c) 194 (0,0)))) :
  (∃ x b,rdB zs k a=some (x,b)/\r=.nilIface/\One d P b/\d.heap[nb]? = some (.cells (ndA x) 194 (0,0)))
   \/ (rdB zs k a=none/\(∃ p,r=badV p)/\(∃ q,One d P q)/\∃ x,x.k=k/\d.heap[nb]? = some (.cells (ndA x) 194 (0,0))):=by
 rw [Zl5] at h;rw [A]
 have j:∀ c:List Int,c.length < 2 -> d.heap[nb]? = some (.cells (setL (ndA (nd0 k)) ([o,m].take c.length) c) 194 (0,0)) -> ∃ x,x.k=k/\d.heap[nb]? = some (.cells (ndA x) 194 (0,0)):=by
  intro c n i
  match c,n with
  | [],_=>exact ⟨nd0 k,rfl,i⟩
  | [y],_=>exact ⟨g y,w y,by rw [<- z];exact i⟩
 rcases h with ⟨q,e,rfl,v,i⟩ | ⟨e,⟨p,rfl⟩,v,c,n,i⟩
 ·rw [Option.bind_eq_some_iff] at e
  obtain ⟨p,e,l⟩:=e;rw [Option.map_eq_some_iff] at l;obtain ⟨t,l,B⟩:=l;cases B;rw [D] at i;refine Or.inl ⟨_,_,?_,rfl,v,i⟩;rw [e];simp only [Option.bind_some];rw [l];rfl
 ·refine Or.inr ⟨?_,⟨p,rfl⟩,v,j c n i⟩
  cases C:rd1 zs a with
  | none=>rfl
  | some t =>
   rw [C] at e;simp only [Option.bind_some] at e ⊢;cases s:rd1 zs t.2 with
   | none=>rfl
   | some u=>rw [s] at e;cases e
theorem ZkE (v:Value)(zs:List Int)(d w:World)(P nb:Nat)(a:Int)(k:Int)(R:Row d v zs)(t:Below d.heap.size d w)(z:d.heap.size <= P)(A:d.heap.size <= nb)(i:P ≠ nb)(y:One w P a)(n:w.heap[nb]? = some (.cells (ndA (nd0 k)) 194 (0,0))) :
  Calls prog 231 #[.agg #[v,.pointer (some ⟨P,0,none⟩)],.pointer (some ⟨nb,0,none⟩)] w fun e b=>∃ r,e=.returned r/\K2 P nb w b /\
   ((∃ q,rdK zs 1 a=some q/\r=.nilIface/\One b P q.2/\b.heap[nb]? = some (.cells (setL (ndA (nd0 k)) [1] q.1) 194 (0,0)))
    \/ (rdK zs 1 a=none/\(∃ p,r=badV p)/\(∃ q,One b P q)/\∃ j:List Int,j.length < 1/\b.heap[nb]? = some (.cells (setL (ndA (nd0 k)) ([1].take j.length) j) 194 (0,0)))):=by
 obtain ⟨h,c,rfl,_⟩:=id R;have l:=ZcY _ zs d w P nb a (ndA (nd0 k)) (Obj.cells #[Value.slice h zs.length c,Value.pointer (some ⟨P,0,none⟩)] 231) [1] R t z A i y n (by intro o u;simp at u;simp [ndA];omega) (by simp)
 go_enter func231,ntmps231
 go_wp2_with fail
 go_region_held (fun b=>b.cell? ⟨w.heap.size,0,none⟩=some (.slice h zs.length c)/\b.cell? ⟨w.heap.size,1,none⟩=some (.pointer (some ⟨P,0,none⟩))) (first | exact m | go_keep) (first
  | (go_at_call 216;refine l.mono ?_;rintro e g ⟨r,rfl,s,f,x⟩;have m:g.cell? ⟨w.heap.size,0,none⟩=some (.slice h zs.length c)/\g.cell? ⟨w.heap.size,1,none⟩=some (.pointer (some ⟨P,0,none⟩)):=⟨cd g _ 0 _ _ _ f,cd g _ 1 _ _ _ f⟩))
 all_goals
  clear l m;go_wp2;go_ret;exact ⟨r,rfl,s,x⟩
theorem ZlF (v:Value)(zs:List Int)(d w:World)(P nb:Nat)(a:Int)(k:Int)(R:Row d v zs)(t:Below d.heap.size d w)(z:d.heap.size <= P)(A:d.heap.size <= nb)(i:P ≠ nb)(y:One w P a)(n:w.heap[nb]? = some (.cells (ndA (nd0 k)) 194 (0,0))) :
  Calls prog 241 #[.agg #[v,.pointer (some ⟨P,0,none⟩)],.pointer (some ⟨nb,0,none⟩)] w fun e b=>∃ r,e=.returned r/\K2 P nb w b /\
   ((∃ q,rdK zs 1 a=some q/\r=.nilIface/\One b P q.2/\b.heap[nb]? = some (.cells (setL (ndA (nd0 k)) [3] q.1) 194 (0,0)))
    \/ (rdK zs 1 a=none/\(∃ p,r=badV p)/\(∃ q,One b P q)/\∃ j:List Int,j.length < 1/\b.heap[nb]? = some (.cells (setL (ndA (nd0 k)) ([3].take j.length) j) 194 (0,0)))):=by
 obtain ⟨h,c,rfl,_⟩:=id R;have l:=ZcY _ zs d w P nb a (ndA (nd0 k)) (Obj.cells #[Value.slice h zs.length c,Value.pointer (some ⟨P,0,none⟩)] 231) [3] R t z A i y n (by intro o u;simp at u;simp [ndA];omega) (by simp)
 go_enter func241,ntmps241
 go_wp2_with fail
 go_region_held (fun b=>b.cell? ⟨w.heap.size,0,none⟩=some (.slice h zs.length c)/\b.cell? ⟨w.heap.size,1,none⟩=some (.pointer (some ⟨P,0,none⟩))) (first | exact m | go_keep) (first
  | (go_at_call 216;refine l.mono ?_;rintro e g ⟨r,rfl,s,f,x⟩;have m:g.cell? ⟨w.heap.size,0,none⟩=some (.slice h zs.length c)/\g.cell? ⟨w.heap.size,1,none⟩=some (.pointer (some ⟨P,0,none⟩)):=⟨cd g _ 0 _ _ _ f,cd g _ 1 _ _ _ f⟩))
 all_goals
  clear l m;go_wp2;go_ret;exact ⟨r,rfl,s,x⟩
theorem Zfu (v:Value)(zs:List Int)(d w:World)(P nb:Nat)(a:Int)(k:Int)(R:Row d v zs)(t:Below d.heap.size d w)(z:d.heap.size <= P)(A:d.heap.size <= nb)(i:P ≠ nb)(y:One w P a)(n:w.heap[nb]? = some (.cells (ndA (nd0 k)) 194 (0,0))) :
  Calls prog 237 #[.agg #[v,.pointer (some ⟨P,0,none⟩)],.pointer (some ⟨nb,0,none⟩)] w fun e b=>∃ r,e=.returned r/\K2 P nb w b /\
   ((∃ q,rdK zs 2 a=some q/\r=.nilIface/\One b P q.2/\b.heap[nb]? = some (.cells (setL (ndA (nd0 k)) [3,4] q.1) 194 (0,0)))
    \/ (rdK zs 2 a=none/\(∃ p,r=badV p)/\(∃ q,One b P q)/\∃ j:List Int,j.length < 2/\b.heap[nb]? = some (.cells (setL (ndA (nd0 k)) ([3,4].take j.length) j) 194 (0,0)))):=by
 obtain ⟨h,c,rfl,_⟩:=id R;have l:=ZcY _ zs d w P nb a (ndA (nd0 k)) (Obj.cells #[Value.slice h zs.length c,Value.pointer (some ⟨P,0,none⟩)] 231) [3,4] R t z A i y n (by intro o u;simp at u;simp [ndA];omega) (by simp)
 go_enter func237,ntmps237
 go_wp2_with fail
 go_region_held (fun b=>b.cell? ⟨w.heap.size,0,none⟩=some (.slice h zs.length c)/\b.cell? ⟨w.heap.size,1,none⟩=some (.pointer (some ⟨P,0,none⟩))) (first | exact m | go_keep) (first
  | (go_at_call 216;refine l.mono ?_;rintro e g ⟨r,rfl,s,f,x⟩;have m:g.cell? ⟨w.heap.size,0,none⟩=some (.slice h zs.length c)/\g.cell? ⟨w.heap.size,1,none⟩=some (.pointer (some ⟨P,0,none⟩)):=⟨cd g _ 0 _ _ _ f,cd g _ 1 _ _ _ f⟩))
 all_goals
  clear l m;go_wp2;go_ret;exact ⟨r,rfl,s,x⟩
theorem Zio (v:Value)(zs:List Int)(d w:World)(P nb:Nat)(a:Int)(k:Int)(R:Row d v zs)(t:Below d.heap.size d w)(z:d.heap.size <= P)(A:d.heap.size <= nb)(i:P ≠ nb)(y:One w P a)(n:w.heap[nb]? = some (.cells (ndA (nd0 k)) 194 (0,0))) :
  Calls prog 239 #[.agg #[v,.pointer (some ⟨P,0,none⟩)],.pointer (some ⟨nb,0,none⟩)] w fun e b=>∃ r,e=.returned r/\K2 P nb w b /\
   ((∃ q,rdK zs 2 a=some q/\r=.nilIface/\One b P q.2/\b.heap[nb]? = some (.cells (setL (ndA (nd0 k)) [1,3] q.1) 194 (0,0)))
    \/ (rdK zs 2 a=none/\(∃ p,r=badV p)/\(∃ q,One b P q)/\∃ j:List Int,j.length < 2/\b.heap[nb]? = some (.cells (setL (ndA (nd0 k)) ([1,3].take j.length) j) 194 (0,0)))):=by
 obtain ⟨h,c,rfl,_⟩:=id R;have l:=ZcY _ zs d w P nb a (ndA (nd0 k)) (Obj.cells #[Value.slice h zs.length c,Value.pointer (some ⟨P,0,none⟩)] 231) [1,3] R t z A i y n (by intro o u;simp at u;simp [ndA];omega) (by simp)
 go_enter func239,ntmps239
 go_wp2_with fail
 go_region_held (fun b=>b.cell? ⟨w.heap.size,0,none⟩=some (.slice h zs.length c)/\b.cell? ⟨w.heap.size,1,none⟩=some (.pointer (some ⟨P,0,none⟩))) (first | exact m | go_keep) (first
  | (go_at_call 216;refine l.mono ?_;rintro e g ⟨r,rfl,s,f,x⟩;have m:g.cell? ⟨w.heap.size,0,none⟩=some (.slice h zs.length c)/\g.cell? ⟨w.heap.size,1,none⟩=some (.pointer (some ⟨P,0,none⟩)):=⟨cd g _ 0 _ _ _ f,cd g _ 1 _ _ _ f⟩))
 all_goals
  clear l m;go_wp2;go_ret;exact ⟨r,rfl,s,x⟩
theorem ZeW (k:Int)(o:k=2 \/ k=8 \/ k=9):Gets 231 k:=by
 intro v zs n w P nb a R m u s c t j;refine (ZkE v zs n w P nb a k R m u s c t j).mono ?_;rintro e y ⟨r,rfl,l,h⟩;have q:=ZjL (f:=fun x=>⟨k,x,ByteArray.empty,0,0⟩) (fun x=>rfl) (by unfold rdB;rw [if_neg (by omega),if_pos o]) h;refine ⟨l,?_⟩;rcases q with ⟨x,b,d,rfl,i,g⟩ | ⟨d,⟨p,rfl⟩,i,g⟩
 ·exact Or.inl ⟨x,b,d,rfl,i,g⟩
 ·exact Or.inr ⟨d,⟨p,rfl⟩,i,_,rfl,g⟩
theorem Zk7:Gets 241 7:=by
 intro v zs m w P nb a R l s o c q j;refine (ZlF v zs m w P nb a 7 R l s o c q j).mono ?_;rintro e t ⟨r,rfl,k,h⟩;have n:=ZjL (f:=fun x=>⟨7,0,ByteArray.empty,x,0⟩) (fun x=>rfl) (by rfl) h;refine ⟨k,?_⟩;rcases n with ⟨x,b,d,rfl,i,g⟩ | ⟨d,⟨p,rfl⟩,i,g⟩
 ·exact Or.inl ⟨x,b,d,rfl,i,g⟩
 ·exact Or.inr ⟨d,⟨p,rfl⟩,i,_,rfl,g⟩
theorem Zga:Gets 237 5:=by
 intro v zs n w P nb a R m t q c s k;refine (Zfu v zs n w P nb a 5 R m t q c s k).mono ?_;rintro e u ⟨r,rfl,l,h⟩;have o:=ZjF (f:=fun x y=>⟨5,0,ByteArray.empty,x,y⟩) (g:=fun x=>⟨5,0,ByteArray.empty,x,0⟩) (fun x y=>rfl) (fun x=>rfl) (fun x=>rfl) (by rfl) h;refine ⟨l,?_⟩;rcases o with ⟨x,b,d,rfl,j,i⟩ | ⟨d,⟨p,rfl⟩,j,i⟩
 ·exact Or.inl ⟨x,b,d,rfl,j,i⟩
 ·exact Or.inr ⟨d,⟨p,rfl⟩,j,i⟩
theorem ZhX:Gets 239 6:=by
 intro v zs n w P nb a R m t q c s k;refine (Zio v zs n w P nb a 6 R m t q c s k).mono ?_;rintro e u ⟨r,rfl,l,h⟩;have o:=ZjF (f:=fun x y=>⟨6,x,ByteArray.empty,y,0⟩) (g:=fun x=>⟨6,x,ByteArray.empty,0,0⟩) (fun x y=>rfl) (fun x=>rfl) (fun x=>rfl) (by rfl) h;refine ⟨l,?_⟩;rcases o with ⟨x,b,d,rfl,j,i⟩ | ⟨d,⟨p,rfl⟩,j,i⟩
 ·exact Or.inl ⟨x,b,d,rfl,j,i⟩
 ·exact Or.inr ⟨d,⟨p,rfl⟩,j,i⟩
theorem Ziz:Gets 233 3:=by
 intro v zs I w P nb a R N E K j L F;obtain ⟨t,h,rfl,_⟩:=id R;have x:=ZcY _ zs I w P nb a (ndA (nd0 3)) (Obj.cells #[Value.slice t zs.length h,Value.pointer (some ⟨P,0,none⟩)] 231) [1] R N E K j L F (by intro o C;simp at C;simp [ndA];omega) (by simp)
 go_enter func233,ntmps233
 go_wp2_with fail
 go_region_held (fun B=>B.cell? ⟨w.heap.size,0,none⟩=some (.slice t zs.length h)/\B.cell? ⟨w.heap.size,1,none⟩=some (.pointer (some ⟨P,0,none⟩))) (first | exact y | go_keep) (first
  | (go_at_call 216;refine x.mono ?_;rintro e c ⟨r,rfl,M,g,u⟩;have y:c.cell? ⟨w.heap.size,0,none⟩=some (.slice t zs.length h)/\c.cell? ⟨w.heap.size,1,none⟩=some (.pointer (some ⟨P,0,none⟩)):=⟨cd c _ 0 _ _ _ g,cd c _ 1 _ _ _ g⟩))
 all_goals
  have D:∃ z b,0 <= z/\z <= 9223372036854775807/\c.heap[nb]? = some (.cells (ndA ⟨3,z,ByteArray.empty,0,0⟩) 194 (0,0))/\One c P b/\Hid ((rd1 zs a=some (z,b)/\r=.nilIface) \/ (rd1 zs a=none/\∃ p,r=badV p)):=by
   rcases u with ⟨q,d,m,l,i⟩ | ⟨d,m,⟨q,l⟩,A,H,i⟩
   ·rw [show [1].length=1 from rfl,Zce,Option.map_eq_some_iff] at d
    obtain ⟨p,d,rfl⟩:=d;obtain ⟨J,G,_⟩:=Zbc d;exact ⟨p.1,p.2,J,G,i,l,Or.inl ⟨d,m⟩⟩
   ·rw [show [1].length=1 from rfl,Zce,Option.map_eq_none_iff] at d
    obtain rfl:A=[]:=List.eq_nil_of_length_eq_zero (by have:A.length < 1:=H;omega);exact ⟨0,q,by omega,by omega,i,l,Or.inr ⟨d,m⟩⟩
  obtain ⟨z,b,S,Q,i,l,O⟩:=D;clear x y g u;have c1:c.cell? ⟨nb,1,none⟩=some (.int .i64 z):=cd c _ 1 _ _ _ i;have T:c.frozen? ⟨nb,1,none⟩=false:=cw c _ 1 _ _ i;have f:(c.setCell ⟨nb,1,none⟩ (.int .i64 (z - 1000000000))).heap[nb]? = some (.cells (ndA ⟨3,z - 1000000000,ByteArray.empty,0,0⟩) 194 (0,0)):=cu c nb 1 _ _ (.int .i64 (z - 1000000000)) i;have s:=M.trans (K2.ofM (Zan c nb 1 (.int .i64 (z - 1000000000))));have k:One (c.setCell ⟨nb,1,none⟩ (.int .i64 (z - 1000000000))) P b:=(cr c ⟨nb,1,none⟩ P _ (by simpa using j)).trans l;go_wp2;go_ret;refine ⟨s,?_⟩;rcases O.out with ⟨n,rfl⟩ | ⟨n,p,rfl⟩
  ·exact Or.inl ⟨_,b,by unfold rdB;rw [if_neg (by omega),if_neg (by omega),if_pos rfl,n];rfl,rfl,k,f⟩
  ·exact Or.inr ⟨by unfold rdB;rw [if_neg (by omega),if_neg (by omega),if_pos rfl,n];rfl,⟨p,rfl⟩,⟨_,k⟩,_,rfl,f⟩
theorem ZgR:Gets 235 4:=by
 intro v zs E w P nb a R B C H i z x;obtain ⟨o,d,rfl,_⟩:=id R;have l:Below w.heap.size w (w.alloc (Obj.cells #[Value.slice o zs.length d,Value.pointer (some ⟨P,0,none⟩)] 231)):=(cj _ _).alloc (ce _) _;have h:=z.below l z.lt;have G:=h.cell;obtain ⟨g,s⟩:∃ g,Hid (gT zs a=g):=⟨_,rfl⟩;obtain ⟨f,F,t⟩:=g
 have y:Calls prog 165 #[.agg #[.slice o zs.length d,.pointer (some ⟨P,0,none⟩)]] (w.alloc (Obj.cells #[Value.slice o zs.length d,Value.pointer (some ⟨P,0,none⟩)] 231)) fun e A =>
   e=.returned (.tuple #[.string f,.bool t])/\(∃ q,One A P q/\(t=true -> q=F))/\(w.alloc (Obj.cells #[Value.slice o zs.length d,Value.pointer (some ⟨P,0,none⟩)] 231)).grownBy A (some P):=by
  have:=Zdn _ zs P a E _ R (B.trans (l.mono B.size)) C h;rw [s.out] at this;exact this
 go_enter func235,ntmps235
 go_wp2_with fail;refine y.mono ?_;rintro e b ⟨rfl,⟨q,u,D⟩,k⟩;have n:=(bl x);have c:=(k.block nb (cy n l.size) (by simpa using fun e=>i e.symm)).trans ((l.block nb n).trans x);have m:K2 P nb w b:=(K2.ofB l).trans (K2.ofP k);clear y G;cases t with
 | false =>
  go_wp2;go_ret;exact ⟨m,Or.inr ⟨by unfold rdB;rw [if_neg (by omega),if_neg (by omega),if_neg (by omega),if_pos rfl,s.out];rfl,⟨_,rfl⟩,⟨_,u⟩,_,rfl,c⟩⟩
 | true =>
  obtain rfl:=D rfl;have c2:b.cell? ⟨nb,2,none⟩=some (.string ByteArray.empty):=cd b _ 2 _ _ _ c;have I:b.frozen? ⟨nb,2,none⟩=false:=cw b _ 2 _ _ c;have j:(b.setCell ⟨nb,2,none⟩ (.string f)).heap[nb]? = some (.cells (ndA ⟨4,0,f,0,0⟩) 194 (0,0)):=cu b nb 2 _ _ (.string f) c;have r:=m.trans (K2.ofM (Zan b nb 2 (.string f)));have p:One (b.setCell ⟨nb,2,none⟩ (.string f)) P q:=(cr b ⟨nb,2,none⟩ P _ (by simpa using i)).trans u;go_wp2;go_ret;exact ⟨r,Or.inl ⟨_,q,by unfold rdB;rw [if_neg (by omega),if_neg (by omega),if_neg (by omega),if_pos rfl,s.out];rfl,rfl,p,j⟩⟩
theorem Zkf {w:World}{base:Nat}{a:Addr}{n c:Nat}{zs:List Value}(h:w.ownsRow base 5 1 (.slice (some a) n c) n zs)(b:0 < n):∃ g,a=⟨g,0,none⟩:=by
 obtain ⟨g,d,e,_⟩:=h.form b;simp only [Value.slice.injEq,Option.some.injEq] at e;exact ⟨g,e.1⟩
theorem ZdU {w:World}{base:Nat}{b:Option Addr}{n c:Nat}{zs:List Value}(h:w.ownsRow base 5 1 (.slice b n c) n zs):b=none -> n=0/\c=0:=by
 intro e;subst e;rcases h.2 with ⟨a,f⟩ | ⟨g,d,cur,a,_⟩
 ·simp only [Value.slice.injEq,true_and] at a;exact a
 ·simp at a
theorem ZdQ {w:World}{base:Nat}{f:Option Addr}{n c:Nat}{zs:List Value}(h:w.ownsRow base 5 1 (.slice f n c) n zs)(l:zs.length=n):∀ b,f=some b -> ∀ (j:Nat) u,zs[j]? = some u -> w.cell? (b.add j)=some u:=by
 intro b e j u d;subst e;have k:=(List.getElem?_eq_some_iff.1 d).1;have i:=Zkf h (by omega);obtain ⟨g,rfl⟩:=i;have:=h.cellAt j (by omega);have a:(⟨g,0,none⟩:Addr).add j=⟨g,j,none⟩:=by unfold Addr.add;split <;> simp_all
 rw [a,this];exact d
theorem Zhu {w:World}{base:Nat}{b:Option Addr}{c:Nat}{zs:List Int}(h:w.ownsRow base 5 1 (.slice b zs.length c) zs.length (bv zs)):zs.length ≠ 0 -> ∃ g a,b=some ⟨g,a,none⟩/\∀ i,i < zs.length -> w.cell? ⟨g,a+i,none⟩=some (.int .u8 (zs.getD i 0)):=by
 intro f;obtain ⟨g,d,e,_⟩:=h.form (by omega);simp only [Value.slice.injEq] at e;obtain ⟨rfl,_,_⟩:=e;refine ⟨g,0,rfl,fun i hi=>?_⟩;have:=h.cellAt i (by omega);rw [Nat.zero_add,this,ZhC zs i hi]
def Zni (zs:List Int)(j:Nat):List Int:=zs.take j ++ List.replicate (zs.length - j) 0
theorem Zlg (x:Int)(w:World)(b:x < 0) :
  Calls prog 176 #[.int .i64 x] w fun e a=>∃ v,e=.returned v/\a.ownsRow w.heap.size 5 1 v 0 (bv [])/\Below w.heap.size w a:=by
 go_enter func176,ntmps176
 go_wp2;go_ret;exact ⟨_,rfl,World.ownsRow_made _ _ 0 (ce _) (by simp) (by simp),(cj _ _).alloc (ce _) _⟩
theorem Zk0 (x:Int)(w:World)(H:0 <= x)(D:x <= 9223372036854775807) :
  Calls prog 176 #[.int .i64 x] w fun e B=>∃ v,e=.returned v/\B.ownsRow w.heap.size 5 1 v (enc 9 x).length (bv (enc 9 x))/\Below w.heap.size w B:=by
 obtain ⟨s,hi,j,m,i⟩:=info_parts ZnS
 go_enter func176,ntmps176
 go_wp2
 go_loopw [0,3] (fun y v wr=>∃ (f:Nat) (q:Int) (a:List Int),y=.int .i64 q/\0 <= q/\q <= 9223372036854775807/\a.length+f=8/\Hid (q < lim (f+1))/\Hid (a ++ enc (f+1) q=enc 9 x)/\wr.ownsRow w.heap.size 5 1 v a.length (bv a)/\Below w.heap.size w wr) (fun y _ _=>(intOf y).toNat)
 case atStart =>
  exact ⟨8,x,[],rfl,H,D,rfl,by unfold Hid;rw [Zfg];omega,rfl,World.ownsRow_made _ _ 0 (ce _) (by simp) (by simp),(cj _ _).alloc (ce _) _⟩
 case round =>
  obtain ⟨f,q,a,rfl,C,G,p,F,z,d,g⟩:=hrel;have h:=g.size
  by_cases o:q < 128
  ·go_wp2_with (at_builtin;refine wpList_append_own _ rfl _ _ 186 rfl w.heap.size 5 s (.int .u8 0) 1 1 underlying186 hi j m i rfl (by decide) _ _ _ rfl (d.alloc _) ⟨wr.heap.size,0,none⟩ 1 1 [.int .u8 q] rfl rfl (cell_one_new _ _ _) (fun u l=>by simp at l;subst l;rfl) (by unfold maxLen;omega) (by omega) (by simp;omega) ?_)
   intro A I b c _;go_wp2;go_ret;refine ⟨A,rfl,?_,?_⟩
   ·have e:enc 9 x=a ++ [q]:=by rw [<- z.out,Za9 f q o]
    rw [e,Zcn]
    simpa [bv] using b
   ·exact (g.alloc h _).grown c (by simp;omega) (fun k n=>(d.lt k n).1)
  ·go_wp2_with (at_builtin;refine wpList_append_own _ rfl _ _ 186 rfl w.heap.size 5 s (.int .u8 0) 1 1 underlying186 hi j m i rfl (by decide) _ _ _ rfl (d.alloc _) ⟨wr.heap.size,0,none⟩ 1 1 [.int .u8 (q % 128+128)] rfl rfl (cell_one_new _ _ _) (fun u l=>by simp at l;subst l;rfl) (by unfold maxLen;omega) (by omega) (by simp;omega) ?_)
   intro A I b c _;go_wp2
   go_roundw
   case rel =>
    obtain ⟨r,rfl,E⟩:=Zdo f q (by omega) F.out;refine ⟨r,q / 128,a ++ [q % 128+128],rfl,by omega,by omega,by simp;omega,E,?_,?_,?_⟩
    ·have e:=ZcC (r+1) q (by omega)
     have t:=z.out;rw [e] at t;unfold Hid;rw [<- t];simp
    ·rw [Zcn]
     simpa [bv] using b
    ·exact (g.alloc h _).grown c (by simp;omega) (fun k n=>(d.lt k n).1)
   case measure=>simp [intOf];omega
theorem ZaX (x:Int)(w:World)(c:x <= 9223372036854775807) :
  Calls prog 176 #[.int .i64 x] w fun e b=>∃ v,e=.returned v/\b.ownsRow w.heap.size 5 1 v (encI x).length (bv (encI x))/\Below w.heap.size w b:=by
 by_cases a:x < 0
 ·rw [ZkW x a];exact Zlg x w a
 ·rw [Zcu x (by omega)];exact Zk0 x w (by omega) c
theorem Ziu (s:ByteArray)(w:World)(x:s.size <= 2097152) :
  Calls prog 204 #[.string s] w fun e o=>∃ v,e=.returned v/\o.ownsRow w.heap.size 5 1 v (pt s).length (bv (pt s))/\Below w.heap.size w o:=by
 obtain ⟨q,hi,l,m,j⟩:=info_parts ZnS;have hl:=Zat s.size
 go_enter func204,ntmps204
 go_wp2_with fail;refine (ZaX (s.size:Int) _ (by omega)).mono ?_;rintro e r ⟨n,rfl,b,a⟩;have i:=a.size
 go_wp2_with (first | (refine ZcH _ rfl _ 9 186 5 rfl underlying9 underlying186 underlying5 s rfl ?_;intro t z d f p) | (at_builtin;refine wpList_append_own _ rfl _ _ 186 rfl w.heap.size 5 q (.int .u8 0) 1 1 underlying186 hi l m j rfl (by decide) n (encI s.size).length (bv (encI s.size)) rfl ?ho ⟨r.heap.size,0,none⟩ s.size _ (bv (sb s)) rfl ?hl ?hn ?h1 ?h63 ?hby ?hba ?_))
 case ho=>exact b.kept f (by cases n.ownBlock <;> simp)
 case hl=>rw [ZaV,ZaJ];simp
 case hn=>exact d
 case h1=>exact ints_oneCell .u8 _
 case h63=>unfold maxLen;omega
 case hby=>omega
 case hba=>omega
 intro u y g c _;go_wp2_with fail;go_ret;refine ⟨u,rfl,?_,(a.grown f i (fun k h=>by cases h)).grown c (by omega) (fun k h=>(b.lt k h).1)⟩;rw [Zc4,pt,Zcn];exact g
end Go.Proofs.YtkpfangkfknhoaaGreatDoor
