/-
  Texts that stood by themselves, laid into one.
-/
import Derived.Test.YtfeodlbpnghakaaGreatDoorShapeM
import Derived.Test.YtfeodlbpnghakaaGreatDoorMark2M
import Derived.Deep.RegionHeld3
import Derived.Test.YtfeodlbpnghakaaGreatDoorMcTM
import Derived.Deep.RegionHeld
import Derived.Test.YtfeodlbpnghakaaGreatDoorMach2M
import Derived.Deep.AppendLies
import Derived.Deep.RegionLawGrows
import Derived.OneCell
import Derived.Test.YtfeodlbpnghakaaGreatDoorNumberM
/-
  Contracts of (impl.reader).text and impl.GetText, for every slice of bytes within the form's reach and every place.
-/
set_option maxRecDepth 100000
set_option maxHeartbeats 3200000
namespace Go.Proofs.YtfeodlbpnghakaaGreatDoor
open Go.RowKit
theorem Zde (v:Value)(zs:List Int)(P:Nat)(a:Int)(x w:World)(R:Row x v zs)(K:Below x.heap.size x w)(M:x.heap.size <= P)(h:One w P a) :
  Calls Tryz.prog 162 #[.agg #[v,.pointer (some ⟨P,0,none⟩)]] w fun e J =>
   e=.returned (.tuple #[.string (gT zs a).1,.bool (gT zs a).2.2])/\(∃ q,One J P q/\((gT zs a).2.2=true -> q=(gT zs a).2.1))/\w.grownBy J (some P):=by
 have U:=R
 obtain ⟨A,l,rfl,E,hm,N,c⟩:=U
 clear N
 have S:=h.lt
 go_enter Tryz.func162,Tryz.ntmps162
 go_wp2_with fail
 have d:Below x.heap.size x (w.alloc (Obj.cells #[Value.slice A zs.length l,Value.pointer (some ⟨P,0,none⟩)] 235)):=K.alloc K.size _
 have y:One (w.alloc (Obj.cells #[Value.slice A zs.length l,Value.pointer (some ⟨P,0,none⟩)] 235)) P a:=h.kept (World.grownBy_alloc w _ none) (by simp)
 refine (ZdG _ zs P a x _ R d M y).mono ?_
 rintro e f ⟨rfl,⟨q,b,F⟩,t⟩
 have D:w.heap.size < (w.alloc (Obj.cells #[Value.slice A zs.length l,Value.pointer (some ⟨P,0,none⟩)] 235)).heap.size:=by simp
 have s:f.heap[w.heap.size]? = some (.cells #[Value.slice A zs.length l,Value.pointer (some ⟨P,0,none⟩)] 235 (0,0)):=(t.block _ D (by simp;omega)).trans (heap_alloc_new w _)
 have L:f.cell? ⟨w.heap.size,0,none⟩=some (.slice A zs.length l):=by rw [cell_of_row f _ 0 _ 235 (0,0) s];rfl
 have V:f.cell? ⟨w.heap.size,1,none⟩=some (.pointer (some ⟨P,0,none⟩)):=by rw [cell_of_row f _ 1 _ 235 (0,0) s];rfl
 have W:=b.cell
 have hf:=b.free
 have j:w.grownBy f (some P):=Zaj (World.grownBy_alloc w _ _) t
 have m:Below x.heap.size x f:=d.grown t d.size (fun k T=>by simp at T;omega)
 clear d y D s t R
 generalize G:gN zs a=r at F ⊢
 obtain ⟨n,next,ok⟩:=r
 have H:Hid (gN zs a=(n,next,ok)):=G
 clear G
 cases ok with
 | false =>
  have z:Hid (gT zs a=(⟨#[]⟩,0,false)):=Zkl zs a n next false H.out (Or.inl rfl)
  clear F
  go_wp2_with fail
  go_ret2
  exact ⟨by rw [z.out];rfl,⟨q,b,by rw [z.out];intro h;cases h⟩,j⟩
 | true =>
  obtain ⟨O,Y,Q,Z⟩:=ZjE zs a n next H.out
  obtain ⟨n,rfl⟩:=Int.eq_ofNat_of_zero_le O
  obtain ⟨next,rfl⟩:=Int.eq_ofNat_of_zero_le Q
  obtain rfl:q=(next:Int):=F rfl
  clear F
  by_cases C:(zs.length:Int) - next < n
  ·have z:Hid (gT zs a=(⟨#[]⟩,0,false)):=Zkl zs a _ _ true H.out (Or.inr C)
   go_wp2_with fail
   go_ret2
   exact ⟨by rw [z.out];rfl,⟨_,b,by rw [z.out];intro h;cases h⟩,j⟩
  ·have z:Hid (gT zs a=(strOfNums ((zs.drop next).take n),(next:Int)+n,true)):=Zlf zs a n next H.out (by omega)
   have B:next+n <= zs.length:=by omega
   have u:zs ≠ [] -> ∃ g o,A=some ⟨g,o,none⟩/\g < (f.setCell ⟨P,0,none⟩ (.int .i64 ((next:Int)+n))).heap.size/\∀ i,i < zs.length -> (f.setCell ⟨P,0,none⟩ (.int .i64 ((next:Int)+n))).cell? ⟨g,o+i,none⟩=some (.int .u8 (zs.getD i 0)):=by
    intro I
    obtain ⟨g,o,rfl,G,c⟩:=c I
    have X:=m.size
    refine ⟨g,o,rfl,by simp [World.setCell];omega,fun i hi=>?_⟩
    rw [World.cell?_of_block (w:=f) (heap_setCell_other f ⟨P,0,none⟩ g _ (by simp;omega)),m.cell (p:=⟨g,o+i,none⟩) G]
    exact c i hi
   clear c
   go_wp2_with (refine Zbz _ rfl _ 161 9 5 rfl Tryz.underlying161 Tryz.underlying9 Tryz.underlying5 _ _ _ ((zs.drop next).take n) rfl (by rw [Zep zs next n B];omega) (by rw [Nat.add_sub_cancel_left];simpa using ZfC u next n B E) ?_)
   all_goals go_ret2
   all_goals exact ⟨by rw [z.out];rfl,⟨_,b.set _,by rw [z.out];intro _;rfl⟩,Zaj j (Zan f P 0 _)⟩
theorem ZiU (l:List Int):(strOfNums l).size=l.length:=by
 unfold strOfNums
 simp [ByteArray.size]
def badV (p:Int):Value:=.iface 270 (.agg #[.int .i64 p])
def ZgU (b:Int)(n:Nat)(r:Value):Prop:=(b < n/\∃ p,r=badV p) \/ (¬ b < n/\r=.nilIface)
theorem Zdd (v:Value)(zs:List Int)(P:Nat)(b:Int)(w:World)(R:∃ d a,v=.slice d zs.length a)(h:One w P b) :
  Calls Tryz.prog 163 #[.agg #[v,.pointer (some ⟨P,0,none⟩)]] w fun e m=>∃ r,e=.returned r/\ZgU b zs.length r/\Below w.heap.size w m:=by
 obtain ⟨d,a,rfl⟩:=R
 have c:Below w.heap.size w (w.alloc (Obj.cells #[Value.slice d zs.length a,Value.pointer (some ⟨P,0,none⟩)] 235)):=(Below.refl _ _).alloc (Nat.le_refl _) _
 have i:=h.below c h.lt
 have l:=i.cell
 obtain ⟨W,k⟩:∃ W,w.alloc (Obj.cells #[Value.slice d zs.length a,Value.pointer (some ⟨P,0,none⟩)] 235)=W:=⟨_,rfl⟩
 have j:W.heap[w.heap.size]? = some (.cells #[Value.slice d zs.length a,Value.pointer (some ⟨P,0,none⟩)] 235 (0,0)):=by rw [<- k];exact heap_alloc_new _ _
 rw [k] at c i l
 have n:W.cell? ⟨w.heap.size,0,none⟩=some (.slice d zs.length a):=cell_of_row W _ 0 _ _ _ j
 have o:W.cell? ⟨w.heap.size,1,none⟩=some (.pointer (some ⟨P,0,none⟩)):=cell_of_row W _ 1 _ _ _ j
 go_enter Tryz.func163,Tryz.ntmps163
 go_wp2_with fail
 go_quiet (fail)
 by_cases f:b < zs.length
 ·have g:∀ p,ZgU b zs.length (badV p):=fun p=>Or.inl ⟨f,p,rfl⟩
  go_wp2
  go_ret
  exact ⟨_,rfl,g _,c.trans ⟨rfl,rfl,rfl,Nat.le_refl _,fun _ _=>rfl⟩⟩
 ·have g:ZgU b zs.length .nilIface:=Or.inr ⟨f,rfl⟩
  go_wp2
  go_ret
  exact ⟨_,rfl,g,c.trans ⟨rfl,rfl,rfl,Nat.le_refl _,fun _ _=>rfl⟩⟩
theorem Zbd {P:Program}(w:World){ops:Array Oper}{i:List Oper}{o:Oper}{a:Act}{Q:Exit -> Act -> World -> Prop}(y:o.guard=none)(x:Operand)(g f e:TypeId)(z:o.op=.convert g f x)(l:P.underlying g=some .string)(q:P.underlying f=some (.slice e))(m:P.underlying e=some (.int .u8))(s:ByteArray)(p:a.eval x=.string s)(h:∀ b d,s.size <= b -> (∀ j u,(bv (sb s))[j]? = some u -> d.cell? ((⟨w.heap.size,0,none⟩:Addr).add j)=some u) -> w.grownBy d none -> w.heap.size < d.heap.size -> wpList P ops Q i (a.put o.dst (.slice (some ⟨w.heap.size,0,none⟩) s.size b)) d) :
  wpList P ops Q (o :: i) a w:=by
 refine wpList_plain y fun K A=>?_
 obtain ⟨b,d,k,n,r,t,v⟩:∃ b d,(convert g f (.string s)).run P w=.ok (.slice (some ⟨w.heap.size,0,none⟩) s.size b) d/\s.size <= b /\
   (∀ j u,(bv (sb s))[j]? = some u -> d.cell? ((⟨w.heap.size,0,none⟩:Addr).add j)=some u)/\w.grownBy d none/\w.heap.size < d.heap.size:=by
  refine ⟨_,_,run_bytes_of_string w g f e s l q m,?_,?_,?_,?_⟩
  ·exact grownCap_ge _ _ _ _
  ·intro j u B
   rw [Addr.add_lit,Nat.zero_add,cell_of_row _ w.heap.size j _ e _ (heap_alloc_new w.drew _)]
   exact Zc5 s _ j u B
  ·have c:=World.grownBy_alloc w.drew (Obj.cells (bytesRow s (grownCap w s.size 0 e)) e ((bytesRow s (grownCap w s.size 0 e)).size,(bytesRow s (grownCap w s.size 0 e)).size+1)) none
   exact ⟨c.os,c.tape,c.output,c.size,c.block⟩
  ·show w.heap.size < (w.heap.push _).size
   simp
 unfold Oper.wp
 simp [execOp,z,p,k,Result.andThen]
 exact A _ _ (h b d n r t v)
theorem Zm6:(Tryz.prog.info? 235).map (·.size)=some 2:=by kernel_rfl
theorem Zbm {w b:World}{s:ByteArray}{a:Nat}(f:s.size <= 140737488351232)(d:s.size <= a)(c:∀ j u,(bv (sb s))[j]? = some u -> b.cell? ((⟨w.heap.size,0,none⟩:Addr).add j)=some u)(e:w.heap.size < b.heap.size):Row b (.slice (some ⟨w.heap.size,0,none⟩) s.size a) (sb s):=by
 refine ⟨some ⟨w.heap.size,0,none⟩,a,by rw [ZaJ],by rw [ZaJ];exact d,by rw [ZaJ];exact f,ZhG s,fun _=>⟨w.heap.size,0,rfl,e,fun i hi=>?_⟩⟩
 have:=c i (.int .u8 ((sb s).getD i 0)) (by rw [Zhk (sb s) i hi])
 rwa [Addr.add_lit] at this
theorem Za4 (s:ByteArray)(w:World)(G:s.size <= 140737488351232) :
  Calls Tryz.prog 160 #[.string s] w fun e F=>∃ v j P,e=.returned (.agg #[v,.pointer (some ⟨P,0,none⟩)])/\Row j v (sb s)/\Below w.heap.size w j/\Below j.heap.size j F/\j.heap.size <= P/\One F P 0:=by
 go_enter Tryz.func160,Tryz.ntmps160
 go_wp2_with (first
  | (refine Zbd _ rfl _ 9 161 5 rfl Tryz.underlying9 Tryz.underlying161 Tryz.underlying5 s rfl ?_;intro b a J D u E;have x:=(u.block w.heap.size (by simp) (by simp)).trans (heap_alloc_new w _);have f:=(heap_alloc_old a (Obj.cells #[Value.int .i64 0] 3) (bl x)).trans x)
  | (refine wpList_store_row rfl 235 _ _ rfl w.heap.size #[.slice (some ⟨w.heap.size+1,0,none⟩) s.size b,.pointer (some ⟨a.heap.size,0,none⟩)] rfl rfl 235 _ f Zm6 rfl (by simp [Value.oneCell']) ?_))
 have B:(w.alloc (Obj.cells #[Value.slice none 0 0,Value.pointer none] 235)).heap.size=w.heap.size+1:=by simp
 have C:=Zbm (w:=w.alloc (Obj.cells #[Value.slice none 0 0,Value.pointer none] 235)) G J D E
 rw [B] at C E
 have z:=setRow_heap a w.heap.size _ #[.slice (some ⟨w.heap.size+1,0,none⟩) s.size b,.pointer (some ⟨a.heap.size,0,none⟩)] _ _ x
 have m:=setRow_heap (a.alloc (Obj.cells #[Value.int .i64 0] 3)) w.heap.size _ #[.slice (some ⟨w.heap.size+1,0,none⟩) s.size b,.pointer (some ⟨a.heap.size,0,none⟩)] _ _ f
 have n:Row (a.setRow w.heap.size #[.slice (some ⟨w.heap.size+1,0,none⟩) s.size b,.pointer (some ⟨a.heap.size,0,none⟩)]) (.slice (some ⟨w.heap.size+1,0,none⟩) s.size b) (sb s):=by
  obtain ⟨O,c,p,K,I,M,L⟩:=C
  refine ⟨O,c,p,K,I,M,fun t=>?_⟩
  obtain ⟨g,o,rfl,N,H⟩:=L t
  obtain ⟨rfl,rfl⟩:g=w.heap.size+1/\o=0:=by
   simp only [Value.slice.injEq,Option.some.injEq,Addr.mk.injEq] at p
   exact ⟨p.1.1.symm,p.1.2.1.symm⟩
  refine ⟨_,_,rfl,by rw [size_setRow];exact N,fun i hi=>?_⟩
  rw [World.cell?_of_block (w:=a) (setRow_other a w.heap.size (w.heap.size+1) _ (by omega))]
  exact H i hi
 have q:Below w.heap.size w (a.setRow w.heap.size #[.slice (some ⟨w.heap.size+1,0,none⟩) s.size b,.pointer (some ⟨a.heap.size,0,none⟩)]):=by
  have l:Below w.heap.size w (w.alloc (Obj.cells #[Value.slice none 0 0,Value.pointer none] 235)):=(Below.refl _ _).alloc (Nat.le_refl _) _
  have A:Below w.heap.size w a:=l.grown u l.size (fun k y=>by cases y)
  exact below_setRow A (Nat.le_refl _) _
 have r:Below a.heap.size (a.setRow w.heap.size #[.slice (some ⟨w.heap.size+1,0,none⟩) s.size b,.pointer (some ⟨a.heap.size,0,none⟩)]) ((a.alloc (Obj.cells #[Value.int .i64 0] 3)).setRow w.heap.size #[.slice (some ⟨w.heap.size+1,0,none⟩) s.size b,.pointer (some ⟨a.heap.size,0,none⟩)]):=by
  refine ⟨rfl,rfl,rfl,by simp,fun k y=>?_⟩
  by_cases d:k=w.heap.size
  ·subst d
   rw [z,m]
  ·rw [setRow_other _ _ _ _ d,setRow_other _ _ _ _ d]
   exact heap_alloc_old a _ y
 have h:One ((a.alloc (Obj.cells #[Value.int .i64 0] 3)).setRow w.heap.size #[.slice (some ⟨w.heap.size+1,0,none⟩) s.size b,.pointer (some ⟨a.heap.size,0,none⟩)]) a.heap.size 0:=(setRow_other _ _ _ _ (by omega)).trans (heap_alloc_new a _)
 clear f D u B
 go_wp2
 exact bodyPost_ret (results_cell_row rfl _ _ w.heap.size 235 _ (0,0) _ rfl m Tryz.underlying235 rfl Zm6) rfl ⟨_,_,_,rfl,n,q,by rw [size_setRow];exact r,by rw [size_setRow];exact Nat.le_refl _,h⟩
structure K2 (P M:Nat)(w w':World):Prop where
 os:w'.os=w.os
 tape:w'.tape=w.tape
 output:w'.output=w.output
 size:w.heap.size <= w'.heap.size
 block:∀ k,k < w.heap.size -> k ≠ P -> k ≠ M -> w'.heap[k]? = w.heap[k]?
theorem K2.refl (P M:Nat)(w:World):K2 P M w w:=⟨rfl,rfl,rfl,Nat.le_refl _,fun _ _ _ _=>rfl⟩
theorem K2.trans {P M:Nat}{a b c:World}(h:K2 P M a b)(k:K2 P M b c):K2 P M a c :=
 ⟨k.os.trans h.os,k.tape.trans h.tape,k.output.trans h.output,Nat.le_trans h.size k.size,fun i hi d e=>(k.block i (Nat.lt_of_lt_of_le hi h.size) d e).trans (h.block i hi d e)⟩
theorem K2.ofP {P M:Nat}{w a:World}(h:w.grownBy a (some P)):K2 P M w a:=⟨h.os,h.tape,h.output,h.size,fun k c b _=>h.block k c (by simp [b])⟩
theorem K2.ofM {P M:Nat}{w a:World}(h:w.grownBy a (some M)):K2 P M w a:=⟨h.os,h.tape,h.output,h.size,fun k c _ b=>h.block k c (by simp [b])⟩
theorem K2.ofB {P M:Nat}{w a:World}(h:Below w.heap.size w a):K2 P M w a:=⟨h.os,h.tape,h.output,h.size,fun k b _ _=>h.block k b⟩
theorem K2.below {P M B:Nat}{w a:World}(h:K2 P M w a)(d:B <= w.heap.size)(e:B <= P)(c:B <= M):Below B w a:=⟨h.os,h.tape,h.output,h.size,fun k b=>h.block k (by omega) (by omega) (by omega)⟩
theorem K2.grown {P M:Nat}{w a:World}(h:K2 P M w a)(d:w.heap.size <= M):w.grownBy a (some P):=⟨h.os,h.tape,h.output,h.size,fun k c b=>h.block k c (by simpa using b) (by omega)⟩
def rdK (zs:List Int):Nat -> Int -> Option (List Int × Int)
 | 0,a=>some ([],a)
 | n+1,a=>(rd1 zs a).bind fun p=>(rdK zs n p.2).map fun q=>(p.1 :: q.1,q.2)
theorem Zdj (zs:List Int):∀ (n:Nat) (a:Int),rdK zs (n+1) a=(rdK zs n a).bind fun q=>(rd1 zs q.2).map fun p=>(q.1 ++ [p.1],p.2)
 | 0,a=>by
  simp only [rdK,Option.bind_some]
  cases rd1 zs a <;> rfl
 | n+1,a=>by
  rw [rdK]
  cases h:rd1 zs a with
  | none=>simp [rdK,h]
  | some p =>
   simp only [Option.bind_some]
   rw [Zdj zs n p.2,rdK,h]
   simp only [Option.bind_some]
   cases rdK zs n p.2 with
   | none=>rfl
   | some q=>simp only [Option.bind_some,Option.map_some];cases rd1 zs q.2 <;> rfl
theorem ZeG {zs:List Int}:∀ {n:Nat} {a:Int} {q:List Int × Int},rdK zs n a=some q -> q.1.length=n
 | 0,a,q,h=>by cases h;rfl
 | n+1,a,q,h=>by
  rw [rdK,Option.bind_eq_some_iff] at h
  obtain ⟨p,_,b⟩:=h
  rw [Option.map_eq_some_iff] at b
  obtain ⟨t,c,d⟩:=b
  cases d
  simp [ZeG c]
theorem ZgV {zs:List Int}{a:Int}:∀ {n m:Nat},n <= m -> rdK zs n a=none -> rdK zs m a=none
 | n,0,h,e=>by
  obtain rfl:n=0:=by omega
  exact e
 | n,m+1,h,e=>by
  rcases Nat.lt_or_ge n (m+1) with b | b
  ·rw [Zdj,ZgV (by omega) e];rfl
  ·obtain rfl:n=m+1:=by omega
   exact e
def tgt (M:Nat)(os:List Nat):Array Value:=(os.map fun o=>Value.pointer (some ⟨M,o,none⟩)).toArray
def setL (cs:Array Value)(os:List Nat)(vs:List Int):Array Value:=(os.zip vs).foldl (fun c p=>c.setIfInBounds p.1 (.int .i64 p.2)) cs
theorem ZiW (cs:Array Value)(os:List Nat)(a:List Int)(x:Int)(o:Nat)(h:os[a.length]? = some o):setL cs (os.take (a.length+1)) (a ++ [x])=(setL cs (os.take a.length) a).setIfInBounds o (.int .i64 x):=by
 obtain ⟨b,c⟩:=List.getElem?_eq_some_iff.1 h
 unfold setL
 rw [List.take_succ_eq_append_getElem b,c,List.zip_append (by simp;omega),List.foldl_append]
 rfl
theorem ZjG (cs:Array Value)(os:List Nat)(a:List Int):(setL cs os a).size=cs.size:=by
 unfold setL
 generalize os.zip a=l
 induction l generalizing cs with
 | nil=>rfl
 | cons p l ih=>rw [List.foldl_cons,ih];simp
theorem Zl2 {zs:List Int}{a x n:Int}(h:gN zs a=(x,n,true)):rd1 zs a=some (x,n):=by unfold rd1;rw [h];rfl
theorem Zl6 {zs:List Int}{a x n:Int}(h:gN zs a=(x,n,false)):rd1 zs a=none:=by unfold rd1;rw [h];rfl
theorem ZcV (v:Value)(zs:List Int)(s w:World)(P M L:Nat)(a:Int)(cs:Array Value)(t:TypeId)(os:List Nat)(R:Row s v zs)(hb:Below s.heap.size s w)(hP:s.heap.size <= P)(hM:s.heap.size <= M)(h1:One w P a)(hm:w.heap[M]? = some (.cells cs t (0,0)))(T:∀ o ∈ os,o < cs.size)(hL:w.heap[L]? = some (.cells (tgt M os) 233 (0,0)))(D:P ≠ M)(Q:L ≠ P)(U:L ≠ M)(hn:os.length <= 10) :
  Calls Tryz.prog 210 #[.agg #[v,.pointer (some ⟨P,0,none⟩)],.slice (some ⟨L,0,none⟩) os.length os.length] w fun e u=>K2 P M w u /\
   ((∃ q,rdK zs os.length a=some q/\e=.returned .nilIface/\One u P q.2/\u.heap[M]? = some (.cells (setL cs os q.1) t (0,0)))
    \/ (rdK zs os.length a=none/\(∃ p,e=.returned (badV p))/\(∃ q,One u P q)/\∃ d:List Int,d.length < os.length/\u.heap[M]? = some (.cells (setL cs (os.take d.length) d) t (0,0)))):=by
 have R':=R
 obtain ⟨I,r,rfl,_⟩:=R'
 have ag:=h1.lt
 have ad:=(bl hm)
 have V:=(bl hL)
 have ab:=hb.size
 go_enter Tryz.func210,Tryz.ntmps210
 go_wp2_with fail
 have Y:K2 P M w (w.alloc (Obj.cells #[Value.slice I zs.length r,Value.pointer (some ⟨P,0,none⟩)] 235)):=K2.ofB ((Below.refl _ _).alloc (Nat.le_refl _) _)
 go_loopw [12] (fun i wr=>∃ (k:Nat) (d:List Int) (c:Int),k <= os.length/\i=.int .i64 k/\Hid (rdK zs k a=some (d,c))/\One wr P c/\wr.heap[M]? = some (.cells (setL cs (os.take k) d) t (0,0)) /\
   wr.heap[w.heap.size]? = some (.cells #[Value.slice I zs.length r,Value.pointer (some ⟨P,0,none⟩)] 235 (0,0))/\K2 P M w wr) (fun i _=>os.length - (intOf i).toNat)
 case atStart =>
  refine ⟨0,[],a,by omega,rfl,rfl,h1.kept (World.grownBy_alloc w _ none) (by simp),?_,heap_alloc_new _ _,Y⟩
  exact (heap_alloc_old _ _ ad).trans hm
 case round =>
  obtain ⟨k,d,c,hk,rfl,J,f,l,b,K⟩:=hrel
  have x:d.length=k:=ZeG J.out
  have N:wr.cell? ⟨w.heap.size,0,none⟩=some (.slice I zs.length r):=cell_of_row wr _ 0 _ _ _ b
  have ae:wr.cell? ⟨w.heap.size,1,none⟩=some (.pointer (some ⟨P,0,none⟩)):=cell_of_row wr _ 1 _ _ _ b
  have hc:=f.cell
  by_cases ac:k < os.length
  ·obtain ⟨o,ho⟩:∃ o,os[k]? = some o:=⟨os[k],by simp [ac]⟩
   have C:=T o (List.mem_of_getElem? ho)
   have S:=(K.block L V Q U).trans hL
   have aa:wr.cell? ⟨L,k,none⟩=some (.pointer (some ⟨M,o,none⟩)):=by
    rw [cell_of_row wr _ k _ _ _ S]
    simp [tgt,ho]
   have H:Below s.heap.size s wr:=hb.trans (K.below ab hP hM)
   obtain ⟨g,hg⟩:∃ g,Hid (gN zs c=g):=⟨_,rfl⟩
   obtain ⟨A,gn,gk⟩:=g
   have HN:Calls Tryz.prog 161 #[.agg #[.slice I zs.length r,.pointer (some ⟨P,0,none⟩)]] wr fun e u =>
     e=.returned (.tuple #[.int .i64 A,.bool gk])/\(∃ q,One u P q/\(gk=true -> q=gn))/\wr.grownBy u (some P):=by
    have:=ZdG _ zs P c s wr R H hP f
    rw [hg.out] at this
    exact this
   go_wp2_with fail
   refine HN.mono ?_
   rintro e j ⟨rfl,⟨q,h,hq⟩,y⟩
   have af:=(bl l)
   have m:=(y.block M af (by simpa using fun e=>D e.symm)).trans l
   have z:=(y.block _ (bl b) (by simp;omega)).trans b
   have E:=K.trans (K2.ofP y)
   clear N ae hc aa HN
   cases gk with
   | false =>
    have HE:Hid (rdK zs os.length a=none):=ZgV (n:=k+1) (by omega) (by rw [Zdj,J.out];simp only [Option.bind_some];rw [Zl6 hg.out];rfl)
    go_wp2
    go_ret
    exact ⟨E,Or.inr ⟨HE.out,⟨_,rfl⟩,⟨_,h⟩,d,by omega,by rw [x];exact m⟩⟩
   | true =>
    obtain rfl:=hq rfl
    have X:j.cell? ⟨M,o,none⟩=some ((setL cs (os.take k) d)[o]'(by rw [ZjG];exact C)):=by rw [cell_of_row j _ o _ _ _ m,Array.getElem?_eq_getElem]
    have ah:j.frozen? ⟨M,o,none⟩=false:=frozen_of_row j _ o _ _ m
    have O:Hid (rdK zs (k+1) a=some (d ++ [A],q)):=by unfold Hid;rw [Zdj,J.out];simp only [Option.bind_some];rw [Zl2 hg.out];rfl
    have G:=heap_setCell_same j M o _ _ (.int .i64 A) m
    have Z:K2 P M j (j.setCell ⟨M,o,none⟩ (.int .i64 A)):=K2.ofM (Zan j M o _)
    have B:One (j.setCell ⟨M,o,none⟩ (.int .i64 A)) P q:=(heap_setCell_other j ⟨M,o,none⟩ P _ (by simpa using D)).trans h
    have F:=(heap_setCell_other j ⟨M,o,none⟩ w.heap.size (.int .i64 A) (by simp;omega)).trans z
    go_wp2
    go_roundw
    case rel =>
     refine ⟨k+1,d ++ [A],q,by omega,by go_num,O,B,?_,F,E.trans Z⟩
     rw [G,<- x,ZiW _ _ _ _ o (by rw [x];exact ho)]
    case measure=>simp [intOf];omega
  ·have W:k=os.length:=by omega
   subst W
   rw [List.take_length] at l
   go_wp2
   go_ret
   exact ⟨K,Or.inl ⟨_,J.out,rfl,f,l⟩⟩
def ndA (x:Nd):Array Value:=#[.int .i64 x.k,.int .i64 x.n,.string x.s,.int .i64 x.a,.int .i64 x.b]
def nd0 (k:Int):Nd:=⟨k,0,ByteArray.empty,0,0⟩
def Gets (f:Nat)(k:Int):Prop:=∀ (v:Value) (zs:List Int) (W0 w:World) (P nb:Nat) (a:Int),Row W0 v zs -> Below W0.heap.size W0 w -> W0.heap.size <= P -> W0.heap.size <= nb -> P ≠ nb -> One w P a -> w.heap[nb]? = some (.cells (ndA (nd0 k)) 194 (0,0)) ->
 Calls Tryz.prog f #[.agg #[v,.pointer (some ⟨P,0,none⟩)],.pointer (some ⟨nb,0,none⟩)] w fun e w'=>K2 P nb w w' /\
  ((∃ x b,rdB zs k a=some (x,b)/\e=.returned .nilIface/\One w' P b/\w'.heap[nb]? = some (.cells (ndA x) 194 (0,0)))
   \/ (rdB zs k a=none/\(∃ p,e=.returned (badV p))/\(∃ q,One w' P q)/\∃ x,x.k=k/\w'.heap[nb]? = some (.cells (ndA x) 194 (0,0))))
theorem Zl3 {zs:List Int}{k a b:Int}{x:Nd}(h:rdB zs k a=some (x,b)):x.k=k:=by
 unfold rdB at h
 repeat' split at h
 all_goals first
  | (cases h;done)
  | (cases h;first | rfl | (symm;assumption))
  | (rw [Option.map_eq_some_iff] at h;obtain ⟨_,_,h⟩:=h;cases h;first | rfl | (symm;assumption))
  | (rw [Option.bind_eq_some_iff] at h;obtain ⟨_,_,h⟩:=h;rw [Option.map_eq_some_iff] at h;obtain ⟨_,_,h⟩:=h;cases h;first | rfl | (symm;assumption))
theorem ZdZ:Gets 222 1:=by
 intro v zs i w P nb a R h k j e d f
 obtain ⟨g,c,rfl,_⟩:=R
 go_enter Tryz.func222,Tryz.ntmps222
 go_wp2
 go_ret
 have b:Below w.heap.size w (w.alloc (Obj.cells #[Value.slice g zs.length c,Value.pointer (some ⟨P,0,none⟩)] 235)):=(Below.refl _ _).alloc (Nat.le_refl _) _
 exact ⟨K2.ofB b,Or.inl ⟨nd0 1,a,rfl,rfl,d.below b d.lt,(bb f b)⟩⟩
theorem ZcZ (v:Value)(zs:List Int)(f w:World)(P nb:Nat)(a:Int)(cs:Array Value)(b:Obj)(os:List Nat)(R:Row f v zs)(D:Below f.heap.size f w)(I:f.heap.size <= P)(F:f.heap.size <= nb)(u:P ≠ nb)(C:One w P a)(E:w.heap[nb]? = some (.cells cs 194 (0,0)))(t:∀ o ∈ os,o < cs.size)(H:os.length <= 10) :
  Calls Tryz.prog 210 #[.agg #[v,.pointer (some ⟨P,0,none⟩)],.slice (some ⟨w.heap.size+1,0,none⟩) os.length os.length] ((w.alloc b).alloc (Obj.cells (tgt nb os) 233)).drew fun e d=>∃ r,e=.returned r/\K2 P nb w d/\d.heap[w.heap.size]? = some b /\
   ((∃ q,rdK zs os.length a=some q/\r=.nilIface/\One d P q.2/\d.heap[nb]? = some (.cells (setL cs os q.1) 194 (0,0)))
    \/ (rdK zs os.length a=none/\(∃ p,r=badV p)/\(∃ q,One d P q)/\∃ l:List Int,l.length < os.length/\d.heap[nb]? = some (.cells (setL cs (os.take l.length) l) 194 (0,0)))):=by
 have s:=C.lt
 have n:=(bl E)
 have g:Below w.heap.size w (w.alloc b):=(Below.refl _ _).alloc (Nat.le_refl _) _
 have c:Below w.heap.size w ((w.alloc b).alloc (Obj.cells (tgt nb os) 233)).drew:=(g.alloc g.size _).drew
 have A:(w.alloc b).heap.size=w.heap.size+1:=by simp
 have G:((w.alloc b).alloc (Obj.cells (tgt nb os) 233)).drew.heap[w.heap.size+1]? = some (.cells (tgt nb os) 233 (0,0)):=by rw [<- A];exact heap_alloc_new _ _
 have B:((w.alloc b).alloc (Obj.cells (tgt nb os) 233)).drew.heap[w.heap.size]? = some b:=(heap_alloc_old (w.alloc b) _ (by rw [A];omega)).trans (heap_alloc_new w b)
 have y:=D.size
 refine (ZcV v zs f _ P nb (w.heap.size+1) a cs 194 os R (D.trans (c.mono y)) I F (C.below c s) ((c.block _ n).trans E) t G u (by omega) (by omega) H).mono ?_
 rintro e d ⟨z,h⟩
 have k:w.heap.size < ((w.alloc b).alloc (Obj.cells (tgt nb os) 233)).drew.heap.size:=(bl B)
 have i:=(z.block _ k (by omega) (by omega)).trans B
 rcases h with ⟨q,j,rfl,x,m⟩ | ⟨j,⟨p,rfl⟩,x,m⟩
 ·exact ⟨_,rfl,(K2.ofB c).trans z,i,Or.inl ⟨q,j,rfl,x,m⟩⟩
 ·exact ⟨_,rfl,(K2.ofB c).trans z,i,Or.inr ⟨j,⟨p,rfl⟩,x,m⟩⟩
theorem Zcj (zs:List Int)(a:Int):rdK zs 1 a=(rd1 zs a).map fun p=>([p.1],p.2):=by
 simp only [rdK]
 cases rd1 zs a <;> rfl
theorem ZlC (zs:List Int)(a:Int):rdK zs 2 a=(rd1 zs a).bind fun p=>(rd1 zs p.2).map fun q=>([p.1,q.1],q.2):=by
 rw [rdK]
 cases rd1 zs a with
 | none=>rfl
 | some p=>simp only [Option.bind_some];rw [Zcj];cases rd1 zs p.2 <;> rfl
theorem Zjn {zs:List Int}{k a:Int}{o:Nat}{f:Int -> Nd}(l:∀ x,setL (ndA (nd0 k)) [o] [x]=ndA (f x))(m:rdB zs k a=(rd1 zs a).map fun p=>(f p.1,p.2)){P nb:Nat}{c:World}{r:Value}(h:(∃ q,rdK zs 1 a=some q/\r=.nilIface/\One c P q.2/\c.heap[nb]? = some (.cells (setL (ndA (nd0 k)) [o] q.1) 194 (0,0)))
    \/ (rdK zs 1 a=none/\(∃ p,r=badV p)/\(∃ q,One c P q)/\∃ e:List Int,e.length < 1/\c.heap[nb]? = some (.cells (setL (ndA (nd0 k)) ([o].take e.length) e) 194 (0,0)))) :
  (∃ x b,rdB zs k a=some (x,b)/\r=.nilIface/\One c P b/\c.heap[nb]? = some (.cells (ndA x) 194 (0,0)))
   \/ (rdB zs k a=none/\(∃ p,r=badV p)/\(∃ q,One c P q)/\c.heap[nb]? = some (.cells (ndA (nd0 k)) 194 (0,0))):=by
 rw [Zcj] at h
 rw [m]
 cases j:rd1 zs a with
 | some p =>
  rw [j] at h
  rcases h with ⟨q,d,rfl,i,g⟩ | ⟨d,-⟩
  ·cases d
   rw [l] at g
   exact Or.inl ⟨_,_,rfl,rfl,i,g⟩
  ·cases d
 | none =>
  rw [j] at h
  rcases h with ⟨q,d,-⟩ | ⟨-,⟨p,rfl⟩,i,e,n,g⟩
  ·cases d
  ·obtain rfl:e=[]:=List.eq_nil_of_length_eq_zero (by omega)
   exact Or.inr ⟨rfl,⟨p,rfl⟩,i,g⟩
theorem ZjO {zs:List Int}{k a:Int}{o m:Nat}{f:Int -> Int -> Nd}{g:Int -> Nd}(z:∀ x y,setL (ndA (nd0 k)) [o,m] [x,y]=ndA (f x y))(A:∀ x,setL (ndA (nd0 k)) [o] [x]=ndA (g x))(n:∀ x,(g x).k=k)(D:rdB zs k a=(rd1 zs a).bind fun p=>(rd1 zs p.2).map fun q=>(f p.1 q.1,q.2)){P nb:Nat}{d:World}{r:Value}(h:(∃ q,rdK zs 2 a=some q/\r=.nilIface/\One d P q.2/\d.heap[nb]? = some (.cells (setL (ndA (nd0 k)) [o,m] q.1) 194 (0,0)))
    \/ (rdK zs 2 a=none/\(∃ p,r=badV p)/\(∃ q,One d P q)/\∃ c:List Int,c.length < 2/\d.heap[nb]? = some (.cells (setL (ndA (nd0 k)) ([o,m].take c.length) c) 194 (0,0)))) :
  (∃ x b,rdB zs k a=some (x,b)/\r=.nilIface/\One d P b/\d.heap[nb]? = some (.cells (ndA x) 194 (0,0)))
   \/ (rdB zs k a=none/\(∃ p,r=badV p)/\(∃ q,One d P q)/\∃ x,x.k=k/\d.heap[nb]? = some (.cells (ndA x) 194 (0,0))):=by
 rw [ZlC] at h
 rw [D]
 have j:∀ c:List Int,c.length < 2 -> d.heap[nb]? = some (.cells (setL (ndA (nd0 k)) ([o,m].take c.length) c) 194 (0,0)) -> ∃ x,x.k=k/\d.heap[nb]? = some (.cells (ndA x) 194 (0,0)):=by
  intro c w i
  match c,w with
  | [],_=>exact ⟨nd0 k,rfl,i⟩
  | [y],_=>exact ⟨g y,n y,by rw [<- A];exact i⟩
 rcases h with ⟨q,e,rfl,s,i⟩ | ⟨e,⟨p,rfl⟩,s,c,w,i⟩
 ·rw [Option.bind_eq_some_iff] at e
  obtain ⟨p,e,l⟩:=e
  rw [Option.map_eq_some_iff] at l
  obtain ⟨t,l,B⟩:=l
  cases B
  rw [z] at i
  refine Or.inl ⟨_,_,?_,rfl,s,i⟩
  rw [e]
  simp only [Option.bind_some]
  rw [l]
  rfl
 ·refine Or.inr ⟨?_,⟨p,rfl⟩,s,j c w i⟩
  cases C:rd1 zs a with
  | none=>rfl
  | some t =>
   rw [C] at e
   simp only [Option.bind_some] at e ⊢
   cases v:rd1 zs t.2 with
   | none=>rfl
   | some u=>rw [v] at e;cases e
theorem ZkE (v:Value)(zs:List Int)(d w:World)(P nb:Nat)(a:Int)(k:Int)(R:Row d v zs)(t:Below d.heap.size d w)(z:d.heap.size <= P)(y:d.heap.size <= nb)(h:P ≠ nb)(n:One w P a)(u:w.heap[nb]? = some (.cells (ndA (nd0 k)) 194 (0,0))) :
  Calls Tryz.prog 224 #[.agg #[v,.pointer (some ⟨P,0,none⟩)],.pointer (some ⟨nb,0,none⟩)] w fun e b=>∃ r,e=.returned r/\K2 P nb w b /\
   ((∃ q,rdK zs 1 a=some q/\r=.nilIface/\One b P q.2/\b.heap[nb]? = some (.cells (setL (ndA (nd0 k)) [1] q.1) 194 (0,0)))
    \/ (rdK zs 1 a=none/\(∃ p,r=badV p)/\(∃ q,One b P q)/\∃ i:List Int,i.length < 1/\b.heap[nb]? = some (.cells (setL (ndA (nd0 k)) ([1].take i.length) i) 194 (0,0)))):=by
 obtain ⟨j,c,rfl,_⟩:=id R
 have l:=ZcZ _ zs d w P nb a (ndA (nd0 k)) (Obj.cells #[Value.slice j zs.length c,Value.pointer (some ⟨P,0,none⟩)] 235) [1] R t z y h n u (by intro o s;simp at s;simp [ndA];omega) (by simp)
 go_enter Tryz.func224,Tryz.ntmps224
 go_wp2_with fail
 go_region_held (fun b=>b.cell? ⟨w.heap.size,0,none⟩=some (.slice j zs.length c)/\b.cell? ⟨w.heap.size,1,none⟩=some (.pointer (some ⟨P,0,none⟩))) (first | exact m | go_keep) (first
  | (go_at_call 210;refine l.mono ?_;rintro e g ⟨r,rfl,x,f,A⟩;have m:g.cell? ⟨w.heap.size,0,none⟩=some (.slice j zs.length c)/\g.cell? ⟨w.heap.size,1,none⟩=some (.pointer (some ⟨P,0,none⟩)):=⟨cell_of_row g _ 0 _ _ _ f,cell_of_row g _ 1 _ _ _ f⟩))
 all_goals
  clear l m
  go_wp2
  go_ret
  exact ⟨r,rfl,x,A⟩
theorem Zkm (v:Value)(zs:List Int)(d w:World)(P nb:Nat)(a:Int)(k:Int)(R:Row d v zs)(t:Below d.heap.size d w)(z:d.heap.size <= P)(y:d.heap.size <= nb)(h:P ≠ nb)(n:One w P a)(u:w.heap[nb]? = some (.cells (ndA (nd0 k)) 194 (0,0))) :
  Calls Tryz.prog 234 #[.agg #[v,.pointer (some ⟨P,0,none⟩)],.pointer (some ⟨nb,0,none⟩)] w fun e b=>∃ r,e=.returned r/\K2 P nb w b /\
   ((∃ q,rdK zs 1 a=some q/\r=.nilIface/\One b P q.2/\b.heap[nb]? = some (.cells (setL (ndA (nd0 k)) [3] q.1) 194 (0,0)))
    \/ (rdK zs 1 a=none/\(∃ p,r=badV p)/\(∃ q,One b P q)/\∃ i:List Int,i.length < 1/\b.heap[nb]? = some (.cells (setL (ndA (nd0 k)) ([3].take i.length) i) 194 (0,0)))):=by
 obtain ⟨j,c,rfl,_⟩:=id R
 have l:=ZcZ _ zs d w P nb a (ndA (nd0 k)) (Obj.cells #[Value.slice j zs.length c,Value.pointer (some ⟨P,0,none⟩)] 235) [3] R t z y h n u (by intro o s;simp at s;simp [ndA];omega) (by simp)
 go_enter Tryz.func234,Tryz.ntmps234
 go_wp2_with fail
 go_region_held (fun b=>b.cell? ⟨w.heap.size,0,none⟩=some (.slice j zs.length c)/\b.cell? ⟨w.heap.size,1,none⟩=some (.pointer (some ⟨P,0,none⟩))) (first | exact m | go_keep) (first
  | (go_at_call 210;refine l.mono ?_;rintro e g ⟨r,rfl,x,f,A⟩;have m:g.cell? ⟨w.heap.size,0,none⟩=some (.slice j zs.length c)/\g.cell? ⟨w.heap.size,1,none⟩=some (.pointer (some ⟨P,0,none⟩)):=⟨cell_of_row g _ 0 _ _ _ f,cell_of_row g _ 1 _ _ _ f⟩))
 all_goals
  clear l m
  go_wp2
  go_ret
  exact ⟨r,rfl,x,A⟩
theorem ZfP (v:Value)(zs:List Int)(d w:World)(P nb:Nat)(a:Int)(k:Int)(R:Row d v zs)(t:Below d.heap.size d w)(z:d.heap.size <= P)(y:d.heap.size <= nb)(h:P ≠ nb)(n:One w P a)(u:w.heap[nb]? = some (.cells (ndA (nd0 k)) 194 (0,0))) :
  Calls Tryz.prog 230 #[.agg #[v,.pointer (some ⟨P,0,none⟩)],.pointer (some ⟨nb,0,none⟩)] w fun e b=>∃ r,e=.returned r/\K2 P nb w b /\
   ((∃ q,rdK zs 2 a=some q/\r=.nilIface/\One b P q.2/\b.heap[nb]? = some (.cells (setL (ndA (nd0 k)) [3,4] q.1) 194 (0,0)))
    \/ (rdK zs 2 a=none/\(∃ p,r=badV p)/\(∃ q,One b P q)/\∃ i:List Int,i.length < 2/\b.heap[nb]? = some (.cells (setL (ndA (nd0 k)) ([3,4].take i.length) i) 194 (0,0)))):=by
 obtain ⟨j,c,rfl,_⟩:=id R
 have l:=ZcZ _ zs d w P nb a (ndA (nd0 k)) (Obj.cells #[Value.slice j zs.length c,Value.pointer (some ⟨P,0,none⟩)] 235) [3,4] R t z y h n u (by intro o s;simp at s;simp [ndA];omega) (by simp)
 go_enter Tryz.func230,Tryz.ntmps230
 go_wp2_with fail
 go_region_held (fun b=>b.cell? ⟨w.heap.size,0,none⟩=some (.slice j zs.length c)/\b.cell? ⟨w.heap.size,1,none⟩=some (.pointer (some ⟨P,0,none⟩))) (first | exact m | go_keep) (first
  | (go_at_call 210;refine l.mono ?_;rintro e g ⟨r,rfl,x,f,A⟩;have m:g.cell? ⟨w.heap.size,0,none⟩=some (.slice j zs.length c)/\g.cell? ⟨w.heap.size,1,none⟩=some (.pointer (some ⟨P,0,none⟩)):=⟨cell_of_row g _ 0 _ _ _ f,cell_of_row g _ 1 _ _ _ f⟩))
 all_goals
  clear l m
  go_wp2
  go_ret
  exact ⟨r,rfl,x,A⟩
theorem Zhy (v:Value)(zs:List Int)(d w:World)(P nb:Nat)(a:Int)(k:Int)(R:Row d v zs)(t:Below d.heap.size d w)(z:d.heap.size <= P)(y:d.heap.size <= nb)(h:P ≠ nb)(n:One w P a)(u:w.heap[nb]? = some (.cells (ndA (nd0 k)) 194 (0,0))) :
  Calls Tryz.prog 232 #[.agg #[v,.pointer (some ⟨P,0,none⟩)],.pointer (some ⟨nb,0,none⟩)] w fun e b=>∃ r,e=.returned r/\K2 P nb w b /\
   ((∃ q,rdK zs 2 a=some q/\r=.nilIface/\One b P q.2/\b.heap[nb]? = some (.cells (setL (ndA (nd0 k)) [1,3] q.1) 194 (0,0)))
    \/ (rdK zs 2 a=none/\(∃ p,r=badV p)/\(∃ q,One b P q)/\∃ i:List Int,i.length < 2/\b.heap[nb]? = some (.cells (setL (ndA (nd0 k)) ([1,3].take i.length) i) 194 (0,0)))):=by
 obtain ⟨j,c,rfl,_⟩:=id R
 have l:=ZcZ _ zs d w P nb a (ndA (nd0 k)) (Obj.cells #[Value.slice j zs.length c,Value.pointer (some ⟨P,0,none⟩)] 235) [1,3] R t z y h n u (by intro o s;simp at s;simp [ndA];omega) (by simp)
 go_enter Tryz.func232,Tryz.ntmps232
 go_wp2_with fail
 go_region_held (fun b=>b.cell? ⟨w.heap.size,0,none⟩=some (.slice j zs.length c)/\b.cell? ⟨w.heap.size,1,none⟩=some (.pointer (some ⟨P,0,none⟩))) (first | exact m | go_keep) (first
  | (go_at_call 210;refine l.mono ?_;rintro e g ⟨r,rfl,x,f,A⟩;have m:g.cell? ⟨w.heap.size,0,none⟩=some (.slice j zs.length c)/\g.cell? ⟨w.heap.size,1,none⟩=some (.pointer (some ⟨P,0,none⟩)):=⟨cell_of_row g _ 0 _ _ _ f,cell_of_row g _ 1 _ _ _ f⟩))
 all_goals
  clear l m
  go_wp2
  go_ret
  exact ⟨r,rfl,x,A⟩
theorem ZeE (k:Int)(q:k=2 \/ k=8 \/ k=9):Gets 224 k:=by
 intro v zs o w P nb a R m u t c j n
 refine (ZkE v zs o w P nb a k R m u t c j n).mono ?_
 rintro e y ⟨r,rfl,s,h⟩
 have l:=Zjn (f:=fun x=>⟨k,x,ByteArray.empty,0,0⟩) (fun x=>rfl) (by unfold rdB;rw [if_neg (by omega),if_pos q]) h
 refine ⟨s,?_⟩
 rcases l with ⟨x,b,d,rfl,g,i⟩ | ⟨d,⟨p,rfl⟩,g,i⟩
 ·exact Or.inl ⟨x,b,d,rfl,g,i⟩
 ·exact Or.inr ⟨d,⟨p,rfl⟩,g,_,rfl,i⟩
theorem ZkD:Gets 234 7:=by
 intro v zs n w P nb a R l s q c j m
 refine (Zkm v zs n w P nb a 7 R l s q c j m).mono ?_
 rintro e t ⟨r,rfl,o,h⟩
 have k:=Zjn (f:=fun x=>⟨7,0,ByteArray.empty,x,0⟩) (fun x=>rfl) (by rfl) h
 refine ⟨o,?_⟩
 rcases k with ⟨x,b,d,rfl,g,i⟩ | ⟨d,⟨p,rfl⟩,g,i⟩
 ·exact Or.inl ⟨x,b,d,rfl,g,i⟩
 ·exact Or.inr ⟨d,⟨p,rfl⟩,g,_,rfl,i⟩
theorem ZfY:Gets 230 5:=by
 intro v zs o w P nb a R m t s c k n
 refine (ZfP v zs o w P nb a 5 R m t s c k n).mono ?_
 rintro e u ⟨r,rfl,q,h⟩
 have l:=ZjO (f:=fun x y=>⟨5,0,ByteArray.empty,x,y⟩) (g:=fun x=>⟨5,0,ByteArray.empty,x,0⟩) (fun x y=>rfl) (fun x=>rfl) (fun x=>rfl) (by rfl) h
 refine ⟨q,?_⟩
 rcases l with ⟨x,b,d,rfl,i,j⟩ | ⟨d,⟨p,rfl⟩,i,j⟩
 ·exact Or.inl ⟨x,b,d,rfl,i,j⟩
 ·exact Or.inr ⟨d,⟨p,rfl⟩,i,j⟩
theorem Zid:Gets 232 6:=by
 intro v zs o w P nb a R m t s c k n
 refine (Zhy v zs o w P nb a 6 R m t s c k n).mono ?_
 rintro e u ⟨r,rfl,q,h⟩
 have l:=ZjO (f:=fun x y=>⟨6,x,ByteArray.empty,y,0⟩) (g:=fun x=>⟨6,x,ByteArray.empty,0,0⟩) (fun x y=>rfl) (fun x=>rfl) (fun x=>rfl) (by rfl) h
 refine ⟨q,?_⟩
 rcases l with ⟨x,b,d,rfl,i,j⟩ | ⟨d,⟨p,rfl⟩,i,j⟩
 ·exact Or.inl ⟨x,b,d,rfl,i,j⟩
 ·exact Or.inr ⟨d,⟨p,rfl⟩,i,j⟩
theorem Zhr:Gets 226 3:=by
 intro v zs F w P nb a R K N C k G L
 obtain ⟨s,i,rfl,_⟩:=id R
 have A:=ZcZ _ zs F w P nb a (ndA (nd0 3)) (Obj.cells #[Value.slice s zs.length i,Value.pointer (some ⟨P,0,none⟩)] 235) [1] R K N C k G L (by intro o I;simp at I;simp [ndA];omega) (by simp)
 go_enter Tryz.func226,Tryz.ntmps226
 go_wp2_with fail
 go_region_held (fun B=>B.cell? ⟨w.heap.size,0,none⟩=some (.slice s zs.length i)/\B.cell? ⟨w.heap.size,1,none⟩=some (.pointer (some ⟨P,0,none⟩))) (first | exact x | go_keep) (first
  | (go_at_call 210;refine A.mono ?_;rintro e c ⟨r,rfl,M,h,y⟩;have x:c.cell? ⟨w.heap.size,0,none⟩=some (.slice s zs.length i)/\c.cell? ⟨w.heap.size,1,none⟩=some (.pointer (some ⟨P,0,none⟩)):=⟨cell_of_row c _ 0 _ _ _ h,cell_of_row c _ 1 _ _ _ h⟩))
 all_goals
  have H:∃ z b,0 <= z/\z <= 9223372036854775807/\c.heap[nb]? = some (.cells (ndA ⟨3,z,ByteArray.empty,0,0⟩) 194 (0,0))/\One c P b/\Hid ((rd1 zs a=some (z,b)/\r=.nilIface) \/ (rd1 zs a=none/\∃ p,r=badV p)):=by
   rcases y with ⟨q,d,n,l,g⟩ | ⟨d,n,⟨q,l⟩,u,E,g⟩
   ·rw [show [1].length=1 from rfl,Zcj,Option.map_eq_some_iff] at d
    obtain ⟨p,d,rfl⟩:=d
    obtain ⟨D,J,_⟩:=Za9 d
    exact ⟨p.1,p.2,D,J,g,l,Or.inl ⟨d,n⟩⟩
   ·rw [show [1].length=1 from rfl,Zcj,Option.map_eq_none_iff] at d
    obtain rfl:u=[]:=List.eq_nil_of_length_eq_zero (by have:u.length < 1:=E;omega)
    exact ⟨0,q,by omega,by omega,g,l,Or.inr ⟨d,n⟩⟩
  obtain ⟨z,b,Q,S,g,l,O⟩:=H
  clear A x h y
  have c1:c.cell? ⟨nb,1,none⟩=some (.int .i64 z):=cell_of_row c _ 1 _ _ _ g
  have T:c.frozen? ⟨nb,1,none⟩=false:=frozen_of_row c _ 1 _ _ g
  have f:(c.setCell ⟨nb,1,none⟩ (.int .i64 (z - 1000000000))).heap[nb]? = some (.cells (ndA ⟨3,z - 1000000000,ByteArray.empty,0,0⟩) 194 (0,0)):=heap_setCell_same c nb 1 _ _ (.int .i64 (z - 1000000000)) g
  have m:=M.trans (K2.ofM (Zan c nb 1 (.int .i64 (z - 1000000000))))
  have j:One (c.setCell ⟨nb,1,none⟩ (.int .i64 (z - 1000000000))) P b:=(heap_setCell_other c ⟨nb,1,none⟩ P _ (by simpa using k)).trans l
  go_wp2
  go_ret
  refine ⟨m,?_⟩
  rcases O.out with ⟨t,rfl⟩ | ⟨t,p,rfl⟩
  ·exact Or.inl ⟨_,b,by unfold rdB;rw [if_neg (by omega),if_neg (by omega),if_pos rfl,t];rfl,rfl,j,f⟩
  ·exact Or.inr ⟨by unfold rdB;rw [if_neg (by omega),if_neg (by omega),if_pos rfl,t];rfl,⟨p,rfl⟩,⟨_,j⟩,_,rfl,f⟩
theorem Zf3:Gets 228 4:=by
 intro v zs F w P nb a R A C H l x B
 obtain ⟨o,d,rfl,_⟩:=id R
 have i:Below w.heap.size w (w.alloc (Obj.cells #[Value.slice o zs.length d,Value.pointer (some ⟨P,0,none⟩)] 235)):=(Below.refl _ _).alloc (Nat.le_refl _) _
 have n:=x.below i x.lt
 have E:=n.cell
 obtain ⟨g,r⟩:∃ g,Hid (gT zs a=g):=⟨_,rfl⟩
 obtain ⟨f,G,s⟩:=g
 have u:Calls Tryz.prog 162 #[.agg #[.slice o zs.length d,.pointer (some ⟨P,0,none⟩)]] (w.alloc (Obj.cells #[Value.slice o zs.length d,Value.pointer (some ⟨P,0,none⟩)] 235)) fun e y =>
   e=.returned (.tuple #[.string f,.bool s])/\(∃ q,One y P q/\(s=true -> q=G))/\(w.alloc (Obj.cells #[Value.slice o zs.length d,Value.pointer (some ⟨P,0,none⟩)] 235)).grownBy y (some P):=by
  have:=Zde _ zs P a F _ R (A.trans (i.mono A.size)) C n
  rw [r.out] at this
  exact this
 go_enter Tryz.func228,Tryz.ntmps228
 go_wp2_with fail
 refine u.mono ?_
 rintro e b ⟨rfl,⟨q,z,D⟩,j⟩
 have h:=(bl B)
 have c:=(j.block nb (Nat.lt_of_lt_of_le h i.size) (by simpa using fun e=>l e.symm)).trans ((i.block nb h).trans B)
 have k:K2 P nb w b:=(K2.ofB i).trans (K2.ofP j)
 clear u E
 cases s with
 | false =>
  go_wp2
  go_ret
  exact ⟨k,Or.inr ⟨by unfold rdB;rw [if_neg (by omega),if_neg (by omega),if_neg (by omega),if_pos rfl,r.out];rfl,⟨_,rfl⟩,⟨_,z⟩,_,rfl,c⟩⟩
 | true =>
  obtain rfl:=D rfl
  have c2:b.cell? ⟨nb,2,none⟩=some (.string ByteArray.empty):=cell_of_row b _ 2 _ _ _ c
  have I:b.frozen? ⟨nb,2,none⟩=false:=frozen_of_row b _ 2 _ _ c
  have m:(b.setCell ⟨nb,2,none⟩ (.string f)).heap[nb]? = some (.cells (ndA ⟨4,0,f,0,0⟩) 194 (0,0)):=heap_setCell_same b nb 2 _ _ (.string f) c
  have t:=k.trans (K2.ofM (Zan b nb 2 (.string f)))
  have p:One (b.setCell ⟨nb,2,none⟩ (.string f)) P q:=(heap_setCell_other b ⟨nb,2,none⟩ P _ (by simpa using l)).trans z
  go_wp2
  go_ret
  exact ⟨t,Or.inl ⟨_,q,by unfold rdB;rw [if_neg (by omega),if_neg (by omega),if_neg (by omega),if_pos rfl,r.out];rfl,rfl,p,m⟩⟩
theorem ZjA {w:World}{base:Nat}{a:Addr}{n c:Nat}{zs:List Value}(h:w.ownsRow base 5 1 (.slice (some a) n c) n zs)(d:0 < n):∃ g,a=⟨g,0,none⟩:=by
 obtain ⟨g,b,e,_⟩:=h.form d
 simp only [Value.slice.injEq,Option.some.injEq] at e
 exact ⟨g,e.1⟩
theorem ZdC {w:World}{base:Nat}{b:Option Addr}{n c:Nat}{zs:List Value}(h:w.ownsRow base 5 1 (.slice b n c) n zs):b=none -> n=0/\c=0:=by
 intro e
 subst e
 rcases h.2 with ⟨a,f⟩ | ⟨g,d,cur,a,_⟩
 ·simp only [Value.slice.injEq,true_and] at a;exact a
 ·simp at a
theorem ZdL {w:World}{base:Nat}{d:Option Addr}{n c:Nat}{zs:List Value}(h:w.ownsRow base 5 1 (.slice d n c) n zs)(k:zs.length=n):∀ b,d=some b -> ∀ (j:Nat) u,zs[j]? = some u -> w.cell? (b.add j)=some u:=by
 intro b e j u f
 subst e
 have l:=(List.getElem?_eq_some_iff.1 f).1
 have i:=ZjA h (by omega)
 obtain ⟨g,rfl⟩:=i
 have:=h.cellAt j (by omega)
 have a:(⟨g,0,none⟩:Addr).add j=⟨g,j,none⟩:=by unfold Addr.add;split <;> simp_all
 rw [a,this]
 exact f
theorem ZgJ {w:World}{base:Nat}{b:Option Addr}{c:Nat}{zs:List Int}(h:w.ownsRow base 5 1 (.slice b zs.length c) zs.length (bv zs)):zs.length ≠ 0 -> ∃ g a,b=some ⟨g,a,none⟩/\∀ i,i < zs.length -> w.cell? ⟨g,a+i,none⟩=some (.int .u8 (zs.getD i 0)):=by
 intro f
 obtain ⟨g,d,e,_⟩:=h.form (by omega)
 simp only [Value.slice.injEq] at e
 obtain ⟨rfl,_,_⟩:=e
 refine ⟨g,0,rfl,fun i hi=>?_⟩
 have:=h.cellAt i (by omega)
 rw [Nat.zero_add,this,Zhk zs i hi]
def ZmD (zs:List Int)(j:Nat):List Int:=zs.take j ++ List.replicate (zs.length - j) 0
theorem Zk6 (x:Int)(w:World)(b:x < 0) :
  Calls Tryz.prog 147 #[.int .i64 x] w fun e a=>∃ v,e=.returned v/\a.ownsRow w.heap.size 5 1 v 0 (bv [])/\Below w.heap.size w a:=by
 go_enter Tryz.func147,Tryz.ntmps147
 go_wp2
 go_ret
 exact ⟨_,rfl,World.ownsRow_made _ _ 0 (Nat.le_refl _) (by simp) (by simp),(Below.refl _ _).alloc (Nat.le_refl _) _⟩
theorem Zkw (x:Int)(w:World)(E:0 <= x)(I:x <= 9223372036854775807) :
  Calls Tryz.prog 147 #[.int .i64 x] w fun e B=>∃ v,e=.returned v/\B.ownsRow w.heap.size 5 1 v (enc 9 x).length (bv (enc 9 x))/\Below w.heap.size w B:=by
 obtain ⟨p,hi,l,h,i⟩:=info_parts Zm9
 go_enter Tryz.func147,Tryz.ntmps147
 go_wp2
 go_loopw [0,3] (fun y v wr=>∃ (f:Nat) (q:Int) (b:List Int),y=.int .i64 q/\0 <= q/\q <= 9223372036854775807/\b.length+f=8/\Hid (q < lim (f+1))/\Hid (b ++ enc (f+1) q=enc 9 x)/\wr.ownsRow w.heap.size 5 1 v b.length (bv b)/\Below w.heap.size w wr) (fun y _ _=>(intOf y).toNat)
 case atStart =>
  exact ⟨8,x,[],rfl,E,I,rfl,by unfold Hid;rw [ZeH];omega,rfl,World.ownsRow_made _ _ 0 (Nat.le_refl _) (by simp) (by simp),(Below.refl _ _).alloc (Nat.le_refl _) _⟩
 case round =>
  obtain ⟨f,q,b,rfl,G,H,s,D,r,d,g⟩:=hrel
  have j:=g.size
  by_cases o:q < 128
  ·go_wp2_with (at_builtin;refine wpList_append_own _ rfl _ _ 161 rfl w.heap.size 5 p (.int .u8 0) 1 1 Tryz.underlying161 hi l h i rfl (by decide) _ _ _ rfl (d.alloc _) ⟨wr.heap.size,0,none⟩ 1 1 [.int .u8 q] rfl rfl (cell_one_new _ _ _) (fun u m=>by simp at m;subst m;rfl) (by unfold maxLen;omega) (by omega) (by simp;omega) ?_)
   intro A F c a _
   go_wp2
   go_ret
   refine ⟨A,rfl,?_,?_⟩
   ·have e:enc 9 x=b ++ [q]:=by rw [<- r.out,Zbe f q o]
    rw [e,Zcd]
    simpa [bv] using c
   ·exact (g.alloc j _).grown a (by simp;omega) (fun k n=>(d.lt k n).1)
  ·go_wp2_with (at_builtin;refine wpList_append_own _ rfl _ _ 161 rfl w.heap.size 5 p (.int .u8 0) 1 1 Tryz.underlying161 hi l h i rfl (by decide) _ _ _ rfl (d.alloc _) ⟨wr.heap.size,0,none⟩ 1 1 [.int .u8 (q % 128+128)] rfl rfl (cell_one_new _ _ _) (fun u m=>by simp at m;subst m;rfl) (by unfold maxLen;omega) (by omega) (by simp;omega) ?_)
   intro A F c a _
   go_wp2
   go_roundw
   case rel =>
    obtain ⟨t,rfl,C⟩:=Zdk f q (by omega) D.out
    refine ⟨t,q / 128,b ++ [q % 128+128],rfl,by omega,by omega,by simp;omega,C,?_,?_,?_⟩
    ·have e:=Zcx (t+1) q (by omega)
     have z:=r.out
     rw [e] at z
     unfold Hid
     rw [<- z]
     simp
    ·rw [Zcd]
     simpa [bv] using c
    ·exact (g.alloc j _).grown a (by simp;omega) (fun k n=>(d.lt k n).1)
   case measure=>simp [intOf];omega
theorem ZaV (x:Int)(w:World)(c:x <= 9223372036854775807) :
  Calls Tryz.prog 147 #[.int .i64 x] w fun e b=>∃ v,e=.returned v/\b.ownsRow w.heap.size 5 1 v (encI x).length (bv (encI x))/\Below w.heap.size w b:=by
 by_cases a:x < 0
 ·rw [Zkz x a];exact Zk6 x w a
 ·rw [Zcn x (by omega)];exact Zkw x w (by omega) c
theorem Zh5 (s:ByteArray)(w:World)(x:s.size <= 2097152) :
  Calls Tryz.prog 174 #[.string s] w fun e o=>∃ v,e=.returned v/\o.ownsRow w.heap.size 5 1 v (pt s).length (bv (pt s))/\Below w.heap.size w o:=by
 obtain ⟨p,hi,l,h,i⟩:=info_parts Zm9
 have hl:=Zaq s.size
 go_enter Tryz.func174,Tryz.ntmps174
 go_wp2_with fail
 refine (ZaV (s.size:Int) _ (by omega)).mono ?_
 rintro e r ⟨n,rfl,b,a⟩
 have j:=a.size
 go_wp2_with (first | (refine ZcJ _ rfl _ 9 161 5 rfl Tryz.underlying9 Tryz.underlying161 Tryz.underlying5 s rfl ?_;intro t y d f q) | (at_builtin;refine wpList_append_own _ rfl _ _ 161 rfl w.heap.size 5 p (.int .u8 0) 1 1 Tryz.underlying161 hi l h i rfl (by decide) n (encI s.size).length (bv (encI s.size)) rfl ?ho ⟨r.heap.size,0,none⟩ s.size _ (bv (sb s)) rfl ?hl ?hn ?h1 ?h63 ?hby ?hba ?_))
 case ho=>exact b.kept f (by cases n.ownBlock <;> simp)
 case hl=>rw [ZaU,ZaJ];simp
 case hn=>exact d
 case h1=>exact ints_oneCell .u8 _
 case h63=>unfold maxLen;omega
 case hby=>omega
 case hba=>omega
 intro u z g c _
 go_wp2_with fail
 go_ret
 refine ⟨u,rfl,?_,(a.grown f j (fun k m=>by cases m)).grown c (by omega) (fun k m=>(b.lt k m).1)⟩
 rw [ZcY,pt,Zcd]
 exact g
end Go.Proofs.YtfeodlbpnghakaaGreatDoor
