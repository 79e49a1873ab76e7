/-
  Texts that stood by themselves, laid into one.
-/
import Derived.Test.YtanhoamdlhaaeaaGreatDoorR8cM
import Derived.Test.YtanhoamdlhaaeaaGreatDoorIGetM
import Derived.Test.YtanhoamdlhaaeaaGreatDoorShapeM
import Derived.Deep.RegionHeld3
/-
  Contracts of (impl.reader).text and impl.GetText, for every slice of bytes within the form's reach and every place.
-/
set_option maxRecDepth 100000
set_option maxHeartbeats 3200000
namespace Go.Proofs.YtanhoamdlhaaeaaGreatDoor
open Go.Proofs.Tryz
open Go.RowKit
theorem ZjX (v:Value)(b:List Int)(P:Nat)(a:Int)(y w:World)(R:Row y v b)(K:Below y.heap.size y w)(S:y.heap.size <= P)(h:One w P a) :
  Calls prog 209 #[.agg #[v,.pointer (some ⟨P,0,none⟩)]] w fun e M =>
   e=.returned (.tuple #[.string (gT b a).1,.bool (gT b a).2.2])/\(∃ q,One M P q/\((gT b a).2.2=true -> q=(gT b a).2.1))/\w.grownBy M (some P):=by
 have N:=R;obtain ⟨B,l,rfl,C,hm,X,d⟩:=N;clear X;have T:=h.lt
 go_enter func209,ntmps209
 go_wp2_with fail;have f:Below y.heap.size y (w.alloc (Obj.cells #[Value.slice B b.length l,Value.pointer (some ⟨P,0,none⟩)] 225)):=K.alloc K.size _;have A:One (w.alloc (Obj.cells #[Value.slice B b.length l,Value.pointer (some ⟨P,0,none⟩)] 225)) P a:=h.kept (cr w _ none) (by simp);refine (Zip _ b P a y _ R f S A).mono ?_;rintro e j ⟨rfl,⟨q,c,I⟩,x⟩;have F:w.heap.size < (w.alloc (Obj.cells #[Value.slice B b.length l,Value.pointer (some ⟨P,0,none⟩)] 225)).heap.size:=by simp
 have s:j.heap[w.heap.size]? = some (.cells #[Value.slice B b.length l,Value.pointer (some ⟨P,0,none⟩)] 225 (0,0)):=(x.block _ F (by simp;omega)).trans (cg w _);have U:j.cell? ⟨w.heap.size,0,none⟩=some (.slice B b.length l):=by rw [cd j _ 0 _ 225 (0,0) s];rfl
 have V:j.cell? ⟨w.heap.size,1,none⟩=some (.pointer (some ⟨P,0,none⟩)):=by rw [cd j _ 1 _ 225 (0,0) s];rfl
 have hc:=c.cell;have hf:=c.free;have t:w.grownBy j (some P):=Zaj (cr w _ _) x;have m:Below y.heap.size y j:=f.grown x f.size (fun k W=>by simp at W;omega);clear f A F s x R;generalize H:gN b a=r at I ⊢;obtain ⟨n,next,L⟩:=r;have G:Hid (gN b a=(n,next,L)):=H;clear H;cases L with
 | false =>
  have z:Hid (gT b a=(⟨#[]⟩,0,false)):=Zjk b a n next false G.out (Or.inl rfl);clear I;go_wp2_with fail
  go_ret2
  exact ⟨by rw [z.out];rfl,⟨q,c,by rw [z.out];intro h;cases h⟩,t⟩
 | true =>
  obtain ⟨O,Y,Q,Z⟩:=Zjj b a n next G.out;obtain ⟨n,rfl⟩:=cu O;obtain ⟨next,rfl⟩:=cu Q;obtain rfl:q=(next:Int):=I rfl;clear I
  by_cases E:(b.length:Int) - next < n
  ·have z:Hid (gT b a=(⟨#[]⟩,0,false)):=Zjk b a _ _ true G.out (Or.inr E)
   go_wp2_with fail
   go_ret2
   exact ⟨by rw [z.out];rfl,⟨_,c,by rw [z.out];intro h;cases h⟩,t⟩
  ·have z:Hid (gT b a=(strOfNums ((b.drop next).take n),(next:Int)+n,true)):=Zkc b a n next G.out (by omega)
   have D:next+n <= b.length:=by omega
   have u:b ≠ [] -> ∃ g o,B=some ⟨g,o,none⟩/\g < (j.setCell ⟨P,0,none⟩ (.int .i64 ((next:Int)+n))).heap.size/\∀ i,i < b.length -> (j.setCell ⟨P,0,none⟩ (.int .i64 ((next:Int)+n))).cell? ⟨g,o+i,none⟩=some (.int .u8 (b.getD i 0)):=by
    intro J;obtain ⟨g,o,rfl,H,d⟩:=d J;have hs:=m.size;refine ⟨g,o,rfl,by simp [World.setCell];omega,fun i hi=>?_⟩;rw [World.cell?_of_block (w:=j) (ch j ⟨P,0,none⟩ g _ (by simp;omega)),m.cell (p:=⟨g,o+i,none⟩) H];exact d i hi
   clear d
   go_wp2_with (refine Zbt _ rfl _ 144 9 5 rfl underlying144 underlying9 underlying5 _ _ _ ((b.drop next).take n) rfl (by rw [Zdt b next n D];omega) (by rw [Nat.add_sub_cancel_left];simpa using Zep u next n D C) ?_)
   all_goals go_ret2
   all_goals exact ⟨by rw [z.out];rfl,⟨_,c.set _,by rw [z.out];intro _;rfl⟩,Zaj t (Zam j P 0 _)⟩
theorem ZiK (l:List Int):(strOfNums l).size=l.length:=by
 unfold strOfNums;simp [ByteArray.size]
def badV (p:Int):Value:=.iface 238 (.agg #[.int .i64 p])
def ZhN (b:Int)(n:Nat)(r:Value):Prop:=(b < n/\∃ p,r=badV p) \/ (¬ b < n/\r=.nilIface)
theorem ZjI (v:Value)(d:List Int)(P:Nat)(b:Int)(w:World)(R:∃ f a,v=.slice f d.length a)(j:One w P b) :
  Calls prog 173 #[.agg #[v,.pointer (some ⟨P,0,none⟩)]] w fun e o=>∃ r,e=.returned r/\ZhN b d.length r/\Below w.heap.size w o:=by
 obtain ⟨f,a,rfl⟩:=R;have c:Below w.heap.size w (w.alloc (Obj.cells #[Value.slice f d.length a,Value.pointer (some ⟨P,0,none⟩)] 225)):=(cf _ _).alloc (ce _) _;have k:=j.below c j.lt;have n:=k.cell;obtain ⟨W,l⟩:∃ W,w.alloc (Obj.cells #[Value.slice f d.length a,Value.pointer (some ⟨P,0,none⟩)] 225)=W:=⟨_,rfl⟩;have m:W.heap[w.heap.size]? = some (.cells #[Value.slice f d.length a,Value.pointer (some ⟨P,0,none⟩)] 225 (0,0)):=by rw [<- l];exact cg _ _
 rw [l] at c k n;have q:W.cell? ⟨w.heap.size,0,none⟩=some (.slice f d.length a):=cd W _ 0 _ _ _ m;have s:W.cell? ⟨w.heap.size,1,none⟩=some (.pointer (some ⟨P,0,none⟩)):=cd W _ 1 _ _ _ m
 go_enter func173,ntmps173
 go_wp2_with fail
 go_quiet (fail)
 by_cases g:b < d.length
 ·have i:∀ p,ZhN b d.length (badV p):=fun p=>Or.inl ⟨g,p,rfl⟩
  go_wp2;go_ret;exact ⟨_,rfl,i _,c.trans ⟨rfl,rfl,rfl,ce _,fun _ _=>rfl⟩⟩
 ·have i:ZhN b d.length .nilIface:=Or.inr ⟨g,rfl⟩
  go_wp2;go_ret;exact ⟨_,rfl,i,c.trans ⟨rfl,rfl,rfl,ce _,fun _ _=>rfl⟩⟩
theorem Zcv {P:Program}(w:World){ops:Array Oper}{i:List Oper}{o:Oper}{a:Act}{Q:Exit -> Act -> World -> Prop}(v:o.guard=none)(x:Operand)(g f e:TypeId)(y:o.op=.convert g f x)(z:P.underlying g=some .string)(r:P.underlying f=some (.slice e))(t:P.underlying e=some (.int .u8))(s:ByteArray)(B:a.eval x=.string s)(h:∀ b d,s.size <= b -> (∀ j u,(bv (sb s))[j]? = some u -> d.cell? ((⟨w.heap.size,0,none⟩:Addr).add j)=some u) -> w.grownBy d none -> w.heap.size < d.heap.size -> wpList P ops Q i (a.put o.dst (.slice (some ⟨w.heap.size,0,none⟩) s.size b)) d) :
  wpList P ops Q (o :: i) a w:=by
 refine wpList_plain v fun K q=>?_
 obtain ⟨b,d,k,l,m,n,p⟩:∃ b d,(convert g f (.string s)).run P w=.ok (.slice (some ⟨w.heap.size,0,none⟩) s.size b) d/\s.size <= b /\
   (∀ j u,(bv (sb s))[j]? = some u -> d.cell? ((⟨w.heap.size,0,none⟩:Addr).add j)=some u)/\w.grownBy d none/\w.heap.size < d.heap.size:=by
  refine ⟨_,_,run_bytes_of_string w g f e s z r t,?_,?_,?_,?_⟩
  ·exact grownCap_ge _ _ _ _
  ·intro j u A
   rw [Addr.add_lit,Nat.zero_add,cd _ w.heap.size j _ e _ (cg w.drew _)];exact ZcB s _ j u A
  ·have c:=cr w.drew (Obj.cells (bytesRow s (grownCap w s.size 0 e)) e ((bytesRow s (grownCap w s.size 0 e)).size,(bytesRow s (grownCap w s.size 0 e)).size+1)) none
   exact ⟨c.os,c.tape,c.output,c.size,c.block⟩
  ·show w.heap.size < (w.heap.push _).size
   simp
 unfold Oper.wp;simp [execOp,y,B,k,Result.andThen];exact q _ _ (h b d l m n p)
theorem ZlY:(prog.info? 225).map (·.size)=some 2:=by kernel_rfl
theorem ZcI {w b:World}{s:ByteArray}{a:Nat}(f:s.size <= 140737488351232)(c:s.size <= a)(d:∀ j u,(bv (sb s))[j]? = some u -> b.cell? ((⟨w.heap.size,0,none⟩:Addr).add j)=some u)(e:w.heap.size < b.heap.size):Row b (.slice (some ⟨w.heap.size,0,none⟩) s.size a) (sb s):=by
 refine ⟨some ⟨w.heap.size,0,none⟩,a,by rw [Zbr],by rw [Zbr];exact c,by rw [Zbr];exact f,ZjQ s,fun _=>⟨w.heap.size,0,rfl,e,fun i hi=>?_⟩⟩;have:=d i (.int .u8 ((sb s).getD i 0)) (by rw [ZhP (sb s) i hi])
 rwa [Addr.add_lit] at this
theorem Zfb (s:ByteArray)(w:World)(L:s.size <= 140737488351232) :
  Calls prog 162 #[.string s] w fun e G=>∃ v j P,e=.returned (.agg #[v,.pointer (some ⟨P,0,none⟩)])/\Row j v (sb s)/\Below w.heap.size w j/\Below j.heap.size j G/\j.heap.size <= P/\One G P 0:=by
 go_enter func162,ntmps162
 go_wp2_with (first
  | (refine Zcv _ rfl _ 9 144 5 rfl underlying9 underlying144 underlying5 s rfl ?_;intro b a I E r F;have B:=(r.block w.heap.size (by simp) (by simp)).trans (cg w _);have d:=(cn a (Obj.cells #[Value.int .i64 0] 3) (bl B)).trans B)
  | (refine wpList_store_row rfl 225 _ _ rfl w.heap.size #[.slice (some ⟨w.heap.size+1,0,none⟩) s.size b,.pointer (some ⟨a.heap.size,0,none⟩)] rfl rfl 225 _ d ZlY rfl (by simp [Value.oneCell']) ?_))
 have D:(w.alloc (Obj.cells #[Value.slice none 0 0,Value.pointer none] 225)).heap.size=w.heap.size+1:=by simp
 have C:=ZcI (w:=w.alloc (Obj.cells #[Value.slice none 0 0,Value.pointer none] 225)) L I E F;rw [D] at C F;have A:=setRow_heap a w.heap.size _ #[.slice (some ⟨w.heap.size+1,0,none⟩) s.size b,.pointer (some ⟨a.heap.size,0,none⟩)] _ _ B;have p:=setRow_heap (a.alloc (Obj.cells #[Value.int .i64 0] 3)) w.heap.size _ #[.slice (some ⟨w.heap.size+1,0,none⟩) s.size b,.pointer (some ⟨a.heap.size,0,none⟩)] _ _ d
 have n:Row (a.setRow w.heap.size #[.slice (some ⟨w.heap.size+1,0,none⟩) s.size b,.pointer (some ⟨a.heap.size,0,none⟩)]) (.slice (some ⟨w.heap.size+1,0,none⟩) s.size b) (sb s):=by
  obtain ⟨H,c,q,M,N,O,Q⟩:=C;refine ⟨H,c,q,M,N,O,fun z=>?_⟩;obtain ⟨g,o,rfl,K,J⟩:=Q z
  obtain ⟨rfl,rfl⟩:g=w.heap.size+1/\o=0:=by
   simp only [Value.slice.injEq,Option.some.injEq,Addr.mk.injEq] at q;exact ⟨q.1.1.symm,q.1.2.1.symm⟩
  refine ⟨_,_,rfl,by rw [size_setRow];exact K,fun i hi=>?_⟩;rw [World.cell?_of_block (w:=a) (setRow_other a w.heap.size (w.heap.size+1) _ (by omega))];exact J i hi
 have x:Below w.heap.size w (a.setRow w.heap.size #[.slice (some ⟨w.heap.size+1,0,none⟩) s.size b,.pointer (some ⟨a.heap.size,0,none⟩)]):=by
  have l:Below w.heap.size w (w.alloc (Obj.cells #[Value.slice none 0 0,Value.pointer none] 225)):=(cf _ _).alloc (ce _) _;have t:Below w.heap.size w a:=l.grown r l.size (fun k y=>by cases y);exact below_setRow t (ce _) _
 have u:Below a.heap.size (a.setRow w.heap.size #[.slice (some ⟨w.heap.size+1,0,none⟩) s.size b,.pointer (some ⟨a.heap.size,0,none⟩)]) ((a.alloc (Obj.cells #[Value.int .i64 0] 3)).setRow w.heap.size #[.slice (some ⟨w.heap.size+1,0,none⟩) s.size b,.pointer (some ⟨a.heap.size,0,none⟩)]):=by
  refine ⟨rfl,rfl,rfl,by simp,fun k y=>?_⟩
  by_cases f:k=w.heap.size
  ·subst f
   rw [A,p]
  ·rw [setRow_other _ _ _ _ f,setRow_other _ _ _ _ f]
   exact cn a _ y
 have m:One ((a.alloc (Obj.cells #[Value.int .i64 0] 3)).setRow w.heap.size #[.slice (some ⟨w.heap.size+1,0,none⟩) s.size b,.pointer (some ⟨a.heap.size,0,none⟩)]) a.heap.size 0:=(setRow_other _ _ _ _ (by omega)).trans (cg a _);clear d E r D;go_wp2;exact ck (results_cell_row rfl _ _ w.heap.size 225 _ (0,0) _ rfl p underlying225 rfl ZlY) rfl ⟨_,_,_,rfl,n,x,by rw [size_setRow];exact u,by rw [size_setRow];exact ce _,m⟩
structure K2 (P M:Nat)(w w':World):Prop where
 os:w'.os=w.os
 tape:w'.tape=w.tape
 output:w'.output=w.output
 size:w.heap.size <= w'.heap.size
 block:∀ k,k < w.heap.size -> k ≠ P -> k ≠ M -> w'.heap[k]? = w.heap[k]?
theorem K2.refl (P M:Nat)(w:World):K2 P M w w:=⟨rfl,rfl,rfl,ce _,fun _ _ _ _=>rfl⟩
theorem K2.trans {P M:Nat}{a b c:World}(h:K2 P M a b)(k:K2 P M b c):K2 P M a c :=
 ⟨k.os.trans h.os,k.tape.trans h.tape,k.output.trans h.output,Nat.le_trans h.size k.size,fun i hi d e=>(k.block i (cm hi h.size) d e).trans (h.block i hi d e)⟩
theorem K2.ofP {P M:Nat}{w a:World}(h:w.grownBy a (some P)):K2 P M w a:=⟨h.os,h.tape,h.output,h.size,fun k c b _=>h.block k c (by simp [b])⟩
theorem K2.ofM {P M:Nat}{w a:World}(h:w.grownBy a (some M)):K2 P M w a:=⟨h.os,h.tape,h.output,h.size,fun k c _ b=>h.block k c (by simp [b])⟩
theorem K2.ofB {P M:Nat}{w a:World}(h:Below w.heap.size w a):K2 P M w a:=⟨h.os,h.tape,h.output,h.size,fun k b _ _=>h.block k b⟩
theorem K2.below {P M B:Nat}{w a:World}(h:K2 P M w a)(b:B <= w.heap.size)(d:B <= P)(c:B <= M):Below B w a:=⟨h.os,h.tape,h.output,h.size,fun k e=>h.block k (by omega) (by omega) (by omega)⟩
theorem K2.grown {P M:Nat}{w a:World}(h:K2 P M w a)(d:w.heap.size <= M):w.grownBy a (some P):=⟨h.os,h.tape,h.output,h.size,fun k c b=>h.block k c (by simpa using b) (by omega)⟩
def rdK (zs:List Int):Nat -> Int -> Option (List Int × Int)
 | 0,a=>some ([],a)
 | n+1,a=>(rd1 zs a).bind fun p=>(rdK zs n p.2).map fun q=>(p.1 :: q.1,q.2)
theorem ZcR (b:List Int):∀ (n:Nat) (a:Int),rdK b (n+1) a=(rdK b n a).bind fun q=>(rd1 b q.2).map fun p=>(q.1 ++ [p.1],p.2)
 | 0,a=>by
  simp only [rdK,Option.bind_some];cases rd1 b a <;> rfl
 | n+1,a=>by
  rw [rdK];cases h:rd1 b a with
  | none=>simp [rdK,h]
  | some p =>
   simp only [Option.bind_some];rw [ZcR b n p.2,rdK,h];simp only [Option.bind_some];cases rdK b n p.2 with
   | none=>rfl
   | some q=>simp only [Option.bind_some,Option.map_some];cases rd1 b q.2 <;> rfl
theorem Ziv {e:List Int}:∀ {n:Nat} {a:Int} {q:List Int × Int},rdK e n a=some q -> q.1.length=n
 | 0,a,q,h=>by cases h;rfl
 | n+1,a,q,h=>by
  rw [rdK,Option.bind_eq_some_iff] at h;obtain ⟨p,_,b⟩:=h;rw [Option.map_eq_some_iff] at b;obtain ⟨t,c,d⟩:=b;cases d;simp [Ziv c]
theorem Zgw {b:List Int}{a:Int}:∀ {n m:Nat},n <= m -> rdK b n a=none -> rdK b m a=none
 | n,0,h,e=>by
  obtain rfl:n=0:=by omega
  exact e
 | n,m+1,h,e=>by
  rcases Nat.lt_or_ge n (m+1) with c | c
  ·rw [ZcR,Zgw (by omega) e];rfl
  ·obtain rfl:n=m+1:=by omega
   exact e
def tgt (M:Nat)(os:List Nat):Array Value:=(os.map fun o=>Value.pointer (some ⟨M,o,none⟩)).toArray
def setL (cs:Array Value)(os:List Nat)(vs:List Int):Array Value:=(os.zip vs).foldl (fun c p=>c.setIfInBounds p.1 (.int .i64 p.2)) cs
theorem ZiD (cs:Array Value)(os:List Nat)(a:List Int)(x:Int)(o:Nat)(h:os[a.length]? = some o):setL cs (os.take (a.length+1)) (a ++ [x])=(setL cs (os.take a.length) a).setIfInBounds o (.int .i64 x):=by
 obtain ⟨c,b⟩:=List.getElem?_eq_some_iff.1 h;unfold setL;rw [List.take_succ_eq_append_getElem c,b,List.zip_append (by simp;omega),List.foldl_append];rfl
theorem ZiC (cs:Array Value)(os:List Nat)(a:List Int):(setL cs os a).size=cs.size:=by
 unfold setL;generalize os.zip a=l
 induction l generalizing cs with
 | nil=>rfl
 | cons p l ih=>rw [List.foldl_cons,ih];simp
theorem ZkW {b:List Int}{a x n:Int}(h:gN b a=(x,n,true)):rd1 b a=some (x,n):=by unfold rd1;rw [h];rfl
theorem ZkV {b:List Int}{a x n:Int}(h:gN b a=(x,n,false)):rd1 b a=none:=by unfold rd1;rw [h];rfl
theorem Zdd (v:Value)(f:List Int)(x w:World)(P M L:Nat)(a:Int)(cs:Array Value)(t:TypeId)(os:List Nat)(R:Row x v f)(hb:Below x.heap.size x w)(hP:x.heap.size <= P)(hM:x.heap.size <= M)(h1:One w P a)(hm:w.heap[M]? = some (.cells cs t (0,0)))(ai:∀ o ∈ os,o < cs.size)(hL:w.heap[L]? = some (.cells (tgt M os) 223 (0,0)))(E:P ≠ M)(V:L ≠ P)(U:L ≠ M)(hn:os.length <= 10) :
  Calls prog 176 #[.agg #[v,.pointer (some ⟨P,0,none⟩)],.slice (some ⟨L,0,none⟩) os.length os.length] w fun e y=>K2 P M w y /\
   ((∃ q,rdK f os.length a=some q/\e=.returned .nilIface/\One y P q.2/\y.heap[M]? = some (.cells (setL cs os q.1) t (0,0)))
    \/ (rdK f os.length a=none/\(∃ p,e=.returned (badV p))/\(∃ q,One y P q)/\∃ d:List Int,d.length < os.length/\y.heap[M]? = some (.cells (setL cs (os.take d.length) d) t (0,0)))):=by
 have R':=R;obtain ⟨N,r,rfl,_⟩:=R';have aj:=h1.lt;have Y:=(bl hm);have W:=(bl hL);have ac:=hb.size
 go_enter func176,ntmps176
 go_wp2_with fail;have T:K2 P M w (w.alloc (Obj.cells #[Value.slice N f.length r,Value.pointer (some ⟨P,0,none⟩)] 225)):=K2.ofB ((cf _ _).alloc (ce _) _)
 go_loopw [12] (fun i wr=>∃ (k:Nat) (d:List Int) (c:Int),k <= os.length/\i=.int .i64 k/\Hid (rdK f k a=some (d,c))/\One wr P c/\wr.heap[M]? = some (.cells (setL cs (os.take k) d) t (0,0)) /\
   wr.heap[w.heap.size]? = some (.cells #[Value.slice N f.length r,Value.pointer (some ⟨P,0,none⟩)] 225 (0,0))/\K2 P M w wr) (fun i _=>os.length - (intOf i).toNat)
 case atStart =>
  refine ⟨0,[],a,by omega,rfl,rfl,h1.kept (cr w _ none) (by simp),?_,cg _ _,T⟩;exact (cn _ _ Y).trans hm
 case round =>
  obtain ⟨k,d,c,hk,rfl,K,j,u,b,O⟩:=hrel;have C:d.length=k:=Ziv K.out;have aa:wr.cell? ⟨w.heap.size,0,none⟩=some (.slice N f.length r):=cd wr _ 0 _ _ _ b;have ab:wr.cell? ⟨w.heap.size,1,none⟩=some (.pointer (some ⟨P,0,none⟩)):=cd wr _ 1 _ _ _ b;have hc:=j.cell
  by_cases ah:k < os.length
  ·obtain ⟨o,ho⟩:∃ o,os[k]? = some o:=⟨os[k],by simp [ah]⟩
   have H:=ai o (List.mem_of_getElem? ho);have X:=(O.block L W V U).trans hL
   have ag:wr.cell? ⟨L,k,none⟩=some (.pointer (some ⟨M,o,none⟩)):=by
    rw [cd wr _ k _ _ _ X];simp [tgt,ho]
   have F:Below x.heap.size x wr:=hb.trans (O.below ac hP hM);obtain ⟨g,hg⟩:∃ g,Hid (gN f c=g):=⟨_,rfl⟩;obtain ⟨z,gn,S⟩:=g
   have HN:Calls prog 185 #[.agg #[.slice N f.length r,.pointer (some ⟨P,0,none⟩)]] wr fun e y =>
     e=.returned (.tuple #[.int .i64 z,.bool S])/\(∃ q,One y P q/\(S=true -> q=gn))/\wr.grownBy y (some P):=by
    have:=Zip _ f P c x wr R F hP j;rw [hg.out] at this;exact this
   go_wp2_with fail;refine HN.mono ?_;rintro e m ⟨rfl,⟨q,l,hq⟩,B⟩;have Z:=(bl u);have s:=(B.block M Z (by simpa using fun e=>E e.symm)).trans u;have A:=(B.block _ (bl b) (by simp;omega)).trans b;have D:=O.trans (K2.ofP B);clear aa ab hc ag HN;cases S with
   | false =>
    have HE:Hid (rdK f os.length a=none):=Zgw (n:=k+1) (by omega) (by rw [ZcR,K.out];simp only [Option.bind_some];rw [ZkV hg.out];rfl);go_wp2;go_ret;exact ⟨D,Or.inr ⟨HE.out,⟨_,rfl⟩,⟨_,l⟩,d,by omega,by rw [C];exact s⟩⟩
   | true =>
    obtain rfl:=hq rfl;have ad:m.cell? ⟨M,o,none⟩=some ((setL cs (os.take k) d)[o]'(by rw [ZiC];exact H)):=by rw [cd m _ o _ _ _ s,Array.getElem?_eq_getElem]
    have ak:m.frozen? ⟨M,o,none⟩=false:=cj m _ o _ _ s;have Q:Hid (rdK f (k+1) a=some (d ++ [z],q)):=by unfold Hid;rw [ZcR,K.out];simp only [Option.bind_some];rw [ZkW hg.out];rfl
    have J:=ci m M o _ _ (.int .i64 z) s;have af:K2 P M m (m.setCell ⟨M,o,none⟩ (.int .i64 z)):=K2.ofM (Zam m M o _);have I:One (m.setCell ⟨M,o,none⟩ (.int .i64 z)) P q:=(ch m ⟨M,o,none⟩ P _ (by simpa using E)).trans l;have G:=(ch m ⟨M,o,none⟩ w.heap.size (.int .i64 z) (by simp;omega)).trans A;go_wp2
    go_roundw
    case rel =>
     refine ⟨k+1,d ++ [z],q,by omega,by go_num,Q,I,?_,G,D.trans af⟩;rw [J,<- C,ZiD _ _ _ _ o (by rw [C];exact ho)]
    case measure=>simp [intOf];omega
  ·have ae:k=os.length:=by omega
   subst ae;rw [List.take_length] at u;go_wp2;go_ret;exact ⟨O,Or.inl ⟨_,K.out,rfl,j,u⟩⟩
end Go.Proofs.YtanhoamdlhaaeaaGreatDoor
