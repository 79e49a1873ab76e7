/-
  Texts that stood by themselves, laid into one.
-/
import Derived.Test.YtanhoamdlhaaeaaGreatDoorR8aM
import Derived.Test.YtanhoamdlhaaeaaGreatDoorShapeM
import Derived.Laws.CopyOwn
/-
  Contract of (*impl.numForm).add: one byte more in the form.
-/
set_option maxRecDepth 100000
set_option maxHeartbeats 1600000
namespace Go.Proofs.YtanhoamdlhaaeaaGreatDoor
open Go.Proofs.Tryz
open Go.RowKit
def ZbV (xs:List Int):Array Value:=(bv (xs ++ List.replicate (9 - xs.length) 0) ++ [Value.int .i64 xs.length]).toArray
theorem ZeA (a:List Int)(h:a.length <= 9)(i:Nat)(hi:i < 9):(ZbV a)[i]? = some (.int .u8 ((a ++ List.replicate (9 - a.length) 0).getD i 0)):=by
 have b:(a ++ List.replicate (9 - a.length) 0).length=9:=by simp;omega
 unfold ZbV;rw [List.getElem?_toArray,List.getElem?_append_left (by rw [ZaV,b];exact hi)];exact ZhP _ i (by rw [b];exact hi)
theorem ZbG (a:List Int)(h:a.length <= 9):(ZbV a)[9]? = some (.int .i64 a.length):=by
 have b:(a ++ List.replicate (9 - a.length) 0).length=9:=by simp;omega
 unfold ZbV;rw [List.getElem?_toArray,List.getElem?_append_right (by rw [ZaV,b];exact ce _)];simp [ZaV,b]
theorem Zh1 (a:List Int)(b:Int)(h:a.length < 9):((ZbV a).setIfInBounds a.length (.int .u8 b)).setIfInBounds 9 (.int .i64 ((a.length:Int)+1))=ZbV (a ++ [b]):=by
 have e:List.replicate (9 - a.length) (0:Int)=0 :: List.replicate (9 - (a ++ [b]).length) 0:=by
  rw [show 9 - a.length=(9 - (a ++ [b]).length)+1 by simp;omega,List.replicate_succ]
 apply Array.ext';simp only [ZbV,Array.toList_setIfInBounds,List.toList_toArray,bv,List.map_append];rw [e];simp only [List.map_cons,List.append_assoc];rw [List.set_append_right _ _ (by simp)];simp only [List.length_map,Nat.sub_self,List.cons_append,List.set_cons_zero];rw [List.set_append_right _ _ (by simp;omega)];rw [show 9 - (List.map (Value.int IntKind.u8) a).length=9 - (a.length+1)+1 by simp;omega,List.set_cons_succ];rw [List.set_append_right _ _ (by simp)];simp
theorem Zkl (B:Nat)(b:Int)(a:List Int)(w:World)(g:a.length < 9)(f:w.heap[B]? = some (.cells (ZbV a) 286 (0,0))) :
  Calls prog 205 #[.pointer (some ⟨B,0,none⟩),.int .u8 b] w fun e j=>e=.returned (.tuple #[])/\j.heap[B]? = some (.cells (ZbV (a ++ [b])) 286 (0,0))/\Below B w j:=by
 have c:∀ i,w.cell? ⟨B,i,none⟩=(ZbV a)[i]?:=fun i=>cd w B i _ 286 (0,0) f
 have d:∀ i,w.frozen? ⟨B,i,none⟩=false:=fun i=>cj w B i _ 286 f
 have k:w.cell? ⟨B,9,none⟩=some (.int .i64 a.length):=by rw [c,ZbG a (by omega)]
 have m:=d 9;have l:=(c a.length).trans (ZeA a (by omega) a.length g);have n:=d a.length;clear c d
 go_enter func205,ntmps205
 go_wp2
 go_region
 all_goals go_wp2
 all_goals go_end0
 refine ⟨rfl,?_,(((cf B w).setCell (p:=⟨B,a.length,none⟩) (ce B) _).setCell (p:=⟨B,9,none⟩) (ce B) _).drew⟩;rw [<- Zh1 a b g];exact ci _ B 9 _ 286 _ (ci w B a.length _ 286 _ f)
def nV (bs:List Int):Int × Bool:=if 1 < bs.length/\bs.getLast? = some 0 then (0,false) else (val bs,true)
theorem Zh2 (a:List Int)(h:a.length <= 9)(w:World)(F:Nat)(b:w.heap[F]? = some (.cells (ZbV a) 286 (0,0)))(i:Nat)(hi:i < a.length) :
  w.cell? ⟨F,i,none⟩=some (.int .u8 a[i]):=by
 rw [cd w F i _ 286 (0,0) b,ZeA a h i (by omega),List.getD_eq_getElem?_getD,List.getElem?_append_left hi];simp [hi]
theorem Zj4 (a:List Int)(m:Nat)(h:m < a.length):val (a.drop m)=val (a.drop (m+1)) * 128+a[m] % 128:=by
 rw [List.drop_eq_getElem_cons h];simp only [val];omega
theorem Zk6 (a:List Int)(n:Nat)(l:Int)(c:a.length=n+1)(b:a[n]? = some l)(d:0 < n)(h:l=0):nV a=(0,false):=by
 have e:a.getLast? = some 0:=by rw [List.getLast?_eq_getElem?,c,Nat.add_sub_cancel,b,h]
 unfold nV;rw [if_pos ⟨by omega,e⟩]
theorem Zll (a:List Int)(n:Nat)(l:Int)(b:a.length=n+1)(c:a[n]? = some l)(h:n=0 \/ (0 < n/\¬ l=0)):nV a=(val a,true):=by
 have e:a.getLast? = some l:=by rw [List.getLast?_eq_getElem?,b,Nat.add_sub_cancel,c]
 unfold nV;rw [if_neg];rw [e,b];simp only [Option.some.injEq];omega
theorem Zhh (F:Nat)(a:List Int)(w:World)(K:1 <= a.length)(u:a.length <= 9)(o:∀ z ∈ a,0 <= z/\z <= 255)(s:w.heap[F]? = some (.cells (ZbV a) 286 (0,0))) :
  Calls prog 206 #[.pointer (some ⟨F,0,none⟩)] w fun e I=>e=.returned (.tuple #[.int .i64 (nV a).1,.bool (nV a).2])/\I=w:=by
 obtain ⟨n,d⟩:∃ n,a.length=n+1:=⟨a.length - 1,by omega⟩;have G:n < 9:=by omega
 have J:w.cell? ⟨F,9,none⟩=some (.int .i64 ((n:Int)+1)):=by
  rw [cd w F 9 _ 286 (0,0) s,ZbG a u,d];simp
 have k:=Zh2 a u w F s;clear s;obtain ⟨l,c⟩:∃ l,a[n]? = some l:=⟨a[n],by simp⟩
 have B:w.cell? ⟨F,n,none⟩=some (.int .u8 l):=by
  have:=k n (by omega);rw [this];rw [List.getElem?_eq_getElem (by omega)] at c;rw [Option.some.inj c]
 have C:=o l (List.mem_of_getElem? c)
 by_cases b:0 < n/\l=0
 ·have r:Hid (nV a=(0,false)):=Zk6 a n l d c b.1 b.2
  obtain ⟨E,rfl⟩:=b;clear k o c d
  go_enter func206,ntmps206
  go_wp2
  go_ret2
  exact ⟨by rw [r.out];rfl,rfl⟩
 ·have f:n=0 \/ (0 < n/\¬ l=0):=by omega
  have r:Hid (nV a=(val a,true)):=Zll a n l d c f;have t:Hid (a.length=n+1):=d;have f:n < 1 \/ (0 < n/\¬ l=0):=by omega
  clear b d c;rcases f with f | ⟨f,D⟩
  all_goals
   go_enter func206,ntmps206
   go_wp2
   go_loop [5,6] (fun x i=>∃ (j:Nat) (q:Int),j <= n+1/\i=.int .i64 q/\x=.int .i64 (val (a.drop j))/\Hid (q=(j:Int) - 1)) (fun _ i=>(intOf i+1).toNat)
   case atStart=>exact ⟨n+1,n,by omega,by go_num,by rw [List.drop_eq_nil_of_le (by have:=t.out;omega)];rfl,by unfold Hid;omega⟩
   case round =>
    obtain ⟨j,q,M,rfl,rfl,p⟩:=hrel;cases j with
    | zero =>
     have y:q < 0:=by have:=p.out;omega
     go_wp2
     go_ret2
     exact ⟨by rw [r.out];rfl,rfl⟩
    | succ m =>
     have y:q=(m:Int):=by have:=p.out;omega
     subst y;clear p;have g:m < a.length:=by have:=t.out;omega
     have L:=k m g;have N:=ZbD (a.drop (m+1));have v:=Zc4 (show (a.drop (m+1)).length <= 8 by simp;omega);have A:Hid (val (a.drop m)=val (a.drop (m+1)) * 128+a[m] % 128):=Zj4 a m g;have H:=o a[m] (List.getElem_mem _);clear k o;go_wp2
     go_round
     case rel=>exact ⟨m,_,by omega,rfl,by rw [A.out],rfl⟩
     case measure=>simp [intOf]
def One (w:World)(P:Nat)(a:Int):Prop:=w.heap[P]? = some (.cells #[.int .i64 a] 3 (0,0))
theorem One.cell {w:World}{P:Nat}{a:Int}(h:One w P a):w.cell? ⟨P,0,none⟩=some (.int .i64 a):=by
 rw [cd w P 0 _ 3 (0,0) h];rfl
theorem One.free {w:World}{P:Nat}{a:Int}(h:One w P a):w.frozen? ⟨P,0,none⟩=false:=cj w P 0 _ 3 h
theorem One.lt {w:World}{P:Nat}{a:Int}(h:One w P a):P < w.heap.size:=(bl h)
theorem One.set {w:World}{P:Nat}{a:Int}(h:One w P a)(b:Int):One (w.setCell ⟨P,0,none⟩ (.int .i64 b)) P b:=ci w P 0 _ 3 _ h
theorem One.kept {w c:World}{P:Nat}{a:Int}(h:One w P a){row:Option Nat}(d:w.grownBy c row)(b:some P ≠ row):One c P a:=(d.block P h.lt b).trans h
theorem One.below {w b:World}{P B:Nat}{a:Int}(h:One w P a)(d:Below B w b)(c:P < B):One b P a:=(d.block P c).trans h
theorem Zin (v:Value)(c:List Int)(P:Nat)(a:Int)(w:World)(R:∃ d b,v=.slice d c.length b)(h:One w P a)(_hl:c.length <= 140737488351232)(f:a < 0 \/ (c.length:Int) <= a) :
  Calls prog 204 #[.agg #[v,.pointer (some ⟨P,0,none⟩)]] w fun e g=>e=.returned (.tuple #[.int .u8 0,.bool false])/\One g P a/\w.grownBy g (some P):=by
 obtain ⟨d,b,rfl⟩:=R;have l:=h.cell;have k:=h.lt
 by_cases i:a < 0
 ·clear f
  go_enter func204,ntmps204
  go_wp2
  go_ret2
  exact ⟨rfl,h.kept (cr w _ none) (by simp),cr w _ _⟩
 ·have j:(c.length:Int) <= a:=by omega
  clear f
  go_enter func204,ntmps204
  go_wp2
  go_ret2
  exact ⟨rfl,h.kept (cr w _ none) (by simp),cr w _ _⟩
theorem Zjx (a:List Int)(P n g o c:Nat)(w:World)(h:One w P n)(q:a.length <= 140737488351232)(r:n < a.length)(d:w.cell? ⟨g,o+n,none⟩=some (.int .u8 a[n]))(k:g ≠ P) :
  Calls prog 204 #[.agg #[.slice (some ⟨g,o,none⟩) a.length c,.pointer (some ⟨P,0,none⟩)]] w fun e f=>e=.returned (.tuple #[.int .u8 a[n],.bool true])/\One f P ((n:Int)+1)/\w.grownBy f (some P):=by
 have m:=h.cell;have p:=h.free;have l:=h.lt;have j:=World.block_lt_of_cell? _ _ d;simp only at j;generalize a[n]=b at d ⊢
 go_enter func204,ntmps204
 go_wp2
 go_ret2
 have i:=(h.set ((n:Int)+1)).kept (cr (w.setCell ⟨P,0,none⟩ (.int .i64 ((n:Int)+1))) (.cells #[.slice (some ⟨g,o,none⟩) a.length c,.pointer (some ⟨P,0,none⟩)] 225) none) (by simp);exact ⟨rfl,i,Zaj (Zam w P 0 _) (cr _ _ _)⟩
theorem Zal {w b c:World}{row:Option Nat}{B:Nat}(h:w.grownBy b row)(k:Below B b c)(d:w.heap.size <= B):w.grownBy c row :=
 ⟨k.os.trans h.os,k.tape.trans h.tape,k.output.trans h.output,Nat.le_trans h.size k.size,fun i hi a=>(k.block i (by omega)).trans (h.block i hi a)⟩
theorem Zli (a:List Int)(n:Nat)(b:List Int)(h:scan 9 (a.drop n)=some b) :
  (gN a (n:Int)).1=(nV b).1/\(gN a (n:Int)).2.2=(nV b).2/\((gN a (n:Int)).2.2=true -> (gN a (n:Int)).2.1=(n:Int)+b.length):=by
 have c:¬ (n:Int) < 0:=by omega
 simp only [gN,c,if_false,Int.toNat_natCast,h,nV];split <;> simp
def ZfH (w:World)(F:Nat):Nat :=
 match w.cell? ⟨F,9,none⟩ with
 | some v=>(intOf v).toNat
 | none=>0
theorem Zdx {w:World}{F:Nat}{a:List Int}(h:a.length <= 9)(b:w.heap[F]? = some (.cells (ZbV a) 286 (0,0))):ZfH w F=a.length:=by
 unfold ZfH;rw [cd w F 9 _ 286 (0,0) b,ZbG a h];simp [intOf]
theorem Zkx (v:Value)(d:List Int)(P:Nat)(a:Int)(w:World)(R:∃ f b,v=.slice f d.length b)(h:One w P a)(n:d.length <= 140737488351232)(m:a < 0 \/ (d.length:Int) <= a) :
  Calls prog 185 #[.agg #[v,.pointer (some ⟨P,0,none⟩)]] w fun e l=>e=.returned (.tuple #[.int .i64 0,.bool false])/\(∃ q,One l P q)/\w.grownBy l (some P):=by
 have o:=h.lt;obtain ⟨f,b,rfl⟩:=R
 go_enter func185,ntmps185
 go_wp2_with fail;refine wp_loop_rounds 1 ?_;rw [rounds_succ];go_wp2_with fail
 have g:w.grownBy ((w.alloc (Obj.cells #[Value.slice f d.length b,Value.pointer (some ⟨P,0,none⟩)] 225)).alloc (Obj.cells (ZbV []) 286)) (some P) :=
  Zaj (cr _ _ _) (cr _ _ _)
 have k:One ((w.alloc (Obj.cells #[Value.slice f d.length b,Value.pointer (some ⟨P,0,none⟩)] 225)).alloc (Obj.cells (ZbV []) 286)) P a :=
  (h.kept (cr w _ none) (by simp)).kept (cr _ _ none) (by simp)
 refine (Zin _ d P a _ ⟨f,b,rfl⟩ k n m).mono ?_;rintro e p ⟨rfl,i,c⟩;have j:=Zaj g c;clear g k c;go_wp2_with fail
 go_ret2
 exact ⟨rfl,⟨_,i⟩,j⟩
theorem Zk7 (a:List Int)(P n g o u:Nat)(w:World)(h:One w P n)(hl:a.length <= 140737488351232)(hn:n < a.length)(hz:∀ z ∈ a,0 <= z/\z <= 255)(T:∀ i,i < a.length -> w.cell? ⟨g,o+i,none⟩=some (.int .u8 (a.getD i 0)))(hg:g < w.heap.size)(K:g ≠ P) :
  Calls prog 185 #[.agg #[.slice (some ⟨g,o,none⟩) a.length u,.pointer (some ⟨P,0,none⟩)]] w fun e w' =>
   e=.returned (.tuple #[.int .i64 (gN a n).1,.bool (gN a n).2.2])/\(∃ q,One w' P q/\((gN a n).2.2=true -> q=(gN a n).2.1))/\w.grownBy w' (some P):=by
 have hP:=h.lt
 go_enter func185,ntmps185
 go_wp2_with fail
 go_loopw [5] (fun _ wr=>∃ (k:Nat) (b:List Int),k <= 9/\n+k <= a.length/\Hid (Sc a n k b)/\Hid (∀ z ∈ b,0 <= z/\z <= 255)/\One wr P ((n:Int)+k)/\wr.heap[w.heap.size+1]? = some (.cells (ZbV b) 286 (0,0)) /\
   wr.heap[w.heap.size]? = some (.cells #[.slice (some ⟨g,o,none⟩) a.length u,.pointer (some ⟨P,0,none⟩)] 225 (0,0))/\w.grownBy wr (some P)) (fun _ wr=>9 - ZfH wr (w.heap.size+1))
 case atStart =>
  refine ⟨0,[],by omega,by omega,Sc.start a n,by simp [Hid],?_,cw _ _ _,heap_alloc2_old _ _ _,Zaj (cr _ _ _) (cr _ _ _)⟩;rw [show (n:Int)+((0:Nat):Int)=(n:Int) by omega];exact (h.kept (cr w _ none) (by simp)).kept (cr _ _ none) (by simp)
 case round =>
  obtain ⟨k,b,hk,aa,H,HZ,s,f,m,B⟩:=hrel;have E:=H.out.1
  have U:wr.cell? ⟨w.heap.size+1,9,none⟩=some (.int .i64 k):=by
   rw [cd wr _ 9 _ 286 (0,0) f,ZbG b (by omega),E]
  have R:wr.cell? ⟨w.heap.size,0,none⟩=some (.slice (some ⟨g,o,none⟩) a.length u):=by rw [cd wr _ 0 _ 225 (0,0) m];rfl
  have S:wr.cell? ⟨w.heap.size,1,none⟩=some (.pointer (some ⟨P,0,none⟩)):=by rw [cd wr _ 1 _ 225 (0,0) m];rfl
  have O:Hid (b.length=k):=E;clear E
  by_cases Z:k < 9
  ·by_cases x:n+k < a.length
   ·have J:wr.cell? ⟨g,o+(n+k),none⟩=some (.int .u8 a[n+k]):=by
     rw [World.cell?_of_block (w:=w) (B.block g hg (by simpa using K)),T (n+k) x];simp [x]
    have y:One wr P ((n+k:Nat):Int):=by rw [show ((n+k:Nat):Int)=(n:Int)+k by omega];exact s
    have Y:=hz a[n+k] (List.getElem_mem _);have M:some (w.heap.size+1) ≠ some P:=by simp;omega
    have L:some w.heap.size ≠ some P:=by simp;omega
    have X:=(bl f);have W:=(bl m)
    have I:Hid (∀ z ∈ b ++ [a[n+k]],0 <= z/\z <= 255):=by
     intro z C;simp only [List.mem_append,List.mem_singleton] at C;rcases C with C | rfl
     ·exact HZ.out z C
     ·exact Y
    have t:Hid ((b ++ [a[n+k]]).length=k+1):=by unfold Hid;rw [List.length_append,O.out];rfl
    go_wp2_with fail;refine (Zjx a P (n+k) g o u wr y hl x J K).mono ?_;rintro e Q ⟨rfl,l,c⟩;have p:Q.heap[w.heap.size+1]? = some (.cells (ZbV b) 286 (0,0)):=(c.block _ X M).trans f;have v:Q.heap[w.heap.size]? = some (.cells #[.slice (some ⟨g,o,none⟩) a.length u,.pointer (some ⟨P,0,none⟩)] 225 (0,0)):=(c.block _ W L).trans m;clear U R S s y J;go_wp2_with fail;refine (Zkl (w.heap.size+1) a[n+k] b Q (by have:=O.out;omega) p).mono ?_;rintro e w2 ⟨rfl,j,d⟩;have A:=l.below d (by omega);have G:=(d.block _ (by omega)).trans v;have r:=Zal (Zaj B c) d (by omega);clear p v l c d
    by_cases F:a[n+k] < 128
    ·have N:=H.out.last Z x F
     have D:Hid _:=Zli a n _ N;clear N;go_wp2_with fail;refine (Zhh (w.heap.size+1) (b ++ [a[n+k]]) w2 (by rw [t.out];omega) (by rw [t.out];omega) I.out j).mono ?_;rintro e w3 ⟨rfl,rfl⟩;go_wp2_with fail
     go_ret2
     obtain ⟨e1,e2,e3⟩:=D.out;refine ⟨by rw [e1,e2];rfl,⟨_,A,fun V=>?_⟩,r⟩;rw [e3 V,t.out];omega
    ·go_wp2_with fail
     go_roundw
     case rel =>
      exact ⟨k+1,b ++ [a[n+k]],by omega,by omega,H.out.more Z x (by omega),I,by rw [show (n:Int)+((k+1:Nat):Int)=((n+k:Nat):Int)+1 by omega];exact A,j,G,r⟩
     case measure =>
      rw [Zdx (by rw [t.out];omega) j,Zdx (by rw [O.out];omega) f,t.out,O.out];omega
   ·have D:Hid (gN a (n:Int)=(0,0,false)):=Zcx a n (H.out.out (Or.inr (by omega)))
    go_wp2_with fail;refine (Zin _ a P _ wr ⟨_,_,rfl⟩ s hl (Or.inr (by omega))).mono ?_;rintro e Q ⟨rfl,l,c⟩;have r:=Zaj B c;go_wp2_with fail
    go_ret2
    exact ⟨by rw [D.out];rfl,⟨_,l,by rw [D.out];intro h;cases h⟩,r⟩
  ·have D:Hid (gN a (n:Int)=(0,0,false)):=Zcx a n (H.out.out (Or.inl (by omega)))
   go_wp2_with fail
   go_ret2
   exact ⟨by rw [D.out];rfl,⟨_,s,by rw [D.out];intro h;cases h⟩,B⟩
theorem Zip (v:Value)(c:List Int)(P:Nat)(a:Int)(k w:World)(R:Row k v c)(r:Below k.heap.size k w)(A:k.heap.size <= P)(h:One w P a) :
  Calls prog 185 #[.agg #[v,.pointer (some ⟨P,0,none⟩)]] w fun e m =>
   e=.returned (.tuple #[.int .i64 (gN c a).1,.bool (gN c a).2.2])/\(∃ q,One m P q/\((gN c a).2.2=true -> q=(gN c a).2.1))/\w.grownBy m (some P):=by
 obtain ⟨u,f,rfl,s,t,z,b⟩:=R
 by_cases d:a < 0 \/ (c.length:Int) <= a
 ·have j:gN c a=(0,0,false):=by
   by_cases x:a < 0
   ·exact Zkb c a x
   ·obtain ⟨n,rfl⟩:=cu (show 0 <= a by omega)
    exact Zcx c n ((Sc.start c n).out (Or.inr (by omega)))
  rw [j];refine (Zkx _ c P a w ⟨u,f,rfl⟩ h t d).mono ?_;rintro e m ⟨rfl,⟨q,y⟩,l⟩;exact ⟨rfl,⟨q,y,by intro h;cases h⟩,l⟩
 ·obtain ⟨n,rfl⟩:=cu (show 0 <= a by omega)
  obtain ⟨g,o,rfl,j,b⟩:=b (by intro e;subst e;simp at d);exact Zk7 c P n g o f w h t (by omega) z (fun i hi=>(r.cell (p:=⟨g,o+i,none⟩) j).trans (b i hi)) (cm j r.size) (by omega)
end Go.Proofs.YtanhoamdlhaaeaaGreatDoor
