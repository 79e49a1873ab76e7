/-
  Texts that stood by themselves, laid into one.
-/
import Derived.Test.YtkpfangkfknhoaaGreatDoorMark2M
import Derived.Test.YtkpfangkfknhoaaGreatDoorNumberM
import Derived.Test.YtkpfangkfknhoaaGreatDoorShapeM
import Derived.Deep.MidRow
/-
  Helpers: a slice of texts read as a list, and the contracts of the laws' helpers on such slices. No condition.
-/
set_option maxRecDepth 100000
set_option maxHeartbeats 1600000
namespace Go.Proofs.YtkpfangkfknhoaaGreatDoor
open Go.Proofs.Tryz
open Go.RowKit
def stv (xs:List ByteArray):List Value:=xs.map Value.string
theorem Zed (a b:List ByteArray):stv (a ++ b)=stv a ++ stv b:=by simp [stv]
theorem ZgD (a:List ByteArray)(i:Nat)(x:ByteArray)(h:a[i]? = some x):(stv a)[i]? = some (.string x):=by simp [stv,h]
theorem Zl6 (a:List ByteArray)(i:Nat)(x:ByteArray):(stv a).set i (.string x)=stv (a.set i x):=by simp [stv,List.map_set]
theorem Zjw (b:List ByteArray):∀ u ∈ stv b,u.oneCell'=true:=by
 intro u a;simp only [stv,List.mem_map] at a;obtain ⟨x,_,rfl⟩:=a;rfl
theorem Ze5 (w:World)(n:Nat):Below w.heap.size w (w.drewN n):=⟨rfl,rfl,rfl,ce _,fun _ _=>rfl⟩
def StRow (w:World)(v:Value)(xs:List ByteArray):Prop :=
 ∃ ao cap,v=.slice ao xs.length cap/\(xs.length <= cap/\(ao=none -> cap=0))/\xs.length <= 9223372036854775807/\(∀ x ∈ xs,x.size <= maxLen) /\
  (xs ≠ [] -> ∃ g o,ao=some ⟨g,o,none⟩/\g < w.heap.size/\∀ i x,xs[i]? = some x -> w.cell? ⟨g,o+i,none⟩=some (.string x))
theorem StRow.small {w:World}{v:Value}{c:List ByteArray}(R:StRow w v c):∃ b a,v=.slice b c.length a:=by
 obtain ⟨b,a,rfl,_⟩:=R;exact ⟨b,a,rfl⟩
theorem StRow.le {w:World}{v:Value}{a:List ByteArray}(R:StRow w v a):a.length <= 9223372036854775807:=by obtain ⟨_,_,_,_,h,_⟩:=R;exact h
theorem StRow.below {w d:World}{v:Value}{f:List ByteArray}(h:StRow w v f)(e:Below w.heap.size w d):StRow d v f:=by
 obtain ⟨n,c,rfl,m,k,l,a⟩:=h;refine ⟨n,c,rfl,m,k,l,fun b=>?_⟩;obtain ⟨g,o,rfl,j,a⟩:=a b;exact ⟨g,o,rfl,cy j e.size,fun i x hi=>(e.cell (p:=⟨g,o+i,none⟩) j).trans (a i x hi)⟩
theorem StRow.nilcap {w:World}{b:Option Addr}{n a:Nat}{g:List ByteArray}(h:StRow w (.slice b n a) g):b=none -> n=0/\a=0:=by
 obtain ⟨f,c,e,⟨i,d⟩,_⟩:=h;simp only [Value.slice.injEq] at e;obtain ⟨rfl,rfl,rfl⟩:=e;intro h;have:=d h;omega
theorem StRow.cells {w:World}{l:Option Addr}{n d:Nat}{k:List ByteArray}(h:StRow w (.slice l n d) k):∀ b,l=some b -> ∀ j u,(stv k)[j]? = some u -> w.cell? (b.add j)=some u:=by
 obtain ⟨p,m,e,_,_,_,q⟩:=h;simp only [Value.slice.injEq] at e;obtain ⟨rfl,rfl,rfl⟩:=e;intro b c j u f;simp only [stv,List.getElem?_map,Option.map_eq_some_iff] at f;obtain ⟨x,i,rfl⟩:=f;obtain ⟨g,o,e,_,a⟩:=q (by intro e;subst e;simp at i);rw [c] at e;cases e;rw [Addr.add_lit];exact a j x i
theorem StRow.of_own {w:World}{base:Nat}{v:Value}{a:List ByteArray}(h:w.ownsRow base 9 1 v a.length (stv a))(e:a.length <= 9223372036854775807)(j:∀ x ∈ a,x.size <= maxLen):StRow w v a:=by
 rcases h.2 with ⟨rfl,k⟩ | ⟨g,d,cur,rfl,n,l,c,m,f,b⟩
 ·have:a=[]:=List.eq_nil_of_length_eq_zero k
  subst this;exact ⟨none,0,rfl,by simp,by simp,by simp,fun h=>absurd rfl h⟩
 ·refine ⟨_,d,rfl,⟨c,fun h=>by cases h⟩,e,j,fun _=>⟨g,0,rfl,(bl l),fun i x hi=>?_⟩⟩
  have o:i < a.length:=(List.getElem?_eq_some_iff.1 hi).1;have:=h.cellAt i (by omega);rw [Nat.zero_add,this,ZgD a i x hi]
theorem ZnD:(prog.info? 9).map (fun i=>(i.zero,i.size,i.bytes))=some (some (.string ByteArray.empty),1,16):=by kernel_rfl
def Za2 (xs:List ByteArray)(j:Nat):List ByteArray:=xs.take j ++ List.replicate (xs.length - j) ByteArray.empty
theorem ZdI (a:List ByteArray)(j:Nat)(h:j <= a.length):(Za2 a j).length=a.length:=by simp [Za2];omega
theorem Zff (a:List ByteArray):Za2 a a.length=a:=by simp [Za2]
theorem Zfj (a:List ByteArray):stv (Za2 a 0)=(madeCells #[.string ByteArray.empty] a.length).toList:=by
 apply List.ext_getElem?;intro j
 by_cases b:j < a.length
 ·simp [Za2,stv,madeCells,b,Nat.mod_one]
 ·simp [Za2,stv,madeCells,b]
theorem ZfF (a:List ByteArray)(j:Nat)(h:j < a.length):(Za2 a j).set j a[j]=Za2 a (j+1):=by
 unfold Za2;rw [show a.length - j=a.length - (j+1)+1 by omega,List.replicate_succ,List.take_succ_eq_append_getElem h];rw [List.set_append_right _ _ (by simp;omega)];have e:j - (List.take j a).length=0:=by simp;omega
 rw [e,List.set_cons_zero,List.append_assoc];rfl
theorem ZcA (v:Value)(b:List ByteArray)(w:World)(R:StRow w v b)(M:b.length <= 2097152) :
  Calls prog 52 #[v] w fun e C=>∃ B,e=.returned B/\C.ownsRow w.heap.size 9 1 B b.length (stv b)/\Below w.heap.size w C:=by
 obtain ⟨N,I,rfl,A,_,L,d⟩:=R;obtain ⟨z,hi,s,t,q⟩:=info_parts ZnD;have f:z.bytes * b.length <= 281474976710656:=by rw [q];omega
 have m:b.length <= maxLen:=by unfold maxLen;omega
 go_enter func52,ntmps52
 go_wp2_with (at_make;refine wpList_make_full _ rfl _ _ 80 rfl w.heap.size 9 z _ 1 underlying80 hi s t _ _ _ _ b.length rfl rfl rfl rfl f m (ce _) ?_)
 intro H a h;have c:Below w.heap.size w H:=(cj _ _).grown h (ce _) (by intro k E;cases E);clear h;go_wp2
 go_loopw [4] (fun i wr=>∃ j:Nat,j <= b.length/\i=.int .i64 j/\wr.ownsRow w.heap.size 9 1 (.slice (some ⟨w.heap.size,0,none⟩) b.length b.length) b.length (stv (Za2 b j))/\Below w.heap.size w wr) (fun i _=>b.length - (intOf i).toNat)
 case atStart=>exact ⟨0,by omega,rfl,by rw [Zfj];exact a,c⟩
 case round =>
  clear a c f m;obtain ⟨j,D,rfl,a,c⟩:=hrel
  by_cases l:j < b.length
  ·obtain ⟨g,o,rfl,J,d⟩:=d (by intro e;subst e;simp at l)
   have c0:=(c.cell (p:=⟨g,o+j,none⟩) J).trans (d j b[j] (by simp [l]));have G:=a.cellAt j (by omega);obtain ⟨y,u⟩:∃ y,(Za2 b j)[j]? = some y:=⟨_,List.getElem?_eq_getElem (by rw [ZdI _ _ D];exact l)⟩;rw [ZgD _ j y u] at G;have K:=a.frozenAt j;have r:=a.stored j (.string b[j]);rw [Zl6,ZfF b j l] at r;have n:Below w.heap.size w (wr.setCell ⟨w.heap.size,j,none⟩ (.string b[j])):=c.setCell (p:=⟨w.heap.size,j,none⟩) (by simp) _;have F:=r.1;clear d a r u;generalize b[j]=x at *;go_wp2
   go_roundw
   case rel=>exact ⟨j+1,by omega,by go_num,F,n⟩
   case measure=>simp [intOf];omega
  ·go_wp2
   go_ret;have:j=b.length:=by omega
   subst this;rw [Zff] at a;exact ⟨_,rfl,a,c⟩
theorem Zcr (v:Value)(b:List ByteArray)(l:Int)(w:World)(R:StRow w v b)(B:0 <= l)(C:l <= 1048576) :
  Calls prog 41 #[v,.int .i64 l] w fun e D=>∃ r:Int,e=.returned (.int .i64 r) /\ -1 <= r/\r <= 1048576/\(0 <= r -> b.length <= 1048576/\∀ x ∈ b,x.size <= 1048576)/\Below w.heap.size w D:=by
 obtain ⟨L,F,rfl,u,J,z,a⟩:=R
 by_cases s:(b.length:Int) <= l
 ·go_enter func41,ntmps41
  go_wp2
  go_loopw [1,5] (fun l i wr=>∃ (k:Nat) (r:Int),k <= b.length/\i=.int .i64 k/\l=.int .i64 r/\0 <= r/\r <= 1048576/\Hid (∀ j x,b[j]? = some x -> j < k -> x.size <= 1048576)/\Below w.heap.size w wr) (fun _ i _=>b.length - (intOf i).toNat)
  case atStart=>exact ⟨0,_,by omega,rfl,rfl,by omega,by omega,fun j x _ h=>by omega,cj _ _⟩
  case round =>
   obtain ⟨k,r,I,rfl,rfl,E,A,t,f⟩:=hrel
   by_cases d:k < b.length
   ·obtain ⟨g,o,rfl,G,a⟩:=a (by intro e;subst e;simp at d)
    obtain ⟨x,c⟩:∃ x,b[k]? = some x:=⟨b[k],by simp [d]⟩;have c0:=(f.cell (p:=⟨g,o+k,none⟩) G).trans (a k x c);have n:=z x (List.mem_of_getElem? c);unfold maxLen at n;have H:Hid (b[k]? = some x):=c;clear a c
    by_cases K:r < x.size
    ·go_wp2
     go_ret;exact ⟨-1,rfl,by omega,by omega,fun h=>by omega,f⟩
    ·go_wp2
     go_roundw
     case rel =>
      refine ⟨k+1,_,by omega,by go_num,rfl,by omega,by omega,fun j y m q=>?_,f⟩
      by_cases e:j=k
      ·subst e
       rw [H.out] at m;cases m;omega
      ·exact t.out j y m (by omega)
     case measure=>simp [intOf];omega
   ·go_wp2
    go_ret;refine ⟨r,rfl,by omega,by omega,fun _=>⟨by omega,fun x c=>?_⟩,f⟩;obtain ⟨j,q,e⟩:=List.getElem_of_mem c;exact t.out j x (by rw [<- e];simp [q]) (by omega)
 ·go_enter func41,ntmps41
  go_wp2;go_ret;exact ⟨-1,rfl,by omega,by omega,fun h=>by omega,cj _ _⟩
theorem Zcs (l vb:Value)(c:List ByteArray)(w:World)(u:StRow w l c)(t:StRow w vb c) :
  Calls prog 68 #[l,vb] w fun e r=>e=.returned (.bool true)/\Below w.heap.size w r:=by
 obtain ⟨F,E,rfl,q,A,z,a⟩:=u;obtain ⟨B,G,rfl,m,_,_,b⟩:=t;have C:((c.length:Int) != (c.length:Int))=false:=by simp
 go_enter func68,ntmps68
 go_wp2
 go_loopw [5] (fun i wr=>∃ k:Nat,k <= c.length/\i=.int .i64 k/\Below w.heap.size w wr) (fun i _=>c.length - (intOf i).toNat)
 case atStart=>exact ⟨0,by omega,rfl,cj _ _⟩
 case round =>
  obtain ⟨k,y,rfl,f⟩:=hrel
  by_cases d:k < c.length
  ·obtain ⟨s,n,rfl,g,a⟩:=a (by intro e;subst e;simp at d)
   obtain ⟨o,v,rfl,j,b⟩:=b (by intro e;subst e;simp at d);obtain ⟨x,h⟩:∃ x,c[k]? = some x:=⟨c[k],by simp [d]⟩;have c0:=(f.cell (p:=⟨s,n+k,none⟩) g).trans (a k x h);have D:=(f.cell (p:=⟨o,v+k,none⟩) j).trans (b k x h);clear a b h;go_wp2
   go_quiet (fail)
   go_wp2
   go_roundw
   case rel=>exact ⟨k+1,by omega,by go_num,f.trans ((Ze5 wr _).mono f.size)⟩
   case measure=>simp [intOf];omega
  ·go_wp2
   go_ret;exact ⟨rfl,f⟩
def sm (k:Int)(n:Nat):List ByteArray:=(List.range n).map fun (j:Nat)=>mt (k+(j:Int))
def smid (k:Int)(pre xs post:List ByteArray)(j:Nat):List ByteArray:=pre ++ (sm k j ++ (xs.drop j ++ post))
theorem Zam {P:Program}{ops:Array Oper}{c:List Oper}{op:Oper}{a:Act}{w:World}{Q:Exit -> Act -> World -> Prop}(f:op.guard=none)(e:TypeId)(x:Operand)(l:op.op=.load e x)(b o:Nat)(i:a.eval x=.pointer (some ⟨b,o,none⟩))(C:Array Value)(t:TypeId)(cs:Array Value)(d:TypeDesc)(k:w.heap[b]? = some (.cells C t (0,0)))(m:C.extract o (o+cs.size)=cs)(j:P.underlying e=some d)(n:d.isRow=true)(hi:(P.info? e).map (·.size)=some cs.size)(h:wpList P ops Q c (a.put op.dst (.agg cs)) w):wpList P ops Q (op :: c) a w:=by
 have g:=World.rangeAt_of_block k o cs.size;rw [m] at g;exact wpList_load_mid f e x l b o i cs.toList d g j n (by simpa using hi) (by simpa using h)
theorem Zda (g:Nat)(e:TypeId):∀ (b:List Value) (o:Nat) (w:World) (cur:Array Value),w.heap[g]? = some (.cells cur e (0,0)) -> o+b.length <= cur.size ->
  ∃ a:Array Value,(w.setCells g o b).heap[g]? = some (.cells a e (0,0))/\a.toList=cur.toList.take o ++ (b ++ cur.toList.drop (o+b.length))
 | [],o,w,cur,h,hb=>⟨cur,h,by simp⟩
 | v :: r,o,w,cur,h,hb=>by
  simp only [List.length_cons] at hb;obtain ⟨a,j,d⟩:=Zda g e r (o+1) (w.setCell ⟨g,o,none⟩ v) _ (cu w g o cur e v h) (by simp;omega);refine ⟨a,j,d.trans ?_⟩;obtain ⟨A,c,B,k,l⟩:∃ A c B,cur.toList=A ++ c :: B/\A.length=o:=⟨cur.toList.take o,cur.toList[o]'(by simp;omega),cur.toList.drop (o+1),by rw [<- List.drop_eq_getElem_cons];exact (List.take_append_drop _ _).symm,by simp;omega⟩;subst l;rw [Array.toList_setIfInBounds,k];have f:A.length+1+r.length - A.length=r.length+1:=by omega
  have i:A.length <= A.length+1+r.length:=by omega
  simp [List.take_append,List.drop_append,List.take_of_length_le,List.drop_of_length_le,f,i]
theorem Zdh (g:Nat):∀ (a:List Value) (o:Nat) (w:World) (k:Nat),k ≠ g -> (w.setCells g o a).heap[k]? = w.heap[k]?
 | [],_,_,_,_=>rfl
 | v :: r,o,w,k,hk=>(Zdh g r (o+1) _ k hk).trans (cr w ⟨g,o,none⟩ k v hk)
theorem ZdT (g:Nat):∀ (a:List Value) (o:Nat) (w:World),(w.setCells g o a).heap.size=w.heap.size
 | [],_,_=>rfl
 | v :: r,o,_=>(ZdT g r (o+1) _).trans (by simp [World.setCell])
theorem Zdd (g:Nat):∀ (b:List Value) (o:Nat) (w a:World),Below g a w -> Below g a (w.setCells g o b)
 | [],_,_,_,h=>h
 | v :: r,o,_,a,h=>Zdd g r (o+1) _ a (h.setCell (p:=⟨g,o,none⟩) (ce _) v)
theorem ZaM {P:Program}{ops:Array Oper}{c:List Oper}{op:Oper}{a:Act}{w:World}{Q:Exit -> Act -> World -> Prop}(m:op.guard=none)(l:TypeId)(x y:Operand)(s:op.op=.store l x y)(g o:Nat)(cells:Array Value)(p:a.eval x=.pointer (some ⟨g,o,none⟩))(n:a.eval y=.agg cells)(t:TypeId)(b d:Array Value)(i:w.heap[g]? = some (.cells b t (0,0)))(u:o+cells.size <= b.size)(hi:(P.info? l).map (·.size)=some cells.size)(v:cells.all (·.oneCell')=true)(z:d.toList=b.toList.take o ++ (cells.toList ++ b.toList.drop (o+cells.size)))(h:∀ f:World,f.heap[g]? = some (.cells d t (0,0)) -> Below g w f -> f.heap.size=w.heap.size -> (∀ k,k ≠ g -> f.heap[k]? = w.heap[k]?) -> wpList P ops Q c (a.put op.dst undef) f):wpList P ops Q (op :: c) a w:=by
 refine wpList_store_mid m l x y s g o cells p n (fun j B=>⟨?_,cw w g _ _ _ i⟩) hi v (h _ ?_ (Zdd g _ _ _ _ (cj _ _)) (ZdT _ _ _ _) (fun k q=>Zdh g _ _ _ k q))
 ·rw [cd w g (o+j) _ _ _ i]
  simp;omega
 ·obtain ⟨e,r,A⟩:=Zda g t cells.toList o w b i (by simpa using u)
  rw [r];have:e=d:=Array.toList_inj.1 (A.trans (by rw [z];simp));rw [this]
theorem Zny:(prog.info? 101).map (·.size)=some 11:=by kernel_rfl
theorem Znv:(prog.info? 79).map (·.size)=some 8:=by kernel_rfl
theorem ZiA (C:Int)(G:0 <= C)(H:C <= 1048576)(i:Int)(v vb M:Value)(k:List Nd)(m:Mc)(n g:List ByteArray)(w:World)(R:NRow w v k)(O:StRow w vb n)(K:StRow w M g) :
  Calls prog 72 #[.agg #[.int .i64 i,v,.int .i64 m.p,.int .i64 m.s,.int .i64 m.e,.int .i64 m.d,.int .i64 m.t,.int .i64 m.q,.int .i64 m.r,vb,M],.int .i64 C] w fun e V=>∃ r:Int,e=.returned (.int .i64 r) /\ -1 <= r/\r <= 1048576/\(0 <= r -> (k.length <= 1048576/\∀ x ∈ k,x.s.size <= 1048576)/\(n.length <= 1048576/\∀ x ∈ n,x.size <= 1048576)/\(g.length <= 1048576/\∀ x ∈ g,x.size <= 1048576))/\Below w.heap.size w V:=by
 have U:=R;obtain ⟨E,o,rfl,_⟩:=U;obtain ⟨F,J,rfl⟩:=O.small;obtain ⟨B,A,rfl⟩:=K.small;have f:Below w.heap.size w (w.alloc (Obj.cells #[.int .i64 i,.slice E k.length o,.int .i64 m.p,.int .i64 m.s,.int .i64 m.e,.int .i64 m.d,.int .i64 m.t,.int .i64 m.q,.int .i64 m.r,.slice F n.length J,.slice B g.length A] 82)):=(cj _ _).alloc (ce _) _
 go_enter func72,ntmps72
 go_wp2_with (refine Zam rfl 79 _ rfl w.heap.size 1 rfl _ 82 #[.slice E k.length o,.int .i64 m.p,.int .i64 m.s,.int .i64 m.e,.int .i64 m.d,.int .i64 m.t,.int .i64 m.q,.int .i64 m.r] _ (co _ _) rfl underlying79 rfl Znv ?_)
 refine (Ziy C G H _ k m _ (R.below f)).mono ?_;rintro e D ⟨r,rfl,h0,h1,Q,l⟩;have c:=(l.block w.heap.size (by simp)).trans (co w (Obj.cells #[.int .i64 i,.slice E k.length o,.int .i64 m.p,.int .i64 m.s,.int .i64 m.e,.int .i64 m.d,.int .i64 m.t,.int .i64 m.q,.int .i64 m.r,.slice F n.length J,.slice B g.length A] 82));have a:=f.trans (l.mono f.size);clear f l
 by_cases Z:r < 0
 ·go_wp2
  go_ret;exact ⟨-1,rfl,by omega,by omega,fun h=>by omega,a⟩
 have k2:D.cell? ⟨w.heap.size,0+9,none⟩=some (.slice F n.length J):=cd D _ 9 _ _ _ c;have I:D.cell? ⟨w.heap.size,0+10,none⟩=some (.slice B g.length A):=cd D _ 10 _ _ _ c;go_wp2_with fail;refine (Zcr _ n r _ (O.below a) (by omega) (by omega)).mono ?_;rintro e P ⟨L,rfl,g0,g1,T,j⟩;have z:=(bb c j);have b:=a.trans (j.mono a.size);clear a j c k2 I
 by_cases W:L < 0
 ·go_wp2
  go_ret;exact ⟨-1,rfl,by omega,by omega,fun h=>by omega,b⟩
 have I:P.cell? ⟨w.heap.size,0+10,none⟩=some (.slice B g.length A):=cd P _ 10 _ _ _ z;go_wp2_with fail;refine (Zcr _ g L _ (K.below b) (by omega) (by omega)).mono ?_;rintro e w3 ⟨N,rfl,Y,f1,X,y⟩;have u:=b.trans (y.mono b.size);clear b y z I
 by_cases S:N < 0
 ·go_wp2
  go_ret;exact ⟨-1,rfl,by omega,by omega,fun h=>by omega,u⟩
 ·go_wp2
  go_ret;exact ⟨N,rfl,by omega,by omega,fun h=>⟨Q (by omega),T (by omega),X h⟩,u⟩
theorem Zi2 (i:Int)(H L J vb bb O:Value)(n:List Nd)(m:Mc)(o h:List ByteArray)(w:World)(W:NRow w H n)(G:StRow w L o)(K:StRow w J h)(V:NRow w vb n)(X:StRow w bb o)(N:StRow w O h) :
  Calls prog 103 #[.agg #[.int .i64 i,H,.int .i64 m.p,.int .i64 m.s,.int .i64 m.e,.int .i64 m.d,.int .i64 m.t,.int .i64 m.q,.int .i64 m.r,L,J],.agg #[.int .i64 i,vb,.int .i64 m.p,.int .i64 m.s,.int .i64 m.e,.int .i64 m.d,.int .i64 m.t,.int .i64 m.q,.int .i64 m.r,bb,O]] w fun e Y=>e=.returned (.bool true)/\Below w.heap.size w Y:=by
 have F:=W;have E:=V;obtain ⟨T,Q,rfl,_⟩:=F;obtain ⟨M,U,rfl,_⟩:=E;obtain ⟨I,c1,rfl⟩:=G.small;obtain ⟨R,c2,rfl⟩:=K.small;obtain ⟨S,c3,rfl⟩:=X.small;obtain ⟨P,c4,rfl⟩:=N.small;obtain ⟨c,u,l⟩:=Zax w (Obj.cells #[.int .i64 i,.slice T n.length Q,.int .i64 m.p,.int .i64 m.s,.int .i64 m.e,.int .i64 m.d,.int .i64 m.t,.int .i64 m.q,.int .i64 m.r,.slice I o.length c1,.slice R h.length c2] 101) (Obj.cells #[.int .i64 i,.slice M n.length U,.int .i64 m.p,.int .i64 m.s,.int .i64 m.e,.int .i64 m.d,.int .i64 m.t,.int .i64 m.q,.int .i64 m.r,.slice S o.length c3,.slice P h.length c4] 101);have Z:(i != i)=false:=by simp
 go_enter func103,ntmps103
 go_wp2_with (first
  | (refine Zam rfl 99 _ rfl w.heap.size 1 rfl _ 101 #[.slice T n.length Q,.int .i64 m.p,.int .i64 m.s,.int .i64 m.e,.int .i64 m.d,.int .i64 m.t,.int .i64 m.q,.int .i64 m.r] _ u rfl underlying99 rfl Znz ?_)
  | (refine Zam rfl 99 _ rfl (w.heap.size+1) 1 rfl _ 101 #[.slice M n.length U,.int .i64 m.p,.int .i64 m.s,.int .i64 m.e,.int .i64 m.d,.int .i64 m.t,.int .i64 m.q,.int .i64 m.r] _ l rfl underlying99 rfl Znz ?_))
 refine (ZhP _ _ n m _ (W.below c) (V.below c)).mono ?_;rintro e z ⟨rfl,g⟩;have a:=c.trans (g.mono c.size);have k:=(bb u g);have j:=(bb l g);clear c u l g;have D:z.cell? ⟨w.heap.size,0+9,none⟩=some (.slice I o.length c1):=cd z _ 9 _ _ _ k;have B:z.cell? ⟨w.heap.size+1,0+9,none⟩=some (.slice S o.length c3):=cd z _ 9 _ _ _ j;go_wp2_with fail;refine (Zcs _ _ o _ (G.below a) (X.below a)).mono ?_;rintro e A ⟨rfl,f⟩;have b:=a.trans (f.mono a.size);have x:=(bb k f);have y:=(bb j f);clear a k j f D B;have D:A.cell? ⟨w.heap.size,0+10,none⟩=some (.slice R h.length c2):=cd A _ 10 _ _ _ x;have B:A.cell? ⟨w.heap.size+1,0+10,none⟩=some (.slice P h.length c4):=cd A _ 10 _ _ _ y;go_wp2_with fail;refine (Zcs _ _ h _ (K.below b) (N.below b)).mono ?_;rintro e w3 ⟨rfl,v⟩;have C:=b.trans (v.mono b.size);clear b x y v D B;go_wp2;go_ret
 exact ⟨rfl,C⟩
structure In where
 o:Int
 n:Int
 i:Int
 s:ByteArray
def In.cs (x:In):List Value:=[.int .i64 x.o,.int .i64 x.n,.int .i64 x.i,.string x.s]
def incs (xs:List In):List Value:=xs.flatMap In.cs
theorem ZdB (x:In)(a:List In):incs (x :: a)=x.cs ++ incs a:=rfl
theorem ZdN (a:List In):(incs a).length=a.length * 4:=by
 induction a with
 | nil=>rfl
 | cons x a ih=>rw [ZdB,List.length_append,ih,List.length_cons];simp [In.cs];omega
theorem ZhL (a:List In)(i:Nat)(x:In)(h:a[i]? = some x)(j:Nat)(b:j < 4):(incs a)[i * 4+j]? = x.cs[j]?:=by
 induction a generalizing i with
 | nil=>simp at h
 | cons y ys ih =>
  rw [ZdB];cases i with
  | zero =>
   simp at h;subst h;rw [Nat.zero_mul,Nat.zero_add,List.getElem?_append_left (by simpa [In.cs] using b)]
  | succ i =>
   rw [List.getElem?_append_right (by simp [In.cs];omega)];rw [show (i+1) * 4+j - y.cs.length=i * 4+j by simp [In.cs];omega];exact ih i (by simpa using h)
theorem Zdr (a:List In)(i:Nat)(x b:In)(h:a[i]? = some x)(j:Nat)(c:j < 4)(u:Value)(e:x.cs.set j u=b.cs):(incs a).set (i * 4+j) u=incs (a.set i b):=by
 induction a generalizing i with
 | nil=>simp at h
 | cons y ys ih =>
  rw [ZdB];cases i with
  | zero =>
   simp at h;subst h;rw [Nat.zero_mul,Nat.zero_add,List.set_append_left _ _ (by simpa [In.cs] using c),e];rfl
  | succ i =>
   rw [List.set_append_right _ _ (by simp [In.cs];omega)];rw [show (i+1) * 4+j - y.cs.length=i * 4+j by simp [In.cs];omega,ih i (by simpa using h)];rfl
theorem Zki (a:List In)(i:Nat)(x b:In)(h:a[i]? = some x)(u:Value)(e:x.cs.set 0 u=b.cs):(incs a).set (i * 4) u=incs (a.set i b) :=
 Zdr a i x b h 0 (by omega) u e
theorem In.one (x:In):∀ u ∈ x.cs,u.oneCell'=true:=by
 intro u a;simp only [In.cs,List.mem_cons,List.not_mem_nil,or_false] at a;rcases a with rfl | rfl | rfl | rfl <;> rfl
def InAt (w:World)(g o:Nat)(x:In):Prop :=
 w.cell? ⟨g,o,none⟩=some (.int .i64 x.o)/\w.cell? ⟨g,o+1,none⟩=some (.int .i64 x.n)/\w.cell? ⟨g,o+2,none⟩=some (.int .i64 x.i)/\w.cell? ⟨g,o+3,none⟩=some (.string x.s)
theorem InAt.below {w c:World}{g o B:Nat}{x:In}(h:InAt w g o x)(a:Below B w c)(b:g < B):InAt c g o x :=
 ⟨(a.cell (p:=⟨g,o,none⟩) b).trans h.1,(a.cell (p:=⟨g,o+1,none⟩) b).trans h.2.1,(a.cell (p:=⟨g,o+2,none⟩) b).trans h.2.2.1,(a.cell (p:=⟨g,o+3,none⟩) b).trans h.2.2.2⟩
def InRow (w:World)(v:Value)(xs:List In):Prop :=
 ∃ ao cap,v=.slice ao xs.length cap/\(xs.length <= cap/\(ao=none -> cap=0))/\xs.length <= 9223372036854775807/\(∀ x ∈ xs,x.s.size <= maxLen) /\
  (xs ≠ [] -> ∃ g o,ao=some ⟨g,o,none⟩/\g < w.heap.size/\∀ i x,xs[i]? = some x -> InAt w g (o+i * 4) x)
theorem InRow.small {w:World}{v:Value}{c:List In}(R:InRow w v c):∃ b a,v=.slice b c.length a:=by
 obtain ⟨b,a,rfl,_⟩:=R;exact ⟨b,a,rfl⟩
theorem InRow.below {w d:World}{v:Value}{f:List In}(h:InRow w v f)(e:Below w.heap.size w d):InRow d v f:=by
 obtain ⟨n,c,rfl,m,k,l,a⟩:=h;refine ⟨n,c,rfl,m,k,l,fun b=>?_⟩;obtain ⟨g,o,rfl,j,a⟩:=a b;exact ⟨g,o,rfl,cy j e.size,fun i x hi=>(a i x hi).below e j⟩
theorem InRow.of_own {w:World}{base:Nat}{v:Value}{a:List In}(h:w.ownsRow base 155 4 v a.length (incs a))(f:a.length <= 9223372036854775807)(m:∀ x ∈ a,x.s.size <= maxLen):InRow w v a:=by
 rcases h.2 with ⟨rfl,n⟩ | ⟨g,d,cur,rfl,q,o,c,p,l,b⟩
 ·have:a=[]:=List.eq_nil_of_length_eq_zero n
  subst this;exact ⟨none,0,rfl,by simp,by simp,by simp,fun h=>absurd rfl h⟩
 ·refine ⟨_,d,rfl,⟨c,fun h=>by cases h⟩,f,m,fun _=>⟨g,0,rfl,(bl o),fun i x hi=>?_⟩⟩
  have r:i < a.length:=(List.getElem?_eq_some_iff.1 hi).1
  have e:∀ j,j < 4 -> w.cell? ⟨g,0+i * 4+j,none⟩=x.cs[j]?:=fun j k=>by
   have:=h.cellAt (i * 4+j) (by omega);rw [Nat.zero_add,this,ZhL a i x hi j k]
  exact ⟨e 0 (by omega),e 1 (by omega),e 2 (by omega),e 3 (by omega)⟩
theorem ZnL:(prog.info? 155).map (fun i=>(i.zero,i.size,i.bytes))=some (some (.agg #[.int .i64 0,.int .i64 0,.int .i64 0,.string ByteArray.empty]),4,40):=by kernel_rfl
theorem ZnM:(prog.info? 155).map (·.size)=some 4:=by kernel_rfl
theorem Zd3 {ops:Array Oper}{e:List Oper}{op:Oper}{a:Act}{w:World}{Q:Exit -> Act -> World -> Prop}(t:op.guard=none)(x y:Operand)(A:op.op=.store 155 x y)(base g i k:Nat)(c:List In)(b:In)(v:a.eval x=.pointer (some ⟨g,i * 4,none⟩))(u:a.eval y=.agg #[.int .i64 b.o,.int .i64 b.n,.int .i64 b.i,.string b.s])(hi:i < c.length)(d:w.ownsRow base 155 4 (.slice (some ⟨g,0,none⟩) c.length k) c.length (incs c))(h:∀ r:World,r.ownsRow base 155 4 (.slice (some ⟨g,0,none⟩) c.length k) c.length (incs (c.set i b)) -> w.grownBy r (some g) -> wpList prog ops Q e (a.put op.dst undef) r):wpList prog ops Q (op :: e) a w:=by
 have z:w.there g (i * 4) 4:=fun j C=>by
  have:=d.cellAt (i * 4+j) (by omega);refine ⟨?_,d.frozenAt _⟩;rw [this,List.getElem?_eq_getElem (by rw [ZdN];omega)];rfl
 refine wpList_store_mid t 155 x y A g (i * 4) _ v u z ZnM (all_oneCell_toArray b.one) ?_;have B:c[i]? = some c[i]:=List.getElem?_eq_getElem hi;have f:∀ y:In,(c.set i y)[i]? = some y:=fun y=>by simp [hi]
 have l:=d.stored (i * 4) (.int .i64 b.o);rw [Zki c i c[i] ⟨b.o,c[i].n,c[i].i,c[i].s⟩ B _ rfl] at l;have m:=l.1.stored (i * 4+1) (.int .i64 b.n);rw [Zdr (c.set i ⟨b.o,c[i].n,c[i].i,c[i].s⟩) i ⟨b.o,c[i].n,c[i].i,c[i].s⟩ ⟨b.o,b.n,c[i].i,c[i].s⟩ (f _) 1 (by omega) (.int .i64 b.n) rfl,List.set_set] at m;have q:=m.1.stored (i * 4+2) (.int .i64 b.i);rw [Zdr (c.set i ⟨b.o,b.n,c[i].i,c[i].s⟩) i ⟨b.o,b.n,c[i].i,c[i].s⟩ ⟨b.o,b.n,b.i,c[i].s⟩ (f _) 2 (by omega) (.int .i64 b.i) rfl,List.set_set] at q;have p:=q.1.stored (i * 4+3) (.string b.s);rw [Zdr (c.set i ⟨b.o,b.n,b.i,c[i].s⟩) i ⟨b.o,b.n,b.i,c[i].s⟩ ⟨b.o,b.n,b.i,b.s⟩ (f _) 3 (by omega) (.string b.s) rfl,List.set_set] at p;exact h _ p.1 (((l.2.trans m.2).trans q.2).trans p.2)
theorem ZlE (x:In)(w:World) :
  Calls prog 83 #[.agg #[.int .i64 x.o,.int .i64 x.n,.int .i64 x.i,.string x.s]] w fun e a=>e=.returned (.agg #[.int .i64 x.o,.int .i64 x.n,.int .i64 x.i,.string x.s])/\Below w.heap.size w a:=by
 go_enter func83,ntmps83
 go_wp2
 exact cx (results_cell_row rfl _ _ (w.heap.size+1) 155 _ (0,0) _ rfl ((cz _ _ (by simp)).trans (cH _ _ _)) underlying155 rfl ZnM) rfl
  ⟨rfl,(((cj _ _).alloc (ce _) _).alloc (by simp) _).alloc (by simp;omega) _⟩
theorem ZkK (x:In)(l:Int)(w:World)(d:x.s.size <= maxLen)(f:0 <= l)(c:l <= 1048576) :
  Calls prog 70 #[.agg #[.int .i64 x.o,.int .i64 x.n,.int .i64 x.i,.string x.s],.int .i64 l] w fun e b=>e=.returned (.int .i64 (less l x.s.size))/\Below w.heap.size w b:=by
 unfold maxLen at d
 go_enter func70,ntmps70
 by_cases h:l < x.s.size
 ·have a:Hid (less l x.s.size = -1):=by unfold Hid less;rw [if_pos h]
  go_wp2;go_ret;exact ⟨by rw [a.out];rfl,(cj _ _).alloc (ce _) _⟩
 ·have a:Hid (less l x.s.size=l - x.s.size):=by unfold Hid less;rw [if_neg h]
  go_wp2;go_ret;exact ⟨by rw [a.out];rfl,(cj _ _).alloc (ce _) _⟩
theorem Zlf (x:In)(w:World) :
  Calls prog 101 #[.agg #[.int .i64 x.o,.int .i64 x.n,.int .i64 x.i,.string x.s],.agg #[.int .i64 x.o,.int .i64 x.n,.int .i64 x.i,.string x.s]] w fun e a=>e=.returned (.bool true)/\Below w.heap.size w a:=by
 go_enter func101,ntmps101
 go_wp2;go_ret;exact ⟨rfl,((cj _ _).alloc (ce _) _).alloc (by simp) _⟩
def Zf7:In:=⟨0,0,0,ByteArray.empty⟩
def ZaP (xs:List In)(j:Nat):List In:=xs.take j ++ List.replicate (xs.length - j) Zf7
theorem Zdx (a:List In)(j:Nat)(h:j <= a.length):(ZaP a j).length=a.length:=by simp [ZaP];omega
theorem ZeK (a:List In):ZaP a a.length=a:=by simp [ZaP]
theorem Zi1 (n:Nat):incs (List.replicate n Zf7)=(madeCells #[Value.int .i64 0,.int .i64 0,.int .i64 0,.string ByteArray.empty] (n * 4)).toList:=by
 apply List.ext_getElem?;intro j
 by_cases b:j < n * 4
 ·have c:j / 4 < n:=by omega
  rw [show j=j / 4 * 4+j % 4 by omega,ZhL _ (j / 4) Zf7 (by simp [c]) (j % 4) (by omega)];rw [show j / 4 * 4+j % 4=j by omega];have a:j % 4=0 \/ j % 4=1 \/ j % 4=2 \/ j % 4=3:=by omega
  rcases a with a | a | a | a <;> simp [madeCells,b,a,Zf7,In.cs]
 ·rw [List.getElem?_eq_none (by rw [ZdN,List.length_replicate];omega),List.getElem?_eq_none (by simp [madeCells];omega)]
theorem Zfe (a:List In):incs (ZaP a 0)=(madeCells #[Value.int .i64 0,.int .i64 0,.int .i64 0,.string ByteArray.empty] (a.length * 4)).toList:=by
 rw [<- Zi1];simp [ZaP]
theorem Zgq (a:List In)(j:Nat)(h:j < a.length):(ZaP a j).set j a[j]=ZaP a (j+1):=by
 unfold ZaP;rw [show a.length - j=a.length - (j+1)+1 by omega,List.replicate_succ,List.take_succ_eq_append_getElem h];rw [List.set_append_right _ _ (by simp;omega)];have e:j - (List.take j a).length=0:=by simp;omega
 rw [e,List.set_cons_zero,List.append_assoc];rfl
theorem Zjo (v:Value)(a:List In)(w:World)(R:InRow w v a)(M:a.length <= 2097152) :
  Calls prog 46 #[v] w fun e D=>∃ C,e=.returned C/\D.ownsRow w.heap.size 155 4 C a.length (incs a)/\Below w.heap.size w D:=by
 obtain ⟨N,J,rfl,B,_,L,d⟩:=R;obtain ⟨A,hi,y,z,x⟩:=info_parts ZnL;have f:A.bytes * a.length <= 281474976710656:=by rw [x];omega
 have n:a.length <= maxLen:=by unfold maxLen;omega
 go_enter func46,ntmps46
 go_wp2_with (at_make;refine wpList_make_full _ rfl _ _ 41 rfl w.heap.size 155 A _ 4 underlying41 hi y z _ _ _ _ a.length rfl rfl rfl rfl f n (ce _) ?_)
 intro I c m;have b:Below w.heap.size w I:=(cj _ _).grown m (ce _) (by intro k t;cases t);clear m;go_wp2
 go_loopw [4] (fun i wr=>∃ j:Nat,j <= a.length/\i=.int .i64 j/\wr.ownsRow w.heap.size 155 4 (.slice (some ⟨w.heap.size,0,none⟩) a.length a.length) a.length (incs (ZaP a j))/\Below w.heap.size w wr) (fun i _=>a.length - (intOf i).toNat)
 case atStart=>exact ⟨0,by omega,rfl,by rw [Zfe];exact c,b⟩
 case round =>
  clear c b f n;obtain ⟨j,E,rfl,c,b⟩:=hrel
  by_cases q:j < a.length
  ·obtain ⟨g,o,rfl,K,d⟩:=d (by intro e;subst e;simp at q)
   obtain ⟨c0,c1,c2,c3⟩:=(d j a[j] (by simp [q])).below b K;have G:=Zdx a j E;clear d;go_wp2_with fail;refine (ZlE a[j] _).mono ?_;rintro e F ⟨rfl,p⟩
   have h:F.ownsRow w.heap.size 155 4 (.slice (some ⟨w.heap.size,0,none⟩) (ZaP a j).length a.length) (ZaP a j).length (incs (ZaP a j)):=by
    rw [G];exact Zad c p
   have r:=b.trans (p.mono b.size);clear c0 c1 c2 c3 c p b
   go_wp2_with (refine Zd3 rfl _ _ rfl w.heap.size w.heap.size j a.length (ZaP a j) a[j] rfl rfl (by omega) h ?_)
   intro H l s;rw [Zgq a j q] at l;have u:Below w.heap.size w H:=r.grown s r.size (fun k t=>by simp at t;omega);clear h s;go_wp2
   go_roundw
   case rel=>exact ⟨j+1,by omega,by go_num,l,u⟩
   case measure=>simp [intOf];omega
  ·go_wp2
   go_ret;have:j=a.length:=by omega
   subst this;rw [ZeK] at c;exact ⟨_,rfl,c,b⟩
theorem Zji (v:Value)(b:List In)(l:Int)(w:World)(R:InRow w v b)(F:0 <= l)(G:l <= 1048576) :
  Calls prog 35 #[v,.int .i64 l] w fun e H=>∃ r:Int,e=.returned (.int .i64 r) /\ -1 <= r/\r <= 1048576/\(0 <= r -> b.length <= 1048576/\∀ x ∈ b,x.s.size <= 1048576)/\Below w.heap.size w H:=by
 obtain ⟨O,I,rfl,D,M,E,a⟩:=R
 by_cases A:(b.length:Int) <= l
 ·go_enter func35,ntmps35
  go_wp2
  go_loopw [1,5] (fun l i wr=>∃ (k:Nat) (r:Int),k <= b.length/\i=.int .i64 k/\l=.int .i64 r/\0 <= r/\r <= 1048576/\Hid (∀ j x,b[j]? = some x -> j < k -> x.s.size <= 1048576)/\Below w.heap.size w wr) (fun _ i _=>b.length - (intOf i).toNat)
  case atStart=>exact ⟨0,_,by omega,rfl,rfl,by omega,by omega,fun j x _ h=>by omega,cj _ _⟩
  case round =>
   obtain ⟨k,r,L,rfl,rfl,u,q,B,n⟩:=hrel
   by_cases f:k < b.length
   ·obtain ⟨g,o,rfl,J,a⟩:=a (by intro e;subst e;simp at f)
    obtain ⟨x,c⟩:∃ x,b[k]? = some x:=⟨b[k],by simp [f]⟩;obtain ⟨c0,c1,c2,c3⟩:=(a k x c).below n J;have t:=E x (List.mem_of_getElem? c);have K:Hid (b[k]? = some x):=c;clear a c;go_wp2_with fail;refine (ZkK x _ _ t u q).mono ?_;rintro e N ⟨rfl,d⟩;have m:=n.trans (d.mono n.size);clear c0 c1 c2 c3 d
    by_cases C:r < x.s.size
    ·rw [less,if_pos C]
     go_wp2;go_ret;exact ⟨-1,rfl,by omega,by omega,fun h=>by omega,m⟩
    ·rw [less,if_neg C]
     go_wp2
     go_roundw
     case rel =>
      refine ⟨k+1,_,by omega,by go_num,rfl,by omega,by omega,fun j y p z=>?_,m⟩
      by_cases e:j=k
      ·subst e
       rw [K.out] at p;cases p;omega
      ·exact B.out j y p (by omega)
     case measure=>simp [intOf];omega
   ·go_wp2
    go_ret;refine ⟨r,rfl,by omega,by omega,fun _=>⟨by omega,fun x c=>?_⟩,n⟩;obtain ⟨j,z,e⟩:=List.getElem_of_mem c;exact B.out j x (by rw [<- e];simp [z]) (by omega)
 ·go_enter func35,ntmps35
  go_wp2;go_ret;exact ⟨-1,rfl,by omega,by omega,fun h=>by omega,cj _ _⟩
theorem ZjA (n vb:Value)(c:List In)(w:World)(z:InRow w n c)(y:InRow w vb c) :
  Calls prog 62 #[n,vb] w fun e t=>e=.returned (.bool true)/\Below w.heap.size w t:=by
 obtain ⟨I,H,rfl,p,C,B,a⟩:=z;obtain ⟨F,K,rfl,o,_,_,b⟩:=y;have G:((c.length:Int) != (c.length:Int))=false:=by simp
 go_enter func62,ntmps62
 go_wp2
 go_loopw [5] (fun i wr=>∃ k:Nat,k <= c.length/\i=.int .i64 k/\Below w.heap.size w wr) (fun i _=>c.length - (intOf i).toNat)
 case atStart=>exact ⟨0,by omega,rfl,cj _ _⟩
 case round =>
  obtain ⟨k,A,rfl,g⟩:=hrel
  by_cases d:k < c.length
  ·obtain ⟨J,D,rfl,h,a⟩:=a (by intro e;subst e;simp at d)
   obtain ⟨E,L,rfl,m,b⟩:=b (by intro e;subst e;simp at d);obtain ⟨x,l⟩:∃ x,c[k]? = some x:=⟨c[k],by simp [d]⟩;obtain ⟨c0,c1,c2,c3⟩:=(a k x l).below g h;obtain ⟨r,u,v,s⟩:=(b k x l).below g m;clear a b l;go_wp2_with fail
   go_region_with (go_at_call 101;refine (Zlf x _).mono ?_;rintro e q ⟨rfl,f⟩)
   all_goals
    have j:Below w.heap.size w q:=g.drew.trans (f.mono g.size);clear c0 c1 c2 c3 r u v s f;go_wp2
    go_roundw
    case rel=>exact ⟨k+1,by omega,by go_num,j⟩
    case measure=>simp [intOf];omega
  ·go_wp2
   go_ret;exact ⟨rfl,g⟩
end Go.Proofs.YtkpfangkfknhoaaGreatDoor
