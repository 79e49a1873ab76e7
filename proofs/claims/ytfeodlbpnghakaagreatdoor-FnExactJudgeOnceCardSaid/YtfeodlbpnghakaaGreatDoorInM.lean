/-
  Texts that stood by themselves, laid into one.
-/
import Derived.Test.YtfeodlbpnghakaaGreatDoorMark2M
import Derived.Test.YtfeodlbpnghakaaGreatDoorNumberM
import Derived.Test.YtfeodlbpnghakaaGreatDoorShapeM
import Derived.Deep.MidRow
/-
  Helpers: a slice of texts read as a list, and the contracts of the laws' helpers on such slices. No condition.
-/
set_option maxRecDepth 100000
set_option maxHeartbeats 1600000
namespace Go.Proofs.YtfeodlbpnghakaaGreatDoor
open Go.RowKit
def stv (xs:List ByteArray):List Value:=xs.map Value.string
theorem Zd2 (a b:List ByteArray):stv (a ++ b)=stv a ++ stv b:=by simp [stv]
theorem Zgh (a:List ByteArray)(i:Nat)(x:ByteArray)(h:a[i]? = some x):(stv a)[i]? = some (.string x):=by simp [stv,h]
theorem Zlz (a:List ByteArray)(i:Nat)(x:ByteArray):(stv a).set i (.string x)=stv (a.set i x):=by simp [stv,List.map_set]
theorem ZiL (b:List ByteArray):∀ u ∈ stv b,u.oneCell'=true:=by
 intro u a
 simp only [stv,List.mem_map] at a
 obtain ⟨x,_,rfl⟩:=a
 rfl
theorem ZkL (w:World)(n:Nat):Below w.heap.size w (w.drewN n):=⟨rfl,rfl,rfl,Nat.le_refl _,fun _ _=>rfl⟩
def StRow (w:World)(v:Value)(xs:List ByteArray):Prop :=
 ∃ ao cap,v=.slice ao xs.length cap/\(xs.length <= cap/\(ao=none -> cap=0))/\xs.length <= 9223372036854775807/\(∀ x ∈ xs,x.size <= maxLen) /\
  (xs ≠ [] -> ∃ g o,ao=some ⟨g,o,none⟩/\g < w.heap.size/\∀ i x,xs[i]? = some x -> w.cell? ⟨g,o+i,none⟩=some (.string x))
theorem StRow.small {w:World}{v:Value}{c:List ByteArray}(R:StRow w v c):∃ b a,v=.slice b c.length a:=by
 obtain ⟨b,a,rfl,_⟩:=R
 exact ⟨b,a,rfl⟩
theorem StRow.le {w:World}{v:Value}{a:List ByteArray}(R:StRow w v a):a.length <= 9223372036854775807:=by obtain ⟨_,_,_,_,h,_⟩:=R;exact h
theorem StRow.below {w j:World}{v:Value}{f:List ByteArray}(h:StRow w v f)(d:Below w.heap.size w j):StRow j v f:=by
 obtain ⟨n,c,rfl,m,l,k,a⟩:=h
 refine ⟨n,c,rfl,m,l,k,fun b=>?_⟩
 obtain ⟨g,o,rfl,e,a⟩:=a b
 exact ⟨g,o,rfl,Nat.lt_of_lt_of_le e d.size,fun i x hi=>(d.cell (p:=⟨g,o+i,none⟩) e).trans (a i x hi)⟩
theorem StRow.nilcap {w:World}{c:Option Addr}{n a:Nat}{f:List ByteArray}(h:StRow w (.slice c n a) f):c=none -> n=0/\a=0:=by
 obtain ⟨g,b,e,⟨i,d⟩,_⟩:=h
 simp only [Value.slice.injEq] at e
 obtain ⟨rfl,rfl,rfl⟩:=e
 intro h
 have:=d h
 omega
theorem StRow.cells {w:World}{l:Option Addr}{n d:Nat}{k:List ByteArray}(h:StRow w (.slice l n d) k):∀ c,l=some c -> ∀ j u,(stv k)[j]? = some u -> w.cell? (c.add j)=some u:=by
 obtain ⟨q,i,e,_,_,_,p⟩:=h
 simp only [Value.slice.injEq] at e
 obtain ⟨rfl,rfl,rfl⟩:=e
 intro c b j u m
 simp only [stv,List.getElem?_map,Option.map_eq_some_iff] at m
 obtain ⟨x,f,rfl⟩:=m
 obtain ⟨g,o,e,_,a⟩:=p (by intro e;subst e;simp at f)
 rw [b] at e
 cases e
 rw [Addr.add_lit]
 exact a j x f
theorem StRow.of_own {w:World}{base:Nat}{v:Value}{a:List ByteArray}(h:w.ownsRow base 9 1 v a.length (stv a))(j:a.length <= 9223372036854775807)(e:∀ x ∈ a,x.size <= maxLen):StRow w v a:=by
 rcases h.2 with ⟨rfl,f⟩ | ⟨g,b,cur,rfl,o,k,d,l,m,c⟩
 ·have:a=[]:=List.eq_nil_of_length_eq_zero f
  subst this
  exact ⟨none,0,rfl,by simp,by simp,by simp,fun h=>absurd rfl h⟩
 ·refine ⟨_,b,rfl,⟨d,fun h=>by cases h⟩,j,e,fun _=>⟨g,0,rfl,(bl k),fun i x hi=>?_⟩⟩
  have n:i < a.length:=(List.getElem?_eq_some_iff.1 hi).1
  have:=h.cellAt i (by omega)
  rw [Nat.zero_add,this,Zgh a i x hi]
theorem Zm3:(Tryz.prog.info? 9).map (fun i=>(i.zero,i.size,i.bytes))=some (some (.string ByteArray.empty),1,16):=by kernel_rfl
def ZaZ (xs:List ByteArray)(j:Nat):List ByteArray:=xs.take j ++ List.replicate (xs.length - j) ByteArray.empty
theorem ZdT (a:List ByteArray)(j:Nat)(h:j <= a.length):(ZaZ a j).length=a.length:=by simp [ZaZ];omega
theorem Zez (a:List ByteArray):ZaZ a a.length=a:=by simp [ZaZ]
theorem ZeN (a:List ByteArray):stv (ZaZ a 0)=(madeCells #[.string ByteArray.empty] a.length).toList:=by
 apply List.ext_getElem?
 intro j
 by_cases b:j < a.length
 ·simp [ZaZ,stv,madeCells,b,Nat.mod_one]
 ·simp [ZaZ,stv,madeCells,b]
theorem ZfI (a:List ByteArray)(j:Nat)(h:j < a.length):(ZaZ a j).set j a[j]=ZaZ a (j+1):=by
 unfold ZaZ
 rw [show a.length - j=a.length - (j+1)+1 by omega,List.replicate_succ,List.take_succ_eq_append_getElem h]
 rw [List.set_append_right _ _ (by simp;omega)]
 have e:j - (List.take j a).length=0:=by simp;omega
 rw [e,List.set_cons_zero,List.append_assoc]
 rfl
theorem Zco (v:Value)(b:List ByteArray)(w:World)(R:StRow w v b)(N:b.length <= 2097152) :
  Calls Tryz.prog 54 #[v] w fun e B=>∃ A,e=.returned A/\B.ownsRow w.heap.size 9 1 A b.length (stv b)/\Below w.heap.size w B:=by
 obtain ⟨M,J,rfl,C,_,K,d⟩:=R
 obtain ⟨u,hi,s,n,r⟩:=info_parts Zm3
 have f:u.bytes * b.length <= 281474976710656:=by rw [r];omega
 have m:b.length <= maxLen:=by unfold maxLen;omega
 go_enter Tryz.func54,Tryz.ntmps54
 go_wp2_with (at_make;refine wpList_make_full _ rfl _ _ 62 rfl w.heap.size 9 u _ 1 Tryz.underlying62 hi s n _ _ _ _ b.length rfl rfl rfl rfl f m (Nat.le_refl _) ?_)
 intro G a h
 have c:Below w.heap.size w G:=(Below.refl _ _).grown h (Nat.le_refl _) (by intro k I;cases I)
 clear h
 go_wp2
 go_loopw [4] (fun i wr=>∃ j:Nat,j <= b.length/\i=.int .i64 j/\wr.ownsRow w.heap.size 9 1 (.slice (some ⟨w.heap.size,0,none⟩) b.length b.length) b.length (stv (ZaZ b j))/\Below w.heap.size w wr) (fun i _=>b.length - (intOf i).toNat)
 case atStart=>exact ⟨0,by omega,rfl,by rw [ZeN];exact a,c⟩
 case round =>
  clear a c f m
  obtain ⟨j,F,rfl,a,c⟩:=hrel
  by_cases l:j < b.length
  ·obtain ⟨g,o,rfl,H,d⟩:=d (by intro e;subst e;simp at l)
   have c0:=(c.cell (p:=⟨g,o+j,none⟩) H).trans (d j b[j] (by simp [l]))
   have D:=a.cellAt j (by omega)
   obtain ⟨y,z⟩:∃ y,(ZaZ b j)[j]? = some y:=⟨_,List.getElem?_eq_getElem (by rw [ZdT _ _ F];exact l)⟩
   rw [Zgh _ j y z] at D
   have L:=a.frozenAt j
   have t:=a.stored j (.string b[j])
   rw [Zlz,ZfI b j l] at t
   have q:Below w.heap.size w (wr.setCell ⟨w.heap.size,j,none⟩ (.string b[j])):=c.setCell (p:=⟨w.heap.size,j,none⟩) (by simp) _
   have E:=t.1
   clear d a t z
   generalize b[j]=x at *
   go_wp2
   go_roundw
   case rel=>exact ⟨j+1,by omega,by go_num,E,q⟩
   case measure=>simp [intOf];omega
  ·go_wp2
   go_ret
   have:j=b.length:=by omega
   subst this
   rw [Zez] at a
   exact ⟨_,rfl,a,c⟩
theorem Zcy (v:Value)(b:List ByteArray)(l:Int)(w:World)(R:StRow w v b)(B:0 <= l)(C:l <= 1048576) :
  Calls Tryz.prog 39 #[v,.int .i64 l] w fun e H=>∃ r:Int,e=.returned (.int .i64 r) /\ -1 <= r/\r <= 1048576/\(0 <= r -> b.length <= 1048576/\∀ x ∈ b,x.size <= 1048576)/\Below w.heap.size w H:=by
 obtain ⟨K,F,rfl,u,L,D,a⟩:=R
 by_cases q:(b.length:Int) <= l
 ·go_enter Tryz.func39,Tryz.ntmps39
  go_wp2
  go_loopw [1,5] (fun l i wr=>∃ (k:Nat) (r:Int),k <= b.length/\i=.int .i64 k/\l=.int .i64 r/\0 <= r/\r <= 1048576/\Hid (∀ j x,b[j]? = some x -> j < k -> x.size <= 1048576)/\Below w.heap.size w wr) (fun _ i _=>b.length - (intOf i).toNat)
  case atStart=>exact ⟨0,_,by omega,rfl,rfl,by omega,by omega,fun j x _ h=>by omega,Below.refl _ _⟩
  case round =>
   obtain ⟨k,r,J,rfl,rfl,A,G,s,f⟩:=hrel
   by_cases d:k < b.length
   ·obtain ⟨g,o,rfl,E,a⟩:=a (by intro e;subst e;simp at d)
    obtain ⟨x,c⟩:∃ x,b[k]? = some x:=⟨b[k],by simp [d]⟩
    have c0:=(f.cell (p:=⟨g,o+k,none⟩) E).trans (a k x c)
    have m:=D x (List.mem_of_getElem? c)
    unfold maxLen at m
    have z:Hid (b[k]? = some x):=c
    clear a c
    by_cases I:r < x.size
    ·go_wp2
     go_ret
     exact ⟨-1,rfl,by omega,by omega,fun h=>by omega,f⟩
    ·go_wp2
     go_roundw
     case rel =>
      refine ⟨k+1,_,by omega,by go_num,rfl,by omega,by omega,fun j y n t=>?_,f⟩
      by_cases e:j=k
      ·subst e
       rw [z.out] at n
       cases n
       omega
      ·exact s.out j y n (by omega)
     case measure=>simp [intOf];omega
   ·go_wp2
    go_ret
    refine ⟨r,rfl,by omega,by omega,fun _=>⟨by omega,fun x c=>?_⟩,f⟩
    obtain ⟨j,t,e⟩:=List.getElem_of_mem c
    exact s.out j x (by rw [<- e];simp [t]) (by omega)
 ·go_enter Tryz.func39,Tryz.ntmps39
  go_wp2
  go_ret
  exact ⟨-1,rfl,by omega,by omega,fun h=>by omega,Below.refl _ _⟩
theorem Zcz (l vb:Value)(c:List ByteArray)(w:World)(r:StRow w l c)(m:StRow w vb c) :
  Calls Tryz.prog 68 #[l,vb] w fun e t=>e=.returned (.bool true)/\Below w.heap.size w t:=by
 obtain ⟨B,A,rfl,u,G,C,b⟩:=r
 obtain ⟨D,z,rfl,o,_,_,a⟩:=m
 have F:((c.length:Int) != (c.length:Int))=false:=by simp
 go_enter Tryz.func68,Tryz.ntmps68
 go_wp2
 go_loopw [5] (fun i wr=>∃ k:Nat,k <= c.length/\i=.int .i64 k/\Below w.heap.size w wr) (fun i _=>c.length - (intOf i).toNat)
 case atStart=>exact ⟨0,by omega,rfl,Below.refl _ _⟩
 case round =>
  obtain ⟨k,E,rfl,f⟩:=hrel
  by_cases d:k < c.length
  ·obtain ⟨n,v,rfl,j,b⟩:=b (by intro e;subst e;simp at d)
   obtain ⟨s,q,rfl,g,a⟩:=a (by intro e;subst e;simp at d)
   obtain ⟨x,h⟩:∃ x,c[k]? = some x:=⟨c[k],by simp [d]⟩
   have c0:=(f.cell (p:=⟨n,v+k,none⟩) j).trans (b k x h)
   have y:=(f.cell (p:=⟨s,q+k,none⟩) g).trans (a k x h)
   clear b a h
   go_wp2
   go_quiet (fail)
   go_wp2
   go_roundw
   case rel=>exact ⟨k+1,by omega,by go_num,f.trans ((ZkL wr _).mono f.size)⟩
   case measure=>simp [intOf];omega
  ·go_wp2
   go_ret
   exact ⟨rfl,f⟩
def sm (k:Int)(n:Nat):List ByteArray:=(List.range n).map fun (j:Nat)=>mt (k+(j:Int))
def smid (k:Int)(pre xs post:List ByteArray)(j:Nat):List ByteArray:=pre ++ (sm k j ++ (xs.drop j ++ post))
theorem Zam {P:Program}{ops:Array Oper}{c:List Oper}{op:Oper}{a:Act}{w:World}{Q:Exit -> Act -> World -> Prop}(f:op.guard=none)(e:TypeId)(x:Operand)(i:op.op=.load e x)(b o:Nat)(l:a.eval x=.pointer (some ⟨b,o,none⟩))(C:Array Value)(t:TypeId)(cs:Array Value)(d:TypeDesc)(j:w.heap[b]? = some (.cells C t (0,0)))(k:C.extract o (o+cs.size)=cs)(n:P.underlying e=some d)(m:d.isRow=true)(hi:(P.info? e).map (·.size)=some cs.size)(h:wpList P ops Q c (a.put op.dst (.agg cs)) w):wpList P ops Q (op :: c) a w:=by
 have g:=World.rangeAt_of_block j o cs.size
 rw [k] at g
 exact wpList_load_mid f e x i b o l cs.toList d g n m (by simpa using hi) (by simpa using h)
theorem Zda (g:Nat)(e:TypeId):∀ (b:List Value) (o:Nat) (w:World) (cur:Array Value),w.heap[g]? = some (.cells cur e (0,0)) -> o+b.length <= cur.size ->
  ∃ a:Array Value,(w.setCells g o b).heap[g]? = some (.cells a e (0,0))/\a.toList=cur.toList.take o ++ (b ++ cur.toList.drop (o+b.length))
 | [],o,w,cur,h,hb=>⟨cur,h,by simp⟩
 | v :: r,o,w,cur,h,hb=>by
  simp only [List.length_cons] at hb
  obtain ⟨a,d,f⟩:=Zda g e r (o+1) (w.setCell ⟨g,o,none⟩ v) _ (heap_setCell_same w g o cur e v h) (by simp;omega)
  refine ⟨a,d,f.trans ?_⟩
  obtain ⟨A,c,B,k,l⟩:∃ A c B,cur.toList=A ++ c :: B/\A.length=o:=⟨cur.toList.take o,cur.toList[o]'(by simp;omega),cur.toList.drop (o+1),by rw [<- List.drop_eq_getElem_cons];exact (List.take_append_drop _ _).symm,by simp;omega⟩
  subst l
  rw [Array.toList_setIfInBounds,k]
  have i:A.length+1+r.length - A.length=r.length+1:=by omega
  have j:A.length <= A.length+1+r.length:=by omega
  simp [List.take_append,List.drop_append,List.take_of_length_le,List.drop_of_length_le,i,j]
theorem Zc9 (g:Nat):∀ (a:List Value) (o:Nat) (w:World) (k:Nat),k ≠ g -> (w.setCells g o a).heap[k]? = w.heap[k]?
 | [],_,_,_,_=>rfl
 | v :: r,o,w,k,hk=>(Zc9 g r (o+1) _ k hk).trans (heap_setCell_other w ⟨g,o,none⟩ k v hk)
theorem ZdM (g:Nat):∀ (a:List Value) (o:Nat) (w:World),(w.setCells g o a).heap.size=w.heap.size
 | [],_,_=>rfl
 | v :: r,o,_=>(ZdM g r (o+1) _).trans (by simp [World.setCell])
theorem Zc8 (g:Nat):∀ (b:List Value) (o:Nat) (w a:World),Below g a w -> Below g a (w.setCells g o b)
 | [],_,_,_,h=>h
 | v :: r,o,_,a,h=>Zc8 g r (o+1) _ a (h.setCell (p:=⟨g,o,none⟩) (Nat.le_refl _) v)
theorem ZaL {P:Program}{ops:Array Oper}{c:List Oper}{op:Oper}{a:Act}{w:World}{Q:Exit -> Act -> World -> Prop}(m:op.guard=none)(l:TypeId)(x y:Operand)(s:op.op=.store l x y)(g o:Nat)(cells:Array Value)(u:a.eval x=.pointer (some ⟨g,o,none⟩))(v:a.eval y=.agg cells)(t:TypeId)(b d:Array Value)(i:w.heap[g]? = some (.cells b t (0,0)))(q:o+cells.size <= b.size)(hi:(P.info? l).map (·.size)=some cells.size)(n:cells.all (·.oneCell')=true)(z:d.toList=b.toList.take o ++ (cells.toList ++ b.toList.drop (o+cells.size)))(h:∀ e:World,e.heap[g]? = some (.cells d t (0,0)) -> Below g w e -> e.heap.size=w.heap.size -> (∀ k,k ≠ g -> e.heap[k]? = w.heap[k]?) -> wpList P ops Q c (a.put op.dst undef) e):wpList P ops Q (op :: c) a w:=by
 refine wpList_store_mid m l x y s g o cells u v (fun j B=>⟨?_,frozen_of_row w g _ _ _ i⟩) hi n (h _ ?_ (Zc8 g _ _ _ _ (Below.refl _ _)) (ZdM _ _ _ _) (fun k A=>Zc9 g _ _ _ k A))
 ·rw [cell_of_row w g (o+j) _ _ _ i]
  simp
  omega
 ·obtain ⟨f,p,r⟩:=Zda g t cells.toList o w b i (by simpa using q)
  rw [p]
  have:f=d:=Array.toList_inj.1 (r.trans (by rw [z];simp))
  rw [this]
theorem ZmS:(Tryz.prog.info? 64).map (·.size)=some 11:=by kernel_rfl
theorem ZmR:(Tryz.prog.info? 91).map (·.size)=some 8:=by kernel_rfl
theorem Zhu (A:Int)(E:0 <= A)(H:A <= 1048576)(i:Int)(v vb M:Value)(o:List Nd)(m:Mc)(j g:List ByteArray)(w:World)(R:NRow w v o)(K:StRow w vb j)(P:StRow w M g) :
  Calls Tryz.prog 72 #[.agg #[.int .i64 i,v,.int .i64 m.p,.int .i64 m.s,.int .i64 m.e,.int .i64 m.d,.int .i64 m.t,.int .i64 m.q,.int .i64 m.r,vb,M],.int .i64 A] w fun e X=>∃ r:Int,e=.returned (.int .i64 r) /\ -1 <= r/\r <= 1048576/\(0 <= r -> (o.length <= 1048576/\∀ x ∈ o,x.s.size <= 1048576)/\(j.length <= 1048576/\∀ x ∈ j,x.size <= 1048576)/\(g.length <= 1048576/\∀ x ∈ g,x.size <= 1048576))/\Below w.heap.size w X:=by
 have W:=R
 obtain ⟨J,k,rfl,_⟩:=W
 obtain ⟨I,G,rfl⟩:=K.small
 obtain ⟨B,D,rfl⟩:=P.small
 have f:Below w.heap.size w (w.alloc (Obj.cells #[.int .i64 i,.slice J o.length k,.int .i64 m.p,.int .i64 m.s,.int .i64 m.e,.int .i64 m.d,.int .i64 m.t,.int .i64 m.q,.int .i64 m.r,.slice I j.length G,.slice B g.length D] 93)):=(Below.refl _ _).alloc (Nat.le_refl _) _
 go_enter Tryz.func72,Tryz.ntmps72
 go_wp2_with (refine Zam rfl 91 _ rfl w.heap.size 1 rfl _ 93 #[.slice J o.length k,.int .i64 m.p,.int .i64 m.s,.int .i64 m.e,.int .i64 m.d,.int .i64 m.t,.int .i64 m.q,.int .i64 m.r] _ (heap_alloc_new _ _) rfl Tryz.underlying91 rfl ZmR ?_)
 refine (ZhK A E H _ o m _ (R.below f)).mono ?_
 rintro e C ⟨r,rfl,Z,h1,U,n⟩
 have c:=(n.block w.heap.size (by simp)).trans (heap_alloc_new w (Obj.cells #[.int .i64 i,.slice J o.length k,.int .i64 m.p,.int .i64 m.s,.int .i64 m.e,.int .i64 m.d,.int .i64 m.t,.int .i64 m.q,.int .i64 m.r,.slice I j.length G,.slice B g.length D] 93))
 have a:=f.trans (n.mono f.size)
 clear f n
 by_cases Y:r < 0
 ·go_wp2
  go_ret
  exact ⟨-1,rfl,by omega,by omega,fun h=>by omega,a⟩
 have k2:C.cell? ⟨w.heap.size,0+9,none⟩=some (.slice I j.length G):=cell_of_row C _ 9 _ _ _ c
 have F:C.cell? ⟨w.heap.size,0+10,none⟩=some (.slice B g.length D):=cell_of_row C _ 10 _ _ _ c
 go_wp2_with fail
 refine (Zcy _ j r _ (K.below a) (by omega) (by omega)).mono ?_
 rintro e L ⟨N,rfl,g0,g1,S,l⟩
 have z:=(bb c l)
 have b:=a.trans (l.mono a.size)
 clear a l c k2 F
 by_cases Q:N < 0
 ·go_wp2
  go_ret
  exact ⟨-1,rfl,by omega,by omega,fun h=>by omega,b⟩
 have F:L.cell? ⟨w.heap.size,0+10,none⟩=some (.slice B g.length D):=cell_of_row L _ 10 _ _ _ z
 go_wp2_with fail
 refine (Zcy _ g N _ (P.below b) (by omega) (by omega)).mono ?_
 rintro e w3 ⟨O,rfl,f0,f1,V,y⟩
 have u:=b.trans (y.mono b.size)
 clear b y z F
 by_cases T:O < 0
 ·go_wp2
  go_ret
  exact ⟨-1,rfl,by omega,by omega,fun h=>by omega,u⟩
 ·go_wp2
  go_ret
  exact ⟨O,rfl,by omega,by omega,fun h=>⟨U (by omega),S (by omega),V h⟩,u⟩
theorem Zh2 (i:Int)(P V X vb bb M:Value)(o:List Nd)(m:Mc)(n u:List ByteArray)(w:World)(N:NRow w P o)(O:StRow w V n)(Q:StRow w X u)(G:NRow w vb o)(H:StRow w bb n)(T:StRow w M u) :
  Calls Tryz.prog 106 #[.agg #[.int .i64 i,P,.int .i64 m.p,.int .i64 m.s,.int .i64 m.e,.int .i64 m.d,.int .i64 m.t,.int .i64 m.q,.int .i64 m.r,V,X],.agg #[.int .i64 i,vb,.int .i64 m.p,.int .i64 m.s,.int .i64 m.e,.int .i64 m.d,.int .i64 m.t,.int .i64 m.q,.int .i64 m.r,bb,M]] w fun e Y=>e=.returned (.bool true)/\Below w.heap.size w Y:=by
 have F:=N
 have C:=G
 obtain ⟨L,K,rfl,_⟩:=F
 obtain ⟨R,I,rfl,_⟩:=C
 obtain ⟨S,c1,rfl⟩:=O.small
 obtain ⟨W,c2,rfl⟩:=Q.small
 obtain ⟨J,c3,rfl⟩:=H.small
 obtain ⟨U,c4,rfl⟩:=T.small
 obtain ⟨b,l,k⟩:=Zav w (Obj.cells #[.int .i64 i,.slice L o.length K,.int .i64 m.p,.int .i64 m.s,.int .i64 m.e,.int .i64 m.d,.int .i64 m.t,.int .i64 m.q,.int .i64 m.r,.slice S n.length c1,.slice W u.length c2] 64) (Obj.cells #[.int .i64 i,.slice R o.length I,.int .i64 m.p,.int .i64 m.s,.int .i64 m.e,.int .i64 m.d,.int .i64 m.t,.int .i64 m.q,.int .i64 m.r,.slice J n.length c3,.slice U u.length c4] 64)
 have Z:(i != i)=false:=by simp
 go_enter Tryz.func106,Tryz.ntmps106
 go_wp2_with (first
  | (refine Zam rfl 61 _ rfl w.heap.size 1 rfl _ 64 #[.slice L o.length K,.int .i64 m.p,.int .i64 m.s,.int .i64 m.e,.int .i64 m.d,.int .i64 m.t,.int .i64 m.q,.int .i64 m.r] _ l rfl Tryz.underlying61 rfl ZmU ?_)
  | (refine Zam rfl 61 _ rfl (w.heap.size+1) 1 rfl _ 64 #[.slice R o.length I,.int .i64 m.p,.int .i64 m.s,.int .i64 m.e,.int .i64 m.d,.int .i64 m.t,.int .i64 m.q,.int .i64 m.r] _ k rfl Tryz.underlying61 rfl ZmU ?_))
 refine (ZhO _ _ o m _ (N.below b) (G.below b)).mono ?_
 rintro e A ⟨rfl,g⟩
 have a:=b.trans (g.mono b.size)
 have j:=(bb l g)
 have h:=(bb k g)
 clear b l k g
 have E:A.cell? ⟨w.heap.size,0+9,none⟩=some (.slice S n.length c1):=cell_of_row A _ 9 _ _ _ j
 have D:A.cell? ⟨w.heap.size+1,0+9,none⟩=some (.slice J n.length c3):=cell_of_row A _ 9 _ _ _ h
 go_wp2_with fail
 refine (Zcz _ _ n _ (O.below a) (H.below a)).mono ?_
 rintro e z ⟨rfl,f⟩
 have c:=a.trans (f.mono a.size)
 have x:=(bb j f)
 have y:=(bb h f)
 clear a j h f E D
 have E:z.cell? ⟨w.heap.size,0+10,none⟩=some (.slice W u.length c2):=cell_of_row z _ 10 _ _ _ x
 have D:z.cell? ⟨w.heap.size+1,0+10,none⟩=some (.slice U u.length c4):=cell_of_row z _ 10 _ _ _ y
 go_wp2_with fail
 refine (Zcz _ _ u _ (Q.below c) (T.below c)).mono ?_
 rintro e w3 ⟨rfl,v⟩
 have B:=c.trans (v.mono c.size)
 clear c x y v E D
 go_wp2
 go_ret
 exact ⟨rfl,B⟩
structure In where
 o:Int
 n:Int
 i:Int
 s:ByteArray
def In.cs (x:In):List Value:=[.int .i64 x.o,.int .i64 x.n,.int .i64 x.i,.string x.s]
def incs (xs:List In):List Value:=xs.flatMap In.cs
theorem Zdr (x:In)(a:List In):incs (x :: a)=x.cs ++ incs a:=rfl
theorem ZdJ (a:List In):(incs a).length=a.length * 4:=by
 induction a with
 | nil=>rfl
 | cons x a ih=>rw [Zdr,List.length_append,ih,List.length_cons];simp [In.cs];omega
theorem ZgP (a:List In)(i:Nat)(x:In)(h:a[i]? = some x)(j:Nat)(b:j < 4):(incs a)[i * 4+j]? = x.cs[j]?:=by
 induction a generalizing i with
 | nil=>simp at h
 | cons y ys ih =>
  rw [Zdr]
  cases i with
  | zero =>
   simp at h;subst h
   rw [Nat.zero_mul,Nat.zero_add,List.getElem?_append_left (by simpa [In.cs] using b)]
  | succ i =>
   rw [List.getElem?_append_right (by simp [In.cs];omega)]
   rw [show (i+1) * 4+j - y.cs.length=i * 4+j by simp [In.cs];omega]
   exact ih i (by simpa using h)
theorem Zdh (a:List In)(i:Nat)(x b:In)(h:a[i]? = some x)(j:Nat)(c:j < 4)(u:Value)(e:x.cs.set j u=b.cs):(incs a).set (i * 4+j) u=incs (a.set i b):=by
 induction a generalizing i with
 | nil=>simp at h
 | cons y ys ih =>
  rw [Zdr]
  cases i with
  | zero =>
   simp at h;subst h
   rw [Nat.zero_mul,Nat.zero_add,List.set_append_left _ _ (by simpa [In.cs] using c),e]
   rfl
  | succ i =>
   rw [List.set_append_right _ _ (by simp [In.cs];omega)]
   rw [show (i+1) * 4+j - y.cs.length=i * 4+j by simp [In.cs];omega,ih i (by simpa using h)]
   rfl
theorem ZjI (a:List In)(i:Nat)(x b:In)(h:a[i]? = some x)(u:Value)(e:x.cs.set 0 u=b.cs):(incs a).set (i * 4) u=incs (a.set i b) :=
 Zdh a i x b h 0 (by omega) u e
theorem In.one (x:In):∀ u ∈ x.cs,u.oneCell'=true:=by
 intro u a
 simp only [In.cs,List.mem_cons,List.not_mem_nil,or_false] at a
 rcases a with rfl | rfl | rfl | rfl <;> rfl
def InAt (w:World)(g o:Nat)(x:In):Prop :=
 w.cell? ⟨g,o,none⟩=some (.int .i64 x.o)/\w.cell? ⟨g,o+1,none⟩=some (.int .i64 x.n)/\w.cell? ⟨g,o+2,none⟩=some (.int .i64 x.i)/\w.cell? ⟨g,o+3,none⟩=some (.string x.s)
theorem InAt.below {w c:World}{g o B:Nat}{x:In}(h:InAt w g o x)(b:Below B w c)(a:g < B):InAt c g o x :=
 ⟨(b.cell (p:=⟨g,o,none⟩) a).trans h.1,(b.cell (p:=⟨g,o+1,none⟩) a).trans h.2.1,(b.cell (p:=⟨g,o+2,none⟩) a).trans h.2.2.1,(b.cell (p:=⟨g,o+3,none⟩) a).trans h.2.2.2⟩
def InRow (w:World)(v:Value)(xs:List In):Prop :=
 ∃ ao cap,v=.slice ao xs.length cap/\(xs.length <= cap/\(ao=none -> cap=0))/\xs.length <= 9223372036854775807/\(∀ x ∈ xs,x.s.size <= maxLen) /\
  (xs ≠ [] -> ∃ g o,ao=some ⟨g,o,none⟩/\g < w.heap.size/\∀ i x,xs[i]? = some x -> InAt w g (o+i * 4) x)
theorem InRow.small {w:World}{v:Value}{c:List In}(R:InRow w v c):∃ b a,v=.slice b c.length a:=by
 obtain ⟨b,a,rfl,_⟩:=R
 exact ⟨b,a,rfl⟩
theorem InRow.below {w j:World}{v:Value}{f:List In}(h:InRow w v f)(d:Below w.heap.size w j):InRow j v f:=by
 obtain ⟨n,c,rfl,m,l,k,a⟩:=h
 refine ⟨n,c,rfl,m,l,k,fun b=>?_⟩
 obtain ⟨g,o,rfl,e,a⟩:=a b
 exact ⟨g,o,rfl,Nat.lt_of_lt_of_le e d.size,fun i x hi=>(a i x hi).below d e⟩
theorem InRow.of_own {w:World}{base:Nat}{v:Value}{a:List In}(h:w.ownsRow base 170 4 v a.length (incs a))(l:a.length <= 9223372036854775807)(f:∀ x ∈ a,x.s.size <= maxLen):InRow w v a:=by
 rcases h.2 with ⟨rfl,k⟩ | ⟨g,b,cur,rfl,r,m,d,n,p,c⟩
 ·have:a=[]:=List.eq_nil_of_length_eq_zero k
  subst this
  exact ⟨none,0,rfl,by simp,by simp,by simp,fun h=>absurd rfl h⟩
 ·refine ⟨_,b,rfl,⟨d,fun h=>by cases h⟩,l,f,fun _=>⟨g,0,rfl,(bl m),fun i x hi=>?_⟩⟩
  have q:i < a.length:=(List.getElem?_eq_some_iff.1 hi).1
  have e:∀ j,j < 4 -> w.cell? ⟨g,0+i * 4+j,none⟩=x.cs[j]?:=fun j o=>by
   have:=h.cellAt (i * 4+j) (by omega)
   rw [Nat.zero_add,this,ZgP a i x hi j o]
  exact ⟨e 0 (by omega),e 1 (by omega),e 2 (by omega),e 3 (by omega)⟩
theorem Zm5:(Tryz.prog.info? 170).map (fun i=>(i.zero,i.size,i.bytes))=some (some (.agg #[.int .i64 0,.int .i64 0,.int .i64 0,.string ByteArray.empty]),4,40):=by kernel_rfl
theorem Zne:(Tryz.prog.info? 170).map (·.size)=some 4:=by kernel_rfl
theorem ZdW {ops:Array Oper}{e:List Oper}{op:Oper}{a:Act}{w:World}{Q:Exit -> Act -> World -> Prop}(t:op.guard=none)(x y:Operand)(z:op.op=.store 170 x y)(base g i k:Nat)(c:List In)(b:In)(A:a.eval x=.pointer (some ⟨g,i * 4,none⟩))(B:a.eval y=.agg #[.int .i64 b.o,.int .i64 b.n,.int .i64 b.i,.string b.s])(hi:i < c.length)(d:w.ownsRow base 170 4 (.slice (some ⟨g,0,none⟩) c.length k) c.length (incs c))(h:∀ l:World,l.ownsRow base 170 4 (.slice (some ⟨g,0,none⟩) c.length k) c.length (incs (c.set i b)) -> w.grownBy l (some g) -> wpList Tryz.prog ops Q e (a.put op.dst undef) l):wpList Tryz.prog ops Q (op :: e) a w:=by
 have u:w.there g (i * 4) 4:=fun j C=>by
  have:=d.cellAt (i * 4+j) (by omega)
  refine ⟨?_,d.frozenAt _⟩
  rw [this,List.getElem?_eq_getElem (by rw [ZdJ];omega)]
  rfl
 refine wpList_store_mid t 170 x y z g (i * 4) _ A B u Zne (all_oneCell_toArray b.one) ?_
 have v:c[i]? = some c[i]:=List.getElem?_eq_getElem hi
 have f:∀ y:In,(c.set i y)[i]? = some y:=fun y=>by simp [hi]
 have q:=d.stored (i * 4) (.int .i64 b.o)
 rw [ZjI c i c[i] ⟨b.o,c[i].n,c[i].i,c[i].s⟩ v _ rfl] at q
 have r:=q.1.stored (i * 4+1) (.int .i64 b.n)
 rw [Zdh (c.set i ⟨b.o,c[i].n,c[i].i,c[i].s⟩) i ⟨b.o,c[i].n,c[i].i,c[i].s⟩ ⟨b.o,b.n,c[i].i,c[i].s⟩ (f _) 1 (by omega) (.int .i64 b.n) rfl,List.set_set] at r
 have p:=r.1.stored (i * 4+2) (.int .i64 b.i)
 rw [Zdh (c.set i ⟨b.o,b.n,c[i].i,c[i].s⟩) i ⟨b.o,b.n,c[i].i,c[i].s⟩ ⟨b.o,b.n,b.i,c[i].s⟩ (f _) 2 (by omega) (.int .i64 b.i) rfl,List.set_set] at p
 have m:=p.1.stored (i * 4+3) (.string b.s)
 rw [Zdh (c.set i ⟨b.o,b.n,b.i,c[i].s⟩) i ⟨b.o,b.n,b.i,c[i].s⟩ ⟨b.o,b.n,b.i,b.s⟩ (f _) 3 (by omega) (.string b.s) rfl,List.set_set] at m
 exact h _ m.1 (((q.2.trans r.2).trans p.2).trans m.2)
theorem Zj4 (x:In)(w:World) :
  Calls Tryz.prog 86 #[.agg #[.int .i64 x.o,.int .i64 x.n,.int .i64 x.i,.string x.s]] w fun e a=>e=.returned (.agg #[.int .i64 x.o,.int .i64 x.n,.int .i64 x.i,.string x.s])/\Below w.heap.size w a:=by
 go_enter Tryz.func86,Tryz.ntmps86
 go_wp2
 exact bodyPost_ret (results_cell_row rfl _ _ (w.heap.size+1) 170 _ (0,0) _ rfl ((heap_alloc_old _ _ (by simp)).trans (heap_alloc2_new _ _ _)) Tryz.underlying170 rfl Zne) rfl
  ⟨rfl,(((Below.refl _ _).alloc (Nat.le_refl _) _).alloc (by simp) _).alloc (by simp;omega) _⟩
theorem ZkK (x:In)(l:Int)(w:World)(b:x.s.size <= maxLen)(f:0 <= l)(c:l <= 1048576) :
  Calls Tryz.prog 70 #[.agg #[.int .i64 x.o,.int .i64 x.n,.int .i64 x.i,.string x.s],.int .i64 l] w fun e d=>e=.returned (.int .i64 (less l x.s.size))/\Below w.heap.size w d:=by
 unfold maxLen at b
 go_enter Tryz.func70,Tryz.ntmps70
 by_cases h:l < x.s.size
 ·have a:Hid (less l x.s.size = -1):=by unfold Hid less;rw [if_pos h]
  go_wp2
  go_ret
  exact ⟨by rw [a.out];rfl,(Below.refl _ _).alloc (Nat.le_refl _) _⟩
 ·have a:Hid (less l x.s.size=l - x.s.size):=by unfold Hid less;rw [if_neg h]
  go_wp2
  go_ret
  exact ⟨by rw [a.out];rfl,(Below.refl _ _).alloc (Nat.le_refl _) _⟩
theorem Zk1 (x:In)(w:World) :
  Calls Tryz.prog 104 #[.agg #[.int .i64 x.o,.int .i64 x.n,.int .i64 x.i,.string x.s],.agg #[.int .i64 x.o,.int .i64 x.n,.int .i64 x.i,.string x.s]] w fun e a=>e=.returned (.bool true)/\Below w.heap.size w a:=by
 go_enter Tryz.func104,Tryz.ntmps104
 go_wp2
 go_ret
 exact ⟨rfl,((Below.refl _ _).alloc (Nat.le_refl _) _).alloc (by simp) _⟩
def ZfA:In:=⟨0,0,0,ByteArray.empty⟩
def ZaP (xs:List In)(j:Nat):List In:=xs.take j ++ List.replicate (xs.length - j) ZfA
theorem Zds (a:List In)(j:Nat)(h:j <= a.length):(ZaP a j).length=a.length:=by simp [ZaP];omega
theorem ZeW (a:List In):ZaP a a.length=a:=by simp [ZaP]
theorem Zil (n:Nat):incs (List.replicate n ZfA)=(madeCells #[Value.int .i64 0,.int .i64 0,.int .i64 0,.string ByteArray.empty] (n * 4)).toList:=by
 apply List.ext_getElem?
 intro j
 by_cases c:j < n * 4
 ·have b:j / 4 < n:=by omega
  rw [show j=j / 4 * 4+j % 4 by omega,ZgP _ (j / 4) ZfA (by simp [b]) (j % 4) (by omega)]
  rw [show j / 4 * 4+j % 4=j by omega]
  have a:j % 4=0 \/ j % 4=1 \/ j % 4=2 \/ j % 4=3:=by omega
  rcases a with a | a | a | a <;> simp [madeCells,c,a,ZfA,In.cs]
 ·rw [List.getElem?_eq_none (by rw [ZdJ,List.length_replicate];omega),List.getElem?_eq_none (by simp [madeCells];omega)]
theorem ZeK (a:List In):incs (ZaP a 0)=(madeCells #[Value.int .i64 0,.int .i64 0,.int .i64 0,.string ByteArray.empty] (a.length * 4)).toList:=by
 rw [<- Zil];simp [ZaP]
theorem Zff (a:List In)(j:Nat)(h:j < a.length):(ZaP a j).set j a[j]=ZaP a (j+1):=by
 unfold ZaP
 rw [show a.length - j=a.length - (j+1)+1 by omega,List.replicate_succ,List.take_succ_eq_append_getElem h]
 rw [List.set_append_right _ _ (by simp;omega)]
 have e:j - (List.take j a).length=0:=by simp;omega
 rw [e,List.set_cons_zero,List.append_assoc]
 rfl
theorem ZiX (v:Value)(a:List In)(w:World)(R:InRow w v a)(N:a.length <= 2097152) :
  Calls Tryz.prog 48 #[v] w fun e C=>∃ B,e=.returned B/\C.ownsRow w.heap.size 170 4 B a.length (incs a)/\Below w.heap.size w C:=by
 obtain ⟨M,J,rfl,D,_,L,d⟩:=R
 obtain ⟨A,hi,y,t,x⟩:=info_parts Zm5
 have f:A.bytes * a.length <= 281474976710656:=by rw [x];omega
 have n:a.length <= maxLen:=by unfold maxLen;omega
 go_enter Tryz.func48,Tryz.ntmps48
 go_wp2_with (at_make;refine wpList_make_full _ rfl _ _ 41 rfl w.heap.size 170 A _ 4 Tryz.underlying41 hi y t _ _ _ _ a.length rfl rfl rfl rfl f n (Nat.le_refl _) ?_)
 intro G c h
 have b:Below w.heap.size w G:=(Below.refl _ _).grown h (Nat.le_refl _) (by intro k z;cases z)
 clear h
 go_wp2
 go_loopw [4] (fun i wr=>∃ j:Nat,j <= a.length/\i=.int .i64 j/\wr.ownsRow w.heap.size 170 4 (.slice (some ⟨w.heap.size,0,none⟩) a.length a.length) a.length (incs (ZaP a j))/\Below w.heap.size w wr) (fun i _=>a.length - (intOf i).toNat)
 case atStart=>exact ⟨0,by omega,rfl,by rw [ZeK];exact c,b⟩
 case round =>
  clear c b f n
  obtain ⟨j,H,rfl,c,b⟩:=hrel
  by_cases q:j < a.length
  ·obtain ⟨g,o,rfl,I,d⟩:=d (by intro e;subst e;simp at q)
   obtain ⟨c0,c1,c2,c3⟩:=(d j a[j] (by simp [q])).below b I
   have E:=Zds a j H
   clear d
   go_wp2_with fail
   refine (Zj4 a[j] _).mono ?_
   rintro e F ⟨rfl,p⟩
   have m:F.ownsRow w.heap.size 170 4 (.slice (some ⟨w.heap.size,0,none⟩) (ZaP a j).length a.length) (ZaP a j).length (incs (ZaP a j)):=by
    rw [E];exact Zac c p
   have s:=b.trans (p.mono b.size)
   clear c0 c1 c2 c3 c p b
   go_wp2_with (refine ZdW rfl _ _ rfl w.heap.size w.heap.size j a.length (ZaP a j) a[j] rfl rfl (by omega) m ?_)
   intro K l r
   rw [Zff a j q] at l
   have u:Below w.heap.size w K:=s.grown r s.size (fun k z=>by simp at z;omega)
   clear m r
   go_wp2
   go_roundw
   case rel=>exact ⟨j+1,by omega,by go_num,l,u⟩
   case measure=>simp [intOf];omega
  ·go_wp2
   go_ret
   have:j=a.length:=by omega
   subst this
   rw [ZeW] at c
   exact ⟨_,rfl,c,b⟩
theorem ZiT (v:Value)(b:List In)(l:Int)(w:World)(R:InRow w v b)(F:0 <= l)(G:l <= 1048576) :
  Calls Tryz.prog 33 #[v,.int .i64 l] w fun e K=>∃ r:Int,e=.returned (.int .i64 r) /\ -1 <= r/\r <= 1048576/\(0 <= r -> b.length <= 1048576/\∀ x ∈ b,x.s.size <= 1048576)/\Below w.heap.size w K:=by
 obtain ⟨N,J,rfl,D,O,H,a⟩:=R
 by_cases A:(b.length:Int) <= l
 ·go_enter Tryz.func33,Tryz.ntmps33
  go_wp2
  go_loopw [1,5] (fun l i wr=>∃ (k:Nat) (r:Int),k <= b.length/\i=.int .i64 k/\l=.int .i64 r/\0 <= r/\r <= 1048576/\Hid (∀ j x,b[j]? = some x -> j < k -> x.s.size <= 1048576)/\Below w.heap.size w wr) (fun _ i _=>b.length - (intOf i).toNat)
  case atStart=>exact ⟨0,_,by omega,rfl,rfl,by omega,by omega,fun j x _ h=>by omega,Below.refl _ _⟩
  case round =>
   obtain ⟨k,r,M,rfl,rfl,p,u,B,n⟩:=hrel
   by_cases f:k < b.length
   ·obtain ⟨g,o,rfl,I,a⟩:=a (by intro e;subst e;simp at f)
    obtain ⟨x,c⟩:∃ x,b[k]? = some x:=⟨b[k],by simp [f]⟩
    obtain ⟨c0,c1,c2,c3⟩:=(a k x c).below n I
    have q:=H x (List.mem_of_getElem? c)
    have E:Hid (b[k]? = some x):=c
    clear a c
    go_wp2_with fail
    refine (ZkK x _ _ q p u).mono ?_
    rintro e L ⟨rfl,d⟩
    have m:=n.trans (d.mono n.size)
    clear c0 c1 c2 c3 d
    by_cases z:r < x.s.size
    ·rw [less,if_pos z]
     go_wp2
     go_ret
     exact ⟨-1,rfl,by omega,by omega,fun h=>by omega,m⟩
    ·rw [less,if_neg z]
     go_wp2
     go_roundw
     case rel =>
      refine ⟨k+1,_,by omega,by go_num,rfl,by omega,by omega,fun j y t C=>?_,m⟩
      by_cases e:j=k
      ·subst e
       rw [E.out] at t
       cases t
       omega
      ·exact B.out j y t (by omega)
     case measure=>simp [intOf];omega
   ·go_wp2
    go_ret
    refine ⟨r,rfl,by omega,by omega,fun _=>⟨by omega,fun x c=>?_⟩,n⟩
    obtain ⟨j,C,e⟩:=List.getElem_of_mem c
    exact B.out j x (by rw [<- e];simp [C]) (by omega)
 ·go_enter Tryz.func33,Tryz.ntmps33
  go_wp2
  go_ret
  exact ⟨-1,rfl,by omega,by omega,fun h=>by omega,Below.refl _ _⟩
theorem Zi3 (n vb:Value)(c:List In)(w:World)(t:InRow w n c)(o:InRow w vb c) :
  Calls Tryz.prog 62 #[n,vb] w fun e v=>e=.returned (.bool true)/\Below w.heap.size w v:=by
 obtain ⟨D,C,rfl,z,K,F,b⟩:=t
 obtain ⟨H,A,rfl,s,_,_,a⟩:=o
 have J:((c.length:Int) != (c.length:Int))=false:=by simp
 go_enter Tryz.func62,Tryz.ntmps62
 go_wp2
 go_loopw [5] (fun i wr=>∃ k:Nat,k <= c.length/\i=.int .i64 k/\Below w.heap.size w wr) (fun i _=>c.length - (intOf i).toNat)
 case atStart=>exact ⟨0,by omega,rfl,Below.refl _ _⟩
 case round =>
  obtain ⟨k,I,rfl,g⟩:=hrel
  by_cases d:k < c.length
  ·obtain ⟨B,L,rfl,l,b⟩:=b (by intro e;subst e;simp at d)
   obtain ⟨G,E,rfl,h,a⟩:=a (by intro e;subst e;simp at d)
   obtain ⟨x,j⟩:∃ x,c[k]? = some x:=⟨c[k],by simp [d]⟩
   obtain ⟨c0,c1,c2,c3⟩:=(b k x j).below g l
   obtain ⟨p,y,q,u⟩:=(a k x j).below g h
   clear b a j
   go_wp2_with fail
   go_region_with (go_at_call 104;refine (Zk1 x _).mono ?_;rintro e r ⟨rfl,f⟩)
   all_goals
    have m:Below w.heap.size w r:=g.drew.trans (f.mono g.size)
    clear c0 c1 c2 c3 p y q u f
    go_wp2
    go_roundw
    case rel=>exact ⟨k+1,by omega,by go_num,m⟩
    case measure=>simp [intOf];omega
  ·go_wp2
   go_ret
   exact ⟨rfl,g⟩
end Go.Proofs.YtfeodlbpnghakaaGreatDoor
