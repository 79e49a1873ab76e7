/-
  Texts that stood by themselves, laid into one.
-/
import Derived.Test.YtanhoamdlhaaeaaGreatDoorShapeM
import Derived.Laws.BytesArg
import Derived.Lib.AppendStr
import Derived.Laws.IdiomStrings
import Derived.Deep.RegionWith
import Derived.Test.YtanhoamdlhaaeaaGreatDoorNodeFitsM
import Derived.Deep.MidRow
/-
  The law of a slice of bytes turned into a text, and the laws' own markText: the same text at the same number, in whatever world. Nothing else of the program; no condition.
-/
set_option maxHeartbeats 1600000
namespace Go.Proofs.YtanhoamdlhaaeaaGreatDoor
open Go.Proofs.Tryz
open Go.RowKit
theorem ZbE {P:Program}(w:World){ops:Array Oper}{f:List Oper}{o:Oper}{a:Act}{Q:Exit -> Act -> World -> Prop}(A:o.guard=none)(x:Operand)(d b e:TypeId)(C:o.op=.convert d b x)(t:P.underlying d=some (.slice e))(r:P.underlying b=some .string)(s:P.underlying e=some (.int .u8))(p:Option Addr)(n c:Nat)(l:List Int)(D:a.eval x=.slice p n c)(v:l.length=n)(z:n ≠ 0 -> ∃ g q,p=some ⟨g,q,none⟩/\∀ i,i < n -> w.cell? ⟨g,q+i,none⟩=some (.int .u8 (l.getD i 0)))(h:wpList P ops Q f (a.put o.dst (.string (strOfNums l))) w):wpList P ops Q (o :: f) a w:=by
 refine wpList_plain A fun K y=>?_
 have m:(convert d b (.slice p n c)).run P w=.ok (.string (strOfNums l)) w:=by
  by_cases u:n=0
  ·subst u
   have:l=[]:=List.eq_nil_of_length_eq_zero v;subst this;cases p with
   | none=>exact run_convert_bytes_nil w d e t s 0 c b r
   | some ad=>exact run_convert_bytes_back w d b e ad c [] t s r (fun j B=>absurd B (by simp))
  ·obtain ⟨g,q,rfl,k⟩:=z u
   exact run_convert_bytes_arg w d e t s g q n c l v k b r
 unfold Oper.wp;simp [execOp,C,D,m,Result.andThen];exact y _ _ h
def mtGo:Nat -> Nat -> ByteArray -> ByteArray
 | 0,_,out=>out
 | f+1,k,out=>if k=0 then out else mtGo f (k / 10) (strOfNums [48+(k:Int) % 10] ++ out)
def mt (k:Int):ByteArray:=if k <= 0 then ⟨#[109,48]⟩ else ⟨#[109]⟩ ++ mtGo k.toNat k.toNat ⟨#[]⟩
theorem Zii (f k:Nat)(out:ByteArray)(h:0 < k)(a:k <= f):mtGo f k out=mtGo (f - 1) (k / 10) (strOfNums [48+(k:Int) % 10] ++ out):=by
 cases f with
 | zero=>omega
 | succ f=>simp only [mtGo,if_neg (by omega:¬ k=0)];rfl
theorem Zju (f:Nat)(out:ByteArray):mtGo f 0 out=out:=by
 cases f <;> simp [mtGo]
theorem Zcw (x:Int):(strOfNums [x]).size=1:=rfl
theorem ZaB (k:Int)(w:World)(y:k <= 4611686018427387904) :
  Calls prog 42 #[.int .i64 k] w fun e v=>e=.returned (.string (mt k))/\Below w.heap.size w v:=by
 by_cases m:k <= 0
 ·have a:Hid (mt k=⟨#[109,48]⟩):=by unfold Hid mt;rw [if_pos m]
  go_enter func42,ntmps42
  go_wp2;go_ret;exact ⟨by rw [a.out];rfl,cf _ _⟩
 ·obtain ⟨n,rfl⟩:=cu (show 0 <= k by omega)
  have a:Hid (mt n=⟨#[109]⟩ ++ mtGo n n ⟨#[]⟩):=by unfold Hid mt;rw [if_neg m];rfl
  go_enter func42,ntmps42
  go_wp2
  go_loopw [0,3] (fun q s wr=>∃ (f j:Nat) (t:ByteArray),q=.int .i64 j/\s=.string t/\j <= f/\t.size+j <= n/\Hid (mtGo n n ⟨#[]⟩=mtGo f j t)/\Below w.heap.size w wr) (fun q _ _=>(intOf q).toNat)
  case atStart=>exact ⟨n,n,⟨#[]⟩,rfl,rfl,by omega,by show 0+n <= n;omega,rfl,cf _ _⟩
  case round =>
   obtain ⟨f,j,t,rfl,rfl,g,u,l,b⟩:=hrel
   by_cases r:0 < j
   ·go_wp2_with (refine ZbE _ rfl _ 144 9 5 rfl underlying144 underlying9 underlying5 (some ⟨wr.heap.size,0,none⟩) 1 1 [48+(j:Int) % 10] rfl rfl ?_ ?_)
    ·intro _
     refine ⟨_,0,rfl,fun i hi=>?_⟩;have c:i=0:=by omega
     subst c;simp
    ·exfalso
     have x:=Zcw (48+(j:Int) % 10);omega
    ·have p:=b.alloc b.size (Obj.cells #[Value.int .u8 (48+(j:Int) % 10)] 5)
     refine ⟨⟨f - 1,j / 10,_,by rw [Int.natCast_ediv];rfl,rfl,by omega,?_,?_,p⟩,by simp [intOf];omega⟩
     ·rw [ByteArray.size_append,Zcw];omega
     ·unfold Hid
      rw [l.out,Zii f j t r g]
   ·have d:j=0:=by omega
    subst d
    have o:¬ 9223372036854775807 < (⟨#[109]⟩:ByteArray).size+t.size:=by
     have e:(⟨#[109]⟩:ByteArray).size=1:=rfl;rw [e];omega
    go_wp2;go_ret;refine ⟨?_,b⟩;rw [a.out,l.out,Zju];rfl
def mk (k:Int):Nd:=⟨k,k+1,mt (k+1+1),k+1+1+1,k+1+1+1+1⟩
def Zlm (k:Int)(xs:List Nd)(i:Nat):List Nd:=(List.range i).map (fun (j:Nat)=>mk (k+5 * (j:Int))) ++ xs.drop i
theorem Zih (f k:Nat)(out:ByteArray):(mtGo f k out).size <= out.size+k:=by
 induction f generalizing k out with
 | zero=>simp [mtGo]
 | succ f ih =>
  simp only [mtGo];split
  ·omega
  ·have:=ih (k / 10) (strOfNums [48+(k:Int) % 10] ++ out)
   rw [ByteArray.size_append,Zcw] at this;omega
theorem Zku (k:Int)(h:k <= 4611686018427387904):(mt k).size <= maxLen:=by
 unfold mt maxLen;split
 ·decide
 ·rw [ByteArray.size_append]
  have:=Zih k.toNat k.toNat ⟨#[]⟩;have e:(⟨#[109]⟩:ByteArray).size=1:=rfl;have a:(⟨#[]⟩:ByteArray).size=0:=rfl;rw [a] at this;rw [e];omega
def stv (xs:List ByteArray):List Value:=xs.map Value.string
theorem ZdL (a:List ByteArray):(stv a).length=a.length:=by simp [stv]
theorem Zen (a:List ByteArray)(i:Nat)(x:ByteArray)(h:a[i]? = some x):(stv a)[i]? = some (.string x):=by simp [stv,h]
theorem ZiM (a:List ByteArray)(i:Nat)(x:ByteArray):(stv a).set i (.string x)=stv (a.set i x):=by simp [stv,List.map_set]
theorem ZiL (b:List ByteArray):∀ u ∈ stv b,u.oneCell'=true:=by
 intro u a;simp only [stv,List.mem_map] at a;obtain ⟨x,_,rfl⟩:=a;rfl
theorem Zjc (w:World)(n:Nat):Below w.heap.size w (w.drewN n):=⟨rfl,rfl,rfl,ce _,fun _ _=>rfl⟩
def StRow (w:World)(v:Value)(xs:List ByteArray):Prop :=
 ∃ ao cap,v=.slice ao xs.length cap/\(xs.length <= cap/\(ao=none -> cap=0))/\xs.length <= 9223372036854775807/\(∀ x ∈ xs,x.size <= maxLen) /\
  (xs ≠ [] -> ∃ g o,ao=some ⟨g,o,none⟩/\g < w.heap.size/\∀ i x,xs[i]? = some x -> w.cell? ⟨g,o+i,none⟩=some (.string x))
theorem StRow.small {w:World}{v:Value}{c:List ByteArray}(R:StRow w v c):∃ b a,v=.slice b c.length a:=by
 obtain ⟨b,a,rfl,_⟩:=R;exact ⟨b,a,rfl⟩
theorem StRow.sz {w:World}{v:Value}{a:List ByteArray}(R:StRow w v a):∀ x ∈ a,x.size <= maxLen:=by obtain ⟨_,_,_,_,_,b,_⟩:=R;exact b
theorem StRow.le {w:World}{v:Value}{a:List ByteArray}(R:StRow w v a):a.length <= 9223372036854775807:=by obtain ⟨_,_,_,_,h,_⟩:=R;exact h
theorem StRow.below {w f:World}{v:Value}{j:List ByteArray}(h:StRow w v j)(d:Below w.heap.size w f):StRow f v j:=by
 obtain ⟨k,b,rfl,l,m,n,a⟩:=h;refine ⟨k,b,rfl,l,m,n,fun c=>?_⟩;obtain ⟨g,o,rfl,e,a⟩:=a c;exact ⟨g,o,rfl,cm e d.size,fun i x hi=>(d.cell (p:=⟨g,o+i,none⟩) e).trans (a i x hi)⟩
theorem StRow.nilcap {w:World}{b:Option Addr}{n a:Nat}{g:List ByteArray}(h:StRow w (.slice b n a) g):b=none -> n=0/\a=0:=by
 obtain ⟨d,c,e,⟨i,f⟩,_⟩:=h;simp only [Value.slice.injEq] at e;obtain ⟨rfl,rfl,rfl⟩:=e;intro h;have:=f h;omega
theorem StRow.cells {w:World}{f:Option Addr}{n c:Nat}{m:List ByteArray}(h:StRow w (.slice f n c) m):∀ b,f=some b -> ∀ j u,(stv m)[j]? = some u -> w.cell? (b.add j)=some u:=by
 obtain ⟨p,i,e,_,_,_,q⟩:=h;simp only [Value.slice.injEq] at e;obtain ⟨rfl,rfl,rfl⟩:=e;intro b d j u k;simp only [stv,List.getElem?_map,Option.map_eq_some_iff] at k;obtain ⟨x,l,rfl⟩:=k;obtain ⟨g,o,e,_,a⟩:=q (by intro e;subst e;simp at l);rw [d] at e;cases e;rw [Addr.add_lit];exact a j x l
theorem StRow.of_own {w:World}{b:Nat}{v:Value}{a:List ByteArray}(h:w.ownsRow b 9 1 v a.length (stv a))(n:a.length <= 9223372036854775807)(o:∀ x ∈ a,x.size <= maxLen):StRow w v a:=by
 rcases h.2 with ⟨rfl,j⟩ | ⟨g,c,f,rfl,p,m,d,k,l,e⟩
 ·have:a=[]:=List.eq_nil_of_length_eq_zero j
  subst this;exact ⟨none,0,rfl,by simp,by simp,by simp,fun h=>absurd rfl h⟩
 ·refine ⟨_,c,rfl,⟨d,fun h=>by cases h⟩,n,o,fun _=>⟨g,0,rfl,(bl m),fun i x hi=>?_⟩⟩
  have q:i < a.length:=(List.getElem?_eq_some_iff.1 hi).1;have:=h.cellAt i (by omega);rw [Nat.zero_add,this,Zen a i x hi]
theorem ZlR:(prog.info? 9).map (fun i=>(i.zero,i.size,i.bytes))=some (some (.string ByteArray.empty),1,16):=by kernel_rfl
def ZaS (xs:List ByteArray)(j:Nat):List ByteArray:=xs.take j ++ List.replicate (xs.length - j) ByteArray.empty
theorem Zdj (a:List ByteArray)(j:Nat)(h:j <= a.length):(ZaS a j).length=a.length:=by simp [ZaS];omega
theorem Zel (a:List ByteArray):ZaS a a.length=a:=by simp [ZaS]
theorem Zem (a:List ByteArray):stv (ZaS a 0)=(madeCells #[.string ByteArray.empty] a.length).toList:=by
 apply List.ext_getElem?;intro j
 by_cases b:j < a.length
 ·simp [ZaS,stv,madeCells,b,Nat.mod_one]
 ·simp [ZaS,stv,madeCells,b]
theorem Zfi (a:List ByteArray)(j:Nat)(h:j < a.length):(ZaS a j).set j a[j]=ZaS a (j+1):=by
 unfold ZaS;rw [show a.length - j=a.length - (j+1)+1 by omega,List.replicate_succ,List.take_succ_eq_append_getElem h];rw [List.set_append_right _ _ (by simp;omega)];have e:j - (List.take j a).length=0:=by simp;omega
 rw [e,List.set_cons_zero,List.append_assoc];rfl
theorem Zb8 (v:Value)(b:List ByteArray)(w:World)(R:StRow w v b)(N:b.length <= 2097152) :
  Calls prog 63 #[v] w fun e D=>∃ C,e=.returned C/\D.ownsRow w.heap.size 9 1 C b.length (stv b)/\Below w.heap.size w D:=by
 obtain ⟨L,F,rfl,z,_,O,d⟩:=R;obtain ⟨B,hi,r,s,t⟩:=info_parts ZlR;have f:B.bytes * b.length <= 281474976710656:=by rw [t];omega
 have n:b.length <= maxLen:=by unfold maxLen;omega
 go_enter func63,ntmps63
 go_wp2_with (at_make;refine wpList_make_full _ rfl _ _ 37 rfl w.heap.size 9 B _ 1 underlying37 hi r s _ _ _ _ b.length rfl rfl rfl rfl f n (ce _) ?_)
 intro K a l;have c:Below w.heap.size w K:=(cf _ _).grown l (ce _) (by intro k J;cases J);clear l;go_wp2
 go_loopw [4] (fun i wr=>∃ j:Nat,j <= b.length/\i=.int .i64 j/\wr.ownsRow w.heap.size 9 1 (.slice (some ⟨w.heap.size,0,none⟩) b.length b.length) b.length (stv (ZaS b j))/\Below w.heap.size w wr) (fun i _=>b.length - (intOf i).toNat)
 case atStart=>exact ⟨0,by omega,rfl,by rw [Zem];exact a,c⟩
 case round =>
  clear a c f n;obtain ⟨j,I,rfl,a,c⟩:=hrel
  by_cases m:j < b.length
  ·obtain ⟨g,o,rfl,H,d⟩:=d (by intro e;subst e;simp at m)
   have c0:=(c.cell (p:=⟨g,o+j,none⟩) H).trans (d j b[j] (by simp [m]));have G:=a.cellAt j (by omega);obtain ⟨y,A⟩:∃ y,(ZaS b j)[j]? = some y:=⟨_,List.getElem?_eq_getElem (by rw [Zdj _ _ I];exact m)⟩;rw [Zen _ j y A] at G;have M:=a.frozenAt j;have u:=a.stored j (.string b[j]);rw [ZiM,Zfi b j m] at u;have q:Below w.heap.size w (wr.setCell ⟨w.heap.size,j,none⟩ (.string b[j])):=c.setCell (p:=⟨w.heap.size,j,none⟩) (by simp) _;have E:=u.1;clear d a u A;generalize b[j]=x at *;go_wp2
   go_roundw
   case rel=>exact ⟨j+1,by omega,by go_num,E,q⟩
   case measure=>simp [intOf];omega
  ·go_wp2
   go_ret;have:j=b.length:=by omega
   subst this;rw [Zel] at a;exact ⟨_,rfl,a,c⟩
theorem Zb7 (v:Value)(b:List ByteArray)(l:Int)(w:World)(R:StRow w v b)(C:0 <= l)(D:l <= 1048576) :
  Calls prog 50 #[v,.int .i64 l] w fun e H=>∃ r:Int,e=.returned (.int .i64 r) /\ -1 <= r/\r <= 1048576/\(0 <= r -> b.length <= 1048576/\∀ x ∈ b,x.size <= 1048576)/\Below w.heap.size w H:=by
 obtain ⟨I,A,rfl,s,L,G,a⟩:=R
 by_cases u:(b.length:Int) <= l
 ·go_enter func50,ntmps50
  go_wp2
  go_loopw [1,5] (fun l i wr=>∃ (k:Nat) (r:Int),k <= b.length/\i=.int .i64 k/\l=.int .i64 r/\0 <= r/\r <= 1048576/\Hid (∀ j x,b[j]? = some x -> j < k -> x.size <= 1048576)/\Below w.heap.size w wr) (fun _ i _=>b.length - (intOf i).toNat)
  case atStart=>exact ⟨0,_,by omega,rfl,rfl,by omega,by omega,fun j x _ h=>by omega,cf _ _⟩
  case round =>
   obtain ⟨k,r,J,rfl,rfl,E,F,q,f⟩:=hrel
   by_cases d:k < b.length
   ·obtain ⟨g,o,rfl,B,a⟩:=a (by intro e;subst e;simp at d)
    obtain ⟨x,c⟩:∃ x,b[k]? = some x:=⟨b[k],by simp [d]⟩;have c0:=(f.cell (p:=⟨g,o+k,none⟩) B).trans (a k x c);have m:=G x (List.mem_of_getElem? c);unfold maxLen at m;have z:Hid (b[k]? = some x):=c;clear a c
    by_cases K:r < x.size
    ·go_wp2
     go_ret;exact ⟨-1,rfl,by omega,by omega,fun h=>by omega,f⟩
    ·go_wp2
     go_roundw
     case rel =>
      refine ⟨k+1,_,by omega,by go_num,rfl,by omega,by omega,fun j y n t=>?_,f⟩
      by_cases e:j=k
      ·subst e
       rw [z.out] at n;cases n;omega
      ·exact q.out j y n (by omega)
     case measure=>simp [intOf];omega
   ·go_wp2
    go_ret;refine ⟨r,rfl,by omega,by omega,fun _=>⟨by omega,fun x c=>?_⟩,f⟩;obtain ⟨j,t,e⟩:=List.getElem_of_mem c;exact q.out j x (by rw [<- e];simp [t]) (by omega)
 ·go_enter func50,ntmps50
  go_wp2;go_ret;exact ⟨-1,rfl,by omega,by omega,fun h=>by omega,cf _ _⟩
theorem Za7 (m vb:Value)(c:List ByteArray)(w:World)(n:StRow w m c)(o:StRow w vb c) :
  Calls prog 8 #[m,vb] w fun e y=>e=.returned (.bool true)/\Below w.heap.size w y:=by
 obtain ⟨z,B,rfl,s,F,H,a⟩:=n;obtain ⟨A,C,rfl,t,_,_,b⟩:=o;have G:((c.length:Int) != (c.length:Int))=false:=by simp
 go_enter func8,ntmps8
 go_wp2
 go_loopw [5] (fun i wr=>∃ k:Nat,k <= c.length/\i=.int .i64 k/\Below w.heap.size w wr) (fun i _=>c.length - (intOf i).toNat)
 case atStart=>exact ⟨0,by omega,rfl,cf _ _⟩
 case round =>
  obtain ⟨k,E,rfl,f⟩:=hrel
  by_cases d:k < c.length
  ·obtain ⟨q,u,rfl,g,a⟩:=a (by intro e;subst e;simp at d)
   obtain ⟨r,v,rfl,j,b⟩:=b (by intro e;subst e;simp at d);obtain ⟨x,l⟩:∃ x,c[k]? = some x:=⟨c[k],by simp [d]⟩;have c0:=(f.cell (p:=⟨q,u+k,none⟩) g).trans (a k x l);have D:=(f.cell (p:=⟨r,v+k,none⟩) j).trans (b k x l);clear a b l;go_wp2
   go_quiet (fail)
   go_wp2
   go_roundw
   case rel=>exact ⟨k+1,by omega,by go_num,f.trans ((Zjc wr _).mono f.size)⟩
   case measure=>simp [intOf];omega
  ·go_wp2
   go_ret;exact ⟨rfl,f⟩
def sm (k:Int)(n:Nat):List ByteArray:=(List.range n).map fun (j:Nat)=>mt (k+(j:Int))
theorem Za4 (k:Int)(n:Nat):(sm k n).length=n:=by simp [sm]
theorem Zlc (k:Int)(n i:Nat)(h:i < n):(sm k n)[i]? = some (mt (k+(i:Int))):=by simp [sm,h]
theorem ZkD (k:Int)(n:Nat):sm k (n+1)=sm k n ++ [mt (k+(n:Int))]:=by simp [sm,List.range_succ]
theorem Zlq (k:Int)(n:Nat)(c:k <= 2305843009213693952)(d:n <= 4194304):∀ x ∈ sm k n,x.size <= maxLen:=by
 intro y a;simp only [sm,List.mem_map,List.mem_range] at a;obtain ⟨j,b,rfl⟩:=a;exact Zku _ (by omega)
def smid (k:Int)(pre xs post:List ByteArray)(j:Nat):List ByteArray:=pre ++ (sm k j ++ (xs.drop j ++ post))
theorem ZiH (k:Int)(b c a:List ByteArray):smid k b c a 0=b ++ (c ++ a):=by simp [smid,sm]
theorem ZiG (k:Int)(b c a:List ByteArray):smid k b c a c.length=b ++ (sm k c.length ++ a):=by simp [smid]
theorem Zf5 (k:Int)(b c a:List ByteArray)(j:Nat)(h:j <= c.length):(smid k b c a j).length=b.length+c.length+a.length:=by
 simp [smid,Za4];omega
theorem ZjS (k:Int)(a c b:List ByteArray)(j:Nat)(h:j < c.length):(smid k a c b j).set (a.length+j) (mt (k+(j:Int)))=smid k a c b (j+1):=by
 unfold smid;rw [List.set_append_right _ _ (by omega),show a.length+j - a.length=j by omega];rw [List.set_append_right _ _ (by rw [Za4];omega),Za4,Nat.sub_self,List.drop_eq_getElem_cons h,ZkD];rw [List.cons_append,List.set_cons_zero,List.append_assoc];rfl
theorem ZeW (g o t n N l:Nat)(k:Int)(c f a:List ByteArray)(w:World)(A:o=c.length)(z:c.length+f.length+a.length=N)(h:w.ownsRow l 9 1 (.slice (some ⟨g,0,none⟩) N n) N (stv (c ++ (f ++ a))))(L:f.length <= 4194304)(I:0 <= k)(K:k <= 2305843009213693952) :
  Calls prog 11 #[.slice (some ⟨g,o,none⟩) f.length t,.int .i64 k] w fun e C=>e=.returned (.int .i64 (k+f.length))/\C.ownsRow l 9 1 (.slice (some ⟨g,0,none⟩) N n) N (stv (c ++ (sm k f.length ++ a)))/\w.grownBy C (some g):=by
 have D:Hid (c.length+f.length+a.length=N):=z;have F:o+f.length <= N:=by omega
 have x:Hid (o=c.length):=A;clear z A
 go_enter func11,ntmps11
 go_wp2
 go_loopw [1,5] (fun q i wr=>∃ j:Nat,j <= f.length/\i=.int .i64 j/\q=.int .i64 (k+(j:Int))/\wr.ownsRow l 9 1 (.slice (some ⟨g,0,none⟩) N n) N (stv (smid k c f a j))/\w.grownBy wr (some g)) (fun _ i _=>f.length - (intOf i).toNat)
 case atStart=>exact ⟨0,by omega,rfl,by simp,by rw [ZiH];exact h,World.grownBy.refl _ _⟩
 case round =>
  obtain ⟨j,H,rfl,rfl,d,m⟩:=hrel
  by_cases v:j < f.length
  ·have G:g < wr.heap.size:=(d.lt g rfl).2
   go_wp2_with fail;refine (ZaB _ _ (by omega)).mono ?_;rintro e M ⟨rfl,p⟩;have b:=Zac d p;have r:=m.trans (ZaD p (some g));have c0:=b.cellAt (o+j) (by omega);obtain ⟨y,B⟩:∃ y,(smid k c f a j)[o+j]? = some y:=⟨_,List.getElem?_eq_getElem (by rw [Zf5 _ _ _ _ _ H];have:=D.out;omega)⟩;rw [Zen _ (o+j) y B] at c0;have J:=b.frozenAt (o+j);have s:=b.stored (o+j) (.string (mt (k+(j:Int))));rw [ZiM,x.out,ZjS k c f a j v,<- x.out] at s;have E:=s.1;have u:=r.trans s.2;clear B d b s p r m;go_wp2
   go_roundw
   case rel=>exact ⟨j+1,by omega,by go_num,by go_num,E,u⟩
   case measure=>simp [intOf];omega
  ·go_wp2
   go_ret;have:j=f.length:=by omega
   subst this;rw [ZiG] at d;exact ⟨rfl,d,m⟩
theorem ZcC (v:Value)(k:Int)(n:Nat)(w:World)(R:StRow w v (sm k n))(B:n <= 4194304)(t:0 <= k)(A:k <= 2305843009213693952) :
  Calls prog 12 #[v,.int .i64 k] w fun e u=>e=.returned (.int .i64 (k+n))/\Below w.heap.size w u:=by
 obtain ⟨y,r,rfl,d,_,D,a⟩:=R;rw [Za4] at d ⊢
 go_enter func12,ntmps12
 go_wp2
 go_loopw [1,5] (fun q i wr=>∃ j:Nat,j <= n/\i=.int .i64 j/\q=.int .i64 (k+(j:Int))/\Below w.heap.size w wr) (fun _ i _=>n - (intOf i).toNat)
 case atStart=>exact ⟨0,by omega,rfl,by simp,cf _ _⟩
 case round =>
  obtain ⟨j,z,rfl,rfl,b⟩:=hrel
  by_cases l:j < n
  ·obtain ⟨g,o,rfl,m,a⟩:=a (by intro e;have:=congrArg List.length e;rw [Za4] at this;simp only [List.length_nil] at this;omega)
   have C:=a j _ (Zlc k n j l);have c0:=(b.cell (p:=⟨g,o+j,none⟩) m).trans C;clear a;go_wp2_with fail
   go_region_with (go_at_call 42;refine (ZaB _ _ ?_).mono ?_;omega;rintro e x ⟨rfl,f⟩;have c:Below w.heap.size w x:=b.drew.trans (f.mono b.size);have s:=(c.cell (p:=⟨g,o+j,none⟩) m).trans C)
   all_goals
    clear c0 s;go_wp2
    go_roundw
    case rel=>exact ⟨j+1,by omega,by go_num,by go_num,c⟩
    case measure=>simp [intOf];omega
  ·go_wp2
   go_ret;have:j=n:=by omega
   subst this;exact ⟨rfl,b⟩
theorem Zag {P:Program}{ops:Array Oper}{c:List Oper}{op:Oper}{a:Act}{w:World}{Q:Exit -> Act -> World -> Prop}(f:op.guard=none)(e:TypeId)(x:Operand)(l:op.op=.load e x)(b o:Nat)(n:a.eval x=.pointer (some ⟨b,o,none⟩))(C:Array Value)(t:TypeId)(cs:Array Value)(d:TypeDesc)(i:w.heap[b]? = some (.cells C t (0,0)))(j:C.extract o (o+cs.size)=cs)(m:P.underlying e=some d)(k:d.isRow=true)(hi:(P.info? e).map (·.size)=some cs.size)(h:wpList P ops Q c (a.put op.dst (.agg cs)) w):wpList P ops Q (op :: c) a w:=by
 have g:=World.rangeAt_of_block i o cs.size;rw [j] at g;exact wpList_load_mid f e x l b o n cs.toList d g m k (by simpa using hi) (by simpa using h)
theorem ZcK (g:Nat)(e:TypeId):∀ (d:List Value) (o:Nat) (w:World) (a:Array Value),w.heap[g]? = some (.cells a e (0,0)) -> o+d.length <= a.size ->
  ∃ b:Array Value,(w.setCells g o d).heap[g]? = some (.cells b e (0,0))/\b.toList=a.toList.take o ++ (d ++ a.toList.drop (o+d.length))
 | [],o,w,a,h,hb=>⟨a,h,by simp⟩
 | v :: r,o,w,a,h,hb=>by
  simp only [List.length_cons] at hb;obtain ⟨b,j,k⟩:=ZcK g e r (o+1) (w.setCell ⟨g,o,none⟩ v) _ (ci w g o a e v h) (by simp;omega);refine ⟨b,j,k.trans ?_⟩;obtain ⟨A,c,B,m,l⟩:∃ A c B,a.toList=A ++ c :: B/\A.length=o:=⟨a.toList.take o,a.toList[o]'(by simp;omega),a.toList.drop (o+1),by rw [<- List.drop_eq_getElem_cons];exact (List.take_append_drop _ _).symm,by simp;omega⟩;subst l;rw [Array.toList_setIfInBounds,m];have f:A.length+1+r.length - A.length=r.length+1:=by omega
  have i:A.length <= A.length+1+r.length:=by omega
  simp [List.take_append,List.drop_append,List.take_of_length_le,List.drop_of_length_le,f,i]
theorem ZcL (g:Nat):∀ (a:List Value) (o:Nat) (w:World) (k:Nat),k ≠ g -> (w.setCells g o a).heap[k]? = w.heap[k]?
 | [],_,_,_,_=>rfl
 | v :: r,o,w,k,hk=>(ZcL g r (o+1) _ k hk).trans (ch w ⟨g,o,none⟩ k v hk)
theorem Zdh (g:Nat):∀ (a:List Value) (o:Nat) (w:World),(w.setCells g o a).heap.size=w.heap.size
 | [],_,_=>rfl
 | v :: r,o,_=>(Zdh g r (o+1) _).trans (by simp [World.setCell])
theorem ZcJ (g:Nat):∀ (b:List Value) (o:Nat) (w a:World),Below g a w -> Below g a (w.setCells g o b)
 | [],_,_,_,h=>h
 | v :: r,o,_,a,h=>ZcJ g r (o+1) _ a (h.setCell (p:=⟨g,o,none⟩) (ce _) v)
theorem ZaF {P:Program}{ops:Array Oper}{c:List Oper}{op:Oper}{a:Act}{w:World}{Q:Exit -> Act -> World -> Prop}(l:op.guard=none)(m:TypeId)(x y:Operand)(v:op.op=.store m x y)(g o:Nat)(cells:Array Value)(z:a.eval x=.pointer (some ⟨g,o,none⟩))(A:a.eval y=.agg cells)(t:TypeId)(b d:Array Value)(i:w.heap[g]? = some (.cells b t (0,0)))(s:o+cells.size <= b.size)(hi:(P.info? m).map (·.size)=some cells.size)(n:cells.all (·.oneCell')=true)(u:d.toList=b.toList.take o ++ (cells.toList ++ b.toList.drop (o+cells.size)))(h:∀ f:World,f.heap[g]? = some (.cells d t (0,0)) -> Below g w f -> f.heap.size=w.heap.size -> (∀ k,k ≠ g -> f.heap[k]? = w.heap[k]?) -> wpList P ops Q c (a.put op.dst undef) f):wpList P ops Q (op :: c) a w:=by
 refine wpList_store_mid l m x y v g o cells z A (fun j B=>⟨?_,cj w g _ _ _ i⟩) hi n (h _ ?_ (ZcJ g _ _ _ _ (cf _ _)) (Zdh _ _ _ _) (fun k r=>ZcL g _ _ _ k r))
 ·rw [cd w g (o+j) _ _ _ i]
  simp;omega
 ·obtain ⟨e,p,q⟩:=ZcK g t cells.toList o w b i (by simpa using s)
  rw [p];have:e=d:=Array.toList_inj.1 (q.trans (by rw [u];simp));rw [this]
end Go.Proofs.YtanhoamdlhaaeaaGreatDoor
