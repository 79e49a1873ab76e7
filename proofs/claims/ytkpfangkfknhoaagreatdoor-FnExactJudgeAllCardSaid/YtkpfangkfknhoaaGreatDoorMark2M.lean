/-
  Texts that stood by themselves, laid into one.
-/
import Derived.Test.YtkpfangkfknhoaaGreatDoorMcTM
import Derived.Test.YtkpfangkfknhoaaGreatDoorShapeM
import Derived.Deep.RegionWith
import Derived.Test.YtkpfangkfknhoaaGreatDoorNumberM
import Derived.Laws.IdiomCopy
import Derived.Laws.BytesArg
import Derived.Lib.AppendStr
import Derived.Laws.IdiomStrings
/-
  Contracts of spec's l2Node and PoolOk: when a node and a pool are right.
-/
set_option maxRecDepth 100000
set_option maxHeartbeats 6400000
namespace Go.Proofs.YtkpfangkfknhoaaGreatDoor
open Go.Proofs.Tryz
open Go.RowKit
theorem ZgC (k n a b:Int)(s:ByteArray)(m:Nat)(w:World)(q:s.size <= maxLen)(x:m <= 9223372036854775807) :
  Calls prog 142 #[.agg #[.int .i64 k,.int .i64 n,.string s,.int .i64 a,.int .i64 b],.int .i64 m] w fun e f=>e=.returned (.bool (ZaA ⟨k,n,s,a,b⟩ m))/\Below w.heap.size w f:=by
 go_enter func142,ntmps142
 go_wp2_with fail;refine (Zas _ _ _ _).mono ?_;rintro e d ⟨rfl,rfl⟩;go_wp2_with fail;refine (Zas _ _ _ _).mono ?_;rintro e d ⟨rfl,rfl⟩
 by_cases l:k=1
 ·subst l
  go_wp2_with fail
  all_goals go_ret
  all_goals (refine ⟨retB ?_,(cj _ _).alloc (ce _) _⟩;rw [Bool.eq_iff_iff];simp [ZaA,Zbu,Zbt,lo,hi,hasS,hasA,hasB, *];try first | omega | (by_cases c:s.toList=[] <;> simp [c] <;> omega))
 by_cases j:k=2
 ·subst j
  go_wp2_with fail
  all_goals first | (refine (Zas _ _ _ _).mono ?_;rintro e d ⟨rfl,rfl⟩;go_wp2_with fail) | skip
  all_goals go_ret
  all_goals (refine ⟨retB ?_,(cj _ _).alloc (ce _) _⟩;rw [Bool.eq_iff_iff];simp [ZaA,Zbu,Zbt,lo,hi,hasS,hasA,hasB, *];try first | omega | (by_cases c:s.toList=[] <;> simp [c] <;> omega))
 by_cases g:k=3
 ·subst g
  go_wp2_with fail
  all_goals first | (refine (Zas _ _ _ _).mono ?_;rintro e d ⟨rfl,rfl⟩;go_wp2_with fail) | skip
  all_goals go_ret
  all_goals (refine ⟨retB ?_,(cj _ _).alloc (ce _) _⟩;rw [Bool.eq_iff_iff];simp [ZaA,Zbu,Zbt,lo,hi,hasS,hasA,hasB, *];try first | omega | (by_cases c:s.toList=[] <;> simp [c] <;> omega))
 by_cases p:k=4
 ·subst p
  go_wp2_with fail
  all_goals first | (refine (ZaS s _ q).mono ?_;rintro e d ⟨rfl,rfl⟩;go_wp2_with fail) | skip
  all_goals go_ret
  all_goals (refine ⟨retB ?_,(cj _ _).alloc (ce _) _⟩;rw [Bool.eq_iff_iff];simp [ZaA,Zbu,Zbt,lo,hi,hasS,hasA,hasB, *];try first | omega | (by_cases c:s.toList=[] <;> simp [c] <;> omega))
 by_cases i:k=5
 ·subst i
  go_wp2_with fail
  all_goals go_ret
  all_goals (refine ⟨retB ?_,(cj _ _).alloc (ce _) _⟩;rw [Bool.eq_iff_iff];simp [ZaA,Zbu,Zbt,lo,hi,hasS,hasA,hasB, *];try first | omega | (by_cases c:s.toList=[] <;> simp [c] <;> omega))
 by_cases v:k=6
 ·subst v
  go_wp2_with fail
  all_goals first | (refine (Zas _ _ _ _).mono ?_;rintro e d ⟨rfl,rfl⟩;go_wp2_with fail) | skip
  all_goals go_ret
  all_goals (refine ⟨retB ?_,(cj _ _).alloc (ce _) _⟩;rw [Bool.eq_iff_iff];simp [ZaA,Zbu,Zbt,lo,hi,hasS,hasA,hasB, *];try first | omega | (by_cases c:s.toList=[] <;> simp [c] <;> omega))
 by_cases t:k=7
 ·subst t
  go_wp2_with fail
  all_goals go_ret
  all_goals (refine ⟨retB ?_,(cj _ _).alloc (ce _) _⟩;rw [Bool.eq_iff_iff];simp [ZaA,Zbu,Zbt,lo,hi,hasS,hasA,hasB, *];try first | omega | (by_cases c:s.toList=[] <;> simp [c] <;> omega))
 by_cases u:k=8
 ·subst u
  go_wp2_with fail
  all_goals first | (refine (Zas _ _ _ _).mono ?_;rintro e d ⟨rfl,rfl⟩;go_wp2_with fail) | skip
  all_goals go_ret
  all_goals (refine ⟨retB ?_,(cj _ _).alloc (ce _) _⟩;rw [Bool.eq_iff_iff];simp [ZaA,Zbu,Zbt,lo,hi,hasS,hasA,hasB, *];try first | omega | (by_cases c:s.toList=[] <;> simp [c] <;> omega))
 by_cases o:k=9
 ·subst o
  go_wp2_with fail
  all_goals first | (refine (Zas _ _ _ _).mono ?_;rintro e d ⟨rfl,rfl⟩;go_wp2_with fail) | skip
  all_goals go_ret
  all_goals (refine ⟨retB ?_,(cj _ _).alloc (ce _) _⟩;rw [Bool.eq_iff_iff];simp [ZaA,Zbu,Zbt,lo,hi,hasS,hasA,hasB, *];try first | omega | (by_cases c:s.toList=[] <;> simp [c] <;> omega))
 have r:Hid (ZaA ⟨k,n,s,a,b⟩ m=false):=by
  unfold Hid ZaA;rw [Bool.eq_false_iff];intro h;simp only [Bool.and_eq_true,decide_eq_true_eq] at h;have:=h.1.1.1;omega
 go_wp2_with fail;go_ret;exact ⟨by rw [r.out];rfl,(cj _ _).alloc (ce _) _⟩
theorem Zkc (x:Nd)(m:Nat)(w:World)(d:x.s.size <= maxLen)(c:m <= 9223372036854775807) :
  Calls prog 142 #[.agg #[.int .i64 x.k,.int .i64 x.n,.string x.s,.int .i64 x.a,.int .i64 x.b],.int .i64 m] w fun e f=>e=.returned (.bool (ZaA x m))/\Below w.heap.size w f :=
 ZgC x.k x.n x.a x.b x.s m w d c
theorem Zcc (v:Value)(a:List Nd)(w:World)(R:NRow w v a) :
  Calls prog 108 #[.agg #[v]] w fun e G=>e=.returned (.bool (Zau a))/\Below w.heap.size w G:=by
 have E:=R;obtain ⟨A,t,rfl,u,L,B,b⟩:=E
 go_enter func108,ntmps108
 go_wp2_with fail
 go_loopw [3] (fun i wr=>∃ k:Nat,k <= a.length/\i=.int .i64 k/\Hid (ZaG a 0=ZaG (a.drop k) k)/\wr.cell? ⟨w.heap.size,0,none⟩=some (.slice A a.length t)/\Below w.heap.size w wr/\w.heap.size < wr.heap.size) (fun i _=>a.length - (intOf i).toNat)
 case atStart=>exact ⟨0,by omega,rfl,rfl,by simp,(cj _ _).alloc (ce _) _,by simp⟩
 case round =>
  obtain ⟨k,K,rfl,m,d,s,l⟩:=hrel
  by_cases j:k < a.length
  ·obtain ⟨g,o,rfl,H,b⟩:=b (by intro e;subst e;simp at j)
   obtain ⟨x,q⟩:∃ x,a[k]? = some x:=⟨a[k],by simp [j]⟩;obtain ⟨c0,c1,c2,c3,c4⟩:=(b k x q).below s H;have y:Hid (ZaG (a.drop k) k=(ZaA x k && ZaG (a.drop (k+1)) (k+1))):=ZdC a k x q;have r:=B x (List.mem_of_getElem? q);clear b q;go_wp2_with fail;refine (Zkc x _ _ r (by omega)).mono ?_;rintro e J ⟨rfl,c⟩;have z:Below w.heap.size w J:=s.trans (c.mono (by omega));have f:=(c.cell (p:=⟨w.heap.size,0,none⟩) l).trans d;have h:=cy l c.size;have n:Hid (ZaG a 0=(ZaA x k && ZaG (a.drop (k+1)) (k+1))):=by unfold Hid;rw [m.out,y.out]
   clear c0 c1 c2 c3 c4 c d y m;generalize I:ZaA x k=C at n ⊢;clear I;cases C with
   | false =>
    have F:Hid (Zau a=false):=by unfold Hid Zau;rw [n.out];simp
    clear n;go_wp2;go_ret;exact ⟨by rw [F.out];rfl,z⟩
   | true =>
    go_wp2
    go_roundw
    case rel=>exact ⟨k+1,by omega,by go_num,n.out,f,z,h⟩
    case measure=>simp [intOf];omega
  ·have e:k=a.length:=by omega
   have D:Hid (Zau a=decide (a.length <= 3000)):=by unfold Hid Zau;rw [m.out,e,List.drop_length];simp [ZaG]
   clear m;go_wp2;go_ret;refine ⟨retB ?_,s⟩;rw [D.out,Bool.eq_iff_iff];simp;omega
def chain (xs:List Nd):Nat -> Nat -> List Int -> Option (List Int)
 | 0,_,_=>none
 | f+1,j,acc=>match xs[j]? with
  | none=>none
  | some x=>if x.k=5 then chain xs f x.b.toNat (acc ++ [x.a]) else if x.k=1 then some acc else none
def ZmJ (xs:List Nd)(v:Nat):List Int × Bool:=match chain xs (v+1) v [] with
 | some l=>(l,true)
 | none=>([],false)
def Znp (xs:List Nd)(v:Int):List Int × Bool:=if Zau xs && hasI xs v then ZmJ xs v.toNat else ([],false)
theorem Zcz (v:Value)(b:List Nd)(a:Int)(w:World)(R:NRow w v b) :
  Calls prog 143 #[.agg #[v],.int .i64 a] w fun e c=>e=.returned (.bool (hasI b a))/\Below w.heap.size w c:=by
 obtain ⟨h,d,rfl,_,f,_⟩:=R
 go_enter func143,ntmps143
 go_wp2_with fail;refine (Zas _ _ _ _).mono ?_;rintro e g ⟨rfl,rfl⟩;go_wp2;go_ret;refine ⟨retB ?_,(cj _ _).alloc (ce _) _⟩;rw [Bool.eq_iff_iff];simp [hasI];omega
theorem ZhT (x:Nd)(w:World) :
  Calls prog 118 #[.agg #[.int .i64 x.k,.int .i64 x.n,.string x.s,.int .i64 x.a,.int .i64 x.b]] w fun e c=>e=.returned (.agg #[.int .i64 x.k,.int .i64 x.n,.string x.s,.int .i64 x.a,.int .i64 x.b])/\Below w.heap.size w c:=by
 go_enter func118,ntmps118
 go_wp2
 exact cx (results_cell_row rfl _ _ (w.heap.size+1) 194 _ (0,0) _ rfl ((cz _ _ (by simp)).trans (cH _ _ _)) underlying194 rfl Zn0) rfl
  ⟨rfl,(((cj _ _).alloc (ce _) _).alloc (by simp) _).alloc (by simp;omega) _⟩
def less (l n:Int):Int:=if l < n then -1 else l - n
theorem Zek (x:Nd)(l:Int)(w:World)(g:x.s.size <= maxLen)(i:0 <= l)(f:l <= 1048576) :
  Calls prog 106 #[.agg #[.int .i64 x.k,.int .i64 x.n,.string x.s,.int .i64 x.a,.int .i64 x.b],.int .i64 l] w fun e d=>e=.returned (.int .i64 (less l x.s.size))/\Below w.heap.size w d:=by
 unfold maxLen at g
 go_enter func106,ntmps106
 by_cases h:l < x.s.size
 ·have c:Hid (less l x.s.size = -1):=by unfold Hid less;rw [if_pos h]
  go_wp2;go_ret;exact ⟨by rw [c.out];rfl,(cj _ _).alloc (ce _) _⟩
 ·have c:Hid (less l x.s.size=l - x.s.size):=by unfold Hid less;rw [if_neg h]
  go_wp2;go_ret;exact ⟨by rw [c.out];rfl,(cj _ _).alloc (ce _) _⟩
theorem ZhO (x:Nd)(w:World) :
  Calls prog 140 #[.agg #[.int .i64 x.k,.int .i64 x.n,.string x.s,.int .i64 x.a,.int .i64 x.b],.agg #[.int .i64 x.k,.int .i64 x.n,.string x.s,.int .i64 x.a,.int .i64 x.b]] w fun e c=>e=.returned (.bool true)/\Below w.heap.size w c:=by
 go_enter func140,ntmps140
 go_wp2;go_ret;exact ⟨rfl,((cj _ _).alloc (ce _) _).alloc (by simp) _⟩
def ZkZ:Nd:=⟨0,0,ByteArray.empty,0,0⟩
def Zbf (xs:List Nd)(j:Nat):List Nd:=xs.take j ++ List.replicate (xs.length - j) ZkZ
theorem Zd7 (a:List Nd)(j:Nat)(h:j <= a.length):(Zbf a j).length=a.length:=by simp [Zbf];omega
theorem Zgf (a:List Nd):Zbf a a.length=a:=by simp [Zbf]
theorem Zks (n:Nat):ncs (List.replicate n ZkZ)=(madeCells #[Value.int .i64 0,.int .i64 0,.string ByteArray.empty,.int .i64 0,.int .i64 0] (n * 5)).toList:=by
 apply List.ext_getElem?;intro j
 by_cases b:j < n * 5
 ·have c:j / 5 < n:=by omega
  rw [show j=j / 5 * 5+j % 5 by omega,Zgu _ (j / 5) ZkZ (by simp [c]) (j % 5) (by omega)];rw [show j / 5 * 5+j % 5=j by omega];have a:j % 5=0 \/ j % 5=1 \/ j % 5=2 \/ j % 5=3 \/ j % 5=4:=by omega
  rcases a with a | a | a | a | a <;> simp [madeCells,b,a,ZkZ,Nd.cs]
 ·rw [List.getElem?_eq_none (by rw [Zcx,List.length_replicate];omega),List.getElem?_eq_none (by simp [madeCells];omega)]
theorem ZfO (a:List Nd):ncs (Zbf a 0)=(madeCells #[Value.int .i64 0,.int .i64 0,.string ByteArray.empty,.int .i64 0,.int .i64 0] (a.length * 5)).toList:=by
 rw [<- Zks];simp [Zbf]
theorem ZgA (a:List Nd)(j:Nat)(h:j < a.length):(Zbf a j).set j a[j]=Zbf a (j+1):=by
 unfold Zbf;rw [show a.length - j=a.length - (j+1)+1 by omega,List.replicate_succ,List.take_succ_eq_append_getElem h];rw [List.set_append_right _ _ (by simp;omega)];have e:j - (List.take j a).length=0:=by simp;omega
 rw [e,List.set_cons_zero,List.append_assoc];rfl
theorem ZgW (v:Value)(a:List Nd)(w:World)(R:NRow w v a)(M:a.length <= 2097152) :
  Calls prog 82 #[v] w fun e D=>∃ C,e=.returned C/\D.ownsRow w.heap.size 194 5 C a.length (ncs a)/\Below w.heap.size w D:=by
 obtain ⟨N,J,rfl,B,_,L,d⟩:=R;obtain ⟨A,hi,y,z,x⟩:=info_parts Zn1;have f:A.bytes * a.length <= 281474976710656:=by rw [x];omega
 have n:a.length <= maxLen:=by unfold maxLen;omega
 go_enter func82,ntmps82
 go_wp2_with (at_make;refine wpList_make_full _ rfl _ _ 38 rfl w.heap.size 194 A _ 5 underlying38 hi y z _ _ _ _ a.length rfl rfl rfl rfl f n (ce _) ?_)
 intro I c m;have b:Below w.heap.size w I:=(cj _ _).grown m (ce _) (by intro k t;cases t);clear m;go_wp2
 go_loopw [4] (fun i wr=>∃ j:Nat,j <= a.length/\i=.int .i64 j/\wr.ownsRow w.heap.size 194 5 (.slice (some ⟨w.heap.size,0,none⟩) a.length a.length) a.length (ncs (Zbf a j))/\Below w.heap.size w wr) (fun i _=>a.length - (intOf i).toNat)
 case atStart=>exact ⟨0,by omega,rfl,by rw [ZfO];exact c,b⟩
 case round =>
  clear c b f n;obtain ⟨j,E,rfl,c,b⟩:=hrel
  by_cases q:j < a.length
  ·obtain ⟨g,o,rfl,K,d⟩:=d (by intro e;subst e;simp at q)
   obtain ⟨c0,c1,c2,c3,c4⟩:=(d j a[j] (by simp [q])).below b K;have G:=Zd7 a j E;clear d;go_wp2_with fail;refine (ZhT a[j] _).mono ?_;rintro e F ⟨rfl,p⟩
   have h:F.ownsRow w.heap.size 194 5 (.slice (some ⟨w.heap.size,0,none⟩) (Zbf a j).length a.length) (Zbf a j).length (ncs (Zbf a j)):=by
    rw [G];exact Zad c p
   have r:=b.trans (p.mono b.size);clear c0 c1 c2 c3 c4 c p b
   go_wp2_with (refine Zc9 rfl _ _ rfl w.heap.size w.heap.size j a.length (Zbf a j) a[j] rfl rfl (by omega) h ?_)
   intro H l s;rw [ZgA a j q] at l;have u:Below w.heap.size w H:=r.grown s r.size (fun k t=>by simp at t;omega);clear h s;go_wp2
   go_roundw
   case rel=>exact ⟨j+1,by omega,by go_num,l,u⟩
   case measure=>simp [intOf];omega
  ·go_wp2
   go_ret;have:j=a.length:=by omega
   subst this;rw [Zgf] at c;exact ⟨_,rfl,c,b⟩
theorem ZbE (w:World)(A B C:Obj):(((w.alloc A).alloc B).alloc C).heap[w.heap.size+1+1]? = some C:=by
 have h:=co ((w.alloc A).alloc B) C
 simpa using h
theorem Zep (v:Value)(c:List Nd)(w:World)(R:NRow w v c)(r:c.length <= 2097152) :
  Calls prog 45 #[.agg #[v]] w fun e q=>∃ m,e=.returned (.agg #[m])/\q.ownsRow w.heap.size 194 5 m c.length (ncs c)/\Below w.heap.size w q:=by
 have s:=R;obtain ⟨t,o,rfl,_⟩:=s
 go_enter func45,ntmps45
 go_wp2_with fail
 have f:Below w.heap.size w (((w.alloc (Obj.cells #[.slice t c.length o] 24)).alloc (Obj.cells #[.slice none 0 0] 40)).alloc (Obj.cells #[.slice none 0 0] 40)) :=
  (((cj _ _).alloc (ce _) _).alloc (by simp) _).alloc (by simp;omega) _
 refine (ZgW _ c _ (R.below f) r).mono ?_;rintro e b ⟨m,rfl,h,i⟩;obtain ⟨j,d,rfl⟩:=Zag h;have g:b.heap[w.heap.size+1+1]? = some (.cells #[.slice none 0 0] 40 (0,0)):=(i.block _ (by simp)).trans (ZbE _ _ _ _);have a:b.heap[w.heap.size+1]? = some (.cells #[.slice none 0 0] 40 (0,0)):=(i.block _ (by simp)).trans ((cz _ _ (by simp)).trans (cH _ _ _));have c2:b.cell? ⟨w.heap.size+1+1,0,none⟩=some (.slice none 0 0):=by rw [cd b _ 0 _ _ _ g];rfl
 have c1:b.cell? ⟨w.heap.size+1,0,none⟩=some (.slice none 0 0):=by rw [cd b _ 0 _ _ _ a];rfl
 have x:b.frozen? ⟨w.heap.size+1+1,0,none⟩=false:=cw b _ 0 _ _ g;have u:b.frozen? ⟨w.heap.size+1,0,none⟩=false:=cw b _ 0 _ _ a;have n:=f.trans (i.mono f.size);have k:b.ownsRow (w.heap.size+3) 194 5 (.slice j c.length d) c.length (ncs c):=by simpa using h
 go_wp2;have l:=cu (b.setCell ⟨w.heap.size+1+1,0,none⟩ (.slice j c.length d)) (w.heap.size+1) 0 _ _ (.slice j c.length d) ((cr b ⟨w.heap.size+1+1,0,none⟩ (w.heap.size+1) _ (by simp)).trans a);refine cx (results_cell_row rfl _ _ (w.heap.size+1) 40 _ (0,0) _ rfl l underlying40 rfl (by kernel_rfl)) rfl ⟨_,rfl,?_,?_⟩
 ·exact Zah (cI (cI k (by simp) _) (by simp) _) (by omega)
 ·exact (n.setCell (p:=⟨w.heap.size+1+1,0,none⟩) (by simp;omega) _).setCell (p:=⟨w.heap.size+1,0,none⟩) (by simp) _
theorem Zg3 (v:Value)(b:List Nd)(w:World)(R:NRow w v b) :
  Calls prog 69 #[v,.int .i64 1048576] w fun e F=>∃ r:Int,e=.returned (.int .i64 r) /\ -1 <= r/\r <= 1048576/\(0 <= r -> b.length <= 1048576/\∀ x ∈ b,x.s.size <= 1048576)/\Below w.heap.size w F:=by
 obtain ⟨M,G,rfl,D,K,E,a⟩:=R
 by_cases f:b.length <= 1048576
 ·go_enter func69,ntmps69
  go_wp2
  go_loopw [1,5] (fun l i wr=>∃ (k:Nat) (r:Int),k <= b.length/\i=.int .i64 k/\l=.int .i64 r/\0 <= r/\r <= 1048576/\Hid (∀ j x,b[j]? = some x -> j < k -> x.s.size <= 1048576)/\Below w.heap.size w wr) (fun _ i _=>b.length - (intOf i).toNat)
  case atStart=>exact ⟨0,_,by omega,rfl,rfl,by omega,by omega,fun j x _ h=>by omega,cj _ _⟩
  case round =>
   obtain ⟨k,r,J,rfl,rfl,z,t,B,p⟩:=hrel
   by_cases m:k < b.length
   ·obtain ⟨g,o,rfl,H,a⟩:=a (by intro e;subst e;simp at m)
    obtain ⟨x,c⟩:∃ x,b[k]? = some x:=⟨b[k],by simp [m]⟩;obtain ⟨c0,c1,c2,c3,c4⟩:=(a k x c).below p H;have u:=E x (List.mem_of_getElem? c);have I:Hid (b[k]? = some x):=c;clear a c;go_wp2_with fail;refine (Zek x _ _ u z t).mono ?_;rintro e L ⟨rfl,d⟩;have n:=p.trans (d.mono p.size);clear c0 c1 c2 c3 c4 d
    by_cases C:r < x.s.size
    ·rw [less,if_pos C]
     go_wp2;go_ret;exact ⟨-1,rfl,by omega,by omega,fun h=>by omega,n⟩
    ·rw [less,if_neg C]
     go_wp2
     go_roundw
     case rel =>
      refine ⟨k+1,_,by omega,by go_num,rfl,by omega,by omega,fun j y q A=>?_,n⟩
      by_cases e:j=k
      ·subst e
       rw [I.out] at q;cases q;omega
      ·exact B.out j y q (by omega)
     case measure=>simp [intOf];omega
   ·go_wp2
    go_ret;refine ⟨r,rfl,by omega,by omega,fun _=>⟨f,fun x c=>?_⟩,p⟩;obtain ⟨j,A,e⟩:=List.getElem_of_mem c;exact B.out j x (by rw [<- e];simp [A]) (by omega)
 ·go_enter func69,ntmps69
  go_wp2;go_ret;exact ⟨-1,rfl,by omega,by omega,fun h=>by omega,cj _ _⟩
theorem ZgM (n vb:Value)(c:List Nd)(w:World)(A:NRow w n c)(z:NRow w vb c) :
  Calls prog 100 #[n,vb] w fun e u=>e=.returned (.bool true)/\Below w.heap.size w u:=by
 obtain ⟨J,I,rfl,q,D,C,a⟩:=A;obtain ⟨G,L,rfl,o,_,_,b⟩:=z;have H:((c.length:Int) != (c.length:Int))=false:=by simp
 go_enter func100,ntmps100
 go_wp2
 go_loopw [5] (fun i wr=>∃ k:Nat,k <= c.length/\i=.int .i64 k/\Below w.heap.size w wr) (fun i _=>c.length - (intOf i).toNat)
 case atStart=>exact ⟨0,by omega,rfl,cj _ _⟩
 case round =>
  obtain ⟨k,B,rfl,g⟩:=hrel
  by_cases d:k < c.length
  ·obtain ⟨K,E,rfl,h,a⟩:=a (by intro e;subst e;simp at d)
   obtain ⟨F,M,rfl,m,b⟩:=b (by intro e;subst e;simp at d);obtain ⟨x,l⟩:∃ x,c[k]? = some x:=⟨c[k],by simp [d]⟩;obtain ⟨c0,c1,c2,c3,c4⟩:=(a k x l).below g h;obtain ⟨s,v,y,t,p⟩:=(b k x l).below g m;clear a b l;go_wp2_with fail
   go_region_with (go_at_call 140;refine (ZhO x _).mono ?_;rintro e r ⟨rfl,f⟩)
   all_goals
    have j:Below w.heap.size w r:=g.drew.trans (f.mono g.size);clear c0 c1 c2 c3 c4 s v y t p f;go_wp2
    go_roundw
    case rel=>exact ⟨k+1,by omega,by go_num,j⟩
    case measure=>simp [intOf];omega
  ·go_wp2
   go_ret;exact ⟨rfl,g⟩
theorem Zee (h vb:Value)(c:List Nd)(w:World)(j:NRow w h c)(i:NRow w vb c) :
  Calls prog 61 #[.agg #[h],.agg #[vb]] w fun e k=>e=.returned (.bool true)/\Below w.heap.size w k:=by
 have d:=j;have f:=i;obtain ⟨l,n,rfl,_⟩:=d;obtain ⟨o,m,rfl,_⟩:=f
 go_enter func61,ntmps61
 go_wp2_with fail
 have a:Below w.heap.size w ((w.alloc (Obj.cells #[.slice l c.length n] 40)).alloc (Obj.cells #[.slice o c.length m] 40)) :=
  ((cj _ _).alloc (ce _) _).alloc (by simp) _
 refine (ZgM _ _ c _ (j.below a) (i.below a)).mono ?_;rintro e p ⟨rfl,b⟩;have g:=a.trans (b.mono a.size);clear a b;go_wp2;go_ret;exact ⟨rfl,g⟩
theorem Zip (v:Value)(c:List Nd)(w:World)(R:NRow w v c) :
  Calls prog 34 #[.agg #[v],.int .i64 1048576] w fun e g=>∃ r:Int,e=.returned (.int .i64 r) /\ -1 <= r/\r <= 1048576/\(0 <= r -> c.length <= 1048576/\∀ x ∈ c,x.s.size <= 1048576)/\Below w.heap.size w g:=by
 have i:=R;obtain ⟨m,f,rfl,_⟩:=i
 go_enter func34,ntmps34
 go_wp2_with fail;have a:Below w.heap.size w (w.alloc (Obj.cells #[.slice m c.length f] 24)):=(cj _ _).alloc (ce _) _;refine (Zg3 _ c _ (R.below a)).mono ?_;rintro e o ⟨r,rfl,l,k,j,d⟩;have b:=a.trans (d.mono a.size);clear a d
 by_cases n:r < 0
 ·have p:Hid (r = -1):=by unfold Hid;omega
  go_wp2;go_ret;exact ⟨-1,rfl,by omega,by omega,fun h=>by omega,b⟩
 ·go_wp2
  go_ret;exact ⟨r,rfl,l,k,j,b⟩
theorem ZgP (n:Int)(G:0 <= n)(H:n <= 1048576)(v:Value)(b:List Nd)(w:World)(R:NRow w v b) :
  Calls prog 69 #[v,.int .i64 n] w fun e I=>∃ r:Int,e=.returned (.int .i64 r) /\ -1 <= r/\r <= 1048576/\(0 <= r -> b.length <= 1048576/\∀ x ∈ b,x.s.size <= 1048576)/\Below w.heap.size w I:=by
 obtain ⟨P,J,rfl,E,N,F,a⟩:=R
 by_cases B:(b.length:Int) <= n
 ·go_enter func69,ntmps69
  go_wp2
  go_loopw [1,5] (fun l i wr=>∃ (k:Nat) (r:Int),k <= b.length/\i=.int .i64 k/\l=.int .i64 r/\0 <= r/\r <= 1048576/\Hid (∀ j x,b[j]? = some x -> j < k -> x.s.size <= 1048576)/\Below w.heap.size w wr) (fun _ i _=>b.length - (intOf i).toNat)
  case atStart=>exact ⟨0,_,by omega,rfl,rfl,by omega,by omega,fun j x _ h=>by omega,cj _ _⟩
  case round =>
   obtain ⟨k,r,M,rfl,rfl,z,t,C,p⟩:=hrel
   by_cases f:k < b.length
   ·obtain ⟨g,o,rfl,K,a⟩:=a (by intro e;subst e;simp at f)
    obtain ⟨x,c⟩:∃ x,b[k]? = some x:=⟨b[k],by simp [f]⟩;obtain ⟨c0,c1,c2,c3,c4⟩:=(a k x c).below p K;have u:=F x (List.mem_of_getElem? c);have L:Hid (b[k]? = some x):=c;clear a c;go_wp2_with fail;refine (Zek x _ _ u z t).mono ?_;rintro e O ⟨rfl,d⟩;have m:=p.trans (d.mono p.size);clear c0 c1 c2 c3 c4 d
    by_cases D:r < x.s.size
    ·rw [less,if_pos D]
     go_wp2;go_ret;exact ⟨-1,rfl,by omega,by omega,fun h=>by omega,m⟩
    ·rw [less,if_neg D]
     go_wp2
     go_roundw
     case rel =>
      refine ⟨k+1,_,by omega,by go_num,rfl,by omega,by omega,fun j y q A=>?_,m⟩
      by_cases e:j=k
      ·subst e
       rw [L.out] at q;cases q;omega
      ·exact C.out j y q (by omega)
     case measure=>simp [intOf];omega
   ·go_wp2
    go_ret;refine ⟨r,rfl,by omega,by omega,fun _=>⟨by omega,fun x c=>?_⟩,p⟩;obtain ⟨j,A,e⟩:=List.getElem_of_mem c;exact C.out j x (by rw [<- e];simp [A]) (by omega)
 ·go_enter func69,ntmps69
  go_wp2;go_ret;exact ⟨-1,rfl,by omega,by omega,fun h=>by omega,cj _ _⟩
theorem ZiU (f:Int)(i:0 <= f)(j:f <= 1048576)(v:Value)(c:List Nd)(w:World)(R:NRow w v c) :
  Calls prog 34 #[.agg #[v],.int .i64 f] w fun e k=>∃ r:Int,e=.returned (.int .i64 r) /\ -1 <= r/\r <= 1048576/\(0 <= r -> c.length <= 1048576/\∀ x ∈ c,x.s.size <= 1048576)/\Below w.heap.size w k:=by
 have m:=R;obtain ⟨l,g,rfl,_⟩:=m
 go_enter func34,ntmps34
 go_wp2_with fail;have a:Below w.heap.size w (w.alloc (Obj.cells #[.slice l c.length g] 24)):=(cj _ _).alloc (ce _) _;refine (ZgP f i j _ c _ (R.below a)).mono ?_;rintro e t ⟨r,rfl,p,o,n,d⟩;have b:=a.trans (d.mono a.size);clear a d
 by_cases q:r < 0
 ·have u:Hid (r = -1):=by unfold Hid;omega
  go_wp2;go_ret;exact ⟨-1,rfl,by omega,by omega,fun h=>by omega,b⟩
 ·go_wp2
  go_ret;exact ⟨r,rfl,p,o,n,b⟩
theorem Zae {P:Program}{ops:Array Oper}{c:List Oper}{o:Oper}{a:Act}{w:World}{Q:Exit -> Act -> World -> Prop}(i:o.guard=none)(f:TypeId)(x y:Operand)(p:o.op=.store f x y)(g:Nat)(cells:Array Value)(l:a.eval x=.pointer (some ⟨g,0,none⟩))(m:a.eval y=.agg cells)(t:TypeId)(b:Array Value)(j:w.heap[g]? = some (.cells b t (0,0)))(hi:(P.info? f).map (·.size)=some cells.size)(d:b.size=cells.size)(q:cells.all (·.oneCell')=true)(h:∀ e:World,e.heap[g]? = some (.cells cells t (0,0)) -> Below g w e -> e.heap.size=w.heap.size -> (∀ k,k ≠ g -> e.heap[k]? = w.heap[k]?) -> wpList P ops Q c (a.put o.dst undef) e):wpList P ops Q (o :: c) a w :=
 wpList_store_row i f x y p g cells l m t b j hi d q (h _ (setRow_heap w g b _ t _ j) (below_setRow (cj _ _) (ce _) _) (size_setRow w g cells) (fun k n=>setRow_other w g k cells n))
theorem Zak {w c:World}{B k n g:Nat}{e:TypeId}{v:Value}{l:List Value}(h:w.ownsRow B e k v n l)(p:g < B)(f:∀ j,j ≠ g -> c.heap[j]? = w.heap[j]?):c.ownsRow B e k v n l:=by
 refine ⟨h.1,?_⟩;rcases h.2 with ⟨rfl,o⟩ | ⟨d,b,cur,rfl,m,a,i⟩
 ·exact Or.inl ⟨rfl,o⟩
 ·exact Or.inr ⟨d,b,cur,rfl,m,(f d (by omega)).trans a,i⟩
theorem ZaI {w:World}{B:Nat}{e t:TypeId}{k:Nat}{v:Value}{n j:Nat}{f:List Value}{c:Array Value}{fr:Nat × Nat}(h:w.ownsRow B e k v n f)(b:w.heap[j]? = some (.cells c t fr))(a:t ≠ e):v.ownBlock ≠ some j:=by
 rcases h.2 with ⟨rfl,_⟩ | ⟨g,i,cur,rfl,m,l,_⟩
 ·simp [Value.ownBlock]
 ·intro d
  simp only [Value.ownBlock,Option.some.injEq] at d;subst d;rw [l] at b;cases b;exact a rfl
theorem Zcj (W:World)(t:TypeId)(k B:Nat)(h:B <= W.heap.size):(W.alloc (Obj.cells #[] t)).ownsRow B t k (.slice (some ⟨W.heap.size,0,none⟩) 0 0) 0 [] :=
 Zah (World.ownsRow_made W #[] 0 (ce _) (by simp) (by simp)) h
theorem Ziy (g:Int)(j:0 <= g)(k:g <= 1048576)(v:Value)(c:List Nd)(m:Mc)(w:World)(R:NRow w v c) :
  Calls prog 107 #[.agg #[v,.int .i64 m.p,.int .i64 m.s,.int .i64 m.e,.int .i64 m.d,.int .i64 m.t,.int .i64 m.q,.int .i64 m.r],.int .i64 g] w fun e l=>∃ r:Int,e=.returned (.int .i64 r) /\ -1 <= r/\r <= 1048576/\(0 <= r -> c.length <= 1048576/\∀ x ∈ c,x.s.size <= 1048576)/\Below w.heap.size w l:=by
 have o:=R;obtain ⟨n,i,rfl,_⟩:=o
 go_enter func107,ntmps107
 go_wp2_with fail;have a:Below w.heap.size w (w.alloc (Obj.cells #[.slice n c.length i,.int .i64 m.p,.int .i64 m.s,.int .i64 m.e,.int .i64 m.d,.int .i64 m.t,.int .i64 m.q,.int .i64 m.r] 79)):=(cj _ _).alloc (ce _) _;refine (ZiU g j k _ c _ (R.below a)).mono ?_;rintro e B ⟨r,rfl,z,y,u,f⟩;have b:=a.trans (f.mono a.size);clear a f
 by_cases A:r < 0
 ·go_wp2
  go_ret;exact ⟨-1,rfl,by omega,by omega,fun h=>by omega,b⟩
 ·go_wp2
  go_ret;exact ⟨r,rfl,z,y,u,b⟩
theorem ZhP (o vb:Value)(i:List Nd)(m:Mc)(w:World)(u:NRow w o i)(v:NRow w vb i) :
  Calls prog 141 #[.agg #[o,.int .i64 m.p,.int .i64 m.s,.int .i64 m.e,.int .i64 m.d,.int .i64 m.t,.int .i64 m.q,.int .i64 m.r],.agg #[vb,.int .i64 m.p,.int .i64 m.s,.int .i64 m.e,.int .i64 m.d,.int .i64 m.t,.int .i64 m.q,.int .i64 m.r]] w fun e z=>e=.returned (.bool true)/\Below w.heap.size w z:=by
 have l:=u;have n:=v;obtain ⟨A,y,rfl,_⟩:=l;obtain ⟨x,B,rfl,_⟩:=n;obtain ⟨f,j,h⟩:=Zax w (Obj.cells #[.slice A i.length y,.int .i64 m.p,.int .i64 m.s,.int .i64 m.e,.int .i64 m.d,.int .i64 m.t,.int .i64 m.q,.int .i64 m.r] 99) (Obj.cells #[.slice x i.length B,.int .i64 m.p,.int .i64 m.s,.int .i64 m.e,.int .i64 m.d,.int .i64 m.t,.int .i64 m.q,.int .i64 m.r] 99)
 go_enter func141,ntmps141
 go_wp2_with fail;refine (Zee _ _ i _ (u.below f) (v.below f)).mono ?_;rintro e a ⟨rfl,g⟩;have k:=f.trans (g.mono f.size);have c:=(bb j g);have b:=(bb h g);clear f j h g;have E:a.cell? ⟨w.heap.size,0+1,none⟩=some (.int .i64 m.p):=cd a _ 1 _ _ _ c;have C:a.cell? ⟨w.heap.size+1,0+1,none⟩=some (.int .i64 m.p):=cd a _ 1 _ _ _ b;have M:a.cell? ⟨w.heap.size,0+2,none⟩=some (.int .i64 m.s):=cd a _ 2 _ _ _ c;have k2:a.cell? ⟨w.heap.size+1,0+2,none⟩=some (.int .i64 m.s):=cd a _ 2 _ _ _ b;have K:a.cell? ⟨w.heap.size,0+3,none⟩=some (.int .i64 m.e):=cd a _ 3 _ _ _ c;have L:a.cell? ⟨w.heap.size+1,0+3,none⟩=some (.int .i64 m.e):=cd a _ 3 _ _ _ b;have J:a.cell? ⟨w.heap.size,0+4,none⟩=some (.int .i64 m.d):=cd a _ 4 _ _ _ c;have G:a.cell? ⟨w.heap.size+1,0+4,none⟩=some (.int .i64 m.d):=cd a _ 4 _ _ _ b
 have F:a.cell? ⟨w.heap.size,0+5,none⟩=some (.int .i64 m.t):=cd a _ 5 _ _ _ c;have N:a.cell? ⟨w.heap.size+1,0+5,none⟩=some (.int .i64 m.t):=cd a _ 5 _ _ _ b;have H:a.cell? ⟨w.heap.size,0+6,none⟩=some (.int .i64 m.q):=cd a _ 6 _ _ _ c;have I:a.cell? ⟨w.heap.size+1,0+6,none⟩=some (.int .i64 m.q):=cd a _ 6 _ _ _ b;have O:a.cell? ⟨w.heap.size,0+7,none⟩=some (.int .i64 m.r):=cd a _ 7 _ _ _ c;have D:a.cell? ⟨w.heap.size+1,0+7,none⟩=some (.int .i64 m.r):=cd a _ 7 _ _ _ b;clear c b;go_wp2;go_ret;exact ⟨rfl,k⟩
theorem Zab {P:Program}{ops:Array Oper}{d:List Oper}{o:Oper}{a:Act}{w:World}{Q:Exit -> Act -> World -> Prop}(z:o.guard=none)(n:TypeId)(x y:Operand)(H:o.op=.store n x y)(g i:Nat)(v:Value)(cs:Array Value)(M:a.eval x=.pointer (some ⟨g,i,none⟩))(F:a.eval y=v)(C:v.cells=#[cs.getD 0 undef])(B:(cs.getD 0 undef).oneCell'=true)(t:TypeId)(f l:Array Value)(s:w.heap[g]? = some (.cells f t (0,0)))(I:i < f.size)(hi:(P.info? n).map (·.size)=some 1)(D:l=f.setIfInBounds i (cs.getD 0 undef))(h:∀ m:World,m.heap[g]? = some (.cells l t (0,0)) -> Below g w m -> m.heap.size=w.heap.size -> (∀ k,k ≠ g -> m.heap[k]? = w.heap[k]?) -> wpList P ops Q d (a.put o.dst undef) m):wpList P ops Q (o :: d) a w:=by
 refine wpList_plain z fun K L=>?_
 generalize cs.getD 0 undef=c at C B D;have e:(w.cell? ⟨g,i,none⟩).isSome=true:=by rw [cd w g i _ _ _ s];simp [I]
 have b:=run_storeCells_cells (P:=P) g i [c] 0 w (fun j A=>by obtain rfl:j=0:=(by simpa using A);simpa using e) (fun j A=>cw w g _ _ _ s) (fun u E=>by simp at E;subst E;exact B)
 have r:(storeVar n ⟨g,i,none⟩ v).run P w=.ok () (w.setCell ⟨g,i,none⟩ c):=by
  cases q:P.info? n with
  | none=>simp [q] at hi
  | some inf =>
   have J:inf.size=1:=by simpa [q] using hi
   simp only [Nat.add_zero] at b;simp [storeVar,sizeOf,typeInfo,q,C,J,b,World.setCells]
 unfold Oper.wp execOp;simp only [H,M,F,Instr.storeAt,Instr.sureAddr,Sem.run_bind,Sem.run_pure,Result.andThen_ok,r];refine L _ _ (h _ ?_ ((cj g w).setCell (p:=⟨g,i,none⟩) (ce _) _) (by simp [World.setCell]) (fun k G=>cr w ⟨g,i,none⟩ k _ G));rw [D];exact cu w g i _ _ _ s
theorem ZiB (v:Value)(k:List Nd)(m:Mc)(w:World)(R:NRow w v k)(hm:k.length <= 2097152) :
  Calls prog 119 #[.agg #[v,.int .i64 m.p,.int .i64 m.s,.int .i64 m.e,.int .i64 m.d,.int .i64 m.t,.int .i64 m.q,.int .i64 m.r]] w fun e w'=>∃ v',e=.returned (.agg #[v',.int .i64 m.p,.int .i64 m.s,.int .i64 m.e,.int .i64 m.d,.int .i64 m.t,.int .i64 m.q,.int .i64 m.r])/\w'.ownsRow w.heap.size 194 5 v' k.length (ncs k)/\Below w.heap.size w w':=by
 have R':=R;obtain ⟨O,B,rfl,_⟩:=R';have D:Below w.heap.size w (((w.alloc (Obj.cells #[.slice O k.length B,.int .i64 m.p,.int .i64 m.s,.int .i64 m.e,.int .i64 m.d,.int .i64 m.t,.int .i64 m.q,.int .i64 m.r] 79)).alloc (Obj.cells #[.slice none 0 0,.int .i64 0,.int .i64 0,.int .i64 0,.int .i64 0,.int .i64 0,.int .i64 0,.int .i64 0] 99)).alloc (Obj.cells #[.slice none 0 0,.int .i64 0,.int .i64 0,.int .i64 0,.int .i64 0,.int .i64 0,.int .i64 0,.int .i64 0] 99)):=(((cj _ _).alloc (ce _) _).alloc (by simp) _).alloc (by simp;omega) _
 have W:(((w.alloc (Obj.cells #[.slice O k.length B,.int .i64 m.p,.int .i64 m.s,.int .i64 m.e,.int .i64 m.d,.int .i64 m.t,.int .i64 m.q,.int .i64 m.r] 79)).alloc (Obj.cells #[.slice none 0 0,.int .i64 0,.int .i64 0,.int .i64 0,.int .i64 0,.int .i64 0,.int .i64 0,.int .i64 0] 99)).alloc (Obj.cells #[.slice none 0 0,.int .i64 0,.int .i64 0,.int .i64 0,.int .i64 0,.int .i64 0,.int .i64 0,.int .i64 0] 99)).heap[w.heap.size]? = some (Obj.cells #[.slice O k.length B,.int .i64 m.p,.int .i64 m.s,.int .i64 m.e,.int .i64 m.d,.int .i64 m.t,.int .i64 m.q,.int .i64 m.r] 79):=(cz _ _ (by simp;omega)).trans ((cz _ _ (by simp)).trans (co _ _))
 have Z:(((w.alloc (Obj.cells #[.slice O k.length B,.int .i64 m.p,.int .i64 m.s,.int .i64 m.e,.int .i64 m.d,.int .i64 m.t,.int .i64 m.q,.int .i64 m.r] 79)).alloc (Obj.cells #[.slice none 0 0,.int .i64 0,.int .i64 0,.int .i64 0,.int .i64 0,.int .i64 0,.int .i64 0,.int .i64 0] 99)).alloc (Obj.cells #[.slice none 0 0,.int .i64 0,.int .i64 0,.int .i64 0,.int .i64 0,.int .i64 0,.int .i64 0,.int .i64 0] 99)).heap[w.heap.size+1]? = some (Obj.cells #[.slice none 0 0,.int .i64 0,.int .i64 0,.int .i64 0,.int .i64 0,.int .i64 0,.int .i64 0,.int .i64 0] 99):=(cz _ _ (by simp)).trans (cH _ _ _)
 have af:(((w.alloc (Obj.cells #[.slice O k.length B,.int .i64 m.p,.int .i64 m.s,.int .i64 m.e,.int .i64 m.d,.int .i64 m.t,.int .i64 m.q,.int .i64 m.r] 79)).alloc (Obj.cells #[.slice none 0 0,.int .i64 0,.int .i64 0,.int .i64 0,.int .i64 0,.int .i64 0,.int .i64 0,.int .i64 0] 99)).alloc (Obj.cells #[.slice none 0 0,.int .i64 0,.int .i64 0,.int .i64 0,.int .i64 0,.int .i64 0,.int .i64 0,.int .i64 0] 99)).heap[w.heap.size+1+1]? = some (Obj.cells #[.slice none 0 0,.int .i64 0,.int .i64 0,.int .i64 0,.int .i64 0,.int .i64 0,.int .i64 0,.int .i64 0] 99):=by
  have h:=co ((w.alloc (Obj.cells #[.slice O k.length B,.int .i64 m.p,.int .i64 m.s,.int .i64 m.e,.int .i64 m.d,.int .i64 m.t,.int .i64 m.q,.int .i64 m.r] 79)).alloc (Obj.cells #[.slice none 0 0,.int .i64 0,.int .i64 0,.int .i64 0,.int .i64 0,.int .i64 0,.int .i64 0,.int .i64 0] 99)) (Obj.cells #[.slice none 0 0,.int .i64 0,.int .i64 0,.int .i64 0,.int .i64 0,.int .i64 0,.int .i64 0,.int .i64 0] 99)
  simpa using h
 go_enter func119,ntmps119
 go_wp2_with fail;refine (Zep _ k _ (R.below D) hm).mono ?_;rintro e w1 ⟨v1,rfl,M,C⟩;obtain ⟨f,a,rfl⟩:=Zag M;have i:=D.trans (C.mono D.size);have c:=(bb W C);have g:=(bb Z C);have j:=(bb af C);have b:w1.ownsRow (w.heap.size+3) 194 5 (.slice f k.length a) k.length (ncs k):=by simpa using M
 clear D W Z af C M
 go_wp2_with (refine Zab rfl 40 _ _ rfl (w.heap.size+1+1) 0 (.agg #[.slice f k.length a]) #[.slice f k.length a] rfl rfl rfl rfl 99 #[.slice none 0 0,.int .i64 0,.int .i64 0,.int .i64 0,.int .i64 0,.int .i64 0,.int .i64 0,.int .i64 0] #[.slice f k.length a,.int .i64 0,.int .i64 0,.int .i64 0,.int .i64 0,.int .i64 0,.int .i64 0,.int .i64 0] j (by simp) (by kernel_rfl) rfl ?_)
 intro u0 P G V x;replace c:=(x w.heap.size (by omega)).trans c;replace g:=(x (w.heap.size+1) (by omega)).trans g;replace b:=Zak b (by omega) x;replace i:Below w.heap.size w u0:=i.trans (G.mono (by omega));replace j:=P;clear P G V x;have k1:u0.cell? ⟨w.heap.size,0+1,none⟩=some (.int .i64 m.p):=cd u0 _ 1 _ _ _ c
 go_wp2_with (refine Zab rfl 3 _ _ rfl (w.heap.size+1+1) 1 (.int .i64 m.p) #[.int .i64 m.p] rfl rfl rfl rfl 99 #[.slice f k.length a,.int .i64 0,.int .i64 0,.int .i64 0,.int .i64 0,.int .i64 0,.int .i64 0,.int .i64 0] #[.slice f k.length a,.int .i64 m.p,.int .i64 0,.int .i64 0,.int .i64 0,.int .i64 0,.int .i64 0,.int .i64 0] j (by simp) (by kernel_rfl) rfl ?_)
 intro u1 aa F Y y;replace c:=(y w.heap.size (by omega)).trans c;replace g:=(y (w.heap.size+1) (by omega)).trans g;replace b:=Zak b (by omega) y;replace i:Below w.heap.size w u1:=i.trans (F.mono (by omega));replace j:=aa;clear aa F Y y k1;have k2:u1.cell? ⟨w.heap.size,0+2,none⟩=some (.int .i64 m.s):=cd u1 _ 2 _ _ _ c
 go_wp2_with (refine Zab rfl 3 _ _ rfl (w.heap.size+1+1) 2 (.int .i64 m.s) #[.int .i64 m.s] rfl rfl rfl rfl 99 #[.slice f k.length a,.int .i64 m.p,.int .i64 0,.int .i64 0,.int .i64 0,.int .i64 0,.int .i64 0,.int .i64 0] #[.slice f k.length a,.int .i64 m.p,.int .i64 m.s,.int .i64 0,.int .i64 0,.int .i64 0,.int .i64 0,.int .i64 0] j (by simp) (by kernel_rfl) rfl ?_)
 intro u2 ad H ai l;replace c:=(l w.heap.size (by omega)).trans c;replace g:=(l (w.heap.size+1) (by omega)).trans g;replace b:=Zak b (by omega) l;replace i:Below w.heap.size w u2:=i.trans (H.mono (by omega));replace j:=ad;clear ad H ai l k2;have k3:u2.cell? ⟨w.heap.size,0+3,none⟩=some (.int .i64 m.e):=cd u2 _ 3 _ _ _ c
 go_wp2_with (refine Zab rfl 3 _ _ rfl (w.heap.size+1+1) 3 (.int .i64 m.e) #[.int .i64 m.e] rfl rfl rfl rfl 99 #[.slice f k.length a,.int .i64 m.p,.int .i64 m.s,.int .i64 0,.int .i64 0,.int .i64 0,.int .i64 0,.int .i64 0] #[.slice f k.length a,.int .i64 m.p,.int .i64 m.s,.int .i64 m.e,.int .i64 0,.int .i64 0,.int .i64 0,.int .i64 0] j (by simp) (by kernel_rfl) rfl ?_)
 intro u3 T L ac z;replace c:=(z w.heap.size (by omega)).trans c;replace g:=(z (w.heap.size+1) (by omega)).trans g;replace b:=Zak b (by omega) z;replace i:Below w.heap.size w u3:=i.trans (L.mono (by omega));replace j:=T;clear T L ac z k3;have k4:u3.cell? ⟨w.heap.size,0+4,none⟩=some (.int .i64 m.d):=cd u3 _ 4 _ _ _ c
 go_wp2_with (refine Zab rfl 3 _ _ rfl (w.heap.size+1+1) 4 (.int .i64 m.d) #[.int .i64 m.d] rfl rfl rfl rfl 99 #[.slice f k.length a,.int .i64 m.p,.int .i64 m.s,.int .i64 m.e,.int .i64 0,.int .i64 0,.int .i64 0,.int .i64 0] #[.slice f k.length a,.int .i64 m.p,.int .i64 m.s,.int .i64 m.e,.int .i64 m.d,.int .i64 0,.int .i64 0,.int .i64 0] j (by simp) (by kernel_rfl) rfl ?_)
 intro u4 ab J X n;replace c:=(n w.heap.size (by omega)).trans c;replace g:=(n (w.heap.size+1) (by omega)).trans g;replace b:=Zak b (by omega) n;replace i:Below w.heap.size w u4:=i.trans (J.mono (by omega));replace j:=ab;clear ab J X n k4;have k5:u4.cell? ⟨w.heap.size,0+5,none⟩=some (.int .i64 m.t):=cd u4 _ 5 _ _ _ c
 go_wp2_with (refine Zab rfl 3 _ _ rfl (w.heap.size+1+1) 5 (.int .i64 m.t) #[.int .i64 m.t] rfl rfl rfl rfl 99 #[.slice f k.length a,.int .i64 m.p,.int .i64 m.s,.int .i64 m.e,.int .i64 m.d,.int .i64 0,.int .i64 0,.int .i64 0] #[.slice f k.length a,.int .i64 m.p,.int .i64 m.s,.int .i64 m.e,.int .i64 m.d,.int .i64 m.t,.int .i64 0,.int .i64 0] j (by simp) (by kernel_rfl) rfl ?_)
 intro u5 ae I Q A;replace c:=(A w.heap.size (by omega)).trans c;replace g:=(A (w.heap.size+1) (by omega)).trans g;replace b:=Zak b (by omega) A;replace i:Below w.heap.size w u5:=i.trans (I.mono (by omega));replace j:=ae;clear ae I Q A k5;have k6:u5.cell? ⟨w.heap.size,0+6,none⟩=some (.int .i64 m.q):=cd u5 _ 6 _ _ _ c
 go_wp2_with (refine Zab rfl 3 _ _ rfl (w.heap.size+1+1) 6 (.int .i64 m.q) #[.int .i64 m.q] rfl rfl rfl rfl 99 #[.slice f k.length a,.int .i64 m.p,.int .i64 m.s,.int .i64 m.e,.int .i64 m.d,.int .i64 m.t,.int .i64 0,.int .i64 0] #[.slice f k.length a,.int .i64 m.p,.int .i64 m.s,.int .i64 m.e,.int .i64 m.d,.int .i64 m.t,.int .i64 m.q,.int .i64 0] j (by simp) (by kernel_rfl) rfl ?_)
 intro u6 ag K ah u;replace c:=(u w.heap.size (by omega)).trans c;replace g:=(u (w.heap.size+1) (by omega)).trans g;replace b:=Zak b (by omega) u;replace i:Below w.heap.size w u6:=i.trans (K.mono (by omega));replace j:=ag;clear ag K ah u k6;have k7:u6.cell? ⟨w.heap.size,0+7,none⟩=some (.int .i64 m.r):=cd u6 _ 7 _ _ _ c
 go_wp2_with (refine Zab rfl 3 _ _ rfl (w.heap.size+1+1) 7 (.int .i64 m.r) #[.int .i64 m.r] rfl rfl rfl rfl 99 #[.slice f k.length a,.int .i64 m.p,.int .i64 m.s,.int .i64 m.e,.int .i64 m.d,.int .i64 m.t,.int .i64 m.q,.int .i64 0] #[.slice f k.length a,.int .i64 m.p,.int .i64 m.s,.int .i64 m.e,.int .i64 m.d,.int .i64 m.t,.int .i64 m.q,.int .i64 m.r] j (by simp) (by kernel_rfl) rfl ?_)
 intro u7 U E S o;replace c:=(o w.heap.size (by omega)).trans c;replace g:=(o (w.heap.size+1) (by omega)).trans g;replace b:=Zak b (by omega) o;replace i:Below w.heap.size w u7:=i.trans (E.mono (by omega));replace j:=U;clear U E S o k7
 go_wp2_with (first
  | (refine cE rfl 99 _ rfl (w.heap.size+1+1) rfl 99 #[.slice f k.length a,.int .i64 m.p,.int .i64 m.s,.int .i64 m.e,.int .i64 m.d,.int .i64 m.t,.int .i64 m.q,.int .i64 m.r] (0,0) _ j underlying99 rfl Znz ?_)
  | (refine Zae rfl 99 _ _ rfl (w.heap.size+1) #[.slice f k.length a,.int .i64 m.p,.int .i64 m.s,.int .i64 m.e,.int .i64 m.d,.int .i64 m.t,.int .i64 m.q,.int .i64 m.r] rfl rfl 99 #[.slice none 0 0,.int .i64 0,.int .i64 0,.int .i64 0,.int .i64 0,.int .i64 0,.int .i64 0,.int .i64 0] g Znz rfl (by simp [Value.oneCell']) ?_))
 intro w9 am ak an N;have aj:=Zah (B':=w.heap.size) (Zak b (by omega) N) (by omega);have al:Below w.heap.size w w9:=i.trans (ak.mono (by omega));go_wp2;exact cx (results_cell_row rfl _ _ (w.heap.size+1) 99 _ (0,0) _ rfl am underlying99 rfl Znz) rfl ⟨_,rfl,aj,al⟩
theorem ZbR {P:Program}(w:World){ops:Array Oper}{f:List Oper}{o:Oper}{a:Act}{Q:Exit -> Act -> World -> Prop}(D:o.guard=none)(x:Operand)(d b e:TypeId)(z:o.op=.convert d b x)(s:P.underlying d=some (.slice e))(r:P.underlying b=some .string)(t:P.underlying e=some (.int .u8))(q:Option Addr)(n c:Nat)(l:List Int)(C:a.eval x=.slice q n c)(v:l.length=n)(A:n ≠ 0 -> ∃ g p,q=some ⟨g,p,none⟩/\∀ i,i < n -> w.cell? ⟨g,p+i,none⟩=some (.int .u8 (l.getD i 0)))(h:wpList P ops Q f (a.put o.dst (.string (strOfNums l))) w):wpList P ops Q (o :: f) a w:=by
 refine wpList_plain D fun K B=>?_
 have m:(convert d b (.slice q n c)).run P w=.ok (.string (strOfNums l)) w:=by
  by_cases u:n=0
  ·subst u
   have:l=[]:=List.eq_nil_of_length_eq_zero v;subst this;cases q with
   | none=>exact run_convert_bytes_nil w d e s t 0 c b r
   | some ad=>exact run_convert_bytes_back w d b e ad c [] s t r (fun j y=>absurd y (by simp))
  ·obtain ⟨g,p,rfl,k⟩:=A u
   exact run_convert_bytes_arg w d e s t g p n c l v k b r
 unfold Oper.wp;simp [execOp,z,C,m,Result.andThen];exact B _ _ h
def mtGo:Nat -> Nat -> ByteArray -> ByteArray
 | 0,_,out=>out
 | f+1,k,out=>if k=0 then out else mtGo f (k / 10) (strOfNums [48+(k:Int) % 10] ++ out)
def mt (k:Int):ByteArray:=if k <= 0 then ⟨#[109,48]⟩ else ⟨#[109]⟩ ++ mtGo k.toNat k.toNat ⟨#[]⟩
def mk (k:Int):Nd:=⟨k,k+1,mt (k+1+1),k+1+1+1,k+1+1+1+1⟩
def Zm7 (k:Int)(xs:List Nd)(i:Nat):List Nd:=(List.range i).map (fun (j:Nat)=>mk (k+5 * (j:Int))) ++ xs.drop i
end Go.Proofs.YtkpfangkfknhoaaGreatDoor
