/-
  Texts that stood by themselves, laid into one.
-/
import Derived.Test.YtfeodlbpnghakaaGreatDoorMcTM
import Derived.Test.YtfeodlbpnghakaaGreatDoorShapeM
import Derived.Deep.RegionWith
import Derived.Test.YtfeodlbpnghakaaGreatDoorNumberM
import Derived.Laws.IdiomCopy
import Derived.Laws.BytesArg
import Derived.Lib.AppendStr
import Derived.Laws.IdiomStrings
/-
  Contracts of spec's l2Node and PoolOk: when a node and a pool are right.
-/
set_option maxRecDepth 100000
set_option maxHeartbeats 6400000
namespace Go.Proofs.YtfeodlbpnghakaaGreatDoor
open Go.RowKit
theorem Zgj (k n a b:Int)(s:ByteArray)(m:Nat)(w:World)(r:s.size <= maxLen)(x:m <= 9223372036854775807) :
  Calls Tryz.prog 111 #[.agg #[.int .i64 k,.int .i64 n,.string s,.int .i64 a,.int .i64 b],.int .i64 m] w fun e q=>e=.returned (.bool (Zaz ⟨k,n,s,a,b⟩ m))/\Below w.heap.size w q:=by
 go_enter Tryz.func111,Tryz.ntmps111
 go_wp2_with fail
 refine (Zar _ _ _ _).mono ?_
 rintro e d ⟨rfl,rfl⟩
 go_wp2_with fail
 refine (Zar _ _ _ _).mono ?_
 rintro e d ⟨rfl,rfl⟩
 by_cases f:k=1
 ·subst f
  go_wp2_with fail
  all_goals go_ret
  all_goals (refine ⟨retB ?_,(Below.refl _ _).alloc (Nat.le_refl _) _⟩;rw [Bool.eq_iff_iff];simp [Zaz,Zbt,Zbq,lo,hi,hasS,hasA,hasB, *];try first | omega | (by_cases c:s.toList=[] <;> simp [c] <;> omega))
 by_cases g:k=2
 ·subst g
  go_wp2_with fail
  all_goals first | (refine (Zar _ _ _ _).mono ?_;rintro e d ⟨rfl,rfl⟩;go_wp2_with fail) | skip
  all_goals go_ret
  all_goals (refine ⟨retB ?_,(Below.refl _ _).alloc (Nat.le_refl _) _⟩;rw [Bool.eq_iff_iff];simp [Zaz,Zbt,Zbq,lo,hi,hasS,hasA,hasB, *];try first | omega | (by_cases c:s.toList=[] <;> simp [c] <;> omega))
 by_cases o:k=3
 ·subst o
  go_wp2_with fail
  all_goals first | (refine (Zar _ _ _ _).mono ?_;rintro e d ⟨rfl,rfl⟩;go_wp2_with fail) | skip
  all_goals go_ret
  all_goals (refine ⟨retB ?_,(Below.refl _ _).alloc (Nat.le_refl _) _⟩;rw [Bool.eq_iff_iff];simp [Zaz,Zbt,Zbq,lo,hi,hasS,hasA,hasB, *];try first | omega | (by_cases c:s.toList=[] <;> simp [c] <;> omega))
 by_cases t:k=4
 ·subst t
  go_wp2_with fail
  all_goals first | (refine (ZaT s _ r).mono ?_;rintro e d ⟨rfl,rfl⟩;go_wp2_with fail) | skip
  all_goals go_ret
  all_goals (refine ⟨retB ?_,(Below.refl _ _).alloc (Nat.le_refl _) _⟩;rw [Bool.eq_iff_iff];simp [Zaz,Zbt,Zbq,lo,hi,hasS,hasA,hasB, *];try first | omega | (by_cases c:s.toList=[] <;> simp [c] <;> omega))
 by_cases p:k=5
 ·subst p
  go_wp2_with fail
  all_goals go_ret
  all_goals (refine ⟨retB ?_,(Below.refl _ _).alloc (Nat.le_refl _) _⟩;rw [Bool.eq_iff_iff];simp [Zaz,Zbt,Zbq,lo,hi,hasS,hasA,hasB, *];try first | omega | (by_cases c:s.toList=[] <;> simp [c] <;> omega))
 by_cases u:k=6
 ·subst u
  go_wp2_with fail
  all_goals first | (refine (Zar _ _ _ _).mono ?_;rintro e d ⟨rfl,rfl⟩;go_wp2_with fail) | skip
  all_goals go_ret
  all_goals (refine ⟨retB ?_,(Below.refl _ _).alloc (Nat.le_refl _) _⟩;rw [Bool.eq_iff_iff];simp [Zaz,Zbt,Zbq,lo,hi,hasS,hasA,hasB, *];try first | omega | (by_cases c:s.toList=[] <;> simp [c] <;> omega))
 by_cases v:k=7
 ·subst v
  go_wp2_with fail
  all_goals go_ret
  all_goals (refine ⟨retB ?_,(Below.refl _ _).alloc (Nat.le_refl _) _⟩;rw [Bool.eq_iff_iff];simp [Zaz,Zbt,Zbq,lo,hi,hasS,hasA,hasB, *];try first | omega | (by_cases c:s.toList=[] <;> simp [c] <;> omega))
 by_cases i:k=8
 ·subst i
  go_wp2_with fail
  all_goals first | (refine (Zar _ _ _ _).mono ?_;rintro e d ⟨rfl,rfl⟩;go_wp2_with fail) | skip
  all_goals go_ret
  all_goals (refine ⟨retB ?_,(Below.refl _ _).alloc (Nat.le_refl _) _⟩;rw [Bool.eq_iff_iff];simp [Zaz,Zbt,Zbq,lo,hi,hasS,hasA,hasB, *];try first | omega | (by_cases c:s.toList=[] <;> simp [c] <;> omega))
 by_cases l:k=9
 ·subst l
  go_wp2_with fail
  all_goals first | (refine (Zar _ _ _ _).mono ?_;rintro e d ⟨rfl,rfl⟩;go_wp2_with fail) | skip
  all_goals go_ret
  all_goals (refine ⟨retB ?_,(Below.refl _ _).alloc (Nat.le_refl _) _⟩;rw [Bool.eq_iff_iff];simp [Zaz,Zbt,Zbq,lo,hi,hasS,hasA,hasB, *];try first | omega | (by_cases c:s.toList=[] <;> simp [c] <;> omega))
 have j:Hid (Zaz ⟨k,n,s,a,b⟩ m=false):=by
  unfold Hid Zaz
  rw [Bool.eq_false_iff]
  intro h
  simp only [Bool.and_eq_true,decide_eq_true_eq] at h
  have:=h.1.1.1
  omega
 go_wp2_with fail
 go_ret
 exact ⟨by rw [j.out];rfl,(Below.refl _ _).alloc (Nat.le_refl _) _⟩
theorem Zjw (x:Nd)(m:Nat)(w:World)(d:x.s.size <= maxLen)(c:m <= 9223372036854775807) :
  Calls Tryz.prog 111 #[.agg #[.int .i64 x.k,.int .i64 x.n,.string x.s,.int .i64 x.a,.int .i64 x.b],.int .i64 m] w fun e f=>e=.returned (.bool (Zaz x m))/\Below w.heap.size w f :=
 Zgj x.k x.n x.a x.b x.s m w d c
theorem Zce (v:Value)(b:List Nd)(w:World)(R:NRow w v b) :
  Calls Tryz.prog 75 #[.agg #[v]] w fun e I=>e=.returned (.bool (Zas b))/\Below w.heap.size w I:=by
 have G:=R
 obtain ⟨H,s,rfl,z,L,E,a⟩:=G
 go_enter Tryz.func75,Tryz.ntmps75
 go_wp2_with fail
 go_loopw [3] (fun i wr=>∃ k:Nat,k <= b.length/\i=.int .i64 k/\Hid (ZaD b 0=ZaD (b.drop k) k)/\wr.cell? ⟨w.heap.size,0,none⟩=some (.slice H b.length s)/\Below w.heap.size w wr/\w.heap.size < wr.heap.size) (fun i _=>b.length - (intOf i).toNat)
 case atStart=>exact ⟨0,by omega,rfl,rfl,by simp,(Below.refl _ _).alloc (Nat.le_refl _) _,by simp⟩
 case round =>
  obtain ⟨k,K,rfl,m,d,t,j⟩:=hrel
  by_cases l:k < b.length
  ·obtain ⟨g,o,rfl,F,a⟩:=a (by intro e;subst e;simp at l)
   obtain ⟨x,n⟩:∃ x,b[k]? = some x:=⟨b[k],by simp [l]⟩
   obtain ⟨c0,c1,c2,c3,c4⟩:=(a k x n).below t F
   have u:Hid (ZaD (b.drop k) k=(Zaz x k && ZaD (b.drop (k+1)) (k+1))):=Zdt b k x n
   have r:=E x (List.mem_of_getElem? n)
   clear a n
   go_wp2_with fail
   refine (Zjw x _ _ r (by omega)).mono ?_
   rintro e B ⟨rfl,c⟩
   have y:Below w.heap.size w B:=t.trans (c.mono (by omega))
   have f:=(c.cell (p:=⟨w.heap.size,0,none⟩) j).trans d
   have h:=Nat.lt_of_lt_of_le j c.size
   have q:Hid (ZaD b 0=(Zaz x k && ZaD (b.drop (k+1)) (k+1))):=by unfold Hid;rw [m.out,u.out]
   clear c0 c1 c2 c3 c4 c d u m
   generalize A:Zaz x k=C at q ⊢
   clear A
   cases C with
   | false =>
    have J:Hid (Zas b=false):=by unfold Hid Zas;rw [q.out];simp
    clear q
    go_wp2
    go_ret
    exact ⟨by rw [J.out];rfl,y⟩
   | true =>
    go_wp2
    go_roundw
    case rel=>exact ⟨k+1,by omega,by go_num,q.out,f,y,h⟩
    case measure=>simp [intOf];omega
  ·have e:k=b.length:=by omega
   have D:Hid (Zas b=decide (b.length <= 3000)):=by unfold Hid Zas;rw [m.out,e,List.drop_length];simp [ZaD]
   clear m
   go_wp2
   go_ret
   refine ⟨retB ?_,t⟩
   rw [D.out,Bool.eq_iff_iff]
   simp
   omega
def chain (xs:List Nd):Nat -> Nat -> List Int -> Option (List Int)
 | 0,_,_=>none
 | f+1,j,acc=>match xs[j]? with
  | none=>none
  | some x=>if x.k=5 then chain xs f x.b.toNat (acc ++ [x.a]) else if x.k=1 then some acc else none
def Zml (xs:List Nd)(v:Nat):List Int × Bool:=match chain xs (v+1) v [] with
 | some l=>(l,true)
 | none=>([],false)
def ZmM (xs:List Nd)(v:Int):List Int × Bool:=if Zas xs && hasI xs v then Zml xs v.toNat else ([],false)
theorem Zcw (v:Value)(b:List Nd)(a:Int)(w:World)(R:NRow w v b) :
  Calls Tryz.prog 112 #[.agg #[v],.int .i64 a] w fun e d=>e=.returned (.bool (hasI b a))/\Below w.heap.size w d:=by
 obtain ⟨g,c,rfl,_,f,_⟩:=R
 go_enter Tryz.func112,Tryz.ntmps112
 go_wp2_with fail
 refine (Zar _ _ _ _).mono ?_
 rintro e h ⟨rfl,rfl⟩
 go_wp2
 go_ret
 refine ⟨retB ?_,(Below.refl _ _).alloc (Nat.le_refl _) _⟩
 rw [Bool.eq_iff_iff]
 simp [hasI]
 omega
theorem ZhJ (x:Nd)(w:World) :
  Calls Tryz.prog 121 #[.agg #[.int .i64 x.k,.int .i64 x.n,.string x.s,.int .i64 x.a,.int .i64 x.b]] w fun e c=>e=.returned (.agg #[.int .i64 x.k,.int .i64 x.n,.string x.s,.int .i64 x.a,.int .i64 x.b])/\Below w.heap.size w c:=by
 go_enter Tryz.func121,Tryz.ntmps121
 go_wp2
 exact bodyPost_ret (results_cell_row rfl _ _ (w.heap.size+1) 194 _ (0,0) _ rfl ((heap_alloc_old _ _ (by simp)).trans (heap_alloc2_new _ _ _)) Tryz.underlying194 rfl Znj) rfl
  ⟨rfl,(((Below.refl _ _).alloc (Nat.le_refl _) _).alloc (by simp) _).alloc (by simp;omega) _⟩
def less (l n:Int):Int:=if l < n then -1 else l - n
theorem Zef (x:Nd)(l:Int)(w:World)(d:x.s.size <= maxLen)(i:0 <= l)(f:l <= 1048576) :
  Calls Tryz.prog 109 #[.agg #[.int .i64 x.k,.int .i64 x.n,.string x.s,.int .i64 x.a,.int .i64 x.b],.int .i64 l] w fun e g=>e=.returned (.int .i64 (less l x.s.size))/\Below w.heap.size w g:=by
 unfold maxLen at d
 go_enter Tryz.func109,Tryz.ntmps109
 by_cases h:l < x.s.size
 ·have c:Hid (less l x.s.size = -1):=by unfold Hid less;rw [if_pos h]
  go_wp2
  go_ret
  exact ⟨by rw [c.out];rfl,(Below.refl _ _).alloc (Nat.le_refl _) _⟩
 ·have c:Hid (less l x.s.size=l - x.s.size):=by unfold Hid less;rw [if_neg h]
  go_wp2
  go_ret
  exact ⟨by rw [c.out];rfl,(Below.refl _ _).alloc (Nat.le_refl _) _⟩
theorem Zio (x:Nd)(w:World) :
  Calls Tryz.prog 143 #[.agg #[.int .i64 x.k,.int .i64 x.n,.string x.s,.int .i64 x.a,.int .i64 x.b],.agg #[.int .i64 x.k,.int .i64 x.n,.string x.s,.int .i64 x.a,.int .i64 x.b]] w fun e c=>e=.returned (.bool true)/\Below w.heap.size w c:=by
 go_enter Tryz.func143,Tryz.ntmps143
 go_wp2
 go_ret
 exact ⟨rfl,((Below.refl _ _).alloc (Nat.le_refl _) _).alloc (by simp) _⟩
def Zky:Nd:=⟨0,0,ByteArray.empty,0,0⟩
def Zba (xs:List Nd)(j:Nat):List Nd:=xs.take j ++ List.replicate (xs.length - j) Zky
theorem ZdY (a:List Nd)(j:Nat)(h:j <= a.length):(Zba a j).length=a.length:=by simp [Zba];omega
theorem Zfh (a:List Nd):Zba a a.length=a:=by simp [Zba]
theorem ZjU (n:Nat):ncs (List.replicate n Zky)=(madeCells #[Value.int .i64 0,.int .i64 0,.string ByteArray.empty,.int .i64 0,.int .i64 0] (n * 5)).toList:=by
 apply List.ext_getElem?
 intro j
 by_cases c:j < n * 5
 ·have b:j / 5 < n:=by omega
  rw [show j=j / 5 * 5+j % 5 by omega,Zgr _ (j / 5) Zky (by simp [b]) (j % 5) (by omega)]
  rw [show j / 5 * 5+j % 5=j by omega]
  have a:j % 5=0 \/ j % 5=1 \/ j % 5=2 \/ j % 5=3 \/ j % 5=4:=by omega
  rcases a with a | a | a | a | a <;> simp [madeCells,c,a,Zky,Nd.cs]
 ·rw [List.getElem?_eq_none (by rw [Zcq,List.length_replicate];omega),List.getElem?_eq_none (by simp [madeCells];omega)]
theorem ZfF (a:List Nd):ncs (Zba a 0)=(madeCells #[Value.int .i64 0,.int .i64 0,.string ByteArray.empty,.int .i64 0,.int .i64 0] (a.length * 5)).toList:=by
 rw [<- ZjU];simp [Zba]
theorem Zf6 (a:List Nd)(j:Nat)(h:j < a.length):(Zba a j).set j a[j]=Zba a (j+1):=by
 unfold Zba
 rw [show a.length - j=a.length - (j+1)+1 by omega,List.replicate_succ,List.take_succ_eq_append_getElem h]
 rw [List.set_append_right _ _ (by simp;omega)]
 have e:j - (List.take j a).length=0:=by simp;omega
 rw [e,List.set_cons_zero,List.append_assoc]
 rfl
theorem Zgb (v:Value)(a:List Nd)(w:World)(R:NRow w v a)(N:a.length <= 2097152) :
  Calls Tryz.prog 85 #[v] w fun e C=>∃ B,e=.returned B/\C.ownsRow w.heap.size 194 5 B a.length (ncs a)/\Below w.heap.size w C:=by
 obtain ⟨M,J,rfl,D,_,L,d⟩:=R
 obtain ⟨A,hi,y,t,x⟩:=info_parts Zno
 have f:A.bytes * a.length <= 281474976710656:=by rw [x];omega
 have n:a.length <= maxLen:=by unfold maxLen;omega
 go_enter Tryz.func85,Tryz.ntmps85
 go_wp2_with (at_make;refine wpList_make_full _ rfl _ _ 38 rfl w.heap.size 194 A _ 5 Tryz.underlying38 hi y t _ _ _ _ a.length rfl rfl rfl rfl f n (Nat.le_refl _) ?_)
 intro G c h
 have b:Below w.heap.size w G:=(Below.refl _ _).grown h (Nat.le_refl _) (by intro k z;cases z)
 clear h
 go_wp2
 go_loopw [4] (fun i wr=>∃ j:Nat,j <= a.length/\i=.int .i64 j/\wr.ownsRow w.heap.size 194 5 (.slice (some ⟨w.heap.size,0,none⟩) a.length a.length) a.length (ncs (Zba a j))/\Below w.heap.size w wr) (fun i _=>a.length - (intOf i).toNat)
 case atStart=>exact ⟨0,by omega,rfl,by rw [ZfF];exact c,b⟩
 case round =>
  clear c b f n
  obtain ⟨j,H,rfl,c,b⟩:=hrel
  by_cases q:j < a.length
  ·obtain ⟨g,o,rfl,I,d⟩:=d (by intro e;subst e;simp at q)
   obtain ⟨c0,c1,c2,c3,c4⟩:=(d j a[j] (by simp [q])).below b I
   have E:=ZdY a j H
   clear d
   go_wp2_with fail
   refine (ZhJ a[j] _).mono ?_
   rintro e F ⟨rfl,p⟩
   have m:F.ownsRow w.heap.size 194 5 (.slice (some ⟨w.heap.size,0,none⟩) (Zba a j).length a.length) (Zba a j).length (ncs (Zba a j)):=by
    rw [E];exact Zac c p
   have s:=b.trans (p.mono b.size)
   clear c0 c1 c2 c3 c4 c p b
   go_wp2_with (refine Zc2 rfl _ _ rfl w.heap.size w.heap.size j a.length (Zba a j) a[j] rfl rfl (by omega) m ?_)
   intro K l r
   rw [Zf6 a j q] at l
   have u:Below w.heap.size w K:=s.grown r s.size (fun k z=>by simp at z;omega)
   clear m r
   go_wp2
   go_roundw
   case rel=>exact ⟨j+1,by omega,by go_num,l,u⟩
   case measure=>simp [intOf];omega
  ·go_wp2
   go_ret
   have:j=a.length:=by omega
   subst this
   rw [Zfh] at c
   exact ⟨_,rfl,c,b⟩
theorem ZbA (w:World)(A B C:Obj):(((w.alloc A).alloc B).alloc C).heap[w.heap.size+1+1]? = some C:=by
 have h:=heap_alloc_new ((w.alloc A).alloc B) C
 simpa using h
theorem Zel (v:Value)(d:List Nd)(w:World)(R:NRow w v d)(t:d.length <= 2097152) :
  Calls Tryz.prog 47 #[.agg #[v]] w fun e q=>∃ n,e=.returned (.agg #[n])/\q.ownsRow w.heap.size 194 5 n d.length (ncs d)/\Below w.heap.size w q:=by
 have r:=R
 obtain ⟨s,o,rfl,_⟩:=r
 go_enter Tryz.func47,Tryz.ntmps47
 go_wp2_with fail
 have f:Below w.heap.size w (((w.alloc (Obj.cells #[.slice s d.length o] 24)).alloc (Obj.cells #[.slice none 0 0] 40)).alloc (Obj.cells #[.slice none 0 0] 40)) :=
  (((Below.refl _ _).alloc (Nat.le_refl _) _).alloc (by simp) _).alloc (by simp;omega) _
 refine (Zgb _ d _ (R.below f) t).mono ?_
 rintro e b ⟨n,rfl,g,k⟩
 obtain ⟨i,c,rfl⟩:=Zag g
 have h:b.heap[w.heap.size+1+1]? = some (.cells #[.slice none 0 0] 40 (0,0)):=(k.block _ (by simp)).trans (ZbA _ _ _ _)
 have a:b.heap[w.heap.size+1]? = some (.cells #[.slice none 0 0] 40 (0,0)):=(k.block _ (by simp)).trans ((heap_alloc_old _ _ (by simp)).trans (heap_alloc2_new _ _ _))
 have c2:b.cell? ⟨w.heap.size+1+1,0,none⟩=some (.slice none 0 0):=by rw [cell_of_row b _ 0 _ _ _ h];rfl
 have c1:b.cell? ⟨w.heap.size+1,0,none⟩=some (.slice none 0 0):=by rw [cell_of_row b _ 0 _ _ _ a];rfl
 have x:b.frozen? ⟨w.heap.size+1+1,0,none⟩=false:=frozen_of_row b _ 0 _ _ h
 have u:b.frozen? ⟨w.heap.size+1,0,none⟩=false:=frozen_of_row b _ 0 _ _ a
 have m:=f.trans (k.mono f.size)
 have j:b.ownsRow (w.heap.size+3) 194 5 (.slice i d.length c) d.length (ncs d):=by simpa using g
 go_wp2
 have l:=heap_setCell_same (b.setCell ⟨w.heap.size+1+1,0,none⟩ (.slice i d.length c)) (w.heap.size+1) 0 _ _ (.slice i d.length c) ((heap_setCell_other b ⟨w.heap.size+1+1,0,none⟩ (w.heap.size+1) _ (by simp)).trans a)
 refine bodyPost_ret (results_cell_row rfl _ _ (w.heap.size+1) 40 _ (0,0) _ rfl l Tryz.underlying40 rfl (by kernel_rfl)) rfl ⟨_,rfl,?_,?_⟩
 ·exact Zah (ownsRow_setCell_below (ownsRow_setCell_below j (by simp) _) (by simp) _) (by omega)
 ·exact (m.setCell (p:=⟨w.heap.size+1+1,0,none⟩) (by simp;omega) _).setCell (p:=⟨w.heap.size+1,0,none⟩) (by simp) _
theorem Zgp (v:Value)(b:List Nd)(w:World)(R:NRow w v b) :
  Calls Tryz.prog 69 #[v,.int .i64 1048576] w fun e I=>∃ r:Int,e=.returned (.int .i64 r) /\ -1 <= r/\r <= 1048576/\(0 <= r -> b.length <= 1048576/\∀ x ∈ b,x.s.size <= 1048576)/\Below w.heap.size w I:=by
 obtain ⟨L,H,rfl,D,M,F,a⟩:=R
 by_cases d:b.length <= 1048576
 ·go_enter Tryz.func69,Tryz.ntmps69
  go_wp2
  go_loopw [1,5] (fun l i wr=>∃ (k:Nat) (r:Int),k <= b.length/\i=.int .i64 k/\l=.int .i64 r/\0 <= r/\r <= 1048576/\Hid (∀ j x,b[j]? = some x -> j < k -> x.s.size <= 1048576)/\Below w.heap.size w wr) (fun _ i _=>b.length - (intOf i).toNat)
  case atStart=>exact ⟨0,_,by omega,rfl,rfl,by omega,by omega,fun j x _ h=>by omega,Below.refl _ _⟩
  case round =>
   obtain ⟨k,r,K,rfl,rfl,q,z,B,p⟩:=hrel
   by_cases m:k < b.length
   ·obtain ⟨g,o,rfl,G,a⟩:=a (by intro e;subst e;simp at m)
    obtain ⟨x,c⟩:∃ x,b[k]? = some x:=⟨b[k],by simp [m]⟩
    obtain ⟨c0,c1,c2,c3,c4⟩:=(a k x c).below p G
    have t:=F x (List.mem_of_getElem? c)
    have E:Hid (b[k]? = some x):=c
    clear a c
    go_wp2_with fail
    refine (Zef x _ _ t q z).mono ?_
    rintro e J ⟨rfl,f⟩
    have n:=p.trans (f.mono p.size)
    clear c0 c1 c2 c3 c4 f
    by_cases A:r < x.s.size
    ·rw [less,if_pos A]
     go_wp2
     go_ret
     exact ⟨-1,rfl,by omega,by omega,fun h=>by omega,n⟩
    ·rw [less,if_neg A]
     go_wp2
     go_roundw
     case rel =>
      refine ⟨k+1,_,by omega,by go_num,rfl,by omega,by omega,fun j y u C=>?_,n⟩
      by_cases e:j=k
      ·subst e
       rw [E.out] at u
       cases u
       omega
      ·exact B.out j y u (by omega)
     case measure=>simp [intOf];omega
   ·go_wp2
    go_ret
    refine ⟨r,rfl,by omega,by omega,fun _=>⟨d,fun x c=>?_⟩,p⟩
    obtain ⟨j,C,e⟩:=List.getElem_of_mem c
    exact B.out j x (by rw [<- e];simp [C]) (by omega)
 ·go_enter Tryz.func69,Tryz.ntmps69
  go_wp2
  go_ret
  exact ⟨-1,rfl,by omega,by omega,fun h=>by omega,Below.refl _ _⟩
theorem Zgs (n vb:Value)(c:List Nd)(w:World)(u:NRow w n c)(o:NRow w vb c) :
  Calls Tryz.prog 103 #[n,vb] w fun e y=>e=.returned (.bool true)/\Below w.heap.size w y:=by
 obtain ⟨E,D,rfl,A,L,G,b⟩:=u
 obtain ⟨I,B,rfl,t,_,_,a⟩:=o
 have K:((c.length:Int) != (c.length:Int))=false:=by simp
 go_enter Tryz.func103,Tryz.ntmps103
 go_wp2
 go_loopw [5] (fun i wr=>∃ k:Nat,k <= c.length/\i=.int .i64 k/\Below w.heap.size w wr) (fun i _=>c.length - (intOf i).toNat)
 case atStart=>exact ⟨0,by omega,rfl,Below.refl _ _⟩
 case round =>
  obtain ⟨k,J,rfl,g⟩:=hrel
  by_cases d:k < c.length
  ·obtain ⟨C,M,rfl,l,b⟩:=b (by intro e;subst e;simp at d)
   obtain ⟨H,F,rfl,h,a⟩:=a (by intro e;subst e;simp at d)
   obtain ⟨x,j⟩:∃ x,c[k]? = some x:=⟨c[k],by simp [d]⟩
   obtain ⟨c0,c1,c2,c3,c4⟩:=(b k x j).below g l
   obtain ⟨p,z,r,v,q⟩:=(a k x j).below g h
   clear b a j
   go_wp2_with fail
   go_region_with (go_at_call 143;refine (Zio x _).mono ?_;rintro e s ⟨rfl,f⟩)
   all_goals
    have m:Below w.heap.size w s:=g.drew.trans (f.mono g.size)
    clear c0 c1 c2 c3 c4 p z r v q f
    go_wp2
    go_roundw
    case rel=>exact ⟨k+1,by omega,by go_num,m⟩
    case measure=>simp [intOf];omega
  ·go_wp2
   go_ret
   exact ⟨rfl,g⟩
theorem Zec (i vb:Value)(c:List Nd)(w:World)(j:NRow w i c)(h:NRow w vb c) :
  Calls Tryz.prog 61 #[.agg #[i],.agg #[vb]] w fun e o=>e=.returned (.bool true)/\Below w.heap.size w o:=by
 have d:=j
 have f:=h
 obtain ⟨n,m,rfl,_⟩:=d
 obtain ⟨l,k,rfl,_⟩:=f
 go_enter Tryz.func61,Tryz.ntmps61
 go_wp2_with fail
 have a:Below w.heap.size w ((w.alloc (Obj.cells #[.slice n c.length m] 40)).alloc (Obj.cells #[.slice l c.length k] 40)) :=
  ((Below.refl _ _).alloc (Nat.le_refl _) _).alloc (by simp) _
 refine (Zgs _ _ c _ (j.below a) (h.below a)).mono ?_
 rintro e p ⟨rfl,b⟩
 have g:=a.trans (b.mono a.size)
 clear a b
 go_wp2
 go_ret
 exact ⟨rfl,g⟩
theorem ZhT (v:Value)(d:List Nd)(w:World)(R:NRow w v d) :
  Calls Tryz.prog 32 #[.agg #[v],.int .i64 1048576] w fun e m=>∃ r:Int,e=.returned (.int .i64 r) /\ -1 <= r/\r <= 1048576/\(0 <= r -> d.length <= 1048576/\∀ x ∈ d,x.s.size <= 1048576)/\Below w.heap.size w m:=by
 have k:=R
 obtain ⟨l,f,rfl,_⟩:=k
 go_enter Tryz.func32,Tryz.ntmps32
 go_wp2_with fail
 have a:Below w.heap.size w (w.alloc (Obj.cells #[.slice l d.length f] 24)):=(Below.refl _ _).alloc (Nat.le_refl _) _
 refine (Zgp _ d _ (R.below a)).mono ?_
 rintro e o ⟨r,rfl,i,g,j,c⟩
 have b:=a.trans (c.mono a.size)
 clear a c
 by_cases n:r < 0
 ·have p:Hid (r = -1):=by unfold Hid;omega
  go_wp2
  go_ret
  exact ⟨-1,rfl,by omega,by omega,fun h=>by omega,b⟩
 ·go_wp2
  go_ret
  exact ⟨r,rfl,i,g,j,b⟩
theorem Zf4 (n:Int)(G:0 <= n)(H:n <= 1048576)(v:Value)(b:List Nd)(w:World)(R:NRow w v b) :
  Calls Tryz.prog 69 #[v,.int .i64 n] w fun e L=>∃ r:Int,e=.returned (.int .i64 r) /\ -1 <= r/\r <= 1048576/\(0 <= r -> b.length <= 1048576/\∀ x ∈ b,x.s.size <= 1048576)/\Below w.heap.size w L:=by
 obtain ⟨O,K,rfl,E,P,I,a⟩:=R
 by_cases B:(b.length:Int) <= n
 ·go_enter Tryz.func69,Tryz.ntmps69
  go_wp2
  go_loopw [1,5] (fun l i wr=>∃ (k:Nat) (r:Int),k <= b.length/\i=.int .i64 k/\l=.int .i64 r/\0 <= r/\r <= 1048576/\Hid (∀ j x,b[j]? = some x -> j < k -> x.s.size <= 1048576)/\Below w.heap.size w wr) (fun _ i _=>b.length - (intOf i).toNat)
  case atStart=>exact ⟨0,_,by omega,rfl,rfl,by omega,by omega,fun j x _ h=>by omega,Below.refl _ _⟩
  case round =>
   obtain ⟨k,r,N,rfl,rfl,q,z,C,p⟩:=hrel
   by_cases f:k < b.length
   ·obtain ⟨g,o,rfl,J,a⟩:=a (by intro e;subst e;simp at f)
    obtain ⟨x,c⟩:∃ x,b[k]? = some x:=⟨b[k],by simp [f]⟩
    obtain ⟨c0,c1,c2,c3,c4⟩:=(a k x c).below p J
    have t:=I x (List.mem_of_getElem? c)
    have F:Hid (b[k]? = some x):=c
    clear a c
    go_wp2_with fail
    refine (Zef x _ _ t q z).mono ?_
    rintro e M ⟨rfl,d⟩
    have m:=p.trans (d.mono p.size)
    clear c0 c1 c2 c3 c4 d
    by_cases A:r < x.s.size
    ·rw [less,if_pos A]
     go_wp2
     go_ret
     exact ⟨-1,rfl,by omega,by omega,fun h=>by omega,m⟩
    ·rw [less,if_neg A]
     go_wp2
     go_roundw
     case rel =>
      refine ⟨k+1,_,by omega,by go_num,rfl,by omega,by omega,fun j y u D=>?_,m⟩
      by_cases e:j=k
      ·subst e
       rw [F.out] at u
       cases u
       omega
      ·exact C.out j y u (by omega)
     case measure=>simp [intOf];omega
   ·go_wp2
    go_ret
    refine ⟨r,rfl,by omega,by omega,fun _=>⟨by omega,fun x c=>?_⟩,p⟩
    obtain ⟨j,D,e⟩:=List.getElem_of_mem c
    exact C.out j x (by rw [<- e];simp [D]) (by omega)
 ·go_enter Tryz.func69,Tryz.ntmps69
  go_wp2
  go_ret
  exact ⟨-1,rfl,by omega,by omega,fun h=>by omega,Below.refl _ _⟩
theorem ZhC (f:Int)(j:0 <= f)(i:f <= 1048576)(v:Value)(d:List Nd)(w:World)(R:NRow w v d) :
  Calls Tryz.prog 32 #[.agg #[v],.int .i64 f] w fun e p=>∃ r:Int,e=.returned (.int .i64 r) /\ -1 <= r/\r <= 1048576/\(0 <= r -> d.length <= 1048576/\∀ x ∈ d,x.s.size <= 1048576)/\Below w.heap.size w p:=by
 have n:=R
 obtain ⟨o,g,rfl,_⟩:=n
 go_enter Tryz.func32,Tryz.ntmps32
 go_wp2_with fail
 have a:Below w.heap.size w (w.alloc (Obj.cells #[.slice o d.length g] 24)):=(Below.refl _ _).alloc (Nat.le_refl _) _
 refine (Zf4 f j i _ d _ (R.below a)).mono ?_
 rintro e u ⟨r,rfl,l,k,m,c⟩
 have b:=a.trans (c.mono a.size)
 clear a c
 by_cases t:r < 0
 ·have q:Hid (r = -1):=by unfold Hid;omega
  go_wp2
  go_ret
  exact ⟨-1,rfl,by omega,by omega,fun h=>by omega,b⟩
 ·go_wp2
  go_ret
  exact ⟨r,rfl,l,k,m,b⟩
theorem Zad {P:Program}{ops:Array Oper}{c:List Oper}{o:Oper}{a:Act}{w:World}{Q:Exit -> Act -> World -> Prop}(i:o.guard=none)(f:TypeId)(x y:Operand)(m:o.op=.store f x y)(g:Nat)(cells:Array Value)(n:a.eval x=.pointer (some ⟨g,0,none⟩))(p:a.eval y=.agg cells)(t:TypeId)(b:Array Value)(j:w.heap[g]? = some (.cells b t (0,0)))(hi:(P.info? f).map (·.size)=some cells.size)(e:b.size=cells.size)(l:cells.all (·.oneCell')=true)(h:∀ d:World,d.heap[g]? = some (.cells cells t (0,0)) -> Below g w d -> d.heap.size=w.heap.size -> (∀ k,k ≠ g -> d.heap[k]? = w.heap[k]?) -> wpList P ops Q c (a.put o.dst undef) d):wpList P ops Q (o :: c) a w :=
 wpList_store_row i f x y m g cells n p t b j hi e l (h _ (setRow_heap w g b _ t _ j) (below_setRow (Below.refl _ _) (Nat.le_refl _) _) (size_setRow w g cells) (fun k q=>setRow_other w g k cells q))
theorem Zak {w d:World}{B k n g:Nat}{e:TypeId}{v:Value}{l:List Value}(h:w.ownsRow B e k v n l)(p:g < B)(m:∀ j,j ≠ g -> d.heap[j]? = w.heap[j]?):d.ownsRow B e k v n l:=by
 refine ⟨h.1,?_⟩
 rcases h.2 with ⟨rfl,f⟩ | ⟨c,b,cur,rfl,i,a,o⟩
 ·exact Or.inl ⟨rfl,f⟩
 ·exact Or.inr ⟨c,b,cur,rfl,i,(m c (by omega)).trans a,o⟩
theorem ZaG {w:World}{B:Nat}{e t:TypeId}{k:Nat}{v:Value}{n j:Nat}{i:List Value}{c:Array Value}{fr:Nat × Nat}(h:w.ownsRow B e k v n i)(d:w.heap[j]? = some (.cells c t fr))(a:t ≠ e):v.ownBlock ≠ some j:=by
 rcases h.2 with ⟨rfl,_⟩ | ⟨g,l,cur,rfl,m,f,_⟩
 ·simp [Value.ownBlock]
 ·intro b
  simp only [Value.ownBlock,Option.some.injEq] at b
  subst b
  rw [f] at d
  cases d
  exact a rfl
theorem Zcl (W:World)(t:TypeId)(k B:Nat)(h:B <= W.heap.size):(W.alloc (Obj.cells #[] t)).ownsRow B t k (.slice (some ⟨W.heap.size,0,none⟩) 0 0) 0 [] :=
 Zah (World.ownsRow_made W #[] 0 (Nat.le_refl _) (by simp) (by simp)) h
theorem ZhK (g:Int)(k:0 <= g)(j:g <= 1048576)(v:Value)(f:List Nd)(m:Mc)(w:World)(R:NRow w v f) :
  Calls Tryz.prog 110 #[.agg #[v,.int .i64 m.p,.int .i64 m.s,.int .i64 m.e,.int .i64 m.d,.int .i64 m.t,.int .i64 m.q,.int .i64 m.r],.int .i64 g] w fun e z=>∃ r:Int,e=.returned (.int .i64 r) /\ -1 <= r/\r <= 1048576/\(0 <= r -> f.length <= 1048576/\∀ x ∈ f,x.s.size <= 1048576)/\Below w.heap.size w z:=by
 have u:=R
 obtain ⟨y,i,rfl,_⟩:=u
 go_enter Tryz.func110,Tryz.ntmps110
 go_wp2_with fail
 have a:Below w.heap.size w (w.alloc (Obj.cells #[.slice y f.length i,.int .i64 m.p,.int .i64 m.s,.int .i64 m.e,.int .i64 m.d,.int .i64 m.t,.int .i64 m.q,.int .i64 m.r] 91)):=(Below.refl _ _).alloc (Nat.le_refl _) _
 refine (ZhC g k j _ f _ (R.below a)).mono ?_
 rintro e B ⟨r,rfl,n,l,o,c⟩
 have b:=a.trans (c.mono a.size)
 clear a c
 by_cases A:r < 0
 ·go_wp2
  go_ret
  exact ⟨-1,rfl,by omega,by omega,fun h=>by omega,b⟩
 ·go_wp2
  go_ret
  exact ⟨r,rfl,n,l,o,b⟩
theorem ZhO (v vb:Value)(j:List Nd)(m:Mc)(w:World)(u:NRow w v j)(o:NRow w vb j) :
  Calls Tryz.prog 144 #[.agg #[v,.int .i64 m.p,.int .i64 m.s,.int .i64 m.e,.int .i64 m.d,.int .i64 m.t,.int .i64 m.q,.int .i64 m.r],.agg #[vb,.int .i64 m.p,.int .i64 m.s,.int .i64 m.e,.int .i64 m.d,.int .i64 m.t,.int .i64 m.q,.int .i64 m.r]] w fun e B=>e=.returned (.bool true)/\Below w.heap.size w B:=by
 have n:=u
 have k:=o
 obtain ⟨z,y,rfl,_⟩:=n
 obtain ⟨A,x,rfl,_⟩:=k
 obtain ⟨f,i,h⟩:=Zav w (Obj.cells #[.slice z j.length y,.int .i64 m.p,.int .i64 m.s,.int .i64 m.e,.int .i64 m.d,.int .i64 m.t,.int .i64 m.q,.int .i64 m.r] 61) (Obj.cells #[.slice A j.length x,.int .i64 m.p,.int .i64 m.s,.int .i64 m.e,.int .i64 m.d,.int .i64 m.t,.int .i64 m.q,.int .i64 m.r] 61)
 go_enter Tryz.func144,Tryz.ntmps144
 go_wp2_with fail
 refine (Zec _ _ j _ (u.below f) (o.below f)).mono ?_
 rintro e a ⟨rfl,g⟩
 have l:=f.trans (g.mono f.size)
 have c:=(bb i g)
 have b:=(bb h g)
 clear f i h g
 have J:a.cell? ⟨w.heap.size,0+1,none⟩=some (.int .i64 m.p):=cell_of_row a _ 1 _ _ _ c
 have G:a.cell? ⟨w.heap.size+1,0+1,none⟩=some (.int .i64 m.p):=cell_of_row a _ 1 _ _ _ b
 have F:a.cell? ⟨w.heap.size,0+2,none⟩=some (.int .i64 m.s):=cell_of_row a _ 2 _ _ _ c
 have k2:a.cell? ⟨w.heap.size+1,0+2,none⟩=some (.int .i64 m.s):=cell_of_row a _ 2 _ _ _ b
 have K:a.cell? ⟨w.heap.size,0+3,none⟩=some (.int .i64 m.e):=cell_of_row a _ 3 _ _ _ c
 have E:a.cell? ⟨w.heap.size+1,0+3,none⟩=some (.int .i64 m.e):=cell_of_row a _ 3 _ _ _ b
 have O:a.cell? ⟨w.heap.size,0+4,none⟩=some (.int .i64 m.d):=cell_of_row a _ 4 _ _ _ c
 have D:a.cell? ⟨w.heap.size+1,0+4,none⟩=some (.int .i64 m.d):=cell_of_row a _ 4 _ _ _ b
 have I:a.cell? ⟨w.heap.size,0+5,none⟩=some (.int .i64 m.t):=cell_of_row a _ 5 _ _ _ c
 have H:a.cell? ⟨w.heap.size+1,0+5,none⟩=some (.int .i64 m.t):=cell_of_row a _ 5 _ _ _ b
 have C:a.cell? ⟨w.heap.size,0+6,none⟩=some (.int .i64 m.q):=cell_of_row a _ 6 _ _ _ c
 have N:a.cell? ⟨w.heap.size+1,0+6,none⟩=some (.int .i64 m.q):=cell_of_row a _ 6 _ _ _ b
 have L:a.cell? ⟨w.heap.size,0+7,none⟩=some (.int .i64 m.r):=cell_of_row a _ 7 _ _ _ c
 have M:a.cell? ⟨w.heap.size+1,0+7,none⟩=some (.int .i64 m.r):=cell_of_row a _ 7 _ _ _ b
 clear c b
 go_wp2
 go_ret
 exact ⟨rfl,l⟩
theorem Zaa {P:Program}{ops:Array Oper}{d:List Oper}{o:Oper}{a:Act}{w:World}{Q:Exit -> Act -> World -> Prop}(z:o.guard=none)(n:TypeId)(x y:Operand)(L:o.op=.store n x y)(g i:Nat)(v:Value)(cs:Array Value)(H:a.eval x=.pointer (some ⟨g,i,none⟩))(I:a.eval y=v)(A:v.cells=#[cs.getD 0 undef])(B:(cs.getD 0 undef).oneCell'=true)(t:TypeId)(e m:Array Value)(s:w.heap[g]? = some (.cells e t (0,0)))(F:i < e.size)(hi:(P.info? n).map (·.size)=some 1)(D:m=e.setIfInBounds i (cs.getD 0 undef))(h:∀ l:World,l.heap[g]? = some (.cells m t (0,0)) -> Below g w l -> l.heap.size=w.heap.size -> (∀ k,k ≠ g -> l.heap[k]? = w.heap[k]?) -> wpList P ops Q d (a.put o.dst undef) l):wpList P ops Q (o :: d) a w:=by
 refine wpList_plain z fun K M=>?_
 generalize cs.getD 0 undef=c at A B D
 have f:(w.cell? ⟨g,i,none⟩).isSome=true:=by rw [cell_of_row w g i _ _ _ s];simp [F]
 have b:=run_storeCells_cells (P:=P) g i [c] 0 w (fun j C=>by obtain rfl:j=0:=(by simpa using C);simpa using f) (fun j C=>frozen_of_row w g _ _ _ s) (fun u E=>by simp at E;subst E;exact B)
 have r:(storeVar n ⟨g,i,none⟩ v).run P w=.ok () (w.setCell ⟨g,i,none⟩ c):=by
  cases q:P.info? n with
  | none=>simp [q] at hi
  | some inf =>
   have G:inf.size=1:=by simpa [q] using hi
   simp only [Nat.add_zero] at b
   simp [storeVar,sizeOf,typeInfo,q,A,G,b,World.setCells]
 unfold Oper.wp execOp
 simp only [L,H,I,Instr.storeAt,Instr.sureAddr,Sem.run_bind,Sem.run_pure,Result.andThen_ok,r]
 refine M _ _ (h _ ?_ ((Below.refl g w).setCell (p:=⟨g,i,none⟩) (Nat.le_refl _) _) (by simp [World.setCell]) (fun k J=>heap_setCell_other w ⟨g,i,none⟩ k _ J))
 rw [D]
 exact heap_setCell_same w g i _ _ _ s
theorem ZhH (v:Value)(k:List Nd)(m:Mc)(w:World)(R:NRow w v k)(hm:k.length <= 2097152) :
  Calls Tryz.prog 122 #[.agg #[v,.int .i64 m.p,.int .i64 m.s,.int .i64 m.e,.int .i64 m.d,.int .i64 m.t,.int .i64 m.q,.int .i64 m.r]] w fun e w'=>∃ v',e=.returned (.agg #[v',.int .i64 m.p,.int .i64 m.s,.int .i64 m.e,.int .i64 m.d,.int .i64 m.t,.int .i64 m.q,.int .i64 m.r])/\w'.ownsRow w.heap.size 194 5 v' k.length (ncs k)/\Below w.heap.size w w':=by
 have R':=R
 obtain ⟨O,B,rfl,_⟩:=R'
 have D:Below w.heap.size w (((w.alloc (Obj.cells #[.slice O k.length B,.int .i64 m.p,.int .i64 m.s,.int .i64 m.e,.int .i64 m.d,.int .i64 m.t,.int .i64 m.q,.int .i64 m.r] 91)).alloc (Obj.cells #[.slice none 0 0,.int .i64 0,.int .i64 0,.int .i64 0,.int .i64 0,.int .i64 0,.int .i64 0,.int .i64 0] 61)).alloc (Obj.cells #[.slice none 0 0,.int .i64 0,.int .i64 0,.int .i64 0,.int .i64 0,.int .i64 0,.int .i64 0,.int .i64 0] 61)):=(((Below.refl _ _).alloc (Nat.le_refl _) _).alloc (by simp) _).alloc (by simp;omega) _
 have W:(((w.alloc (Obj.cells #[.slice O k.length B,.int .i64 m.p,.int .i64 m.s,.int .i64 m.e,.int .i64 m.d,.int .i64 m.t,.int .i64 m.q,.int .i64 m.r] 91)).alloc (Obj.cells #[.slice none 0 0,.int .i64 0,.int .i64 0,.int .i64 0,.int .i64 0,.int .i64 0,.int .i64 0,.int .i64 0] 61)).alloc (Obj.cells #[.slice none 0 0,.int .i64 0,.int .i64 0,.int .i64 0,.int .i64 0,.int .i64 0,.int .i64 0,.int .i64 0] 61)).heap[w.heap.size]? = some (Obj.cells #[.slice O k.length B,.int .i64 m.p,.int .i64 m.s,.int .i64 m.e,.int .i64 m.d,.int .i64 m.t,.int .i64 m.q,.int .i64 m.r] 91):=(heap_alloc_old _ _ (by simp;omega)).trans ((heap_alloc_old _ _ (by simp)).trans (heap_alloc_new _ _))
 have U:(((w.alloc (Obj.cells #[.slice O k.length B,.int .i64 m.p,.int .i64 m.s,.int .i64 m.e,.int .i64 m.d,.int .i64 m.t,.int .i64 m.q,.int .i64 m.r] 91)).alloc (Obj.cells #[.slice none 0 0,.int .i64 0,.int .i64 0,.int .i64 0,.int .i64 0,.int .i64 0,.int .i64 0,.int .i64 0] 61)).alloc (Obj.cells #[.slice none 0 0,.int .i64 0,.int .i64 0,.int .i64 0,.int .i64 0,.int .i64 0,.int .i64 0,.int .i64 0] 61)).heap[w.heap.size+1]? = some (Obj.cells #[.slice none 0 0,.int .i64 0,.int .i64 0,.int .i64 0,.int .i64 0,.int .i64 0,.int .i64 0,.int .i64 0] 61):=(heap_alloc_old _ _ (by simp)).trans (heap_alloc2_new _ _ _)
 have T:(((w.alloc (Obj.cells #[.slice O k.length B,.int .i64 m.p,.int .i64 m.s,.int .i64 m.e,.int .i64 m.d,.int .i64 m.t,.int .i64 m.q,.int .i64 m.r] 91)).alloc (Obj.cells #[.slice none 0 0,.int .i64 0,.int .i64 0,.int .i64 0,.int .i64 0,.int .i64 0,.int .i64 0,.int .i64 0] 61)).alloc (Obj.cells #[.slice none 0 0,.int .i64 0,.int .i64 0,.int .i64 0,.int .i64 0,.int .i64 0,.int .i64 0,.int .i64 0] 61)).heap[w.heap.size+1+1]? = some (Obj.cells #[.slice none 0 0,.int .i64 0,.int .i64 0,.int .i64 0,.int .i64 0,.int .i64 0,.int .i64 0,.int .i64 0] 61):=by
  have h:=heap_alloc_new ((w.alloc (Obj.cells #[.slice O k.length B,.int .i64 m.p,.int .i64 m.s,.int .i64 m.e,.int .i64 m.d,.int .i64 m.t,.int .i64 m.q,.int .i64 m.r] 91)).alloc (Obj.cells #[.slice none 0 0,.int .i64 0,.int .i64 0,.int .i64 0,.int .i64 0,.int .i64 0,.int .i64 0,.int .i64 0] 61)) (Obj.cells #[.slice none 0 0,.int .i64 0,.int .i64 0,.int .i64 0,.int .i64 0,.int .i64 0,.int .i64 0,.int .i64 0] 61)
  simpa using h
 go_enter Tryz.func122,Tryz.ntmps122
 go_wp2_with fail
 refine (Zel _ k _ (R.below D) hm).mono ?_
 rintro e w1 ⟨v1,rfl,M,C⟩
 obtain ⟨f,a,rfl⟩:=Zag M
 have i:=D.trans (C.mono D.size)
 have c:=(bb W C)
 have g:=(bb U C)
 have j:=(bb T C)
 have b:w1.ownsRow (w.heap.size+3) 194 5 (.slice f k.length a) k.length (ncs k):=by simpa using M
 clear D W U T C M
 go_wp2_with (refine Zaa rfl 40 _ _ rfl (w.heap.size+1+1) 0 (.agg #[.slice f k.length a]) #[.slice f k.length a] rfl rfl rfl rfl 61 #[.slice none 0 0,.int .i64 0,.int .i64 0,.int .i64 0,.int .i64 0,.int .i64 0,.int .i64 0,.int .i64 0] #[.slice f k.length a,.int .i64 0,.int .i64 0,.int .i64 0,.int .i64 0,.int .i64 0,.int .i64 0,.int .i64 0] j (by simp) (by kernel_rfl) rfl ?_)
 intro u0 ab H Y n
 replace c:=(n w.heap.size (by omega)).trans c
 replace g:=(n (w.heap.size+1) (by omega)).trans g
 replace b:=Zak b (by omega) n
 replace i:Below w.heap.size w u0:=i.trans (H.mono (by omega))
 replace j:=ab
 clear ab H Y n
 have k1:u0.cell? ⟨w.heap.size,0+1,none⟩=some (.int .i64 m.p):=cell_of_row u0 _ 1 _ _ _ c
 go_wp2_with (refine Zaa rfl 3 _ _ rfl (w.heap.size+1+1) 1 (.int .i64 m.p) #[.int .i64 m.p] rfl rfl rfl rfl 61 #[.slice f k.length a,.int .i64 0,.int .i64 0,.int .i64 0,.int .i64 0,.int .i64 0,.int .i64 0,.int .i64 0] #[.slice f k.length a,.int .i64 m.p,.int .i64 0,.int .i64 0,.int .i64 0,.int .i64 0,.int .i64 0,.int .i64 0] j (by simp) (by kernel_rfl) rfl ?_)
 intro u1 Z L P y
 replace c:=(y w.heap.size (by omega)).trans c
 replace g:=(y (w.heap.size+1) (by omega)).trans g
 replace b:=Zak b (by omega) y
 replace i:Below w.heap.size w u1:=i.trans (L.mono (by omega))
 replace j:=Z
 clear Z L P y k1
 have k2:u1.cell? ⟨w.heap.size,0+2,none⟩=some (.int .i64 m.s):=cell_of_row u1 _ 2 _ _ _ c
 go_wp2_with (refine Zaa rfl 3 _ _ rfl (w.heap.size+1+1) 2 (.int .i64 m.s) #[.int .i64 m.s] rfl rfl rfl rfl 61 #[.slice f k.length a,.int .i64 m.p,.int .i64 0,.int .i64 0,.int .i64 0,.int .i64 0,.int .i64 0,.int .i64 0] #[.slice f k.length a,.int .i64 m.p,.int .i64 m.s,.int .i64 0,.int .i64 0,.int .i64 0,.int .i64 0,.int .i64 0] j (by simp) (by kernel_rfl) rfl ?_)
 intro u2 ad G Q x
 replace c:=(x w.heap.size (by omega)).trans c
 replace g:=(x (w.heap.size+1) (by omega)).trans g
 replace b:=Zak b (by omega) x
 replace i:Below w.heap.size w u2:=i.trans (G.mono (by omega))
 replace j:=ad
 clear ad G Q x k2
 have k3:u2.cell? ⟨w.heap.size,0+3,none⟩=some (.int .i64 m.e):=cell_of_row u2 _ 3 _ _ _ c
 go_wp2_with (refine Zaa rfl 3 _ _ rfl (w.heap.size+1+1) 3 (.int .i64 m.e) #[.int .i64 m.e] rfl rfl rfl rfl 61 #[.slice f k.length a,.int .i64 m.p,.int .i64 m.s,.int .i64 0,.int .i64 0,.int .i64 0,.int .i64 0,.int .i64 0] #[.slice f k.length a,.int .i64 m.p,.int .i64 m.s,.int .i64 m.e,.int .i64 0,.int .i64 0,.int .i64 0,.int .i64 0] j (by simp) (by kernel_rfl) rfl ?_)
 intro u3 aa E ag z
 replace c:=(z w.heap.size (by omega)).trans c
 replace g:=(z (w.heap.size+1) (by omega)).trans g
 replace b:=Zak b (by omega) z
 replace i:Below w.heap.size w u3:=i.trans (E.mono (by omega))
 replace j:=aa
 clear aa E ag z k3
 have k4:u3.cell? ⟨w.heap.size,0+4,none⟩=some (.int .i64 m.d):=cell_of_row u3 _ 4 _ _ _ c
 go_wp2_with (refine Zaa rfl 3 _ _ rfl (w.heap.size+1+1) 4 (.int .i64 m.d) #[.int .i64 m.d] rfl rfl rfl rfl 61 #[.slice f k.length a,.int .i64 m.p,.int .i64 m.s,.int .i64 m.e,.int .i64 0,.int .i64 0,.int .i64 0,.int .i64 0] #[.slice f k.length a,.int .i64 m.p,.int .i64 m.s,.int .i64 m.e,.int .i64 m.d,.int .i64 0,.int .i64 0,.int .i64 0] j (by simp) (by kernel_rfl) rfl ?_)
 intro u4 ai F ac A
 replace c:=(A w.heap.size (by omega)).trans c
 replace g:=(A (w.heap.size+1) (by omega)).trans g
 replace b:=Zak b (by omega) A
 replace i:Below w.heap.size w u4:=i.trans (F.mono (by omega))
 replace j:=ai
 clear ai F ac A k4
 have k5:u4.cell? ⟨w.heap.size,0+5,none⟩=some (.int .i64 m.t):=cell_of_row u4 _ 5 _ _ _ c
 go_wp2_with (refine Zaa rfl 3 _ _ rfl (w.heap.size+1+1) 5 (.int .i64 m.t) #[.int .i64 m.t] rfl rfl rfl rfl 61 #[.slice f k.length a,.int .i64 m.p,.int .i64 m.s,.int .i64 m.e,.int .i64 m.d,.int .i64 0,.int .i64 0,.int .i64 0] #[.slice f k.length a,.int .i64 m.p,.int .i64 m.s,.int .i64 m.e,.int .i64 m.d,.int .i64 m.t,.int .i64 0,.int .i64 0] j (by simp) (by kernel_rfl) rfl ?_)
 intro u5 V I af l
 replace c:=(l w.heap.size (by omega)).trans c
 replace g:=(l (w.heap.size+1) (by omega)).trans g
 replace b:=Zak b (by omega) l
 replace i:Below w.heap.size w u5:=i.trans (I.mono (by omega))
 replace j:=V
 clear V I af l k5
 have k6:u5.cell? ⟨w.heap.size,0+6,none⟩=some (.int .i64 m.q):=cell_of_row u5 _ 6 _ _ _ c
 go_wp2_with (refine Zaa rfl 3 _ _ rfl (w.heap.size+1+1) 6 (.int .i64 m.q) #[.int .i64 m.q] rfl rfl rfl rfl 61 #[.slice f k.length a,.int .i64 m.p,.int .i64 m.s,.int .i64 m.e,.int .i64 m.d,.int .i64 m.t,.int .i64 0,.int .i64 0] #[.slice f k.length a,.int .i64 m.p,.int .i64 m.s,.int .i64 m.e,.int .i64 m.d,.int .i64 m.t,.int .i64 m.q,.int .i64 0] j (by simp) (by kernel_rfl) rfl ?_)
 intro u6 ae J ah u
 replace c:=(u w.heap.size (by omega)).trans c
 replace g:=(u (w.heap.size+1) (by omega)).trans g
 replace b:=Zak b (by omega) u
 replace i:Below w.heap.size w u6:=i.trans (J.mono (by omega))
 replace j:=ae
 clear ae J ah u k6
 have k7:u6.cell? ⟨w.heap.size,0+7,none⟩=some (.int .i64 m.r):=cell_of_row u6 _ 7 _ _ _ c
 go_wp2_with (refine Zaa rfl 3 _ _ rfl (w.heap.size+1+1) 7 (.int .i64 m.r) #[.int .i64 m.r] rfl rfl rfl rfl 61 #[.slice f k.length a,.int .i64 m.p,.int .i64 m.s,.int .i64 m.e,.int .i64 m.d,.int .i64 m.t,.int .i64 m.q,.int .i64 0] #[.slice f k.length a,.int .i64 m.p,.int .i64 m.s,.int .i64 m.e,.int .i64 m.d,.int .i64 m.t,.int .i64 m.q,.int .i64 m.r] j (by simp) (by kernel_rfl) rfl ?_)
 intro u7 S K X o
 replace c:=(o w.heap.size (by omega)).trans c
 replace g:=(o (w.heap.size+1) (by omega)).trans g
 replace b:=Zak b (by omega) o
 replace i:Below w.heap.size w u7:=i.trans (K.mono (by omega))
 replace j:=S
 clear S K X o k7
 go_wp2_with (first
  | (refine wpList_load_row rfl 61 _ rfl (w.heap.size+1+1) rfl 61 #[.slice f k.length a,.int .i64 m.p,.int .i64 m.s,.int .i64 m.e,.int .i64 m.d,.int .i64 m.t,.int .i64 m.q,.int .i64 m.r] (0,0) _ j Tryz.underlying61 rfl ZmU ?_)
  | (refine Zad rfl 61 _ _ rfl (w.heap.size+1) #[.slice f k.length a,.int .i64 m.p,.int .i64 m.s,.int .i64 m.e,.int .i64 m.d,.int .i64 m.t,.int .i64 m.q,.int .i64 m.r] rfl rfl 61 #[.slice none 0 0,.int .i64 0,.int .i64 0,.int .i64 0,.int .i64 0,.int .i64 0,.int .i64 0,.int .i64 0] g ZmU rfl (by simp [Value.oneCell']) ?_))
 intro w9 al ak an N
 have aj:=Zah (B':=w.heap.size) (Zak b (by omega) N) (by omega)
 have am:Below w.heap.size w w9:=i.trans (ak.mono (by omega))
 go_wp2
 exact bodyPost_ret (results_cell_row rfl _ _ (w.heap.size+1) 61 _ (0,0) _ rfl al Tryz.underlying61 rfl ZmU) rfl ⟨_,rfl,aj,am⟩
theorem ZbK {P:Program}(w:World){ops:Array Oper}{f:List Oper}{o:Oper}{a:Act}{Q:Exit -> Act -> World -> Prop}(B:o.guard=none)(x:Operand)(d b e:TypeId)(C:o.op=.convert d b x)(r:P.underlying d=some (.slice e))(t:P.underlying b=some .string)(s:P.underlying e=some (.int .u8))(p:Option Addr)(n c:Nat)(l:List Int)(z:a.eval x=.slice p n c)(u:l.length=n)(y:n ≠ 0 -> ∃ g q,p=some ⟨g,q,none⟩/\∀ i,i < n -> w.cell? ⟨g,q+i,none⟩=some (.int .u8 (l.getD i 0)))(h:wpList P ops Q f (a.put o.dst (.string (strOfNums l))) w):wpList P ops Q (o :: f) a w:=by
 refine wpList_plain B fun K D=>?_
 have m:(convert d b (.slice p n c)).run P w=.ok (.string (strOfNums l)) w:=by
  by_cases v:n=0
  ·subst v
   have:l=[]:=List.eq_nil_of_length_eq_zero u
   subst this
   cases p with
   | none=>exact run_convert_bytes_nil w d e r s 0 c b t
   | some ad=>exact run_convert_bytes_back w d b e ad c [] r s t (fun j A=>absurd A (by simp))
  ·obtain ⟨g,q,rfl,k⟩:=y v
   exact run_convert_bytes_arg w d e r s g q n c l u k b t
 unfold Oper.wp
 simp [execOp,C,z,m,Result.andThen]
 exact D _ _ h
def mtGo:Nat -> Nat -> ByteArray -> ByteArray
 | 0,_,out=>out
 | f+1,k,out=>if k=0 then out else mtGo f (k / 10) (strOfNums [48+(k:Int) % 10] ++ out)
def mt (k:Int):ByteArray:=if k <= 0 then ⟨#[109,48]⟩ else ⟨#[109]⟩ ++ mtGo k.toNat k.toNat ⟨#[]⟩
def mk (k:Int):Nd:=⟨k,k+1,mt (k+1+1),k+1+1+1,k+1+1+1+1⟩
def Zmp (k:Int)(xs:List Nd)(i:Nat):List Nd:=(List.range i).map (fun (j:Nat)=>mk (k+5 * (j:Int))) ++ xs.drop i
end Go.Proofs.YtfeodlbpnghakaaGreatDoor
