/-
  Texts that stood by themselves, laid into one.
-/
import Derived.Test.YtanhoamdlhaaeaaGreatDoorNodeFitsM
import Derived.Laws.IdiomCopy
import Derived.Test.YtanhoamdlhaaeaaGreatDoorShapeM
/-
  What the sizes of a pool's nodes are, and the contract of impl.SizeOf.
-/
set_option maxRecDepth 100000
set_option maxHeartbeats 6400000
namespace Go.Proofs.YtanhoamdlhaaeaaGreatDoor
open Go.Proofs.Tryz
open Go.RowKit
def iv (zs:List Int):List Value:=zs.map (Value.int .i64)
theorem ZdC (a:List Int)(i:Nat)(h:i < a.length):(iv a)[i]? = some (.int .i64 (a.getD i 0)):=by simp [iv,List.getD,h]
theorem ZkZ (a:List Int)(i:Nat)(z:Int):(iv a).set i (.int .i64 z)=iv (a.set i z):=by simp [iv,List.map_set]
theorem Zic (a b:List Int):iv (a ++ b)=iv a ++ iv b:=by simp [iv]
def szA (acc:List Int)(x:Nd):Int:=if hasA x.k then acc.getD x.a.toNat 0 else 0
def szB (acc:List Int)(x:Nd):Int:=if hasB x.k then acc.getD x.b.toNat 0 else 0
def szN (acc:List Int)(x:Nd):Int:=min (1+szA acc x+szB acc x) 1000000000
def ZkC:List Nd -> List Int -> List Int
 | [],acc=>acc
 | x :: xs,acc=>ZkC xs (acc ++ [szN acc x])
def ZiF (xs:List Nd)(k:Nat):List Int:=ZkC (xs.take k) []
theorem Zhf (c:List Nd)(a i:Nat)(x:Nd)(h:ZaA c a=true)(b:c[i]? = some x):Zav x (a+i:Nat)=true:=by
 induction c generalizing i a with
 | nil=>simp at b
 | cons y ys ih =>
  simp only [ZaA,Bool.and_eq_true] at h;cases i with
  | zero=>simp at b;subst b;exact h.1
  | succ i =>
   have:=ih (a+1) i h.2 (by simpa using b)
   rwa [show a+1+i=a+(i+1) by omega] at this
theorem ZbL {a:List Nd}(h:Zap a=true){i:Nat}{x:Nd}(b:a[i]? = some x):Zav x i=true:=by
 simp only [Zap,Bool.and_eq_true] at h;have:=Zhf a 0 i x h.2 b
 simpa using this
theorem Zhd {x:Nd}{n:Int}(h:Zav x n=true):1 <= x.k/\x.k <= 9:=by
 simp only [Zav,Bool.and_eq_true,decide_eq_true_eq] at h;exact h.1.1.1
theorem ZbX {x:Nd}{n:Int}(h:Zav x n=true)(b:hasA x.k=true):0 <= x.a/\x.a < n:=by
 simp only [Zav,Bool.and_eq_true,decide_eq_true_eq] at h;have:=h.2.1.2;rw [b] at this
 simpa [Zbf] using this
theorem ZbY {x:Nd}{n:Int}(h:Zav x n=true)(a:hasB x.k=true):0 <= x.b/\x.b < n:=by
 simp only [Zav,Bool.and_eq_true,decide_eq_true_eq] at h;have:=h.2.2;rw [a] at this
 simpa [Zbf] using this
theorem Za1 {a:List Nd}(h:Zap a=true):a.length <= 3000:=by
 simp only [Zap,Bool.and_eq_true,decide_eq_true_eq] at h;exact h.1
def hasI (xs:List Nd)(v:Int):Bool:=decide (0 <= v) && decide (v < xs.length)
def sizeR (xs:List Nd)(v:Int):Int:=if Zap xs && hasI xs v then (ZiF xs xs.length).getD v.toNat 0 else 0
theorem ZfJ (v:Value)(b:List Nd)(a:Int)(w:World)(R:NRow w v b) :
  Calls prog 161 #[.agg #[v],.int .i64 a] w fun e d=>e=.returned (.bool (hasI b a))/\Below w.heap.size w d:=by
 obtain ⟨f,c,rfl,_⟩:=R
 go_enter func161,ntmps161
 go_wp2
 all_goals go_ret
 all_goals (refine ⟨retB ?_,(cf _ _).alloc (ce _) _⟩;rw [Bool.eq_iff_iff];simp [hasI, *];try omega)
theorem Zf6 (k n a b:Int)(s:ByteArray)(m:Nat)(w:World)(u:s.size <= maxLen)(x:m <= 9223372036854775807) :
  Calls prog 118 #[.agg #[.int .i64 k,.int .i64 n,.string s,.int .i64 a,.int .i64 b],.int .i64 m] w fun e v=>e=.returned (.bool (Zav ⟨k,n,s,a,b⟩ m))/\Below w.heap.size w v:=by
 go_enter func118,ntmps118
 go_wp2_with fail;refine (Zao _ _ _ _).mono ?_;rintro e d ⟨rfl,rfl⟩;go_wp2_with fail;refine (Zao _ _ _ _).mono ?_;rintro e d ⟨rfl,rfl⟩
 by_cases g:k=1
 ·subst g
  go_wp2_with fail
  all_goals go_ret
  all_goals (refine ⟨retB ?_,(cf _ _).alloc (ce _) _⟩;rw [Bool.eq_iff_iff];simp [Zav,Zbj,Zbf,lo,hi,hasS,hasA,hasB, *];try first | omega | (by_cases c:s.toList=[] <;> simp [c] <;> omega))
 by_cases i:k=2
 ·subst i
  go_wp2_with fail
  all_goals first | (refine (Zao _ _ _ _).mono ?_;rintro e d ⟨rfl,rfl⟩;go_wp2_with fail) | skip
  all_goals go_ret
  all_goals (refine ⟨retB ?_,(cf _ _).alloc (ce _) _⟩;rw [Bool.eq_iff_iff];simp [Zav,Zbj,Zbf,lo,hi,hasS,hasA,hasB, *];try first | omega | (by_cases c:s.toList=[] <;> simp [c] <;> omega))
 by_cases j:k=3
 ·subst j
  go_wp2_with fail
  all_goals first | (refine (Zao _ _ _ _).mono ?_;rintro e d ⟨rfl,rfl⟩;go_wp2_with fail) | skip
  all_goals go_ret
  all_goals (refine ⟨retB ?_,(cf _ _).alloc (ce _) _⟩;rw [Bool.eq_iff_iff];simp [Zav,Zbj,Zbf,lo,hi,hasS,hasA,hasB, *];try first | omega | (by_cases c:s.toList=[] <;> simp [c] <;> omega))
 by_cases l:k=4
 ·subst l
  go_wp2_with fail
  all_goals first | (refine (ZaK s _ u).mono ?_;rintro e d ⟨rfl,rfl⟩;go_wp2_with fail) | skip
  all_goals go_ret
  all_goals (refine ⟨retB ?_,(cf _ _).alloc (ce _) _⟩;rw [Bool.eq_iff_iff];simp [Zav,Zbj,Zbf,lo,hi,hasS,hasA,hasB, *];try first | omega | (by_cases c:s.toList=[] <;> simp [c] <;> omega))
 by_cases o:k=5
 ·subst o
  go_wp2_with fail
  all_goals go_ret
  all_goals (refine ⟨retB ?_,(cf _ _).alloc (ce _) _⟩;rw [Bool.eq_iff_iff];simp [Zav,Zbj,Zbf,lo,hi,hasS,hasA,hasB, *];try first | omega | (by_cases c:s.toList=[] <;> simp [c] <;> omega))
 by_cases p:k=6
 ·subst p
  go_wp2_with fail
  all_goals first | (refine (Zao _ _ _ _).mono ?_;rintro e d ⟨rfl,rfl⟩;go_wp2_with fail) | skip
  all_goals go_ret
  all_goals (refine ⟨retB ?_,(cf _ _).alloc (ce _) _⟩;rw [Bool.eq_iff_iff];simp [Zav,Zbj,Zbf,lo,hi,hasS,hasA,hasB, *];try first | omega | (by_cases c:s.toList=[] <;> simp [c] <;> omega))
 by_cases q:k=7
 ·subst q
  go_wp2_with fail
  all_goals go_ret
  all_goals (refine ⟨retB ?_,(cf _ _).alloc (ce _) _⟩;rw [Bool.eq_iff_iff];simp [Zav,Zbj,Zbf,lo,hi,hasS,hasA,hasB, *];try first | omega | (by_cases c:s.toList=[] <;> simp [c] <;> omega))
 by_cases r:k=8
 ·subst r
  go_wp2_with fail
  all_goals first | (refine (Zao _ _ _ _).mono ?_;rintro e d ⟨rfl,rfl⟩;go_wp2_with fail) | skip
  all_goals go_ret
  all_goals (refine ⟨retB ?_,(cf _ _).alloc (ce _) _⟩;rw [Bool.eq_iff_iff];simp [Zav,Zbj,Zbf,lo,hi,hasS,hasA,hasB, *];try first | omega | (by_cases c:s.toList=[] <;> simp [c] <;> omega))
 by_cases t:k=9
 ·subst t
  go_wp2_with fail
  all_goals first | (refine (Zao _ _ _ _).mono ?_;rintro e d ⟨rfl,rfl⟩;go_wp2_with fail) | skip
  all_goals go_ret
  all_goals (refine ⟨retB ?_,(cf _ _).alloc (ce _) _⟩;rw [Bool.eq_iff_iff];simp [Zav,Zbj,Zbf,lo,hi,hasS,hasA,hasB, *];try first | omega | (by_cases c:s.toList=[] <;> simp [c] <;> omega))
 have f:Hid (Zav ⟨k,n,s,a,b⟩ m=false):=by
  unfold Hid Zav;rw [Bool.eq_false_iff];intro h;simp only [Bool.and_eq_true,decide_eq_true_eq] at h;have:=h.1.1.1;omega
 go_wp2_with fail;go_ret;exact ⟨by rw [f.out];rfl,(cf _ _).alloc (ce _) _⟩
theorem ZiI (x:Nd)(m:Nat)(w:World)(d:x.s.size <= maxLen)(c:m <= 9223372036854775807) :
  Calls prog 118 #[.agg #[.int .i64 x.k,.int .i64 x.n,.string x.s,.int .i64 x.a,.int .i64 x.b],.int .i64 m] w fun e f=>e=.returned (.bool (Zav x m))/\Below w.heap.size w f :=
 Zf6 x.k x.n x.a x.b x.s m w d c
theorem Zct (v:Value)(b:List Nd)(w:World)(R:NRow w v b) :
  Calls prog 91 #[.agg #[v]] w fun e N=>e=.returned (.bool (Zap b))/\Below w.heap.size w N:=by
 have D:=R;obtain ⟨E,s,rfl,A,Q,M,a⟩:=D
 go_enter func91,ntmps91
 go_wp2_with fail
 go_loopw [3] (fun i wr=>∃ k:Nat,k <= b.length/\i=.int .i64 k/\Hid (ZaA b 0=ZaA (b.drop k) k)/\wr.cell? ⟨w.heap.size,0,none⟩=some (.slice E b.length s)/\Below w.heap.size w wr/\w.heap.size < wr.heap.size) (fun i _=>b.length - (intOf i).toNat)
 case atStart=>exact ⟨0,by omega,rfl,rfl,by simp,(cf _ _).alloc (ce _) _,by simp⟩
 case round =>
  obtain ⟨k,P,rfl,q,d,t,j⟩:=hrel
  by_cases m:k < b.length
  ·obtain ⟨g,o,rfl,L,a⟩:=a (by intro e;subst e;simp at m)
   obtain ⟨x,r⟩:∃ x,b[k]? = some x:=⟨b[k],by simp [m]⟩;obtain ⟨c0,G,H,I,J⟩:=(a k x r).below t L;have y:Hid (ZaA (b.drop k) k=(Zav x k && ZaA (b.drop (k+1)) (k+1))):=Zc8 b k x r;have u:=M x (List.mem_of_getElem? r);clear a r;go_wp2_with fail;refine (ZiI x _ _ u (by omega)).mono ?_;rintro e O ⟨rfl,c⟩;have z:Below w.heap.size w O:=t.trans (c.mono (by omega));have f:=(c.cell (p:=⟨w.heap.size,0,none⟩) j).trans d;have l:=cm j c.size;have n:Hid (ZaA b 0=(Zav x k && ZaA (b.drop (k+1)) (k+1))):=by unfold Hid;rw [q.out,y.out]
   clear c0 G H I J c d y q;generalize K:Zav x k=F at n ⊢;clear K;cases F with
   | false =>
    have B:Hid (Zap b=false):=by unfold Hid Zap;rw [n.out];simp
    clear n;go_wp2;go_ret;exact ⟨by rw [B.out];rfl,z⟩
   | true =>
    go_wp2
    go_roundw
    case rel=>exact ⟨k+1,by omega,by go_num,n.out,f,z,l⟩
    case measure=>simp [intOf];omega
  ·have e:k=b.length:=by omega
   have C:Hid (Zap b=decide (b.length <= 3000)):=by unfold Hid Zap;rw [q.out,e,List.drop_length];simp [ZaA]
   clear q;go_wp2;go_ret;refine ⟨retB ?_,t⟩;rw [C.out,Bool.eq_iff_iff];simp;omega
def chain (xs:List Nd):Nat -> Nat -> List Int -> Option (List Int)
 | 0,_,_=>none
 | f+1,j,acc=>match xs[j]? with
  | none=>none
  | some x=>if x.k=5 then chain xs f x.b.toNat (acc ++ [x.a]) else if x.k=1 then some acc else none
def ZkN (xs:List Nd)(v:Nat):List Int × Bool:=match chain xs (v+1) v [] with
 | some l=>(l,true)
 | none=>([],false)
def ZlC (xs:List Nd)(v:Int):List Int × Bool:=if Zap xs && hasI xs v then ZkN xs v.toNat else ([],false)
theorem Zcs (v:Value)(b:List Nd)(a:Int)(w:World)(R:NRow w v b) :
  Calls prog 119 #[.agg #[v],.int .i64 a] w fun e d=>e=.returned (.bool (hasI b a))/\Below w.heap.size w d:=by
 obtain ⟨f,c,rfl,_,g,_⟩:=R
 go_enter func119,ntmps119
 go_wp2_with fail;refine (Zao _ _ _ _).mono ?_;rintro e i ⟨rfl,rfl⟩;go_wp2;go_ret;refine ⟨retB ?_,(cf _ _).alloc (ce _) _⟩;rw [Bool.eq_iff_iff];simp [hasI];omega
theorem Zgb (p:Int)(M:0 <= p)(N:p <= 1048576)(v:Value)(b:List Nd)(w:World)(R:NRow w v b) :
  Calls prog 85 #[v,.int .i64 p] w fun e P=>∃ r:Int,e=.returned (.int .i64 r) /\ -1 <= r/\r <= 1048576/\(0 <= r -> b.length <= 1048576/\∀ x ∈ b,x.s.size <= 1048576)/\Below w.heap.size w P:=by
 obtain ⟨Q,K,rfl,B,T,O,a⟩:=R
 by_cases E:(b.length:Int) <= p
 ·go_enter func85,ntmps85
  go_wp2
  go_loopw [1,5] (fun l i wr=>∃ (k:Nat) (r:Int),k <= b.length/\i=.int .i64 k/\l=.int .i64 r/\0 <= r/\r <= 1048576/\Hid (∀ j x,b[j]? = some x -> j < k -> x.s.size <= 1048576)/\Below w.heap.size w wr) (fun _ i _=>b.length - (intOf i).toNat)
  case atStart=>exact ⟨0,_,by omega,rfl,rfl,by omega,by omega,fun j x _ h=>by omega,cf _ _⟩
  case round =>
   obtain ⟨k,r,S,rfl,rfl,q,t,A,n⟩:=hrel
   by_cases m:k < b.length
   ·obtain ⟨g,o,rfl,L,a⟩:=a (by intro e;subst e;simp at m)
    obtain ⟨x,c⟩:∃ x,b[k]? = some x:=⟨b[k],by simp [m]⟩;obtain ⟨c0,G,H,I,J⟩:=(a k x c).below n L;have u:=O x (List.mem_of_getElem? c);have F:Hid (b[k]? = some x):=c;clear a c;go_wp2_with fail;refine (ZdM x _ _ u q t).mono ?_;rintro e U ⟨rfl,f⟩;have d:=n.trans (f.mono n.size);clear c0 G H I J f
    by_cases D:r < x.s.size
    ·rw [less,if_pos D]
     go_wp2;go_ret;exact ⟨-1,rfl,by omega,by omega,fun h=>by omega,d⟩
    ·rw [less,if_neg D]
     go_wp2
     go_roundw
     case rel =>
      refine ⟨k+1,_,by omega,by go_num,rfl,by omega,by omega,fun j y z C=>?_,d⟩
      by_cases e:j=k
      ·subst e
       rw [F.out] at z;cases z;omega
      ·exact A.out j y z (by omega)
     case measure=>simp [intOf];omega
   ·go_wp2
    go_ret;refine ⟨r,rfl,by omega,by omega,fun _=>⟨by omega,fun x c=>?_⟩,n⟩;obtain ⟨j,C,e⟩:=List.getElem_of_mem c;exact A.out j x (by rw [<- e];simp [C]) (by omega)
 ·go_enter func85,ntmps85
  go_wp2;go_ret;exact ⟨-1,rfl,by omega,by omega,fun h=>by omega,cf _ _⟩
theorem ZhE (f:Int)(i:0 <= f)(j:f <= 1048576)(v:Value)(d:List Nd)(w:World)(R:NRow w v d) :
  Calls prog 43 #[.agg #[v],.int .i64 f] w fun e p=>∃ r:Int,e=.returned (.int .i64 r) /\ -1 <= r/\r <= 1048576/\(0 <= r -> d.length <= 1048576/\∀ x ∈ d,x.s.size <= 1048576)/\Below w.heap.size w p:=by
 have k:=R;obtain ⟨l,g,rfl,_⟩:=k
 go_enter func43,ntmps43
 go_wp2_with fail;have a:Below w.heap.size w (w.alloc (Obj.cells #[.slice l d.length g] 24)):=(cf _ _).alloc (ce _) _;refine (Zgb f i j _ d _ (R.below a)).mono ?_;rintro e u ⟨r,rfl,m,n,o,c⟩;have b:=a.trans (c.mono a.size);clear a c
 by_cases t:r < 0
 ·have q:Hid (r = -1):=by unfold Hid;omega
  go_wp2;go_ret;exact ⟨-1,rfl,by omega,by omega,fun h=>by omega,b⟩
 ·go_wp2
  go_ret;exact ⟨r,rfl,m,n,o,b⟩
theorem ZhC (g:Int)(j:0 <= g)(k:g <= 1048576)(v:Value)(f:List Nd)(m:Mc)(w:World)(R:NRow w v f) :
  Calls prog 117 #[.agg #[v,.int .i64 m.p,.int .i64 m.s,.int .i64 m.e,.int .i64 m.d,.int .i64 m.t,.int .i64 m.q,.int .i64 m.r],.int .i64 g] w fun e z=>∃ r:Int,e=.returned (.int .i64 r) /\ -1 <= r/\r <= 1048576/\(0 <= r -> f.length <= 1048576/\∀ x ∈ f,x.s.size <= 1048576)/\Below w.heap.size w z:=by
 have l:=R;obtain ⟨n,i,rfl,_⟩:=l
 go_enter func117,ntmps117
 go_wp2_with fail;have a:Below w.heap.size w (w.alloc (Obj.cells #[.slice n f.length i,.int .i64 m.p,.int .i64 m.s,.int .i64 m.e,.int .i64 m.d,.int .i64 m.t,.int .i64 m.q,.int .i64 m.r] 95)):=(cf _ _).alloc (ce _) _;refine (ZhE g j k _ f _ (R.below a)).mono ?_;rintro e B ⟨r,rfl,o,u,y,c⟩;have b:=a.trans (c.mono a.size);clear a c
 by_cases A:r < 0
 ·go_wp2
  go_ret;exact ⟨-1,rfl,by omega,by omega,fun h=>by omega,b⟩
 ·go_wp2
  go_ret;exact ⟨r,rfl,o,u,y,b⟩
theorem ZgP (x vb:Value)(k:List Nd)(m:Mc)(w:World)(u:NRow w x k)(v:NRow w vb k) :
  Calls prog 137 #[.agg #[x,.int .i64 m.p,.int .i64 m.s,.int .i64 m.e,.int .i64 m.d,.int .i64 m.t,.int .i64 m.q,.int .i64 m.r],.agg #[vb,.int .i64 m.p,.int .i64 m.s,.int .i64 m.e,.int .i64 m.d,.int .i64 m.t,.int .i64 m.q,.int .i64 m.r]] w fun e C=>e=.returned (.bool true)/\Below w.heap.size w C:=by
 have l:=u;have n:=v;obtain ⟨y,A,rfl,_⟩:=l;obtain ⟨z,B,rfl,_⟩:=n;obtain ⟨f,i,j⟩:=ZaC w (Obj.cells #[.slice y k.length A,.int .i64 m.p,.int .i64 m.s,.int .i64 m.e,.int .i64 m.d,.int .i64 m.t,.int .i64 m.q,.int .i64 m.r] 66) (Obj.cells #[.slice z k.length B,.int .i64 m.p,.int .i64 m.s,.int .i64 m.e,.int .i64 m.d,.int .i64 m.t,.int .i64 m.q,.int .i64 m.r] 66)
 go_enter func137,ntmps137
 go_wp2_with fail;refine (Zdw _ _ k _ (u.below f) (v.below f)).mono ?_;rintro e a ⟨rfl,g⟩;have o:=f.trans (g.mono f.size);have b:=(bb i g);have c:=(bb j g);clear f i j g;have J:a.cell? ⟨w.heap.size,0+1,none⟩=some (.int .i64 m.p):=cd a _ 1 _ _ _ b;have D:a.cell? ⟨w.heap.size+1,0+1,none⟩=some (.int .i64 m.p):=cd a _ 1 _ _ _ c;have K:a.cell? ⟨w.heap.size,0+2,none⟩=some (.int .i64 m.s):=cd a _ 2 _ _ _ b;have k2:a.cell? ⟨w.heap.size+1,0+2,none⟩=some (.int .i64 m.s):=cd a _ 2 _ _ _ c;have L:a.cell? ⟨w.heap.size,0+3,none⟩=some (.int .i64 m.e):=cd a _ 3 _ _ _ b;have E:a.cell? ⟨w.heap.size+1,0+3,none⟩=some (.int .i64 m.e):=cd a _ 3 _ _ _ c;have M:a.cell? ⟨w.heap.size,0+4,none⟩=some (.int .i64 m.d):=cd a _ 4 _ _ _ b;have F:a.cell? ⟨w.heap.size+1,0+4,none⟩=some (.int .i64 m.d):=cd a _ 4 _ _ _ c
 have N:a.cell? ⟨w.heap.size,0+5,none⟩=some (.int .i64 m.t):=cd a _ 5 _ _ _ b;have G:a.cell? ⟨w.heap.size+1,0+5,none⟩=some (.int .i64 m.t):=cd a _ 5 _ _ _ c;have O:a.cell? ⟨w.heap.size,0+6,none⟩=some (.int .i64 m.q):=cd a _ 6 _ _ _ b;have H:a.cell? ⟨w.heap.size+1,0+6,none⟩=some (.int .i64 m.q):=cd a _ 6 _ _ _ c;have P:a.cell? ⟨w.heap.size,0+7,none⟩=some (.int .i64 m.r):=cd a _ 7 _ _ _ b;have I:a.cell? ⟨w.heap.size+1,0+7,none⟩=some (.int .i64 m.r):=cd a _ 7 _ _ _ c;clear b c;go_wp2;go_ret;exact ⟨rfl,o⟩
theorem Zaa {P:Program}{ops:Array Oper}{d:List Oper}{o:Oper}{a:Act}{w:World}{Q:Exit -> Act -> World -> Prop}(r:o.guard=none)(n:TypeId)(x y:Operand)(I:o.op=.store n x y)(g i:Nat)(v:Value)(cs:Array Value)(L:a.eval x=.pointer (some ⟨g,i,none⟩))(M:a.eval y=v)(A:v.cells=#[cs.getD 0 undef])(E:(cs.getD 0 undef).oneCell'=true)(t:TypeId)(f l:Array Value)(q:w.heap[g]? = some (.cells f t (0,0)))(H:i < f.size)(hi:(P.info? n).map (·.size)=some 1)(C:l=f.setIfInBounds i (cs.getD 0 undef))(h:∀ m:World,m.heap[g]? = some (.cells l t (0,0)) -> Below g w m -> m.heap.size=w.heap.size -> (∀ k,k ≠ g -> m.heap[k]? = w.heap[k]?) -> wpList P ops Q d (a.put o.dst undef) m):wpList P ops Q (o :: d) a w:=by
 refine wpList_plain r fun K F=>?_
 generalize cs.getD 0 undef=c at A E C;have e:(w.cell? ⟨g,i,none⟩).isSome=true:=by rw [cd w g i _ _ _ q];simp [H]
 have b:=run_storeCells_cells (P:=P) g i [c] 0 w (fun j B=>by obtain rfl:j=0:=(by simpa using B);simpa using e) (fun j B=>cj w g _ _ _ q) (fun u D=>by simp at D;subst D;exact E)
 have z:(storeVar n ⟨g,i,none⟩ v).run P w=.ok () (w.setCell ⟨g,i,none⟩ c):=by
  cases s:P.info? n with
  | none=>simp [s] at hi
  | some inf =>
   have J:inf.size=1:=by simpa [s] using hi
   simp only [Nat.add_zero] at b;simp [storeVar,sizeOf,typeInfo,s,A,J,b,World.setCells]
 unfold Oper.wp execOp;simp only [I,L,M,Instr.storeAt,Instr.sureAddr,Sem.run_bind,Sem.run_pure,Result.andThen_ok,z];refine F _ _ (h _ ?_ ((cf g w).setCell (p:=⟨g,i,none⟩) (ce _) _) (by simp [World.setCell]) (fun k G=>ch w ⟨g,i,none⟩ k _ G));rw [C];exact ci w g i _ _ _ q
theorem ZhJ (v:Value)(k:List Nd)(m:Mc)(w:World)(R:NRow w v k)(hm:k.length <= 2097152) :
  Calls prog 125 #[.agg #[v,.int .i64 m.p,.int .i64 m.s,.int .i64 m.e,.int .i64 m.d,.int .i64 m.t,.int .i64 m.q,.int .i64 m.r]] w fun e w'=>∃ v',e=.returned (.agg #[v',.int .i64 m.p,.int .i64 m.s,.int .i64 m.e,.int .i64 m.d,.int .i64 m.t,.int .i64 m.q,.int .i64 m.r])/\w'.ownsRow w.heap.size 176 5 v' k.length (ncs k)/\Below w.heap.size w w':=by
 have R':=R;obtain ⟨O,B,rfl,_⟩:=R';have D:Below w.heap.size w (((w.alloc (Obj.cells #[.slice O k.length B,.int .i64 m.p,.int .i64 m.s,.int .i64 m.e,.int .i64 m.d,.int .i64 m.t,.int .i64 m.q,.int .i64 m.r] 95)).alloc (Obj.cells #[.slice none 0 0,.int .i64 0,.int .i64 0,.int .i64 0,.int .i64 0,.int .i64 0,.int .i64 0,.int .i64 0] 66)).alloc (Obj.cells #[.slice none 0 0,.int .i64 0,.int .i64 0,.int .i64 0,.int .i64 0,.int .i64 0,.int .i64 0,.int .i64 0] 66)):=(((cf _ _).alloc (ce _) _).alloc (by simp) _).alloc (by simp;omega) _
 have ah:(((w.alloc (Obj.cells #[.slice O k.length B,.int .i64 m.p,.int .i64 m.s,.int .i64 m.e,.int .i64 m.d,.int .i64 m.t,.int .i64 m.q,.int .i64 m.r] 95)).alloc (Obj.cells #[.slice none 0 0,.int .i64 0,.int .i64 0,.int .i64 0,.int .i64 0,.int .i64 0,.int .i64 0,.int .i64 0] 66)).alloc (Obj.cells #[.slice none 0 0,.int .i64 0,.int .i64 0,.int .i64 0,.int .i64 0,.int .i64 0,.int .i64 0,.int .i64 0] 66)).heap[w.heap.size]? = some (Obj.cells #[.slice O k.length B,.int .i64 m.p,.int .i64 m.s,.int .i64 m.e,.int .i64 m.d,.int .i64 m.t,.int .i64 m.q,.int .i64 m.r] 95):=(cn _ _ (by simp;omega)).trans ((cn _ _ (by simp)).trans (cg _ _))
 have ai:(((w.alloc (Obj.cells #[.slice O k.length B,.int .i64 m.p,.int .i64 m.s,.int .i64 m.e,.int .i64 m.d,.int .i64 m.t,.int .i64 m.q,.int .i64 m.r] 95)).alloc (Obj.cells #[.slice none 0 0,.int .i64 0,.int .i64 0,.int .i64 0,.int .i64 0,.int .i64 0,.int .i64 0,.int .i64 0] 66)).alloc (Obj.cells #[.slice none 0 0,.int .i64 0,.int .i64 0,.int .i64 0,.int .i64 0,.int .i64 0,.int .i64 0,.int .i64 0] 66)).heap[w.heap.size+1]? = some (Obj.cells #[.slice none 0 0,.int .i64 0,.int .i64 0,.int .i64 0,.int .i64 0,.int .i64 0,.int .i64 0,.int .i64 0] 66):=(cn _ _ (by simp)).trans (cw _ _ _)
 have ag:(((w.alloc (Obj.cells #[.slice O k.length B,.int .i64 m.p,.int .i64 m.s,.int .i64 m.e,.int .i64 m.d,.int .i64 m.t,.int .i64 m.q,.int .i64 m.r] 95)).alloc (Obj.cells #[.slice none 0 0,.int .i64 0,.int .i64 0,.int .i64 0,.int .i64 0,.int .i64 0,.int .i64 0,.int .i64 0] 66)).alloc (Obj.cells #[.slice none 0 0,.int .i64 0,.int .i64 0,.int .i64 0,.int .i64 0,.int .i64 0,.int .i64 0,.int .i64 0] 66)).heap[w.heap.size+1+1]? = some (Obj.cells #[.slice none 0 0,.int .i64 0,.int .i64 0,.int .i64 0,.int .i64 0,.int .i64 0,.int .i64 0,.int .i64 0] 66):=by
  have h:=cg ((w.alloc (Obj.cells #[.slice O k.length B,.int .i64 m.p,.int .i64 m.s,.int .i64 m.e,.int .i64 m.d,.int .i64 m.t,.int .i64 m.q,.int .i64 m.r] 95)).alloc (Obj.cells #[.slice none 0 0,.int .i64 0,.int .i64 0,.int .i64 0,.int .i64 0,.int .i64 0,.int .i64 0,.int .i64 0] 66)) (Obj.cells #[.slice none 0 0,.int .i64 0,.int .i64 0,.int .i64 0,.int .i64 0,.int .i64 0,.int .i64 0,.int .i64 0] 66)
  simpa using h
 go_enter func125,ntmps125
 go_wp2_with fail;refine (ZdO _ k _ (R.below D) hm).mono ?_;rintro e w1 ⟨v1,rfl,M,C⟩;obtain ⟨f,a,rfl⟩:=Zad M;have g:=D.trans (C.mono D.size);have c:=(bb ah C);have j:=(bb ai C);have i:=(bb ag C);have b:w1.ownsRow (w.heap.size+3) 176 5 (.slice f k.length a) k.length (ncs k):=by simpa using M
 clear D ah ai ag C M
 go_wp2_with (refine Zaa rfl 41 _ _ rfl (w.heap.size+1+1) 0 (.agg #[.slice f k.length a]) #[.slice f k.length a] rfl rfl rfl rfl 66 #[.slice none 0 0,.int .i64 0,.int .i64 0,.int .i64 0,.int .i64 0,.int .i64 0,.int .i64 0,.int .i64 0] #[.slice f k.length a,.int .i64 0,.int .i64 0,.int .i64 0,.int .i64 0,.int .i64 0,.int .i64 0,.int .i64 0] i (by simp) (by kernel_rfl) rfl ?_)
 intro u0 P E Y l;replace c:=(l w.heap.size (by omega)).trans c;replace j:=(l (w.heap.size+1) (by omega)).trans j;replace b:=Zaz b (by omega) l;replace g:Below w.heap.size w u0:=g.trans (E.mono (by omega));replace i:=P;clear P E Y l;have k1:u0.cell? ⟨w.heap.size,0+1,none⟩=some (.int .i64 m.p):=cd u0 _ 1 _ _ _ c
 go_wp2_with (refine Zaa rfl 3 _ _ rfl (w.heap.size+1+1) 1 (.int .i64 m.p) #[.int .i64 m.p] rfl rfl rfl rfl 66 #[.slice f k.length a,.int .i64 0,.int .i64 0,.int .i64 0,.int .i64 0,.int .i64 0,.int .i64 0,.int .i64 0] #[.slice f k.length a,.int .i64 m.p,.int .i64 0,.int .i64 0,.int .i64 0,.int .i64 0,.int .i64 0,.int .i64 0] i (by simp) (by kernel_rfl) rfl ?_)
 intro u1 Q F Z n;replace c:=(n w.heap.size (by omega)).trans c;replace j:=(n (w.heap.size+1) (by omega)).trans j;replace b:=Zaz b (by omega) n;replace g:Below w.heap.size w u1:=g.trans (F.mono (by omega));replace i:=Q;clear Q F Z n k1;have k2:u1.cell? ⟨w.heap.size,0+2,none⟩=some (.int .i64 m.s):=cd u1 _ 2 _ _ _ c
 go_wp2_with (refine Zaa rfl 3 _ _ rfl (w.heap.size+1+1) 2 (.int .i64 m.s) #[.int .i64 m.s] rfl rfl rfl rfl 66 #[.slice f k.length a,.int .i64 m.p,.int .i64 0,.int .i64 0,.int .i64 0,.int .i64 0,.int .i64 0,.int .i64 0] #[.slice f k.length a,.int .i64 m.p,.int .i64 m.s,.int .i64 0,.int .i64 0,.int .i64 0,.int .i64 0,.int .i64 0] i (by simp) (by kernel_rfl) rfl ?_)
 intro u2 S G aa o;replace c:=(o w.heap.size (by omega)).trans c;replace j:=(o (w.heap.size+1) (by omega)).trans j;replace b:=Zaz b (by omega) o;replace g:Below w.heap.size w u2:=g.trans (G.mono (by omega));replace i:=S;clear S G aa o k2;have k3:u2.cell? ⟨w.heap.size,0+3,none⟩=some (.int .i64 m.e):=cd u2 _ 3 _ _ _ c
 go_wp2_with (refine Zaa rfl 3 _ _ rfl (w.heap.size+1+1) 3 (.int .i64 m.e) #[.int .i64 m.e] rfl rfl rfl rfl 66 #[.slice f k.length a,.int .i64 m.p,.int .i64 m.s,.int .i64 0,.int .i64 0,.int .i64 0,.int .i64 0,.int .i64 0] #[.slice f k.length a,.int .i64 m.p,.int .i64 m.s,.int .i64 m.e,.int .i64 0,.int .i64 0,.int .i64 0,.int .i64 0] i (by simp) (by kernel_rfl) rfl ?_)
 intro u3 T H ab u;replace c:=(u w.heap.size (by omega)).trans c;replace j:=(u (w.heap.size+1) (by omega)).trans j;replace b:=Zaz b (by omega) u;replace g:Below w.heap.size w u3:=g.trans (H.mono (by omega));replace i:=T;clear T H ab u k3;have k4:u3.cell? ⟨w.heap.size,0+4,none⟩=some (.int .i64 m.d):=cd u3 _ 4 _ _ _ c
 go_wp2_with (refine Zaa rfl 3 _ _ rfl (w.heap.size+1+1) 4 (.int .i64 m.d) #[.int .i64 m.d] rfl rfl rfl rfl 66 #[.slice f k.length a,.int .i64 m.p,.int .i64 m.s,.int .i64 m.e,.int .i64 0,.int .i64 0,.int .i64 0,.int .i64 0] #[.slice f k.length a,.int .i64 m.p,.int .i64 m.s,.int .i64 m.e,.int .i64 m.d,.int .i64 0,.int .i64 0,.int .i64 0] i (by simp) (by kernel_rfl) rfl ?_)
 intro u4 U I ac x;replace c:=(x w.heap.size (by omega)).trans c;replace j:=(x (w.heap.size+1) (by omega)).trans j;replace b:=Zaz b (by omega) x;replace g:Below w.heap.size w u4:=g.trans (I.mono (by omega));replace i:=U;clear U I ac x k4;have k5:u4.cell? ⟨w.heap.size,0+5,none⟩=some (.int .i64 m.t):=cd u4 _ 5 _ _ _ c
 go_wp2_with (refine Zaa rfl 3 _ _ rfl (w.heap.size+1+1) 5 (.int .i64 m.t) #[.int .i64 m.t] rfl rfl rfl rfl 66 #[.slice f k.length a,.int .i64 m.p,.int .i64 m.s,.int .i64 m.e,.int .i64 m.d,.int .i64 0,.int .i64 0,.int .i64 0] #[.slice f k.length a,.int .i64 m.p,.int .i64 m.s,.int .i64 m.e,.int .i64 m.d,.int .i64 m.t,.int .i64 0,.int .i64 0] i (by simp) (by kernel_rfl) rfl ?_)
 intro u5 V J ad y;replace c:=(y w.heap.size (by omega)).trans c;replace j:=(y (w.heap.size+1) (by omega)).trans j;replace b:=Zaz b (by omega) y;replace g:Below w.heap.size w u5:=g.trans (J.mono (by omega));replace i:=V;clear V J ad y k5;have k6:u5.cell? ⟨w.heap.size,0+6,none⟩=some (.int .i64 m.q):=cd u5 _ 6 _ _ _ c
 go_wp2_with (refine Zaa rfl 3 _ _ rfl (w.heap.size+1+1) 6 (.int .i64 m.q) #[.int .i64 m.q] rfl rfl rfl rfl 66 #[.slice f k.length a,.int .i64 m.p,.int .i64 m.s,.int .i64 m.e,.int .i64 m.d,.int .i64 m.t,.int .i64 0,.int .i64 0] #[.slice f k.length a,.int .i64 m.p,.int .i64 m.s,.int .i64 m.e,.int .i64 m.d,.int .i64 m.t,.int .i64 m.q,.int .i64 0] i (by simp) (by kernel_rfl) rfl ?_)
 intro u6 W K ae z;replace c:=(z w.heap.size (by omega)).trans c;replace j:=(z (w.heap.size+1) (by omega)).trans j;replace b:=Zaz b (by omega) z;replace g:Below w.heap.size w u6:=g.trans (K.mono (by omega));replace i:=W;clear W K ae z k6;have k7:u6.cell? ⟨w.heap.size,0+7,none⟩=some (.int .i64 m.r):=cd u6 _ 7 _ _ _ c
 go_wp2_with (refine Zaa rfl 3 _ _ rfl (w.heap.size+1+1) 7 (.int .i64 m.r) #[.int .i64 m.r] rfl rfl rfl rfl 66 #[.slice f k.length a,.int .i64 m.p,.int .i64 m.s,.int .i64 m.e,.int .i64 m.d,.int .i64 m.t,.int .i64 m.q,.int .i64 0] #[.slice f k.length a,.int .i64 m.p,.int .i64 m.s,.int .i64 m.e,.int .i64 m.d,.int .i64 m.t,.int .i64 m.q,.int .i64 m.r] i (by simp) (by kernel_rfl) rfl ?_)
 intro u7 X L af A;replace c:=(A w.heap.size (by omega)).trans c;replace j:=(A (w.heap.size+1) (by omega)).trans j;replace b:=Zaz b (by omega) A;replace g:Below w.heap.size w u7:=g.trans (L.mono (by omega));replace i:=X;clear X L af A k7
 go_wp2_with (first
  | (refine co rfl 66 _ rfl (w.heap.size+1+1) rfl 66 #[.slice f k.length a,.int .i64 m.p,.int .i64 m.s,.int .i64 m.e,.int .i64 m.d,.int .i64 m.t,.int .i64 m.q,.int .i64 m.r] (0,0) _ i underlying66 rfl ZlN ?_)
  | (refine Zas rfl 66 _ _ rfl (w.heap.size+1) #[.slice f k.length a,.int .i64 m.p,.int .i64 m.s,.int .i64 m.e,.int .i64 m.d,.int .i64 m.t,.int .i64 m.q,.int .i64 m.r] rfl rfl 66 #[.slice none 0 0,.int .i64 0,.int .i64 0,.int .i64 0,.int .i64 0,.int .i64 0,.int .i64 0,.int .i64 0] j ZlN rfl (by simp [Value.oneCell']) ?_))
 intro w9 al ak an N;have am:=Zae (B':=w.heap.size) (Zaz b (by omega) N) (by omega);have aj:Below w.heap.size w w9:=g.trans (ak.mono (by omega));go_wp2;exact ck (results_cell_row rfl _ _ (w.heap.size+1) 66 _ (0,0) _ rfl al underlying66 rfl ZlN) rfl ⟨_,rfl,am,aj⟩
end Go.Proofs.YtanhoamdlhaaeaaGreatDoor
