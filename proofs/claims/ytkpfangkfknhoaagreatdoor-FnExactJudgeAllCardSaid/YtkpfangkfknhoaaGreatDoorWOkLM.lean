/-
  Texts that stood by themselves, laid into one.
-/
import Derived.Test.YtkpfangkfknhoaaGreatDoorLinkM
import Derived.Test.YtkpfangkfknhoaaGreatDoorSIntoM
import Derived.Test.YtkpfangkfknhoaaGreatDoorWOkRM
/-
  Contracts of impl's windowEnd, heldFits and LinkOk, and of spec's LinkOk: which links are right. No condition.
-/
set_option maxRecDepth 100000
set_option maxHeartbeats 6400000
namespace Go.Proofs.YtkpfangkfknhoaaGreatDoor
open Go.Proofs.Tryz
open Go.RowKit
def ZbF (e:Int):Int -> List Pc -> Bool
 | _,[]=>true
 | last,p :: ps=>decide (last < p.n) && (decide (p.n < e) && ZbF e p.n ps)
def lend (l:Lk):Int:=if l.got+4 <= l.sent then l.got+4 else l.sent
def Za4 (l:Lk):Bool :=
 decide (0 <= l.acked/\l.acked <= l.got/\l.got <= l.sent/\l.sent <= 100000/\(l.q.length:Int)=l.sent - l.acked/\l.q.length <= 30) && ZbF (lend l) l.got l.h
theorem Za7 {l:Lk}(h:Za4 l=true):0 <= l.acked/\l.acked <= l.got/\l.got <= l.sent/\l.sent <= 100000/\(l.q.length:Int)=l.sent - l.acked/\l.q.length <= 30:=by
 unfold Za4 at h;simp only [Bool.and_eq_true,decide_eq_true_eq] at h;exact h.1
theorem ZaU {l:Lk}(h:¬ (0 <= l.acked/\l.acked <= l.got/\l.got <= l.sent/\l.sent <= 100000/\(l.q.length:Int)=l.sent - l.acked/\l.q.length <= 30)):Za4 l=false:=by
 unfold Za4;rw [decide_eq_false h];rfl
theorem Zeh {l:Lk}(h:0 <= l.acked/\l.acked <= l.got/\l.got <= l.sent/\l.sent <= 100000/\(l.q.length:Int)=l.sent - l.acked/\l.q.length <= 30):Za4 l=ZbF (lend l) l.got l.h:=by
 unfold Za4;rw [decide_eq_true h];rfl
theorem ZgX (h f:Value)(l:Lk)(w:World)(o:0 <= l.got)(n:l.got <= l.sent)(m:l.sent <= 100000)(g:Option Addr)(n1 c1:Nat)(j:h=.slice g n1 c1)(d:Option Addr)(n2 c2:Nat)(k:f=.slice d n2 c2) :
  Calls prog 194 #[.agg #[.int .i64 l.sent,.int .i64 l.acked,h,.int .i64 l.got,f]] w fun e i=>e=.returned (.int .i64 (lend l))/\Below w.heap.size w i:=by
 subst j k;have a:Below w.heap.size w (w.alloc (Obj.cells #[.int .i64 l.sent,.int .i64 l.acked,.slice g n1 c1,.int .i64 l.got,.slice d n2 c2] 107)):=(cj _ _).alloc (ce _) _
 by_cases b:l.got+4 <= l.sent
 ·have c:Hid (lend l=l.got+4):=by unfold Hid lend;rw [if_pos b]
  go_enter func194,ntmps194
  go_wp2;go_ret;exact ⟨by rw [c.out];rfl,a⟩
 ·have c:Hid (lend l=l.sent):=by unfold Hid lend;rw [if_neg b]
  go_enter func194,ntmps194
  go_wp2;go_ret;exact ⟨by rw [c.out];rfl,a⟩
theorem Zen {e z:Int}{h:List Pc}{j:Nat}{x:Pc}(a:h[j]? = some x):ZbF e z (h.drop j)=(decide (z < x.n) && (decide (x.n < e) && ZbF e x.n (h.drop (j+1)))):=by
 obtain ⟨b,rfl⟩:=List.getElem?_eq_some_iff.1 a;rw [List.drop_eq_getElem_cons b];rfl
theorem Zfw {e z:Int}{h:List Pc}:ZbF e z (h.drop h.length)=true:=by rw [List.drop_length];rfl
theorem Ze4 (J K:Value)(l:Lk)(w:World)(O:0 <= l.got)(Q:l.got <= l.sent)(M:l.sent <= 100000)(m:Option Addr)(n1 c1:Nat)(N:J=.slice m n1 c1)(R:PcRow w K l.h) :
  Calls prog 161 #[.agg #[.int .i64 l.sent,.int .i64 l.acked,J,.int .i64 l.got,K]] w fun e S=>e=.returned (.bool (ZbF (lend l) l.got l.h))/\Below w.heap.size w S:=by
 subst N;obtain ⟨u,c2,rfl,L,Y,X,a⟩:=R;have v:Below w.heap.size w (w.alloc (Obj.cells #[.int .i64 l.sent,.int .i64 l.acked,.slice m n1 c1,.int .i64 l.got,.slice u l.h.length c2] 107)):=(cj _ _).alloc (ce _) _;have I:=fun w=>ZgX (.slice m n1 c1) (.slice u l.h.length c2) l w O Q M m n1 c1 rfl u l.h.length c2 rfl
 obtain ⟨r,y⟩:∃ r,ZbF (lend l) l.got l.h=r:=⟨_,rfl⟩;rw [y];generalize lend l=E at I y;have C:Hid (ZbF E l.got l.h=r):=y;clear y
 go_enter func161,ntmps161
 go_wp2_with fail
 go_region_with (go_at_call 194;refine (I _).mono ?_;rintro e k ⟨rfl,f⟩;have b:k.heap[w.heap.size]? = some (.cells #[.int .i64 l.sent,.int .i64 l.acked,.slice m n1 c1,.int .i64 l.got,.slice u l.h.length c2] 107 (0,0)):=(f.block _ (by simp)).trans (co _ _);have H:k.cell? ⟨w.heap.size,0+3,none⟩=some (.int .i64 l.got):=by rw [cd k _ 3 _ _ _ b];rfl)
 all_goals
  have t:Below w.heap.size w k:=v.drew.trans (f.mono (by simp));have F:k.cell? ⟨w.heap.size,0+4,none⟩=some (.slice u l.h.length c2):=by rw [cd k _ 4 _ _ _ b];rfl
  clear f;go_wp2
  go_loopw [3,14] (fun q i wr=>∃ (j:Nat) (z:Int),j <= l.h.length/\i=.int .i64 j/\q=.int .i64 z/\Hid (ZbF E l.got l.h=ZbF E z (l.h.drop j))/\Below w.heap.size w wr) (fun _ i _=>l.h.length - (intOf i).toNat)
  case atStart=>exact ⟨0,l.got,by omega,rfl,rfl,rfl,t⟩
  case round =>
   clear b H F t v;obtain ⟨j,z,V,rfl,rfl,B,A⟩:=hrel
   by_cases c:j < l.h.length
   ·obtain ⟨g,o,rfl,U,a⟩:=a (by intro e;rw [e] at c;simp at c)
    obtain ⟨x,G⟩:∃ x,l.h[j]? = some x:=⟨l.h[j],by simp [c]⟩;obtain ⟨Z,W⟩:=(a j x G).below A U;have D:Hid (ZbF E l.got l.h=(decide (z < x.n) && (decide (x.n < E) && ZbF E x.n (l.h.drop (j+1))))):=by unfold Hid;rw [B.out,Zen G]
    clear a B G;have d:=A.alloc A.size (Obj.cells #[.int .i64 x.n,.string x.s] 109)
    by_cases T:x.n <= z
    ·go_wp2
     go_ret;exact ⟨retB (by rw [<- C.out,D.out,decide_eq_false (p:=z < x.n) (by omega)];rfl),d⟩
    ·by_cases P:E <= x.n
     ·go_wp2
      go_ret;exact ⟨retB (by rw [<- C.out,D.out,decide_eq_false (p:=x.n < E) (by omega),Bool.false_and,Bool.and_false]),d⟩
     ·go_wp2
      go_roundw
      case rel=>exact ⟨j+1,x.n,by omega,by go_num,rfl,by unfold Hid;rw [D.out,decide_eq_true (p:=z < x.n) (by omega),decide_eq_true (p:=x.n < E) (by omega),Bool.true_and,Bool.true_and],d⟩
      case measure=>simp [intOf];omega
   ·go_wp2
    go_ret;have:j=l.h.length:=by omega
    subst this;exact ⟨retB (by rw [<- C.out,B.out,Zfw]),A⟩
theorem ZbW (k m:Value)(l:Lk)(w:World)(o:StRow w k l.q)(p:PcRow w m l.h) :
  Calls prog 125 #[.agg #[.int .i64 l.sent,.int .i64 l.acked,k,.int .i64 l.got,m]] w fun e x=>e=.returned (.bool (Za4 l))/\Below w.heap.size w x:=by
 obtain ⟨i,c1,rfl⟩:=o.small;obtain ⟨v,c2,rfl⟩:=p.small;have y:=o.le;have a:Below w.heap.size w (w.alloc (Obj.cells #[.int .i64 l.sent,.int .i64 l.acked,.slice i l.q.length c1,.int .i64 l.got,.slice v l.h.length c2] 107)):=(cj _ _).alloc (ce _) _
 by_cases s:0 <= l.acked
 rotate_left
 ·have b:Hid (Za4 l=false):=ZaU (by omega)
  go_enter func125,ntmps125
  go_wp2;go_ret;exact ⟨retB b.out.symm,a⟩
 by_cases t:l.acked <= l.got
 rotate_left
 ·have b:Hid (Za4 l=false):=ZaU (by omega)
  go_enter func125,ntmps125
  go_wp2;go_ret;exact ⟨retB b.out.symm,a⟩
 by_cases n:l.got <= l.sent
 rotate_left
 ·have b:Hid (Za4 l=false):=ZaU (by omega)
  go_enter func125,ntmps125
  go_wp2;go_ret;exact ⟨retB b.out.symm,a⟩
 by_cases j:l.sent <= 100000
 rotate_left
 ·have b:Hid (Za4 l=false):=ZaU (by omega)
  go_enter func125,ntmps125
  go_wp2;go_ret;exact ⟨retB b.out.symm,a⟩
 by_cases c:(l.q.length:Int)=l.sent - l.acked
 rotate_left
 ·have b:Hid (Za4 l=false):=ZaU (by omega)
  have c5:((l.q.length:Int) == l.sent - l.acked)=false:=by simpa using c
  go_enter func125,ntmps125
  go_wp2;go_ret;exact ⟨retB b.out.symm,a⟩
 have c5:((l.q.length:Int) == l.sent - l.acked)=true:=by simpa using c
 by_cases u:l.q.length <= 30
 rotate_left
 ·have b:Hid (Za4 l=false):=ZaU (by omega)
  have f:¬ (l.q.length:Int) <= 30:=by omega
  have z:Hid ((l.q.length:Int)=l.sent - l.acked):=c;clear c
  go_enter func125,ntmps125
  go_wp2;go_ret;exact ⟨retB b.out.symm,a⟩
 have b:Hid (Za4 l=ZbF (lend l) l.got l.h):=Zeh ⟨s,t,n,j,c,u⟩;have f:(l.q.length:Int) <= 30:=by omega
 clear c
 go_enter func125,ntmps125
 go_wp2_with fail;refine (Ze4 _ _ l _ (by omega) n j i l.q.length c1 rfl (p.below a)).mono ?_;rintro e A ⟨rfl,d⟩;have g:=a.trans (d.mono a.size);generalize ZbF (lend l) l.got l.h=r at *;clear d a;cases r
 all_goals
  go_wp2;go_ret;exact ⟨retB b.out.symm,g⟩
theorem Zjn (l:Lk)(w:World):Calls prog 147 #[.int .i64 (l.got+4),.int .i64 l.sent] w fun e a=>e=.returned (.int .i64 (lend l))/\a=w:=by
 refine (Zln _ _ _).mono ?_;rintro e a ⟨rfl,rfl⟩;refine ⟨?_,rfl⟩;have:min (l.got+4) l.sent=lend l:=by unfold lend;split <;> omega
 rw [this]
theorem Zde (x a b:Int)(r:Bool)(h:(decide (a <= x) && decide (x <= b))=r)(w:World):Calls prog 75 #[.int .i64 x,.int .i64 a,.int .i64 b] w fun e c=>e=.returned (.bool r)/\c=w:=by
 rw [<- h];exact Zas x a b w
theorem ZhD {x a b:Int}(h:a <= x/\x <= b):(decide (a <= x) && decide (x <= b))=true:=by simp [h.1,h.2]
theorem Zlc {x a b:Int}(h:¬ (a <= x/\x <= b)):(decide (a <= x) && decide (x <= b))=false:=by
 rw [Bool.eq_false_iff];intro e;simp only [Bool.and_eq_true,decide_eq_true_eq] at e;exact h e
theorem ZbV (v1 v2:Value)(l:Lk)(w:World)(R1:StRow w v1 l.q)(R2:PcRow w v2 l.h) :
  Calls prog 113 #[.agg #[.int .i64 l.sent,.int .i64 l.acked,v1,.int .i64 l.got,v2]] w fun e w'=>e=.returned (.bool (Za4 l))/\Below w.heap.size w w':=by
 obtain ⟨a1,c1,rfl⟩:=R1.small;have hq:=R1.le;obtain ⟨a2,c2,rfl,aj,hm,hz,a⟩:=R2;have d:Below w.heap.size w (w.alloc (Obj.cells #[.int .i64 l.sent,.int .i64 l.acked,.slice a1 l.q.length c1,.int .i64 l.got,.slice a2 l.h.length c2] 107)):=(cj _ _).alloc (ce _) _
 by_cases F:0 <= l.sent/\l.sent <= 100000
 rotate_left
 ·have c:Hid (Za4 l=false):=ZaU (by omega)
  have y:=Zde l.sent 0 100000 false (Zlc F)
  go_enter func113,ntmps113
  go_wp2_with fail;refine (y _).mono ?_;rintro e f ⟨rfl,rfl⟩;go_wp2;go_ret;exact ⟨retB c.out.symm,d⟩
 have y:=Zde l.sent 0 100000 true (ZhD F)
 by_cases H:0 <= l.got/\l.got <= l.sent
 rotate_left
 ·have c:Hid (Za4 l=false):=ZaU (by omega)
  have D:=Zde l.got 0 l.sent false (Zlc H)
  go_enter func113,ntmps113
  go_wp2_with fail;refine (y _).mono ?_;rintro e f ⟨rfl,rfl⟩;go_wp2_with fail;refine (D _).mono ?_;rintro e f ⟨rfl,rfl⟩;go_wp2;go_ret;exact ⟨retB c.out.symm,d⟩
 have D:=Zde l.got 0 l.sent true (ZhD H)
 by_cases C:0 <= l.acked/\l.acked <= l.got
 rotate_left
 ·have c:Hid (Za4 l=false):=ZaU (by omega)
  have G:=Zde l.acked 0 l.got false (Zlc C)
  go_enter func113,ntmps113
  go_wp2_with fail;refine (y _).mono ?_;rintro e f ⟨rfl,rfl⟩;go_wp2_with fail;refine (D _).mono ?_;rintro e f ⟨rfl,rfl⟩;go_wp2_with fail;refine (G _).mono ?_;rintro e f ⟨rfl,rfl⟩;go_wp2;go_ret;exact ⟨retB c.out.symm,d⟩
 have G:=Zde l.acked 0 l.got true (ZhD C)
 by_cases M:(l.q.length:Int)=l.sent - l.acked
 rotate_left
 ·have c:Hid (Za4 l=false):=ZaU (by omega)
  have c5:((l.q.length:Int) != l.sent - l.acked)=true:=by simpa using M
  go_enter func113,ntmps113
  go_wp2_with fail;refine (y _).mono ?_;rintro e f ⟨rfl,rfl⟩;go_wp2_with fail;refine (D _).mono ?_;rintro e f ⟨rfl,rfl⟩;go_wp2_with fail;refine (G _).mono ?_;rintro e f ⟨rfl,rfl⟩;obtain ⟨W,R⟩:=F;obtain ⟨N,S⟩:=H;obtain ⟨Y,X⟩:=C;go_wp2;go_ret;exact ⟨retB c.out.symm,d⟩
 have c5:((l.q.length:Int) != l.sent - l.acked)=false:=by simpa using M
 by_cases i6:l.q.length <= 30
 rotate_left
 ·have c:Hid (Za4 l=false):=ZaU (by omega)
  have ae:30 < (l.q.length:Int):=by omega
  clear M
  go_enter func113,ntmps113
  go_wp2_with fail;refine (y _).mono ?_;rintro e f ⟨rfl,rfl⟩;go_wp2_with fail;refine (D _).mono ?_;rintro e f ⟨rfl,rfl⟩;go_wp2_with fail;refine (G _).mono ?_;rintro e f ⟨rfl,rfl⟩;obtain ⟨W,R⟩:=F;obtain ⟨N,S⟩:=H;obtain ⟨Y,X⟩:=C;go_wp2;go_ret;exact ⟨retB c.out.symm,d⟩
 have c:Hid (Za4 l=ZbF (lend l) l.got l.h):=Zeh ⟨C.1,C.2,H.2,F.2,M,i6⟩;have ae:¬ 30 < (l.q.length:Int):=by omega
 clear M;obtain ⟨W,R⟩:=F;obtain ⟨N,S⟩:=H;obtain ⟨Y,X⟩:=C;have J:=Zjn l;have hE:0 <= lend l/\lend l <= 100000:=by unfold lend;split <;> omega
 obtain ⟨r,hr⟩:∃ r,Za4 l=r:=⟨_,rfl⟩;rw [hr];rw [hr] at c;clear hr;generalize lend l=E at J c hE;obtain ⟨al,ao⟩:=hE;have W1:IntKind.i64.wrap (l.got+4)=l.got+4:=by rw [IntKind.wrap_i64];omega
 have W2:IntKind.i64.wrap (l.got+1)=l.got+1:=by rw [IntKind.wrap_i64];omega
 have W3:IntKind.i64.wrap (E - 1)=E - 1:=by rw [IntKind.wrap_i64];omega
 go_enter func113,ntmps113
 go_wp2_with fail;refine (y _).mono ?_;rintro e f ⟨rfl,rfl⟩;go_wp2_with fail;refine (D _).mono ?_;rintro e f ⟨rfl,rfl⟩;go_wp2_with fail;refine (G _).mono ?_;rintro e f ⟨rfl,rfl⟩;have s:=co w (Obj.cells #[.int .i64 l.sent,.int .i64 l.acked,.slice a1 l.q.length c1,.int .i64 l.got,.slice a2 l.h.length c2] 107);generalize K:w.alloc (Obj.cells #[.int .i64 l.sent,.int .i64 l.acked,.slice a1 l.q.length c1,.int .i64 l.got,.slice a2 l.h.length c2] 107)=b at *;have T:b.cell? ⟨w.heap.size,0,none⟩=some (.int .i64 l.sent):=by rw [cd b _ 0 _ _ _ s];rfl
 have ac:b.cell? ⟨w.heap.size,0+1,none⟩=some (.int .i64 l.acked):=by rw [cd b _ 1 _ _ _ s];rfl
 have ad:b.cell? ⟨w.heap.size,0+2,none⟩=some (.slice a1 l.q.length c1):=by rw [cd b _ 2 _ _ _ s];rfl
 have aa:b.cell? ⟨w.heap.size,0+3,none⟩=some (.int .i64 l.got):=by rw [cd b _ 3 _ _ _ s];rfl
 have Z:b.cell? ⟨w.heap.size,0+4,none⟩=some (.slice a2 l.h.length c2):=by rw [cd b _ 4 _ _ _ s];rfl
 have HW:Hid (b.heap.size=w.heap.size+1):=by unfold Hid;rw [<- K];simp
 clear s K y D G;go_wp2
 go_loopw [3] (fun i wr=>∃ (j:Nat) (z:Int),j <= l.h.length/\i=.int .i64 j/\l.got <= z/\(j=0 -> z=l.got)/\Hid (∀ k,j=k+1 -> ∃ x,l.h[k]? = some x/\x.n=z)/\Hid (ZbF E l.got l.h=ZbF E z (l.h.drop j))/\Below b.heap.size b wr) (fun i _=>l.h.length - (intOf i).toNat)
 case atStart=>exact ⟨0,l.got,by omega,rfl,by omega,fun _=>rfl,fun k e=>by omega,rfl,cj _ _⟩
 case round =>
  obtain ⟨j,z,hj,rfl,ap,A,HJ,V,t⟩:=hrel;have u:w.heap.size < b.heap.size:=by have:=HW.out;omega
  have v:Below w.heap.size w wr:=d.trans (t.mono d.size);replace T:=(t.cell (p:=⟨w.heap.size,0,none⟩) u).trans T;replace aa:=(t.cell (p:=⟨w.heap.size,0+3,none⟩) u).trans aa;replace Z:=(t.cell (p:=⟨w.heap.size,0+4,none⟩) u).trans Z;clear ac ad;have dn:∀ m,Below b.heap.size b (wr.drewN m):=fun m=>t.trans ⟨rfl,rfl,rfl,ce _,fun _ _=>rfl⟩
  have dN:∀ m,Below w.heap.size w (wr.drewN m):=fun m=>v.trans ⟨rfl,rfl,rfl,ce _,fun _ _=>rfl⟩
  clear u
  by_cases B:j < l.h.length
  ·obtain ⟨g,o,rfl,hg,a⟩:=a (by intro e;rw [e] at B;simp at B)
   obtain ⟨x,I⟩:∃ x,l.h[j]? = some x:=⟨l.h[j],by simp [B]⟩;obtain ⟨k0,_⟩:=(a j x I).below v hg;have HC:Hid (ZbF E l.got l.h=(decide (z < x.n) && (decide (x.n < E) && ZbF E x.n (l.h.drop (j+1))))):=by unfold Hid;rw [V.out,Zen I]
   have HX:Hid (l.h[j]? = some x):=I
   by_cases U:l.got+1 <= x.n/\x.n <= E - 1
   ·have Q:=Zde x.n (l.got+1) (E - 1) true (ZhD U)
    by_cases ab:j=0
    ·have an:=A ab
     subst ab;clear a V I;simp only [Nat.zero_mul,Nat.add_zero] at k0;have g0:(decide ((0:Int) < 0))=false:=by decide
     go_wp2
     go_quiet (first | (go_at_call 147;refine Calls.quiet_of_same (J _)) | (go_at_call 75;refine Calls.quiet_of_same (Q _)))
     go_wp2
     go_roundw
     case rel=>exact ⟨1,x.n,by omega,by go_num,by omega,fun e=>by omega,fun k e=>⟨x,by rw [<- HX.out];congr 1;omega,rfl⟩,by unfold Hid;rw [HC.out,decide_eq_true (p:=z < x.n) (by omega),decide_eq_true (p:=x.n < E) (by omega),Bool.true_and,Bool.true_and],dn _⟩
     case measure=>simp [intOf];omega
    ·obtain ⟨k,P⟩:∃ k,j=k+1:=⟨j - 1,by omega⟩
     obtain ⟨x',L,O⟩:=HJ.out k P;obtain ⟨d0,_⟩:=(a k x' L).below v hg;rw [O] at d0;have ai:(j:Int) - 1=(k:Int):=by omega
     have am:k < l.h.length:=by omega
     have af:(0:Int) < (j:Int):=by omega
     have aq:decide ((0:Int) < (j:Int))=true:=by simpa using af
     have ak:0 < j:=by omega
     have W4:IntKind.i64.wrap ((j:Int) - 1)=(k:Int):=by rw [ai,IntKind.wrap_i64];omega
     clear a V I HJ A L O P
     by_cases ah:x.n <= z
     ·go_wp2
      go_quiet (first | (go_at_call 147;refine Calls.quiet_of_same (J _)) | (go_at_call 75;refine Calls.quiet_of_same (Q _)))
      go_wp2;go_ret;exact ⟨retB (by rw [c.out,HC.out,decide_eq_false (p:=z < x.n) (by omega)];rfl),dN _⟩
     ·go_wp2
      go_quiet (first | (go_at_call 147;refine Calls.quiet_of_same (J _)) | (go_at_call 75;refine Calls.quiet_of_same (Q _)))
      go_wp2
      go_roundw
      case rel=>exact ⟨j+1,x.n,by omega,by go_num,by omega,fun e=>by omega,fun k e=>⟨x,by rw [<- HX.out];congr 1;omega,rfl⟩,by unfold Hid;rw [HC.out,decide_eq_true (p:=z < x.n) (by omega),decide_eq_true (p:=x.n < E) (by omega),Bool.true_and,Bool.true_and],dn _⟩
      case measure=>simp [intOf];omega
   ·have Q:=Zde x.n (l.got+1) (E - 1) false (Zlc U)
    clear a V I HJ A;go_wp2
    go_quiet (first | (go_at_call 147;refine Calls.quiet_of_same (J _)) | (go_at_call 75;refine Calls.quiet_of_same (Q _)))
    go_wp2;go_ret;refine ⟨retB ?_,dN _⟩;rw [c.out,HC.out]
    by_cases ag:z < x.n
    ·rw [decide_eq_false (p:=x.n < E) (by omega),Bool.false_and,Bool.and_false]
    ·rw [decide_eq_false ag,Bool.false_and]
  ·go_wp2
   go_ret;have:j=l.h.length:=by omega
   subst this;exact ⟨retB (by rw [c.out,V.out,Zfw]),v⟩
def lkB (ga tk:List (List ByteArray))(p:Lk × Nat):Bool:=Za4 p.1 && (decide (((ga.getD p.2 []).length:Int)=p.1.sent) && decide (((tk.getD p.2 []).length:Int)=p.1.got))
def lksB (d:Wd):Bool:=(decide ((d.ls.length:Int)=d.pl * d.pl) && (decide ((d.ga.length:Int)=d.pl * d.pl) && decide ((d.tk.length:Int)=d.pl * d.pl))) && d.ls.zipIdx.all (lkB d.ga d.tk)
theorem Zjd {α:Type}{a:List α}{k:Nat}{x:α}(h:a[k]? = some x):a.zipIdx[k]? = some (x,k):=by
 rw [List.getElem?_zipIdx,h];simp
theorem ZjD {α:Type}(a:List α):a.zipIdx.length=a.length:=by simp
theorem Zfv (vn vi vf vh vl vg vp va vt:Value)(d:Wd)(B:Nat)(w:World)(R:WR B w vn vi vf vh vl vg vp va vt d)(aG:1 <= d.pl)(aD:d.pl <= 3) :
  Calls prog 91 #[.agg #[vn,vi,vf,.int .i64 d.pl,vh,vl,vg,vp,.int .i64 d.nx,va,vt]] w fun e w'=>e=.returned (.bool (lksB d))/\Below w.heap.size w w':=by
 have R0:=R;obtain ⟨⟨z,E,rfl⟩,⟨n,F,rfl⟩,⟨H,v,rfl⟩,⟨t,s,rfl⟩,⟨Y,C,rfl⟩,⟨G,u,rfl⟩,⟨o,D,rfl⟩,⟨Z,y,rfl⟩,⟨V,A,rfl⟩⟩:=R.form;have P:=Zap w (Obj.cells #[.slice z d.ns.length E,.slice n d.is.length F,.slice H d.ds.length v,.int .i64 d.pl,.slice t d.hs.length s,.slice Y d.ls.length C,.slice G d.gs.length u,.slice o d.ps.length D,.int .i64 d.nx,.slice Z d.ga.length y,.slice V d.tk.length A] 50);have af:=co w (Obj.cells #[.slice z d.ns.length E,.slice n d.is.length F,.slice H d.ds.length v,.int .i64 d.pl,.slice t d.hs.length s,.slice Y d.ls.length C,.slice G d.gs.length u,.slice o d.ps.length D,.int .i64 d.nx,.slice Z d.ga.length y,.slice V d.tk.length A] 50)
 obtain ⟨q,hq⟩:∃ q:Nat,(q:Int)=d.pl * d.pl:=by
  have K:d.pl=1 \/ d.pl=2 \/ d.pl=3:=by omega
  rcases K with h | h | h
  ·exact ⟨1,by rw [h];rfl⟩
  ·exact ⟨4,by rw [h];rfl⟩
  ·exact ⟨9,by rw [h];rfl⟩
 have aB:q <= 9:=by
  have K:d.pl=1 \/ d.pl=2 \/ d.pl=3:=by omega
  rcases K with h | h | h <;> rw [h] at hq <;> omega
 have ar:d.pl * d.pl=(q:Int):=hq.symm;have HL:Hid (lksB d=((decide ((d.ls.length:Int)=(q:Int)) && (decide ((d.ga.length:Int)=(q:Int)) && decide ((d.tk.length:Int)=(q:Int)))) && d.ls.zipIdx.all (lkB d.ga d.tk))):=by unfold Hid lksB;rw [ar]
 clear hq;have c3:(w.alloc (Obj.cells #[.slice z d.ns.length E,.slice n d.is.length F,.slice H d.ds.length v,.int .i64 d.pl,.slice t d.hs.length s,.slice Y d.ls.length C,.slice G d.gs.length u,.slice o d.ps.length D,.int .i64 d.nx,.slice Z d.ga.length y,.slice V d.tk.length A] 50)).cell? ⟨w.heap.size,0+3,none⟩=some (.int .i64 d.pl):=cd _ _ 3 _ _ _ af
 go_enter func91,ntmps91
 by_cases J:d.ls.length=q
 ·by_cases Q:d.ga.length=q
  ·by_cases K:d.tk.length=q
   ·have S:Hid (lksB d=d.ls.zipIdx.all (lkB d.ga d.tk)):=by unfold Hid;rw [HL.out];simp [J,Q,K]
    have n1:((d.ls.length:Int) != (q:Int))=false:=by simp [J]
    have n2:((d.ga.length:Int) != (q:Int))=false:=by simp [Q]
    have n3:((d.tk.length:Int) != (q:Int))=false:=by simp [K]
    replace J:Hid (d.ls.length=q):=J;replace Q:Hid (d.ga.length=q):=Q;replace K:Hid (d.tk.length=q):=K;clear HL;go_wp2_with fail;generalize w.alloc (Obj.cells #[.slice z d.ns.length E,.slice n d.is.length F,.slice H d.ds.length v,.int .i64 d.pl,.slice t d.hs.length s,.slice Y d.ls.length C,.slice G d.gs.length u,.slice o d.ps.length D,.int .i64 d.nx,.slice Z d.ga.length y,.slice V d.tk.length A] 50)=w0 at *;have aF:=Zao af;obtain ⟨aA,az,ak,_,_,f⟩:=R0.rl;obtain ⟨aI,aw,ah,_,_,b⟩:=R0.ra;obtain ⟨aC,ay,ap,_,_,c⟩:=R0.rt;simp only [Value.slice.injEq] at ak ah ap;obtain ⟨rfl,_,rfl⟩:=ak;obtain ⟨rfl,_,rfl⟩:=ah;obtain ⟨rfl,_,rfl⟩:=ap
    go_loopw [33] (fun i wr=>∃ k:Nat,k <= q/\i=.int .i64 k/\Hid ((d.ls.zipIdx.take k).all (lkB d.ga d.tk)=true)/\Below w0.heap.size w0 wr) (fun i _=>q - (intOf i).toNat)
    case atStart=>exact ⟨0,by omega,rfl,by simp [Hid],cj _ _⟩
    case round =>
     obtain ⟨k,hk,rfl,HK,hb⟩:=hrel;have U:=P.trans (hb.mono P.size);have hx:=Zaa af hb
     by_cases I:k < q
     ·have aH:k < d.ls.length:=by rw [J.out];exact I
      have T:k < d.ga.length:=by rw [Q.out];exact I
      have X:k < d.tk.length:=by rw [K.out];exact I
      obtain ⟨gl,ol,rfl,_,an,f⟩:=f (by intro e;have hh:=J.out;rw [e] at hh;simp at hh;omega);obtain ⟨ga,oa,rfl,_,al,b⟩:=b (by intro e;have hh:=Q.out;rw [e] at hh;simp at hh;omega);obtain ⟨gt,ot,rfl,_,aq,c⟩:=c (by intro e;have hh:=K.out;rw [e] at hh;simp at hh;omega);obtain ⟨l,hl⟩:∃ x,d.ls[k]? = some x:=⟨d.ls[k]'(by rw [J.out];exact I),List.getElem?_eq_getElem _⟩;obtain ⟨ta,ae⟩:∃ x,d.ga[k]? = some x:=⟨d.ga[k]'(by rw [Q.out];exact I),List.getElem?_eq_getElem _⟩;obtain ⟨tt,ad⟩:∃ x,d.tk[k]? = some x:=⟨d.tk[k]'(by rw [K.out];exact I),List.getElem?_eq_getElem _⟩;obtain ⟨cs,av,hr,vq,vh,hc,L1,L2,_,_⟩:=f k l hl;obtain ⟨ca,_,ag,ua,rfl,A1,_⟩:=b k ta ae;obtain ⟨ct,_,ao,ut,rfl,T1,_⟩:=c k tt ad;obtain ⟨pq,qq,rfl⟩:=L1.small;obtain ⟨ph,qh,rfl⟩:=L2.small;obtain ⟨pa,qa,rfl⟩:=A1.small
      obtain ⟨pt,qt,rfl⟩:=T1.small;obtain rfl:cs=(#[.int .i64 l.sent,.int .i64 l.acked,.slice pq l.q.length qq,.int .i64 l.got,.slice ph l.h.length qh]:Array Value).toList:=congrArg Array.toList hc;have HZ:Hid (d.ls.zipIdx[k]? = some (l,k)):=Zjd hl
      have r:Hid (lkB d.ga d.tk (l,k)=(Za4 l && (decide ((ta.length:Int)=l.sent) && decide ((tt.length:Int)=l.got)))):=by
       unfold Hid lkB;simp [List.getD_eq_getElem?_getD,ae,ad]
      have ax:=cy an U.size;have am:=cy al U.size;have aj:=cy aq U.size;replace hr:=Zaf hr U an;have ka:=ZaT (Zaf ag U al);have kt:=ZaT (Zaf ao U aq);rw [Nat.mul_one] at ka kt;clear f b c hl ae ad hc av ag ao;have m:=Zap wr (Obj.cells #[.int .i64 l.sent,.int .i64 l.acked,.slice pq l.q.length qq,.int .i64 l.got,.slice ph l.h.length qh] 107);have M:(wr.alloc (Obj.cells #[.int .i64 l.sent,.int .i64 l.acked,.slice pq l.q.length qq,.int .i64 l.got,.slice ph l.h.length qh] 107)).heap[wr.heap.size]? = some (Obj.cells #[.int .i64 l.sent,.int .i64 l.acked,.slice pq l.q.length qq,.int .i64 l.got,.slice ph l.h.length qh] 107):=co _ _;have L:=Zaa hx m;have a:=U.trans (m.mono U.size);have ac:=hb.trans (m.mono hb.size);have N:=(m.cell (p:=⟨ga,oa+k,none⟩) am).trans ka;have O:=(m.cell (p:=⟨gt,ot+k,none⟩) aj).trans kt;have au:=m.size
      obtain ⟨W3,ai⟩:∃ W3,Hid (wr.alloc (Obj.cells #[.int .i64 l.sent,.int .i64 l.acked,.slice pq l.q.length qq,.int .i64 l.got,.slice ph l.h.length qh] 107)=W3):=⟨_,rfl⟩
      go_wp2_with (refine wpList_load_mid rfl 107 _ rfl gl (ol+k * 5) rfl _ _ hr underlying107 rfl (by kernel_rfl) ?_)
      rw [ai.out] at m M L a ac N O au ⊢;clear ai hr m ka kt;cases j:Za4 l with
      | false =>
       have HF:lkB d.ga d.tk (l,k)=false:=by rw [r.out,j];rfl
       refine ZlX w.heap.size wr.heap.size ga oa gt ot k ta.length tt.length pa pt qa qt z n H t (some ⟨gl,ol,none⟩) G o E F v s C u D y A d l _ _ W3 _ L M (by omega) (by omega) N O T X (fun W g=>by have h:=ZbW _ _ l W (L1.below (a.trans (g.mono a.size))) (L2.below (a.trans (g.mono a.size)));rw [j] at h;exact h) ?_;intro u38 u39 u40 u41 u42 u43 u44 u45 u46 u47 u48 u49 u50 u51 u52 u53 u54 u55 u56 u57 u58 u59 u60 u61 W g;have HR:Hid (d.ls.zipIdx.all (lkB d.ga d.tk)=false):=Zay HZ.out HF;clear HK HZ r;go_wp2;go_ret;exact ⟨by rw [S.out,HR.out];rfl,a.trans (g.mono a.size)⟩
      | true =>
       cases e1:((ta.length:Int) != l.sent) with
       | true =>
        have HF:lkB d.ga d.tk (l,k)=false:=by rw [r.out,j];simp at e1;simp [e1]
        refine Zmm w.heap.size wr.heap.size ga oa gt ot k ta.length tt.length pa pt qa qt z n H t (some ⟨gl,ol,none⟩) G o E F v s C u D y A d l _ _ W3 _ L M (by omega) (by omega) N O T X (fun W g=>by have h:=ZbW _ _ l W (L1.below (a.trans (g.mono a.size))) (L2.below (a.trans (g.mono a.size)));rw [j] at h;exact h) e1 ?_;intro u38 u39 u40 u41 u42 u43 u44 u45 u46 u47 u48 u49 u50 u51 u52 u53 u54 u55 u56 u57 u58 u59 u60 u61 W g;have HR:Hid (d.ls.zipIdx.all (lkB d.ga d.tk)=false):=Zay HZ.out HF;clear HK HZ r;go_wp2;go_ret;exact ⟨by rw [S.out,HR.out];rfl,a.trans (g.mono a.size)⟩
       | false =>
        cases e2:((tt.length:Int) != l.got) with
        | true =>
         have HF:lkB d.ga d.tk (l,k)=false:=by rw [r.out,j];simp at e2;simp [e2]
         refine Zkn w.heap.size wr.heap.size ga oa gt ot k ta.length tt.length pa pt qa qt z n H t (some ⟨gl,ol,none⟩) G o E F v s C u D y A d l _ _ W3 _ L M (by omega) (by omega) N O T X (fun W g=>by have h:=ZbW _ _ l W (L1.below (a.trans (g.mono a.size))) (L2.below (a.trans (g.mono a.size)));rw [j] at h;exact h) true e1 e2 ?_;intro u38 u39 u40 u41 u42 u43 u44 u45 u46 u47 u48 u49 u50 u51 u52 u53 u54 u55 u56 u57 u58 u59 u60 u61 W g;have HR:Hid (d.ls.zipIdx.all (lkB d.ga d.tk)=false):=Zay HZ.out HF;clear HK HZ r;go_wp2;go_ret;exact ⟨by rw [S.out,HR.out];rfl,a.trans (g.mono a.size)⟩
        | false =>
         have HF:lkB d.ga d.tk (l,k)=true:=by rw [r.out,j];simp at e1 e2;simp [e1,e2]
         refine Zkn w.heap.size wr.heap.size ga oa gt ot k ta.length tt.length pa pt qa qt z n H t (some ⟨gl,ol,none⟩) G o E F v s C u D y A d l _ _ W3 _ L M (by omega) (by omega) N O T X (fun W g=>by have h:=ZbW _ _ l W (L1.below (a.trans (g.mono a.size))) (L2.below (a.trans (g.mono a.size)));rw [j] at h;exact h) false e1 e2 ?_;intro u38 u39 u40 u41 u42 u43 u44 u45 u46 u47 u48 u49 u50 u51 u52 u53 u54 u55 u56 u57 u58 u59 u60 u61 W g;have aa:Hid ((d.ls.zipIdx.take (k+1)).all (lkB d.ga d.tk)=true):=Zbb HK.out HZ.out HF;have ab:=ac.trans (g.mono ac.size);clear HK HZ r;go_wp2
         go_roundw
         case rel=>first | exact ⟨k+1,by omega,by go_num,aa,ab⟩ | exact ⟨_,⟨k+1,by omega,by go_num,aa,ab⟩,rfl⟩ | exact ⟨_,_,⟨k+1,by omega,by go_num,aa,ab⟩,rfl,rfl⟩
         case measure=>simp [intOf];omega
     ·have HR:Hid (d.ls.zipIdx.all (lkB d.ga d.tk)=true):=ZbI HK.out (by rw [ZjD,J.out];omega)
      have aE:¬ k < d.ls.length:=by rw [J.out];exact I
      clear HK f b c;go_wp2;go_ret;exact ⟨by rw [S.out,HR.out];rfl,U⟩
   ·have S:Hid (lksB d=false):=by unfold Hid;rw [HL.out];simp [show ¬ ((d.tk.length:Int)=(q:Int)) by omega]
    have n1:((d.ls.length:Int) != (q:Int))=false:=by simp [J]
    have n2:((d.ga.length:Int) != (q:Int))=false:=by simp [Q]
    have n3:((d.tk.length:Int) != (q:Int))=true:=by simp;omega
    clear HL J Q K;go_wp2;go_ret;exact ⟨by rw [S.out];rfl,P⟩
  ·have S:Hid (lksB d=false):=by unfold Hid;rw [HL.out];simp [show ¬ ((d.ga.length:Int)=(q:Int)) by omega]
   have n1:((d.ls.length:Int) != (q:Int))=false:=by simp [J]
   have n2:((d.ga.length:Int) != (q:Int))=true:=by simp;omega
   clear HL J Q;go_wp2;go_ret;exact ⟨by rw [S.out];rfl,P⟩
 ·have S:Hid (lksB d=false):=by unfold Hid;rw [HL.out];simp [show ¬ ((d.ls.length:Int)=(q:Int)) by omega]
  have n1:((d.ls.length:Int) != (q:Int))=true:=by simp;omega
  clear HL J;go_wp2;go_ret;exact ⟨by rw [S.out];rfl,P⟩
theorem Zgj (vn vi vf vh vl vg vp va vt:Value)(d:Wd)(B:Nat)(w:World)(R:WR B w vn vi vf vh vl vg vp va vt d)(aB:1 <= d.pl)(ay:d.pl <= 3) :
  Calls prog 78 #[.agg #[vn,vi,vf,.int .i64 d.pl,vh,vl,vg,vp,.int .i64 d.nx,va,vt]] w fun e w'=>e=.returned (.bool (lksB d))/\Below w.heap.size w w':=by
 have R0:=R;obtain ⟨⟨v,C,rfl⟩,⟨m,D,rfl⟩,⟨F,t,rfl⟩,⟨r,p,rfl⟩,⟨U,z,rfl⟩,⟨E,s,rfl⟩,⟨n,A,rfl⟩,⟨V,u,rfl⟩,⟨Q,y,rfl⟩⟩:=R.form;have M:=Zap w (Obj.cells #[.slice v d.ns.length C,.slice m d.is.length D,.slice F d.ds.length t,.int .i64 d.pl,.slice r d.hs.length p,.slice U d.ls.length z,.slice E d.gs.length s,.slice n d.ps.length A,.int .i64 d.nx,.slice V d.ga.length u,.slice Q d.tk.length y] 50);have ae:=co w (Obj.cells #[.slice v d.ns.length C,.slice m d.is.length D,.slice F d.ds.length t,.int .i64 d.pl,.slice r d.hs.length p,.slice U d.ls.length z,.slice E d.gs.length s,.slice n d.ps.length A,.int .i64 d.nx,.slice V d.ga.length u,.slice Q d.tk.length y] 50)
 obtain ⟨q,hq⟩:∃ q:Nat,(q:Int)=d.pl * d.pl:=by
  have L:d.pl=1 \/ d.pl=2 \/ d.pl=3:=by omega
  rcases L with h | h | h
  ·exact ⟨1,by rw [h];rfl⟩
  ·exact ⟨4,by rw [h];rfl⟩
  ·exact ⟨9,by rw [h];rfl⟩
 have aw:q <= 9:=by
  have L:d.pl=1 \/ d.pl=2 \/ d.pl=3:=by omega
  rcases L with h | h | h <;> rw [h] at hq <;> omega
 have ao:d.pl * d.pl=(q:Int):=hq.symm;have HL:Hid (lksB d=((decide ((d.ls.length:Int)=(q:Int)) && (decide ((d.ga.length:Int)=(q:Int)) && decide ((d.tk.length:Int)=(q:Int)))) && d.ls.zipIdx.all (lkB d.ga d.tk))):=by unfold Hid lksB;rw [ao]
 clear hq;have c3:(w.alloc (Obj.cells #[.slice v d.ns.length C,.slice m d.is.length D,.slice F d.ds.length t,.int .i64 d.pl,.slice r d.hs.length p,.slice U d.ls.length z,.slice E d.gs.length s,.slice n d.ps.length A,.int .i64 d.nx,.slice V d.ga.length u,.slice Q d.tk.length y] 50)).cell? ⟨w.heap.size,0+3,none⟩=some (.int .i64 d.pl):=cd _ _ 3 _ _ _ ae
 go_enter func78,ntmps78
 by_cases J:d.ls.length=q
 ·by_cases N:d.ga.length=q
  ·by_cases L:d.tk.length=q
   ·have O:Hid (lksB d=d.ls.zipIdx.all (lkB d.ga d.tk)):=by unfold Hid;rw [HL.out];simp [J,N,L]
    have n1:((d.ls.length:Int) != (q:Int))=false:=by simp [J]
    have n2:((d.ga.length:Int) != (q:Int))=false:=by simp [N]
    have n3:((d.tk.length:Int) != (q:Int))=false:=by simp [L]
    replace J:Hid (d.ls.length=q):=J;replace N:Hid (d.ga.length=q):=N;replace L:Hid (d.tk.length=q):=L;clear HL;go_wp2_with fail;generalize w.alloc (Obj.cells #[.slice v d.ns.length C,.slice m d.is.length D,.slice F d.ds.length t,.int .i64 d.pl,.slice r d.hs.length p,.slice U d.ls.length z,.slice E d.gs.length s,.slice n d.ps.length A,.int .i64 d.nx,.slice V d.ga.length u,.slice Q d.tk.length y] 50)=w0 at *;have aA:=Zao ae;obtain ⟨av,au,ah,_,_,f⟩:=R0.rl;obtain ⟨aC,aq,ag,_,_,b⟩:=R0.ra;obtain ⟨ax,ar,am,_,_,c⟩:=R0.rt;simp only [Value.slice.injEq] at ah ag am;obtain ⟨rfl,_,rfl⟩:=ah;obtain ⟨rfl,_,rfl⟩:=ag;obtain ⟨rfl,_,rfl⟩:=am
    go_loopw [4] (fun i wr=>∃ k:Nat,k <= q/\i=.int .i64 k/\Hid ((d.ls.zipIdx.take k).all (lkB d.ga d.tk)=true)/\Below w0.heap.size w0 wr) (fun i _=>q - (intOf i).toNat)
    case atStart=>exact ⟨0,by omega,rfl,by simp [Hid],cj _ _⟩
    case round =>
     obtain ⟨k,hk,rfl,HK,hb⟩:=hrel;have X:=M.trans (hb.mono M.size);have hx:=Zaa ae hb
     by_cases G:k < q
     ·have T:k < d.ls.length:=by rw [J.out];exact G
      have P:k < d.ga.length:=by rw [N.out];exact G
      have S:k < d.tk.length:=by rw [L.out];exact G
      obtain ⟨gl,ol,rfl,_,ak,f⟩:=f (by intro e;have Y:=J.out;rw [e] at Y;simp at Y;omega);obtain ⟨ga,oa,rfl,_,aj,b⟩:=b (by intro e;have Y:=N.out;rw [e] at Y;simp at Y;omega);obtain ⟨gt,ot,rfl,_,an,c⟩:=c (by intro e;have Y:=L.out;rw [e] at Y;simp at Y;omega);obtain ⟨l,hl⟩:∃ x,d.ls[k]? = some x:=⟨d.ls[k]'(by rw [J.out];exact G),List.getElem?_eq_getElem _⟩;obtain ⟨ta,ad⟩:∃ x,d.ga[k]? = some x:=⟨d.ga[k]'(by rw [N.out];exact G),List.getElem?_eq_getElem _⟩;obtain ⟨tt,ac⟩:∃ x,d.tk[k]? = some x:=⟨d.tk[k]'(by rw [L.out];exact G),List.getElem?_eq_getElem _⟩;obtain ⟨cs,ap,hr,vq,vh,hc,L1,L2,_,_⟩:=f k l hl;obtain ⟨ca,_,af,ua,rfl,A1,_⟩:=b k ta ad;obtain ⟨ct,_,al,ut,rfl,T1,_⟩:=c k tt ac;obtain ⟨pq,qq,rfl⟩:=L1.small;obtain ⟨ph,qh,rfl⟩:=L2.small;obtain ⟨pa,qa,rfl⟩:=A1.small
      obtain ⟨pt,qt,rfl⟩:=T1.small;obtain rfl:cs=(#[.int .i64 l.sent,.int .i64 l.acked,.slice pq l.q.length qq,.int .i64 l.got,.slice ph l.h.length qh]:Array Value).toList:=congrArg Array.toList hc;have Z:Hid (d.ls.zipIdx[k]? = some (l,k)):=Zjd hl
      have o:Hid (lkB d.ga d.tk (l,k)=(Za4 l && (decide ((ta.length:Int)=l.sent) && decide ((tt.length:Int)=l.got)))):=by
       unfold Hid lkB;simp [List.getD_eq_getElem?_getD,ad,ac]
      have I:=cy ak X.size;have K:=cy aj X.size;have H:=cy an X.size;replace hr:=Zaf hr X ak;have ka:=ZaT (Zaf af X aj);have kt:=ZaT (Zaf al X an);rw [Nat.mul_one] at ka kt;clear f b c hl ad ac hc ap af al;have ai:=hb;have a:=X;go_wp2_with fail;cases j:Za4 l with
      | false =>
       have HF:lkB d.ga d.tk (l,k)=false:=by rw [o.out,j];rfl
       refine ZkF w.heap.size gl ol ga oa gt ot k ta.length tt.length pa pt qa qt v m F r E n C D t p z s A u y d l _ _ wr _ hx hr I T K H ka kt P S (fun W g=>by have h:=ZbV _ _ l W (L1.below (a.trans (g.mono a.size))) (L2.below (a.trans (g.mono a.size)));rw [j] at h;exact h) ?_;intro u34 u35 u36 u37 u38 u39 u40 u41 u42 u43 u44 u45 u46 u47 u48 u49 u50 u51 u52 u53 u54 u55 u56 u57 u58 u59 u60 u61 u62 u63 u64 u65 u66 u67 u68 u69 W g;have HR:Hid (d.ls.zipIdx.all (lkB d.ga d.tk)=false):=Zay Z.out HF;clear HK Z o;go_wp2;go_ret;exact ⟨by rw [O.out,HR.out];rfl,a.trans (g.mono a.size)⟩
      | true =>
       cases e1:((ta.length:Int) != l.sent) with
       | true =>
        have HF:lkB d.ga d.tk (l,k)=false:=by rw [o.out,j];simp at e1;simp [e1]
        refine ZkM w.heap.size gl ol ga oa gt ot k ta.length tt.length pa pt qa qt v m F r E n C D t p z s A u y d l _ _ wr _ hx hr I T K H ka kt P S (fun W g=>by have h:=ZbV _ _ l W (L1.below (a.trans (g.mono a.size))) (L2.below (a.trans (g.mono a.size)));rw [j] at h;exact h) e1 ?_;intro u34 u35 u36 u37 u38 u39 u40 u41 u42 u43 u44 u45 u46 u47 u48 u49 u50 u51 u52 u53 u54 u55 u56 u57 u58 u59 u60 u61 u62 u63 u64 u65 u66 u67 u68 u69 W g;have HR:Hid (d.ls.zipIdx.all (lkB d.ga d.tk)=false):=Zay Z.out HF;clear HK Z o;go_wp2;go_ret;exact ⟨by rw [O.out,HR.out];rfl,a.trans (g.mono a.size)⟩
       | false =>
        cases e2:((tt.length:Int) != l.got) with
        | true =>
         have HF:lkB d.ga d.tk (l,k)=false:=by rw [o.out,j];simp at e2;simp [e2]
         refine Zhh w.heap.size gl ol ga oa gt ot k ta.length tt.length pa pt qa qt v m F r E n C D t p z s A u y d l _ _ wr _ hx hr I T K H ka kt P S (fun W g=>by have h:=ZbV _ _ l W (L1.below (a.trans (g.mono a.size))) (L2.below (a.trans (g.mono a.size)));rw [j] at h;exact h) true e1 e2 ?_;intro u34 u35 u36 u37 u38 u39 u40 u41 u42 u43 u44 u45 u46 u47 u48 u49 u50 u51 u52 u53 u54 u55 u56 u57 u58 u59 u60 u61 u62 u63 u64 u65 u66 u67 u68 u69 W g;have HR:Hid (d.ls.zipIdx.all (lkB d.ga d.tk)=false):=Zay Z.out HF;clear HK Z o;go_wp2;go_ret;exact ⟨by rw [O.out,HR.out];rfl,a.trans (g.mono a.size)⟩
        | false =>
         have HF:lkB d.ga d.tk (l,k)=true:=by rw [o.out,j];simp at e1 e2;simp [e1,e2]
         refine Zhh w.heap.size gl ol ga oa gt ot k ta.length tt.length pa pt qa qt v m F r E n C D t p z s A u y d l _ _ wr _ hx hr I T K H ka kt P S (fun W g=>by have h:=ZbV _ _ l W (L1.below (a.trans (g.mono a.size))) (L2.below (a.trans (g.mono a.size)));rw [j] at h;exact h) false e1 e2 ?_;intro u34 u35 u36 u37 u38 u39 u40 u41 u42 u43 u44 u45 u46 u47 u48 u49 u50 u51 u52 u53 u54 u55 u56 u57 u58 u59 u60 u61 u62 u63 u64 u65 u66 u67 u68 u69 W g;have aa:Hid ((d.ls.zipIdx.take (k+1)).all (lkB d.ga d.tk)=true):=Zbb HK.out Z.out HF;have ab:=ai.trans (g.mono ai.size);clear HK Z o;go_wp2
         go_roundw
         case rel=>first | exact ⟨k+1,by omega,by go_num,aa,ab⟩ | exact ⟨_,⟨k+1,by omega,by go_num,aa,ab⟩,rfl⟩ | exact ⟨_,_,⟨k+1,by omega,by go_num,aa,ab⟩,rfl,rfl⟩
         case measure=>simp [intOf];omega
     ·have HR:Hid (d.ls.zipIdx.all (lkB d.ga d.tk)=true):=ZbI HK.out (by rw [ZjD,J.out];omega)
      have az:¬ k < d.ls.length:=by rw [J.out];exact G
      clear HK f b c;go_wp2;go_ret;exact ⟨by rw [O.out,HR.out];rfl,X⟩
   ·have O:Hid (lksB d=false):=by unfold Hid;rw [HL.out];simp [show ¬ ((d.tk.length:Int)=(q:Int)) by omega]
    have n1:((d.ls.length:Int) != (q:Int))=false:=by simp [J]
    have n2:((d.ga.length:Int) != (q:Int))=false:=by simp [N]
    have n3:((d.tk.length:Int) != (q:Int))=true:=by simp;omega
    clear HL J N L;go_wp2;go_ret;exact ⟨by rw [O.out];rfl,M⟩
  ·have O:Hid (lksB d=false):=by unfold Hid;rw [HL.out];simp [show ¬ ((d.ga.length:Int)=(q:Int)) by omega]
   have n1:((d.ls.length:Int) != (q:Int))=false:=by simp [J]
   have n2:((d.ga.length:Int) != (q:Int))=true:=by simp;omega
   clear HL J N;go_wp2;go_ret;exact ⟨by rw [O.out];rfl,M⟩
 ·have O:Hid (lksB d=false):=by unfold Hid;rw [HL.out];simp [show ¬ ((d.ls.length:Int)=(q:Int)) by omega]
  have n1:((d.ls.length:Int) != (q:Int))=true:=by simp;omega
  clear HL J;go_wp2;go_ret;exact ⟨by rw [O.out];rfl,M⟩
end Go.Proofs.YtkpfangkfknhoaaGreatDoor
