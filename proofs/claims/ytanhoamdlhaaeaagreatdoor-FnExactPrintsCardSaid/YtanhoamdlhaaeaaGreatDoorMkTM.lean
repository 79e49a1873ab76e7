/-
  Texts that stood by themselves, laid into one.
-/
import Derived.Test.YtanhoamdlhaaeaaGreatDoorMkWM
/-
  Marks of links that have no queues. No condition.
-/
set_option maxHeartbeats 1600000
namespace Go.Proofs.YtanhoamdlhaaeaaGreatDoor
open Go.Proofs.Tryz
open Go.RowKit
def lkM (k:Int)(c:Nat):Value:=if c % 5=0 then .int .i64 (k+3 * ((c / 5:Nat):Int)) else if c % 5=1 then .int .i64 (k+3 * ((c / 5:Nat):Int)+1) else if c % 5=3 then .int .i64 (k+3 * ((c / 5:Nat):Int)+1+1) else .slice none 0 0
theorem Zc5 (v:Value)(k:Int)(c n:Nat)(cs:List Value)(w:World)(h:w.ownsRow c 176 5 v n cs)(hm:n <= 4194304)(M:0 <= k)(hk:k <= 2305843009213693952) :
  Calls prog 83 #[v,.int .i64 k] w fun e C=>e=.returned (.int .i64 (k+5 * n))/\(∃ r,C.ownsRow c 176 5 v n r)/\w.grownBy C v.ownBlock:=by
 have o:=h.1;rcases h.2 with ⟨rfl,I⟩ | ⟨g,p,H,rfl,Y,K,O,J,s,f⟩
 ·subst I
  go_enter func83,ntmps83
  go_wp2;refine wp_loop_rounds 1 ?_;rw [rounds_succ];go_wp2;go_ret;exact ⟨by simp,⟨cs,h⟩,World.grownBy.refl _ _⟩
 ·clear K s f
  go_enter func83,ntmps83
  go_wp2
  go_loopw [1,5] (fun q i wr=>∃ (j:Nat) (cs:List Value),j <= n/\i=.int .i64 j/\q=.int .i64 (k+5 * (j:Int))/\cs.length=n * 5/\wr.ownsRow c 176 5 (.slice (some ⟨g,0,none⟩) n p) n cs/\w.grownBy wr (some g)) (fun _ i _=>n - (intOf i).toNat)
  case atStart=>exact ⟨0,cs,by omega,rfl,by simp,o,h,World.grownBy.refl _ _⟩
  case round =>
   clear o h;obtain ⟨j,cs,Z,rfl,rfl,o,a,d⟩:=hrel
   by_cases N:j < n
   ·have L:g < wr.heap.size:=(a.lt g rfl).2
    obtain ⟨u0,c0⟩:∃ u,(wr.cell? ⟨g,j * 5,none⟩)=some u:=⟨_,(a.cellAt (j * 5) (by omega)).trans (List.getElem?_eq_getElem (by first | omega | (simp only [List.length_set];omega)))⟩;have T:=a.frozenAt (j * 5);obtain ⟨u1,P⟩:∃ u,(wr.cell? ⟨g,j * 5+1,none⟩)=some u:=⟨_,(a.cellAt (j * 5+1) (by omega)).trans (List.getElem?_eq_getElem (by first | omega | (simp only [List.length_set];omega)))⟩;have U:=a.frozenAt (j * 5+1);have t:=a.stored (j * 5) (.int .i64 (k+5 * (j:Int)));have x:=t.1.stored (j * 5+1) (.int .i64 (k+5 * (j:Int)+1));have D:=((d.trans t.2).trans x.2);have F:=x.1;clear t x;go_wp2_with fail;refine (ZaB _ _ (by omega)).mono ?_;rintro e B ⟨rfl,m⟩;have b:=Zac F m;have l:=D.trans (ZaD m (some g))
    obtain ⟨u2,Q⟩:∃ u,(B.cell? ⟨g,j * 5+2,none⟩)=some u:=⟨_,(b.cellAt (j * 5+2) (by omega)).trans (List.getElem?_eq_getElem (by first | omega | (simp only [List.length_set];omega)))⟩;have V:=b.frozenAt (j * 5+2);obtain ⟨u3,R⟩:∃ u,(B.cell? ⟨g,j * 5+3,none⟩)=some u:=⟨_,(b.cellAt (j * 5+3) (by omega)).trans (List.getElem?_eq_getElem (by first | omega | (simp only [List.length_set];omega)))⟩;have W:=b.frozenAt (j * 5+3);obtain ⟨u4,S⟩:∃ u,(B.cell? ⟨g,j * 5+4,none⟩)=some u:=⟨_,(b.cellAt (j * 5+4) (by omega)).trans (List.getElem?_eq_getElem (by first | omega | (simp only [List.length_set];omega)))⟩;have X:=b.frozenAt (j * 5+4);have y:=b.stored (j * 5+2) (.string (mt (k+5 * (j:Int)+1+1)));have z:=y.1.stored (j * 5+3) (.int .i64 (k+5 * (j:Int)+1+1+1))
    have A:=z.1.stored (j * 5+4) (.int .i64 (k+5 * (j:Int)+1+1+1+1));have E:=(((l.trans y.2).trans z.2).trans A.2);have G:=A.1;clear y z A;go_wp2
    go_roundw
    case rel=>exact ⟨j+1,_,by omega,by go_num,by go_num,by simp [o],G,E⟩
    case measure=>simp [intOf];omega
   ·go_wp2
    go_ret;have:j=n:=by omega
    subst this;exact ⟨rfl,⟨_,a⟩,d⟩
theorem Zb5 (v:Value)(k:Int)(a n:Nat)(cs:List Value)(w:World)(h:w.ownsRow a 9 1 v n cs)(N:n <= 4194304)(F:0 <= k)(M:k <= 2305843009213693952) :
  Calls prog 11 #[v,.int .i64 k] w fun e x=>e=.returned (.int .i64 (k+n))/\(∃ r,x.ownsRow a 9 1 v n r)/\w.grownBy x v.ownBlock:=by
 have o:=h.1;rcases h.2 with ⟨rfl,B⟩ | ⟨g,p,A,rfl,K,D,H,C,s,f⟩
 ·subst B
  go_enter func11,ntmps11
  go_wp2;refine wp_loop_rounds 1 ?_;rw [rounds_succ];go_wp2;go_ret;exact ⟨by simp,⟨cs,h⟩,World.grownBy.refl _ _⟩
 ·clear D s f
  go_enter func11,ntmps11
  go_wp2
  go_loopw [1,5] (fun q i wr=>∃ (j:Nat) (cs:List Value),j <= n/\i=.int .i64 j/\q=.int .i64 (k+(j:Int))/\cs.length=n * 1/\wr.ownsRow a 9 1 (.slice (some ⟨g,0,none⟩) n p) n cs/\w.grownBy wr (some g)) (fun _ i _=>n - (intOf i).toNat)
  case atStart=>exact ⟨0,cs,by omega,rfl,by simp,o,h,World.grownBy.refl _ _⟩
  case round =>
   clear o h;obtain ⟨j,cs,L,rfl,rfl,o,b,d⟩:=hrel
   by_cases G:j < n
   ·have E:g < wr.heap.size:=(b.lt g rfl).2
    go_wp2_with fail;refine (ZaB _ _ (by omega)).mono ?_;rintro e I ⟨rfl,m⟩;have c:=Zac b m;have l:=d.trans (ZaD m (some g));obtain ⟨u0,c0⟩:∃ u,(I.cell? ⟨g,j,none⟩)=some u:=⟨_,(c.cellAt (j) (by omega)).trans (List.getElem?_eq_getElem (by first | omega | (simp only [List.length_set];omega)))⟩;have J:=c.frozenAt (j);have t:=c.stored (j) (.string (mt (k+(j:Int))));have y:=(l.trans t.2);have z:=t.1;clear t;go_wp2
    go_roundw
    case rel=>exact ⟨j+1,_,by omega,by go_num,by go_num,by simp [o],z,y⟩
    case measure=>simp [intOf];omega
   ·go_wp2
    go_ret;have:j=n:=by omega
    subst this;exact ⟨rfl,⟨_,b⟩,d⟩
theorem ZeT (v:Value)(k:Int)(b n:Nat)(cs:List Value)(w:World)(h:w.ownsRow b 122 2 v n cs)(S:n <= 4194304)(I:0 <= k)(R:k <= 2305843009213693952) :
  Calls prog 84 #[v,.int .i64 k] w fun e y=>e=.returned (.int .i64 (k+2 * n))/\(∃ r,y.ownsRow b 122 2 v n r)/\w.grownBy y v.ownBlock:=by
 have o:=h.1;rcases h.2 with ⟨rfl,E⟩ | ⟨g,p,D,rfl,P,G,K,F,s,f⟩
 ·subst E
  go_enter func84,ntmps84
  go_wp2;refine wp_loop_rounds 1 ?_;rw [rounds_succ];go_wp2;go_ret;exact ⟨by simp,⟨cs,h⟩,World.grownBy.refl _ _⟩
 ·clear G s f
  go_enter func84,ntmps84
  go_wp2
  go_loopw [1,5] (fun q i wr=>∃ (j:Nat) (cs:List Value),j <= n/\i=.int .i64 j/\q=.int .i64 (k+2 * (j:Int))/\cs.length=n * 2/\wr.ownsRow b 122 2 (.slice (some ⟨g,0,none⟩) n p) n cs/\w.grownBy wr (some g)) (fun _ i _=>n - (intOf i).toNat)
  case atStart=>exact ⟨0,cs,by omega,rfl,by simp,o,h,World.grownBy.refl _ _⟩
  case round =>
   clear o h;obtain ⟨j,cs,Q,rfl,rfl,o,a,d⟩:=hrel
   by_cases J:j < n
   ·have H:g < wr.heap.size:=(a.lt g rfl).2
    obtain ⟨u0,c0⟩:∃ u,(wr.cell? ⟨g,j * 2,none⟩)=some u:=⟨_,(a.cellAt (j * 2) (by omega)).trans (List.getElem?_eq_getElem (by first | omega | (simp only [List.length_set];omega)))⟩;have N:=a.frozenAt (j * 2);have t:=a.stored (j * 2) (.int .i64 (k+2 * (j:Int)));have z:=(d.trans t.2);have B:=t.1;clear t;go_wp2_with fail;refine (ZaB _ _ (by omega)).mono ?_;rintro e L ⟨rfl,m⟩;have c:=Zac B m;have l:=z.trans (ZaD m (some g));obtain ⟨u1,M⟩:∃ u,(L.cell? ⟨g,j * 2+1,none⟩)=some u:=⟨_,(c.cellAt (j * 2+1) (by omega)).trans (List.getElem?_eq_getElem (by first | omega | (simp only [List.length_set];omega)))⟩;have O:=c.frozenAt (j * 2+1);have x:=c.stored (j * 2+1) (.string (mt (k+2 * (j:Int)+1)));have A:=(l.trans x.2);have C:=x.1;clear x;go_wp2
    go_roundw
    case rel=>exact ⟨j+1,_,by omega,by go_num,by go_num,by simp [o],C,A⟩
    case measure=>simp [intOf];omega
   ·go_wp2
    go_ret;have:j=n:=by omega
    subst this;exact ⟨rfl,⟨_,a⟩,d⟩
theorem ZfU (v:Value)(k:Int)(b n:Nat)(cs:List Value)(w:World)(h:w.ownsRow b 124 5 v n cs)(hm:n <= 4194304)(L:0 <= k)(hk:k <= 2305843009213693952) :
  Calls prog 39 #[v,.int .i64 k] w fun e B=>e=.returned (.int .i64 (k+5 * n))/\(∃ r,B.ownsRow b 124 5 v n r)/\w.grownBy B v.ownBlock:=by
 have o:=h.1;rcases h.2 with ⟨rfl,H⟩ | ⟨g,p,G,rfl,Y,J,N,I,s,f⟩
 ·subst H
  go_enter func39,ntmps39
  go_wp2;refine wp_loop_rounds 1 ?_;rw [rounds_succ];go_wp2;go_ret;exact ⟨by simp,⟨cs,h⟩,World.grownBy.refl _ _⟩
 ·clear J s f
  go_enter func39,ntmps39
  go_wp2
  go_loopw [1,5] (fun q i wr=>∃ (j:Nat) (cs:List Value),j <= n/\i=.int .i64 j/\q=.int .i64 (k+5 * (j:Int))/\cs.length=n * 5/\wr.ownsRow b 124 5 (.slice (some ⟨g,0,none⟩) n p) n cs/\w.grownBy wr (some g)) (fun _ i _=>n - (intOf i).toNat)
  case atStart=>exact ⟨0,cs,by omega,rfl,by simp,o,h,World.grownBy.refl _ _⟩
  case round =>
   clear o h;obtain ⟨j,cs,Z,rfl,rfl,o,a,d⟩:=hrel
   by_cases M:j < n
   ·have K:g < wr.heap.size:=(a.lt g rfl).2
    obtain ⟨u0,c0⟩:∃ u,(wr.cell? ⟨g,j * 5,none⟩)=some u:=⟨_,(a.cellAt (j * 5) (by omega)).trans (List.getElem?_eq_getElem (by first | omega | (simp only [List.length_set];omega)))⟩;have T:=a.frozenAt (j * 5);obtain ⟨u1,P⟩:∃ u,(wr.cell? ⟨g,j * 5+1,none⟩)=some u:=⟨_,(a.cellAt (j * 5+1) (by omega)).trans (List.getElem?_eq_getElem (by first | omega | (simp only [List.length_set];omega)))⟩;have U:=a.frozenAt (j * 5+1);obtain ⟨u2,Q⟩:∃ u,(wr.cell? ⟨g,j * 5+2,none⟩)=some u:=⟨_,(a.cellAt (j * 5+2) (by omega)).trans (List.getElem?_eq_getElem (by first | omega | (simp only [List.length_set];omega)))⟩;have V:=a.frozenAt (j * 5+2);obtain ⟨u3,R⟩:∃ u,(wr.cell? ⟨g,j * 5+3,none⟩)=some u:=⟨_,(a.cellAt (j * 5+3) (by omega)).trans (List.getElem?_eq_getElem (by first | omega | (simp only [List.length_set];omega)))⟩
    have W:=a.frozenAt (j * 5+3);have t:=a.stored (j * 5) (.int .i64 (k+5 * (j:Int)));have x:=t.1.stored (j * 5+1) (.int .i64 (k+5 * (j:Int)+1));have y:=x.1.stored (j * 5+2) (.int .i64 (k+5 * (j:Int)+1+1));have z:=y.1.stored (j * 5+3) (.int .i64 (k+5 * (j:Int)+1+1+1));have C:=((((d.trans t.2).trans x.2).trans y.2).trans z.2);have E:=z.1;clear t x y z;go_wp2_with fail;refine (ZaB _ _ (by omega)).mono ?_;rintro e O ⟨rfl,m⟩;have c:=Zac E m;have l:=C.trans (ZaD m (some g));obtain ⟨u4,S⟩:∃ u,(O.cell? ⟨g,j * 5+4,none⟩)=some u:=⟨_,(c.cellAt (j * 5+4) (by omega)).trans (List.getElem?_eq_getElem (by first | omega | (simp only [List.length_set];omega)))⟩;have X:=c.frozenAt (j * 5+4);have A:=c.stored (j * 5+4) (.string (mt (k+5 * (j:Int)+1+1+1+1)));have D:=(l.trans A.2);have F:=A.1;clear A;go_wp2
    go_roundw
    case rel=>exact ⟨j+1,_,by omega,by go_num,by go_num,by simp [o],F,D⟩
    case measure=>simp [intOf];omega
   ·go_wp2
    go_ret;have:j=n:=by omega
    subst this;exact ⟨rfl,⟨_,a⟩,d⟩
theorem Zea (v:Value)(k:Int)(b n:Nat)(cs:List Value)(w:World)(h:w.ownsRow b 126 3 v n cs)(V:n <= 4194304)(J:0 <= k)(U:k <= 2305843009213693952) :
  Calls prog 40 #[v,.int .i64 k] w fun e z=>e=.returned (.int .i64 (k+3 * n))/\(∃ r,z.ownsRow b 126 3 v n r)/\w.grownBy z v.ownBlock:=by
 have o:=h.1;rcases h.2 with ⟨rfl,F⟩ | ⟨g,p,E,rfl,S,H,L,G,s,f⟩
 ·subst F
  go_enter func40,ntmps40
  go_wp2;refine wp_loop_rounds 1 ?_;rw [rounds_succ];go_wp2;go_ret;exact ⟨by simp,⟨cs,h⟩,World.grownBy.refl _ _⟩
 ·clear H s f
  go_enter func40,ntmps40
  go_wp2
  go_loopw [1,5] (fun q i wr=>∃ (j:Nat) (cs:List Value),j <= n/\i=.int .i64 j/\q=.int .i64 (k+3 * (j:Int))/\cs.length=n * 3/\wr.ownsRow b 126 3 (.slice (some ⟨g,0,none⟩) n p) n cs/\w.grownBy wr (some g)) (fun _ i _=>n - (intOf i).toNat)
  case atStart=>exact ⟨0,cs,by omega,rfl,by simp,o,h,World.grownBy.refl _ _⟩
  case round =>
   clear o h;obtain ⟨j,cs,T,rfl,rfl,o,a,d⟩:=hrel
   by_cases K:j < n
   ·have I:g < wr.heap.size:=(a.lt g rfl).2
    obtain ⟨u0,c0⟩:∃ u,(wr.cell? ⟨g,j * 3,none⟩)=some u:=⟨_,(a.cellAt (j * 3) (by omega)).trans (List.getElem?_eq_getElem (by first | omega | (simp only [List.length_set];omega)))⟩;have P:=a.frozenAt (j * 3);obtain ⟨u1,N⟩:∃ u,(wr.cell? ⟨g,j * 3+1,none⟩)=some u:=⟨_,(a.cellAt (j * 3+1) (by omega)).trans (List.getElem?_eq_getElem (by first | omega | (simp only [List.length_set];omega)))⟩;have Q:=a.frozenAt (j * 3+1);have t:=a.stored (j * 3) (.int .i64 (k+3 * (j:Int)));have x:=t.1.stored (j * 3+1) (.int .i64 (k+3 * (j:Int)+1));have A:=((d.trans t.2).trans x.2);have C:=x.1;clear t x;go_wp2_with fail;refine (ZaB _ _ (by omega)).mono ?_;rintro e M ⟨rfl,m⟩;have c:=Zac C m;have l:=A.trans (ZaD m (some g))
    obtain ⟨u2,O⟩:∃ u,(M.cell? ⟨g,j * 3+2,none⟩)=some u:=⟨_,(c.cellAt (j * 3+2) (by omega)).trans (List.getElem?_eq_getElem (by first | omega | (simp only [List.length_set];omega)))⟩;have R:=c.frozenAt (j * 3+2);have y:=c.stored (j * 3+2) (.string (mt (k+3 * (j:Int)+1+1)));have B:=(l.trans y.2);have D:=y.1;clear y;go_wp2
    go_roundw
    case rel=>exact ⟨j+1,_,by omega,by go_num,by go_num,by simp [o],D,B⟩
    case measure=>simp [intOf];omega
   ·go_wp2
    go_ret;have:j=n:=by omega
    subst this;exact ⟨rfl,⟨_,a⟩,d⟩
end Go.Proofs.YtanhoamdlhaaeaaGreatDoor
