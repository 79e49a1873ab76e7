/-
  Texts that stood by themselves, laid into one.
-/
import Derived.Test.YtanhoamdlhaaeaaGreatDoorCodeM
import Derived.Test.YtanhoamdlhaaeaaGreatDoorSClsM
import Derived.Test.YtanhoamdlhaaeaaGreatDoorSubM
import Derived.Test.YtanhoamdlhaaeaaGreatDoorPrRegM
import Derived.Test.YtanhoamdlhaaeaaGreatDoorShapeM
/-
  Contracts of the laws' helpers markInstrS, markDefS, markCode: what is marked is turned, and nothing else. No condition.
-/
set_option maxHeartbeats 1600000
namespace Go.Proofs.YtanhoamdlhaaeaaGreatDoor
open Go.Proofs.Tryz
open Go.RowKit
structure TnS (P:Nat -> Prop)(w w':World):Prop where
 os:w'.os=w.os
 tape:w'.tape=w.tape
 output:w'.output=w.output
 size:w.heap.size <= w'.heap.size
 block:∀ k,k < w.heap.size -> ¬ P k -> w'.heap[k]? = w.heap[k]?
def mpre (m:Nat -> Value)(cs:List Value)(c:Nat):List Value:=(List.range c).map m ++ cs.drop c
theorem ZeY (m:Nat -> Value)(cs:List Value):mpre m cs 0=cs:=by simp [mpre]
theorem Zeb (m:Nat -> Value)(cs:List Value)(c:Nat)(h:c <= cs.length):(mpre m cs c).length=cs.length:=by simp [mpre];omega
theorem ZbJ (m:Nat -> Value)(cs:List Value)(c:Nat)(u:Value)(h:c < cs.length)(e:m c=u):(mpre m cs c).set c u=mpre m cs (c+1):=by
 subst e;unfold mpre;rw [List.set_append_right _ _ (by simp),List.range_succ,List.map_append,List.append_assoc]
 congr 1
 simp only [List.length_map,List.length_range,Nat.sub_self,List.map_cons,List.map_nil];rw [List.drop_eq_getElem_cons h];rfl
theorem ZeX (m:Nat -> Value)(cs:List Value):mpre m cs cs.length=(List.range cs.length).map m:=by simp [mpre]
def inM (k:Int)(c:Nat):Value:=if c % 4=3 then .string (mt (k+(c:Int))) else .int .i64 (k+(c:Int))
def dfM (k:Int)(c:Nat):Value:=if c % 3=0 then .string (mt (k+(c:Int))) else .int .i64 (k+(c:Int))
theorem inM0 (k:Int)(j:Nat):inM k (j * 4)=.int .i64 (k+4 * (j:Int)):=by
 have e:(j * 4) % 4 ≠ 3:=by omega
 have a:k+((j * 4:Nat):Int)=k+4 * (j:Int):=by omega
 simp only [inM,e,if_false,a]
theorem inM1 (k:Int)(j:Nat):inM k (j * 4+1)=.int .i64 (k+4 * (j:Int)+1):=by
 have e:(j * 4+1) % 4 ≠ 3:=by omega
 have a:k+((j * 4+1:Nat):Int)=k+4 * (j:Int)+1:=by omega
 simp only [inM,e,if_false,a]
theorem inM2 (k:Int)(j:Nat):inM k (j * 4+2)=.int .i64 (k+4 * (j:Int)+1+1):=by
 have e:(j * 4+2) % 4 ≠ 3:=by omega
 have a:k+((j * 4+2:Nat):Int)=k+4 * (j:Int)+1+1:=by omega
 simp only [inM,e,if_false,a]
theorem inM3 (k:Int)(j:Nat):inM k (j * 4+3)=.string (mt (k+4 * (j:Int)+1+1+1)):=by
 have e:(j * 4+3) % 4=3:=by omega
 have a:k+((j * 4+3:Nat):Int)=k+4 * (j:Int)+1+1+1:=by omega
 simp only [inM,e,if_true,a]
theorem dfM0 (k:Int)(j:Nat):dfM k (j * 3)=.string (mt (k+3 * (j:Int))):=by
 have e:(j * 3) % 3=0:=by omega
 have a:k+((j * 3:Nat):Int)=k+3 * (j:Int):=by omega
 simp only [dfM,e,if_true,a]
theorem dfM1 (k:Int)(j:Nat):dfM k (j * 3+1)=.int .i64 (k+3 * (j:Int)+1):=by
 have e:(j * 3+1) % 3 ≠ 0:=by omega
 have a:k+((j * 3+1:Nat):Int)=k+3 * (j:Int)+1:=by omega
 simp only [dfM,e,if_false,a]
theorem dfM2 (k:Int)(j:Nat):dfM k (j * 3+2)=.int .i64 (k+3 * (j:Int)+1+1):=by
 have e:(j * 3+2) % 3 ≠ 0:=by omega
 have a:k+((j * 3+2:Nat):Int)=k+3 * (j:Int)+1+1:=by omega
 simp only [dfM,e,if_false,a]
theorem ZeS (v:Value)(k:Int)(d n:Nat)(cs:List Value)(w:World)(h:w.ownsRow d 163 4 v n cs)(B:cs.length=n * 4)(Y:n <= 4194304)(P:0 <= k)(X:k <= 2305843009213693952) :
  Calls prog 81 #[v,.int .i64 k] w fun e E=>e=.returned (.int .i64 (k+4 * n))/\E.ownsRow d 163 4 v n ((List.range (n * 4)).map (inM k))/\w.grownBy E v.ownBlock:=by
 rcases h.2 with ⟨rfl,L⟩ | ⟨g,y,H,rfl,V,N,R,M,A,m⟩
 ·subst L
  obtain rfl:cs=[]:=List.eq_nil_of_length_eq_zero (by omega)
  go_enter func81,ntmps81
  go_wp2;refine wp_loop_rounds 1 ?_;rw [rounds_succ];go_wp2;go_ret;exact ⟨by simp,h,World.grownBy.refl _ _⟩
 ·clear N A m
  go_enter func81,ntmps81
  go_wp2
  go_loopw [1,5] (fun q i wr=>∃ (j:Nat),j <= n/\i=.int .i64 j/\q=.int .i64 (k+4 * (j:Int))/\wr.ownsRow d 163 4 (.slice (some ⟨g,0,none⟩) n y) n (mpre (inM k) cs (j * 4))/\w.grownBy wr (some g)) (fun _ i _=>n - (intOf i).toNat)
  case atStart=>exact ⟨0,by omega,rfl,by simp,by rw [Nat.zero_mul,ZeY];exact h,World.grownBy.refl _ _⟩
  case round =>
   clear h;obtain ⟨j,W,rfl,rfl,a,f⟩:=hrel
   by_cases Q:j < n
   ·have O:g < wr.heap.size:=(a.lt g rfl).2
    have C:(mpre (inM k) cs (j * 4)).length=n * 4:=(Zeb _ _ _ (by omega)).trans B;have b:∀ i,i < 4 -> ∃ u,(wr.cell? ⟨g,j * 4+i,none⟩)=some u:=fun i hi=>⟨_,(a.cellAt (j * 4+i) (by omega)).trans (List.getElem?_eq_getElem (by omega))⟩
    obtain ⟨u0,c0⟩:=b 0 (by omega);obtain ⟨u1,F⟩:=b 1 (by omega);obtain ⟨u2,G⟩:=b 2 (by omega);simp only [Nat.add_zero] at c0;have I:=a.frozenAt (j * 4);have J:=a.frozenAt (j * 4+1);have K:=a.frozenAt (j * 4+2);have r:=a.stored (j * 4) (.int .i64 (k+4 * (j:Int)));rw [ZbJ _ _ _ _ (by omega) (inM0 k j)] at r;have s:=r.1.stored (j * 4+1) (.int .i64 (k+4 * (j:Int)+1));rw [ZbJ _ _ _ _ (by omega) (inM1 k j)] at s;have t:=s.1.stored (j * 4+2) (.int .i64 (k+4 * (j:Int)+1+1));rw [ZbJ _ _ _ _ (by omega) (inM2 k j)] at t;have o:=((f.trans r.2).trans s.2).trans t.2;clear b;go_wp2_with fail;refine (ZaB _ _ (by omega)).mono ?_;rintro e S ⟨rfl,l⟩;have c:=Zac t.1 l;have p:=o.trans (ZaD l (some g))
    obtain ⟨u3,T⟩:∃ u,(S.cell? ⟨g,j * 4+3,none⟩)=some u:=⟨_,(c.cellAt (j * 4+3) (by omega)).trans (List.getElem?_eq_getElem (by rw [Zeb _ _ _ (by omega)];omega))⟩;have U:=c.frozenAt (j * 4+3);have x:=c.stored (j * 4+3) (.string (mt (k+4 * (j:Int)+1+1+1)));rw [ZbJ _ _ _ _ (by omega) (inM3 k j)] at x;have z:=p.trans x.2;have D:=x.1;rw [show j * 4+3+1=(j+1) * 4 by omega] at D;clear r s t x a c c0 F G I J K l o p f C;go_wp2
    go_roundw
    case rel=>exact ⟨j+1,by omega,by go_num,by go_num,D,z⟩
    case measure=>simp [intOf];omega
   ·go_wp2
    go_ret;have:j=n:=by omega
    subst this;rw [<- B,ZeX,B] at a;exact ⟨rfl,a,f⟩
theorem Zhb (v:Value)(k:Int)(d n:Nat)(cs:List Value)(w:World)(h:w.ownsRow d 157 3 v n cs)(z:cs.length=n * 3)(U:n <= 4194304)(I:0 <= k)(T:k <= 2305843009213693952) :
  Calls prog 82 #[v,.int .i64 k] w fun e C=>e=.returned (.int .i64 (k+3 * n))/\C.ownsRow d 157 3 v n ((List.range (n * 3)).map (dfM k))/\w.grownBy C v.ownBlock:=by
 rcases h.2 with ⟨rfl,E⟩ | ⟨g,t,D,rfl,R,G,K,F,y,m⟩
 ·subst E
  obtain rfl:cs=[]:=List.eq_nil_of_length_eq_zero (by omega)
  go_enter func82,ntmps82
  go_wp2;refine wp_loop_rounds 1 ?_;rw [rounds_succ];go_wp2;go_ret;exact ⟨by simp,h,World.grownBy.refl _ _⟩
 ·clear G y m
  go_enter func82,ntmps82
  go_wp2
  go_loopw [1,5] (fun q i wr=>∃ (j:Nat),j <= n/\i=.int .i64 j/\q=.int .i64 (k+3 * (j:Int))/\wr.ownsRow d 157 3 (.slice (some ⟨g,0,none⟩) n t) n (mpre (dfM k) cs (j * 3))/\w.grownBy wr (some g)) (fun _ i _=>n - (intOf i).toNat)
  case atStart=>exact ⟨0,by omega,rfl,by simp,by rw [Nat.zero_mul,ZeY];exact h,World.grownBy.refl _ _⟩
  case round =>
   clear h;obtain ⟨j,S,rfl,rfl,c,f⟩:=hrel
   by_cases J:j < n
   ·have H:g < wr.heap.size:=(c.lt g rfl).2
    have A:(mpre (dfM k) cs (j * 3)).length=n * 3:=(Zeb _ _ _ (by omega)).trans z;go_wp2_with fail;refine (ZaB _ _ (by omega)).mono ?_;rintro e L ⟨rfl,l⟩;have a:=Zac c l;have o:=f.trans (ZaD l (some g));have b:∀ i,i < 3 -> ∃ u,(L.cell? ⟨g,j * 3+i,none⟩)=some u:=fun i hi=>⟨_,(a.cellAt (j * 3+i) (by omega)).trans (List.getElem?_eq_getElem (by omega))⟩
    obtain ⟨u0,c0⟩:=b 0 (by omega);obtain ⟨u1,M⟩:=b 1 (by omega);obtain ⟨u2,N⟩:=b 2 (by omega);simp only [Nat.add_zero] at c0;have O:=a.frozenAt (j * 3);have P:=a.frozenAt (j * 3+1);have Q:=a.frozenAt (j * 3+2);have p:=a.stored (j * 3) (.string (mt (k+3 * (j:Int))));rw [ZbJ _ _ _ _ (by omega) (dfM0 k j)] at p;have r:=p.1.stored (j * 3+1) (.int .i64 (k+3 * (j:Int)+1));rw [ZbJ _ _ _ _ (by omega) (dfM1 k j)] at r;have s:=r.1.stored (j * 3+2) (.int .i64 (k+3 * (j:Int)+1+1));rw [ZbJ _ _ _ _ (by omega) (dfM2 k j)] at s;have x:=((o.trans p.2).trans r.2).trans s.2;have B:=s.1;rw [show j * 3+2+1=(j+1) * 3 by omega] at B;clear b p r s c a l o f A;go_wp2
    go_roundw
    case rel=>exact ⟨j+1,by omega,by go_num,by go_num,B,x⟩
    case measure=>simp [intOf];omega
   ·go_wp2
    go_ret;have:j=n:=by omega
    subst this;rw [<- z,ZeX,z] at c;exact ⟨rfl,c,f⟩
end Go.Proofs.YtanhoamdlhaaeaaGreatDoor
