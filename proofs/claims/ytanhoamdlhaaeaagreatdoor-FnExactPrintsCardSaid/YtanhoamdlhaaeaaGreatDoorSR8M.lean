/-
  Texts that stood by themselves, laid into one.
-/
import Derived.Test.YtanhoamdlhaaeaaGreatDoorR8cM
import Derived.Test.YtanhoamdlhaaeaaGreatDoorR8aM
import Derived.Test.YtanhoamdlhaaeaaGreatDoorShapeM
import Derived.Deep.RegionHeld3
/-
  One text more is read: plain mathematics. No condition.
-/
set_option maxRecDepth 100000
set_option maxHeartbeats 3200000
namespace Go.Proofs.YtanhoamdlhaaeaaGreatDoor
open Go.Proofs.Tryz
open Go.RowKit
def rt (zs:List Int)(a:Int):Option (ByteArray × Int):=if (gT zs a).2.2 then some ((gT zs a).1,(gT zs a).2.1) else none
def txt8 (zs:List Int)(at_:Int)(ok:Bool):ByteArray × Int × Bool:=if ok && (gT zs at_).2.2 then ((gT zs at_).1,(gT zs at_).2.1,true) else (⟨#[]⟩,at_,false)
theorem Zgk (b:List Int)(a:Int):0 <= (gT b a).2.1/\(gT b a).2.1 <= b.length:=by
 unfold gT;split
 ·rename_i d
  obtain ⟨c,e⟩:=d;have f:=Zjj b a (gN b a).1 (gN b a).2.1 (by rw [<- c])
  show 0 <= (gN b a).2.1+(gN b a).1/\(gN b a).2.1+(gN b a).1 <= b.length
  omega
 ·show (0:Int) <= 0/\(0:Int) <= b.length
  omega
theorem Zi2 (k:Nat)(h:k+1 < 9):wrap64 (lim k * 128)=lim (k+1):=by
 have a:=ZfR k;have b:=Zc4 (show k <= 8 by omega);have c:=Zie (show k <= 7 by omega);rw [IntWalk.wrap64_in _ ⟨by omega,by omega⟩];simp only [lim];omega
theorem ZgA (v:Value)(b:List Int)(a:Int)(w:World)(h:Row w v b)(A : -9223372036854775808 <= a)(z:a <= 9223372036854775807) :
  Calls prog 166 #[v,.int .i64 a] w fun e L=>e=.returned (gV (gN b a))/\L=w:=by
 obtain ⟨M,F,rfl,D,R,E,f⟩:=h
 by_cases m:a < 0
 ·rw [Zkb b a m]
  go_enter func166,ntmps166
  go_wp2
  go_ret3
  exact ⟨rfl,rfl⟩
 by_cases p:(b.length:Int) <= a
 ·obtain ⟨n,rfl⟩:=cu (show 0 <= a by omega)
  rw [Zcx b n ((Sc.start b n).out (Or.inr (by omega)))]
  go_enter func166,ntmps166
  go_wp2
  go_ret3
  exact ⟨rfl,rfl⟩
 obtain ⟨n,rfl⟩:=cu (show 0 <= a by omega);obtain ⟨g,o,rfl,P,f⟩:=f (by intro e;subst e;simp at p);have S:n < b.length:=by omega
 clear m p A z
 go_enter func166,ntmps166
 go_wp2
 go_loop [7,8,9] (fun x u i=>∃ (k:Nat) (U:Int) (d:List Int),k <= 9/\n+k <= b.length/\i=.int .i64 k/\u=.int .i64 U/\x=.int .i64 (val d)/\Hid (k < 9 -> U=lim k)/\Hid (Sc b n k d)) (fun _ _ i=>9 - (intOf i).toNat)
 case atStart=>exact ⟨0,1,[],by omega,by omega,rfl,rfl,rfl,fun _=>rfl,Sc.start b n⟩
 case round =>
  obtain ⟨k,U,d,Q,I,rfl,rfl,rfl,C,q⟩:=hrel
  by_cases y:k < 9
  ·by_cases s:n+k < b.length
   ·have O:=f (n+k) s
    have G:=C.out y;have B:=ZbD d;rw [q.out.1] at B;subst G;clear C;have K:=Zkv b[n+k] k;have J:=Zc4 (show k <= 8 by omega);have N:=E b[n+k] (List.getElem_mem _);clear f E
    by_cases r:b[n+k] < 128
    ·have c:=q.out.last y s r
     have j:=q.out.1
     by_cases t:b[n+k]=0
     ·by_cases H:0 < k
      ·have l:Hid (gN b (n:Int)=(0,0,false)):=Zkn b n d (by rw [c,t]) (by omega)
       clear c j;go_wp2
       go_ret3
       exact ⟨by rw [l.out];rfl,rfl⟩
      ·have l:Hid (gN b (n:Int)=(val d,(n:Int)+k+1,true)):=by
        have:=Zh3 b n d b[n+k] c (by omega);rw [j,t] at this
        simpa [Hid] using this
       clear c j;go_wp2
       go_ret3
       exact ⟨by rw [l.out];rfl,rfl⟩
     ·have l:Hid (gN b (n:Int)=(val d+b[n+k] % 128 * lim k,(n:Int)+k+1,true)):=by
       have:=Zh3 b n d b[n+k] c (by omega);rw [j] at this;exact this
      clear c j;go_wp2
      go_ret3
      exact ⟨by rw [l.out];rfl,rfl⟩
    ·go_wp2
     refine ⟨⟨_,_,_,_,_,_,⟨k+1,by omega,by omega,?ra,wrap64 (lim k * 128),?rb,d ++ [b[n+k]],?rc,?rd,q.out.more y s (by omega)⟩,rfl,rfl,rfl,rfl,rfl,rfl⟩,by simp [intOf];omega⟩
     case ra=>go_num
     case rb=>rfl
     case rc=>rw [ZgF,q.out.1]
     case rd=>exact fun h=>Zi2 k h
   ·have l:Hid (gN b (n:Int)=(0,0,false)):=Zcx b n (q.out.out (Or.inr (by omega)))
    go_wp2
    go_ret3
    exact ⟨by rw [l.out];rfl,rfl⟩
  ·have l:Hid (gN b (n:Int)=(0,0,false)):=Zcx b n (q.out.out (Or.inl (by omega)))
   go_wp2
   go_ret3
   exact ⟨by rw [l.out];rfl,rfl⟩
def C8 (w:World)(b:Nat)(v:Value)(at_:Int)(ok:Bool):Prop:=w.heap[b]? = some (.cells #[v,.int .i64 at_,.bool ok] 198 (0,0))
theorem Ziz (b:Nat)(v:Value)(c:List Int)(a:Int)(f:Bool)(w:World)(R:Row w v c)(h:C8 w b v a f)(x : -9223372036854775808 <= a)(u:a <= 9223372036854775807) :
  Calls prog 157 #[.pointer (some ⟨b,0,none⟩)] w fun e p=>e=.returned (.int .i64 (num8 c a f).1)/\C8 p b v (num8 c a f).2.1 (num8 c a f).2.2/\w.grownBy p (some b):=by
 have E:=R;obtain ⟨q,j,rfl,_⟩:=E;unfold C8 at h;have c0:w.cell? ⟨b,0,none⟩=some (.slice q c.length j):=cd _ _ 0 _ _ _ h;have z:w.cell? ⟨b,1,none⟩=some (.int .i64 a):=cd _ _ 1 _ _ _ h;have A:w.cell? ⟨b,2,none⟩=some (.bool f):=cd _ _ 2 _ _ _ h;have B:w.frozen? ⟨b,1,none⟩=false:=cj _ _ 1 _ _ h;have C:w.frozen? ⟨b,2,none⟩=false:=cj _ _ 2 _ _ h;obtain ⟨g,n⟩:∃ g,Hid (gN c a=g):=⟨_,rfl⟩;obtain ⟨t,o,s⟩:=g
 have y:∀ W:World,Row W (.slice q c.length j) c -> Calls prog 166 #[.slice q c.length j,.int .i64 a] W fun e p=>e=.returned (.tuple #[.int .i64 t,.int .i64 o,.bool s])/\p=W:=fun W F=>by
  have:=ZgA _ c a W F x u;rw [n.out] at this;exact this
 have l:Hid (num8 c a f=if f && s then (t,o,true) else (0,a,false)):=by unfold Hid num8;rw [n.out]
 have D:∀ m,Below w.heap.size w (w.drewN m):=fun m=>⟨rfl,rfl,rfl,ce _,fun _ _=>rfl⟩
 go_enter func157,ntmps157
 go_wp2_with fail
 go_quiet (first | (go_at_call 166;refine Calls.quiet_of_same (y _ R)))
 all_goals
  have lt:=(bl h);have k:=((D nq).block _ lt).trans h;have r:w.grownBy (w.drewN nq) (some b):=⟨rfl,rfl,rfl,ce _,fun _ _ _=>rfl⟩;clear c0 z A B C D y;generalize w.drewN nq=i at *;have z:i.cell? ⟨b,1,none⟩=some (.int .i64 a):=cd _ _ 1 _ _ _ k;have A:i.cell? ⟨b,2,none⟩=some (.bool f):=cd _ _ 2 _ _ _ k;have B:i.frozen? ⟨b,1,none⟩=false:=cj _ _ 1 _ _ k;have C:i.frozen? ⟨b,2,none⟩=false:=cj _ _ 2 _ _ k;cases s with
  | false =>
   have d:Hid (num8 c a f=(0,a,false)):=by unfold Hid;rw [l.out,Bool.and_false];rfl
   clear l n;go_wp2;go_ret;rw [d.out];exact ⟨rfl,ci i b 2 _ _ (.bool false) k,Zaj r (Zam i b 2 _)⟩
  | true =>
   cases f with
   | false =>
    have d:Hid (num8 c a false=(0,a,false)):=l.out;clear l n;go_wp2;go_ret;rw [d.out];exact ⟨rfl,ci i b 2 _ _ (.bool false) k,Zaj r (Zam i b 2 _)⟩
   | true =>
    have d:Hid (num8 c a true=(t,o,true)):=l.out;clear l n;go_wp2;go_ret;rw [d.out];exact ⟨rfl,ci i b 1 _ _ (.int .i64 o) k,Zaj r (Zam i b 1 _)⟩
end Go.Proofs.YtanhoamdlhaaeaaGreatDoor
