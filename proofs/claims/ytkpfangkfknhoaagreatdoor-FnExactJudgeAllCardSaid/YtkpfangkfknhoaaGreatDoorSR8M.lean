/-
  Texts that stood by themselves, laid into one.
-/
import Derived.Test.YtkpfangkfknhoaaGreatDoorMach2M
import Derived.Test.YtkpfangkfknhoaaGreatDoorMark2M
import Derived.Test.YtkpfangkfknhoaaGreatDoorNumberM
import Derived.Test.YtkpfangkfknhoaaGreatDoorMcTM
import Derived.Deep.RegionHeld3
/-
  A machine that is right, on the specification's side: MachineOk. No condition.
-/
set_option maxRecDepth 100000
set_option maxHeartbeats 6400000
namespace Go.Proofs.YtkpfangkfknhoaaGreatDoor
open Go.Proofs.Tryz
open Go.RowKit
structure MBox (w:World)(b:Nat)(cc mc:Array Value):Prop where
  code:w.heap[b]? = some (.cells cc 44 (0,0))
  mach:w.heap[b+1]? = some (.cells mc 99 (0,0))
theorem MBox.below {w a:World}{b:Nat}{e c:Array Value}(h:MBox w b e c)(d:Below w.heap.size w a):MBox a b e c :=
  ⟨(d.block _ (Array.getElem?_eq_some_iff.1 h.code).1).trans h.code,(d.block _ (Array.getElem?_eq_some_iff.1 h.mach).1).trans h.mach⟩
theorem ZdX (v1 v2 v3 v:Value)(ns:List Nd)(is:List In)(ds:List Df)(b:List Nd)(m:Mc)(w:World)(R1:NRow w v1 ns)(R2:InRow w v2 is)(R3:DfRow w v3 ds)(R:NRow w v b) :
    Calls prog 145 #[.agg #[v1,v2,v3],.agg #[v,.int .i64 m.p,.int .i64 m.s,.int .i64 m.e,.int .i64 m.d,.int .i64 m.t,.int .i64 m.q,.int .i64 m.r]] w fun e w'=>e=.returned (.bool (Za5 ns is ds b m))/\Below w.heap.size w w':=by
  have ab:is.length <= 9223372036854775807:=by obtain ⟨_,_,_,_,hm,_⟩:=R2;exact hm
  have R':=R;obtain ⟨G,l,rfl,_⟩:=R';obtain ⟨a1,c1,rfl⟩:=R1.small;obtain ⟨a2,c2,rfl⟩:=R2.small;obtain ⟨a3,c3,rfl⟩:=R3.small;obtain ⟨g,i,j,k,mt,a,h⟩:=m;obtain ⟨o,V,U⟩:=Zax w (Obj.cells #[.slice a1 ns.length c1,.slice a2 is.length c2,.slice a3 ds.length c3] 44) (Obj.cells #[.slice G b.length l,.int .i64 g,.int .i64 i,.int .i64 j,.int .i64 k,.int .i64 mt,.int .i64 a,.int .i64 h] 99);have X0:MBox _ w.heap.size #[.slice a1 ns.length c1,.slice a2 is.length c2,.slice a3 ds.length c3] #[.slice G b.length l,.int .i64 g,.int .i64 i,.int .i64 j,.int .i64 k,.int .i64 mt,.int .i64 a,.int .i64 h]:=⟨V,U⟩
  go_enter func145,ntmps145
  go_wp2_with fail;refine (Zd2 _ _ _ ns is ds _ (R1.below o) (R2.below o) (R3.below o)).mono ?_;rintro e w1 ⟨rfl,N⟩;have C:=o.trans (N.mono o.size);have X1:=X0.below N;clear o V U N X0;have x:Hid (Za5 ns is ds b ⟨g,i,j,k,mt,a,h⟩=(ZaY ns is ds && Zau b && (hasI b i && (hasI b j && (hasI b k && true))) && ZbJ is.length b ⟨g,i,j,k,mt,a,h⟩)):=rfl;have D:w1.cell? ⟨w.heap.size+1,0,none⟩=some (.slice G b.length l):=cd w1 _ 0 _ _ _ X1.mach;generalize ZaY ns is ds=b1 at x ⊢;cases b1 with
  | false =>
    go_wp2;go_ret;exact ⟨retB (by rw [x.out];rfl),C⟩
  | true =>
    go_wp2_with fail;refine (Zcc _ b _ (R.below C)).mono ?_;rintro e w2 ⟨rfl,L⟩;have A:=C.trans (L.mono C.size);have X2:=X1.below L;clear C X1 L D;have D:w2.cell? ⟨w.heap.size+1,0,none⟩=some (.slice G b.length l):=cd w2 _ 0 _ _ _ X2.mach;have k2:w2.cell? ⟨w.heap.size+1,0+2,none⟩=some (.int .i64 i):=cd w2 _ 2 _ _ _ X2.mach;generalize Zau b=b2 at x ⊢;cases b2 with
    | false =>
      go_wp2;go_ret;exact ⟨retB (by rw [x.out];rfl),A⟩
    | true =>
      go_wp2_with fail;refine (Zcz _ b _ _ (R.below A)).mono ?_;rintro e W ⟨rfl,I⟩;have y:=A.trans (I.mono A.size);have X3:=X2.below I;clear A X2 I D k2;have D:W.cell? ⟨w.heap.size+1,0,none⟩=some (.slice G b.length l):=cd W _ 0 _ _ _ X3.mach;have k3:W.cell? ⟨w.heap.size+1,0+3,none⟩=some (.int .i64 j):=cd W _ 3 _ _ _ X3.mach;generalize hasI b i=b3 at x ⊢;cases b3 with
      | false =>
        go_wp2;go_ret;exact ⟨retB (by rw [x.out];simp),y⟩
      | true =>
        go_wp2_with fail;refine (Zcz _ b _ _ (R.below y)).mono ?_;rintro e w4 ⟨rfl,H⟩;have B:=y.trans (H.mono y.size);have X4:=X3.below H;clear y X3 H D k3;have D:w4.cell? ⟨w.heap.size+1,0,none⟩=some (.slice G b.length l):=cd w4 _ 0 _ _ _ X4.mach;have k4:w4.cell? ⟨w.heap.size+1,0+4,none⟩=some (.int .i64 k):=cd w4 _ 4 _ _ _ X4.mach;generalize hasI b j=b4 at x ⊢;cases b4 with
        | false =>
          go_wp2;go_ret;exact ⟨retB (by rw [x.out];simp),B⟩
        | true =>
          go_wp2_with fail;refine (Zcz _ b _ _ (R.below B)).mono ?_;rintro e u ⟨rfl,J⟩;have S:=B.trans (J.mono B.size);have O:=X4.below J;clear B X4 J D k4;have D:u.cell? ⟨w.heap.size+1,0,none⟩=some (.slice G b.length l):=cd u _ 0 _ _ _ O.mach;generalize hasI b k=b5 at x ⊢;cases b5 with
          | false =>
            go_wp2;go_ret;exact ⟨retB (by rw [x.out];simp),S⟩
          | true =>
            have f:Hid (Za5 ns is ds b ⟨g,i,j,k,mt,a,h⟩=ZbJ is.length b ⟨g,i,j,k,mt,a,h⟩):=by unfold Hid;rw [x.out];simp
            clear x;have c:=S;have k1:u.cell? ⟨w.heap.size+1,0+1,none⟩=some (.int .i64 g):=cd u _ 1 _ _ _ O.mach;have k5:u.cell? ⟨w.heap.size+1,0+5,none⟩=some (.int .i64 mt):=cd u _ 5 _ _ _ O.mach;have k6:u.cell? ⟨w.heap.size+1,0+6,none⟩=some (.int .i64 a):=cd u _ 6 _ _ _ O.mach;have k7:u.cell? ⟨w.heap.size+1,0+7,none⟩=some (.int .i64 h):=cd u _ 7 _ _ _ O.mach;have l1:u.cell? ⟨w.heap.size,0+1,none⟩=some (.slice a2 is.length c2):=cd u _ 1 _ _ _ O.code;have R5:=R.below S;clear O;go_wp2_with fail;refine (Zas g 0 ((is.length:Int) - 1) _).mono ?_;rintro e w6 ⟨rfl,rfl⟩
            have aa:(decide (0 <= g) && decide (g <= (is.length:Int) - 1))=Zb6 is.length g:=by
              unfold Zb6
              congr 1
              rw [decide_eq_decide];omega
            rw [aa]
            by_cases Y:mt=0
            · subst Y
              replace f:Hid (Za5 ns is ds b ⟨g,i,j,k,0,a,h⟩=(Zb6 is.length g && decide (a=0) && decide (h=0))):=f;generalize Zb6 is.length g=bb at f ⊢;cases bb with
              | true =>
                by_cases K:a=0
                · subst K
                  by_cases P:h=0
                  · subst P
                    go_wp2;go_ret;exact ⟨retB (by rw [f.out];rfl),c⟩
                  · have F:(h == 0)=false:=by simp [P]
                    have n:decide (h=0)=false:=by simp [P]
                    go_wp2;go_ret;exact ⟨retB (by rw [f.out,n];rfl),c⟩
                · have F:(a == 0)=false:=by simp [K]
                  have n:decide (a=0)=false:=by simp [K]
                  go_wp2;go_ret;exact ⟨retB (by rw [f.out,n];rfl),c⟩
              | false =>
                go_wp2;go_ret;exact ⟨retB (by rw [f.out];rfl),c⟩
            · by_cases Z:mt=1
              · subst Z
                replace f:Hid (Za5 ns is ds b ⟨g,i,j,k,1,a,h⟩=(Zb6 is.length g && askB a && hasI b h)):=f;generalize Zb6 is.length g=bb at f ⊢;cases bb with
                | true =>
                  go_wp2_with fail;refine (Zas a 13 19 _).mono ?_;rintro e w7 ⟨rfl,rfl⟩
                  have T:askB a=((decide (13 <= a) && decide (a <= 19)) && decide (a ≠ 18)):=by
                    unfold askB
                    congr 2
                  rw [T] at f;generalize (decide (13 <= a) && decide (a <= 19))=b7 at f ⊢;cases b7 with
                  | true =>
                    by_cases z:a=18
                    · subst z
                      go_wp2;go_ret;exact ⟨retB (by rw [f.out];rfl),c⟩
                    · have F:(a == 18)=false:=by simp [z]
                      have n:decide (a=18)=false:=by simp [z]
                      have g3:decide (a ≠ 18)=true:=by simp [z]
                      go_wp2_with fail;refine (Zcz _ b _ _ R5).mono ?_;rintro e w8 ⟨rfl,M⟩;have E:=c.trans (M.mono c.size);generalize hasI b h=b8 at f ⊢
                      cases b8 <;>
                        (go_wp2
                         go_ret
                         exact ⟨retB (by rw [f.out,g3];first | rfl | simp [z]),E⟩)
                  | false =>
                    go_wp2;go_ret;exact ⟨retB (by rw [f.out];rfl),c⟩
                | false =>
                  go_wp2;go_ret;exact ⟨retB (by rw [f.out];rfl),c⟩
              · generalize Zb6 is.length g=bb
                by_cases t2:mt=2
                · subst t2
                  replace f:Hid (Za5 ns is ds b ⟨g,i,j,k,2,a,h⟩=(decide (g=0) && decide (a=0) && hasI b h)):=f
                  by_cases Q:g=0
                  · subst Q
                    by_cases K:a=0
                    · subst K
                      go_wp2_with fail;refine (Zcz _ b _ _ R5).mono ?_;rintro e w8 ⟨rfl,M⟩;have E:=c.trans (M.mono c.size);generalize hasI b h=b8 at f ⊢
                      cases b8 <;>
                        (go_wp2
                         go_ret
                         exact ⟨retB (by rw [f.out];rfl),E⟩)
                    · have F:(a == 0)=false:=by simp [K]
                      have n:decide (a=0)=false:=by simp [K]
                      go_wp2;go_ret;exact ⟨retB (by rw [f.out,n];rfl),c⟩
                  · have F:(g == 0)=false:=by simp [Q]
                    have n:decide (g=0)=false:=by simp [Q]
                    go_wp2;go_ret;exact ⟨retB (by rw [f.out,n];rfl),c⟩
                · by_cases X:mt=3
                  · subst X
                    replace f:Hid (Za5 ns is ds b ⟨g,i,j,k,3,a,h⟩=(decide (g=0) && decide (1 <= a) && decide (a <= 7) && decide (h=0))):=f
                    by_cases Q:g=0
                    · subst Q
                      go_wp2_with fail;refine (Zas a 1 7 _).mono ?_;rintro e w7 ⟨rfl,rfl⟩;replace f:Hid (Za5 ns is ds b ⟨0,i,j,k,3,a,h⟩=((decide (1 <= a) && decide (a <= 7)) && decide (h=0))):=by unfold Hid;rw [f.out];simp
                      generalize (decide (1 <= a) && decide (a <= 7))=b7 at f ⊢;cases b7 with
                      | true =>
                        by_cases P:h=0
                        · subst P
                          go_wp2;go_ret;exact ⟨retB (by rw [f.out];rfl),c⟩
                        · have F:(h == 0)=false:=by simp [P]
                          have n:decide (h=0)=false:=by simp [P]
                          go_wp2;go_ret;exact ⟨retB (by rw [f.out,n];rfl),c⟩
                      | false =>
                        go_wp2;go_ret;exact ⟨retB (by rw [f.out];rfl),c⟩
                    · have F:(g == 0)=false:=by simp [Q]
                      have n:decide (g=0)=false:=by simp [Q]
                      go_wp2;go_ret;exact ⟨retB (by rw [f.out,n];rfl),c⟩
                  · replace f:Hid (Za5 ns is ds b ⟨g,i,j,k,mt,a,h⟩=false):=by unfold Hid;rw [f.out];unfold ZbJ;simp [Y,Z,t2,X]
                    have g0:(mt == 0)=false:=by simp [Y]
                    have F:(mt == 1)=false:=by simp [Z]
                    have n:(mt == 2)=false:=by simp [t2]
                    have g3:(mt == 3)=false:=by simp [X]
                    have f0:decide (mt=0)=false:=by simp [Y]
                    have f1:decide (mt=1)=false:=by simp [Z]
                    have f2:decide (mt=2)=false:=by simp [t2]
                    have f3:decide (mt=3)=false:=by simp [X]
                    go_wp2;go_ret;exact ⟨retB (by rw [f.out]),c⟩
theorem Zjm (k:Nat)(h:k+1 < 9):wrap64 (lim k * 128)=lim (k+1):=by
 have c:=ZgE k;have a:=Zdt (show k <= 8 by omega);have b:=Zkx (show k <= 7 by omega);rw [IntWalk.wrap64_in _ ⟨by omega,by omega⟩];simp only [lim];omega
theorem Zg8 (v:Value)(zs:List Int)(a:Int)(w:World)(h:Row w v zs)(y : -9223372036854775808 <= a)(z:a <= 9223372036854775807) :
  Calls prog 148 #[v,.int .i64 a] w fun e I=>e=.returned (gV (gN zs a))/\I=w:=by
 obtain ⟨R,J,rfl,C,M,B,d⟩:=h
 by_cases l:a < 0
 ·rw [ZlR zs a l]
  go_enter func148,ntmps148
  go_wp2
  go_ret3
  exact ⟨rfl,rfl⟩
 by_cases m:(zs.length:Int) <= a
 ·obtain ⟨n,rfl⟩:=cG (show 0 <= a by omega)
  rw [Zc5 zs n ((Sc.start zs n).out (Or.inr (by omega)))]
  go_enter func148,ntmps148
  go_wp2
  go_ret3
  exact ⟨rfl,rfl⟩
 obtain ⟨n,rfl⟩:=cG (show 0 <= a by omega);obtain ⟨g,o,rfl,Q,d⟩:=d (by intro e;subst e;simp at m);have O:n < zs.length:=by omega
 clear l m y z
 go_enter func148,ntmps148
 go_wp2
 go_loop [7,8,9] (fun x u i=>∃ (k:Nat) (U:Int) (c:List Int),k <= 9/\n+k <= zs.length/\i=.int .i64 k/\u=.int .i64 U/\x=.int .i64 (val c)/\Hid (k < 9 -> U=lim k)/\Hid (Sc zs n k c)) (fun _ _ i=>9 - (intOf i).toNat)
 case atStart=>exact ⟨0,1,[],by omega,by omega,rfl,rfl,rfl,fun _=>rfl,Sc.start zs n⟩
 case round =>
  obtain ⟨k,U,c,L,E,rfl,rfl,rfl,D,r⟩:=hrel
  by_cases A:k < 9
  ·by_cases p:n+k < zs.length
   ·have N:=d (n+k) p
    have F:=D.out A;have t:=ZbQ c;rw [r.out.1] at t;subst F;clear D;have K:=Zl3 zs[n+k] k;have H:=Zdt (show k <= 8 by omega);have P:=B zs[n+k] (List.getElem_mem _);clear d B
    by_cases q:zs[n+k] < 128
    ·have b:=r.out.last A p q
     have f:=r.out.1
     by_cases s:zs[n+k]=0
     ·by_cases G:0 < k
      ·have j:Hid (gN zs (n:Int)=(0,0,false)):=ZlW zs n c (by rw [b,s]) (by omega)
       clear b f;go_wp2
       go_ret3
       exact ⟨by rw [j.out];rfl,rfl⟩
      ·have j:Hid (gN zs (n:Int)=(val c,(n:Int)+k+1,true)):=by
        have:=Zkh zs n c zs[n+k] b (by omega);rw [f,s] at this
        simpa [Hid] using this
       clear b f;go_wp2
       go_ret3
       exact ⟨by rw [j.out];rfl,rfl⟩
     ·have j:Hid (gN zs (n:Int)=(val c+zs[n+k] % 128 * lim k,(n:Int)+k+1,true)):=by
       have:=Zkh zs n c zs[n+k] b (by omega);rw [f] at this;exact this
      clear b f;go_wp2
      go_ret3
      exact ⟨by rw [j.out];rfl,rfl⟩
    ·go_wp2
     refine ⟨⟨_,_,_,_,_,_,⟨k+1,by omega,by omega,?ra,wrap64 (lim k * 128),?rb,c ++ [zs[n+k]],?rc,?rd,r.out.more A p (by omega)⟩,rfl,rfl,rfl,rfl,rfl,rfl⟩,by simp [intOf];omega⟩
     case ra=>go_num
     case rb=>rfl
     case rc=>rw [Zho,r.out.1]
     case rd=>exact fun h=>Zjm k h
   ·have j:Hid (gN zs (n:Int)=(0,0,false)):=Zc5 zs n (r.out.out (Or.inr (by omega)))
    go_wp2
    go_ret3
    exact ⟨by rw [j.out];rfl,rfl⟩
  ·have j:Hid (gN zs (n:Int)=(0,0,false)):=Zc5 zs n (r.out.out (Or.inl (by omega)))
   go_wp2
   go_ret3
   exact ⟨by rw [j.out];rfl,rfl⟩
def C8 (w:World)(b:Nat)(v:Value)(at_:Int)(ok:Bool):Prop:=w.heap[b]? = some (.cells #[v,.int .i64 at_,.bool ok] 188 (0,0))
theorem Zb9 (b:Nat)(v:Value)(zs:List Int)(a:Int)(ok:Bool)(w:World)(R:Row w v zs)(h:C8 w b v a ok)(q : -9223372036854775808 <= a)(r:a <= 9223372036854775807) :
  Calls prog 114 #[.pointer (some ⟨b,0,none⟩)] w fun e n=>e=.returned (.int .i64 (num8 zs a ok).1)/\C8 n b v (num8 zs a ok).2.1 (num8 zs a ok).2.2/\w.grownBy n (some b):=by
 have A:=R;obtain ⟨s,i,rfl,_⟩:=A;unfold C8 at h;have c0:w.cell? ⟨b,0,none⟩=some (.slice s zs.length i):=cd _ _ 0 _ _ _ h;have c1:w.cell? ⟨b,1,none⟩=some (.int .i64 a):=cd _ _ 1 _ _ _ h;have c2:w.cell? ⟨b,2,none⟩=some (.bool ok):=cd _ _ 2 _ _ _ h;have y:w.frozen? ⟨b,1,none⟩=false:=cw _ _ 1 _ _ h;have z:w.frozen? ⟨b,2,none⟩=false:=cw _ _ 2 _ _ h;obtain ⟨g,k⟩:∃ g,Hid (gN zs a=g):=⟨_,rfl⟩;obtain ⟨o,l,t⟩:=g
 have x:∀ W:World,Row W (.slice s zs.length i) zs -> Calls prog 148 #[.slice s zs.length i,.int .i64 a] W fun e n=>e=.returned (.tuple #[.int .i64 o,.int .i64 l,.bool t])/\n=W:=fun W B=>by
  have:=Zg8 _ zs a W B q r;rw [k.out] at this;exact this
 have j:Hid (num8 zs a ok=if ok && t then (o,l,true) else (0,a,false)):=by unfold Hid num8;rw [k.out]
 have u:∀ m,Below w.heap.size w (w.drewN m):=fun m=>⟨rfl,rfl,rfl,ce _,fun _ _=>rfl⟩
 go_enter func114,ntmps114
 go_wp2_with fail
 go_quiet (first | (go_at_call 148;refine Calls.quiet_of_same (x _ R)))
 all_goals
  have lt:=(bl h);have f:=((u nq).block _ lt).trans h;have p:w.grownBy (w.drewN nq) (some b):=⟨rfl,rfl,rfl,ce _,fun _ _ _=>rfl⟩;clear c0 c1 c2 y z u x;generalize w.drewN nq=d at *;have c1:d.cell? ⟨b,1,none⟩=some (.int .i64 a):=cd _ _ 1 _ _ _ f;have c2:d.cell? ⟨b,2,none⟩=some (.bool ok):=cd _ _ 2 _ _ _ f;have y:d.frozen? ⟨b,1,none⟩=false:=cw _ _ 1 _ _ f;have z:d.frozen? ⟨b,2,none⟩=false:=cw _ _ 2 _ _ f;cases t with
  | false =>
   have c:Hid (num8 zs a ok=(0,a,false)):=by unfold Hid;rw [j.out,Bool.and_false];rfl
   clear j k;go_wp2;go_ret;rw [c.out];exact ⟨rfl,cu d b 2 _ _ (.bool false) f,Zaj p (Zan d b 2 _)⟩
  | true =>
   cases ok with
   | false =>
    have c:Hid (num8 zs a false=(0,a,false)):=j.out;clear j k;go_wp2;go_ret;rw [c.out];exact ⟨rfl,cu d b 2 _ _ (.bool false) f,Zaj p (Zan d b 2 _)⟩
   | true =>
    have c:Hid (num8 zs a true=(o,l,true)):=j.out;clear j k;go_wp2;go_ret;rw [c.out];exact ⟨rfl,cu d b 1 _ _ (.int .i64 l) f,Zaj p (Zan d b 1 _)⟩
end Go.Proofs.YtkpfangkfknhoaaGreatDoor
