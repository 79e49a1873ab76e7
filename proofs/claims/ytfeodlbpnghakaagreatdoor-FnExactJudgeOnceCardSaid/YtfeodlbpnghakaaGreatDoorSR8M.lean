/-
  Texts that stood by themselves, laid into one.
-/
import Derived.Test.YtfeodlbpnghakaaGreatDoorMach2M
import Derived.Test.YtfeodlbpnghakaaGreatDoorMark2M
import Derived.Test.YtfeodlbpnghakaaGreatDoorNumberM
import Derived.Test.YtfeodlbpnghakaaGreatDoorMcTM
import Derived.Deep.RegionHeld3
/-
  A machine that is right, on the specification's side: MachineOk. No condition.
-/
set_option maxRecDepth 100000
set_option maxHeartbeats 6400000
namespace Go.Proofs.YtfeodlbpnghakaaGreatDoor
open Go.RowKit
structure MBox (w:World)(b:Nat)(cc mc:Array Value):Prop where
  code:w.heap[b]? = some (.cells cc 44 (0,0))
  mach:w.heap[b+1]? = some (.cells mc 61 (0,0))
theorem MBox.below {w a:World}{b:Nat}{e c:Array Value}(h:MBox w b e c)(d:Below w.heap.size w a):MBox a b e c :=
  ⟨(d.block _ (Array.getElem?_eq_some_iff.1 h.code).1).trans h.code,(d.block _ (Array.getElem?_eq_some_iff.1 h.mach).1).trans h.mach⟩
theorem ZdS (v1 v2 v3 v:Value)(ns:List Nd)(is:List In)(ds:List Df)(b:List Nd)(m:Mc)(w:World)(R1:NRow w v1 ns)(R2:InRow w v2 is)(R3:DfRow w v3 ds)(R:NRow w v b) :
    Calls Tryz.prog 114 #[.agg #[v1,v2,v3],.agg #[v,.int .i64 m.p,.int .i64 m.s,.int .i64 m.e,.int .i64 m.d,.int .i64 m.t,.int .i64 m.q,.int .i64 m.r]] w fun e w'=>e=.returned (.bool (Za3 ns is ds b m))/\Below w.heap.size w w':=by
  have ab:is.length <= 9223372036854775807:=by obtain ⟨_,_,_,_,hm,_⟩:=R2;exact hm
  have R':=R
  obtain ⟨L,i,rfl,_⟩:=R'
  obtain ⟨a1,c1,rfl⟩:=R1.small
  obtain ⟨a2,c2,rfl⟩:=R2.small
  obtain ⟨a3,c3,rfl⟩:=R3.small
  obtain ⟨g,l,k,j,mt,a,h⟩:=m
  obtain ⟨o,U,T⟩:=Zav w (Obj.cells #[.slice a1 ns.length c1,.slice a2 is.length c2,.slice a3 ds.length c3] 44) (Obj.cells #[.slice L b.length i,.int .i64 g,.int .i64 l,.int .i64 k,.int .i64 j,.int .i64 mt,.int .i64 a,.int .i64 h] 61)
  have X0:MBox _ w.heap.size #[.slice a1 ns.length c1,.slice a2 is.length c2,.slice a3 ds.length c3] #[.slice L b.length i,.int .i64 g,.int .i64 l,.int .i64 k,.int .i64 j,.int .i64 mt,.int .i64 a,.int .i64 h]:=⟨U,T⟩
  go_enter Tryz.func114,Tryz.ntmps114
  go_wp2_with fail
  refine (Zf5 _ _ _ ns is ds _ (R1.below o) (R2.below o) (R3.below o)).mono ?_
  rintro e w1 ⟨rfl,I⟩
  have A:=o.trans (I.mono o.size)
  have X1:=X0.below I
  clear o U T I X0
  have x:Hid (Za3 ns is ds b ⟨g,l,k,j,mt,a,h⟩=(Za5 ns is ds && Zas b && (hasI b l && (hasI b k && (hasI b j && true))) && ZbG is.length b ⟨g,l,k,j,mt,a,h⟩)):=rfl
  have D:w1.cell? ⟨w.heap.size+1,0,none⟩=some (.slice L b.length i):=cell_of_row w1 _ 0 _ _ _ X1.mach
  generalize Za5 ns is ds=b1 at x ⊢
  cases b1 with
  | false =>
    go_wp2
    go_ret
    exact ⟨retB (by rw [x.out];rfl),A⟩
  | true =>
    go_wp2_with fail
    refine (Zce _ b _ (R.below A)).mono ?_
    rintro e Z ⟨rfl,F⟩
    have C:=A.trans (F.mono A.size)
    have W:=X1.below F
    clear A X1 F D
    have D:Z.cell? ⟨w.heap.size+1,0,none⟩=some (.slice L b.length i):=cell_of_row Z _ 0 _ _ _ W.mach
    have k2:Z.cell? ⟨w.heap.size+1,0+2,none⟩=some (.int .i64 l):=cell_of_row Z _ 2 _ _ _ W.mach
    generalize Zas b=b2 at x ⊢
    cases b2 with
    | false =>
      go_wp2
      go_ret
      exact ⟨retB (by rw [x.out];rfl),C⟩
    | true =>
      go_wp2_with fail
      refine (Zcw _ b _ _ (R.below C)).mono ?_
      rintro e w3 ⟨rfl,J⟩
      have z:=C.trans (J.mono C.size)
      have X3:=W.below J
      clear C W J D k2
      have D:w3.cell? ⟨w.heap.size+1,0,none⟩=some (.slice L b.length i):=cell_of_row w3 _ 0 _ _ _ X3.mach
      have k3:w3.cell? ⟨w.heap.size+1,0+3,none⟩=some (.int .i64 k):=cell_of_row w3 _ 3 _ _ _ X3.mach
      generalize hasI b l=b3 at x ⊢
      cases b3 with
      | false =>
        go_wp2
        go_ret
        exact ⟨retB (by rw [x.out];simp),z⟩
      | true =>
        go_wp2_with fail
        refine (Zcw _ b _ _ (R.below z)).mono ?_
        rintro e w4 ⟨rfl,M⟩
        have y:=z.trans (M.mono z.size)
        have X4:=X3.below M
        clear z X3 M D k3
        have D:w4.cell? ⟨w.heap.size+1,0,none⟩=some (.slice L b.length i):=cell_of_row w4 _ 0 _ _ _ X4.mach
        have k4:w4.cell? ⟨w.heap.size+1,0+4,none⟩=some (.int .i64 j):=cell_of_row w4 _ 4 _ _ _ X4.mach
        generalize hasI b k=b4 at x ⊢
        cases b4 with
        | false =>
          go_wp2
          go_ret
          exact ⟨retB (by rw [x.out];simp),y⟩
        | true =>
          go_wp2_with fail
          refine (Zcw _ b _ _ (R.below y)).mono ?_
          rintro e u ⟨rfl,G⟩
          have S:=y.trans (G.mono y.size)
          have E:=X4.below G
          clear y X4 G D k4
          have D:u.cell? ⟨w.heap.size+1,0,none⟩=some (.slice L b.length i):=cell_of_row u _ 0 _ _ _ E.mach
          generalize hasI b j=b5 at x ⊢
          cases b5 with
          | false =>
            go_wp2
            go_ret
            exact ⟨retB (by rw [x.out];simp),S⟩
          | true =>
            have f:Hid (Za3 ns is ds b ⟨g,l,k,j,mt,a,h⟩=ZbG is.length b ⟨g,l,k,j,mt,a,h⟩):=by unfold Hid;rw [x.out];simp
            clear x
            have c:=S
            have k1:u.cell? ⟨w.heap.size+1,0+1,none⟩=some (.int .i64 g):=cell_of_row u _ 1 _ _ _ E.mach
            have k5:u.cell? ⟨w.heap.size+1,0+5,none⟩=some (.int .i64 mt):=cell_of_row u _ 5 _ _ _ E.mach
            have k6:u.cell? ⟨w.heap.size+1,0+6,none⟩=some (.int .i64 a):=cell_of_row u _ 6 _ _ _ E.mach
            have k7:u.cell? ⟨w.heap.size+1,0+7,none⟩=some (.int .i64 h):=cell_of_row u _ 7 _ _ _ E.mach
            have l1:u.cell? ⟨w.heap.size,0+1,none⟩=some (.slice a2 is.length c2):=cell_of_row u _ 1 _ _ _ E.code
            have R5:=R.below S
            clear E
            go_wp2_with fail
            refine (Zar g 0 ((is.length:Int) - 1) _).mono ?_
            rintro e w6 ⟨rfl,rfl⟩
            have aa:(decide (0 <= g) && decide (g <= (is.length:Int) - 1))=Zcg is.length g:=by
              unfold Zcg
              congr 1
              rw [decide_eq_decide]
              omega
            rw [aa]
            by_cases t0:mt=0
            · subst t0
              replace f:Hid (Za3 ns is ds b ⟨g,l,k,j,0,a,h⟩=(Zcg is.length g && decide (a=0) && decide (h=0))):=f
              generalize Zcg is.length g=bb at f ⊢
              cases bb with
              | true =>
                by_cases N:a=0
                · subst N
                  by_cases K:h=0
                  · subst K
                    go_wp2
                    go_ret
                    exact ⟨retB (by rw [f.out];rfl),c⟩
                  · have O:(h == 0)=false:=by simp [K]
                    have n:decide (h=0)=false:=by simp [K]
                    go_wp2
                    go_ret
                    exact ⟨retB (by rw [f.out,n];rfl),c⟩
                · have O:(a == 0)=false:=by simp [N]
                  have n:decide (a=0)=false:=by simp [N]
                  go_wp2
                  go_ret
                  exact ⟨retB (by rw [f.out,n];rfl),c⟩
              | false =>
                go_wp2
                go_ret
                exact ⟨retB (by rw [f.out];rfl),c⟩
            · by_cases X:mt=1
              · subst X
                replace f:Hid (Za3 ns is ds b ⟨g,l,k,j,1,a,h⟩=(Zcg is.length g && askB a && hasI b h)):=f
                generalize Zcg is.length g=bb at f ⊢
                cases bb with
                | true =>
                  go_wp2_with fail
                  refine (Zar a 13 19 _).mono ?_
                  rintro e w7 ⟨rfl,rfl⟩
                  have V:askB a=((decide (13 <= a) && decide (a <= 19)) && decide (a ≠ 18)):=by
                    unfold askB
                    congr 2
                  rw [V] at f
                  generalize (decide (13 <= a) && decide (a <= 19))=b7 at f ⊢
                  cases b7 with
                  | true =>
                    by_cases B:a=18
                    · subst B
                      go_wp2
                      go_ret
                      exact ⟨retB (by rw [f.out];rfl),c⟩
                    · have O:(a == 18)=false:=by simp [B]
                      have n:decide (a=18)=false:=by simp [B]
                      have g3:decide (a ≠ 18)=true:=by simp [B]
                      go_wp2_with fail
                      refine (Zcw _ b _ _ R5).mono ?_
                      rintro e w8 ⟨rfl,P⟩
                      have H:=c.trans (P.mono c.size)
                      generalize hasI b h=b8 at f ⊢
                      cases b8 <;>
                        (go_wp2
                         go_ret
                         exact ⟨retB (by rw [f.out,g3];first | rfl | simp [B]),H⟩)
                  | false =>
                    go_wp2
                    go_ret
                    exact ⟨retB (by rw [f.out];rfl),c⟩
                | false =>
                  go_wp2
                  go_ret
                  exact ⟨retB (by rw [f.out];rfl),c⟩
              · generalize Zcg is.length g=bb
                by_cases t2:mt=2
                · subst t2
                  replace f:Hid (Za3 ns is ds b ⟨g,l,k,j,2,a,h⟩=(decide (g=0) && decide (a=0) && hasI b h)):=f
                  by_cases Q:g=0
                  · subst Q
                    by_cases N:a=0
                    · subst N
                      go_wp2_with fail
                      refine (Zcw _ b _ _ R5).mono ?_
                      rintro e w8 ⟨rfl,P⟩
                      have H:=c.trans (P.mono c.size)
                      generalize hasI b h=b8 at f ⊢
                      cases b8 <;>
                        (go_wp2
                         go_ret
                         exact ⟨retB (by rw [f.out];rfl),H⟩)
                    · have O:(a == 0)=false:=by simp [N]
                      have n:decide (a=0)=false:=by simp [N]
                      go_wp2
                      go_ret
                      exact ⟨retB (by rw [f.out,n];rfl),c⟩
                  · have O:(g == 0)=false:=by simp [Q]
                    have n:decide (g=0)=false:=by simp [Q]
                    go_wp2
                    go_ret
                    exact ⟨retB (by rw [f.out,n];rfl),c⟩
                · by_cases Y:mt=3
                  · subst Y
                    replace f:Hid (Za3 ns is ds b ⟨g,l,k,j,3,a,h⟩=(decide (g=0) && decide (1 <= a) && decide (a <= 7) && decide (h=0))):=f
                    by_cases Q:g=0
                    · subst Q
                      go_wp2_with fail
                      refine (Zar a 1 7 _).mono ?_
                      rintro e w7 ⟨rfl,rfl⟩
                      replace f:Hid (Za3 ns is ds b ⟨0,l,k,j,3,a,h⟩=((decide (1 <= a) && decide (a <= 7)) && decide (h=0))):=by unfold Hid;rw [f.out];simp
                      generalize (decide (1 <= a) && decide (a <= 7))=b7 at f ⊢
                      cases b7 with
                      | true =>
                        by_cases K:h=0
                        · subst K
                          go_wp2
                          go_ret
                          exact ⟨retB (by rw [f.out];rfl),c⟩
                        · have O:(h == 0)=false:=by simp [K]
                          have n:decide (h=0)=false:=by simp [K]
                          go_wp2
                          go_ret
                          exact ⟨retB (by rw [f.out,n];rfl),c⟩
                      | false =>
                        go_wp2
                        go_ret
                        exact ⟨retB (by rw [f.out];rfl),c⟩
                    · have O:(g == 0)=false:=by simp [Q]
                      have n:decide (g=0)=false:=by simp [Q]
                      go_wp2
                      go_ret
                      exact ⟨retB (by rw [f.out,n];rfl),c⟩
                  · replace f:Hid (Za3 ns is ds b ⟨g,l,k,j,mt,a,h⟩=false):=by unfold Hid;rw [f.out];unfold ZbG;simp [t0,X,t2,Y]
                    have g0:(mt == 0)=false:=by simp [t0]
                    have O:(mt == 1)=false:=by simp [X]
                    have n:(mt == 2)=false:=by simp [t2]
                    have g3:(mt == 3)=false:=by simp [Y]
                    have f0:decide (mt=0)=false:=by simp [t0]
                    have f1:decide (mt=1)=false:=by simp [X]
                    have f2:decide (mt=2)=false:=by simp [t2]
                    have f3:decide (mt=3)=false:=by simp [Y]
                    go_wp2
                    go_ret
                    exact ⟨retB (by rw [f.out]),c⟩
theorem Zjl (k:Nat)(h:k+1 < 9):wrap64 (lim k * 128)=lim (k+1):=by
 have a:=Zf7 k
 have b:=ZdR (show k <= 8 by omega)
 have c:=Zjf (show k <= 7 by omega)
 rw [IntWalk.wrap64_in _ ⟨by omega,by omega⟩]
 simp only [lim]
 omega
theorem Zhh (v:Value)(zs:List Int)(a:Int)(w:World)(h:Row w v zs)(A : -9223372036854775808 <= a)(t:a <= 9223372036854775807) :
  Calls Tryz.prog 117 #[v,.int .i64 a] w fun e J=>e=.returned (gV (gN zs a))/\J=w:=by
 obtain ⟨O,I,rfl,D,R,C,d⟩:=h
 by_cases m:a < 0
 ·rw [Zlo zs a m]
  go_enter Tryz.func117,Tryz.ntmps117
  go_wp2
  go_ret3
  exact ⟨rfl,rfl⟩
 by_cases l:(zs.length:Int) <= a
 ·obtain ⟨n,rfl⟩:=Int.eq_ofNat_of_zero_le (show 0 <= a by omega)
  rw [Zc0 zs n ((Sc.start zs n).out (Or.inr (by omega)))]
  go_enter Tryz.func117,Tryz.ntmps117
  go_wp2
  go_ret3
  exact ⟨rfl,rfl⟩
 obtain ⟨n,rfl⟩:=Int.eq_ofNat_of_zero_le (show 0 <= a by omega)
 obtain ⟨g,o,rfl,M,d⟩:=d (by intro e;subst e;simp at l)
 have P:n < zs.length:=by omega
 clear m l A t
 go_enter Tryz.func117,Tryz.ntmps117
 go_wp2
 go_loop [7,8,9] (fun x u i=>∃ (k:Nat) (U:Int) (c:List Int),k <= 9/\n+k <= zs.length/\i=.int .i64 k/\u=.int .i64 U/\x=.int .i64 (val c)/\Hid (k < 9 -> U=lim k)/\Hid (Sc zs n k c)) (fun _ _ i=>9 - (intOf i).toNat)
 case atStart=>exact ⟨0,1,[],by omega,by omega,rfl,rfl,rfl,fun _=>rfl,Sc.start zs n⟩
 case round =>
  obtain ⟨k,U,c,N,K,rfl,rfl,rfl,B,p⟩:=hrel
  by_cases y:k < 9
  ·by_cases q:n+k < zs.length
   ·have L:=d (n+k) q
    have H:=B.out y
    have z:=ZbN c
    rw [p.out.1] at z
    subst H
    clear B
    have F:=ZlH zs[n+k] k
    have E:=ZdR (show k <= 8 by omega)
    have Q:=C zs[n+k] (List.getElem_mem _)
    clear d C
    by_cases r:zs[n+k] < 128
    ·have b:=p.out.last y q r
     have f:=p.out.1
     by_cases s:zs[n+k]=0
     ·by_cases G:0 < k
      ·have j:Hid (gN zs (n:Int)=(0,0,false)):=ZlA zs n c (by rw [b,s]) (by omega)
       clear b f
       go_wp2
       go_ret3
       exact ⟨by rw [j.out];rfl,rfl⟩
      ·have j:Hid (gN zs (n:Int)=(val c,(n:Int)+k+1,true)):=by
        have:=ZjC zs n c zs[n+k] b (by omega)
        rw [f,s] at this
        simpa [Hid] using this
       clear b f
       go_wp2
       go_ret3
       exact ⟨by rw [j.out];rfl,rfl⟩
     ·have j:Hid (gN zs (n:Int)=(val c+zs[n+k] % 128 * lim k,(n:Int)+k+1,true)):=by
       have:=ZjC zs n c zs[n+k] b (by omega)
       rw [f] at this;exact this
      clear b f
      go_wp2
      go_ret3
      exact ⟨by rw [j.out];rfl,rfl⟩
    ·go_wp2
     refine ⟨⟨_,_,_,_,_,_,⟨k+1,by omega,by omega,?ra,wrap64 (lim k * 128),?rb,c ++ [zs[n+k]],?rc,?rd,p.out.more y q (by omega)⟩,rfl,rfl,rfl,rfl,rfl,rfl⟩,by simp [intOf];omega⟩
     case ra=>go_num
     case rb=>rfl
     case rc=>rw [Zg9,p.out.1]
     case rd=>exact fun h=>Zjl k h
   ·have j:Hid (gN zs (n:Int)=(0,0,false)):=Zc0 zs n (p.out.out (Or.inr (by omega)))
    go_wp2
    go_ret3
    exact ⟨by rw [j.out];rfl,rfl⟩
  ·have j:Hid (gN zs (n:Int)=(0,0,false)):=Zc0 zs n (p.out.out (Or.inl (by omega)))
   go_wp2
   go_ret3
   exact ⟨by rw [j.out];rfl,rfl⟩
def C8 (w:World)(b:Nat)(v:Value)(at_:Int)(ok:Bool):Prop:=w.heap[b]? = some (.cells #[v,.int .i64 at_,.bool ok] 163 (0,0))
theorem Zb3 (b:Nat)(v:Value)(zs:List Int)(a:Int)(ok:Bool)(w:World)(R:Row w v zs)(h:C8 w b v a ok)(t : -9223372036854775808 <= a)(o:a <= 9223372036854775807) :
  Calls Tryz.prog 81 #[.pointer (some ⟨b,0,none⟩)] w fun e l=>e=.returned (.int .i64 (num8 zs a ok).1)/\C8 l b v (num8 zs a ok).2.1 (num8 zs a ok).2.2/\w.grownBy l (some b):=by
 have B:=R
 obtain ⟨r,i,rfl,_⟩:=B
 unfold C8 at h
 have c0:w.cell? ⟨b,0,none⟩=some (.slice r zs.length i):=cell_of_row _ _ 0 _ _ _ h
 have c1:w.cell? ⟨b,1,none⟩=some (.int .i64 a):=cell_of_row _ _ 1 _ _ _ h
 have c2:w.cell? ⟨b,2,none⟩=some (.bool ok):=cell_of_row _ _ 2 _ _ _ h
 have x:w.frozen? ⟨b,1,none⟩=false:=frozen_of_row _ _ 1 _ _ h
 have z:w.frozen? ⟨b,2,none⟩=false:=frozen_of_row _ _ 2 _ _ h
 obtain ⟨g,k⟩:∃ g,Hid (gN zs a=g):=⟨_,rfl⟩
 obtain ⟨q,n,s⟩:=g
 have y:∀ W:World,Row W (.slice r zs.length i) zs -> Calls Tryz.prog 117 #[.slice r zs.length i,.int .i64 a] W fun e l=>e=.returned (.tuple #[.int .i64 q,.int .i64 n,.bool s])/\l=W:=fun W A=>by
  have:=Zhh _ zs a W A t o
  rw [k.out] at this
  exact this
 have j:Hid (num8 zs a ok=if ok && s then (q,n,true) else (0,a,false)):=by unfold Hid num8;rw [k.out]
 have u:∀ m,Below w.heap.size w (w.drewN m):=fun m=>⟨rfl,rfl,rfl,Nat.le_refl _,fun _ _=>rfl⟩
 go_enter Tryz.func81,Tryz.ntmps81
 go_wp2_with fail
 go_quiet (first | (go_at_call 117;refine Calls.quiet_of_same (y _ R)))
 all_goals
  have lt:=(bl h)
  have f:=((u nq).block _ lt).trans h
  have p:w.grownBy (w.drewN nq) (some b):=⟨rfl,rfl,rfl,Nat.le_refl _,fun _ _ _=>rfl⟩
  clear c0 c1 c2 x z u y
  generalize w.drewN nq=d at *
  have c1:d.cell? ⟨b,1,none⟩=some (.int .i64 a):=cell_of_row _ _ 1 _ _ _ f
  have c2:d.cell? ⟨b,2,none⟩=some (.bool ok):=cell_of_row _ _ 2 _ _ _ f
  have x:d.frozen? ⟨b,1,none⟩=false:=frozen_of_row _ _ 1 _ _ f
  have z:d.frozen? ⟨b,2,none⟩=false:=frozen_of_row _ _ 2 _ _ f
  cases s with
  | false =>
   have c:Hid (num8 zs a ok=(0,a,false)):=by unfold Hid;rw [j.out,Bool.and_false];rfl
   clear j k
   go_wp2
   go_ret
   rw [c.out]
   exact ⟨rfl,heap_setCell_same d b 2 _ _ (.bool false) f,Zaj p (Zan d b 2 _)⟩
  | true =>
   cases ok with
   | false =>
    have c:Hid (num8 zs a false=(0,a,false)):=j.out
    clear j k
    go_wp2
    go_ret
    rw [c.out]
    exact ⟨rfl,heap_setCell_same d b 2 _ _ (.bool false) f,Zaj p (Zan d b 2 _)⟩
   | true =>
    have c:Hid (num8 zs a true=(q,n,true)):=j.out
    clear j k
    go_wp2
    go_ret
    rw [c.out]
    exact ⟨rfl,heap_setCell_same d b 1 _ _ (.int .i64 n) f,Zaj p (Zan d b 1 _)⟩
end Go.Proofs.YtfeodlbpnghakaaGreatDoor
