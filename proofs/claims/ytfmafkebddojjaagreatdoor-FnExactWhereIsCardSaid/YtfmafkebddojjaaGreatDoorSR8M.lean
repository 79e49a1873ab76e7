/-
  Texts that stood by themselves, laid into one.
-/
import Derived.Test.YtfmafkebddojjaaGreatDoorMach2M
import Derived.Test.YtfmafkebddojjaaGreatDoorBsM
import Derived.Test.YtfmafkebddojjaaGreatDoorNumberM
import Derived.Test.YtfmafkebddojjaaGreatDoorMcTM
import Derived.Deep.RegionHeld3
/-
  A machine that is right, on the specification's side: MachineOk. No condition.
-/
set_option maxRecDepth 100000
set_option maxHeartbeats 6400000
namespace Go.Proofs.YtfmafkebddojjaaGreatDoor
open Go.RowKit
structure MBox (w : World) (b : Nat) (cc mc : Array Value) : Prop where
  code : w.heap[b]? = some (.cells cc 44 (0, 0))
  mach : w.heap[b + 1]? = some (.cells mc 81 (0, 0))
theorem MBox.below {w w' : World} {b : Nat} {cc mc : Array Value} (h : MBox w b cc mc) (hb : Below w.heap.size w w') : MBox w' b cc mc :=
  ⟨(hb.block _ (Array.getElem?_eq_some_iff.1 h.code).1).trans h.code, (hb.block _ (Array.getElem?_eq_some_iff.1 h.mach).1).trans h.mach⟩
theorem Zdd (v1 v2 v3 v : Value) (ns : List Nd) (is : List In) (ds : List Df) (xs : List Nd) (m : Mc) (w : World) (R1 : NRow w v1 ns) (R2 : InRow w v2 is) (R3 : DfRow w v3 ds) (R : NRow w v xs) :
    Calls Tryz.prog 166 #[.agg #[v1, v2, v3], .agg #[v, .int .i64 m.p, .int .i64 m.s, .int .i64 m.e, .int .i64 m.d, .int .i64 m.t, .int .i64 m.q, .int .i64 m.r]] w fun e w' => e = .returned (.bool (Za0 ns is ds xs m)) /\ Below w.heap.size w w' := by
  have hn2 : is.length <= 9223372036854775807 := by obtain ⟨_, _, _, _, hm, _⟩ := R2; exact hm
  have R' := R
  obtain ⟨ao, cap, rfl, _⟩ := R'
  obtain ⟨a1, c1, rfl⟩ := R1.small
  obtain ⟨a2, c2, rfl⟩ := R2.small
  obtain ⟨a3, c3, rfl⟩ := R3.small
  obtain ⟨mp, ms, me, md, mt, mq, mr⟩ := m
  obtain ⟨hB0, hk0, hx0⟩ := Zat w (Obj.cells #[.slice a1 ns.length c1, .slice a2 is.length c2, .slice a3 ds.length c3] 44) (Obj.cells #[.slice ao xs.length cap, .int .i64 mp, .int .i64 ms, .int .i64 me, .int .i64 md, .int .i64 mt, .int .i64 mq, .int .i64 mr] 81)
  have X0 : MBox _ w.heap.size #[.slice a1 ns.length c1, .slice a2 is.length c2, .slice a3 ds.length c3] #[.slice ao xs.length cap, .int .i64 mp, .int .i64 ms, .int .i64 me, .int .i64 md, .int .i64 mt, .int .i64 mq, .int .i64 mr] := ⟨hk0, hx0⟩
  go_enter Tryz.func166, Tryz.ntmps166
  go_wp2_with fail
  refine (Zga _ _ _ ns is ds _ (R1.below hB0) (R2.below hB0) (R3.below hB0)).mono ?_
  rintro e w1 ⟨rfl, hb1⟩
  have hB1 := hB0.trans (hb1.mono hB0.size)
  have X1 := X0.below hb1
  clear hB0 hk0 hx0 hb1 X0
  have HM : Hid (Za0 ns is ds xs ⟨mp, ms, me, md, mt, mq, mr⟩ = (Za3 ns is ds && Zap xs && (hasI xs ms && (hasI xs me && (hasI xs md && true))) && Zby is.length xs ⟨mp, ms, me, md, mt, mq, mr⟩)) := rfl
  have k0 : w1.cell? ⟨w.heap.size + 1, 0, none⟩ = some (.slice ao xs.length cap) := cell_of_row w1 _ 0 _ _ _ X1.mach
  generalize Za3 ns is ds = b1 at HM ⊢
  cases b1 with
  | false =>
    go_wp2
    go_ret
    exact ⟨retB (by rw [HM.out]; rfl), hB1⟩
  | true =>
    go_wp2_with fail
    refine (Zb8 _ xs _ (R.below hB1)).mono ?_
    rintro e w2 ⟨rfl, hb2⟩
    have hB2 := hB1.trans (hb2.mono hB1.size)
    have X2 := X1.below hb2
    clear hB1 X1 hb2 k0
    have k0 : w2.cell? ⟨w.heap.size + 1, 0, none⟩ = some (.slice ao xs.length cap) := cell_of_row w2 _ 0 _ _ _ X2.mach
    have k2 : w2.cell? ⟨w.heap.size + 1, 0 + 2, none⟩ = some (.int .i64 ms) := cell_of_row w2 _ 2 _ _ _ X2.mach
    generalize Zap xs = b2 at HM ⊢
    cases b2 with
    | false =>
      go_wp2
      go_ret
      exact ⟨retB (by rw [HM.out]; rfl), hB2⟩
    | true =>
      go_wp2_with fail
      refine (Zco _ xs _ _ (R.below hB2)).mono ?_
      rintro e w3 ⟨rfl, hb3⟩
      have hB3 := hB2.trans (hb3.mono hB2.size)
      have X3 := X2.below hb3
      clear hB2 X2 hb3 k0 k2
      have k0 : w3.cell? ⟨w.heap.size + 1, 0, none⟩ = some (.slice ao xs.length cap) := cell_of_row w3 _ 0 _ _ _ X3.mach
      have k3 : w3.cell? ⟨w.heap.size + 1, 0 + 3, none⟩ = some (.int .i64 me) := cell_of_row w3 _ 3 _ _ _ X3.mach
      generalize hasI xs ms = b3 at HM ⊢
      cases b3 with
      | false =>
        go_wp2
        go_ret
        exact ⟨retB (by rw [HM.out]; simp), hB3⟩
      | true =>
        go_wp2_with fail
        refine (Zco _ xs _ _ (R.below hB3)).mono ?_
        rintro e w4 ⟨rfl, hb4⟩
        have hB4 := hB3.trans (hb4.mono hB3.size)
        have X4 := X3.below hb4
        clear hB3 X3 hb4 k0 k3
        have k0 : w4.cell? ⟨w.heap.size + 1, 0, none⟩ = some (.slice ao xs.length cap) := cell_of_row w4 _ 0 _ _ _ X4.mach
        have k4 : w4.cell? ⟨w.heap.size + 1, 0 + 4, none⟩ = some (.int .i64 md) := cell_of_row w4 _ 4 _ _ _ X4.mach
        generalize hasI xs me = b4 at HM ⊢
        cases b4 with
        | false =>
          go_wp2
          go_ret
          exact ⟨retB (by rw [HM.out]; simp), hB4⟩
        | true =>
          go_wp2_with fail
          refine (Zco _ xs _ _ (R.below hB4)).mono ?_
          rintro e w5 ⟨rfl, hb5⟩
          have hB5 := hB4.trans (hb5.mono hB4.size)
          have X5 := X4.below hb5
          clear hB4 X4 hb5 k0 k4
          have k0 : w5.cell? ⟨w.heap.size + 1, 0, none⟩ = some (.slice ao xs.length cap) := cell_of_row w5 _ 0 _ _ _ X5.mach
          generalize hasI xs md = b5 at HM ⊢
          cases b5 with
          | false =>
            go_wp2
            go_ret
            exact ⟨retB (by rw [HM.out]; simp), hB5⟩
          | true =>
            have HS : Hid (Za0 ns is ds xs ⟨mp, ms, me, md, mt, mq, mr⟩ = Zby is.length xs ⟨mp, ms, me, md, mt, mq, mr⟩) := by unfold Hid; rw [HM.out]; simp
            clear HM
            have hBx := hB5
            have k1 : w5.cell? ⟨w.heap.size + 1, 0 + 1, none⟩ = some (.int .i64 mp) := cell_of_row w5 _ 1 _ _ _ X5.mach
            have k5 : w5.cell? ⟨w.heap.size + 1, 0 + 5, none⟩ = some (.int .i64 mt) := cell_of_row w5 _ 5 _ _ _ X5.mach
            have k6 : w5.cell? ⟨w.heap.size + 1, 0 + 6, none⟩ = some (.int .i64 mq) := cell_of_row w5 _ 6 _ _ _ X5.mach
            have k7 : w5.cell? ⟨w.heap.size + 1, 0 + 7, none⟩ = some (.int .i64 mr) := cell_of_row w5 _ 7 _ _ _ X5.mach
            have l1 : w5.cell? ⟨w.heap.size, 0 + 1, none⟩ = some (.slice a2 is.length c2) := cell_of_row w5 _ 1 _ _ _ X5.code
            have R5 := R.below hB5
            clear X5
            go_wp2_with fail
            refine (Zau mp 0 ((is.length : Int) - 1) _).mono ?_
            rintro e w6 ⟨rfl, rfl⟩
            have hpl : (decide (0 <= mp) && decide (mp <= (is.length : Int) - 1)) = Zb1 is.length mp := by
              unfold Zb1
              congr 1
              rw [decide_eq_decide]
              omega
            rw [hpl]
            by_cases t0 : mt = 0
            · subst t0
              replace HS : Hid (Za0 ns is ds xs ⟨mp, ms, me, md, 0, mq, mr⟩ = (Zb1 is.length mp && decide (mq = 0) && decide (mr = 0))) := HS
              generalize Zb1 is.length mp = bb at HS ⊢
              cases bb with
              | true =>
                by_cases q0 : mq = 0
                · subst q0
                  by_cases r0 : mr = 0
                  · subst r0
                    go_wp2
                    go_ret
                    exact ⟨retB (by rw [HS.out]; rfl), hBx⟩
                  · have g1 : (mr == 0) = false := by simp [r0]
                    have g2 : decide (mr = 0) = false := by simp [r0]
                    go_wp2
                    go_ret
                    exact ⟨retB (by rw [HS.out, g2]; rfl), hBx⟩
                · have g1 : (mq == 0) = false := by simp [q0]
                  have g2 : decide (mq = 0) = false := by simp [q0]
                  go_wp2
                  go_ret
                  exact ⟨retB (by rw [HS.out, g2]; rfl), hBx⟩
              | false =>
                go_wp2
                go_ret
                exact ⟨retB (by rw [HS.out]; rfl), hBx⟩
            · by_cases t1 : mt = 1
              · subst t1
                replace HS : Hid (Za0 ns is ds xs ⟨mp, ms, me, md, 1, mq, mr⟩ = (Zb1 is.length mp && askB mq && hasI xs mr)) := HS
                generalize Zb1 is.length mp = bb at HS ⊢
                cases bb with
                | true =>
                  go_wp2_with fail
                  refine (Zau mq 13 19 _).mono ?_
                  rintro e w7 ⟨rfl, rfl⟩
                  have hask : askB mq = ((decide (13 <= mq) && decide (mq <= 19)) && decide (mq ≠ 18)) := by
                    unfold askB
                    congr 2
                  rw [hask] at HS
                  generalize (decide (13 <= mq) && decide (mq <= 19)) = b7 at HS ⊢
                  cases b7 with
                  | true =>
                    by_cases q18 : mq = 18
                    · subst q18
                      go_wp2
                      go_ret
                      exact ⟨retB (by rw [HS.out]; rfl), hBx⟩
                    · have g1 : (mq == 18) = false := by simp [q18]
                      have g2 : decide (mq = 18) = false := by simp [q18]
                      have g3 : decide (mq ≠ 18) = true := by simp [q18]
                      go_wp2_with fail
                      refine (Zco _ xs _ _ R5).mono ?_
                      rintro e w8 ⟨rfl, hb8⟩
                      have hB8 := hBx.trans (hb8.mono hBx.size)
                      generalize hasI xs mr = b8 at HS ⊢
                      cases b8 <;>
                        (go_wp2
                         go_ret
                         exact ⟨retB (by rw [HS.out, g3]; first | rfl | simp [q18]), hB8⟩)
                  | false =>
                    go_wp2
                    go_ret
                    exact ⟨retB (by rw [HS.out]; rfl), hBx⟩
                | false =>
                  go_wp2
                  go_ret
                  exact ⟨retB (by rw [HS.out]; rfl), hBx⟩
              · generalize Zb1 is.length mp = bb
                by_cases t2 : mt = 2
                · subst t2
                  replace HS : Hid (Za0 ns is ds xs ⟨mp, ms, me, md, 2, mq, mr⟩ = (decide (mp = 0) && decide (mq = 0) && hasI xs mr)) := HS
                  by_cases p0 : mp = 0
                  · subst p0
                    by_cases q0 : mq = 0
                    · subst q0
                      go_wp2_with fail
                      refine (Zco _ xs _ _ R5).mono ?_
                      rintro e w8 ⟨rfl, hb8⟩
                      have hB8 := hBx.trans (hb8.mono hBx.size)
                      generalize hasI xs mr = b8 at HS ⊢
                      cases b8 <;>
                        (go_wp2
                         go_ret
                         exact ⟨retB (by rw [HS.out]; rfl), hB8⟩)
                    · have g1 : (mq == 0) = false := by simp [q0]
                      have g2 : decide (mq = 0) = false := by simp [q0]
                      go_wp2
                      go_ret
                      exact ⟨retB (by rw [HS.out, g2]; rfl), hBx⟩
                  · have g1 : (mp == 0) = false := by simp [p0]
                    have g2 : decide (mp = 0) = false := by simp [p0]
                    go_wp2
                    go_ret
                    exact ⟨retB (by rw [HS.out, g2]; rfl), hBx⟩
                · by_cases t3 : mt = 3
                  · subst t3
                    replace HS : Hid (Za0 ns is ds xs ⟨mp, ms, me, md, 3, mq, mr⟩ = (decide (mp = 0) && decide (1 <= mq) && decide (mq <= 7) && decide (mr = 0))) := HS
                    by_cases p0 : mp = 0
                    · subst p0
                      go_wp2_with fail
                      refine (Zau mq 1 7 _).mono ?_
                      rintro e w7 ⟨rfl, rfl⟩
                      replace HS : Hid (Za0 ns is ds xs ⟨0, ms, me, md, 3, mq, mr⟩ = ((decide (1 <= mq) && decide (mq <= 7)) && decide (mr = 0))) := by unfold Hid; rw [HS.out]; simp
                      generalize (decide (1 <= mq) && decide (mq <= 7)) = b7 at HS ⊢
                      cases b7 with
                      | true =>
                        by_cases r0 : mr = 0
                        · subst r0
                          go_wp2
                          go_ret
                          exact ⟨retB (by rw [HS.out]; rfl), hBx⟩
                        · have g1 : (mr == 0) = false := by simp [r0]
                          have g2 : decide (mr = 0) = false := by simp [r0]
                          go_wp2
                          go_ret
                          exact ⟨retB (by rw [HS.out, g2]; rfl), hBx⟩
                      | false =>
                        go_wp2
                        go_ret
                        exact ⟨retB (by rw [HS.out]; rfl), hBx⟩
                    · have g1 : (mp == 0) = false := by simp [p0]
                      have g2 : decide (mp = 0) = false := by simp [p0]
                      go_wp2
                      go_ret
                      exact ⟨retB (by rw [HS.out, g2]; rfl), hBx⟩
                  · replace HS : Hid (Za0 ns is ds xs ⟨mp, ms, me, md, mt, mq, mr⟩ = false) := by unfold Hid; rw [HS.out]; unfold Zby; simp [t0, t1, t2, t3]
                    have g0 : (mt == 0) = false := by simp [t0]
                    have g1 : (mt == 1) = false := by simp [t1]
                    have g2 : (mt == 2) = false := by simp [t2]
                    have g3 : (mt == 3) = false := by simp [t3]
                    have f0 : decide (mt = 0) = false := by simp [t0]
                    have f1 : decide (mt = 1) = false := by simp [t1]
                    have f2 : decide (mt = 2) = false := by simp [t2]
                    have f3 : decide (mt = 3) = false := by simp [t3]
                    go_wp2
                    go_ret
                    exact ⟨retB (by rw [HS.out]), hBx⟩
theorem ZjD (k : Nat) (h : k + 1 < 9) : wrap64 (lim k * 128) = lim (k + 1) := by
 have h1 := Zf3 k
 have h2 := ZdH (show k <= 8 by omega)
 have h3 := Zjn (show k <= 7 by omega)
 rw [IntWalk.wrap64_in _ ⟨by omega, by omega⟩]
 simp only [lim]
 omega
theorem ZgQ (v : Value) (zs : List Int) (a : Int) (w : World) (h : Row w v zs) (hlo : -9223372036854775808 <= a) (hhi : a <= 9223372036854775807) :
  Calls Tryz.prog 173 #[v, .int .i64 a] w fun e w' => e = .returned (gV (gN zs a)) /\ w' = w := by
 obtain ⟨ao, cap, rfl, hcap, hm, hz, hcell⟩ := h
 by_cases hneg : a < 0
 ·rw [ZkB zs a hneg]
  go_enter Tryz.func173, Tryz.ntmps173
  go_wp2
  go_ret3
  exact ⟨rfl, rfl⟩
 by_cases hout : (zs.length : Int) <= a
 ·obtain ⟨n, rfl⟩ := Int.eq_ofNat_of_zero_le (show 0 <= a by omega)
  rw [ZcQ zs n ((Sc.start zs n).out (Or.inr (by omega)))]
  go_enter Tryz.func173, Tryz.ntmps173
  go_wp2
  go_ret3
  exact ⟨rfl, rfl⟩
 obtain ⟨n, rfl⟩ := Int.eq_ofNat_of_zero_le (show 0 <= a by omega)
 obtain ⟨g, o, rfl, hg, hcell⟩ := hcell (by intro e; subst e; simp at hout)
 have hn : n < zs.length := by omega
 clear hneg hout hlo hhi
 go_enter Tryz.func173, Tryz.ntmps173
 go_wp2
 go_loop [7, 8, 9] (fun x u i => ∃ (k : Nat) (U : Int) (acc : List Int), k <= 9 /\ n + k <= zs.length /\ i = .int .i64 k /\ u = .int .i64 U /\ x = .int .i64 (val acc) /\ Hid (k < 9 -> U = lim k) /\ Hid (Sc zs n k acc)) (fun _ _ i => 9 - (intOf i).toNat)
 case atStart => exact ⟨0, 1, [], by omega, by omega, rfl, rfl, rfl, fun _ => rfl, Sc.start zs n⟩
 case round =>
  obtain ⟨k, U, acc, hk, hkl, rfl, rfl, rfl, HU, HS⟩ := hrel
  by_cases h9 : k < 9
  ·by_cases hlt : n + k < zs.length
   ·have hc := hcell (n + k) hlt
    have hU := HU.out h9
    have hvb := ZbH acc
    rw [HS.out.1] at hvb
    subst hU
    clear HU
    have hml := ZkR zs[n + k] k
    have hl8 := ZdH (show k <= 8 by omega)
    have hb := hz zs[n + k] (List.getElem_mem _)
    clear hcell hz
    by_cases hb128 : zs[n + k] < 128
    ·have hlast := HS.out.last h9 hlt hb128
     have hal := HS.out.1
     by_cases hz0 : zs[n + k] = 0
     ·by_cases hk0 : 0 < k
      ·have Hv : Hid (gN zs (n : Int) = (0, 0, false)) := Zld zs n acc (by rw [hlast, hz0]) (by omega)
       clear hlast hal
       go_wp2
       go_ret3
       exact ⟨by rw [Hv.out]; rfl, rfl⟩
      ·have Hv : Hid (gN zs (n : Int) = (val acc, (n : Int) + k + 1, true)) := by
        have := ZjC zs n acc zs[n + k] hlast (by omega)
        rw [hal, hz0] at this
        simpa [Hid] using this
       clear hlast hal
       go_wp2
       go_ret3
       exact ⟨by rw [Hv.out]; rfl, rfl⟩
     ·have Hv : Hid (gN zs (n : Int) = (val acc + zs[n + k] % 128 * lim k, (n : Int) + k + 1, true)) := by
       have := ZjC zs n acc zs[n + k] hlast (by omega)
       rw [hal] at this; exact this
      clear hlast hal
      go_wp2
      go_ret3
      exact ⟨by rw [Hv.out]; rfl, rfl⟩
    ·go_wp2
     refine ⟨⟨_, _, _, _, _, _, ⟨k + 1, by omega, by omega, ?ra, wrap64 (lim k * 128), ?rb, acc ++ [zs[n + k]], ?rc, ?rd, HS.out.more h9 hlt (by omega)⟩, rfl, rfl, rfl, rfl, rfl, rfl⟩, by simp [intOf]; omega⟩
     case ra => go_num
     case rb => rfl
     case rc => rw [ZgM, HS.out.1]
     case rd => exact fun h => ZjD k h
   ·have Hv : Hid (gN zs (n : Int) = (0, 0, false)) := ZcQ zs n (HS.out.out (Or.inr (by omega)))
    go_wp2
    go_ret3
    exact ⟨by rw [Hv.out]; rfl, rfl⟩
  ·have Hv : Hid (gN zs (n : Int) = (0, 0, false)) := ZcQ zs n (HS.out.out (Or.inl (by omega)))
   go_wp2
   go_ret3
   exact ⟨by rw [Hv.out]; rfl, rfl⟩
def C8 (w : World) (b : Nat) (v : Value) (at_ : Int) (ok : Bool) : Prop := w.heap[b]? = some (.cells #[v, .int .i64 at_, .bool ok] 197 (0, 0))
theorem Zb5 (b : Nat) (v : Value) (zs : List Int) (at_ : Int) (ok : Bool) (w : World) (R : Row w v zs) (h : C8 w b v at_ ok) (hlo : -9223372036854775808 <= at_) (hhi : at_ <= 9223372036854775807) :
  Calls Tryz.prog 143 #[.pointer (some ⟨b, 0, none⟩)] w fun e w' => e = .returned (.int .i64 (num8 zs at_ ok).1) /\ C8 w' b v (num8 zs at_ ok).2.1 (num8 zs at_ ok).2.2 /\ w.grownBy w' (some b) := by
 have R' := R
 obtain ⟨ao, cap, rfl, _⟩ := R'
 unfold C8 at h
 have c0 : w.cell? ⟨b, 0, none⟩ = some (.slice ao zs.length cap) := cell_of_row _ _ 0 _ _ _ h
 have c1 : w.cell? ⟨b, 1, none⟩ = some (.int .i64 at_) := cell_of_row _ _ 1 _ _ _ h
 have c2 : w.cell? ⟨b, 2, none⟩ = some (.bool ok) := cell_of_row _ _ 2 _ _ _ h
 have f1 : w.frozen? ⟨b, 1, none⟩ = false := frozen_of_row _ _ 1 _ _ h
 have f2 : w.frozen? ⟨b, 2, none⟩ = false := frozen_of_row _ _ 2 _ _ h
 obtain ⟨g, hg⟩ : ∃ g, Hid (gN zs at_ = g) := ⟨_, rfl⟩
 obtain ⟨gx, gn, gk⟩ := g
 have HG : ∀ W : World, Row W (.slice ao zs.length cap) zs -> Calls Tryz.prog 173 #[.slice ao zs.length cap, .int .i64 at_] W fun e w' => e = .returned (.tuple #[.int .i64 gx, .int .i64 gn, .bool gk]) /\ w' = W := fun W RW => by
  have := ZgQ _ zs at_ W RW hlo hhi
  rw [hg.out] at this
  exact this
 have HN : Hid (num8 zs at_ ok = if ok && gk then (gx, gn, true) else (0, at_, false)) := by unfold Hid num8; rw [hg.out]
 have hd : ∀ m, Below w.heap.size w (w.drewN m) := fun m => ⟨rfl, rfl, rfl, Nat.le_refl _, fun _ _ => rfl⟩
 go_enter Tryz.func143, Tryz.ntmps143
 go_wp2_with fail
 go_quiet (first | (go_at_call 173; refine Calls.quiet_of_same (HG _ R)))
 all_goals
  have lt := (bl h)
  have h2 := ((hd nq).block _ lt).trans h
  have g2 : w.grownBy (w.drewN nq) (some b) := ⟨rfl, rfl, rfl, Nat.le_refl _, fun _ _ _ => rfl⟩
  clear c0 c1 c2 f1 f2 hd HG
  generalize w.drewN nq = w2 at *
  have c1 : w2.cell? ⟨b, 1, none⟩ = some (.int .i64 at_) := cell_of_row _ _ 1 _ _ _ h2
  have c2 : w2.cell? ⟨b, 2, none⟩ = some (.bool ok) := cell_of_row _ _ 2 _ _ _ h2
  have f1 : w2.frozen? ⟨b, 1, none⟩ = false := frozen_of_row _ _ 1 _ _ h2
  have f2 : w2.frozen? ⟨b, 2, none⟩ = false := frozen_of_row _ _ 2 _ _ h2
  cases gk with
  | false =>
   have HN2 : Hid (num8 zs at_ ok = (0, at_, false)) := by unfold Hid; rw [HN.out, Bool.and_false]; rfl
   clear HN hg
   go_wp2
   go_ret
   rw [HN2.out]
   exact ⟨rfl, heap_setCell_same w2 b 2 _ _ (.bool false) h2, Zai g2 (Zag w2 b 2 _)⟩
  | true =>
   cases ok with
   | false =>
    have HN2 : Hid (num8 zs at_ false = (0, at_, false)) := HN.out
    clear HN hg
    go_wp2
    go_ret
    rw [HN2.out]
    exact ⟨rfl, heap_setCell_same w2 b 2 _ _ (.bool false) h2, Zai g2 (Zag w2 b 2 _)⟩
   | true =>
    have HN2 : Hid (num8 zs at_ true = (gx, gn, true)) := HN.out
    clear HN hg
    go_wp2
    go_ret
    rw [HN2.out]
    exact ⟨rfl, heap_setCell_same w2 b 1 _ _ (.int .i64 gn) h2, Zai g2 (Zag w2 b 1 _)⟩
end Go.Proofs.YtfmafkebddojjaaGreatDoor
