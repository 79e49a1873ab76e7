/-
  Texts that stood by themselves, laid into one.
-/
import Derived.Test.YtjnhocefnfmhmaaGreatDoorMachM
import Derived.Test.YtjnhocefnfmhmaaGreatDoorSzGenM
import Derived.Test.YtjnhocefnfmhmaaGreatDoorMvMathM
import Derived.Test.YtjnhocefnfmhmaaGreatDoorBoolsM
import Derived.Test.YtjnhocefnfmhmaaGreatDoorITdM
import Derived.Test.YtjnhocefnfmhmaaGreatDoorSTdM
import Derived.Test.YtjnhocefnfmhmaaGreatDoorBsM
/-
  A machine that is right: MachineOk on both sides. No condition.
-/
namespace Go.Proofs.YtjnhocefnfmhmaaGreatDoor
open Go.RowKit

def machB (ns : List Nd) (is : List In) (ds : List Df) (xs : List Nd) (m : Mc) : Bool := codeB ns is ds && poolB xs && allI xs [m.s, m.e, m.d] && stateB is.length xs m

theorem Tryz.sizeCode : (Tryz.prog.info? 44).map (·.size) = some 3 := by kernel_rfl
theorem IRow.lit3 (w : World) (a b c : Int) : IRow (w.alloc (Obj.cells #[.int .i64 a, .int .i64 b, .int .i64 c] 3)) (.slice (some ⟨w.heap.size, 0, none⟩) 3 3) [a, b, c] := by
  refine ⟨_, 3, rfl, ⟨by simp, fun h => by cases h⟩, by simp, fun _ => ⟨_, 0, rfl, by simp, fun i hi => ?_⟩⟩
  rw [cell_of_row _ w.heap.size (0 + i) _ 3 (0, 0) (heap_alloc_new w _)]
  have : i = 0 ∨ i = 1 ∨ i = 2 := by simp at hi; omega
  rcases this with rfl | rfl | rfl <;> rfl

set_option maxRecDepth 100000 in
set_option maxHeartbeats 3200000 in
theorem imachok_any (v1 v2 v3 v : Value) (ns : List Nd) (is : List In) (ds : List Df) (xs : List Nd) (m : Mc) (w : World) (R1 : NRow w v1 ns) (R2 : InRow w v2 is) (R3 : DfRow w v3 ds) (R : NRow w v xs) :
    Calls Tryz.prog 70 #[.agg #[v1, v2, v3], .agg #[v, .int .i64 m.p, .int .i64 m.s, .int .i64 m.e, .int .i64 m.d, .int .i64 m.t, .int .i64 m.q, .int .i64 m.r]] w fun e w' => e = .returned (.bool (machB ns is ds xs m)) ∧ Below w.heap.size w w' := by
  have R' := R
  obtain ⟨ao, cap, rfl, _⟩ := R'
  obtain ⟨a1, c1, rfl⟩ := R1.small
  obtain ⟨a2, c2, rfl⟩ := R2.small
  obtain ⟨a3, c3, rfl⟩ := R3.small
  obtain ⟨hB0, hk0, hx0⟩ := two_boxes w (Obj.cells #[.slice a1 ns.length c1, .slice a2 is.length c2, .slice a3 ds.length c3] 44) (Obj.cells #[.slice ao xs.length cap, .int .i64 m.p, .int .i64 m.s, .int .i64 m.e, .int .i64 m.d, .int .i64 m.t, .int .i64 m.q, .int .i64 m.r] 47)
  go_enter Tryz.func70, Tryz.ntmps70
  go_wp2_with fail
  refine (icodeok_any _ _ _ ns is ds _ (R1.below hB0) (R2.below hB0) (R3.below hB0)).mono ?_
  rintro e w1 ⟨rfl, hb1⟩
  have hB1 := hB0.trans (hb1.mono hB0.size)
  have hk1 := (hb1.block _ (Array.getElem?_eq_some_iff.1 hk0).1).trans hk0
  have hx1 := (hb1.block _ (Array.getElem?_eq_some_iff.1 hx0).1).trans hx0
  clear hB0 hk0 hx0 hb1
  have HM : Hid (machB ns is ds xs m = (codeB ns is ds && poolB xs && allI xs [m.s, m.e, m.d] && stateB is.length xs m)) := rfl
  have k0 : w1.cell? ⟨w.heap.size + 1, 0, none⟩ = some (.slice ao xs.length cap) := by rw [cell_of_row w1 _ 0 _ _ _ hx1]; rfl
  generalize codeB ns is ds = b1 at HM ⊢
  cases b1 with
  | false =>
    go_wp2
    go_ret
    exact ⟨retB (by rw [HM.out]; rfl), hB1⟩
  | true =>
    go_wp2_with fail
    refine (ipool_any _ xs _ (R.below hB1)).mono ?_
    rintro e w2 ⟨rfl, hb2⟩
    have hB2 := hB1.trans (hb2.mono hB1.size)
    have hk2 := (hb2.block _ (Array.getElem?_eq_some_iff.1 hk1).1).trans hk1
    have hx2 := (hb2.block _ (Array.getElem?_eq_some_iff.1 hx1).1).trans hx1
    clear hB1 hk1 hx1 hb2 k0
    have k0 : w2.cell? ⟨w.heap.size + 1, 0, none⟩ = some (.slice ao xs.length cap) := by rw [cell_of_row w2 _ 0 _ _ _ hx2]; rfl
    have k2 : w2.cell? ⟨w.heap.size + 1, 0 + 2, none⟩ = some (.int .i64 m.s) := by rw [cell_of_row w2 _ 2 _ _ _ hx2]; rfl
    have k3 : w2.cell? ⟨w.heap.size + 1, 0 + 3, none⟩ = some (.int .i64 m.e) := by rw [cell_of_row w2 _ 3 _ _ _ hx2]; rfl
    have k4 : w2.cell? ⟨w.heap.size + 1, 0 + 4, none⟩ = some (.int .i64 m.d) := by rw [cell_of_row w2 _ 4 _ _ _ hx2]; rfl
    generalize poolB xs = b2 at HM ⊢
    cases b2 with
    | false =>
      go_wp2
      go_ret
      exact ⟨retB (by rw [HM.out]; rfl), hB2⟩
    | true =>
      have hBa : Below w2.heap.size w2 (w2.alloc (Obj.cells #[.int .i64 m.s, .int .i64 m.e, .int .i64 m.d] 3)) := (Below.refl _ _).alloc (Nat.le_refl _) _
      go_wp2_with fail
      refine (hasall_any _ _ xs [m.s, m.e, m.d] _ (R.below (hB2.trans (hBa.mono hB2.size))) (IRow.lit3 w2 m.s m.e m.d)).mono ?_
      rintro e w3 ⟨rfl, hb3⟩
      have hb23 := hBa.trans (hb3.mono hBa.size)
      have hB3 := hB2.trans (hb23.mono hB2.size)
      have hk3 := (hb23.block _ (Array.getElem?_eq_some_iff.1 hk2).1).trans hk2
      have hx3 := (hb23.block _ (Array.getElem?_eq_some_iff.1 hx2).1).trans hx2
      clear hB2 hk2 hx2 hb3 hb23 hBa k0 k2 k3 k4
      generalize allI xs [m.s, m.e, m.d] = b3 at HM ⊢
      cases b3 with
      | false =>
        go_wp2
        go_ret
        exact ⟨retB (by rw [HM.out]; rfl), hB3⟩
      | true =>
        have l0 : w3.cell? ⟨w.heap.size, 0, none⟩ = some (.slice a1 ns.length c1) := cell_of_row w3 _ 0 _ _ _ hk3
        have l1 : w3.cell? ⟨w.heap.size, 1, none⟩ = some (.slice a2 is.length c2) := cell_of_row w3 _ 1 _ _ _ hk3
        have l2 : w3.cell? ⟨w.heap.size, 2, none⟩ = some (.slice a3 ds.length c3) := cell_of_row w3 _ 2 _ _ _ hk3
        have k0 : w3.cell? ⟨w.heap.size + 1, 0, none⟩ = some (.slice ao xs.length cap) := cell_of_row w3 _ 0 _ _ _ hx3
        have k1 : w3.cell? ⟨w.heap.size + 1, 1, none⟩ = some (.int .i64 m.p) := cell_of_row w3 _ 1 _ _ _ hx3
        have k2 : w3.cell? ⟨w.heap.size + 1, 2, none⟩ = some (.int .i64 m.s) := cell_of_row w3 _ 2 _ _ _ hx3
        have k3 : w3.cell? ⟨w.heap.size + 1, 3, none⟩ = some (.int .i64 m.e) := cell_of_row w3 _ 3 _ _ _ hx3
        have k4 : w3.cell? ⟨w.heap.size + 1, 4, none⟩ = some (.int .i64 m.d) := cell_of_row w3 _ 4 _ _ _ hx3
        have k5 : w3.cell? ⟨w.heap.size + 1, 5, none⟩ = some (.int .i64 m.t) := cell_of_row w3 _ 5 _ _ _ hx3
        have k6 : w3.cell? ⟨w.heap.size + 1, 6, none⟩ = some (.int .i64 m.q) := cell_of_row w3 _ 6 _ _ _ hx3
        have k7 : w3.cell? ⟨w.heap.size + 1, 7, none⟩ = some (.int .i64 m.r) := cell_of_row w3 _ 7 _ _ _ hx3
        go_wp2_with fail
        refine (istatefits_any _ _ _ _ _ _ _ _ _ _ xs m _ (R.below hB3)).mono ?_
        rintro e w4 ⟨rfl, hb4⟩
        have hB4 := hB3.trans (hb4.mono hB3.size)
        generalize stateB is.length xs m = b4 at HM ⊢
        cases b4 <;>
          (go_wp2
           go_ret
           exact ⟨retB (by rw [HM.out]; rfl), hB4⟩)
end Go.Proofs.YtjnhocefnfmhmaaGreatDoor

/-
  A machine that is right, on the specification's side: MachineOk. No condition.
-/
namespace Go.Proofs.YtjnhocefnfmhmaaGreatDoor
open Go.RowKit

/-- The boxes of a code and a machine, in a world. -/
structure MBox (w : World) (b : Nat) (cc mc : Array Value) : Prop where
  code : w.heap[b]? = some (.cells cc 44 (0, 0))
  mach : w.heap[b + 1]? = some (.cells mc 47 (0, 0))
theorem MBox.below {w w' : World} {b : Nat} {cc mc : Array Value} (h : MBox w b cc mc) (hb : Below w.heap.size w w') : MBox w' b cc mc :=
  ⟨(hb.block _ (Array.getElem?_eq_some_iff.1 h.code).1).trans h.code, (hb.block _ (Array.getElem?_eq_some_iff.1 h.mach).1).trans h.mach⟩

set_option maxRecDepth 100000 in
set_option maxHeartbeats 6400000 in
theorem smachok_any (v1 v2 v3 v : Value) (ns : List Nd) (is : List In) (ds : List Df) (xs : List Nd) (m : Mc) (w : World) (R1 : NRow w v1 ns) (R2 : InRow w v2 is) (R3 : DfRow w v3 ds) (R : NRow w v xs) :
    Calls Tryz.prog 60 #[.agg #[v1, v2, v3], .agg #[v, .int .i64 m.p, .int .i64 m.s, .int .i64 m.e, .int .i64 m.d, .int .i64 m.t, .int .i64 m.q, .int .i64 m.r]] w fun e w' => e = .returned (.bool (machB ns is ds xs m)) ∧ Below w.heap.size w w' := by
  have hn2 : is.length ≤ 9223372036854775807 := by obtain ⟨_, _, _, _, hm, _⟩ := R2; exact hm
  have R' := R
  obtain ⟨ao, cap, rfl, _⟩ := R'
  obtain ⟨a1, c1, rfl⟩ := R1.small
  obtain ⟨a2, c2, rfl⟩ := R2.small
  obtain ⟨a3, c3, rfl⟩ := R3.small
  obtain ⟨mp, ms, me, md, mt, mq, mr⟩ := m
  obtain ⟨hB0, hk0, hx0⟩ := two_boxes w (Obj.cells #[.slice a1 ns.length c1, .slice a2 is.length c2, .slice a3 ds.length c3] 44) (Obj.cells #[.slice ao xs.length cap, .int .i64 mp, .int .i64 ms, .int .i64 me, .int .i64 md, .int .i64 mt, .int .i64 mq, .int .i64 mr] 47)
  have X0 : MBox _ w.heap.size #[.slice a1 ns.length c1, .slice a2 is.length c2, .slice a3 ds.length c3] #[.slice ao xs.length cap, .int .i64 mp, .int .i64 ms, .int .i64 me, .int .i64 md, .int .i64 mt, .int .i64 mq, .int .i64 mr] := ⟨hk0, hx0⟩
  go_enter Tryz.func60, Tryz.ntmps60
  go_wp2_with fail
  refine (scodeok_any _ _ _ ns is ds _ (R1.below hB0) (R2.below hB0) (R3.below hB0)).mono ?_
  rintro e w1 ⟨rfl, hb1⟩
  have hB1 := hB0.trans (hb1.mono hB0.size)
  have X1 := X0.below hb1
  clear hB0 hk0 hx0 hb1 X0
  have HM : Hid (machB ns is ds xs ⟨mp, ms, me, md, mt, mq, mr⟩ = (codeB ns is ds && poolB xs && (hasI xs ms && (hasI xs me && (hasI xs md && true))) && stateB is.length xs ⟨mp, ms, me, md, mt, mq, mr⟩)) := rfl
  have k0 : w1.cell? ⟨w.heap.size + 1, 0, none⟩ = some (.slice ao xs.length cap) := cell_of_row w1 _ 0 _ _ _ X1.mach
  generalize codeB ns is ds = b1 at HM ⊢
  cases b1 with
  | false =>
    go_wp2
    go_ret
    exact ⟨retB (by rw [HM.out]; rfl), hB1⟩
  | true =>
    go_wp2_with fail
    refine (spool_any _ xs _ (R.below hB1)).mono ?_
    rintro e w2 ⟨rfl, hb2⟩
    have hB2 := hB1.trans (hb2.mono hB1.size)
    have X2 := X1.below hb2
    clear hB1 X1 hb2 k0
    have k0 : w2.cell? ⟨w.heap.size + 1, 0, none⟩ = some (.slice ao xs.length cap) := cell_of_row w2 _ 0 _ _ _ X2.mach
    have k2 : w2.cell? ⟨w.heap.size + 1, 0 + 2, none⟩ = some (.int .i64 ms) := cell_of_row w2 _ 2 _ _ _ X2.mach
    generalize poolB xs = b2 at HM ⊢
    cases b2 with
    | false =>
      go_wp2
      go_ret
      exact ⟨retB (by rw [HM.out]; rfl), hB2⟩
    | true =>
      go_wp2_with fail
      refine (shas_all _ xs _ _ (R.below hB2)).mono ?_
      rintro e w3 ⟨rfl, hb3⟩
      have hB3 := hB2.trans (hb3.mono hB2.size)
      have X3 := X2.below hb3
      clear hB2 X2 hb3 k0 k2
      have k0 : w3.cell? ⟨w.heap.size + 1, 0, none⟩ = some (.slice ao xs.length cap) := cell_of_row w3 _ 0 _ _ _ X3.mach
      have k3 : w3.cell? ⟨w.heap.size + 1, 0 + 3, none⟩ = some (.int .i64 me) := cell_of_row w3 _ 3 _ _ _ X3.mach
      generalize hasI xs ms = b3 at HM ⊢
      cases b3 with
      | false =>
        go_wp2
        go_ret
        exact ⟨retB (by rw [HM.out]; simp), hB3⟩
      | true =>
        go_wp2_with fail
        refine (shas_all _ xs _ _ (R.below hB3)).mono ?_
        rintro e w4 ⟨rfl, hb4⟩
        have hB4 := hB3.trans (hb4.mono hB3.size)
        have X4 := X3.below hb4
        clear hB3 X3 hb4 k0 k3
        have k0 : w4.cell? ⟨w.heap.size + 1, 0, none⟩ = some (.slice ao xs.length cap) := cell_of_row w4 _ 0 _ _ _ X4.mach
        have k4 : w4.cell? ⟨w.heap.size + 1, 0 + 4, none⟩ = some (.int .i64 md) := cell_of_row w4 _ 4 _ _ _ X4.mach
        generalize hasI xs me = b4 at HM ⊢
        cases b4 with
        | false =>
          go_wp2
          go_ret
          exact ⟨retB (by rw [HM.out]; simp), hB4⟩
        | true =>
          go_wp2_with fail
          refine (shas_all _ xs _ _ (R.below hB4)).mono ?_
          rintro e w5 ⟨rfl, hb5⟩
          have hB5 := hB4.trans (hb5.mono hB4.size)
          have X5 := X4.below hb5
          clear hB4 X4 hb5 k0 k4
          have k0 : w5.cell? ⟨w.heap.size + 1, 0, none⟩ = some (.slice ao xs.length cap) := cell_of_row w5 _ 0 _ _ _ X5.mach
          generalize hasI xs md = b5 at HM ⊢
          cases b5 with
          | false =>
            go_wp2
            go_ret
            exact ⟨retB (by rw [HM.out]; simp), hB5⟩
          | true =>
            have HS : Hid (machB ns is ds xs ⟨mp, ms, me, md, mt, mq, mr⟩ = stateB is.length xs ⟨mp, ms, me, md, mt, mq, mr⟩) := by unfold Hid; rw [HM.out]; simp
            clear HM
            have hBx := hB5
            have k1 : w5.cell? ⟨w.heap.size + 1, 0 + 1, none⟩ = some (.int .i64 mp) := cell_of_row w5 _ 1 _ _ _ X5.mach
            have k5 : w5.cell? ⟨w.heap.size + 1, 0 + 5, none⟩ = some (.int .i64 mt) := cell_of_row w5 _ 5 _ _ _ X5.mach
            have k6 : w5.cell? ⟨w.heap.size + 1, 0 + 6, none⟩ = some (.int .i64 mq) := cell_of_row w5 _ 6 _ _ _ X5.mach
            have k7 : w5.cell? ⟨w.heap.size + 1, 0 + 7, none⟩ = some (.int .i64 mr) := cell_of_row w5 _ 7 _ _ _ X5.mach
            have l1 : w5.cell? ⟨w.heap.size, 0 + 1, none⟩ = some (.slice a2 is.length c2) := cell_of_row w5 _ 1 _ _ _ X5.code
            have R5 := R.below hB5
            clear X5
            go_wp2_with fail
            refine (lin_any mp 0 ((is.length : Int) - 1) _).mono ?_
            rintro e w6 ⟨rfl, rfl⟩
            have hpl : (decide (0 ≤ mp) && decide (mp ≤ (is.length : Int) - 1)) = placeB is.length mp := by
              unfold placeB
              congr 1
              rw [decide_eq_decide]
              omega
            rw [hpl]
            by_cases t0 : mt = 0
            · subst t0
              replace HS : Hid (machB ns is ds xs ⟨mp, ms, me, md, 0, mq, mr⟩ = (placeB is.length mp && decide (mq = 0) && decide (mr = 0))) := HS
              generalize placeB is.length mp = bb at HS ⊢
              cases bb with
              | true =>
                by_cases q0 : mq = 0
                · subst q0
                  by_cases r0 : mr = 0
                  · subst r0
                    go_wp2
                    go_ret
                    exact ⟨retB (by rw [HS.out]; rfl), hBx⟩
                  · have g1 : (mr == 0) = false := by simp [r0]
                    have g2 : decide (mr = 0) = false := by simp [r0]
                    go_wp2
                    go_ret
                    exact ⟨retB (by rw [HS.out, g2]; rfl), hBx⟩
                · have g1 : (mq == 0) = false := by simp [q0]
                  have g2 : decide (mq = 0) = false := by simp [q0]
                  go_wp2
                  go_ret
                  exact ⟨retB (by rw [HS.out, g2]; rfl), hBx⟩
              | false =>
                go_wp2
                go_ret
                exact ⟨retB (by rw [HS.out]; rfl), hBx⟩
            · by_cases t1 : mt = 1
              · subst t1
                replace HS : Hid (machB ns is ds xs ⟨mp, ms, me, md, 1, mq, mr⟩ = (placeB is.length mp && askB mq && hasI xs mr)) := HS
                generalize placeB is.length mp = bb at HS ⊢
                cases bb with
                | true =>
                  go_wp2_with fail
                  refine (lin_any mq 13 19 _).mono ?_
                  rintro e w7 ⟨rfl, rfl⟩
                  have hask : askB mq = ((decide (13 ≤ mq) && decide (mq ≤ 19)) && decide (mq ≠ 18)) := by
                    unfold askB
                    congr 2
                  rw [hask] at HS
                  generalize (decide (13 ≤ mq) && decide (mq ≤ 19)) = b7 at HS ⊢
                  cases b7 with
                  | true =>
                    by_cases q18 : mq = 18
                    · subst q18
                      go_wp2
                      go_ret
                      exact ⟨retB (by rw [HS.out]; rfl), hBx⟩
                    · have g1 : (mq == 18) = false := by simp [q18]
                      have g2 : decide (mq = 18) = false := by simp [q18]
                      have g3 : decide (mq ≠ 18) = true := by simp [q18]
                      go_wp2_with fail
                      refine (shas_all _ xs _ _ R5).mono ?_
                      rintro e w8 ⟨rfl, hb8⟩
                      have hB8 := hBx.trans (hb8.mono hBx.size)
                      generalize hasI xs mr = b8 at HS ⊢
                      cases b8 <;>
                        (go_wp2
                         go_ret
                         exact ⟨retB (by rw [HS.out, g3]; first | rfl | simp [q18]), hB8⟩)
                  | false =>
                    go_wp2
                    go_ret
                    exact ⟨retB (by rw [HS.out]; rfl), hBx⟩
                | false =>
                  go_wp2
                  go_ret
                  exact ⟨retB (by rw [HS.out]; rfl), hBx⟩
              · generalize placeB is.length mp = bb
                by_cases t2 : mt = 2
                · subst t2
                  replace HS : Hid (machB ns is ds xs ⟨mp, ms, me, md, 2, mq, mr⟩ = (decide (mp = 0) && decide (mq = 0) && hasI xs mr)) := HS
                  by_cases p0 : mp = 0
                  · subst p0
                    by_cases q0 : mq = 0
                    · subst q0
                      go_wp2_with fail
                      refine (shas_all _ xs _ _ R5).mono ?_
                      rintro e w8 ⟨rfl, hb8⟩
                      have hB8 := hBx.trans (hb8.mono hBx.size)
                      generalize hasI xs mr = b8 at HS ⊢
                      cases b8 <;>
                        (go_wp2
                         go_ret
                         exact ⟨retB (by rw [HS.out]; rfl), hB8⟩)
                    · have g1 : (mq == 0) = false := by simp [q0]
                      have g2 : decide (mq = 0) = false := by simp [q0]
                      go_wp2
                      go_ret
                      exact ⟨retB (by rw [HS.out, g2]; rfl), hBx⟩
                  · have g1 : (mp == 0) = false := by simp [p0]
                    have g2 : decide (mp = 0) = false := by simp [p0]
                    go_wp2
                    go_ret
                    exact ⟨retB (by rw [HS.out, g2]; rfl), hBx⟩
                · by_cases t3 : mt = 3
                  · subst t3
                    replace HS : Hid (machB ns is ds xs ⟨mp, ms, me, md, 3, mq, mr⟩ = (decide (mp = 0) && decide (1 ≤ mq) && decide (mq ≤ 7) && decide (mr = 0))) := HS
                    by_cases p0 : mp = 0
                    · subst p0
                      go_wp2_with fail
                      refine (lin_any mq 1 7 _).mono ?_
                      rintro e w7 ⟨rfl, rfl⟩
                      replace HS : Hid (machB ns is ds xs ⟨0, ms, me, md, 3, mq, mr⟩ = ((decide (1 ≤ mq) && decide (mq ≤ 7)) && decide (mr = 0))) := by unfold Hid; rw [HS.out]; simp
                      generalize (decide (1 ≤ mq) && decide (mq ≤ 7)) = b7 at HS ⊢
                      cases b7 with
                      | true =>
                        by_cases r0 : mr = 0
                        · subst r0
                          go_wp2
                          go_ret
                          exact ⟨retB (by rw [HS.out]; rfl), hBx⟩
                        · have g1 : (mr == 0) = false := by simp [r0]
                          have g2 : decide (mr = 0) = false := by simp [r0]
                          go_wp2
                          go_ret
                          exact ⟨retB (by rw [HS.out, g2]; rfl), hBx⟩
                      | false =>
                        go_wp2
                        go_ret
                        exact ⟨retB (by rw [HS.out]; rfl), hBx⟩
                    · have g1 : (mp == 0) = false := by simp [p0]
                      have g2 : decide (mp = 0) = false := by simp [p0]
                      go_wp2
                      go_ret
                      exact ⟨retB (by rw [HS.out, g2]; rfl), hBx⟩
                  · replace HS : Hid (machB ns is ds xs ⟨mp, ms, me, md, mt, mq, mr⟩ = false) := by unfold Hid; rw [HS.out]; unfold stateB; simp [t0, t1, t2, t3]
                    have g0 : (mt == 0) = false := by simp [t0]
                    have g1 : (mt == 1) = false := by simp [t1]
                    have g2 : (mt == 2) = false := by simp [t2]
                    have g3 : (mt == 3) = false := by simp [t3]
                    have f0 : decide (mt = 0) = false := by simp [t0]
                    have f1 : decide (mt = 1) = false := by simp [t1]
                    have f2 : decide (mt = 2) = false := by simp [t2]
                    have f3 : decide (mt = 3) = false := by simp [t3]
                    go_wp2
                    go_ret
                    exact ⟨retB (by rw [HS.out]), hBx⟩
end Go.Proofs.YtjnhocefnfmhmaaGreatDoor

/-
  What MachinePack answers, and the contracts of both MachinePack. No condition.
-/
namespace Go.Proofs.YtjnhocefnfmhmaaGreatDoor
open Go.RowKit

def mpN (M : Mc) : List Int := [M.p, M.t, M.q, M.s, M.e, M.d, M.r]
def mpL (xs : List Nd) (m : Mc) : List Int := (mpN (tdM xs m)).flatMap encI ++ wireL (tdL xs m)
def mpR (ns : List Nd) (is : List In) (ds : List Df) (xs : List Nd) (m : Mc) : ByteArray := if machB ns is ds xs m then strOfNums (mpL xs m) else ByteArray.empty

theorem machB_parts {ns : List Nd} {is : List In} {ds : List Df} {xs : List Nd} {m : Mc} (h : machB ns is ds xs m = true) : poolB xs = true ∧ allI xs (tdR m) = true ∧ m.p ≤ 400 ∧ m.t ≤ 3 ∧ m.q ≤ 19 ∧ m.r ≤ 3000 := by
  simp only [machB, Bool.and_eq_true] at h
  obtain ⟨⟨⟨hc, hp⟩, ha⟩, hs⟩ := h
  have hl := pool_small hp
  have hi : is.length ≤ 400 := by simp only [codeB, Bool.and_eq_true, decide_eq_true_eq] at hc; exact hc.1.2.1
  refine ⟨hp, ?_⟩
  unfold stateB at hs
  split at hs
  · rename_i h0
    simp only [placeB, Bool.and_eq_true, decide_eq_true_eq] at hs
    refine ⟨?_, by omega, by omega, by omega, by omega⟩
    unfold tdR argB
    simpa [h0] using ha
  · split at hs
    · rename_i h0
      simp only [placeB, askB, hasI, Bool.and_eq_true, decide_eq_true_eq] at hs
      refine ⟨?_, by omega, by omega, by omega, by omega⟩
      unfold tdR argB
      simp only [allI, List.all_cons, List.all_nil, Bool.and_true, Bool.and_eq_true, hasI, decide_eq_true_eq] at ha
      simp [h0, allI, hasI]
      omega
    · split at hs
      · rename_i h0
        simp only [hasI, Bool.and_eq_true, decide_eq_true_eq] at hs
        refine ⟨?_, by omega, by omega, by omega, by omega⟩
        unfold tdR argB
        simp only [allI, List.all_cons, List.all_nil, Bool.and_true, Bool.and_eq_true, hasI, decide_eq_true_eq] at ha
        simp [h0, allI, hasI]
        omega
      · split at hs
        · rename_i h0
          simp only [Bool.and_eq_true, decide_eq_true_eq] at hs
          refine ⟨?_, by omega, by omega, by omega, by omega⟩
          unfold tdR argB
          simpa [h0] using ha
        · cases hs

theorem tdF_small (xs : List Nd) (m : Mc) (hp : poolB xs = true) (ha : allI xs (tdR m) = true) (r : Int) (hr : r ∈ tdR m) : tdF xs m r ≤ 3000 := by
  have hl := pool_small hp
  have hh : hasI xs r = true := by
    unfold allI at ha
    exact List.all_eq_true.1 ha r hr
  simp only [hasI, Bool.and_eq_true, decide_eq_true_eq] at hh
  have ht := reach_root xs (tdR m) r hr hh.1 hh.2
  have I := mv_all 0 xs (reachL xs (tdR m)) (fun i x h => poolB_at hp h) (reach_closed xs (tdR m) (fun i x h => poolB_at hp h))
  obtain ⟨x, hx⟩ : ∃ x, xs[r.toNat]? = some x := ⟨xs[r.toNat]'(by omega), by simp⟩
  obtain ⟨p, e1, e2, _⟩ := I.at_ r.toNat x (by omega) hx ht
  unfold tdF
  rw [e1]
  omega
theorem td_small {ns : List Nd} {is : List In} {ds : List Df} {xs : List Nd} {m : Mc} (h : machB ns is ds xs m = true) : (∀ z ∈ mpN (tdM xs m), z ≤ 9223372036854775807) ∧ (∀ x ∈ tdL xs m, NdOk x) ∧ (tdL xs m).length ≤ 3000 := by
  obtain ⟨hp, ha, h1, h2, h3, h4⟩ := machB_parts h
  have hl := pool_small hp
  have hok : tdOk xs m = true := by unfold tdOk; rw [hp, ha]; rfl
  have hm := mvN_len 0 xs (tdR m)
  refine ⟨?_, ?_, ?_⟩
  · have e1 := tdF_small xs m hp ha m.s (by unfold tdR; split <;> simp)
    have e2 := tdF_small xs m hp ha m.e (by unfold tdR; split <;> simp)
    have e3 := tdF_small xs m hp ha m.d (by unfold tdR; split <;> simp)
    have e4 : (if argB m then tdF xs m m.r else m.r) ≤ 3000 := by
      split
      · rename_i hA; exact tdF_small xs m hp ha m.r (by unfold tdR; rw [if_pos hA]; simp)
      · exact h4
    intro z hz
    unfold mpN tdM at hz
    rw [hok, if_pos rfl] at hz
    simp only [List.mem_cons, List.not_mem_nil, or_false] at hz
    rcases hz with rfl | rfl | rfl | rfl | rfl | rfl | rfl <;> omega
  · unfold tdL
    rw [hok, if_pos rfl]
    exact mv_right 0 xs (tdR m) hp (by omega)
  · unfold tdL
    rw [hok, if_pos rfl]
    omega
theorem mpN_len (M : Mc) : ((mpN M).flatMap encI).length ≤ 63 := nums_len (mpN M)

set_option maxRecDepth 100000 in
set_option maxHeartbeats 6400000 in
theorem impack_any (v1 v2 v3 v : Value) (ns : List Nd) (is : List In) (ds : List Df) (xs : List Nd) (m : Mc) (w : World) (R1 : NRow w v1 ns) (R2 : InRow w v2 is) (R3 : DfRow w v3 ds) (R : NRow w v xs) :
    Calls Tryz.prog 34 #[.agg #[v1, v2, v3], .agg #[v, .int .i64 m.p, .int .i64 m.s, .int .i64 m.e, .int .i64 m.d, .int .i64 m.t, .int .i64 m.q, .int .i64 m.r]] w fun e w' => e = .returned (.tuple #[.string (mpR ns is ds xs m), .bool (machB ns is ds xs m)]) ∧ Below w.heap.size w w' := by
  have R' := R
  obtain ⟨ao, cap, rfl, _⟩ := R'
  obtain ⟨a1, c1, rfl⟩ := R1.small
  obtain ⟨a2, c2, rfl⟩ := R2.small
  obtain ⟨a3, c3, rfl⟩ := R3.small
  obtain ⟨hB0, hk0, hx0⟩ := two_boxes w (Obj.cells #[.slice a1 ns.length c1, .slice a2 is.length c2, .slice a3 ds.length c3] 44) (Obj.cells #[.slice ao xs.length cap, .int .i64 m.p, .int .i64 m.s, .int .i64 m.e, .int .i64 m.d, .int .i64 m.t, .int .i64 m.q, .int .i64 m.r] 47)
  go_enter Tryz.func34, Tryz.ntmps34
  go_wp2_with fail
  refine (imachok_any _ _ _ _ ns is ds xs m _ (R1.below hB0) (R2.below hB0) (R3.below hB0) (R.below hB0)).mono ?_
  rintro e w1 ⟨rfl, hb1⟩
  have hB1 := hB0.trans (hb1.mono hB0.size)
  have hx1 := (hb1.block _ (Array.getElem?_eq_some_iff.1 hx0).1).trans hx0
  clear hB0 hk0 hx0 hb1
  cases hm : machB ns is ds xs m with
  | false =>
    have HR : Hid (mpR ns is ds xs m = ByteArray.empty) := by unfold Hid mpR; rw [hm]; rfl
    go_wp2
    go_ret2
    exact ⟨by rw [HR.out, hm]; rfl, hB1⟩
  | true =>
    have HR : Hid (mpR ns is ds xs m = strOfNums (mpL xs m)) := by unfold Hid mpR; rw [hm]; rfl
    have HL : Hid (mpL xs m = (mpN (tdM xs m)).flatMap encI ++ wireL (tdL xs m)) := rfl
    obtain ⟨hz, hok, hlq⟩ := td_small hm
    have hlx := pool_small (machB_parts hm).1
    have IT := fun (v : Value) (w : World) (R : NRow w v xs) => itidy_any v xs m w R (by omega)
    generalize tdL xs m = Q at *
    generalize tdM xs m = M at *
    go_wp2_with (refine wpList_load_row rfl 47 _ rfl (w.heap.size + 1) rfl 47 #[.slice ao xs.length cap, .int .i64 m.p, .int .i64 m.s, .int .i64 m.e, .int .i64 m.d, .int .i64 m.t, .int .i64 m.q, .int .i64 m.r] (0, 0) _ hx1 Tryz.underlying47 rfl Tryz.sizeMach ?_)
    refine (IT _ _ (R.below hB1)).mono ?_
    rintro e w2 ⟨v2, rfl, ho2, hb2⟩
    obtain ⟨aq, cq, rfl⟩ := own_form ho2
    have hB2 := hB1.trans (hb2.mono hB1.size)
    have hx2 := (hb2.block _ (Array.getElem?_eq_some_iff.1 hx1).1).trans hx1
    have hlt : w.heap.size + 1 < w1.heap.size := (Array.getElem?_eq_some_iff.1 hx1).1
    clear hB1 hx1 hb2
    go_wp2_with (refine wpList_store_own2 rfl 47 _ _ rfl (w.heap.size + 1) #[.slice aq Q.length cq, .int .i64 M.p, .int .i64 M.s, .int .i64 M.e, .int .i64 M.d, .int .i64 M.t, .int .i64 M.q, .int .i64 M.r] rfl rfl 47 #[.slice ao xs.length cap, .int .i64 m.p, .int .i64 m.s, .int .i64 m.e, .int .i64 m.d, .int .i64 m.t, .int .i64 m.q, .int .i64 m.r] hx2 Tryz.sizeMach rfl (by simp [Value.oneCell']) ?_)
    intro wB hvB hbB hsB hkB
    have hBB := hB2.trans (hbB.mono (by omega))
    have RQ : NRow wB (.slice aq Q.length cq) Q := nrow_same (NRow.of_own ho2 (by omega) (ndok_max hok)) (fun g hg => hkB g (fun e => own_ne ho2 hx2 (by decide) (by rw [hg, e]))) (by omega)
    have e0 : wB.cell? ⟨w.heap.size + 1, 0, none⟩ = some (.slice aq Q.length cq) := cell_of_row wB _ 0 _ _ _ hvB
    have e1 : wB.cell? ⟨w.heap.size + 1, 1, none⟩ = some (.int .i64 M.p) := cell_of_row wB _ 1 _ _ _ hvB
    have e2 : wB.cell? ⟨w.heap.size + 1, 2, none⟩ = some (.int .i64 M.s) := cell_of_row wB _ 2 _ _ _ hvB
    have e3 : wB.cell? ⟨w.heap.size + 1, 3, none⟩ = some (.int .i64 M.e) := cell_of_row wB _ 3 _ _ _ hvB
    have e4 : wB.cell? ⟨w.heap.size + 1, 4, none⟩ = some (.int .i64 M.d) := cell_of_row wB _ 4 _ _ _ hvB
    have e5 : wB.cell? ⟨w.heap.size + 1, 5, none⟩ = some (.int .i64 M.t) := cell_of_row wB _ 5 _ _ _ hvB
    have e6 : wB.cell? ⟨w.heap.size + 1, 6, none⟩ = some (.int .i64 M.q) := cell_of_row wB _ 6 _ _ _ hvB
    have e7 : wB.cell? ⟨w.heap.size + 1, 7, none⟩ = some (.int .i64 M.r) := cell_of_row wB _ 7 _ _ _ hvB
    have hltB : w.heap.size + 1 < wB.heap.size := (Array.getElem?_eq_some_iff.1 hvB).1
    clear hB2 hx2 ho2 hbB hsB hkB
    have hdl : Below wB.heap.size wB (wB.alloc (Obj.cells (iv (mpN M)).toArray 3)) := (Below.refl _ _).alloc (Nat.le_refl _) _
    have hll := mpN_len M
    go_wp2_with fail
    refine (putnums_any (.slice none 0 0) [] wB.heap.size wB.heap.size (mpN M) _ ⟨rfl, Or.inl ⟨rfl, rfl⟩⟩ hdl.size (heap_alloc_new _ _) hz (by simp [mpN]) (by simp)).mono ?_
    rintro e w5 ⟨v5, rfl, own5, bel5, st5⟩
    have own5' : OwnB w5 wB.heap.size v5 ((mpN M).flatMap encI) := by rw [List.nil_append] at own5; exact own5
    have bB5 := hdl.trans (bel5.mono (Nat.le_refl _))
    have hv5 := (bB5.block _ hltB).trans hvB
    have f0 : w5.cell? ⟨w.heap.size + 1, 0, none⟩ = some (.slice aq Q.length cq) := cell_of_row w5 _ 0 _ _ _ hv5
    clear own5 bel5 st5 hdl e0 e1 e2 e3 e4 e5 e6 e7
    go_wp2_with fail
    refine (putnodes_any wB w5 _ _ ((mpN M).flatMap encI) Q own5' bB5 RQ hok hlq (by omega)).mono ?_
    rintro e w6 ⟨v6, rfl, ho6, hb6⟩
    obtain ⟨bb, hbb⟩ : ∃ bb, Hid ((mpN M).flatMap encI ++ wireL Q = bb) := ⟨_, rfl⟩
    rw [hbb.out] at ho6
    obtain ⟨a6, k6, rfl⟩ := own_form ho6
    have hB6 := hBB.trans (hb6.mono hBB.size)
    have hT := own_text ho6
    go_wp2_with (refine wpList_bytes_text _ rfl _ 66 9 5 rfl Tryz.underlying66 Tryz.underlying9 Tryz.underlying5 a6 bb.length k6 bb rfl rfl hT ?_)
    go_ret2
    exact ⟨by rw [HR.out, HL.out, hbb.out, hm]; rfl, hB6⟩
end Go.Proofs.YtjnhocefnfmhmaaGreatDoor
