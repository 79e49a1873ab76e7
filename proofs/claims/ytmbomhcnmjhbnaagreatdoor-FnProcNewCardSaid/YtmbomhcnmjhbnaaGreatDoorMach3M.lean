/-
  Texts that stood by themselves, laid into one.
-/
import Derived.Test.YtmbomhcnmjhbnaaGreatDoorMachM
import Derived.Test.YtmbomhcnmjhbnaaGreatDoorCodeM
import Derived.Test.YtmbomhcnmjhbnaaGreatDoorTo2M
/-
  A machine that is right: MachineOk on both sides. No condition.
-/
namespace Go.Proofs.YtmbomhcnmjhbnaaGreatDoor
open Go.RowKit

def machB (ns : List Nd) (is : List In) (ds : List Df) (xs : List Nd) (m : Mc) : Bool := codeB ns is ds && poolB xs && allI xs [m.s, m.e, m.d] && stateB is.length xs m

theorem Tryz.sizeCode : (Tryz.prog.info? 30).map (·.size) = some 3 := by kernel_rfl
theorem IRow.lit3 (w : World) (a b c : Int) : IRow (w.alloc (Obj.cells #[.int .i64 a, .int .i64 b, .int .i64 c] 3)) (.slice (some ⟨w.heap.size, 0, none⟩) 3 3) [a, b, c] := by
  refine ⟨_, 3, rfl, ⟨by simp, fun h => by cases h⟩, by simp, fun _ => ⟨_, 0, rfl, by simp, fun i hi => ?_⟩⟩
  rw [cell_of_row _ w.heap.size (0 + i) _ 3 (0, 0) (heap_alloc_new w _)]
  have : i = 0 ∨ i = 1 ∨ i = 2 := by simp at hi; omega
  rcases this with rfl | rfl | rfl <;> rfl

set_option maxRecDepth 100000 in
set_option maxHeartbeats 3200000 in
theorem imachok_any (v1 v2 v3 v : Value) (ns : List Nd) (is : List In) (ds : List Df) (xs : List Nd) (m : Mc) (w : World) (R1 : NRow w v1 ns) (R2 : InRow w v2 is) (R3 : DfRow w v3 ds) (R : NRow w v xs) :
    Calls Tryz.prog 19 #[.agg #[v1, v2, v3], .agg #[v, .int .i64 m.p, .int .i64 m.s, .int .i64 m.e, .int .i64 m.d, .int .i64 m.t, .int .i64 m.q, .int .i64 m.r]] w fun e w' => e = .returned (.bool (machB ns is ds xs m)) ∧ Below w.heap.size w w' := by
  have R' := R
  obtain ⟨ao, cap, rfl, _⟩ := R'
  obtain ⟨a1, c1, rfl⟩ := R1.small
  obtain ⟨a2, c2, rfl⟩ := R2.small
  obtain ⟨a3, c3, rfl⟩ := R3.small
  obtain ⟨hB0, hk0, hx0⟩ := two_boxes w (Obj.cells #[.slice a1 ns.length c1, .slice a2 is.length c2, .slice a3 ds.length c3] 30) (Obj.cells #[.slice ao xs.length cap, .int .i64 m.p, .int .i64 m.s, .int .i64 m.e, .int .i64 m.d, .int .i64 m.t, .int .i64 m.q, .int .i64 m.r] 34)
  go_enter Tryz.func19, Tryz.ntmps19
  go_wp2_with fail
  refine (icodeok_any _ _ _ ns is ds _ (R1.below hB0) (R2.below hB0) (R3.below hB0)).mono ?_
  rintro e w1 ⟨rfl, hb1⟩
  have hB1 := hB0.trans (hb1.mono hB0.size)
  have hk1 := (hb1.block _ (Array.getElem?_eq_some_iff.1 hk0).1).trans hk0
  have hx1 := (hb1.block _ (Array.getElem?_eq_some_iff.1 hx0).1).trans hx0
  clear hB0 hk0 hx0 hb1
  have HM : Hid (machB ns is ds xs m = (codeB ns is ds && poolB xs && allI xs [m.s, m.e, m.d] && stateB is.length xs m)) := rfl
  have k0 : w1.cell? ⟨w.heap.size + 1, 0, none⟩ = some (.slice ao xs.length cap) := by rw [cell_of_row w1 _ 0 _ _ _ hx1]; rfl
  generalize codeB ns is ds = b1 at HM ⊢
  cases b1 with
  | false =>
    go_wp2
    go_ret
    exact ⟨retB (by rw [HM.out]; rfl), hB1⟩
  | true =>
    go_wp2_with fail
    refine (ipool_any _ xs _ (R.below hB1)).mono ?_
    rintro e w2 ⟨rfl, hb2⟩
    have hB2 := hB1.trans (hb2.mono hB1.size)
    have hk2 := (hb2.block _ (Array.getElem?_eq_some_iff.1 hk1).1).trans hk1
    have hx2 := (hb2.block _ (Array.getElem?_eq_some_iff.1 hx1).1).trans hx1
    clear hB1 hk1 hx1 hb2 k0
    have k0 : w2.cell? ⟨w.heap.size + 1, 0, none⟩ = some (.slice ao xs.length cap) := by rw [cell_of_row w2 _ 0 _ _ _ hx2]; rfl
    have k2 : w2.cell? ⟨w.heap.size + 1, 0 + 2, none⟩ = some (.int .i64 m.s) := by rw [cell_of_row w2 _ 2 _ _ _ hx2]; rfl
    have k3 : w2.cell? ⟨w.heap.size + 1, 0 + 3, none⟩ = some (.int .i64 m.e) := by rw [cell_of_row w2 _ 3 _ _ _ hx2]; rfl
    have k4 : w2.cell? ⟨w.heap.size + 1, 0 + 4, none⟩ = some (.int .i64 m.d) := by rw [cell_of_row w2 _ 4 _ _ _ hx2]; rfl
    generalize poolB xs = b2 at HM ⊢
    cases b2 with
    | false =>
      go_wp2
      go_ret
      exact ⟨retB (by rw [HM.out]; rfl), hB2⟩
    | true =>
      have hBa : Below w2.heap.size w2 (w2.alloc (Obj.cells #[.int .i64 m.s, .int .i64 m.e, .int .i64 m.d] 3)) := (Below.refl _ _).alloc (Nat.le_refl _) _
      go_wp2_with fail
      refine (hasall_any _ _ xs [m.s, m.e, m.d] _ (R.below (hB2.trans (hBa.mono hB2.size))) (IRow.lit3 w2 m.s m.e m.d)).mono ?_
      rintro e w3 ⟨rfl, hb3⟩
      have hb23 := hBa.trans (hb3.mono hBa.size)
      have hB3 := hB2.trans (hb23.mono hB2.size)
      have hk3 := (hb23.block _ (Array.getElem?_eq_some_iff.1 hk2).1).trans hk2
      have hx3 := (hb23.block _ (Array.getElem?_eq_some_iff.1 hx2).1).trans hx2
      clear hB2 hk2 hx2 hb3 hb23 hBa k0 k2 k3 k4
      generalize allI xs [m.s, m.e, m.d] = b3 at HM ⊢
      cases b3 with
      | false =>
        go_wp2
        go_ret
        exact ⟨retB (by rw [HM.out]; rfl), hB3⟩
      | true =>
        have l0 : w3.cell? ⟨w.heap.size, 0, none⟩ = some (.slice a1 ns.length c1) := cell_of_row w3 _ 0 _ _ _ hk3
        have l1 : w3.cell? ⟨w.heap.size, 1, none⟩ = some (.slice a2 is.length c2) := cell_of_row w3 _ 1 _ _ _ hk3
        have l2 : w3.cell? ⟨w.heap.size, 2, none⟩ = some (.slice a3 ds.length c3) := cell_of_row w3 _ 2 _ _ _ hk3
        have k0 : w3.cell? ⟨w.heap.size + 1, 0, none⟩ = some (.slice ao xs.length cap) := cell_of_row w3 _ 0 _ _ _ hx3
        have k1 : w3.cell? ⟨w.heap.size + 1, 1, none⟩ = some (.int .i64 m.p) := cell_of_row w3 _ 1 _ _ _ hx3
        have k2 : w3.cell? ⟨w.heap.size + 1, 2, none⟩ = some (.int .i64 m.s) := cell_of_row w3 _ 2 _ _ _ hx3
        have k3 : w3.cell? ⟨w.heap.size + 1, 3, none⟩ = some (.int .i64 m.e) := cell_of_row w3 _ 3 _ _ _ hx3
        have k4 : w3.cell? ⟨w.heap.size + 1, 4, none⟩ = some (.int .i64 m.d) := cell_of_row w3 _ 4 _ _ _ hx3
        have k5 : w3.cell? ⟨w.heap.size + 1, 5, none⟩ = some (.int .i64 m.t) := cell_of_row w3 _ 5 _ _ _ hx3
        have k6 : w3.cell? ⟨w.heap.size + 1, 6, none⟩ = some (.int .i64 m.q) := cell_of_row w3 _ 6 _ _ _ hx3
        have k7 : w3.cell? ⟨w.heap.size + 1, 7, none⟩ = some (.int .i64 m.r) := cell_of_row w3 _ 7 _ _ _ hx3
        go_wp2_with fail
        refine (istatefits_any _ _ _ _ _ _ _ _ _ _ xs m _ (R.below hB3)).mono ?_
        rintro e w4 ⟨rfl, hb4⟩
        have hB4 := hB3.trans (hb4.mono hB3.size)
        generalize stateB is.length xs m = b4 at HM ⊢
        cases b4 <;>
          (go_wp2
           go_ret
           exact ⟨retB (by rw [HM.out]; rfl), hB4⟩)
end Go.Proofs.YtmbomhcnmjhbnaaGreatDoor

/-
  A machine that is right, on the specification's side: MachineOk. No condition.
-/
namespace Go.Proofs.YtmbomhcnmjhbnaaGreatDoor
open Go.RowKit

/-- The boxes of a code and a machine, in a world. -/
structure MBox (w : World) (b : Nat) (cc mc : Array Value) : Prop where
  code : w.heap[b]? = some (.cells cc 30 (0, 0))
  mach : w.heap[b + 1]? = some (.cells mc 34 (0, 0))
theorem MBox.below {w w' : World} {b : Nat} {cc mc : Array Value} (h : MBox w b cc mc) (hb : Below w.heap.size w w') : MBox w' b cc mc :=
  ⟨(hb.block _ (Array.getElem?_eq_some_iff.1 h.code).1).trans h.code, (hb.block _ (Array.getElem?_eq_some_iff.1 h.mach).1).trans h.mach⟩

set_option maxRecDepth 100000 in
set_option maxHeartbeats 6400000 in
theorem smachok_any (v1 v2 v3 v : Value) (ns : List Nd) (is : List In) (ds : List Df) (xs : List Nd) (m : Mc) (w : World) (R1 : NRow w v1 ns) (R2 : InRow w v2 is) (R3 : DfRow w v3 ds) (R : NRow w v xs) :
    Calls Tryz.prog 29 #[.agg #[v1, v2, v3], .agg #[v, .int .i64 m.p, .int .i64 m.s, .int .i64 m.e, .int .i64 m.d, .int .i64 m.t, .int .i64 m.q, .int .i64 m.r]] w fun e w' => e = .returned (.bool (machB ns is ds xs m)) ∧ Below w.heap.size w w' := by
  have hn2 : is.length ≤ 9223372036854775807 := by obtain ⟨_, _, _, _, hm, _⟩ := R2; exact hm
  have R' := R
  obtain ⟨ao, cap, rfl, _⟩ := R'
  obtain ⟨a1, c1, rfl⟩ := R1.small
  obtain ⟨a2, c2, rfl⟩ := R2.small
  obtain ⟨a3, c3, rfl⟩ := R3.small
  obtain ⟨mp, ms, me, md, mt, mq, mr⟩ := m
  obtain ⟨hB0, hk0, hx0⟩ := two_boxes w (Obj.cells #[.slice a1 ns.length c1, .slice a2 is.length c2, .slice a3 ds.length c3] 30) (Obj.cells #[.slice ao xs.length cap, .int .i64 mp, .int .i64 ms, .int .i64 me, .int .i64 md, .int .i64 mt, .int .i64 mq, .int .i64 mr] 34)
  have X0 : MBox _ w.heap.size #[.slice a1 ns.length c1, .slice a2 is.length c2, .slice a3 ds.length c3] #[.slice ao xs.length cap, .int .i64 mp, .int .i64 ms, .int .i64 me, .int .i64 md, .int .i64 mt, .int .i64 mq, .int .i64 mr] := ⟨hk0, hx0⟩
  go_enter Tryz.func29, Tryz.ntmps29
  go_wp2_with fail
  refine (scodeok_any _ _ _ ns is ds _ (R1.below hB0) (R2.below hB0) (R3.below hB0)).mono ?_
  rintro e w1 ⟨rfl, hb1⟩
  have hB1 := hB0.trans (hb1.mono hB0.size)
  have X1 := X0.below hb1
  clear hB0 hk0 hx0 hb1 X0
  have HM : Hid (machB ns is ds xs ⟨mp, ms, me, md, mt, mq, mr⟩ = (codeB ns is ds && poolB xs && (hasI xs ms && (hasI xs me && (hasI xs md && true))) && stateB is.length xs ⟨mp, ms, me, md, mt, mq, mr⟩)) := rfl
  have k0 : w1.cell? ⟨w.heap.size + 1, 0, none⟩ = some (.slice ao xs.length cap) := cell_of_row w1 _ 0 _ _ _ X1.mach
  generalize codeB ns is ds = b1 at HM ⊢
  cases b1 with
  | false =>
    go_wp2
    go_ret
    exact ⟨retB (by rw [HM.out]; rfl), hB1⟩
  | true =>
    go_wp2_with fail
    refine (spool_any _ xs _ (R.below hB1)).mono ?_
    rintro e w2 ⟨rfl, hb2⟩
    have hB2 := hB1.trans (hb2.mono hB1.size)
    have X2 := X1.below hb2
    clear hB1 X1 hb2 k0
    have k0 : w2.cell? ⟨w.heap.size + 1, 0, none⟩ = some (.slice ao xs.length cap) := cell_of_row w2 _ 0 _ _ _ X2.mach
    have k2 : w2.cell? ⟨w.heap.size + 1, 0 + 2, none⟩ = some (.int .i64 ms) := cell_of_row w2 _ 2 _ _ _ X2.mach
    generalize poolB xs = b2 at HM ⊢
    cases b2 with
    | false =>
      go_wp2
      go_ret
      exact ⟨retB (by rw [HM.out]; rfl), hB2⟩
    | true =>
      go_wp2_with fail
      refine (shas_all _ xs _ _ (R.below hB2)).mono ?_
      rintro e w3 ⟨rfl, hb3⟩
      have hB3 := hB2.trans (hb3.mono hB2.size)
      have X3 := X2.below hb3
      clear hB2 X2 hb3 k0 k2
      have k0 : w3.cell? ⟨w.heap.size + 1, 0, none⟩ = some (.slice ao xs.length cap) := cell_of_row w3 _ 0 _ _ _ X3.mach
      have k3 : w3.cell? ⟨w.heap.size + 1, 0 + 3, none⟩ = some (.int .i64 me) := cell_of_row w3 _ 3 _ _ _ X3.mach
      generalize hasI xs ms = b3 at HM ⊢
      cases b3 with
      | false =>
        go_wp2
        go_ret
        exact ⟨retB (by rw [HM.out]; simp), hB3⟩
      | true =>
        go_wp2_with fail
        refine (shas_all _ xs _ _ (R.below hB3)).mono ?_
        rintro e w4 ⟨rfl, hb4⟩
        have hB4 := hB3.trans (hb4.mono hB3.size)
        have X4 := X3.below hb4
        clear hB3 X3 hb4 k0 k3
        have k0 : w4.cell? ⟨w.heap.size + 1, 0, none⟩ = some (.slice ao xs.length cap) := cell_of_row w4 _ 0 _ _ _ X4.mach
        have k4 : w4.cell? ⟨w.heap.size + 1, 0 + 4, none⟩ = some (.int .i64 md) := cell_of_row w4 _ 4 _ _ _ X4.mach
        generalize hasI xs me = b4 at HM ⊢
        cases b4 with
        | false =>
          go_wp2
          go_ret
          exact ⟨retB (by rw [HM.out]; simp), hB4⟩
        | true =>
          go_wp2_with fail
          refine (shas_all _ xs _ _ (R.below hB4)).mono ?_
          rintro e w5 ⟨rfl, hb5⟩
          have hB5 := hB4.trans (hb5.mono hB4.size)
          have X5 := X4.below hb5
          clear hB4 X4 hb5 k0 k4
          have k0 : w5.cell? ⟨w.heap.size + 1, 0, none⟩ = some (.slice ao xs.length cap) := cell_of_row w5 _ 0 _ _ _ X5.mach
          generalize hasI xs md = b5 at HM ⊢
          cases b5 with
          | false =>
            go_wp2
            go_ret
            exact ⟨retB (by rw [HM.out]; simp), hB5⟩
          | true =>
            have HS : Hid (machB ns is ds xs ⟨mp, ms, me, md, mt, mq, mr⟩ = stateB is.length xs ⟨mp, ms, me, md, mt, mq, mr⟩) := by unfold Hid; rw [HM.out]; simp
            clear HM
            have hBx := hB5
            have k1 : w5.cell? ⟨w.heap.size + 1, 0 + 1, none⟩ = some (.int .i64 mp) := cell_of_row w5 _ 1 _ _ _ X5.mach
            have k5 : w5.cell? ⟨w.heap.size + 1, 0 + 5, none⟩ = some (.int .i64 mt) := cell_of_row w5 _ 5 _ _ _ X5.mach
            have k6 : w5.cell? ⟨w.heap.size + 1, 0 + 6, none⟩ = some (.int .i64 mq) := cell_of_row w5 _ 6 _ _ _ X5.mach
            have k7 : w5.cell? ⟨w.heap.size + 1, 0 + 7, none⟩ = some (.int .i64 mr) := cell_of_row w5 _ 7 _ _ _ X5.mach
            have l1 : w5.cell? ⟨w.heap.size, 0 + 1, none⟩ = some (.slice a2 is.length c2) := cell_of_row w5 _ 1 _ _ _ X5.code
            have R5 := R.below hB5
            clear X5
            go_wp2_with fail
            refine (lin_any mp 0 ((is.length : Int) - 1) _).mono ?_
            rintro e w6 ⟨rfl, rfl⟩
            have hpl : (decide (0 ≤ mp) && decide (mp ≤ (is.length : Int) - 1)) = placeB is.length mp := by
              unfold placeB
              congr 1
              rw [decide_eq_decide]
              omega
            rw [hpl]
            by_cases t0 : mt = 0
            · subst t0
              replace HS : Hid (machB ns is ds xs ⟨mp, ms, me, md, 0, mq, mr⟩ = (placeB is.length mp && decide (mq = 0) && decide (mr = 0))) := HS
              generalize placeB is.length mp = bb at HS ⊢
              cases bb with
              | true =>
                by_cases q0 : mq = 0
                · subst q0
                  by_cases r0 : mr = 0
                  · subst r0
                    go_wp2
                    go_ret
                    exact ⟨retB (by rw [HS.out]; rfl), hBx⟩
                  · have g1 : (mr == 0) = false := by simp [r0]
                    have g2 : decide (mr = 0) = false := by simp [r0]
                    go_wp2
                    go_ret
                    exact ⟨retB (by rw [HS.out, g2]; rfl), hBx⟩
                · have g1 : (mq == 0) = false := by simp [q0]
                  have g2 : decide (mq = 0) = false := by simp [q0]
                  go_wp2
                  go_ret
                  exact ⟨retB (by rw [HS.out, g2]; rfl), hBx⟩
              | false =>
                go_wp2
                go_ret
                exact ⟨retB (by rw [HS.out]; rfl), hBx⟩
            · by_cases t1 : mt = 1
              · subst t1
                replace HS : Hid (machB ns is ds xs ⟨mp, ms, me, md, 1, mq, mr⟩ = (placeB is.length mp && askB mq && hasI xs mr)) := HS
                generalize placeB is.length mp = bb at HS ⊢
                cases bb with
                | true =>
                  go_wp2_with fail
                  refine (lin_any mq 13 19 _).mono ?_
                  rintro e w7 ⟨rfl, rfl⟩
                  have hask : askB mq = ((decide (13 ≤ mq) && decide (mq ≤ 19)) && decide (mq ≠ 18)) := by
                    unfold askB
                    congr 2
                  rw [hask] at HS
                  generalize (decide (13 ≤ mq) && decide (mq ≤ 19)) = b7 at HS ⊢
                  cases b7 with
                  | true =>
                    by_cases q18 : mq = 18
                    · subst q18
                      go_wp2
                      go_ret
                      exact ⟨retB (by rw [HS.out]; rfl), hBx⟩
                    · have g1 : (mq == 18) = false := by simp [q18]
                      have g2 : decide (mq = 18) = false := by simp [q18]
                      have g3 : decide (mq ≠ 18) = true := by simp [q18]
                      go_wp2_with fail
                      refine (shas_all _ xs _ _ R5).mono ?_
                      rintro e w8 ⟨rfl, hb8⟩
                      have hB8 := hBx.trans (hb8.mono hBx.size)
                      generalize hasI xs mr = b8 at HS ⊢
                      cases b8 <;>
                        (go_wp2
                         go_ret
                         exact ⟨retB (by rw [HS.out, g3]; first | rfl | simp [q18]), hB8⟩)
                  | false =>
                    go_wp2
                    go_ret
                    exact ⟨retB (by rw [HS.out]; rfl), hBx⟩
                | false =>
                  go_wp2
                  go_ret
                  exact ⟨retB (by rw [HS.out]; rfl), hBx⟩
              · generalize placeB is.length mp = bb
                by_cases t2 : mt = 2
                · subst t2
                  replace HS : Hid (machB ns is ds xs ⟨mp, ms, me, md, 2, mq, mr⟩ = (decide (mp = 0) && decide (mq = 0) && hasI xs mr)) := HS
                  by_cases p0 : mp = 0
                  · subst p0
                    by_cases q0 : mq = 0
                    · subst q0
                      go_wp2_with fail
                      refine (shas_all _ xs _ _ R5).mono ?_
                      rintro e w8 ⟨rfl, hb8⟩
                      have hB8 := hBx.trans (hb8.mono hBx.size)
                      generalize hasI xs mr = b8 at HS ⊢
                      cases b8 <;>
                        (go_wp2
                         go_ret
                         exact ⟨retB (by rw [HS.out]; rfl), hB8⟩)
                    · have g1 : (mq == 0) = false := by simp [q0]
                      have g2 : decide (mq = 0) = false := by simp [q0]
                      go_wp2
                      go_ret
                      exact ⟨retB (by rw [HS.out, g2]; rfl), hBx⟩
                  · have g1 : (mp == 0) = false := by simp [p0]
                    have g2 : decide (mp = 0) = false := by simp [p0]
                    go_wp2
                    go_ret
                    exact ⟨retB (by rw [HS.out, g2]; rfl), hBx⟩
                · by_cases t3 : mt = 3
                  · subst t3
                    replace HS : Hid (machB ns is ds xs ⟨mp, ms, me, md, 3, mq, mr⟩ = (decide (mp = 0) && decide (1 ≤ mq) && decide (mq ≤ 7) && decide (mr = 0))) := HS
                    by_cases p0 : mp = 0
                    · subst p0
                      go_wp2_with fail
                      refine (lin_any mq 1 7 _).mono ?_
                      rintro e w7 ⟨rfl, rfl⟩
                      replace HS : Hid (machB ns is ds xs ⟨0, ms, me, md, 3, mq, mr⟩ = ((decide (1 ≤ mq) && decide (mq ≤ 7)) && decide (mr = 0))) := by unfold Hid; rw [HS.out]; simp
                      generalize (decide (1 ≤ mq) && decide (mq ≤ 7)) = b7 at HS ⊢
                      cases b7 with
                      | true =>
                        by_cases r0 : mr = 0
                        · subst r0
                          go_wp2
                          go_ret
                          exact ⟨retB (by rw [HS.out]; rfl), hBx⟩
                        · have g1 : (mr == 0) = false := by simp [r0]
                          have g2 : decide (mr = 0) = false := by simp [r0]
                          go_wp2
                          go_ret
                          exact ⟨retB (by rw [HS.out, g2]; rfl), hBx⟩
                      | false =>
                        go_wp2
                        go_ret
                        exact ⟨retB (by rw [HS.out]; rfl), hBx⟩
                    · have g1 : (mp == 0) = false := by simp [p0]
                      have g2 : decide (mp = 0) = false := by simp [p0]
                      go_wp2
                      go_ret
                      exact ⟨retB (by rw [HS.out, g2]; rfl), hBx⟩
                  · replace HS : Hid (machB ns is ds xs ⟨mp, ms, me, md, mt, mq, mr⟩ = false) := by unfold Hid; rw [HS.out]; unfold stateB; simp [t0, t1, t2, t3]
                    have g0 : (mt == 0) = false := by simp [t0]
                    have g1 : (mt == 1) = false := by simp [t1]
                    have g2 : (mt == 2) = false := by simp [t2]
                    have g3 : (mt == 3) = false := by simp [t3]
                    have f0 : decide (mt = 0) = false := by simp [t0]
                    have f1 : decide (mt = 1) = false := by simp [t1]
                    have f2 : decide (mt = 2) = false := by simp [t2]
                    have f3 : decide (mt = 3) = false := by simp [t3]
                    go_wp2
                    go_ret
                    exact ⟨retB (by rw [HS.out]), hBx⟩
end Go.Proofs.YtmbomhcnmjhbnaaGreatDoor
