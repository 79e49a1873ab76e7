/-
  Texts that stood by themselves, laid into one.
-/
import Derived.Test.YtdkkpopnoeapdaaGreatDoorShapeM
import Derived.Test.YtdkkpopnoeapdaaGreatDoorCodeOkM
import Derived.Test.YtdkkpopnoeapdaaGreatDoorMkListM
import Derived.Test.YtdkkpopnoeapdaaGreatDoorListOfM
/-
  A machine that is right, on impl's side: isAsked, stateFits. No condition.
-/
namespace Go.Proofs.YtdkkpopnoeapdaaGreatDoor
open Go.RowKit

def placeB (n : Nat) (p : Int) : Bool := decide (0 ≤ p) && decide (p < n)
def askB (q : Int) : Bool := decide (12 < q) && decide (q ≤ 19) && decide (q ≠ 18)
def stateB (n : Nat) (xs : List Nd) (m : Mc) : Bool :=
  if m.t = 0 then placeB n m.p && decide (m.q = 0) && decide (m.r = 0)
  else if m.t = 1 then placeB n m.p && askB m.q && hasI xs m.r
  else if m.t = 2 then decide (m.p = 0) && decide (m.q = 0) && hasI xs m.r
  else if m.t = 3 then decide (m.p = 0) && decide (1 ≤ m.q) && decide (m.q ≤ 7) && decide (m.r = 0)
  else false

theorem isasked_any (q : Int) (w : World) : Calls Tryz.prog 98 #[.int .i64 q] w fun e w' => e = .returned (.bool (askB q)) ∧ w' = w := by
  go_enter Tryz.func98, Tryz.ntmps98
  by_cases h1 : 12 < q
  · by_cases h2 : q ≤ 19
    · by_cases h3 : q = 18
      · subst h3
        go_wp2
        go_ret
        exact ⟨rfl, rfl⟩
      · have q1 : (q == 18) = false := by simp [h3]
        have q2 : decide (q = 18) = false := by simp [h3]
        go_wp2
        go_ret
        exact ⟨by simp [askB, h1, h2, h3], rfl⟩
    · go_wp2
      go_ret
      exact ⟨by simp [askB]; omega, rfl⟩
  · go_wp2
    go_ret
    exact ⟨by simp [askB]; omega, rfl⟩

set_option maxRecDepth 100000 in
set_option maxHeartbeats 3200000 in
theorem istatefits_any (a1 a2 a3 : Option Addr) (n1 n2 n3 c1 c2 c3 : Nat) (v : Value) (xs : List Nd) (m : Mc) (w : World) (R : NRow w v xs) :
    Calls Tryz.prog 69 #[.agg #[.slice a1 n1 c1, .slice a2 n2 c2, .slice a3 n3 c3], .agg #[v, .int .i64 m.p, .int .i64 m.s, .int .i64 m.e, .int .i64 m.d, .int .i64 m.t, .int .i64 m.q, .int .i64 m.r]] w fun e w' => e = .returned (.bool (stateB n2 xs m)) ∧ Below w.heap.size w w' := by
  have R' := R
  obtain ⟨ao, cap, rfl, _⟩ := R'
  obtain ⟨mp, ms, me, md, mt, mq, mr⟩ := m
  have hB0 : Below w.heap.size w ((w.alloc (Obj.cells #[.slice a1 n1 c1, .slice a2 n2 c2, .slice a3 n3 c3] 43)).alloc (Obj.cells #[.slice ao xs.length cap, .int .i64 mp, .int .i64 ms, .int .i64 me, .int .i64 md, .int .i64 mt, .int .i64 mq, .int .i64 mr] 46)) := ((Below.refl _ _).alloc (Nat.le_refl _) _).alloc (by simp) _
  have hx0 := heap_alloc2_new w (Obj.cells #[.slice a1 n1 c1, .slice a2 n2 c2, .slice a3 n3 c3] 43) (Obj.cells #[.slice ao xs.length cap, .int .i64 mp, .int .i64 ms, .int .i64 me, .int .i64 md, .int .i64 mt, .int .i64 mq, .int .i64 mr] 46)
  have R0 := R.below hB0
  have hs0 := (Array.getElem?_eq_some_iff.1 hx0).1
  go_enter Tryz.func69, Tryz.ntmps69
  by_cases t0 : mt = 0
  · subst t0
    go_wp2_with fail
    refine (isplace_any _ _ _ _ _ _ _ _ _ mp _).mono ?_
    rintro e w1 ⟨rfl, hb1⟩
    have hB1 := hB0.trans (hb1.mono hB0.size)
    have hx1 := (hb1.block _ hs0).trans hx0
    have k6 : w1.cell? ⟨w.heap.size + 1, 0 + 6, none⟩ = some (.int .i64 mq) := by rw [cell_of_row w1 _ 6 _ _ _ hx1]; rfl
    have k7 : w1.cell? ⟨w.heap.size + 1, 0 + 7, none⟩ = some (.int .i64 mr) := by rw [cell_of_row w1 _ 7 _ _ _ hx1]; rfl
    have HS : Hid (stateB n2 xs ⟨mp, ms, me, md, 0, mq, mr⟩ = ((decide (0 ≤ mp) && decide (mp < n2)) && decide (mq = 0) && decide (mr = 0))) := rfl
    generalize (decide (0 ≤ mp) && decide (mp < n2)) = bb at HS ⊢
    clear hx0 hx1 hb1 hB0 R0
    cases bb with
    | true =>
      go_wp2
      all_goals
        go_ret
        refine ⟨retB ?_, hB1⟩
        rw [HS.out]
        first | (simp [*]; done) | (simp [*]; rfl)
    | false =>
      go_wp2
      go_ret
      exact ⟨retB (by rw [HS.out]; rfl), hB1⟩
  · by_cases t1 : mt = 1
    · subst t1
      go_wp2_with fail
      refine (isplace_any _ _ _ _ _ _ _ _ _ mp _).mono ?_
      rintro e w1 ⟨rfl, hb1⟩
      have hB1 := hB0.trans (hb1.mono hB0.size)
      have hx1 := (hb1.block _ hs0).trans hx0
      have k0 : w1.cell? ⟨w.heap.size + 1, 0, none⟩ = some (.slice ao xs.length cap) := by rw [cell_of_row w1 _ 0 _ _ _ hx1]; rfl
      have k6 : w1.cell? ⟨w.heap.size + 1, 0 + 6, none⟩ = some (.int .i64 mq) := by rw [cell_of_row w1 _ 6 _ _ _ hx1]; rfl
      have k7 : w1.cell? ⟨w.heap.size + 1, 0 + 7, none⟩ = some (.int .i64 mr) := by rw [cell_of_row w1 _ 7 _ _ _ hx1]; rfl
      have HS : Hid (stateB n2 xs ⟨mp, ms, me, md, 1, mq, mr⟩ = ((decide (0 ≤ mp) && decide (mp < n2)) && askB mq && hasI xs mr)) := rfl
      generalize (decide (0 ≤ mp) && decide (mp < n2)) = bb at HS ⊢
      clear hx0 hx1 hb1 hB0 R0
      cases bb with
      | true =>
        go_wp2_with fail
        refine (isasked_any mq _).mono ?_
        rintro e w2 ⟨rfl, rfl⟩
        generalize askB mq = b2 at HS ⊢
        cases b2 with
        | true =>
          go_wp2_with fail
          refine (has_any _ xs mr _ (R.below hB1)).mono ?_
          rintro e w3 ⟨rfl, hb3⟩
          have hB3 := hB1.trans (hb3.mono hB1.size)
          generalize hasI xs mr = b3 at HS ⊢
          clear k0 k6 k7
          cases b3 <;>
            (go_wp2
             go_ret
             exact ⟨retB (by rw [HS.out]; rfl), hB3⟩)
        | false =>
          go_wp2
          go_ret
          exact ⟨retB (by rw [HS.out]; rfl), hB1⟩
      | false =>
        go_wp2
        go_ret
        exact ⟨retB (by rw [HS.out]; rfl), hB1⟩
    · by_cases t2 : mt = 2
      · subst t2
        have HS : Hid (stateB n2 xs ⟨mp, ms, me, md, 2, mq, mr⟩ = (decide (mp = 0) && decide (mq = 0) && hasI xs mr)) := rfl
        by_cases p0 : mp = 0
        · subst p0
          by_cases q0 : mq = 0
          · subst q0
            go_wp2_with fail
            refine (has_any _ xs mr _ R0).mono ?_
            rintro e w3 ⟨rfl, hb3⟩
            have hB3 := hB0.trans (hb3.mono hB0.size)
            generalize hasI xs mr = b3 at HS ⊢
            cases b3 <;>
              (go_wp2
               go_ret
               exact ⟨retB (by rw [HS.out]; rfl), hB3⟩)
          · have g1 : (mq == 0) = false := by simp [q0]
            have g2 : decide (mq = 0) = false := by simp [q0]
            go_wp2
            go_ret
            exact ⟨retB (by rw [HS.out, g2]; rfl), hB0⟩
        · have g1 : (mp == 0) = false := by simp [p0]
          have g2 : decide (mp = 0) = false := by simp [p0]
          go_wp2
          go_ret
          exact ⟨retB (by rw [HS.out, g2]; rfl), hB0⟩
      · by_cases t3 : mt = 3
        · subst t3
          have HS : Hid (stateB n2 xs ⟨mp, ms, me, md, 3, mq, mr⟩ = (decide (mp = 0) && decide (1 ≤ mq) && decide (mq ≤ 7) && decide (mr = 0))) := rfl
          by_cases p0 : mp = 0
          · subst p0
            by_cases q1 : 1 ≤ mq
            · by_cases q7 : mq ≤ 7
              · by_cases r0 : mr = 0
                · subst r0
                  go_wp2
                  go_ret
                  exact ⟨retB (by rw [HS.out]; simp [q1, q7]), hB0⟩
                · have g1 : (mr == 0) = false := by simp [r0]
                  have g2 : decide (mr = 0) = false := by simp [r0]
                  go_wp2
                  go_ret
                  exact ⟨retB (by rw [HS.out, g2]; simp), hB0⟩
              · go_wp2
                go_ret
                exact ⟨retB (by rw [HS.out]; simp; omega), hB0⟩
            · go_wp2
              go_ret
              exact ⟨retB (by rw [HS.out]; simp; omega), hB0⟩
          · have g1 : (mp == 0) = false := by simp [p0]
            have g2 : decide (mp = 0) = false := by simp [p0]
            go_wp2
            go_ret
            exact ⟨retB (by rw [HS.out, g2]; rfl), hB0⟩
        · have HS : Hid (stateB n2 xs ⟨mp, ms, me, md, mt, mq, mr⟩ = false) := by unfold Hid stateB; simp [t0, t1, t2, t3]
          have g0 : (mt == 0) = false := by simp [t0]
          have g1 : (mt == 1) = false := by simp [t1]
          have g2 : (mt == 2) = false := by simp [t2]
          have g3 : (mt == 3) = false := by simp [t3]
          have f0 : decide (mt = 0) = false := by simp [t0]
          have f1 : decide (mt = 1) = false := by simp [t1]
          have f2 : decide (mt = 2) = false := by simp [t2]
          have f3 : decide (mt = 3) = false := by simp [t3]
          go_wp2
          go_ret
          exact ⟨retB (by rw [HS.out]), hB0⟩
end Go.Proofs.YtdkkpopnoeapdaaGreatDoor

/-
  A machine that is right: MachineOk on both sides. No condition.
-/
namespace Go.Proofs.YtdkkpopnoeapdaaGreatDoor
open Go.RowKit

def machB (ns : List Nd) (is : List In) (ds : List Df) (xs : List Nd) (m : Mc) : Bool := codeB ns is ds && poolB xs && allI xs [m.s, m.e, m.d] && stateB is.length xs m

theorem Tryz.sizeCode : (Tryz.prog.info? 43).map (·.size) = some 3 := by kernel_rfl
theorem IRow.lit3 (w : World) (a b c : Int) : IRow (w.alloc (Obj.cells #[.int .i64 a, .int .i64 b, .int .i64 c] 3)) (.slice (some ⟨w.heap.size, 0, none⟩) 3 3) [a, b, c] := by
  refine ⟨_, 3, rfl, ⟨by simp, fun h => by cases h⟩, by simp, fun _ => ⟨_, 0, rfl, by simp, fun i hi => ?_⟩⟩
  rw [cell_of_row _ w.heap.size (0 + i) _ 3 (0, 0) (heap_alloc_new w _)]
  have : i = 0 ∨ i = 1 ∨ i = 2 := by simp at hi; omega
  rcases this with rfl | rfl | rfl <;> rfl

set_option maxRecDepth 100000 in
set_option maxHeartbeats 3200000 in
theorem imachok_any (v1 v2 v3 v : Value) (ns : List Nd) (is : List In) (ds : List Df) (xs : List Nd) (m : Mc) (w : World) (R1 : NRow w v1 ns) (R2 : InRow w v2 is) (R3 : DfRow w v3 ds) (R : NRow w v xs) :
    Calls Tryz.prog 37 #[.agg #[v1, v2, v3], .agg #[v, .int .i64 m.p, .int .i64 m.s, .int .i64 m.e, .int .i64 m.d, .int .i64 m.t, .int .i64 m.q, .int .i64 m.r]] w fun e w' => e = .returned (.bool (machB ns is ds xs m)) ∧ Below w.heap.size w w' := by
  have R' := R
  obtain ⟨ao, cap, rfl, _⟩ := R'
  obtain ⟨a1, c1, rfl⟩ := R1.small
  obtain ⟨a2, c2, rfl⟩ := R2.small
  obtain ⟨a3, c3, rfl⟩ := R3.small
  obtain ⟨hB0, hk0, hx0⟩ := two_boxes w (Obj.cells #[.slice a1 ns.length c1, .slice a2 is.length c2, .slice a3 ds.length c3] 43) (Obj.cells #[.slice ao xs.length cap, .int .i64 m.p, .int .i64 m.s, .int .i64 m.e, .int .i64 m.d, .int .i64 m.t, .int .i64 m.q, .int .i64 m.r] 46)
  go_enter Tryz.func37, Tryz.ntmps37
  go_wp2_with fail
  refine (icodeok_any _ _ _ ns is ds _ (R1.below hB0) (R2.below hB0) (R3.below hB0)).mono ?_
  rintro e w1 ⟨rfl, hb1⟩
  have hB1 := hB0.trans (hb1.mono hB0.size)
  have hk1 := (hb1.block _ (Array.getElem?_eq_some_iff.1 hk0).1).trans hk0
  have hx1 := (hb1.block _ (Array.getElem?_eq_some_iff.1 hx0).1).trans hx0
  clear hB0 hk0 hx0 hb1
  have HM : Hid (machB ns is ds xs m = (codeB ns is ds && poolB xs && allI xs [m.s, m.e, m.d] && stateB is.length xs m)) := rfl
  have k0 : w1.cell? ⟨w.heap.size + 1, 0, none⟩ = some (.slice ao xs.length cap) := by rw [cell_of_row w1 _ 0 _ _ _ hx1]; rfl
  generalize codeB ns is ds = b1 at HM ⊢
  cases b1 with
  | false =>
    go_wp2
    go_ret
    exact ⟨retB (by rw [HM.out]; rfl), hB1⟩
  | true =>
    go_wp2_with fail
    refine (ipool_any _ xs _ (R.below hB1)).mono ?_
    rintro e w2 ⟨rfl, hb2⟩
    have hB2 := hB1.trans (hb2.mono hB1.size)
    have hk2 := (hb2.block _ (Array.getElem?_eq_some_iff.1 hk1).1).trans hk1
    have hx2 := (hb2.block _ (Array.getElem?_eq_some_iff.1 hx1).1).trans hx1
    clear hB1 hk1 hx1 hb2 k0
    have k0 : w2.cell? ⟨w.heap.size + 1, 0, none⟩ = some (.slice ao xs.length cap) := by rw [cell_of_row w2 _ 0 _ _ _ hx2]; rfl
    have k2 : w2.cell? ⟨w.heap.size + 1, 0 + 2, none⟩ = some (.int .i64 m.s) := by rw [cell_of_row w2 _ 2 _ _ _ hx2]; rfl
    have k3 : w2.cell? ⟨w.heap.size + 1, 0 + 3, none⟩ = some (.int .i64 m.e) := by rw [cell_of_row w2 _ 3 _ _ _ hx2]; rfl
    have k4 : w2.cell? ⟨w.heap.size + 1, 0 + 4, none⟩ = some (.int .i64 m.d) := by rw [cell_of_row w2 _ 4 _ _ _ hx2]; rfl
    generalize poolB xs = b2 at HM ⊢
    cases b2 with
    | false =>
      go_wp2
      go_ret
      exact ⟨retB (by rw [HM.out]; rfl), hB2⟩
    | true =>
      have hBa : Below w2.heap.size w2 (w2.alloc (Obj.cells #[.int .i64 m.s, .int .i64 m.e, .int .i64 m.d] 3)) := (Below.refl _ _).alloc (Nat.le_refl _) _
      go_wp2_with fail
      refine (hasall_any _ _ xs [m.s, m.e, m.d] _ (R.below (hB2.trans (hBa.mono hB2.size))) (IRow.lit3 w2 m.s m.e m.d)).mono ?_
      rintro e w3 ⟨rfl, hb3⟩
      have hb23 := hBa.trans (hb3.mono hBa.size)
      have hB3 := hB2.trans (hb23.mono hB2.size)
      have hk3 := (hb23.block _ (Array.getElem?_eq_some_iff.1 hk2).1).trans hk2
      have hx3 := (hb23.block _ (Array.getElem?_eq_some_iff.1 hx2).1).trans hx2
      clear hB2 hk2 hx2 hb3 hb23 hBa k0 k2 k3 k4
      generalize allI xs [m.s, m.e, m.d] = b3 at HM ⊢
      cases b3 with
      | false =>
        go_wp2
        go_ret
        exact ⟨retB (by rw [HM.out]; rfl), hB3⟩
      | true =>
        have l0 : w3.cell? ⟨w.heap.size, 0, none⟩ = some (.slice a1 ns.length c1) := cell_of_row w3 _ 0 _ _ _ hk3
        have l1 : w3.cell? ⟨w.heap.size, 1, none⟩ = some (.slice a2 is.length c2) := cell_of_row w3 _ 1 _ _ _ hk3
        have l2 : w3.cell? ⟨w.heap.size, 2, none⟩ = some (.slice a3 ds.length c3) := cell_of_row w3 _ 2 _ _ _ hk3
        have k0 : w3.cell? ⟨w.heap.size + 1, 0, none⟩ = some (.slice ao xs.length cap) := cell_of_row w3 _ 0 _ _ _ hx3
        have k1 : w3.cell? ⟨w.heap.size + 1, 1, none⟩ = some (.int .i64 m.p) := cell_of_row w3 _ 1 _ _ _ hx3
        have k2 : w3.cell? ⟨w.heap.size + 1, 2, none⟩ = some (.int .i64 m.s) := cell_of_row w3 _ 2 _ _ _ hx3
        have k3 : w3.cell? ⟨w.heap.size + 1, 3, none⟩ = some (.int .i64 m.e) := cell_of_row w3 _ 3 _ _ _ hx3
        have k4 : w3.cell? ⟨w.heap.size + 1, 4, none⟩ = some (.int .i64 m.d) := cell_of_row w3 _ 4 _ _ _ hx3
        have k5 : w3.cell? ⟨w.heap.size + 1, 5, none⟩ = some (.int .i64 m.t) := cell_of_row w3 _ 5 _ _ _ hx3
        have k6 : w3.cell? ⟨w.heap.size + 1, 6, none⟩ = some (.int .i64 m.q) := cell_of_row w3 _ 6 _ _ _ hx3
        have k7 : w3.cell? ⟨w.heap.size + 1, 7, none⟩ = some (.int .i64 m.r) := cell_of_row w3 _ 7 _ _ _ hx3
        go_wp2_with fail
        refine (istatefits_any _ _ _ _ _ _ _ _ _ _ xs m _ (R.below hB3)).mono ?_
        rintro e w4 ⟨rfl, hb4⟩
        have hB4 := hB3.trans (hb4.mono hB3.size)
        generalize stateB is.length xs m = b4 at HM ⊢
        cases b4 <;>
          (go_wp2
           go_ret
           exact ⟨retB (by rw [HM.out]; rfl), hB4⟩)
end Go.Proofs.YtdkkpopnoeapdaaGreatDoor
