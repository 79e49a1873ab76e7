/-
  Texts that stood by themselves, laid into one.
-/
import Derived.Test.YtbhfooafhbfniaaGreatDoorNodeFitsM
import Derived.Test.YtbhfooafhbfniaaGreatDoorMkListM
import Derived.Test.YtbhfooafhbfniaaGreatDoorBsM
import Derived.Test.YtbhfooafhbfniaaGreatDoorShapeM
/-
  A machine that is right, on impl's side: isAsked, stateFits. No condition.
-/
namespace Go.Proofs.YtbhfooafhbfniaaGreatDoor
open Go.RowKit
def placeB (n : Nat) (p : Int) : Bool := decide (0 ≤ p) && decide (p < n)
def askB (q : Int) : Bool := decide (12 < q) && decide (q ≤ 19) && decide (q ≠ 18)
def stateB (n : Nat) (xs : List Nd) (m : Mc) : Bool :=
  if m.t = 0 then placeB n m.p && decide (m.q = 0) && decide (m.r = 0)
  else if m.t = 1 then placeB n m.p && askB m.q && hasI xs m.r
  else if m.t = 2 then decide (m.p = 0) && decide (m.q = 0) && hasI xs m.r
  else if m.t = 3 then decide (m.p = 0) && decide (1 ≤ m.q) && decide (m.q ≤ 7) && decide (m.r = 0)
  else false
theorem isasked_any (q : Int) (w : World) : Calls Tryz.prog 127 #[.int .i64 q] w fun e w' => e = .returned (.bool (askB q)) ∧ w' = w := by
  go_enter Tryz.func127, Tryz.ntmps127
  by_cases h1 : 12 < q
  · by_cases h2 : q ≤ 19
    · by_cases h3 : q = 18
      · subst h3
        go_wp2
        go_ret
        exact ⟨rfl, rfl⟩
      · have q1 : (q == 18) = false := by simp [h3]
        have q2 : decide (q = 18) = false := by simp [h3]
        go_wp2
        go_ret
        exact ⟨by simp [askB, h1, h2, h3], rfl⟩
    · go_wp2
      go_ret
      exact ⟨by simp [askB]; omega, rfl⟩
  · go_wp2
    go_ret
    exact ⟨by simp [askB]; omega, rfl⟩
set_option maxRecDepth 100000 in
set_option maxHeartbeats 3200000 in
theorem istatefits_any (a1 a2 a3 : Option Addr) (n1 n2 n3 c1 c2 c3 : Nat) (v : Value) (xs : List Nd) (m : Mc) (w : World) (R : NRow w v xs) :
    Calls Tryz.prog 110 #[.agg #[.slice a1 n1 c1, .slice a2 n2 c2, .slice a3 n3 c3], .agg #[v, .int .i64 m.p, .int .i64 m.s, .int .i64 m.e, .int .i64 m.d, .int .i64 m.t, .int .i64 m.q, .int .i64 m.r]] w fun e w' => e = .returned (.bool (stateB n2 xs m)) ∧ Below w.heap.size w w' := by
  have R' := R
  obtain ⟨ao, cap, rfl, _⟩ := R'
  obtain ⟨mp, ms, me, md, mt, mq, mr⟩ := m
  have hB0 : Below w.heap.size w ((w.alloc (Obj.cells #[.slice a1 n1 c1, .slice a2 n2 c2, .slice a3 n3 c3] 36)).alloc (Obj.cells #[.slice ao xs.length cap, .int .i64 mp, .int .i64 ms, .int .i64 me, .int .i64 md, .int .i64 mt, .int .i64 mq, .int .i64 mr] 56)) := ((Below.refl _ _).alloc (Nat.le_refl _) _).alloc (by simp) _
  have hx0 := heap_alloc2_new w (Obj.cells #[.slice a1 n1 c1, .slice a2 n2 c2, .slice a3 n3 c3] 36) (Obj.cells #[.slice ao xs.length cap, .int .i64 mp, .int .i64 ms, .int .i64 me, .int .i64 md, .int .i64 mt, .int .i64 mq, .int .i64 mr] 56)
  have R0 := R.below hB0
  have hs0 := (Array.getElem?_eq_some_iff.1 hx0).1
  go_enter Tryz.func110, Tryz.ntmps110
  by_cases t0 : mt = 0
  · subst t0
    go_wp2_with fail
    refine (isplace_any _ _ _ _ _ _ _ _ _ mp _).mono ?_
    rintro e w1 ⟨rfl, hb1⟩
    have hB1 := hB0.trans (hb1.mono hB0.size)
    have hx1 := (hb1.block _ hs0).trans hx0
    have k6 : w1.cell? ⟨w.heap.size + 1, 0 + 6, none⟩ = some (.int .i64 mq) := by rw [cell_of_row w1 _ 6 _ _ _ hx1]; rfl
    have k7 : w1.cell? ⟨w.heap.size + 1, 0 + 7, none⟩ = some (.int .i64 mr) := by rw [cell_of_row w1 _ 7 _ _ _ hx1]; rfl
    have HS : Hid (stateB n2 xs ⟨mp, ms, me, md, 0, mq, mr⟩ = ((decide (0 ≤ mp) && decide (mp < n2)) && decide (mq = 0) && decide (mr = 0))) := rfl
    generalize (decide (0 ≤ mp) && decide (mp < n2)) = bb at HS ⊢
    clear hx0 hx1 hb1 hB0 R0
    cases bb with
    | true =>
      go_wp2
      all_goals
        go_ret
        refine ⟨retB ?_, hB1⟩
        rw [HS.out]
        first | (simp [*]; done) | (simp [*]; rfl)
    | false =>
      go_wp2
      go_ret
      exact ⟨retB (by rw [HS.out]; rfl), hB1⟩
  · by_cases t1 : mt = 1
    · subst t1
      go_wp2_with fail
      refine (isplace_any _ _ _ _ _ _ _ _ _ mp _).mono ?_
      rintro e w1 ⟨rfl, hb1⟩
      have hB1 := hB0.trans (hb1.mono hB0.size)
      have hx1 := (hb1.block _ hs0).trans hx0
      have k0 : w1.cell? ⟨w.heap.size + 1, 0, none⟩ = some (.slice ao xs.length cap) := by rw [cell_of_row w1 _ 0 _ _ _ hx1]; rfl
      have k6 : w1.cell? ⟨w.heap.size + 1, 0 + 6, none⟩ = some (.int .i64 mq) := by rw [cell_of_row w1 _ 6 _ _ _ hx1]; rfl
      have k7 : w1.cell? ⟨w.heap.size + 1, 0 + 7, none⟩ = some (.int .i64 mr) := by rw [cell_of_row w1 _ 7 _ _ _ hx1]; rfl
      have HS : Hid (stateB n2 xs ⟨mp, ms, me, md, 1, mq, mr⟩ = ((decide (0 ≤ mp) && decide (mp < n2)) && askB mq && hasI xs mr)) := rfl
      generalize (decide (0 ≤ mp) && decide (mp < n2)) = bb at HS ⊢
      clear hx0 hx1 hb1 hB0 R0
      cases bb with
      | true =>
        go_wp2_with fail
        refine (isasked_any mq _).mono ?_
        rintro e w2 ⟨rfl, rfl⟩
        generalize askB mq = b2 at HS ⊢
        cases b2 with
        | true =>
          go_wp2_with fail
          refine (has_any _ xs mr _ (R.below hB1)).mono ?_
          rintro e w3 ⟨rfl, hb3⟩
          have hB3 := hB1.trans (hb3.mono hB1.size)
          generalize hasI xs mr = b3 at HS ⊢
          clear k0 k6 k7
          cases b3 <;>
            (go_wp2
             go_ret
             exact ⟨retB (by rw [HS.out]; rfl), hB3⟩)
        | false =>
          go_wp2
          go_ret
          exact ⟨retB (by rw [HS.out]; rfl), hB1⟩
      | false =>
        go_wp2
        go_ret
        exact ⟨retB (by rw [HS.out]; rfl), hB1⟩
    · by_cases t2 : mt = 2
      · subst t2
        have HS : Hid (stateB n2 xs ⟨mp, ms, me, md, 2, mq, mr⟩ = (decide (mp = 0) && decide (mq = 0) && hasI xs mr)) := rfl
        by_cases p0 : mp = 0
        · subst p0
          by_cases q0 : mq = 0
          · subst q0
            go_wp2_with fail
            refine (has_any _ xs mr _ R0).mono ?_
            rintro e w3 ⟨rfl, hb3⟩
            have hB3 := hB0.trans (hb3.mono hB0.size)
            generalize hasI xs mr = b3 at HS ⊢
            cases b3 <;>
              (go_wp2
               go_ret
               exact ⟨retB (by rw [HS.out]; rfl), hB3⟩)
          · have g1 : (mq == 0) = false := by simp [q0]
            have g2 : decide (mq = 0) = false := by simp [q0]
            go_wp2
            go_ret
            exact ⟨retB (by rw [HS.out, g2]; rfl), hB0⟩
        · have g1 : (mp == 0) = false := by simp [p0]
          have g2 : decide (mp = 0) = false := by simp [p0]
          go_wp2
          go_ret
          exact ⟨retB (by rw [HS.out, g2]; rfl), hB0⟩
      · by_cases t3 : mt = 3
        · subst t3
          have HS : Hid (stateB n2 xs ⟨mp, ms, me, md, 3, mq, mr⟩ = (decide (mp = 0) && decide (1 ≤ mq) && decide (mq ≤ 7) && decide (mr = 0))) := rfl
          by_cases p0 : mp = 0
          · subst p0
            by_cases q1 : 1 ≤ mq
            · by_cases q7 : mq ≤ 7
              · by_cases r0 : mr = 0
                · subst r0
                  go_wp2
                  go_ret
                  exact ⟨retB (by rw [HS.out]; simp [q1, q7]), hB0⟩
                · have g1 : (mr == 0) = false := by simp [r0]
                  have g2 : decide (mr = 0) = false := by simp [r0]
                  go_wp2
                  go_ret
                  exact ⟨retB (by rw [HS.out, g2]; simp), hB0⟩
              · go_wp2
                go_ret
                exact ⟨retB (by rw [HS.out]; simp; omega), hB0⟩
            · go_wp2
              go_ret
              exact ⟨retB (by rw [HS.out]; simp; omega), hB0⟩
          · have g1 : (mp == 0) = false := by simp [p0]
            have g2 : decide (mp = 0) = false := by simp [p0]
            go_wp2
            go_ret
            exact ⟨retB (by rw [HS.out, g2]; rfl), hB0⟩
        · have HS : Hid (stateB n2 xs ⟨mp, ms, me, md, mt, mq, mr⟩ = false) := by unfold Hid stateB; simp [t0, t1, t2, t3]
          have g0 : (mt == 0) = false := by simp [t0]
          have g1 : (mt == 1) = false := by simp [t1]
          have g2 : (mt == 2) = false := by simp [t2]
          have g3 : (mt == 3) = false := by simp [t3]
          have f0 : decide (mt = 0) = false := by simp [t0]
          have f1 : decide (mt = 1) = false := by simp [t1]
          have f2 : decide (mt = 2) = false := by simp [t2]
          have f3 : decide (mt = 3) = false := by simp [t3]
          go_wp2
          go_ret
          exact ⟨retB (by rw [HS.out]), hB0⟩
end Go.Proofs.YtbhfooafhbfniaaGreatDoor
/-
  A machine that is right: MachineOk on both sides. No condition.
-/
namespace Go.Proofs.YtbhfooafhbfniaaGreatDoor
open Go.RowKit
def machB (ns : List Nd) (is : List In) (ds : List Df) (xs : List Nd) (m : Mc) : Bool := codeB ns is ds && poolB xs && allI xs [m.s, m.e, m.d] && stateB is.length xs m
theorem Tryz.sizeCode : (Tryz.prog.info? 36).map (·.size) = some 3 := by kernel_rfl
theorem IRow.lit3 (w : World) (a b c : Int) : IRow (w.alloc (Obj.cells #[.int .i64 a, .int .i64 b, .int .i64 c] 3)) (.slice (some ⟨w.heap.size, 0, none⟩) 3 3) [a, b, c] := by
  refine ⟨_, 3, rfl, ⟨by simp, fun h => by cases h⟩, by simp, fun _ => ⟨_, 0, rfl, by simp, fun i hi => ?_⟩⟩
  rw [cell_of_row _ w.heap.size (0 + i) _ 3 (0, 0) (heap_alloc_new w _)]
  have : i = 0 ∨ i = 1 ∨ i = 2 := by simp at hi; omega
  rcases this with rfl | rfl | rfl <;> rfl
set_option maxRecDepth 100000 in
set_option maxHeartbeats 3200000 in
theorem imachok_any (v1 v2 v3 v : Value) (ns : List Nd) (is : List In) (ds : List Df) (xs : List Nd) (m : Mc) (w : World) (R1 : NRow w v1 ns) (R2 : InRow w v2 is) (R3 : DfRow w v3 ds) (R : NRow w v xs) :
    Calls Tryz.prog 92 #[.agg #[v1, v2, v3], .agg #[v, .int .i64 m.p, .int .i64 m.s, .int .i64 m.e, .int .i64 m.d, .int .i64 m.t, .int .i64 m.q, .int .i64 m.r]] w fun e w' => e = .returned (.bool (machB ns is ds xs m)) ∧ Below w.heap.size w w' := by
  have R' := R
  obtain ⟨ao, cap, rfl, _⟩ := R'
  obtain ⟨a1, c1, rfl⟩ := R1.small
  obtain ⟨a2, c2, rfl⟩ := R2.small
  obtain ⟨a3, c3, rfl⟩ := R3.small
  obtain ⟨hB0, hk0, hx0⟩ := two_boxes w (Obj.cells #[.slice a1 ns.length c1, .slice a2 is.length c2, .slice a3 ds.length c3] 36) (Obj.cells #[.slice ao xs.length cap, .int .i64 m.p, .int .i64 m.s, .int .i64 m.e, .int .i64 m.d, .int .i64 m.t, .int .i64 m.q, .int .i64 m.r] 56)
  go_enter Tryz.func92, Tryz.ntmps92
  go_wp2_with fail
  refine (icodeok_any _ _ _ ns is ds _ (R1.below hB0) (R2.below hB0) (R3.below hB0)).mono ?_
  rintro e w1 ⟨rfl, hb1⟩
  have hB1 := hB0.trans (hb1.mono hB0.size)
  have hk1 := (hb1.block _ (Array.getElem?_eq_some_iff.1 hk0).1).trans hk0
  have hx1 := (hb1.block _ (Array.getElem?_eq_some_iff.1 hx0).1).trans hx0
  clear hB0 hk0 hx0 hb1
  have HM : Hid (machB ns is ds xs m = (codeB ns is ds && poolB xs && allI xs [m.s, m.e, m.d] && stateB is.length xs m)) := rfl
  have k0 : w1.cell? ⟨w.heap.size + 1, 0, none⟩ = some (.slice ao xs.length cap) := by rw [cell_of_row w1 _ 0 _ _ _ hx1]; rfl
  generalize codeB ns is ds = b1 at HM ⊢
  cases b1 with
  | false =>
    go_wp2
    go_ret
    exact ⟨retB (by rw [HM.out]; rfl), hB1⟩
  | true =>
    go_wp2_with fail
    refine (ipool_any _ xs _ (R.below hB1)).mono ?_
    rintro e w2 ⟨rfl, hb2⟩
    have hB2 := hB1.trans (hb2.mono hB1.size)
    have hk2 := (hb2.block _ (Array.getElem?_eq_some_iff.1 hk1).1).trans hk1
    have hx2 := (hb2.block _ (Array.getElem?_eq_some_iff.1 hx1).1).trans hx1
    clear hB1 hk1 hx1 hb2 k0
    have k0 : w2.cell? ⟨w.heap.size + 1, 0, none⟩ = some (.slice ao xs.length cap) := by rw [cell_of_row w2 _ 0 _ _ _ hx2]; rfl
    have k2 : w2.cell? ⟨w.heap.size + 1, 0 + 2, none⟩ = some (.int .i64 m.s) := by rw [cell_of_row w2 _ 2 _ _ _ hx2]; rfl
    have k3 : w2.cell? ⟨w.heap.size + 1, 0 + 3, none⟩ = some (.int .i64 m.e) := by rw [cell_of_row w2 _ 3 _ _ _ hx2]; rfl
    have k4 : w2.cell? ⟨w.heap.size + 1, 0 + 4, none⟩ = some (.int .i64 m.d) := by rw [cell_of_row w2 _ 4 _ _ _ hx2]; rfl
    generalize poolB xs = b2 at HM ⊢
    cases b2 with
    | false =>
      go_wp2
      go_ret
      exact ⟨retB (by rw [HM.out]; rfl), hB2⟩
    | true =>
      have hBa : Below w2.heap.size w2 (w2.alloc (Obj.cells #[.int .i64 m.s, .int .i64 m.e, .int .i64 m.d] 3)) := (Below.refl _ _).alloc (Nat.le_refl _) _
      go_wp2_with fail
      refine (hasall_any _ _ xs [m.s, m.e, m.d] _ (R.below (hB2.trans (hBa.mono hB2.size))) (IRow.lit3 w2 m.s m.e m.d)).mono ?_
      rintro e w3 ⟨rfl, hb3⟩
      have hb23 := hBa.trans (hb3.mono hBa.size)
      have hB3 := hB2.trans (hb23.mono hB2.size)
      have hk3 := (hb23.block _ (Array.getElem?_eq_some_iff.1 hk2).1).trans hk2
      have hx3 := (hb23.block _ (Array.getElem?_eq_some_iff.1 hx2).1).trans hx2
      clear hB2 hk2 hx2 hb3 hb23 hBa k0 k2 k3 k4
      generalize allI xs [m.s, m.e, m.d] = b3 at HM ⊢
      cases b3 with
      | false =>
        go_wp2
        go_ret
        exact ⟨retB (by rw [HM.out]; rfl), hB3⟩
      | true =>
        have l0 : w3.cell? ⟨w.heap.size, 0, none⟩ = some (.slice a1 ns.length c1) := cell_of_row w3 _ 0 _ _ _ hk3
        have l1 : w3.cell? ⟨w.heap.size, 1, none⟩ = some (.slice a2 is.length c2) := cell_of_row w3 _ 1 _ _ _ hk3
        have l2 : w3.cell? ⟨w.heap.size, 2, none⟩ = some (.slice a3 ds.length c3) := cell_of_row w3 _ 2 _ _ _ hk3
        have k0 : w3.cell? ⟨w.heap.size + 1, 0, none⟩ = some (.slice ao xs.length cap) := cell_of_row w3 _ 0 _ _ _ hx3
        have k1 : w3.cell? ⟨w.heap.size + 1, 1, none⟩ = some (.int .i64 m.p) := cell_of_row w3 _ 1 _ _ _ hx3
        have k2 : w3.cell? ⟨w.heap.size + 1, 2, none⟩ = some (.int .i64 m.s) := cell_of_row w3 _ 2 _ _ _ hx3
        have k3 : w3.cell? ⟨w.heap.size + 1, 3, none⟩ = some (.int .i64 m.e) := cell_of_row w3 _ 3 _ _ _ hx3
        have k4 : w3.cell? ⟨w.heap.size + 1, 4, none⟩ = some (.int .i64 m.d) := cell_of_row w3 _ 4 _ _ _ hx3
        have k5 : w3.cell? ⟨w.heap.size + 1, 5, none⟩ = some (.int .i64 m.t) := cell_of_row w3 _ 5 _ _ _ hx3
        have k6 : w3.cell? ⟨w.heap.size + 1, 6, none⟩ = some (.int .i64 m.q) := cell_of_row w3 _ 6 _ _ _ hx3
        have k7 : w3.cell? ⟨w.heap.size + 1, 7, none⟩ = some (.int .i64 m.r) := cell_of_row w3 _ 7 _ _ _ hx3
        go_wp2_with fail
        refine (istatefits_any _ _ _ _ _ _ _ _ _ _ xs m _ (R.below hB3)).mono ?_
        rintro e w4 ⟨rfl, hb4⟩
        have hB4 := hB3.trans (hb4.mono hB3.size)
        generalize stateB is.length xs m = b4 at HM ⊢
        cases b4 <;>
          (go_wp2
           go_ret
           exact ⟨retB (by rw [HM.out]; rfl), hB4⟩)
end Go.Proofs.YtbhfooafhbfniaaGreatDoor
/-
  A machine that is right, on the specification's side: MachineOk. No condition.
-/
namespace Go.Proofs.YtbhfooafhbfniaaGreatDoor
open Go.RowKit
structure MBox (w : World) (b : Nat) (cc mc : Array Value) : Prop where
  code : w.heap[b]? = some (.cells cc 36 (0, 0))
  mach : w.heap[b + 1]? = some (.cells mc 56 (0, 0))
theorem MBox.below {w w' : World} {b : Nat} {cc mc : Array Value} (h : MBox w b cc mc) (hb : Below w.heap.size w w') : MBox w' b cc mc :=
  ⟨(hb.block _ (Array.getElem?_eq_some_iff.1 h.code).1).trans h.code, (hb.block _ (Array.getElem?_eq_some_iff.1 h.mach).1).trans h.mach⟩
set_option maxRecDepth 100000 in
set_option maxHeartbeats 6400000 in
theorem smachok_any (v1 v2 v3 v : Value) (ns : List Nd) (is : List In) (ds : List Df) (xs : List Nd) (m : Mc) (w : World) (R1 : NRow w v1 ns) (R2 : InRow w v2 is) (R3 : DfRow w v3 ds) (R : NRow w v xs) :
    Calls Tryz.prog 81 #[.agg #[v1, v2, v3], .agg #[v, .int .i64 m.p, .int .i64 m.s, .int .i64 m.e, .int .i64 m.d, .int .i64 m.t, .int .i64 m.q, .int .i64 m.r]] w fun e w' => e = .returned (.bool (machB ns is ds xs m)) ∧ Below w.heap.size w w' := by
  have hn2 : is.length ≤ 9223372036854775807 := by obtain ⟨_, _, _, _, hm, _⟩ := R2; exact hm
  have R' := R
  obtain ⟨ao, cap, rfl, _⟩ := R'
  obtain ⟨a1, c1, rfl⟩ := R1.small
  obtain ⟨a2, c2, rfl⟩ := R2.small
  obtain ⟨a3, c3, rfl⟩ := R3.small
  obtain ⟨mp, ms, me, md, mt, mq, mr⟩ := m
  obtain ⟨hB0, hk0, hx0⟩ := two_boxes w (Obj.cells #[.slice a1 ns.length c1, .slice a2 is.length c2, .slice a3 ds.length c3] 36) (Obj.cells #[.slice ao xs.length cap, .int .i64 mp, .int .i64 ms, .int .i64 me, .int .i64 md, .int .i64 mt, .int .i64 mq, .int .i64 mr] 56)
  have X0 : MBox _ w.heap.size #[.slice a1 ns.length c1, .slice a2 is.length c2, .slice a3 ds.length c3] #[.slice ao xs.length cap, .int .i64 mp, .int .i64 ms, .int .i64 me, .int .i64 md, .int .i64 mt, .int .i64 mq, .int .i64 mr] := ⟨hk0, hx0⟩
  go_enter Tryz.func81, Tryz.ntmps81
  go_wp2_with fail
  refine (scodeok_any _ _ _ ns is ds _ (R1.below hB0) (R2.below hB0) (R3.below hB0)).mono ?_
  rintro e w1 ⟨rfl, hb1⟩
  have hB1 := hB0.trans (hb1.mono hB0.size)
  have X1 := X0.below hb1
  clear hB0 hk0 hx0 hb1 X0
  have HM : Hid (machB ns is ds xs ⟨mp, ms, me, md, mt, mq, mr⟩ = (codeB ns is ds && poolB xs && (hasI xs ms && (hasI xs me && (hasI xs md && true))) && stateB is.length xs ⟨mp, ms, me, md, mt, mq, mr⟩)) := rfl
  have k0 : w1.cell? ⟨w.heap.size + 1, 0, none⟩ = some (.slice ao xs.length cap) := cell_of_row w1 _ 0 _ _ _ X1.mach
  generalize codeB ns is ds = b1 at HM ⊢
  cases b1 with
  | false =>
    go_wp2
    go_ret
    exact ⟨retB (by rw [HM.out]; rfl), hB1⟩
  | true =>
    go_wp2_with fail
    refine (spool_any _ xs _ (R.below hB1)).mono ?_
    rintro e w2 ⟨rfl, hb2⟩
    have hB2 := hB1.trans (hb2.mono hB1.size)
    have X2 := X1.below hb2
    clear hB1 X1 hb2 k0
    have k0 : w2.cell? ⟨w.heap.size + 1, 0, none⟩ = some (.slice ao xs.length cap) := cell_of_row w2 _ 0 _ _ _ X2.mach
    have k2 : w2.cell? ⟨w.heap.size + 1, 0 + 2, none⟩ = some (.int .i64 ms) := cell_of_row w2 _ 2 _ _ _ X2.mach
    generalize poolB xs = b2 at HM ⊢
    cases b2 with
    | false =>
      go_wp2
      go_ret
      exact ⟨retB (by rw [HM.out]; rfl), hB2⟩
    | true =>
      go_wp2_with fail
      refine (shas_all _ xs _ _ (R.below hB2)).mono ?_
      rintro e w3 ⟨rfl, hb3⟩
      have hB3 := hB2.trans (hb3.mono hB2.size)
      have X3 := X2.below hb3
      clear hB2 X2 hb3 k0 k2
      have k0 : w3.cell? ⟨w.heap.size + 1, 0, none⟩ = some (.slice ao xs.length cap) := cell_of_row w3 _ 0 _ _ _ X3.mach
      have k3 : w3.cell? ⟨w.heap.size + 1, 0 + 3, none⟩ = some (.int .i64 me) := cell_of_row w3 _ 3 _ _ _ X3.mach
      generalize hasI xs ms = b3 at HM ⊢
      cases b3 with
      | false =>
        go_wp2
        go_ret
        exact ⟨retB (by rw [HM.out]; simp), hB3⟩
      | true =>
        go_wp2_with fail
        refine (shas_all _ xs _ _ (R.below hB3)).mono ?_
        rintro e w4 ⟨rfl, hb4⟩
        have hB4 := hB3.trans (hb4.mono hB3.size)
        have X4 := X3.below hb4
        clear hB3 X3 hb4 k0 k3
        have k0 : w4.cell? ⟨w.heap.size + 1, 0, none⟩ = some (.slice ao xs.length cap) := cell_of_row w4 _ 0 _ _ _ X4.mach
        have k4 : w4.cell? ⟨w.heap.size + 1, 0 + 4, none⟩ = some (.int .i64 md) := cell_of_row w4 _ 4 _ _ _ X4.mach
        generalize hasI xs me = b4 at HM ⊢
        cases b4 with
        | false =>
          go_wp2
          go_ret
          exact ⟨retB (by rw [HM.out]; simp), hB4⟩
        | true =>
          go_wp2_with fail
          refine (shas_all _ xs _ _ (R.below hB4)).mono ?_
          rintro e w5 ⟨rfl, hb5⟩
          have hB5 := hB4.trans (hb5.mono hB4.size)
          have X5 := X4.below hb5
          clear hB4 X4 hb5 k0 k4
          have k0 : w5.cell? ⟨w.heap.size + 1, 0, none⟩ = some (.slice ao xs.length cap) := cell_of_row w5 _ 0 _ _ _ X5.mach
          generalize hasI xs md = b5 at HM ⊢
          cases b5 with
          | false =>
            go_wp2
            go_ret
            exact ⟨retB (by rw [HM.out]; simp), hB5⟩
          | true =>
            have HS : Hid (machB ns is ds xs ⟨mp, ms, me, md, mt, mq, mr⟩ = stateB is.length xs ⟨mp, ms, me, md, mt, mq, mr⟩) := by unfold Hid; rw [HM.out]; simp
            clear HM
            have hBx := hB5
            have k1 : w5.cell? ⟨w.heap.size + 1, 0 + 1, none⟩ = some (.int .i64 mp) := cell_of_row w5 _ 1 _ _ _ X5.mach
            have k5 : w5.cell? ⟨w.heap.size + 1, 0 + 5, none⟩ = some (.int .i64 mt) := cell_of_row w5 _ 5 _ _ _ X5.mach
            have k6 : w5.cell? ⟨w.heap.size + 1, 0 + 6, none⟩ = some (.int .i64 mq) := cell_of_row w5 _ 6 _ _ _ X5.mach
            have k7 : w5.cell? ⟨w.heap.size + 1, 0 + 7, none⟩ = some (.int .i64 mr) := cell_of_row w5 _ 7 _ _ _ X5.mach
            have l1 : w5.cell? ⟨w.heap.size, 0 + 1, none⟩ = some (.slice a2 is.length c2) := cell_of_row w5 _ 1 _ _ _ X5.code
            have R5 := R.below hB5
            clear X5
            go_wp2_with fail
            refine (lin_any mp 0 ((is.length : Int) - 1) _).mono ?_
            rintro e w6 ⟨rfl, rfl⟩
            have hpl : (decide (0 ≤ mp) && decide (mp ≤ (is.length : Int) - 1)) = placeB is.length mp := by
              unfold placeB
              congr 1
              rw [decide_eq_decide]
              omega
            rw [hpl]
            by_cases t0 : mt = 0
            · subst t0
              replace HS : Hid (machB ns is ds xs ⟨mp, ms, me, md, 0, mq, mr⟩ = (placeB is.length mp && decide (mq = 0) && decide (mr = 0))) := HS
              generalize placeB is.length mp = bb at HS ⊢
              cases bb with
              | true =>
                by_cases q0 : mq = 0
                · subst q0
                  by_cases r0 : mr = 0
                  · subst r0
                    go_wp2
                    go_ret
                    exact ⟨retB (by rw [HS.out]; rfl), hBx⟩
                  · have g1 : (mr == 0) = false := by simp [r0]
                    have g2 : decide (mr = 0) = false := by simp [r0]
                    go_wp2
                    go_ret
                    exact ⟨retB (by rw [HS.out, g2]; rfl), hBx⟩
                · have g1 : (mq == 0) = false := by simp [q0]
                  have g2 : decide (mq = 0) = false := by simp [q0]
                  go_wp2
                  go_ret
                  exact ⟨retB (by rw [HS.out, g2]; rfl), hBx⟩
              | false =>
                go_wp2
                go_ret
                exact ⟨retB (by rw [HS.out]; rfl), hBx⟩
            · by_cases t1 : mt = 1
              · subst t1
                replace HS : Hid (machB ns is ds xs ⟨mp, ms, me, md, 1, mq, mr⟩ = (placeB is.length mp && askB mq && hasI xs mr)) := HS
                generalize placeB is.length mp = bb at HS ⊢
                cases bb with
                | true =>
                  go_wp2_with fail
                  refine (lin_any mq 13 19 _).mono ?_
                  rintro e w7 ⟨rfl, rfl⟩
                  have hask : askB mq = ((decide (13 ≤ mq) && decide (mq ≤ 19)) && decide (mq ≠ 18)) := by
                    unfold askB
                    congr 2
                  rw [hask] at HS
                  generalize (decide (13 ≤ mq) && decide (mq ≤ 19)) = b7 at HS ⊢
                  cases b7 with
                  | true =>
                    by_cases q18 : mq = 18
                    · subst q18
                      go_wp2
                      go_ret
                      exact ⟨retB (by rw [HS.out]; rfl), hBx⟩
                    · have g1 : (mq == 18) = false := by simp [q18]
                      have g2 : decide (mq = 18) = false := by simp [q18]
                      have g3 : decide (mq ≠ 18) = true := by simp [q18]
                      go_wp2_with fail
                      refine (shas_all _ xs _ _ R5).mono ?_
                      rintro e w8 ⟨rfl, hb8⟩
                      have hB8 := hBx.trans (hb8.mono hBx.size)
                      generalize hasI xs mr = b8 at HS ⊢
                      cases b8 <;>
                        (go_wp2
                         go_ret
                         exact ⟨retB (by rw [HS.out, g3]; first | rfl | simp [q18]), hB8⟩)
                  | false =>
                    go_wp2
                    go_ret
                    exact ⟨retB (by rw [HS.out]; rfl), hBx⟩
                | false =>
                  go_wp2
                  go_ret
                  exact ⟨retB (by rw [HS.out]; rfl), hBx⟩
              · generalize placeB is.length mp = bb
                by_cases t2 : mt = 2
                · subst t2
                  replace HS : Hid (machB ns is ds xs ⟨mp, ms, me, md, 2, mq, mr⟩ = (decide (mp = 0) && decide (mq = 0) && hasI xs mr)) := HS
                  by_cases p0 : mp = 0
                  · subst p0
                    by_cases q0 : mq = 0
                    · subst q0
                      go_wp2_with fail
                      refine (shas_all _ xs _ _ R5).mono ?_
                      rintro e w8 ⟨rfl, hb8⟩
                      have hB8 := hBx.trans (hb8.mono hBx.size)
                      generalize hasI xs mr = b8 at HS ⊢
                      cases b8 <;>
                        (go_wp2
                         go_ret
                         exact ⟨retB (by rw [HS.out]; rfl), hB8⟩)
                    · have g1 : (mq == 0) = false := by simp [q0]
                      have g2 : decide (mq = 0) = false := by simp [q0]
                      go_wp2
                      go_ret
                      exact ⟨retB (by rw [HS.out, g2]; rfl), hBx⟩
                  · have g1 : (mp == 0) = false := by simp [p0]
                    have g2 : decide (mp = 0) = false := by simp [p0]
                    go_wp2
                    go_ret
                    exact ⟨retB (by rw [HS.out, g2]; rfl), hBx⟩
                · by_cases t3 : mt = 3
                  · subst t3
                    replace HS : Hid (machB ns is ds xs ⟨mp, ms, me, md, 3, mq, mr⟩ = (decide (mp = 0) && decide (1 ≤ mq) && decide (mq ≤ 7) && decide (mr = 0))) := HS
                    by_cases p0 : mp = 0
                    · subst p0
                      go_wp2_with fail
                      refine (lin_any mq 1 7 _).mono ?_
                      rintro e w7 ⟨rfl, rfl⟩
                      replace HS : Hid (machB ns is ds xs ⟨0, ms, me, md, 3, mq, mr⟩ = ((decide (1 ≤ mq) && decide (mq ≤ 7)) && decide (mr = 0))) := by unfold Hid; rw [HS.out]; simp
                      generalize (decide (1 ≤ mq) && decide (mq ≤ 7)) = b7 at HS ⊢
                      cases b7 with
                      | true =>
                        by_cases r0 : mr = 0
                        · subst r0
                          go_wp2
                          go_ret
                          exact ⟨retB (by rw [HS.out]; rfl), hBx⟩
                        · have g1 : (mr == 0) = false := by simp [r0]
                          have g2 : decide (mr = 0) = false := by simp [r0]
                          go_wp2
                          go_ret
                          exact ⟨retB (by rw [HS.out, g2]; rfl), hBx⟩
                      | false =>
                        go_wp2
                        go_ret
                        exact ⟨retB (by rw [HS.out]; rfl), hBx⟩
                    · have g1 : (mp == 0) = false := by simp [p0]
                      have g2 : decide (mp = 0) = false := by simp [p0]
                      go_wp2
                      go_ret
                      exact ⟨retB (by rw [HS.out, g2]; rfl), hBx⟩
                  · replace HS : Hid (machB ns is ds xs ⟨mp, ms, me, md, mt, mq, mr⟩ = false) := by unfold Hid; rw [HS.out]; unfold stateB; simp [t0, t1, t2, t3]
                    have g0 : (mt == 0) = false := by simp [t0]
                    have g1 : (mt == 1) = false := by simp [t1]
                    have g2 : (mt == 2) = false := by simp [t2]
                    have g3 : (mt == 3) = false := by simp [t3]
                    have f0 : decide (mt = 0) = false := by simp [t0]
                    have f1 : decide (mt = 1) = false := by simp [t1]
                    have f2 : decide (mt = 2) = false := by simp [t2]
                    have f3 : decide (mt = 3) = false := by simp [t3]
                    go_wp2
                    go_ret
                    exact ⟨retB (by rw [HS.out]), hBx⟩
end Go.Proofs.YtbhfooafhbfniaaGreatDoor
/-
  Plain mathematics of a number's bytes: groups of seven bits, the lowest first. Nothing of the program; no condition.
-/
namespace Go.Proofs.YtbhfooafhbfniaaGreatDoor
def enc : Nat → Int → List Int
  | 0, _ => []
  | f + 1, x => if x < 128 then [x] else (x % 128 + 128) :: enc f (x / 128)
def lim : Nat → Int
  | 0 => 1
  | f + 1 => 128 * lim f
theorem lim_nine : lim 9 = 9223372036854775808 := by simp [lim]
theorem lim_pos (f : Nat) : 1 ≤ lim f := by
  induction f with
  | zero => simp [lim]
  | succ f ih => simp only [lim]; omega
theorem enc_last (f : Nat) (x : Int) (h : x < 128) : enc (f + 1) x = [x] := by simp [enc, h]
theorem enc_more (f : Nat) (x : Int) (h : 128 ≤ x) : enc (f + 1) x = (x % 128 + 128) :: enc f (x / 128) := by
  have : ¬ x < 128 := by omega
  simp [enc, this]
theorem lim_more (f : Nat) (y : Int) (h : 128 ≤ y) (hy : y < lim (f + 1)) : ∃ f', f = f' + 1 ∧ y / 128 < lim f := by
  cases f with
  | zero => simp [lim] at hy; omega
  | succ f' => exact ⟨f', rfl, by simp only [lim] at hy ⊢; omega⟩
theorem enc_length (f : Nat) (x : Int) : (enc f x).length ≤ f := by
  induction f generalizing x with
  | zero => simp [enc]
  | succ f ih =>
    simp only [enc]
    split
    · simp
    · simp only [List.length_cons]; have := ih (x / 128); omega
theorem enc_wf (f : Nat) (x : Int) (h : 0 ≤ x) : ∀ z ∈ enc f x, 0 ≤ z ∧ z ≤ 255 := by
  induction f generalizing x with
  | zero => simp [enc]
  | succ f ih =>
    simp only [enc]
    split
    · intro z hz; simp at hz; omega
    · intro z hz
      simp only [List.mem_cons] at hz
      rcases hz with rfl | hz
      · omega
      · exact ih _ (by omega) z hz
def encI (x : Int) : List Int := if x < 0 then [] else enc 9 x
theorem encI_neg (x : Int) (h : x < 0) : encI x = [] := by simp [encI, h]
theorem encI_pos (x : Int) (h : 0 ≤ x) : encI x = enc 9 x := by
  have : ¬ x < 0 := by omega
  simp [encI, this]
theorem encI_length (x : Int) : (encI x).length ≤ 9 := by
  unfold encI; split
  · simp
  · exact enc_length 9 x
theorem encI_wf (x : Int) : ∀ z ∈ encI x, 0 ≤ z ∧ z ≤ 255 := by
  unfold encI; split
  · simp
  · exact enc_wf 9 x (by omega)
end Go.Proofs.YtbhfooafhbfniaaGreatDoor
/-
  Plain mathematics of reading a number from bytes. Nothing of the program; no condition.
-/
namespace Go.Proofs.YtbhfooafhbfniaaGreatDoor
open Go.RowKit
def scan : Nat → List Int → Option (List Int)
  | 0, _ => none
  | _ + 1, [] => none
  | f + 1, b :: bs => if b < 128 then some [b] else (scan f bs).map (b :: ·)
def val : List Int → Int
  | [] => 0
  | b :: bs => b % 128 + 128 * val bs
theorem val_bounds (bs : List Int) : 0 ≤ val bs ∧ val bs < lim bs.length := by
  induction bs with
  | nil => simp [val, lim]
  | cons b bs ih => simp only [val, List.length_cons, lim]; omega
theorem val_snoc (bs : List Int) (b : Int) : val (bs ++ [b]) = val bs + b % 128 * lim bs.length := by
  induction bs with
  | nil => simp [val, lim]
  | cons c bs ih =>
    simp only [List.cons_append, val, ih, List.length_cons, lim]
    rw [Int.mul_add, ← Int.mul_assoc, ← Int.mul_assoc, Int.mul_comm (b % 128) 128]
    omega
theorem lim_mono {a b : Nat} (h : a ≤ b) : lim a ≤ lim b := by
  induction h with
  | refl => exact Int.le_refl _
  | step h ih => rename_i m; have := lim_pos m; simp only [lim]; omega
theorem mul_lim (b : Int) (k : Nat) : 0 ≤ b % 128 * lim k ∧ b % 128 * lim k ≤ 127 * lim k := by
  have h1 : 0 ≤ b % 128 := by omega
  have h2 : b % 128 ≤ 127 := by omega
  have h3 := lim_pos k
  exact ⟨Int.mul_nonneg h1 (by omega), Int.mul_le_mul_of_nonneg_right h2 (by omega)⟩
def gN (zs : List Int) (a : Int) : Int × Int × Bool :=
  if a < 0 then (0, 0, false) else
  match scan 9 (zs.drop a.toNat) with
  | none => (0, 0, false)
  | some bs => if 1 < bs.length ∧ bs.getLast? = some 0 then (0, 0, false) else (val bs, a + bs.length, true)
theorem gN_neg (zs : List Int) (a : Int) (h : a < 0) : gN zs a = (0, 0, false) := by simp [gN, h]
theorem gN_none (zs : List Int) (a : Nat) (h : scan 9 (zs.drop a) = none) : gN zs (a : Int) = (0, 0, false) := by
  have : ¬ (a : Int) < 0 := by omega
  simp [gN, h]
theorem gN_zero (zs : List Int) (a : Nat) (acc : List Int) (h : scan 9 (zs.drop a) = some (acc ++ [0])) (hk : 0 < acc.length) : gN zs (a : Int) = (0, 0, false) := by
  have : ¬ (a : Int) < 0 := by omega
  simp [gN, h]
  intro h0; subst h0; simp at hk
theorem gN_some (zs : List Int) (a : Nat) (acc : List Int) (b : Int) (h : scan 9 (zs.drop a) = some (acc ++ [b])) (hk : ¬ (b = 0 ∧ 0 < acc.length)) :
    gN zs (a : Int) = (val acc + b % 128 * lim acc.length, (a : Int) + acc.length + 1, true) := by
  have h1 : ¬ (a : Int) < 0 := by omega
  have h2 : ¬ (1 < (acc ++ [b]).length ∧ (acc ++ [b]).getLast? = some 0) := by
    simp only [List.length_append, List.length_cons, List.length_nil, List.getLast?_append, List.getLast?_singleton, Option.some_or, Option.some.injEq]
    omega
  simp only [gN, h1, if_false, Int.toNat_natCast, h]
  rw [if_neg h2, val_snoc]
  simp only [List.length_append, List.length_cons, List.length_nil]
  congr 2
def Sc (zs : List Int) (a k : Nat) (acc : List Int) : Prop := acc.length = k ∧ scan 9 (zs.drop a) = (scan (9 - k) (zs.drop (a + k))).map (acc ++ ·)
theorem Sc.start (zs : List Int) (a : Nat) : Sc zs a 0 [] := ⟨rfl, by simp⟩
theorem Sc.more {zs : List Int} {a k : Nat} {acc : List Int} (h : Sc zs a k acc) (hk : k < 9) (hl : a + k < zs.length) (hb : 128 ≤ zs[a + k]) : Sc zs a (k + 1) (acc ++ [zs[a + k]]) := by
  refine ⟨by simp [h.1], ?_⟩
  rw [h.2, show 9 - k = 9 - (k + 1) + 1 by omega, List.drop_eq_getElem_cons hl]
  simp only [scan]
  rw [if_neg (by omega), Option.map_map]
  congr 1
  funext x
  simp
theorem Sc.last {zs : List Int} {a k : Nat} {acc : List Int} (h : Sc zs a k acc) (hk : k < 9) (hl : a + k < zs.length) (hb : zs[a + k] < 128) : scan 9 (zs.drop a) = some (acc ++ [zs[a + k]]) := by
  rw [h.2, show 9 - k = 9 - (k + 1) + 1 by omega, List.drop_eq_getElem_cons hl]
  simp only [scan]
  rw [if_pos hb]
  rfl
theorem Sc.out {zs : List Int} {a k : Nat} {acc : List Int} (h : Sc zs a k acc) (hk : 9 ≤ k ∨ zs.length ≤ a + k) : scan 9 (zs.drop a) = none := by
  rw [h.2]
  rcases hk with hk | hk
  · rw [show 9 - k = 0 by omega]; rfl
  · rw [List.drop_eq_nil_of_le hk]
    cases 9 - k <;> rfl
abbrev gV (r : Int × Int × Bool) : Value := .tuple #[.int .i64 r.1, .int .i64 r.2.1, .bool r.2.2]
theorem lim_eight {k : Nat} (h : k ≤ 8) : lim k ≤ 72057594037927936 := by
  have := lim_mono h
  rw [show lim 8 = 72057594037927936 from by simp [lim]] at this
  exact this
theorem lim_seven {k : Nat} (h : k ≤ 7) : lim k ≤ 562949953421312 := by
  have := lim_mono h
  rw [show lim 7 = 562949953421312 from by simp [lim]] at this
  exact this
end Go.Proofs.YtbhfooafhbfniaaGreatDoor
