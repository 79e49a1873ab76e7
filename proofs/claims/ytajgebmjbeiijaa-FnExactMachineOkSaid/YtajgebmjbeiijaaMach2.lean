/-
  A machine that is right: MachineOk on both sides. No condition.
-/
import Derived.Test.YtajgebmjbeiijaaMach
import Derived.Test.YtajgebmjbeiijaaListOf
namespace Go.Proofs.Ytajgebmjbeiijaa
open Go.RowKit

def machB (ns : List Nd) (is : List In) (ds : List Df) (xs : List Nd) (m : Mc) : Bool := codeB ns is ds && poolB xs && allI xs [m.s, m.e, m.d] && stateB is.length xs m

theorem Try.sizeCode : (Try.prog.info? 40).map (·.size) = some 3 := by kernel_rfl
theorem Try.sizeMach : (Try.prog.info? 43).map (·.size) = some 8 := by kernel_rfl
theorem IRow.lit3 (w : World) (a b c : Int) : IRow (w.alloc (Obj.cells #[.int .i64 a, .int .i64 b, .int .i64 c] 3)) (.slice (some ⟨w.heap.size, 0, none⟩) 3 3) [a, b, c] := by
  refine ⟨_, 3, rfl, ⟨by simp, fun h => by cases h⟩, by simp, fun _ => ⟨_, 0, rfl, by simp, fun i hi => ?_⟩⟩
  rw [cell_of_row _ w.heap.size (0 + i) _ 3 (0, 0) (heap_alloc_new w _)]
  have : i = 0 ∨ i = 1 ∨ i = 2 := by simp at hi; omega
  rcases this with rfl | rfl | rfl <;> rfl

/-- The two boxes that a code and a machine lie in. -/
theorem two_boxes (w : World) (A B : Obj) : Below w.heap.size w ((w.alloc A).alloc B) ∧ ((w.alloc A).alloc B).heap[w.heap.size]? = some A ∧ ((w.alloc A).alloc B).heap[w.heap.size + 1]? = some B :=
  ⟨((Below.refl _ _).alloc (Nat.le_refl _) _).alloc (by simp) _, (heap_alloc_old _ _ (by simp)).trans (heap_alloc_new _ _), heap_alloc2_new _ _ _⟩

set_option maxRecDepth 100000 in
set_option maxHeartbeats 3200000 in
theorem imachok_any (v1 v2 v3 v : Value) (ns : List Nd) (is : List In) (ds : List Df) (xs : List Nd) (m : Mc) (w : World) (R1 : NRow w v1 ns) (R2 : InRow w v2 is) (R3 : DfRow w v3 ds) (R : NRow w v xs) :
    Calls Try.prog 11 #[.agg #[v1, v2, v3], .agg #[v, .int .i64 m.p, .int .i64 m.s, .int .i64 m.e, .int .i64 m.d, .int .i64 m.t, .int .i64 m.q, .int .i64 m.r]] w fun e w' => e = .returned (.bool (machB ns is ds xs m)) ∧ Below w.heap.size w w' := by
  have R' := R
  obtain ⟨ao, cap, rfl, _⟩ := R'
  obtain ⟨a1, c1, rfl⟩ := R1.small
  obtain ⟨a2, c2, rfl⟩ := R2.small
  obtain ⟨a3, c3, rfl⟩ := R3.small
  obtain ⟨hB0, hk0, hx0⟩ := two_boxes w (Obj.cells #[.slice a1 ns.length c1, .slice a2 is.length c2, .slice a3 ds.length c3] 40) (Obj.cells #[.slice ao xs.length cap, .int .i64 m.p, .int .i64 m.s, .int .i64 m.e, .int .i64 m.d, .int .i64 m.t, .int .i64 m.q, .int .i64 m.r] 43)
  go_enter Try.func11, Try.ntmps11
  go_wp2_with fail
  refine (icodeok_any _ _ _ ns is ds _ (R1.below hB0) (R2.below hB0) (R3.below hB0)).mono ?_
  rintro e w1 ⟨rfl, hb1⟩
  have hB1 := hB0.trans (hb1.mono hB0.size)
  have hk1 := (hb1.block _ (Array.getElem?_eq_some_iff.1 hk0).1).trans hk0
  have hx1 := (hb1.block _ (Array.getElem?_eq_some_iff.1 hx0).1).trans hx0
  clear hB0 hk0 hx0 hb1
  have HM : Hid (machB ns is ds xs m = (codeB ns is ds && poolB xs && allI xs [m.s, m.e, m.d] && stateB is.length xs m)) := rfl
  have k0 : w1.cell? ⟨w.heap.size + 1, 0, none⟩ = some (.slice ao xs.length cap) := by rw [cell_of_row w1 _ 0 _ _ _ hx1]; rfl
  generalize codeB ns is ds = b1 at HM ⊢
  cases b1 with
  | false =>
    go_wp2
    go_ret
    exact ⟨retB (by rw [HM.out]; rfl), hB1⟩
  | true =>
    go_wp2_with fail
    refine (ipool_any _ xs _ (R.below hB1)).mono ?_
    rintro e w2 ⟨rfl, hb2⟩
    have hB2 := hB1.trans (hb2.mono hB1.size)
    have hk2 := (hb2.block _ (Array.getElem?_eq_some_iff.1 hk1).1).trans hk1
    have hx2 := (hb2.block _ (Array.getElem?_eq_some_iff.1 hx1).1).trans hx1
    clear hB1 hk1 hx1 hb2 k0
    have k0 : w2.cell? ⟨w.heap.size + 1, 0, none⟩ = some (.slice ao xs.length cap) := by rw [cell_of_row w2 _ 0 _ _ _ hx2]; rfl
    have k2 : w2.cell? ⟨w.heap.size + 1, 0 + 2, none⟩ = some (.int .i64 m.s) := by rw [cell_of_row w2 _ 2 _ _ _ hx2]; rfl
    have k3 : w2.cell? ⟨w.heap.size + 1, 0 + 3, none⟩ = some (.int .i64 m.e) := by rw [cell_of_row w2 _ 3 _ _ _ hx2]; rfl
    have k4 : w2.cell? ⟨w.heap.size + 1, 0 + 4, none⟩ = some (.int .i64 m.d) := by rw [cell_of_row w2 _ 4 _ _ _ hx2]; rfl
    generalize poolB xs = b2 at HM ⊢
    cases b2 with
    | false =>
      go_wp2
      go_ret
      exact ⟨retB (by rw [HM.out]; rfl), hB2⟩
    | true =>
      have hBa : Below w2.heap.size w2 (w2.alloc (Obj.cells #[.int .i64 m.s, .int .i64 m.e, .int .i64 m.d] 3)) := (Below.refl _ _).alloc (Nat.le_refl _) _
      go_wp2_with fail
      refine (hasall_any _ _ xs [m.s, m.e, m.d] _ (R.below (hB2.trans (hBa.mono hB2.size))) (IRow.lit3 w2 m.s m.e m.d)).mono ?_
      rintro e w3 ⟨rfl, hb3⟩
      have hb23 := hBa.trans (hb3.mono hBa.size)
      have hB3 := hB2.trans (hb23.mono hB2.size)
      have hk3 := (hb23.block _ (Array.getElem?_eq_some_iff.1 hk2).1).trans hk2
      have hx3 := (hb23.block _ (Array.getElem?_eq_some_iff.1 hx2).1).trans hx2
      clear hB2 hk2 hx2 hb3 hb23 hBa k0 k2 k3 k4
      generalize allI xs [m.s, m.e, m.d] = b3 at HM ⊢
      cases b3 with
      | false =>
        go_wp2
        go_ret
        exact ⟨retB (by rw [HM.out]; rfl), hB3⟩
      | true =>
        have l0 : w3.cell? ⟨w.heap.size, 0, none⟩ = some (.slice a1 ns.length c1) := cell_of_row w3 _ 0 _ _ _ hk3
        have l1 : w3.cell? ⟨w.heap.size, 1, none⟩ = some (.slice a2 is.length c2) := cell_of_row w3 _ 1 _ _ _ hk3
        have l2 : w3.cell? ⟨w.heap.size, 2, none⟩ = some (.slice a3 ds.length c3) := cell_of_row w3 _ 2 _ _ _ hk3
        have k0 : w3.cell? ⟨w.heap.size + 1, 0, none⟩ = some (.slice ao xs.length cap) := cell_of_row w3 _ 0 _ _ _ hx3
        have k1 : w3.cell? ⟨w.heap.size + 1, 1, none⟩ = some (.int .i64 m.p) := cell_of_row w3 _ 1 _ _ _ hx3
        have k2 : w3.cell? ⟨w.heap.size + 1, 2, none⟩ = some (.int .i64 m.s) := cell_of_row w3 _ 2 _ _ _ hx3
        have k3 : w3.cell? ⟨w.heap.size + 1, 3, none⟩ = some (.int .i64 m.e) := cell_of_row w3 _ 3 _ _ _ hx3
        have k4 : w3.cell? ⟨w.heap.size + 1, 4, none⟩ = some (.int .i64 m.d) := cell_of_row w3 _ 4 _ _ _ hx3
        have k5 : w3.cell? ⟨w.heap.size + 1, 5, none⟩ = some (.int .i64 m.t) := cell_of_row w3 _ 5 _ _ _ hx3
        have k6 : w3.cell? ⟨w.heap.size + 1, 6, none⟩ = some (.int .i64 m.q) := cell_of_row w3 _ 6 _ _ _ hx3
        have k7 : w3.cell? ⟨w.heap.size + 1, 7, none⟩ = some (.int .i64 m.r) := cell_of_row w3 _ 7 _ _ _ hx3
        go_wp2_with fail
        refine (istatefits_any _ _ _ _ _ _ _ _ _ _ xs m _ (R.below hB3)).mono ?_
        rintro e w4 ⟨rfl, hb4⟩
        have hB4 := hB3.trans (hb4.mono hB3.size)
        generalize stateB is.length xs m = b4 at HM ⊢
        cases b4 <;>
          (go_wp2
           go_ret
           exact ⟨retB (by rw [HM.out]; rfl), hB4⟩)
end Go.Proofs.Ytajgebmjbeiijaa
