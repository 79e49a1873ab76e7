/-
  The law FnExactCodeOk, walked: at every code it returns true.
-/
import Derived.Test.YtaakgdcfilhdoaaCodeOk
namespace Go.Proofs.Ytaakgdcfilhdoaa
open Go.RowKit

set_option maxRecDepth 100000 in
set_option maxHeartbeats 1600000 in
theorem lcodeok_any (v1 v2 v3 : Value) (ns : List Nd) (is : List In) (ds : List Df) (w : World) (R1 : NRow w v1 ns) (R2 : InRow w v2 is) (R3 : DfRow w v3 ds) :
    Calls Try.prog 4 #[.agg #[v1, v2, v3]] w fun e w' => e = .returned (.bool true) ∧ Below w.heap.size w w' := by
  obtain ⟨a1, c1, rfl⟩ := R1.small
  obtain ⟨a2, c2, rfl⟩ := R2.small
  obtain ⟨a3, c3, rfl⟩ := R3.small
  have hB0 : Below w.heap.size w (w.alloc (Obj.cells #[.slice a1 ns.length c1, .slice a2 is.length c2, .slice a3 ds.length c3] 43)) := (Below.refl _ _).alloc (Nat.le_refl _) _
  go_enter Try.func4, Try.ntmps4
  go_wp2_with fail
  refine (szcode_any _ _ _ ns is ds _ (R1.below hB0) (R2.below hB0) (R3.below hB0)).mono ?_
  rintro e w1 ⟨r, rfl, hr0, hr1, hr2, hb1⟩
  have hx1 : w1.heap[w.heap.size]? = some (.cells #[.slice a1 ns.length c1, .slice a2 is.length c2, .slice a3 ds.length c3] 43 (0, 0)) := (hb1.block _ (by simp)).trans (heap_alloc_new _ _)
  have hB1 := hB0.trans (hb1.mono hB0.size)
  have hsz1 := (Array.getElem?_eq_some_iff.1 hx1).1
  clear hB0 hb1
  by_cases hr : r < 0
  · go_wp2
    go_ret
    exact ⟨rfl, hB1⟩
  · obtain ⟨l1, l2, l3⟩ := hr2 (by omega)
    have e0 : w1.cell? ⟨w.heap.size, 0, none⟩ = some (.slice a1 ns.length c1) := by rw [cell_of_row w1 _ 0 _ _ _ hx1]; rfl
    have e1 : w1.cell? ⟨w.heap.size, 0 + 1, none⟩ = some (.slice a2 is.length c2) := by rw [cell_of_row w1 _ 1 _ _ _ hx1]; rfl
    have e2 : w1.cell? ⟨w.heap.size, 0 + 2, none⟩ = some (.slice a3 ds.length c3) := by rw [cell_of_row w1 _ 2 _ _ _ hx1]; rfl
    go_wp2_with fail
    refine (tocode_any _ _ _ ns is ds _ (R1.below hB1) (R2.below hB1) (R3.below hB1) (by omega) (by omega) (by omega)).mono ?_
    rintro e w2 ⟨u1, u2, u3, rfl, S1, S2, S3, hb2⟩
    obtain ⟨b1, d1, rfl⟩ := S1.small
    obtain ⟨b2, d2, rfl⟩ := S2.small
    obtain ⟨b3, d3, rfl⟩ := S3.small
    have hB2 := hB1.trans (hb2.mono hB1.size)
    have hx2 := (hb2.block _ hsz1).trans hx1
    clear e0 e1 e2
    go_wp2_with fail
    refine (scodeok_any _ _ _ ns is ds _ S1 S2 S3).mono ?_
    rintro e w3 ⟨rfl, hb3⟩
    have hB3 := hB2.trans (hb3.mono hB2.size)
    have hx3 := (hb3.block _ (Nat.lt_of_lt_of_le hsz1 hb2.size)).trans hx2
    have hsz3 := (Array.getElem?_eq_some_iff.1 hx3).1
    have e0 : w3.cell? ⟨w.heap.size, 0, none⟩ = some (.slice a1 ns.length c1) := by rw [cell_of_row w3 _ 0 _ _ _ hx3]; rfl
    have e1 : w3.cell? ⟨w.heap.size, 0 + 1, none⟩ = some (.slice a2 is.length c2) := by rw [cell_of_row w3 _ 1 _ _ _ hx3]; rfl
    have e2 : w3.cell? ⟨w.heap.size, 0 + 2, none⟩ = some (.slice a3 ds.length c3) := by rw [cell_of_row w3 _ 2 _ _ _ hx3]; rfl
    clear hb2 hb3 hx2 S1 S2 S3 hx1 hB1 hB2 hsz1
    go_wp2_with fail
    refine (tocode_any _ _ _ ns is ds _ (R1.below hB3) (R2.below hB3) (R3.below hB3) (by omega) (by omega) (by omega)).mono ?_
    rintro e w4 ⟨u1, u2, u3, rfl, T1, T2, T3, hb4⟩
    obtain ⟨b1, d1, rfl⟩ := T1.small
    obtain ⟨b2, d2, rfl⟩ := T2.small
    obtain ⟨b3, d3, rfl⟩ := T3.small
    have hB4 := hB3.trans (hb4.mono hB3.size)
    have hx4 := (hb4.block _ hsz3).trans hx3
    have hsz4 := (Array.getElem?_eq_some_iff.1 hx4).1
    clear hx3 e0 e1 e2 hb4 hsz3 hB3
    go_wp2_with fail
    have hB4' : Below w4.heap.size w4 (w4.alloc (Obj.cells #[.slice b1 ns.length d1, .slice b2 is.length d2, .slice b3 ds.length d3] 30)) := (Below.refl _ _).alloc (Nat.le_refl _) _
    refine (icodeok_any _ _ _ ns is ds _ (T1.below hB4') (T2.below hB4') (T3.below hB4')).mono ?_
    rintro e w5 ⟨rfl, hb5⟩
    have hB45 := hB4'.trans (hb5.mono hB4'.size)
    have hB5 := hB4.trans (hB45.mono hB4.size)
    have hx5 := (hB45.block _ hsz4).trans hx4
    have hy5 : w5.heap[w4.heap.size]? = some (.cells #[.slice b1 ns.length d1, .slice b2 is.length d2, .slice b3 ds.length d3] 30 (0, 0)) := (hb5.block _ (by simp)).trans (heap_alloc_new _ _)
    have e0 : w5.cell? ⟨w.heap.size, 0, none⟩ = some (.slice a1 ns.length c1) := by rw [cell_of_row w5 _ 0 _ _ _ hx5]; rfl
    have e1 : w5.cell? ⟨w.heap.size, 0 + 1, none⟩ = some (.slice a2 is.length c2) := by rw [cell_of_row w5 _ 1 _ _ _ hx5]; rfl
    have e2 : w5.cell? ⟨w.heap.size, 0 + 2, none⟩ = some (.slice a3 ds.length c3) := by rw [cell_of_row w5 _ 2 _ _ _ hx5]; rfl
    have k0 : w5.cell? ⟨w4.heap.size, 0, none⟩ = some (.slice b1 ns.length d1) := by rw [cell_of_row w5 _ 0 _ _ _ hy5]; rfl
    have k1 : w5.cell? ⟨w4.heap.size, 0 + 1, none⟩ = some (.slice b2 is.length d2) := by rw [cell_of_row w5 _ 1 _ _ _ hy5]; rfl
    have k2 : w5.cell? ⟨w4.heap.size, 0 + 2, none⟩ = some (.slice b3 ds.length d3) := by rw [cell_of_row w5 _ 2 _ _ _ hy5]; rfl
    have T1 := T1.below hB45
    have T2 := T2.below hB45
    have T3 := T3.below hB45
    have hsy := (Array.getElem?_eq_some_iff.1 hy5).1
    clear hx4 hb5 hB4 hB45 hB4'
    generalize codeB ns is ds = ix
    go_wp2_with fail
    go_region_with (first
      | (go_at_call 13; refine (tocode_any _ _ _ ns is ds _ ?_ ?_ ?_ ?_ ?_ ?_).mono ?_; exact R1.below hB5.drew; exact R2.below hB5.drew; exact R3.below hB5.drew; omega; omega; omega; rintro e w6 ⟨p1, p2, p3, rfl, P1, P2, P3, hb6⟩; obtain ⟨f1, g1, rfl⟩ := P1.small; obtain ⟨f2, g2, rfl⟩ := P2.small; obtain ⟨f3, g3, rfl⟩ := P3.small; have hb6' : Below w5.heap.size w5 w6 := (Below.refl _ _).drew.trans hb6; have U1 := T1.below hb6'; have U2 := T2.below hb6'; have U3 := T3.below hb6'; have hB6 := hB5.trans (hb6'.mono hB5.size); have m0 := (hb6'.cell (p := ⟨w4.heap.size, 0, none⟩) hsy).trans k0; have m1 := (hb6'.cell (p := ⟨w4.heap.size, 0 + 1, none⟩) hsy).trans k1; have m2 := (hb6'.cell (p := ⟨w4.heap.size, 0 + 2, none⟩) hsy).trans k2)
      | (go_at_call 14; refine (eqcode_any _ _ _ _ _ _ ns is ds _ ?_ ?_ ?_ ?_ ?_ ?_).mono ?_; exact U1; exact U2; exact U3; exact P1; exact P2; exact P3; rintro e w7 ⟨rfl, hb7⟩))
    all_goals
      have hB7 := hB6.trans (hb7.mono hB6.size)
      clear hb7 m0 m1 m2 U1 U2 U3 P1 P2 P3 e0 e1 e2 k0 k1 k2
      go_wp2
      go_ret
      exact ⟨rfl, hB7⟩
end Go.Proofs.Ytaakgdcfilhdoaa
