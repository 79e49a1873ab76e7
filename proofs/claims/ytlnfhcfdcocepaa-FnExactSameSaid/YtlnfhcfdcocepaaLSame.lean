/-
  The law FnExactSame, walked: at every argument the law returns true.
-/
import Derived.Test.YtlnfhcfdcocepaaTo2
import Derived.Test.YtlnfhcfdcocepaaSSame
import Derived.Test.YtlnfhcfdcocepaaLSizeOf
namespace Go.Proofs.Ytlnfhcfdcocepaa
open Go.RowKit

set_option maxRecDepth 100000 in
set_option maxHeartbeats 800000 in
theorem lsame_any (v : Value) (xs : List Nd) (a b : Int) (w : World) (R : NRow w v xs) :
    Calls Try.prog 4 #[.agg #[v], .int .i64 a, .int .i64 b] w fun e w' => e = .returned (.bool true) ∧ Below w.heap.size w w' := by
  obtain ⟨ao, cap, rfl⟩ := R.small
  go_enter Try.func4, Try.ntmps4
  go_wp2_with fail
  have hB0 : Below w.heap.size w (w.alloc (Obj.cells #[.slice ao xs.length cap] 38)) := (Below.refl _ _).alloc (Nat.le_refl _) _
  refine (szpool_any _ xs _ (R.below hB0)).mono ?_
  rintro e w1 ⟨r, rfl, hr0, hr1, hr2, hb1⟩
  have hx1 : w1.heap[w.heap.size]? = some (.cells #[.slice ao xs.length cap] 38 (0, 0)) := (hb1.block _ (by simp)).trans (heap_alloc_new _ _)
  have hB1 := hB0.trans (hb1.mono hB0.size)
  have hsz1 := (Array.getElem?_eq_some_iff.1 hx1).1
  clear hB0 hb1
  by_cases hr : r < 0
  · go_wp2
    go_ret
    exact ⟨rfl, hB1⟩
  · have hl := (hr2 (by omega)).1
    clear hr2
    have hc1 : w1.cell? ⟨w.heap.size, 0, none⟩ = some (.slice ao xs.length cap) := by rw [cell_of_row w1 _ 0 _ _ _ hx1]; rfl
    go_wp2_with fail
    refine (topool_any _ xs _ (R.below hB1) (by omega)).mono ?_
    rintro e w2 ⟨v2, rfl, ho2, hb2⟩
    obtain ⟨ao2, cap2, rfl⟩ := own_form ho2
    have hz : ∀ x ∈ xs, x.s.size ≤ maxLen := by obtain ⟨_, _, _, _, _, hz, _⟩ := R; exact hz
    have R2 := NRow.of_own ho2 (by omega) hz
    have hB2 := hB1.trans (hb2.mono hB1.size)
    have hx2 := (hb2.block _ hsz1).trans hx1
    go_wp2_with fail
    refine (ssame_any _ xs a b _ R2).mono ?_
    rintro e w3 ⟨rfl, hb3⟩
    have hB3 := hB2.trans (hb3.mono hB2.size)
    have hx3 := (hb3.block _ (Nat.lt_of_lt_of_le hsz1 hb2.size)).trans hx2
    have hsz3 := (Array.getElem?_eq_some_iff.1 hx3).1
    have hc3 : w3.cell? ⟨w.heap.size, 0, none⟩ = some (.slice ao xs.length cap) := by rw [cell_of_row w3 _ 0 _ _ _ hx3]; rfl
    clear hb2 hb3 hx2 R2 ho2 hx1 hc1 hB1 hB2 hsz1
    go_wp2_with fail
    refine (topool_any _ xs _ (R.below hB3) (by omega)).mono ?_
    rintro e w4 ⟨v4, rfl, ho4, hb4⟩
    obtain ⟨ao4, cap4, rfl⟩ := own_form ho4
    have R4 := NRow.of_own ho4 (by omega) hz
    have hB4 := hB3.trans (hb4.mono hB3.size)
    have hx4 := (hb4.block _ hsz3).trans hx3
    have hsz4 := (Array.getElem?_eq_some_iff.1 hx4).1
    clear hx3 hc3 hb4 ho4 hsz3
    go_wp2_with fail
    have hB4' : Below w4.heap.size w4 (w4.alloc (Obj.cells #[.slice ao4 xs.length cap4] 26)) := (Below.refl _ _).alloc (Nat.le_refl _) _
    refine (isame_any _ xs a b _ (R4.below hB4')).mono ?_
    rintro e w5 ⟨rfl, hb5⟩
    have hB45 := hB4'.trans (hb5.mono hB4'.size)
    have hB5 := hB4.trans (hB45.mono hB4.size)
    have hx5 := (hB45.block _ hsz4).trans hx4
    have hy5 : w5.heap[w4.heap.size]? = some (.cells #[.slice ao4 xs.length cap4] 26 (0, 0)) := (hb5.block _ (by simp)).trans (heap_alloc_new _ _)
    have hc5 : w5.cell? ⟨w.heap.size, 0, none⟩ = some (.slice ao xs.length cap) := by rw [cell_of_row w5 _ 0 _ _ _ hx5]; rfl
    have hd5 : w5.cell? ⟨w4.heap.size, 0, none⟩ = some (.slice ao4 xs.length cap4) := by rw [cell_of_row w5 _ 0 _ _ _ hy5]; rfl
    have R5 := R4.below hB45
    have hsy := (Array.getElem?_eq_some_iff.1 hy5).1
    clear hx4 hb5 hB4 hB45 hB4' hB3 R4
    generalize sameR xs a b = pb
    go_wp2_with fail
    go_region_with (first
      | (go_at_call 15; refine (topool_any _ xs _ ?_ ?_).mono ?_; exact R.below hB5.drew; omega; rintro e w6 ⟨v6, rfl, ho6, hb6⟩; obtain ⟨ao6, cap6, rfl⟩ := own_form ho6; have R6 := NRow.of_own ho6 (by omega) hz; have hb6' : Below w5.heap.size w5 w6 := (Below.refl _ _).drew.trans hb6; have S6 := R5.below hb6'; have hB6 := hB5.trans (hb6'.mono hB5.size); have hd6 := (hb6'.cell (p := ⟨w4.heap.size, 0, none⟩) hsy).trans hd5)
      | (go_at_call 16; refine (eqpool_any _ _ xs _ ?_ ?_).mono ?_; exact S6; exact R6; rintro e w7 ⟨rfl, hb7⟩))
    all_goals
      have hB7 := hB6.trans (hb7.mono hB6.size)
      clear hb7 hd6 S6 R6 hc5 hd5
      go_wp2
      go_ret
      exact ⟨rfl, hB7⟩
end Go.Proofs.Ytlnfhcfdcocepaa
