/-
  Contract of spec.Same.
-/
import Derived.Test.YtmgjefkelohocaaDoorISame
import Derived.Test.YtmgjefkelohocaaDoorSCls
namespace Go.Proofs.YtmgjefkelohocaaDoor
open Go.RowKit Go.Maps

set_option maxRecDepth 100000 in
set_option maxHeartbeats 1600000 in
theorem ssame_any (v : Value) (xs : List Nd) (a b : Int) (w : World) (R : NRow w v xs) :
    Calls Tryd.prog 11 #[.agg #[v], .int .i64 a, .int .i64 b] w fun e w' => e = .returned (.bool (sameR xs a b)) ∧ Below w.heap.size w w' := by
  have R' := R
  obtain ⟨ao, cap, rfl, hcap, _⟩ := R'
  go_enter Tryd.func11, Tryd.ntmps11
  go_wp2_with fail
  have hB0 : Below w.heap.size w (w.alloc (Obj.cells #[.slice ao xs.length cap] 26)) := (Below.refl _ _).alloc (Nat.le_refl _) _
  refine (spool_any _ xs _ (R.below hB0)).mono ?_
  rintro e w1 ⟨rfl, hb1⟩
  have hx1 : w1.heap[w.heap.size]? = some (.cells #[.slice ao xs.length cap] 26 (0, 0)) := (hb1.block _ (by simp)).trans (heap_alloc_new _ _)
  have hB1 := hB0.trans (hb1.mono hB0.size)
  have hc1 : w1.cell? ⟨w.heap.size, 0, none⟩ = some (.slice ao xs.length cap) := by rw [cell_of_row w1 _ 0 _ _ _ hx1]; rfl
  have hsz1 := (Array.getElem?_eq_some_iff.1 hx1).1
  clear hB0 hb1 hx1
  cases hp : poolB xs with
  | false =>
    have HS : Hid (sameR xs a b = false) := by unfold Hid sameR; rw [hp]; simp
    go_wp2_with fail
    go_ret
    exact ⟨by rw [HS.out]; rfl, hB1⟩
  | true =>
    go_wp2_with fail
    refine (shas_any _ xs _ _ (R.below hB1)).mono ?_
    rintro e w2 ⟨rfl, hb2⟩
    have hB2 := hB1.trans (hb2.mono hB1.size)
    have hc2 := (hb2.cell (p := ⟨w.heap.size, 0, none⟩) hsz1).trans hc1
    have hsz2 := Nat.lt_of_lt_of_le hsz1 hb2.size
    clear hB1 hc1 hb2 hsz1
    cases hia : hasI xs a with
    | false =>
      have HS : Hid (sameR xs a b = false) := by unfold Hid sameR; rw [hp, hia]; simp
      go_wp2_with fail
      go_ret
      exact ⟨by rw [HS.out]; rfl, hB2⟩
    | true =>
      go_wp2_with fail
      refine (shas_any _ xs _ _ (R.below hB2)).mono ?_
      rintro e w3 ⟨rfl, hb3⟩
      have hB3 := hB2.trans (hb3.mono hB2.size)
      have hc3 := (hb3.cell (p := ⟨w.heap.size, 0, none⟩) hsz2).trans hc2
      clear hB2 hc2 hb3 hsz2
      cases hib : hasI xs b with
      | false =>
        have HS : Hid (sameR xs a b = false) := by unfold Hid sameR; rw [hp, hia, hib]; simp
        go_wp2_with fail
        go_ret
        exact ⟨by rw [HS.out]; rfl, hB3⟩
      | true =>
        have hlen := poolB_len hp
        simp only [hasI, Bool.and_eq_true, decide_eq_true_eq] at hia hib
        obtain ⟨na, rfl⟩ := Int.eq_ofNat_of_zero_le hia.1
        obtain ⟨nb', rfl⟩ := Int.eq_ofNat_of_zero_le hib.1
        have F := sclasses_any ao cap xs w3 (R.below hB3) (fun k x hk => poolB_at hp hk) hlen
        have hfl := firstsTo_length xs xs.length (Nat.le_refl _)
        have HS : Hid (sameR xs na nb' = ((firstsTo xs xs.length).getD na 0 == (firstsTo xs xs.length).getD nb' 0)) := by
          unfold Hid sameR hasI
          rw [hp, Int.toNat_natCast, Int.toNat_natCast]
          simp [hia, hib]
        go_wp2_with fail
        refine F.mono ?_
        rintro e w4 ⟨v4, rfl, ho4, hb4⟩
        have hB4 := hB3.trans (hb4.mono hB3.size)
        rcases ho4.2 with ⟨rfl, h0⟩ | ⟨B, capB, cur, rfl, hBb, _⟩
        · omega
        have ea := ho4.cellAt na (by omega)
        rw [iv_get _ _ (by omega)] at ea
        have eb := ho4.cellAt nb' (by omega)
        rw [iv_get _ _ (by omega)] at eb
        clear F hc3 hb4 ho4
        generalize (firstsTo xs xs.length).getD na 0 = fa at ea HS
        generalize (firstsTo xs xs.length).getD nb' 0 = fb at eb HS
        go_wp2_with fail
        go_quiet (fail)
        go_wp2
        go_ret
        exact ⟨by rw [HS.out]; rfl, ⟨hB4.os, hB4.tape, hB4.output, hB4.size, hB4.block⟩⟩
end Go.Proofs.YtmgjefkelohocaaDoor
