/-
  Contract of impl's LeasesOk. No condition.
-/
import Derived.Test.YtdlbgdckkjhbdaaLsAt
namespace Go.Proofs.Ytdlbgdckkjhbdaa
open Go.RowKit

set_option maxHeartbeats 6400000 in
theorem ileasesok_any (v : Value) (xs : List Ls) (w : World) (R : LsRow w v xs) :
    Calls Try.prog 13 #[v] w fun e w' => e = .returned (.bool (lsB xs)) ∧ Below w.heap.size w w' := by
  have RR := R
  obtain ⟨ao, cap, rfl, hcap, hm, hcell⟩ := R
  obtain ⟨r, hr⟩ : ∃ r, lsB xs = r := ⟨_, rfl⟩
  rw [hr]
  have HF : Hid (r = (decide (xs.length ≤ 20) && lsFrom xs xs 0)) := hr.symm
  clear hr
  by_cases h20 : (xs.length : Int) ≤ 20
  rotate_left
  · have HF2 : Hid (r = false) := by unfold Hid; rw [HF.out, decide_eq_false (by omega)]; rfl
    clear HF RR hcell
    go_enter Try.func13, Try.ntmps13
    go_wp2
    go_ret
    exact ⟨retB HF2.out.symm, Below.refl _ _⟩
  have HF2 : Hid (r = lsFrom xs xs 0) := by unfold Hid; rw [HF.out, decide_eq_true (by omega)]; rfl
  clear HF
  go_enter Try.func13, Try.ntmps13
  go_wp2
  go_loopw [12] (fun i wr => ∃ j : Nat, j ≤ xs.length ∧ i = .int .i64 j ∧ Hid (lsFrom xs xs 0 = lsFrom xs (xs.drop j) j) ∧ Below w.heap.size w wr) (fun i _ => xs.length - (intOf i).toNat)
  case atStart => exact ⟨0, by omega, rfl, rfl, Below.refl _ _⟩
  case round =>
    obtain ⟨j, hj, rfl, HA, hb⟩ := hrel
    by_cases hlt : j < xs.length
    · obtain ⟨g, o, rfl, hg, hcell⟩ := hcell (by intro e; subst e; simp at hlt)
      obtain ⟨x, hx⟩ : ∃ x, xs[j]? = some x := ⟨xs[j], by simp [hlt]⟩
      obtain ⟨d0, d1, d2⟩ := (hcell j x hx).below hb hg
      have HC : Hid (lsFrom xs xs 0 = (lsOne xs j x && lsFrom xs (xs.drop (j + 1)) (j + 1))) := by unfold Hid; rw [HA.out, lsFrom_at xs j x hx]
      have hBn := hb.alloc hb.size (Obj.cells #[.int .i64 x.i, .int .i64 x.w, .int .i64 x.u] 40)
      have hxn := heap_alloc_new wr (Obj.cells #[.int .i64 x.i, .int .i64 x.w, .int .i64 x.u] 40)
      have RT := RR.take hj
      have hcj : j ≤ cap := by omega
      clear hcell HA hx
      go_wp2_with fail
      go_region_with (first | (go_at_call 44; refine (lclaim_any x _).mono ?_; rintro e w2 ⟨rfl, hb2⟩; have hB2 := hBn.drew.trans (hb2.mono hBn.size)) | (go_at_call 43; refine (placeofclaim_any _ (xs.take j) x.i x.w _ (RT.below hB2)).mono ?_; rintro e w3 ⟨rfl, hb3⟩))
      all_goals
        have hB3 := hB2.trans (hb3.mono hB2.size)
        have hx3 : w3.heap[wr.heap.size]? = some (.cells #[.int .i64 x.i, .int .i64 x.w, .int .i64 x.u] 40 (0, 0)) := (hb3.block _ (by have := hb2.size; simp at this; omega)).trans ((hb2.block _ (by simp)).trans hxn)
        have cx0 : w3.cell? ⟨wr.heap.size, 0, none⟩ = some (.int .i64 x.i) := by rw [cell_of_row w3 _ 0 _ _ _ hx3]; rfl
        have cx1 : w3.cell? ⟨wr.heap.size, 0 + 1, none⟩ = some (.int .i64 x.w) := by rw [cell_of_row w3 _ 1 _ _ _ hx3]; rfl
        have cx2 : w3.cell? ⟨wr.heap.size, 0 + 2, none⟩ = some (.int .i64 x.u) := by rw [cell_of_row w3 _ 2 _ _ _ hx3]; rfl
        clear hb2 hb3 hB2 hBn hxn d0 d1 d2 RT hx3 hb
        have HO : Hid (lsOne xs j x = (lsFit x && decide (lsIdx (xs.take j) x.i x.w 0 < 0))) := rfl
        generalize lsIdx (xs.take j) x.i x.w 0 = p at *
        by_cases i4 : 0 ≤ p
        · have HO2 : Hid (lsOne xs j x = false) := by unfold Hid; rw [HO.out, decide_eq_false (p := p < 0) (by omega), Bool.and_false]
          have i5 : decide (0 ≤ p) = true := by simpa using i4
          rw [i5]
          clear HO
          go_wp2
          go_ret
          exact ⟨retB (by rw [HF2.out, HC.out, HO2.out, Bool.false_and]), hB3⟩
        · have HO2 : Hid (lsOne xs j x = lsFit x) := by unfold Hid; rw [HO.out, decide_eq_true (p := p < 0) (by omega), Bool.and_true]
          have i5 : decide (0 ≤ p) = false := by simpa using i4
          rw [i5]
          clear HO
          go_wp2_with fail
          refine (lfits_any x _).mono ?_
          rintro e w4 ⟨rfl, hb4⟩
          have hB4 := hB3.trans (hb4.mono hB3.size)
          clear hb4 cx0 cx1 cx2 hB3
          generalize lsFit x = f at *
          cases f
          · go_wp2
            go_ret
            exact ⟨retB (by rw [HF2.out, HC.out, HO2.out, Bool.false_and]), hB4⟩
          · go_wp2
            go_roundw
            case rel => exact ⟨j + 1, by omega, by go_num, by unfold Hid; rw [HC.out, HO2.out, Bool.true_and], hB4⟩
            case measure => simp [intOf]; omega
    · have hjj : j = xs.length := by omega
      subst hjj
      have HO : Hid (lsFrom xs xs 0 = true) := by unfold Hid; rw [HA.out, lsFrom_end]
      clear HA RR hcell
      go_wp2
      go_ret
      exact ⟨retB (by rw [HF2.out, HO.out]), hb⟩
end Go.Proofs.Ytdlbgdckkjhbdaa
