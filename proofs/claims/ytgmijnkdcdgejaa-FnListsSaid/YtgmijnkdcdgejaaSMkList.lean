/-
  Contract of spec.MakeList.
-/
import Derived.Test.YtgmijnkdcdgejaaSList
import Derived.Test.YtgmijnkdcdgejaaListOf
import Derived.Deep.RegionWith
namespace Go.Proofs.Ytgmijnkdcdgejaa
open Go.RowKit

set_option maxRecDepth 100000 in
set_option maxHeartbeats 1600000 in
theorem smakelist_any (v vl : Value) (xs : List Nd) (zs : List Int) (w : World) (R : NRow w v xs) (L : IRow w vl zs) (hzl : zs.length ≤ 1048576) :
    Calls Try.prog 8 #[.agg #[v], vl] w fun e w' =>
      ∃ v', e = .returned (.tuple #[.agg #[v'], .int .i64 (mlI xs zs)]) ∧ w'.ownsRow w.heap.size 68 5 v' (mlL xs zs).length (ncs (mlL xs zs)) ∧ Below w.heap.size w w' := by
  have R' := R
  have L' := L
  obtain ⟨ao, cap, rfl, hcap, hm, hz, _⟩ := R'
  obtain ⟨al, cl, rfl, hcl, hlm, hcell⟩ := L'
  go_enter Try.func8, Try.ntmps8
  go_wp2_with fail
  have hB0 : Below w.heap.size w ((w.alloc (Obj.cells #[.slice ao xs.length cap] 26)).alloc (Obj.cells #[.slice none 0 0] 26)) := ((Below.refl _ _).alloc (Nat.le_refl _) _).alloc (by simp) _
  refine (spool_any _ xs _ (R.below hB0)).mono ?_
  rintro e w1 ⟨rfl, hb1⟩
  have hx1 : w1.heap[w.heap.size]? = some (.cells #[.slice ao xs.length cap] 26 (0, 0)) := (hb1.block _ (by simp; omega)).trans (heap_alloc2_old _ _ _)
  have hy1 : w1.heap[w.heap.size + 1]? = some (.cells #[.slice none 0 0] 26 (0, 0)) := (hb1.block _ (by simp)).trans (heap_alloc2_new _ _ _)
  have hB1 := hB0.trans (hb1.mono hB0.size)
  have hsz1 := (Array.getElem?_eq_some_iff.1 hy1).1
  clear hB0 hb1
  have hc1 : w1.cell? ⟨w.heap.size, 0, none⟩ = some (.slice ao xs.length cap) := by rw [cell_of_row w1 _ 0 _ _ _ hx1]; rfl
  have hd1 : w1.cell? ⟨w.heap.size + 1, 0, none⟩ = some (.slice none 0 0) := by rw [cell_of_row w1 _ 0 _ _ _ hy1]; rfl
  have hf1 : w1.frozen? ⟨w.heap.size + 1, 0, none⟩ = false := frozen_of_row w1 _ 0 _ _ hy1
  by_cases hp : poolB xs = true
  · have hlen : xs.length ≤ 3000 := by simp only [poolB, Bool.and_eq_true, decide_eq_true_eq] at hp; exact hp.1
    rw [hp]
    have hw0 : w.heap.size < w1.heap.size := by omega
    clear hd1 hf1
    go_wp2_with fail
    go_loopw [6] (fun i wr => ∃ k : Nat, k ≤ zs.length ∧ i = .int .i64 k ∧ Hid (allI xs zs = (zs.drop k).all (hasI xs)) ∧ Below w1.heap.size w1 wr) (fun i _ => zs.length - (intOf i).toNat)
    case atStart => exact ⟨0, by omega, rfl, by simp [Hid, allI], Below.refl _ _⟩
    case round =>
      obtain ⟨k, hk, rfl, HA, hb⟩ := hrel
      have hB := hB1.trans (hb.mono hB1.size)
      have hcr := (hb.cell (p := ⟨w.heap.size, 0, none⟩) hw0).trans hc1
      have hyr := (hb.block _ hsz1).trans hy1
      have hszr := (Array.getElem?_eq_some_iff.1 hyr).1
      by_cases hlt : k < zs.length
      · obtain ⟨g, o, rfl, hg, hcell⟩ := hcell (by intro e; subst e; simp at hlt)
        have c0 := (hB.cell (p := ⟨g, o + k, none⟩) hg).trans (hcell k hlt)
        have HS : Hid (allI xs zs = (hasI xs (zs.getD k 0) && (zs.drop (k + 1)).all (hasI xs))) := by unfold Hid; rw [HA.out, all_drop _ _ _ hlt]
        clear hcell HA
        generalize zs.getD k 0 = z at c0 HS
        go_wp2_with fail
        go_region_with (go_at_call 29; refine (shas_all _ xs _ _ (R.below ?_)).mono ?_; exact hB.drew; rintro e w2 ⟨rfl, hb2⟩)
        all_goals
          have hb2' : Below wr.heap.size wr w2 := (Below.refl _ _).drew.trans hb2
          have hB2 := hB.trans (hb2'.mono hB.size)
          have hbb := hb.trans (hb2'.mono hb.size)
          have hcr2 := (hb2'.cell (p := ⟨w.heap.size, 0, none⟩) (Nat.lt_of_lt_of_le hw0 hb.size)).trans hcr
          have hyr2 := (hb2'.block _ hszr).trans hyr
          have hszr2 := (Array.getElem?_eq_some_iff.1 hyr2).1
          clear c0 hb2 hcr hyr hb2'
          cases hA : hasI xs z with
          | false =>
            rw [hA, Bool.false_and] at HS
            have hok : ¬ mlOk xs zs = true := by unfold mlOk; rw [HS.out]; simp
            have HL : Hid (mlL xs zs = xs) := by unfold Hid mlL; rw [if_pos hp, if_neg hok]
            have HI : Hid (mlI xs zs = -1) := by unfold Hid mlI; rw [if_pos hp, if_neg hok]
            go_wp2_with fail
            refine (scopy_any _ xs _ (R.below hB2) (by omega)).mono ?_
            rintro e w3 ⟨v3, rfl, ho3, hb3⟩
            obtain ⟨ao3, cap3, rfl⟩ := own_form ho3
            have hy3 := (hb3.block _ hszr2).trans hyr2
            have hd3 : w3.cell? ⟨w.heap.size + 1, 0, none⟩ = some (.slice none 0 0) := by rw [cell_of_row w3 _ 0 _ _ _ hy3]; rfl
            have hf3 : w3.frozen? ⟨w.heap.size + 1, 0, none⟩ = false := frozen_of_row w3 _ 0 _ _ hy3
            have hB3 := hB2.trans (hb3.mono hB2.size)
            obtain ⟨p1, p2, p3⟩ := put_pool hy3 ho3 hB3 hszr2 (by omega)
            clear hb3
            go_wp2
            refine bodyPost_ret (results_row_tmp rfl _ _ (w.heap.size + 1) 26 _ (0, 0) _ rfl p1 Try.underlying26 rfl Try.sizeP) rfl ⟨_, by rw [HI.out]; rfl, ?_, p3⟩
            rw [HL.out]
            exact p2
          | true =>
            rw [hA, Bool.true_and] at HS
            go_wp2
            go_roundw
            case rel => exact ⟨k + 1, by omega, by go_num, HS, hbb⟩
            case measure => simp [intOf]; omega
      · have e : k = zs.length := by omega
        subst e
        have hal : allI xs zs = true := by rw [HA.out, List.drop_length]; rfl
        have HAL : Hid (allI xs zs = true) := hal
        clear HA hal
        have hroomI : ((xs.length : Int) + 1 + zs.length : Int) = ((xs.length + 1 + zs.length : Nat) : Int) := by omega
        by_cases hroom : xs.length + 1 + zs.length ≤ 3000
        · have hok : mlOk xs zs = true := by unfold mlOk; rw [HAL.out]; simp [hroom]
          have HL : Hid (mlL xs zs = xs ++ more zs xs.length 0) := by unfold Hid mlL; rw [if_pos hp, if_pos hok]
          have HI : Hid (mlI xs zs = ((xs.length + zs.length : Nat) : Int)) := by unfold Hid mlI; rw [if_pos hp, if_pos hok]
          have hr' : ¬ (3000 < (xs.length : Int) + 1 + zs.length) := by omega
          clear hroomI hcell
          go_wp2_with fail
          refine (scopy_any _ xs _ (R.below hB) (by omega)).mono ?_
          rintro e w3 ⟨v3, rfl, ho3, hb3⟩
          obtain ⟨ao3, cap3, rfl⟩ := own_form ho3
          have hB3 := hB.trans (hb3.mono hB.size)
          have hy3 := (hb3.block _ hszr).trans hyr
          have hsz3 := (Array.getElem?_eq_some_iff.1 hy3).1
          have hba : Below w3.heap.size w3 (w3.alloc (Obj.cells #[.slice ao3 xs.length cap3] 26)) := (Below.refl _ _).alloc (Nat.le_refl _) _
          have hwr := hB.size
          have hw3s := hb3.size
          clear hcr
          go_wp2_with fail
          refine (slist_any w3.heap.size wr.heap.size _ _ xs zs _ (heap_alloc_new _ _) (ho3.alloc _) ((L.below hB3).below hba) (fun g o c e hne => ?_) (by omega) hzl hw3s).mono ?_
          · obtain ⟨_, _, e2, _, _, hc2⟩ := L
            obtain ⟨g2, o2, e3, hg2, _⟩ := hc2 hne
            simp only [Value.slice.injEq] at e e2
            rw [e2.1, e3] at e
            simp at e
            omega
          rintro e w4 ⟨v4, rfl, hb4, ho4, hB4⟩
          generalize xs ++ more zs xs.length 0 = LA at ho4 HL
          obtain ⟨ao4, cap4, rfl⟩ := own_form ho4
          have hBx : Below wr.heap.size wr w4 := (hb3.trans (hba.mono hw3s)).trans hB4
          have hy4 := (hBx.block _ hszr).trans hyr
          have hB5 := hB.trans (hBx.mono hB.size)
          have hd4 : w4.cell? ⟨w.heap.size + 1, 0, none⟩ = some (.slice none 0 0) := by rw [cell_of_row w4 _ 0 _ _ _ hy4]; rfl
          have hf4 : w4.frozen? ⟨w.heap.size + 1, 0, none⟩ = false := frozen_of_row w4 _ 0 _ _ hy4
          have hk4 : w4.cell? ⟨w3.heap.size, 0, none⟩ = some (.slice ao4 LA.length cap4) := by rw [cell_of_row w4 _ 0 _ _ _ hb4]; rfl
          obtain ⟨p1, p2, p3⟩ := put_pool hy4 ho4 hB5 hszr (by omega)
          clear hb3 hB4 hBx hba
          go_wp2
          refine bodyPost_ret (results_row_tmp rfl _ _ (w.heap.size + 1) 26 _ (0, 0) _ rfl p1 Try.underlying26 rfl Try.sizeP) rfl ⟨_, by rw [HI.out]; rfl, ?_, p3⟩
          rw [HL.out]
          exact p2
        · have hok : ¬ mlOk xs zs = true := by unfold mlOk; simp; intro h; omega
          have HL : Hid (mlL xs zs = xs) := by unfold Hid mlL; rw [if_pos hp, if_neg hok]
          have HI : Hid (mlI xs zs = -1) := by unfold Hid mlI; rw [if_pos hp, if_neg hok]
          have hr' : 3000 < (xs.length : Int) + 1 + zs.length := by omega
          clear hroomI hcell
          go_wp2_with fail
          refine (scopy_any _ xs _ (R.below hB) (by omega)).mono ?_
          rintro e w3 ⟨v3, rfl, ho3, hb3⟩
          obtain ⟨ao3, cap3, rfl⟩ := own_form ho3
          have hy3 := (hb3.block _ hszr).trans hyr
          have hd3 : w3.cell? ⟨w.heap.size + 1, 0, none⟩ = some (.slice none 0 0) := by rw [cell_of_row w3 _ 0 _ _ _ hy3]; rfl
          have hf3 : w3.frozen? ⟨w.heap.size + 1, 0, none⟩ = false := frozen_of_row w3 _ 0 _ _ hy3
          have hB3 := hB.trans (hb3.mono hB.size)
          obtain ⟨p1, p2, p3⟩ := put_pool hy3 ho3 hB3 hszr (by omega)
          clear hb3
          go_wp2
          refine bodyPost_ret (results_row_tmp rfl _ _ (w.heap.size + 1) 26 _ (0, 0) _ rfl p1 Try.underlying26 rfl Try.sizeP) rfl ⟨_, by rw [HI.out]; rfl, ?_, p3⟩
          rw [HL.out]
          exact p2
  · have HL : Hid (mlL xs zs = []) := by unfold Hid mlL; rw [if_neg hp]
    have HI : Hid (mlI xs zs = -1) := by unfold Hid mlI; rw [if_neg hp]
    rw [Bool.not_eq_true] at hp
    rw [hp]
    obtain ⟨p1, p2, p3⟩ := put_pool hy1 (World.ownsRow_nil w1 w1.heap.size 68 5) hB1 hsz1 (by omega)
    go_wp2_with fail
    refine bodyPost_ret (results_row_tmp rfl _ _ (w.heap.size + 1) 26 _ (0, 0) _ rfl p1 Try.underlying26 rfl Try.sizeP) rfl ⟨_, by rw [HI.out]; rfl, ?_, p3⟩
    rw [HL.out]
    exact p2
end Go.Proofs.Ytgmijnkdcdgejaa
