/-
  Contract of spec's LeasesOk. No condition.
-/
import Derived.Test.YtdlbgdckkjhbdaaLsAt
namespace Go.Proofs.Ytdlbgdckkjhbdaa
open Go.RowKit

theorem lin_is (x a b : Int) (r : Bool) (h : (decide (a ≤ x) && decide (x ≤ b)) = r) (w : World) : Calls Try.prog 41 #[.int .i64 x, .int .i64 a, .int .i64 b] w fun e w' => e = .returned (.bool r) ∧ w' = w := by
  rw [← h]
  exact lin_any x a b w
theorem in_yes {x a b : Int} (h : a ≤ x ∧ x ≤ b) : (decide (a ≤ x) && decide (x ≤ b)) = true := by simp [h.1, h.2]
theorem in_no {x a b : Int} (h : ¬ (a ≤ x ∧ x ≤ b)) : (decide (a ≤ x) && decide (x ≤ b)) = false := by
  rw [Bool.eq_false_iff]
  intro e
  simp only [Bool.and_eq_true, decide_eq_true_eq] at e
  exact h e
theorem lsOne_no (xs : List Ls) (j : Nat) (x : Ls) (h : lsFit x = false) : lsOne xs j x = false := by unfold lsOne; rw [h]; rfl
theorem lsOne_fit (xs : List Ls) (j : Nat) (x : Ls) (h : lsFit x = true) : lsOne xs j x = decide (lsIdx (xs.take j) x.i x.w 0 < 0) := by unfold lsOne; rw [h]; rfl

set_option maxRecDepth 100000 in
set_option maxHeartbeats 6400000 in
theorem sleasesok_any (v : Value) (xs : List Ls) (w : World) (R : LsRow w v xs) :
    Calls Try.prog 14 #[v] w fun e w' => e = .returned (.bool (lsB xs)) ∧ Below w.heap.size w w' := by
  have RR := R
  obtain ⟨ao, cap, rfl, hcap, hm, hcell⟩ := R
  obtain ⟨r, hr⟩ : ∃ r, lsB xs = r := ⟨_, rfl⟩
  rw [hr]
  have HF : Hid (r = (decide (xs.length ≤ 20) && lsFrom xs xs 0)) := hr.symm
  clear hr
  go_enter Try.func14, Try.ntmps14
  go_wp2
  go_loopw [3] (fun i wr => ∃ j : Nat, j ≤ xs.length ∧ i = .int .i64 j ∧ Hid (lsFrom xs xs 0 = lsFrom xs (xs.drop j) j) ∧ Below w.heap.size w wr) (fun i _ => xs.length - (intOf i).toNat)
  case atStart => exact ⟨0, by omega, rfl, rfl, Below.refl _ _⟩
  case round =>
    obtain ⟨j, hj, rfl, HA, hb⟩ := hrel
    by_cases hlt : j < xs.length
    · obtain ⟨g, o, rfl, hg, hcell⟩ := hcell (by intro e; subst e; simp at hlt)
      obtain ⟨x, hx⟩ : ∃ x, xs[j]? = some x := ⟨xs[j], by simp [hlt]⟩
      obtain ⟨d0, d1, d2⟩ := (hcell j x hx).below hb hg
      have HC : Hid (lsFrom xs xs 0 = (lsOne xs j x && lsFrom xs (xs.drop (j + 1)) (j + 1))) := by unfold Hid; rw [HA.out, lsFrom_at xs j x hx]
      have hBn := hb.alloc hb.size (Obj.cells #[.int .i64 x.i, .int .i64 x.w, .int .i64 x.u] 40)
      have dN : ∀ m, Below w.heap.size w ((wr.alloc (Obj.cells #[.int .i64 x.i, .int .i64 x.w, .int .i64 x.u] 40)).drewN m) := fun m => hBn.trans ⟨rfl, rfl, rfl, Nat.le_refl _, fun _ _ => rfl⟩
      have RT := fun m => (RR.take hj).below (dN m)
      have LA := fun m => s11at_any (.slice (some ⟨g, o, none⟩) j cap) (xs.take j) x.i x.w _ (RT m)
      have hcj : j ≤ cap := by omega
      clear hcell HA hx hb
      by_cases i1 : 1 ≤ x.i ∧ x.i ≤ 1000000000
      rotate_left
      · have HO : Hid (lsOne xs j x = false) := lsOne_no _ _ _ (lsFit_no (by omega))
        have L1 := lin_is x.i 1 1000000000 false (in_no i1)
        clear LA RT RR
        go_wp2
        go_quiet (first | (go_at_call 41; with_reducible refine Calls.quiet_of_same (L1 _)))
        go_wp2
        go_ret
        exact ⟨retB (by rw [HF.out, HC.out, HO.out, Bool.false_and, Bool.and_false]), dN _⟩
      have L1 := lin_is x.i 1 1000000000 true (in_yes i1)
      by_cases i2 : 0 ≤ x.w ∧ x.w ≤ 9
      rotate_left
      · have HO : Hid (lsOne xs j x = false) := lsOne_no _ _ _ (lsFit_no (by omega))
        have L2 := lin_is x.w 0 9 false (in_no i2)
        clear LA RT RR
        go_wp2
        go_quiet (first | (go_at_call 41; with_reducible refine Calls.quiet_of_same (L1 _)) | (go_at_call 41; with_reducible refine Calls.quiet_of_same (L2 _)))
        go_wp2
        go_ret
        exact ⟨retB (by rw [HF.out, HC.out, HO.out, Bool.false_and, Bool.and_false]), dN _⟩
      have L2 := lin_is x.w 0 9 true (in_yes i2)
      by_cases i3 : 0 ≤ x.u ∧ x.u ≤ 1000000000
      rotate_left
      · have HO : Hid (lsOne xs j x = false) := lsOne_no _ _ _ (lsFit_no (by omega))
        have L3 := lin_is x.u 0 1000000000 false (in_no i3)
        clear LA RT RR
        go_wp2
        go_quiet (first | (go_at_call 41; with_reducible refine Calls.quiet_of_same (L1 _)) | (go_at_call 41; with_reducible refine Calls.quiet_of_same (L2 _)) | (go_at_call 41; with_reducible refine Calls.quiet_of_same (L3 _)))
        go_wp2
        go_ret
        exact ⟨retB (by rw [HF.out, HC.out, HO.out, Bool.false_and, Bool.and_false]), dN _⟩
      have L3 := lin_is x.u 0 1000000000 true (in_yes i3)
      have HO : Hid (lsOne xs j x = decide (lsIdx (xs.take j) x.i x.w 0 < 0)) := lsOne_fit _ _ _ ((lsFit_iff x).2 ⟨i1, i2, i3⟩)
      generalize lsIdx (xs.take j) x.i x.w 0 = p at *
      by_cases i4 : 0 ≤ p
      · have HO2 : Hid (lsOne xs j x = false) := by unfold Hid; rw [HO.out]; simp; omega
        clear RT RR HO
        go_wp2
        go_quiet (first | (go_at_call 41; with_reducible refine Calls.quiet_of_same (L1 _)) | (go_at_call 41; with_reducible refine Calls.quiet_of_same (L2 _)) | (go_at_call 41; with_reducible refine Calls.quiet_of_same (L3 _)) | (go_at_call 42; refine Calls.quiet_of_same (LA _)))
        go_wp2
        go_ret
        exact ⟨retB (by rw [HF.out, HC.out, HO2.out, Bool.false_and, Bool.and_false]), dN _⟩
      · have HO2 : Hid (lsOne xs j x = true) := by unfold Hid; rw [HO.out]; simp; omega
        clear RT RR HO
        go_wp2
        go_quiet (first | (go_at_call 41; with_reducible refine Calls.quiet_of_same (L1 _)) | (go_at_call 41; with_reducible refine Calls.quiet_of_same (L2 _)) | (go_at_call 41; with_reducible refine Calls.quiet_of_same (L3 _)) | (go_at_call 42; refine Calls.quiet_of_same (LA _)))
        go_wp2
        go_roundw
        case rel => exact ⟨j + 1, by omega, by go_num, by unfold Hid; rw [HC.out, HO2.out, Bool.true_and], dN _⟩
        case measure => simp [intOf]; omega
    · have hjj : j = xs.length := by omega
      subst hjj
      have HO : Hid (lsFrom xs xs 0 = true) := by unfold Hid; rw [HA.out, lsFrom_end]
      clear HA RR hcell
      by_cases h20 : (xs.length : Int) ≤ 20
      · go_wp2
        go_ret
        exact ⟨retB (by rw [HF.out, HO.out]; simp; omega), hb⟩
      · go_wp2
        go_ret
        exact ⟨retB (by rw [HF.out, HO.out]; simp; omega), hb⟩
end Go.Proofs.Ytdlbgdckkjhbdaa
