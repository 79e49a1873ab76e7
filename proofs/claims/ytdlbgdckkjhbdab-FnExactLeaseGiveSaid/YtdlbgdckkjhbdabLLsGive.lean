/-
  The law FnExactLeaseGive, walked: at every argument the law returns true.
-/
import Derived.Test.YtdlbgdckkjhbdabLsGiveI
import Derived.Test.YtdlbgdckkjhbdabLsGiveS
import Derived.Test.YtdlbgdckkjhbdabVarS
namespace Go.Proofs.Ytdlbgdckkjhbdab
open Go.RowKit

set_option maxRecDepth 100000 in
set_option maxHeartbeats 6400000 in
theorem lleasegive_any (v : Value) (xs : List Ls) (i q n : Int) (w : World) (R : LsRow w v xs) :
    Calls Try.prog 4 #[v, .int .i64 i, .int .i64 q, .int .i64 n] w fun e w' => e = .returned (.bool true) ∧ Below w.heap.size w w' := by
  obtain ⟨ao, cap, rfl⟩ := R.small
  go_enter Try.func4, Try.ntmps4
  go_wp2_with fail
  refine (szlss_any _ xs _ _ R (by omega) (by omega)).mono ?_
  rintro e w1 ⟨r, rfl, hr0, hr1, hr2, hw⟩
  have hw2 := hw.symm
  subst hw2
  clear hw
  by_cases hr : r < 0
  · go_wp2
    go_ret
    exact ⟨rfl, Below.refl _ _⟩
  have hl := hr2 (by omega)
  clear hr2
  have IT := fun (v : Value) (w : World) (R : LsRow w v xs) (hl : xs.length ≤ 1048576) => ileasegive_any v xs i q n w R
  have ST := fun (v : Value) (w : World) (R : LsRow w v xs) (hl : xs.length ≤ 1048576) => sleasegive_any v xs i q n w R
  unfold GvAns at IT ST
  have hQ : (gvL xs i q n).length ≤ 2097152 := by have := gvL_len xs i q n; omega
  generalize gvL xs i q n = Q at *
  generalize gvB xs i q n = bb at *
  have bbb : (bb != bb) = false := by simp
  go_wp2_with fail
  refine (tolss_any _ xs _ (R) (by omega)).mono ?_
  rintro e w2 ⟨vw2, rfl, ow2, hbw2⟩
  obtain ⟨aw2, cw2, rfl⟩ := own_form ow2
  have Vw2 := VarS.new ow2
  have hBw2 : Below w.heap.size w w2 := hbw2
  go_wp2_with fail
  refine (ST _ _ (Vw2.row (by omega)) hl).mono ?_
  rintro e w3 ⟨vw3, rfl, ow3, hbw3⟩
  obtain ⟨aw3, cw3, rfl⟩ := own_form ow3
  have Vw3 := VarS.new ow3
  have hBw3 := hBw2.trans (hbw3.mono hBw2.size)
  clear hbw2 ow2 Vw2 hbw3 ow3 hBw2
  go_wp2_with fail
  refine (tolss_any _ xs _ (R.below hBw3) (by omega)).mono ?_
  rintro e w4 ⟨vw4, rfl, ow4, hbw4⟩
  obtain ⟨aw4, cw4, rfl⟩ := own_form ow4
  have Vw4 := VarS.new ow4
  have hBw4 : Below w.heap.size w w4 := hBw3.trans (hbw4.mono hBw3.size)
  replace Vw3 := Vw3.below hbw4
  go_wp2_with fail
  refine (IT _ _ (Vw4.row (by omega)) hl).mono ?_
  rintro e w5 ⟨vw5, rfl, ow5, hbw5⟩
  obtain ⟨aw5, cw5, rfl⟩ := own_form ow5
  have Vw5 := VarS.new ow5
  have hBw5 := hBw4.trans (hbw5.mono hBw4.size)
  replace Vw3 := Vw3.below hbw5
  replace Vw4 := Vw4.below hbw5
  have l34 : w3.heap.size ≤ w4.heap.size := hbw4.size
  have l45 : w4.heap.size ≤ w5.heap.size := hbw5.size
  clear hbw4 ow4 hbw5 ow5 hBw4
  go_wp2_with fail
  refine (eqlss_any _ _ Q _ (Vw5.row (by omega)) (Vw3.row (by omega))).mono ?_
  rintro e w6 ⟨rfl, hbw6⟩
  have hBw6 := hBw5.trans (hbw6.mono hBw5.size)
  replace Vw3 := Vw3.below hbw6
  replace Vw4 := Vw4.below hbw6
  replace Vw5 := Vw5.below hbw6
  clear hbw6 hBw5
  go_wp2_with fail
  refine (tolss_any _ xs _ (R.below hBw6) (by omega)).mono ?_
  rintro e w7 ⟨vw7, rfl, ow7, hbw7⟩
  obtain ⟨aw7, cw7, rfl⟩ := own_form ow7
  have Vw7 := VarS.new ow7
  have hBw7 : Below w.heap.size w w7 := hBw6.trans (hbw7.mono hBw6.size)
  replace Vw3 := Vw3.below hbw7
  replace Vw4 := Vw4.below hbw7
  replace Vw5 := Vw5.below hbw7
  clear hbw7 hBw6 ow7
  go_wp2_with fail
  refine (eqlss_any _ _ xs _ (Vw4.row (by omega)) (Vw7.row (by omega))).mono ?_
  rintro e w8 ⟨rfl, hbw8⟩
  have hBw8 := hBw7.trans (hbw8.mono hBw7.size)
  replace Vw3 := Vw3.below hbw8
  replace Vw4 := Vw4.below hbw8
  replace Vw5 := Vw5.below hbw8
  clear hbw8 hBw7 Vw7
  go_wp2_with fail
  refine (markleases_any _ 1 _ xs _ Vw4.1 (by omega) (by omega) (by omega)).mono ?_
  rintro e w9 ⟨rfl, hoc, hgc⟩
  replace Vw3 := Vw3.kept Vw4 hgc (Or.inl (Nat.le_refl _))
  replace Vw5 := Vw5.kept Vw4 hgc (Or.inr (Nat.le_refl _))
  have hBw9 : Below w.heap.size w w9 := hBw8.grown hgc hBw8.size (fun k hk => Nat.le_trans hBw3.size (Vw4.1.lt k hk).1)
  clear hgc hoc hBw8 Vw4
  have hk1 : ¬ (1 + 3 * (xs.length : Int)) < 0 := by omega
  go_wp2_with fail
  refine (eqlss_any _ _ Q _ (Vw5.row (by omega)) (Vw3.row (by omega))).mono ?_
  rintro e wa ⟨rfl, hbwa⟩
  have hBwa := hBw9.trans (hbwa.mono hBw9.size)
  replace Vw3 := Vw3.below hbwa
  replace Vw5 := Vw5.below hbwa
  clear hbwa hBw9
  go_wp2_with fail
  refine (markleases_any _ 1 _ Q _ Vw5.1 (by omega) (by omega) (by omega)).mono ?_
  rintro e wb ⟨rfl, hoc, hgc⟩
  replace Vw3 := Vw3.kept Vw5 hgc (Or.inl (by omega))
  have hBwb : Below w.heap.size w wb := hBwa.grown hgc hBwa.size (fun k hk => Nat.le_trans (Nat.le_trans hBw3.size l34) (Vw5.1.lt k hk).1)
  have VM := Vw5.marked hoc hgc
  clear hgc hoc hBwa Vw5
  have hlm := lmarked_length 1 Q _ (Nat.le_refl _)
  have hlm2 : (lmarked 1 Q Q.length).length ≤ 2097152 := by omega
  clear hlm
  have hk2 : ¬ (1 + 3 * (Q.length : Int)) < 0 := by omega
  have hk3 : ((1 + 3 * (Q.length : Int)) != (1 + 3 * (Q.length : Int))) = false := by simp
  go_wp2_with fail
  refine (heldleases_any _ 1 Q _ (VM.row (by omega)) (by omega) (by omega) (by omega)).mono ?_
  rintro e wc ⟨rfl, rfl⟩
  go_wp2_with fail
  refine (tolss_any _ xs _ (R.below hBwb) (by omega)).mono ?_
  rintro e wd ⟨vwd, rfl, owd, hbwd⟩
  obtain ⟨awd, cwd, rfl⟩ := own_form owd
  have Vwd := VarS.new owd
  have hBwd : Below w.heap.size w wd := hBwb.trans (hbwd.mono hBwb.size)
  replace Vw3 := Vw3.below hbwd
  replace VM := VM.below hbwd
  clear hbwd hBwb owd
  go_wp2_with fail
  refine (IT _ _ (Vwd.row (by omega)) hl).mono ?_
  rintro e we ⟨vwe, rfl, owe, hbwe⟩
  obtain ⟨awe, cwe, rfl⟩ := own_form owe
  have Vwe := VarS.new owe
  have hBwe := hBwd.trans (hbwe.mono hBwd.size)
  replace Vw3 := Vw3.below hbwe
  replace VM := VM.below hbwe
  clear hbwe hBwd owe Vwd
  go_wp2_with fail
  refine (eqlss_any _ _ Q _ (Vwe.row (by omega)) (Vw3.row (by omega))).mono ?_
  rintro e wf ⟨rfl, hbwf⟩
  have hBwf := hBwe.trans (hbwf.mono hBwe.size)
  replace VM := VM.below hbwf
  clear hbwf hBwe Vwe Vw3
  go_wp2_with fail
  refine (heldleases_any _ 1 Q _ (VM.row (by omega)) (by omega) (by omega) (by omega)).mono ?_
  rintro e wg ⟨rfl, rfl⟩
  clear VM
  go_wp2
  go_ret
  exact ⟨rfl, hBwf⟩
end Go.Proofs.Ytdlbgdckkjhbdab
