/-
  The law FnExactLeaseAsk, walked: at every argument the law returns true.
-/
import Derived.Test.YtdlbgdckkjhbdaaLsAskI
import Derived.Test.YtdlbgdckkjhbdaaLsAskS
import Derived.Test.YtdlbgdckkjhbdaaVarS
namespace Go.Proofs.Ytdlbgdckkjhbdaa
open Go.RowKit

set_option maxRecDepth 100000 in
set_option maxHeartbeats 6400000 in
theorem lleaseask_any (v : Value) (xs : List Ls) (i q n : Int) (w : World) (R : LsRow w v xs) :
    Calls Try.prog 6 #[v, .int .i64 i, .int .i64 q, .int .i64 n] w fun e w' => e = .returned (.bool true) ∧ Below w.heap.size w w' := by
  obtain ⟨ao, cap, rfl⟩ := R.small
  go_enter Try.func6, Try.ntmps6
  go_wp2_with fail
  refine (szlss_any _ xs _ _ R (by omega) (by omega)).mono ?_
  rintro e w1 ⟨r, rfl, hr0, hr1, hr2, hw⟩
  have hw2 := hw.symm
  subst hw2
  clear hw
  by_cases hr : r < 0
  · go_wp2
    go_ret
    exact ⟨rfl, Below.refl _ _⟩
  have hl := hr2 (by omega)
  clear hr2
  have IT := fun (v : Value) (w : World) (R : LsRow w v xs) => ileaseask_any v xs i q n w R
  have ST := fun (v : Value) (w : World) (R : LsRow w v xs) => sleaseask_any v xs i q n w R
  have hQ : (akL xs i q n).length ≤ 2097152 := by have := akL_len xs i q n; omega
  unfold AkAns at IT ST
  generalize akL xs i q n = Q at *
  generalize akI xs i q n = gi at *
  generalize akU xs i q n = gu at *
  generalize akB xs i q n = bb at *
  have bbb : (bb != bb) = false := by simp
  go_wp2_with fail
  refine (tolss_any _ xs _ (R) (by omega)).mono ?_
  rintro e w2 ⟨vw2, rfl, ow2, hbw2⟩
  obtain ⟨aw2, cw2, rfl⟩ := own_form ow2
  have Vw2 := VarS.new ow2
  have hBw2 : Below w.heap.size w w2 := hbw2
  go_wp2_with fail
  refine (ST _ _ (Vw2.row (by omega))).mono ?_
  rintro e w3 ⟨vw3, rfl, ow3, hbw3⟩
  obtain ⟨aw3, cw3, rfl⟩ := own_form ow3
  have hBw3s0 := (hBw2.trans (hbw3.mono hBw2.size)).size
  have hBw30 := hBw2.trans (hbw3.mono hBw2.size)
  have Vw3 := VarS.new ow3
  have haw3 : Below w3.heap.size w3 (w3.alloc (Obj.cells #[.int .i64 gi, .int .i64 gu] 28)) := (Below.refl _ _).alloc (Nat.le_refl _) _
  replace Vw3 := Vw3.below haw3
  have Xw3 := heap_alloc_new w3 (Obj.cells #[.int .i64 gi, .int .i64 gu] 28)
  have hBw3 := hBw30.trans (haw3.mono hBw30.size)
  clear ow3 hBw30
  clear hbw2 ow2 Vw2 hbw3 hBw2 haw3
  go_wp2_with fail
  refine (tolss_any _ xs _ (R.below hBw3) (by omega)).mono ?_
  rintro e w4 ⟨vw4, rfl, ow4, hbw4⟩
  obtain ⟨aw4, cw4, rfl⟩ := own_form ow4
  have Vw4 := VarS.new ow4
  have hBw4 : Below w.heap.size w w4 := hBw3.trans (hbw4.mono hBw3.size)
  replace Vw3 := Vw3.below hbw4
  replace Xw3 := (hbw4.block _ (Array.getElem?_eq_some_iff.1 Xw3).1).trans Xw3
  go_wp2_with fail
  refine (IT _ _ (Vw4.row (by omega))).mono ?_
  rintro e w5 ⟨vw5, rfl, ow5, hbw5⟩
  obtain ⟨aw5, cw5, rfl⟩ := own_form ow5
  have hBw50 := hBw4.trans (hbw5.mono hBw4.size)
  replace Vw3 := Vw3.below hbw5
  replace Vw4 := Vw4.below hbw5
  replace Xw3 := (hbw5.block _ (Array.getElem?_eq_some_iff.1 Xw3).1).trans Xw3
  have Vw5 := VarS.new ow5
  have haw5 : Below w5.heap.size w5 (w5.alloc (Obj.cells #[.int .i64 gi, .int .i64 gu] 28)) := (Below.refl _ _).alloc (Nat.le_refl _) _
  replace Vw3 := Vw3.below haw5
  replace Vw4 := Vw4.below haw5
  replace Vw5 := Vw5.below haw5
  replace Xw3 := (haw5.block _ (Array.getElem?_eq_some_iff.1 Xw3).1).trans Xw3
  have Xw5 := heap_alloc_new w5 (Obj.cells #[.int .i64 gi, .int .i64 gu] 28)
  have hBw5 := hBw50.trans (haw5.mono hBw50.size)
  clear ow5 hBw50
  have hBw3s : w.heap.size ≤ w3.heap.size := hBw3s0
  have l34 : w3.heap.size ≤ w4.heap.size := by have := hbw4.size; simp at this; omega
  have l45 : w4.heap.size ≤ w5.heap.size := hbw5.size
  clear hbw4 ow4 hbw5 hBw4 haw5
  go_wp2_with fail
  refine (eqlss_any _ _ Q _ (Vw5.row (by omega)) (Vw3.row (by omega))).mono ?_
  rintro e w6 ⟨rfl, hbw6⟩
  have hBw6 := hBw5.trans (hbw6.mono hBw5.size)
  replace Vw3 := Vw3.below hbw6
  replace Vw4 := Vw4.below hbw6
  replace Vw5 := Vw5.below hbw6
  replace Xw3 := (hbw6.block _ (Array.getElem?_eq_some_iff.1 Xw3).1).trans Xw3
  replace Xw5 := (hbw6.block _ (Array.getElem?_eq_some_iff.1 Xw5).1).trans Xw5
  clear hbw6 hBw5
  have cw50 : w6.cell? ⟨w5.heap.size, 0, none⟩ = some (.int .i64 gi) := by rw [cell_of_row w6 _ 0 _ _ _ Xw5]; rfl
  have cw51 : w6.cell? ⟨w5.heap.size, 0 + 1, none⟩ = some (.int .i64 gu) := by rw [cell_of_row w6 _ 1 _ _ _ Xw5]; rfl
  have cw30 : w6.cell? ⟨w3.heap.size, 0, none⟩ = some (.int .i64 gi) := by rw [cell_of_row w6 _ 0 _ _ _ Xw3]; rfl
  have cw31 : w6.cell? ⟨w3.heap.size, 0 + 1, none⟩ = some (.int .i64 gu) := by rw [cell_of_row w6 _ 1 _ _ _ Xw3]; rfl
  go_wp2_with fail
  refine (eqgrip_any gi gu _).mono ?_
  rintro e w6b ⟨rfl, hbw6b⟩
  have hBw6b := hBw6.trans (hbw6b.mono hBw6.size)
  replace Vw3 := Vw3.below hbw6b
  replace Vw4 := Vw4.below hbw6b
  replace Vw5 := Vw5.below hbw6b
  replace Xw3 := (hbw6b.block _ (Array.getElem?_eq_some_iff.1 Xw3).1).trans Xw3
  replace Xw5 := (hbw6b.block _ (Array.getElem?_eq_some_iff.1 Xw5).1).trans Xw5
  clear hbw6b hBw6 cw50 cw51 cw30 cw31
  go_wp2_with fail
  refine (tolss_any _ xs _ (R.below hBw6b) (by omega)).mono ?_
  rintro e w7 ⟨vw7, rfl, ow7, hbw7⟩
  obtain ⟨aw7, cw7, rfl⟩ := own_form ow7
  have Vw7 := VarS.new ow7
  have hBw7 : Below w.heap.size w w7 := hBw6b.trans (hbw7.mono hBw6b.size)
  replace Vw3 := Vw3.below hbw7
  replace Vw4 := Vw4.below hbw7
  replace Vw5 := Vw5.below hbw7
  replace Xw3 := (hbw7.block _ (Array.getElem?_eq_some_iff.1 Xw3).1).trans Xw3
  replace Xw5 := (hbw7.block _ (Array.getElem?_eq_some_iff.1 Xw5).1).trans Xw5
  clear hbw7 hBw6b ow7
  go_wp2_with fail
  refine (eqlss_any _ _ xs _ (Vw4.row (by omega)) (Vw7.row (by omega))).mono ?_
  rintro e w8 ⟨rfl, hbw8⟩
  have hBw8 := hBw7.trans (hbw8.mono hBw7.size)
  replace Vw3 := Vw3.below hbw8
  replace Vw4 := Vw4.below hbw8
  replace Vw5 := Vw5.below hbw8
  replace Vw7 := Vw7.below hbw8
  replace Xw3 := (hbw8.block _ (Array.getElem?_eq_some_iff.1 Xw3).1).trans Xw3
  replace Xw5 := (hbw8.block _ (Array.getElem?_eq_some_iff.1 Xw5).1).trans Xw5
  clear hbw8 hBw7
  clear Vw7
  go_wp2_with fail
  refine (markleases_any _ 1 _ xs _ Vw4.1 (by omega) (by omega) (by omega)).mono ?_
  rintro e w9 ⟨rfl, hoc, hgc⟩
  replace Vw3 := Vw3.kept Vw4 hgc (Or.inl (by simp))
  replace Vw5 := Vw5.kept Vw4 hgc (Or.inr (Nat.le_refl _))
  replace Xw3 := (hgc.block _ (Array.getElem?_eq_some_iff.1 Xw3).1 (fun e => own_ne Vw4.1 Xw3 (by decide) e.symm)).trans Xw3
  replace Xw5 := (hgc.block _ (Array.getElem?_eq_some_iff.1 Xw5).1 (fun e => own_ne Vw4.1 Xw5 (by decide) e.symm)).trans Xw5
  have hBw9 : Below w.heap.size w w9 := hBw8.grown hgc hBw8.size (fun k hk => Nat.le_trans hBw3.size (Vw4.1.lt k hk).1)
  clear hgc hoc hBw8 Vw4
  have hk1 : ¬ (1 + 3 * (xs.length : Int)) < 0 := by omega
  go_wp2_with fail
  refine (eqlss_any _ _ Q _ (Vw5.row (by omega)) (Vw3.row (by omega))).mono ?_
  rintro e wa ⟨rfl, hbwa⟩
  have hBwa := hBw9.trans (hbwa.mono hBw9.size)
  replace Vw3 := Vw3.below hbwa
  replace Vw5 := Vw5.below hbwa
  replace Xw3 := (hbwa.block _ (Array.getElem?_eq_some_iff.1 Xw3).1).trans Xw3
  replace Xw5 := (hbwa.block _ (Array.getElem?_eq_some_iff.1 Xw5).1).trans Xw5
  clear hbwa hBw9
  have cw50 : wa.cell? ⟨w5.heap.size, 0, none⟩ = some (.int .i64 gi) := by rw [cell_of_row wa _ 0 _ _ _ Xw5]; rfl
  have cw51 : wa.cell? ⟨w5.heap.size, 0 + 1, none⟩ = some (.int .i64 gu) := by rw [cell_of_row wa _ 1 _ _ _ Xw5]; rfl
  have cw30 : wa.cell? ⟨w3.heap.size, 0, none⟩ = some (.int .i64 gi) := by rw [cell_of_row wa _ 0 _ _ _ Xw3]; rfl
  have cw31 : wa.cell? ⟨w3.heap.size, 0 + 1, none⟩ = some (.int .i64 gu) := by rw [cell_of_row wa _ 1 _ _ _ Xw3]; rfl
  go_wp2_with fail
  refine (eqgrip_any gi gu _).mono ?_
  rintro e wab ⟨rfl, hbwab⟩
  have hBwab := hBwa.trans (hbwab.mono hBwa.size)
  replace Vw3 := Vw3.below hbwab
  replace Vw5 := Vw5.below hbwab
  replace Xw3 := (hbwab.block _ (Array.getElem?_eq_some_iff.1 Xw3).1).trans Xw3
  replace Xw5 := (hbwab.block _ (Array.getElem?_eq_some_iff.1 Xw5).1).trans Xw5
  clear hbwab hBwa cw50 cw51 cw30 cw31
  go_wp2_with fail
  refine (markleases_any _ 1 _ Q _ Vw5.1 (by omega) (by omega) (by omega)).mono ?_
  rintro e wb ⟨rfl, hoc, hgc⟩
  replace Vw3 := Vw3.kept Vw5 hgc (Or.inl (by omega))
  replace Xw3 := (hgc.block _ (Array.getElem?_eq_some_iff.1 Xw3).1 (fun e => own_ne Vw5.1 Xw3 (by decide) e.symm)).trans Xw3
  have hBwb : Below w.heap.size w wb := hBwab.grown hgc hBwab.size (fun k hk => Nat.le_trans (Nat.le_trans hBw3s l34) (Vw5.1.lt k hk).1)
  have VM := Vw5.marked hoc hgc
  clear hgc hoc hBwab Vw5 Xw5
  have hlm := lmarked_length 1 Q _ (Nat.le_refl _)
  have hlm2 : (lmarked 1 Q Q.length).length ≤ 2097152 := by omega
  clear hlm
  have hk2 : ¬ (1 + 3 * (Q.length : Int)) < 0 := by omega
  have hk3 : ((1 + 3 * (Q.length : Int)) != (1 + 3 * (Q.length : Int))) = false := by simp
  go_wp2_with fail
  refine (heldleases_any _ 1 Q _ (VM.row (by omega)) (by omega) (by omega) (by omega)).mono ?_
  rintro e wc ⟨rfl, rfl⟩
  go_wp2_with fail
  refine (tolss_any _ xs _ (R.below hBwb) (by omega)).mono ?_
  rintro e wd ⟨vwd, rfl, owd, hbwd⟩
  obtain ⟨awd, cwd, rfl⟩ := own_form owd
  have Vwd := VarS.new owd
  have hBwd : Below w.heap.size w wd := hBwb.trans (hbwd.mono hBwb.size)
  replace Vw3 := Vw3.below hbwd
  replace VM := VM.below hbwd
  replace Xw3 := (hbwd.block _ (Array.getElem?_eq_some_iff.1 Xw3).1).trans Xw3
  clear hbwd hBwb owd
  go_wp2_with fail
  refine (IT _ _ (Vwd.row (by omega))).mono ?_
  rintro e we ⟨vwe, rfl, owe, hbwe⟩
  obtain ⟨awe, cwe, rfl⟩ := own_form owe
  have hBwe0 := hBwd.trans (hbwe.mono hBwd.size)
  replace Vw3 := Vw3.below hbwe
  replace VM := VM.below hbwe
  replace Vwd := Vwd.below hbwe
  replace Xw3 := (hbwe.block _ (Array.getElem?_eq_some_iff.1 Xw3).1).trans Xw3
  have Vwe := VarS.new owe
  have hawe : Below we.heap.size we (we.alloc (Obj.cells #[.int .i64 gi, .int .i64 gu] 28)) := (Below.refl _ _).alloc (Nat.le_refl _) _
  replace Vw3 := Vw3.below hawe
  replace VM := VM.below hawe
  replace Vwd := Vwd.below hawe
  replace Vwe := Vwe.below hawe
  replace Xw3 := (hawe.block _ (Array.getElem?_eq_some_iff.1 Xw3).1).trans Xw3
  have Xwe := heap_alloc_new we (Obj.cells #[.int .i64 gi, .int .i64 gu] 28)
  have hBwe := hBwe0.trans (hawe.mono hBwe0.size)
  clear owe hBwe0
  clear hbwe hBwd Vwd hawe
  go_wp2_with fail
  refine (eqlss_any _ _ Q _ (Vwe.row (by omega)) (Vw3.row (by omega))).mono ?_
  rintro e wf ⟨rfl, hbwf⟩
  have hBwf := hBwe.trans (hbwf.mono hBwe.size)
  replace Vw3 := Vw3.below hbwf
  replace VM := VM.below hbwf
  replace Vwe := Vwe.below hbwf
  replace Xw3 := (hbwf.block _ (Array.getElem?_eq_some_iff.1 Xw3).1).trans Xw3
  replace Xwe := (hbwf.block _ (Array.getElem?_eq_some_iff.1 Xwe).1).trans Xwe
  clear hbwf hBwe
  have cwe0 : wf.cell? ⟨we.heap.size, 0, none⟩ = some (.int .i64 gi) := by rw [cell_of_row wf _ 0 _ _ _ Xwe]; rfl
  have cwe1 : wf.cell? ⟨we.heap.size, 0 + 1, none⟩ = some (.int .i64 gu) := by rw [cell_of_row wf _ 1 _ _ _ Xwe]; rfl
  have cw30 : wf.cell? ⟨w3.heap.size, 0, none⟩ = some (.int .i64 gi) := by rw [cell_of_row wf _ 0 _ _ _ Xw3]; rfl
  have cw31 : wf.cell? ⟨w3.heap.size, 0 + 1, none⟩ = some (.int .i64 gu) := by rw [cell_of_row wf _ 1 _ _ _ Xw3]; rfl
  go_wp2_with fail
  refine (eqgrip_any gi gu _).mono ?_
  rintro e wg ⟨rfl, hbwg⟩
  have hBwg := hBwf.trans (hbwg.mono hBwf.size)
  replace Vw3 := Vw3.below hbwg
  replace VM := VM.below hbwg
  replace Vwe := Vwe.below hbwg
  replace Xw3 := (hbwg.block _ (Array.getElem?_eq_some_iff.1 Xw3).1).trans Xw3
  replace Xwe := (hbwg.block _ (Array.getElem?_eq_some_iff.1 Xwe).1).trans Xwe
  clear hbwg hBwf cwe0 cwe1 cw30 cw31
  clear Vwe Vw3 Xwe Xw3
  go_wp2_with fail
  refine (heldleases_any _ 1 Q _ (VM.row (by omega)) (by omega) (by omega) (by omega)).mono ?_
  rintro e wh ⟨rfl, rfl⟩
  clear VM
  go_wp2
  go_ret
  exact ⟨rfl, hBwg⟩
end Go.Proofs.Ytdlbgdckkjhbdaa
