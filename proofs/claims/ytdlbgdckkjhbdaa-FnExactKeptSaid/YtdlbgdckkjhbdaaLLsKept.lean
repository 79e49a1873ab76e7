/-
  The law FnExactKept, walked: at every argument the law returns true.
-/
import Derived.Test.YtdlbgdckkjhbdaaLsKept
import Derived.Test.YtdlbgdckkjhbdaaVarS
namespace Go.Proofs.Ytdlbgdckkjhbdaa
open Go.RowKit

set_option maxRecDepth 100000 in
set_option maxHeartbeats 6400000 in
theorem lkept_any (v : Value) (xs : List Ls) (i n : Int) (w : World) (R : LsRow w v xs) :
    Calls Try.prog 8 #[v, .int .i64 i, .int .i64 n] w fun e w' => e = .returned (.bool true) ∧ Below w.heap.size w w' := by
  obtain ⟨ao, cap, rfl⟩ := R.small
  go_enter Try.func8, Try.ntmps8
  go_wp2_with fail
  refine (szlss_any _ xs _ _ R (by omega) (by omega)).mono ?_
  rintro e w1 ⟨r, rfl, hr0, hr1, hr2, hw⟩
  have hw2 := hw.symm
  subst hw2
  clear hw
  by_cases hr : r < 0
  · go_wp2
    go_ret
    exact ⟨rfl, Below.refl _ _⟩
  have hl := hr2 (by omega)
  clear hr2
  have IT := fun (v : Value) (w : World) (R : LsRow w v xs) => ikept_any v xs i n w R
  have ST := fun (v : Value) (w : World) (R : LsRow w v xs) => skept_any v xs i n w R
  generalize (lsB xs && ktB xs i n) = bb at *
  have bbb : (bb != bb) = false := by simp
  go_wp2_with fail
  refine (tolss_any _ xs _ (R) (by omega)).mono ?_
  rintro e w2 ⟨vw2, rfl, ow2, hbw2⟩
  obtain ⟨aw2, cw2, rfl⟩ := own_form ow2
  have Vw2 := VarS.new ow2
  have hBw2 : Below w.heap.size w w2 := hbw2
  go_wp2_with fail
  refine (ST _ _ (Vw2.row (by omega))).mono ?_
  rintro e w3 ⟨rfl, hb3⟩
  have hB3 := hBw2.trans (hb3.mono hBw2.size)
  clear hbw2 hb3 ow2 Vw2
  go_wp2_with fail
  refine (tolss_any _ xs _ (R.below hB3) (by omega)).mono ?_
  rintro e w4 ⟨vw4, rfl, ow4, hbw4⟩
  obtain ⟨aw4, cw4, rfl⟩ := own_form ow4
  have Vw4 := VarS.new ow4
  have hBw4 : Below w.heap.size w w4 := hB3.trans (hbw4.mono hB3.size)
  go_wp2_with fail
  refine (IT _ _ (Vw4.row (by omega))).mono ?_
  rintro e w5 ⟨rfl, hb5⟩
  replace Vw4 := Vw4.below hb5
  have hB5 := hBw4.trans (hb5.mono hBw4.size)
  clear hbw4 hb5 ow4
  go_wp2_with fail
  refine (tolss_any _ xs _ (R.below hB5) (by omega)).mono ?_
  rintro e w6 ⟨vw6, rfl, ow6, hbw6⟩
  obtain ⟨aw6, cw6, rfl⟩ := own_form ow6
  have Vw6 := VarS.new ow6
  have hBw6 : Below w.heap.size w w6 := hB5.trans (hbw6.mono hB5.size)
  replace Vw4 := Vw4.below hbw6
  go_wp2_with fail
  refine (eqlss_any _ _ xs _ (Vw4.row (by omega)) (Vw6.row (by omega))).mono ?_
  rintro e w7 ⟨rfl, hb7⟩
  have hB7 := hBw6.trans (hb7.mono hBw6.size)
  clear Vw4 Vw6 hb7 hbw6 ow6
  go_wp2
  go_ret
  exact ⟨rfl, hB7⟩
end Go.Proofs.Ytdlbgdckkjhbdaa
