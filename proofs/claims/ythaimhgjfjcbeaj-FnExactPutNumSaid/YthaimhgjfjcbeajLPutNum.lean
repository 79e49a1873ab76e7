/-
  The law FnExactPutNum, walked: for every int it returns true and writes nothing that was there.
-/
import Derived.Test.YthaimhgjfjcbeajSPut
import Derived.Test.YthaimhgjfjcbeajIPut
import Derived.Test.YthaimhgjfjcbeajEq
import Derived.Test.YthaimhgjfjcbeajMark
namespace Go.Proofs.Ythaimhgjfjcbeaj
open Go.RowKit

set_option maxHeartbeats 400000 in
theorem putNum_walk (x : Int) (w : World) (hm : x ≤ 9223372036854775807) :
    Calls Try.prog 3 #[.int .i64 x] w fun e w' => e = .returned (.bool true) ∧ Below w.heap.size w w' := by
  have hl := encI_length x
  have hwf := encI_wf x
  go_enter Try.func3, Try.ntmps3
  go_wp2_with fail
  refine (sput_any x _ hm).mono ?_
  rintro e w1 ⟨v0, rfl, own0, bel1⟩
  go_wp2_with fail
  refine (iput_any x _ hm).mono ?_
  rintro e w2 ⟨v1, rfl, own1, bel2⟩
  have R0 : Row w1 v0 (encI x) := Row.of_own own0 (by omega) hwf
  have R1 : Row w2 v1 (encI x) := Row.of_own own1 (by omega) hwf
  go_wp2_with fail
  refine (eq_any v1 v0 (encI x) _ R1 (R0.below bel2)).mono ?_
  rintro e w3 ⟨rfl, n3, rfl⟩
  go_wp2_with fail
  refine (mark_any v1 1 w1.heap.size (encI x) (w2.drewN n3) own1 (by omega) (by omega) (by omega)).mono ?_
  rintro e w4 ⟨rfl, own4, bel4⟩
  have hml := marked_length 1 (encI x) (encI x).length (Nat.le_refl _)
  have R4 : Row w4 v1 (marked 1 (encI x) (encI x).length) := Row.of_own (by rw [hml]; exact own4) (by omega) (marked_wf _ _)
  go_wp2_with fail
  refine (held_any v1 1 (encI x) _ R4 (by omega) (by omega)).mono ?_
  rintro e w5 ⟨rfl, rfl⟩
  go_wp2_with fail
  refine (iput_any x _ hm).mono ?_
  rintro e w6 ⟨v2, rfl, own6, bel6⟩
  have bel26 : Below w1.heap.size w1 w6 := (((below_drewN bel2 n3).trans bel4).trans (bel6.mono (by have h1 := bel2.size; have h2 := bel4.size; simp at h2; omega)))
  have R6 : Row w6 v2 (encI x) := Row.of_own own6 (by omega) hwf
  go_wp2_with fail
  refine (eq_any v2 v0 (encI x) _ R6 (R0.below bel26)).mono ?_
  rintro e w7 ⟨rfl, n7, rfl⟩
  go_wp2_with fail
  refine (held_any v1 1 (encI x) (w6.drewN n7) (R4.below (below_drewN bel6 n7)) (by omega) (by omega)).mono ?_
  rintro e w8 ⟨rfl, rfl⟩
  go_wp2
  go_ret
  exact ⟨rfl, below_drewN (bel1.trans (bel26.mono bel1.size)) n7⟩

end Go.Proofs.Ythaimhgjfjcbeaj
