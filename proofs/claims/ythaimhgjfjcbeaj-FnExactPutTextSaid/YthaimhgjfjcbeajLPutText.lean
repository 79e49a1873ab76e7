/-
  The law FnExactPutText, walked: for every text it returns true and writes nothing that was there.
-/
import Derived.Test.YthaimhgjfjcbeajPText
import Derived.Test.YthaimhgjfjcbeajEq
import Derived.Test.YthaimhgjfjcbeajMark
namespace Go.Proofs.Ythaimhgjfjcbeaj
open Go.RowKit

set_option maxRecDepth 100000 in
set_option maxHeartbeats 400000 in
theorem putText_big (s : ByteArray) (w : World) (hl : 1048576 < s.size) (hm : s.size ≤ 9223372036854775807) :
    Calls Try.prog 5 #[.string s] w fun e w' => e = .returned (.bool true) ∧ Below w.heap.size w w' := by
  go_enter Try.func5, Try.ntmps5
  go_wp2_with fail
  go_ret
  exact ⟨rfl, Below.refl _ _⟩

set_option maxRecDepth 100000 in
set_option maxHeartbeats 400000 in
theorem putText_small (s : ByteArray) (w : World) (hm : s.size ≤ 1048576) :
    Calls Try.prog 5 #[.string s] w fun e w' => e = .returned (.bool true) ∧ Below w.heap.size w w' := by
  have hl : (pt s).length ≤ 1048585 := by have := encI_length s.size; rw [pt_length]; omega
  have hwf := pt_wf s
  go_enter Try.func5, Try.ntmps5
  go_wp2_with fail
  refine (sptext_any s _ (by omega)).mono ?_
  rintro e w1 ⟨v0, rfl, own0, bel1⟩
  go_wp2_with fail
  refine (iptext_any s _ (by omega)).mono ?_
  rintro e w2 ⟨v1, rfl, own1, bel2⟩
  have R0 : Row w1 v0 (pt s) := Row.of_own own0 (by omega) hwf
  have R1 : Row w2 v1 (pt s) := Row.of_own own1 (by omega) hwf
  go_wp2_with fail
  refine (eq_any v1 v0 (pt s) _ R1 (R0.below bel2)).mono ?_
  rintro e w3 ⟨rfl, n3, rfl⟩
  go_wp2_with fail
  refine (mark_any v1 1 w1.heap.size (pt s) (w2.drewN n3) own1 (by omega) (by omega) (by omega)).mono ?_
  rintro e w4 ⟨rfl, own4, bel4⟩
  have hml := marked_length 1 (pt s) (pt s).length (Nat.le_refl _)
  have R4 : Row w4 v1 (marked 1 (pt s) (pt s).length) := Row.of_own (by rw [hml]; exact own4) (by omega) (marked_wf _ _)
  go_wp2_with fail
  refine (held_any v1 1 (pt s) _ R4 (by omega) (by omega)).mono ?_
  rintro e w5 ⟨rfl, rfl⟩
  go_wp2_with fail
  refine (iptext_any s _ (by omega)).mono ?_
  rintro e w6 ⟨v2, rfl, own6, bel6⟩
  have bel26 : Below w1.heap.size w1 w6 := (((below_drewN bel2 n3).trans bel4).trans (bel6.mono (by have h1 := bel2.size; have h2 := bel4.size; simp at h2; omega)))
  have R6 : Row w6 v2 (pt s) := Row.of_own own6 (by omega) hwf
  go_wp2_with fail
  refine (eq_any v2 v0 (pt s) _ R6 (R0.below bel26)).mono ?_
  rintro e w7 ⟨rfl, n7, rfl⟩
  go_wp2_with fail
  refine (held_any v1 1 (pt s) (w6.drewN n7) (R4.below (below_drewN bel6 n7)) (by omega) (by omega)).mono ?_
  rintro e w8 ⟨rfl, rfl⟩
  go_wp2
  go_ret
  exact ⟨rfl, below_drewN (bel1.trans (bel26.mono bel1.size)) n7⟩

end Go.Proofs.Ythaimhgjfjcbeaj
