/-
  The law FnExactGetText, walked: for every slice of bytes and every place it returns true and writes nothing that was there.
-/
import Derived.Test.YthaimhgjfjcbeajIGText
import Derived.Test.YthaimhgjfjcbeajEq
namespace Go.Proofs.Ythaimhgjfjcbeaj
open Go.RowKit

set_option maxRecDepth 100000 in
set_option maxHeartbeats 400000 in
theorem getText_big (ao : Option Addr) (len cap : Nat) (a : Int) (w : World) (hl : 1048576 < len) (hm : len ≤ 9223372036854775807) :
    Calls Try.prog 6 #[.slice ao len cap, .int .i64 a] w fun e w' => e = .returned (.bool true) ∧ Below w.heap.size w w' := by
  go_enter Try.func6, Try.ntmps6
  go_wp2_with fail
  go_ret
  exact ⟨rfl, Below.refl _ _⟩

set_option maxRecDepth 100000 in
set_option maxHeartbeats 400000 in
theorem getText_small (ao : Option Addr) (cap : Nat) (zs : List Int) (a : Int) (w : World) (R : Row w (.slice ao zs.length cap) zs) (hl : zs.length ≤ 1048576) (hlo : -9223372036854775808 ≤ a) (hhi : a ≤ 9223372036854775807) :
    Calls Try.prog 6 #[.slice ao zs.length cap, .int .i64 a] w fun e w' => e = .returned (.bool true) ∧ Below w.heap.size w w' := by
  have hz : ∀ z ∈ zs, 0 ≤ z ∧ z ≤ 255 := by obtain ⟨_, _, _, _, _, hz, _⟩ := R; exact hz
  have HZ : Hid (∀ z ∈ zs, 0 ≤ z ∧ z ≤ 255) := hz
  clear hz
  go_enter Try.func6, Try.ntmps6
  go_wp2_with fail
  refine (to_any _ zs w R (by omega)).mono ?_
  rintro e w1 ⟨v1, rfl, own1, bel1⟩
  go_wp2_with fail
  refine (sgtext_any v1 zs a w1 (Row.of_own own1 (by omega) HZ.out) hlo hhi).mono ?_
  rintro e w1' ⟨rfl, rfl⟩
  go_wp2_with fail
  refine (to_any _ zs _ (R.below bel1) (by omega)).mono ?_
  rintro e w2 ⟨v2, rfl, own2, bel2⟩
  have bel12 : Below w.heap.size w w2 := bel1.trans (bel2.mono bel1.size)
  have R2 : Row w2 v2 zs := Row.of_own own2 (by omega) HZ.out
  clear bel1 bel2 own1 own2
  go_wp2_with fail
  refine (igtext_any v2 zs a w2 R2).mono ?_
  rintro e w3 ⟨rfl, bel3⟩
  have bel13 : Below w.heap.size w w3 := bel12.trans (bel3.mono bel12.size)
  have R3 : Row w3 v2 zs := R2.below bel3
  clear bel12 R2 bel3
  generalize gT zs a = r
  obtain ⟨x, y, b⟩ := r
  go_wp2_with fail
  refine (to_any _ zs w3 (R.below bel13) (by omega)).mono ?_
  rintro e w4 ⟨v4, rfl, own4, bel4⟩
  have R4 : Row w4 v4 zs := Row.of_own own4 (by omega) HZ.out
  go_wp2_with fail
  refine (eq_any v2 v4 zs w4 (R3.below bel4) R4).mono ?_
  rintro e w5 ⟨rfl, n5, rfl⟩
  go_wp2_with fail
  go_ret
  exact ⟨rfl, below_drewN (bel13.trans (bel4.mono bel13.size)) n5⟩

end Go.Proofs.Ythaimhgjfjcbeaj
