/-
  The laws FnExactMailWord and FnExactMailMove, walked: for every number and text they return true and write nothing that was there.
-/
import Derived.Test.YtllfojddaobpmaaMail
namespace Go.Proofs.Ytllfojddaobpmaa
open Go.RowKit

set_option maxRecDepth 100000 in
set_option maxHeartbeats 400000 in
theorem mailword_law (p : Int) (s : ByteArray) (w : World) (hp : p ≤ 9223372036854775807) (hm : s.size ≤ 9223372036854775807) :
    Calls Try.prog 3 #[.int .i64 p, .string s] w fun e w' => e = .returned (.bool true) ∧ Below w.heap.size w w' := by
  go_enter Try.func3, Try.ntmps3
  by_cases hs : 1048576 < s.size
  · go_wp2_with fail
    go_ret
    exact ⟨rfl, Below.refl _ _⟩
  · go_wp2_with fail
    refine (smword_any p s _ hp (by omega)).mono ?_
    rintro e w1 ⟨rfl, bel1⟩
    go_wp2_with fail
    refine (imword_any p s _ hp (by omega)).mono ?_
    rintro e w2 ⟨rfl, bel2⟩
    have b := bel1.trans (bel2.mono bel1.size)
    generalize mwR p s = r
    go_wp2
    go_ret
    exact ⟨rfl, b⟩

set_option maxRecDepth 100000 in
set_option maxHeartbeats 400000 in
theorem mailmove_law (s : ByteArray) (w : World) (hm : s.size ≤ 9223372036854775807) :
    Calls Try.prog 4 #[.string s] w fun e w' => e = .returned (.bool true) ∧ Below w.heap.size w w' := by
  go_enter Try.func4, Try.ntmps4
  by_cases hs : 1048576 < s.size
  · go_wp2_with fail
    go_ret
    exact ⟨rfl, Below.refl _ _⟩
  · go_wp2_with fail
    refine (smmove_any s _ (by omega)).mono ?_
    rintro e w1 ⟨rfl, bel1⟩
    go_wp2_with fail
    refine (immove_any s _ (by omega)).mono ?_
    rintro e w2 ⟨rfl, bel2⟩
    have b := bel1.trans (bel2.mono bel1.size)
    generalize mmR s = r
    go_wp2
    go_ret
    exact ⟨rfl, b⟩
end Go.Proofs.Ytllfojddaobpmaa
