/-
  The law FnExactMailRead, walked: for every text it returns true and writes nothing that was there.
-/
import Derived.Test.YtpkpednemkagiaaSMlR
import Derived.Test.YtpkpednemkagiaaIMlR
namespace Go.Proofs.Ytpkpednemkagiaa
open Go.RowKit

set_option maxRecDepth 100000 in
set_option maxHeartbeats 800000 in
theorem mailread_law (s : ByteArray) (w : World) (hm : s.size ≤ 9223372036854775807) :
    Calls Try.prog 3 #[.string s] w fun e w' => e = .returned (.bool true) ∧ Below w.heap.size w w' := by
  go_enter Try.func3, Try.ntmps3
  by_cases hs : 1048576 < s.size
  · go_wp2_with fail
    go_ret
    exact ⟨rfl, Below.refl _ _⟩
  · have H1 := smailr_any s
    have H2 := imailr_any s
    generalize mrd (sb s) = r at *
    obtain ⟨k, p, t, ok, hr⟩ : ∃ k p t ok, mrA r = .tuple #[.int .i64 k, .int .i64 p, .string t, .bool ok] := by
      cases r with
      | none => exact ⟨_, _, _, _, rfl⟩
      | some q => exact ⟨_, _, _, _, rfl⟩
    rw [hr] at H1 H2
    clear hr r
    go_wp2_with fail
    refine (H1 _ (by omega)).mono ?_
    rintro e w1 ⟨rfl, bel1⟩
    go_wp2_with fail
    refine (H2 _ (by omega)).mono ?_
    rintro e w2 ⟨rfl, bel2⟩
    have b := bel1.trans (bel2.mono bel1.size)
    clear H1 H2
    go_wp2
    go_ret
    exact ⟨rfl, b⟩
end Go.Proofs.Ytpkpednemkagiaa
