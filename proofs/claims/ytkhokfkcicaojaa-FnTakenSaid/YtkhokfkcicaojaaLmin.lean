/-
  Contract of spec's l1Min.
-/
import Derived.Test.YtkhokfkcicaojaaName
namespace Go.Proofs.Ytkhokfkcicaojaa
open Go.RowKit

set_option maxHeartbeats 400000 in
theorem lmin_any (x y : Int) (w : World) : Calls Try.prog 28 #[.int .i64 x, .int .i64 y] w fun e w' => e = .returned (.int .i64 (min x y)) ∧ w' = w := by
  by_cases h : x < y
  · have HM : Hid (min x y = x) := by unfold Hid; omega
    go_enter Try.func28, Try.ntmps28
    go_wp2
    go_ret
    exact ⟨by rw [HM.out]; rfl, rfl⟩
  · have HM : Hid (min x y = y) := by unfold Hid; omega
    go_enter Try.func28, Try.ntmps28
    go_wp2
    go_ret
    exact ⟨by rw [HM.out]; rfl, rfl⟩
end Go.Proofs.Ytkhokfkcicaojaa
