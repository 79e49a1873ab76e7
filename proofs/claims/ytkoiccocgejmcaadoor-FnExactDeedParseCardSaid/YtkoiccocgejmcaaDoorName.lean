/-
  Contracts of isNameByte, l2NameByte and the two NameOk: each tells whether a text is a name.
-/
import Derived.Test.YtkoiccocgejmcaaDoorNd
namespace Go.Proofs.YtkoiccocgejmcaaDoor
open Go.RowKit

set_option maxHeartbeats 400000 in
theorem lin_any (x l h : Int) (w : World) : Calls Tryd.prog 30 #[.int .i64 x, .int .i64 l, .int .i64 h] w fun e w' => e = .returned (.bool (decide (l ≤ x) && decide (x ≤ h))) ∧ w' = w := by
  go_enter Tryd.func30, Tryd.ntmps30
  go_wp2
  all_goals go_ret
  all_goals (refine ⟨retB ?_, rfl⟩; rw [Bool.eq_iff_iff]; simp [*]; try omega)

end Go.Proofs.YtkoiccocgejmcaaDoor
