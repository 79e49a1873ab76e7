/-
  Contract of the laws' sameInts: of two rows that read alike it tells yes.
-/
import Derived.Test.YtgmijnkdcdgejaaInts
namespace Go.Proofs.Ytgmijnkdcdgejaa
open Go.RowKit

set_option maxRecDepth 100000 in
set_option maxHeartbeats 800000 in
theorem sameints_any (v v' : Value) (zs : List Int) (w : World) (L : IRow w v zs) (L' : IRow w v' zs) :
    Calls Try.prog 12 #[v, v'] w fun e w' => e = .returned (.bool true) ∧ Below w.heap.size w w' := by
  obtain ⟨ao, cap, rfl, hcap, hm, hcell⟩ := L
  obtain ⟨ao', cap', rfl, hcap', _, hcell'⟩ := L'
  go_enter Try.func12, Try.ntmps12
  go_wp2_with fail
  go_loopw [5] (fun i wr => ∃ (k m : Nat), k ≤ zs.length ∧ i = .int .i64 k ∧ wr = w.drewN m) (fun i _ => zs.length - (intOf i).toNat)
  case atStart => exact ⟨0, 0, by omega, rfl, rfl⟩
  case round =>
    obtain ⟨k, m, hk, rfl, rfl⟩ := hrel
    by_cases hlt : k < zs.length
    · obtain ⟨g, o, rfl, hg, hcell⟩ := hcell (by intro e; subst e; simp at hlt)
      obtain ⟨g', o', rfl, hg', hcell'⟩ := hcell' (by intro e; subst e; simp at hlt)
      have c0 := hcell k hlt
      have c1 := hcell' k hlt
      generalize zs.getD k 0 = z at c0 c1
      clear hcell hcell'
      go_wp2_with fail
      go_quiet (fail)
      go_wp2_with fail
      go_roundw
      case rel => exact ⟨k + 1, _, by omega, by go_num, rfl⟩
      case measure => simp [intOf]; omega
    · clear hcell hcell'
      go_wp2_with fail
      go_ret
      exact ⟨rfl, ⟨rfl, rfl, rfl, Nat.le_refl _, fun _ _ => rfl⟩⟩
end Go.Proofs.Ytgmijnkdcdgejaa
