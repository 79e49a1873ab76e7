/-
  One text more is read: plain mathematics. No condition.
-/
import Derived.Test.YtpkpednemkagiaaR8c
namespace Go.Proofs.Ytpkpednemkagiaa
open Go.RowKit

/-- One text more. -/
def rt (zs : List Int) (a : Int) : Option (ByteArray × Int) := if (gT zs a).2.2 then some ((gT zs a).1, (gT zs a).2.1) else none
def txt8 (zs : List Int) (at_ : Int) (ok : Bool) : ByteArray × Int × Bool := if ok && (gT zs at_).2.2 then ((gT zs at_).1, (gT zs at_).2.1, true) else (⟨#[]⟩, at_, false)
theorem rt_txt8 (zs : List Int) (a : Int) : txt8 zs a true = match rt zs a with | some p => (p.1, p.2, true) | none => (⟨#[]⟩, a, false) := by
  unfold txt8 rt
  cases (gT zs a).2.2 <;> rfl
theorem gT_range (zs : List Int) (a : Int) : 0 ≤ (gT zs a).2.1 ∧ (gT zs a).2.1 ≤ zs.length := by
  unfold gT
  split
  · rename_i hc
    obtain ⟨h1, h2⟩ := hc
    have hg := gN_ok zs a (gN zs a).1 (gN zs a).2.1 (by rw [← h1])
    show 0 ≤ (gN zs a).2.1 + (gN zs a).1 ∧ (gN zs a).2.1 + (gN zs a).1 ≤ zs.length
    omega
  · show (0 : Int) ≤ 0 ∧ (0 : Int) ≤ zs.length
    omega
end Go.Proofs.Ytpkpednemkagiaa
