/-
  What a pool and a node that came in read as. Nothing of the program; no condition.
-/
import Derived.Test.YtpkpednemkagiaaNd
import Derived.ProofKit
import Derived.OpenShut
import Derived.ShutString
import Derived.ChangeOld
import Derived.Below
import Derived.Deep.Slices
import Derived.ChangeSame
namespace Go.Proofs.Ytpkpednemkagiaa
open Go.ChangeShapes Go.WideShapes Go.ChangeAt Go.RowKit Go.Deep

theorem ownKnob_none2 : ownKnob Try.prog.godebug = none := by kernel_rfl
theorem laidOut_true2 : laidOutB Try.prog = true := by kernel_rfl

section
variable {H : Type} {enc : TypeId × Value → H} {w : World} {base : Nat} {spare : Nat → Bool} {held : Bool}

end
end Go.Proofs.Ytpkpednemkagiaa
