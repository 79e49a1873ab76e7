/-
  For every pool and every text, FnExactRead returns true: impl.Read answers as spec.Read, writes into no argument, and its answer owns its memory. The variables of the library that it lists read as the program lays them; the card ties that to the program's text (over a pruned copy of the project: the packages that these roots load, no test file).
-/
import Derived.Test.YtdakifahedelcaaDoorPReadM
import Derived.Test.YtdakifahedelcaaDoorIRd5M
namespace Go.Proofs.YtdakifahedelcaaDoor
theorem catchr : CatchR := fun q xs v a b c d h p older w X R hl => catchr_panicking q xs v a b c d h p older w X R hl
theorem read_holds : Rows.FnExactReadCardSaid := ReadRow.card catchr
#print axioms read_holds
end Go.Proofs.YtdakifahedelcaaDoor
