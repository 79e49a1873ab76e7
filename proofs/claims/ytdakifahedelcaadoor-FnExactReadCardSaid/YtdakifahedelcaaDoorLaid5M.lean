/-
  What the listed variables give: the library's table of powers of ten reads as it is laid, and its two error variables are there. No condition beyond that list.
-/
import Derived.Test.YtdakifahedelcaaDoorWordM
import Derived.Test.YtdakifahedelcaaDoorIWordM
import Derived.Test.YtdakifahedelcaaDoorArg2M
import Derived.ProofKit
import Derived.LaidMore
import Derived.OpenShut
import Derived.Stop.Joined
import Derived.Stop.LaidErr
import Derived.Lib.LaidTab
import Derived.WalkSmall
import Derived.Lib.SmallJoins
namespace Go.Proofs.YtdakifahedelcaaDoor
open Go.ChangeShapes Go.WideShapes Go.ChangeAt Go.RowKit

/-- The list of the rows of this seat that reach strconv.Atoi. -/
def laid5 : List (String × DataW Unit) := Rows.fnExactReadRow.laid

theorem pow10_data5 : (Rows.laid_internal_strconv_uint64pow10 : DataW Unit) = Lib.tabData .u64 Lib.pow10Tab := by kernel_rfl
theorem Tryd.gRange : Tryd.prog.globalNamed "strconv.ErrRange" = some 4 := by kernel_rfl
theorem Tryd.gSyntax : Tryd.prog.globalNamed "strconv.ErrSyntax" = some 3 := by kernel_rfl
theorem Tryd.gRangeT : (Tryd.prog.globals[4]?).map (·.type) = some 140 := by kernel_rfl
theorem Tryd.gSyntaxT : (Tryd.prog.globals[3]?).map (·.type) = some 140 := by kernel_rfl
theorem Tryd.cellsE : Tryd.prog.cellsOf 168 = 1 := by kernel_rfl
theorem Tryd.cellsS : Tryd.prog.cellsOf 9 = 1 := by kernel_rfl
theorem errStar : "*" ++ "errors.errorString" = "*errors.errorString" := by decide
theorem Tryd.rowE (u : TypeId) (h : Tryd.prog.typeName? 3 u = some "*errors.errorString") : u = 166 :=
  typeName_ptr_named (nm := "errors.errorString") (by rw [errStar]; kernel_rfl) (by kernel_rfl) (by decide) u (by rw [errStar]; exact h)
theorem plain5 {W : World} (h : laidMetH Tryd.prog laid5 W) : laidMet Tryd.prog laid5 W := by
  rw [MakeChecks.laidMetH_plain _ _ _ (by kernel_rfl)] at h
  exact h
theorem pow_of_laid5 {W : World} (h0 : laidMetH Tryd.prog laid5 W) : Pow W.heap.size W := by
  have h' : laidMet Tryd.prog (("internal/strconv.uint64pow10", Rows.laid_internal_strconv_uint64pow10) :: [("strconv.ErrRange", Rows.laid_strconv_ErrRange), ("strconv.ErrSyntax", Rows.laid_strconv_ErrSyntax)]) W := (plain5 h0).tail.tail
  rw [pow10_data5] at h'
  exact Lib.tabBelow_of_tabIs (Lib.tabIs_of_head (g := 0) (by kernel_rfl) (by kernel_rfl) Tryd.underlying145 Tryd.underlying134 (by kernel_rfl) (by kernel_rfl) h')
theorem errs_of_laid5 {W : World} (h0 : laidMetH Tryd.prog laid5 W) : Errs W.heap.size W := by
  have h' : laidMet Tryd.prog (("strconv.ErrRange", Rows.laid_strconv_ErrRange) :: [("strconv.ErrSyntax", Rows.laid_strconv_ErrSyntax)]) W := (plain5 h0).tail.tail.tail
  obtain ⟨a0, s0, hv0, _⟩ := laid_sentinel h' Tryd.gRange Tryd.gRangeT Tryd.underlying140 Tryd.rowE Tryd.underlying166 Tryd.underlying168 rfl rfl Tryd.underlying9 Tryd.cellsE Tryd.cellsS
  obtain ⟨a1, s1, hv1, _⟩ := laid_sentinel h'.tail Tryd.gSyntax Tryd.gSyntaxT Tryd.underlying140 Tryd.rowE Tryd.underlying166 Tryd.underlying168 rfl rfl Tryd.underlying9 Tryd.cellsE Tryd.cellsS
  intro w' hb
  exact ⟨⟨_, _, Joins.var_stays Tryd.gSyntax hv1 hb (Nat.le_refl _)⟩, ⟨_, _, Joins.var_stays Tryd.gRange hv0 hb (Nat.le_refl _)⟩⟩

/-- The door's own heap meets the condition. -/
theorem door_met5 (os : Os) (args : Array Value) : laidMetH Tryd.prog laid5 ((World.doorLaid Tryd.prog 62 os).forCall (fun _ _ => 0) ⟨#[], args, []⟩).memory :=
  laidMetH_of_parts3 (fuel := 8) (laidMet_of_run' 8 (by kernel_rfl) (by kernel_rfl)) (by kernel_rfl) (by kernel_rfl)
end Go.Proofs.YtdakifahedelcaaDoor
