/-
  What the listed variables give: the table of powers of ten, the errors of numbers, the words of deeds, the error of what is no line. No condition beyond that list.
-/
import Derived.Test.YtkoiccocgejmcaaDoorLaidDl
import Derived.Test.YtkoiccocgejmcaaDoorLDp
import Derived.WalkSmall
import Derived.Lib.SmallJoins
namespace Go.Proofs.YtkoiccocgejmcaaDoor
open Go.ChangeShapes Go.WideShapes Go.ChangeAt Go.RowKit

def laidDp : List (String × DataW Unit) := Rows.fnExactDeedParseRow.laid
theorem Tryd.gRange : Tryd.prog.globalNamed "strconv.ErrRange" = some 7 := by kernel_rfl
theorem Tryd.gSyntax : Tryd.prog.globalNamed "strconv.ErrSyntax" = some 6 := by kernel_rfl
theorem Tryd.gNoLine : Tryd.prog.globalNamed "loop.example/g00189/impl.errNoLine" = some 1 := by kernel_rfl
theorem Tryd.gRangeT : (Tryd.prog.globals[7]?).map (·.type) = some 42 := by kernel_rfl
theorem Tryd.gSyntaxT : (Tryd.prog.globals[6]?).map (·.type) = some 42 := by kernel_rfl
theorem Tryd.gNoLineT : (Tryd.prog.globals[1]?).map (·.type) = some 42 := by kernel_rfl
theorem Tryd.cellsE : Tryd.prog.cellsOf 117 = 1 := by kernel_rfl
theorem Tryd.cellsS : Tryd.prog.cellsOf 9 = 1 := by kernel_rfl
theorem errStar : "*" ++ "errors.errorString" = "*errors.errorString" := by decide
theorem Tryd.rowE (u : TypeId) (h : Tryd.prog.typeName? 3 u = some "*errors.errorString") : u = 115 :=
  typeName_ptr_named (nm := "errors.errorString") (by rw [errStar]; kernel_rfl) (by kernel_rfl) (by decide) u (by rw [errStar]; exact h)
theorem plainDp {W : World} (h : laidMetH Tryd.prog laidDp W) : laidMet Tryd.prog laidDp W := by
  rw [MakeChecks.laidMetH_plain _ _ _ (by kernel_rfl)] at h
  exact h
theorem env_of_laidDp {W : World} (h0 : laidMetH Tryd.prog laidDp W) : ∃ a, EnvD W.heap.size a W := by
  have hp : laidMet Tryd.prog (("internal/strconv.uint64pow10", Rows.laid_internal_strconv_uint64pow10) :: [("strconv.ErrRange", Rows.laid_strconv_ErrRange), ("strconv.ErrSyntax", Rows.laid_strconv_ErrSyntax), ("loop.example/g00189/impl.deedWords", Rows.laid_loop_example_g00189_impl_deedWords), ("loop.example/g00189/impl.errNoLine", Rows.laid_loop_example_g00189_impl_errNoLine)]) W := (plainDp h0).tail.tail
  have hr := hp.tail
  have hs := hr.tail
  have hw := hs.tail
  have hn := hw.tail
  rw [pow10_dataDl] at hp
  have P := Lib.tabBelow_of_tabIs (Lib.tabIs_of_head (g := 2) (by kernel_rfl) (by kernel_rfl) Tryd.underlying86 Tryd.underlying74 (by kernel_rfl) (by kernel_rfl) hp)
  obtain ⟨a0, s0, hv0, _⟩ := laid_sentinel hr Tryd.gRange Tryd.gRangeT Tryd.underlying42 Tryd.rowE Tryd.underlying115 Tryd.underlying117 rfl rfl Tryd.underlying9 Tryd.cellsE Tryd.cellsS
  obtain ⟨a1, s1, hv1, _⟩ := laid_sentinel hs Tryd.gSyntax Tryd.gSyntaxT Tryd.underlying42 Tryd.rowE Tryd.underlying115 Tryd.underlying117 rfl rfl Tryd.underlying9 Tryd.cellsE Tryd.cellsS
  obtain ⟨a2, s2, hv2, _⟩ := laid_sentinel hn Tryd.gNoLine Tryd.gNoLineT Tryd.underlying42 Tryd.rowE Tryd.underlying115 Tryd.underlying117 rfl rfl Tryd.underlying9 Tryd.cellsE Tryd.cellsS
  have hc : W.cell? ⟨1, 0, none⟩ = some (NL a2) := by simpa using World.var?_cell Tryd.gNoLine hv2 0
  refine ⟨a2, Nat.le_refl _, P, ?_, wds_of_head hw, World.block_lt_of_cell? _ _ hc, hc⟩
  intro w' hb
  exact ⟨⟨_, _, Joins.var_stays Tryd.gSyntax hv1 hb (Nat.le_refl _)⟩, ⟨_, _, Joins.var_stays Tryd.gRange hv0 hb (Nat.le_refl _)⟩⟩

/-- The door's own heap meets the condition. -/
theorem door_metDp (os : Os) (args : Array Value) : laidMetH Tryd.prog laidDp ((World.doorLaid Tryd.prog 86 os).forCall (fun _ _ => 0) ⟨#[], args, []⟩).memory :=
  laidMetH_of_parts3 (fuel := 8) (laidMet_of_run' 8 (by kernel_rfl) (by kernel_rfl)) (by kernel_rfl) (by kernel_rfl)
end Go.Proofs.YtkoiccocgejmcaaDoor
