/-
  A node as a key of a map. Nothing of the program; no condition.
-/
import Derived.Test.YtmgjefkelohocaaDoorSizeI
import Derived.Maps.OwnSet
import Derived.DeepKeys4
namespace Go.Proofs.YtmgjefkelohocaaDoor
open Go.RowKit Go.Maps

theorem laidOut_true3 : laidOutB Tryd.prog = true := by kernel_rfl
theorem Tryd.keyed : Keyed Tryd.prog 55 := Keyed.of_law (deep_law_laid laidOut_true3 (m := 8) (by decide) (of_decide_eq_true (by kernel_rfl)) (by kernel_rfl) (by kernel_rfl))

theorem key_some (x : Nd) (hk : (Lit.int .i64 x.k).wf = true) (hn : (Lit.int .i64 x.n).wf = true) (hs : x.s.size ≤ maxLen) (ha : (Lit.int .i64 x.a).wf = true) (hb : (Lit.int .i64 x.b).wf = true) :
    ∃ l, keyOf Tryd.prog 55 (.agg #[.int .i64 x.k, .int .i64 x.n, .string x.s, .int .i64 x.a, .int .i64 x.b]) = some l := by
  have h1 : Tryd.prog.keyType 55 = true := by kernel_rfl
  have h0 : 0 < Tryd.prog.types.size := of_decide_eq_true (by kernel_rfl)
  have i5 : Tryd.prog.cellsOf 55 = 5 := by kernel_rfl
  have i1 : Tryd.prog.cellsOf 3 = 1 := by kernel_rfl
  have i2 : Tryd.prog.cellsOf 9 = 1 := by kernel_rfl
  obtain ⟨d, hd⟩ : ∃ d, Tryd.prog.types.size = d + 1 := ⟨Tryd.prog.types.size - 1, by omega⟩
  have hf : (Value.agg #[.int .i64 x.k, .int .i64 x.n, .string x.s, .int .i64 x.a, .int .i64 x.b]).formed Tryd.prog 55 = true := by
    simp [Value.formed, Tryd.underlying55, i5]
  have hl : ∃ ls, Tryd.prog.keyLits (Tryd.prog.types.size + 1) 55 (Value.agg #[.int .i64 x.k, .int .i64 x.n, .string x.s, .int .i64 x.a, .int .i64 x.b]).cells.toList = some ls := by
    rw [hd]
    simp [Program.keyLits, Tryd.underlying55, Tryd.underlying3, Tryd.underlying9, i5, i1, i2, hk, hn, hs, ha, hb, Value.cells]
  obtain ⟨ls, hl⟩ := hl
  refine ⟨.string (keyBytes ls), ?_⟩
  unfold keyOf
  rw [Tryd.underlying55]
  simp only [h1, hf, Bool.and_self, if_true, hl, Option.map_some]

end Go.Proofs.YtmgjefkelohocaaDoor
