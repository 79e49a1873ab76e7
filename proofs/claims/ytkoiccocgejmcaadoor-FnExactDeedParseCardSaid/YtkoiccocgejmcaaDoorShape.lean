/-
  Contracts of impl's shapeOf, nameFits, partFits, nodeFits and PoolOk: when a node and a pool are right.
-/
import Derived.Test.YtkoiccocgejmcaaDoorName
import Derived.Laws.CopyOwn
import Derived.Laws.ResultCell
namespace Go.Proofs.YtkoiccocgejmcaaDoor
open Go.RowKit

/-- A struct in a block of its own and one value more, as results. -/
theorem results_row_tmp {P : Program} {fn : Func} {p u : Tmp} {ty : TypeId} (h : fn.results = #[.cell p ty, .tmp u]) (tmps : Array Value) (w : World) (g : Nat) (t : TypeId) (cs : Array Value) (fr : Nat × Nat) (d : TypeDesc)
    (hp : tmps.getD p undef = .pointer (some ⟨g, 0, none⟩)) (hg : w.heap[g]? = some (.cells cs t fr))
    (hu : P.underlying ty = some d) (hd : (match d with | .struct _ | .array _ _ => true | _ => false) = true) (hi : (P.info? ty).map (·.size) = some cs.size) :
    (results fn tmps).run P w = .ok (.tuple #[.agg cs, tmps.getD u undef]) w := by
  rw [results_cell_tmp h, hp]
  simp [asAddr, run_loadVar_row w g t ty cs fr d hg hu hd hi]

/-- What shapeOf tells of a kind. -/
def shapeV (k : Int) : Value :=
  if 1 ≤ k ∧ k ≤ 9 then .tuple #[.agg #[.int .i64 (lo k), .int .i64 (hi k), .bool (hasS k), .bool (hasA k), .bool (hasB k)], .bool true]
  else .tuple #[.agg #[.int .i64 0, .int .i64 0, .bool false, .bool false, .bool false], .bool false]

end Go.Proofs.YtkoiccocgejmcaaDoor
