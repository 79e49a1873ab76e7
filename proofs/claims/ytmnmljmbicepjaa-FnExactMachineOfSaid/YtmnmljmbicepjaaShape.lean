/-
  Contracts of impl's shapeOf, nameFits, partFits, nodeFits and PoolOk: when a node and a pool are right.
-/
import Derived.Test.YtmnmljmbicepjaaName
import Derived.Laws.CopyOwn
import Derived.Laws.ResultCell
namespace Go.Proofs.Ytmnmljmbicepjaa
open Go.RowKit

/-- A struct in a block of its own and one value more, as results. -/
theorem results_row_tmp {P : Program} {fn : Func} {p u : Tmp} {ty : TypeId} (h : fn.results = #[.cell p ty, .tmp u]) (tmps : Array Value) (w : World) (g : Nat) (t : TypeId) (cs : Array Value) (fr : Nat × Nat) (d : TypeDesc)
    (hp : tmps.getD p undef = .pointer (some ⟨g, 0, none⟩)) (hg : w.heap[g]? = some (.cells cs t fr))
    (hu : P.underlying ty = some d) (hd : (match d with | .struct _ | .array _ _ => true | _ => false) = true) (hi : (P.info? ty).map (·.size) = some cs.size) :
    (results fn tmps).run P w = .ok (.tuple #[.agg cs, tmps.getD u undef]) w := by
  rw [results_cell_tmp h, hp]
  simp [asAddr, run_loadVar_row w g t ty cs fr d hg hu hd hi]

theorem Try.sizeShape : (Try.prog.info? 114).map (·.size) = some 5 := by kernel_rfl

/-- What shapeOf tells of a kind. -/
def shapeV (k : Int) : Value :=
  if 1 ≤ k ∧ k ≤ 9 then .tuple #[.agg #[.int .i64 (lo k), .int .i64 (hi k), .bool (hasS k), .bool (hasA k), .bool (hasB k)], .bool true]
  else .tuple #[.agg #[.int .i64 0, .int .i64 0, .bool false, .bool false, .bool false], .bool false]

set_option maxHeartbeats 1600000 in
theorem shapeof_any (k : Int) (w : World) : Calls Try.prog 74 #[.int .i64 k] w fun e w' => e = .returned (shapeV k) ∧ Below w.heap.size w w' := by
  go_enter Try.func74, Try.ntmps74
  go_wp2
  all_goals refine bodyPost_ret (results_row_tmp rfl _ _ w.heap.size 114 _ (0, 0) _ rfl (heap_alloc_new _ _) Try.underlying114 rfl Try.sizeShape) rfl ⟨?_, (Below.refl _ _).alloc (Nat.le_refl _) _⟩
  all_goals simp only [beq_iff_eq, beq_eq_false_iff_ne] at *
  all_goals (try subst k)
  all_goals first | rfl | (rw [shapeV, if_neg (by omega)]; rfl)

set_option maxHeartbeats 400000 in
theorem namefits_any (s : ByteArray) (b : Bool) (w : World) (hs : s.size ≤ maxLen) : Calls Try.prog 75 #[.string s, .bool b] w fun e w' => e = .returned (.bool (nameFB s b)) ∧ w' = w := by
  cases b with
  | false =>
    go_enter Try.func75, Try.ntmps75
    go_wp2
    all_goals go_ret
    all_goals simp [nameFB]
  | true =>
    go_enter Try.func75, Try.ntmps75
    go_wp2_with fail
    refine (iname_any s _ hs).mono ?_
    rintro e w1 ⟨rfl, rfl⟩
    go_wp2
    go_ret
    simp [nameFB]

set_option maxHeartbeats 400000 in
theorem partfits_any (p : Int) (b : Bool) (n : Int) (w : World) : Calls Try.prog 76 #[.int .i64 p, .bool b, .int .i64 n] w fun e w' => e = .returned (.bool (partB p b n)) ∧ w' = w := by
  cases b with
  | false =>
    go_enter Try.func76, Try.ntmps76
    go_wp2
    all_goals go_ret
    all_goals simp [partB]
  | true =>
    go_enter Try.func76, Try.ntmps76
    go_wp2
    all_goals go_ret
    all_goals (refine ⟨retB ?_, rfl⟩; rw [Bool.eq_iff_iff]; simp [partB, *]; try omega)

end Go.Proofs.Ytmnmljmbicepjaa
