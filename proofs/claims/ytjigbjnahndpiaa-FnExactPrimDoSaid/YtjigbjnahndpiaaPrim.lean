/-
  The contracts of what is built in: the names, their numbers, and how many values each takes. No condition.
-/
import Derived.Test.YtjigbjnahndpiaaGrow
import Derived.Test.YtjigbjnahndpiaaNd
namespace Go.Proofs.Ytjigbjnahndpiaa
open Go.RowKit

/-- The names in the order of their numbers, and how many values each takes. -/
def prims : List (ByteArray × Int) := [(⟨#[43]⟩, 2), (⟨#[45]⟩, 2), (⟨#[42]⟩, 2), (⟨#[60]⟩, 2), (⟨#[61]⟩, 2), (⟨#[99, 111, 110, 115]⟩, 2), (⟨#[99, 97, 114]⟩, 1), (⟨#[99, 100, 114]⟩, 1), (⟨#[110, 117, 108, 108, 63]⟩, 1), (⟨#[112, 97, 105, 114, 63]⟩, 1), (⟨#[101, 113, 63]⟩, 2), (⟨#[110, 111, 116]⟩, 1), (⟨#[112, 114, 105, 110, 116]⟩, 1), (⟨#[115, 101, 108, 102]⟩, 0), (⟨#[115, 101, 110, 100]⟩, 2), (⟨#[114, 101, 99, 118]⟩, 0), (⟨#[115, 112, 97, 119, 110]⟩, 1), (⟨#[99, 97, 108, 108, 99, 99]⟩, 1), (⟨#[103, 111]⟩, 1)]
/-- The cells of the table. -/
def primV : Array Value := #[.string ⟨#[43]⟩, .int .i64 1, .int .i64 2, .string ⟨#[45]⟩, .int .i64 2, .int .i64 2, .string ⟨#[42]⟩, .int .i64 3, .int .i64 2, .string ⟨#[60]⟩, .int .i64 4, .int .i64 2, .string ⟨#[61]⟩, .int .i64 5, .int .i64 2, .string ⟨#[99, 111, 110, 115]⟩, .int .i64 6, .int .i64 2, .string ⟨#[99, 97, 114]⟩, .int .i64 7, .int .i64 1, .string ⟨#[99, 100, 114]⟩, .int .i64 8, .int .i64 1, .string ⟨#[110, 117, 108, 108, 63]⟩, .int .i64 9, .int .i64 1, .string ⟨#[112, 97, 105, 114, 63]⟩, .int .i64 10, .int .i64 1, .string ⟨#[101, 113, 63]⟩, .int .i64 11, .int .i64 2, .string ⟨#[110, 111, 116]⟩, .int .i64 12, .int .i64 1, .string ⟨#[112, 114, 105, 110, 116]⟩, .int .i64 13, .int .i64 1, .string ⟨#[115, 101, 108, 102]⟩, .int .i64 14, .int .i64 0, .string ⟨#[115, 101, 110, 100]⟩, .int .i64 15, .int .i64 2, .string ⟨#[114, 101, 99, 118]⟩, .int .i64 16, .int .i64 0, .string ⟨#[115, 112, 97, 119, 110]⟩, .int .i64 17, .int .i64 1, .string ⟨#[99, 97, 108, 108, 99, 99]⟩, .int .i64 18, .int .i64 1, .string ⟨#[103, 111]⟩, .int .i64 19, .int .i64 1]
def pnames : List ByteArray := [⟨#[]⟩, ⟨#[43]⟩, ⟨#[45]⟩, ⟨#[42]⟩, ⟨#[60]⟩, ⟨#[61]⟩, ⟨#[99, 111, 110, 115]⟩, ⟨#[99, 97, 114]⟩, ⟨#[99, 100, 114]⟩, ⟨#[110, 117, 108, 108, 63]⟩, ⟨#[112, 97, 105, 114, 63]⟩, ⟨#[101, 113, 63]⟩, ⟨#[110, 111, 116]⟩, ⟨#[112, 114, 105, 110, 116]⟩, ⟨#[115, 101, 108, 102]⟩, ⟨#[115, 101, 110, 100]⟩, ⟨#[114, 101, 99, 118]⟩, ⟨#[115, 112, 97, 119, 110]⟩, ⟨#[99, 97, 108, 108, 99, 99]⟩, ⟨#[103, 111]⟩]
def ptakes : List Int := [0, 2, 2, 2, 2, 2, 2, 1, 1, 1, 1, 2, 1, 1, 0, 2, 0, 1, 1, 1]
theorem primV_one : primV.all (·.oneCell') = true := by simp [primV, Value.oneCell']
theorem Try.sizePV : (Try.prog.info? 73).map (·.size) = some 57 := by kernel_rfl

set_option maxRecDepth 100000 in
set_option maxHeartbeats 3200000 in
theorem builtin_any (w : World) : Calls Try.prog 40 #[] w fun e w' => e = .returned (.agg primV) ∧ Below w.heap.size w w' := by
  go_enter Try.func40, Try.ntmps40
  go_wp2_with (refine wpList_store_own rfl 73 _ _ rfl w.heap.size primV rfl rfl 73 _ (heap_alloc_new _ _) Try.sizePV rfl primV_one ?_)
  intro w2 hh2 hb2 hs2
  have hB2 : Below w.heap.size w w2 := ((Below.refl _ _).alloc (Nat.le_refl _) _).trans hb2
  go_wp2
  exact bodyPost_ret (results_cell_row rfl _ _ w.heap.size 73 _ (0, 0) _ rfl hh2 Try.underlying73 rfl Try.sizePV) rfl ⟨rfl, hB2⟩
end Go.Proofs.Ytjigbjnahndpiaa
