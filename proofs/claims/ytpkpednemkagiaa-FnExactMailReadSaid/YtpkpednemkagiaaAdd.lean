/-
  Contract of (*impl.numForm).add: one byte more in the form.
-/
import Derived.Test.YtpkpednemkagiaaMath
import Derived.Test.YtpkpednemkagiaaGrow
import Derived.Laws.CopyOwn
namespace Go.Proofs.Ytpkpednemkagiaa
open Go.RowKit

/-- The cells of a form that holds the bytes xs. -/
def formC (xs : List Int) : Array Value := (bv (xs ++ List.replicate (9 - xs.length) 0) ++ [Value.int .i64 xs.length]).toArray
theorem formC_size (xs : List Int) (h : xs.length ≤ 9) : (formC xs).size = 10 := by simp [formC, bv]; omega
theorem formC_get (xs : List Int) (h : xs.length ≤ 9) (i : Nat) (hi : i < 9) : (formC xs)[i]? = some (.int .u8 ((xs ++ List.replicate (9 - xs.length) 0).getD i 0)) := by
  have hl : (xs ++ List.replicate (9 - xs.length) 0).length = 9 := by simp; omega
  unfold formC
  rw [List.getElem?_toArray, List.getElem?_append_left (by rw [bv_length, hl]; exact hi)]
  exact bv_get _ i (by rw [hl]; exact hi)
theorem formC_count (xs : List Int) (h : xs.length ≤ 9) : (formC xs)[9]? = some (.int .i64 xs.length) := by
  have hl : (xs ++ List.replicate (9 - xs.length) 0).length = 9 := by simp; omega
  unfold formC
  rw [List.getElem?_toArray, List.getElem?_append_right (by rw [bv_length, hl]; exact Nat.le_refl _)]
  simp [bv_length, hl]
theorem formC_add (xs : List Int) (b : Int) (h : xs.length < 9) : ((formC xs).setIfInBounds xs.length (.int .u8 b)).setIfInBounds 9 (.int .i64 ((xs.length : Int) + 1)) = formC (xs ++ [b]) := by
  have e : List.replicate (9 - xs.length) (0 : Int) = 0 :: List.replicate (9 - (xs ++ [b]).length) 0 := by
    rw [show 9 - xs.length = (9 - (xs ++ [b]).length) + 1 by simp; omega, List.replicate_succ]
  apply Array.ext'
  simp only [formC, Array.toList_setIfInBounds, List.toList_toArray, bv, List.map_append]
  rw [e]
  simp only [List.map_cons, List.append_assoc]
  rw [List.set_append_right _ _ (by simp)]
  simp only [List.length_map, Nat.sub_self, List.cons_append, List.set_cons_zero]
  rw [List.set_append_right _ _ (by simp; omega)]
  rw [show 9 - (List.map (Value.int IntKind.u8) xs).length = 9 - (xs.length + 1) + 1 by simp; omega, List.set_cons_succ]
  rw [List.set_append_right _ _ (by simp)]
  simp

set_option maxRecDepth 100000 in
set_option maxHeartbeats 400000 in
theorem add_any (B : Nat) (b : Int) (xs : List Int) (w : World) (hx : xs.length < 9) (hh : w.heap[B]? = some (.cells (formC xs) 65 (0, 0))) :
    Calls Try.prog 34 #[.pointer (some ⟨B, 0, none⟩), .int .u8 b] w fun e w' => e = .returned (.tuple #[]) ∧ w'.heap[B]? = some (.cells (formC (xs ++ [b])) 65 (0, 0)) ∧ Below B w w' := by
  have h1 : ∀ i, w.cell? ⟨B, i, none⟩ = (formC xs)[i]? := fun i => cell_of_row w B i _ 65 (0, 0) hh
  have h2 : ∀ i, w.frozen? ⟨B, i, none⟩ = false := fun i => frozen_of_row w B i _ 65 hh
  have c9 : w.cell? ⟨B, 9, none⟩ = some (.int .i64 xs.length) := by rw [h1, formC_count xs (by omega)]
  have f9 := h2 9
  have ck := (h1 xs.length).trans (formC_get xs (by omega) xs.length hx)
  have fk := h2 xs.length
  clear h1 h2
  go_enter Try.func34, Try.ntmps34
  go_wp2
  go_region
  all_goals go_wp2
  all_goals go_end0
  refine ⟨rfl, ?_, (((Below.refl B w).setCell (p := ⟨B, xs.length, none⟩) (Nat.le_refl B) _).setCell (p := ⟨B, 9, none⟩) (Nat.le_refl B) _).drew⟩
  rw [← formC_add xs b hx]
  exact heap_setCell_same _ B 9 _ 65 _ (heap_setCell_same w B xs.length _ 65 _ hh)

end Go.Proofs.Ytpkpednemkagiaa
