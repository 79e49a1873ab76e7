/-
  Contract of impl's Keep. No condition but that the roots are no more than a row bears.
-/
import Derived.Test.YtbdgdeoecnhcdaaMv2
namespace Go.Proofs.Ytbdgdeoecnhcdaa
open Go.RowKit

/-- What Keep leaves, and where the roots are then. -/
def keepL (xs : List Nd) (rs : List Int) : List Nd := if poolB xs && allI xs rs then mvN 0 xs rs else []
def keepR (xs : List Nd) (rs : List Int) : List Int := if poolB xs && allI xs rs then mvR 0 xs rs rs else []
theorem keepL_len (xs : List Nd) (rs : List Int) : (keepL xs rs).length ≤ xs.length := by
  unfold keepL
  split
  · exact mvN_len 0 xs rs
  · simp
theorem keepR_len (xs : List Nd) (rs : List Int) : (keepR xs rs).length ≤ rs.length := by
  unfold keepR
  split
  · simp [mvR]
  · simp

theorem none_pair {w w2 : World} {B : Nat} (hy : w2.heap[B]? = some (.cells #[.slice none 0 0] 26 (0, 0))) (hB : Below w.heap.size w w2) (h1 : w.heap.size ≤ B) :
    ((w2.setCell ⟨B, 0, none⟩ (.slice none 0 0)).alloc (Obj.cells #[] 3)).heap[B]? = some (.cells #[.slice none 0 0] 26 (0, 0)) ∧ ((w2.setCell ⟨B, 0, none⟩ (.slice none 0 0)).alloc (Obj.cells #[] 3)).ownsRow w.heap.size 33 5 (.slice none 0 0) 0 [] ∧ ((w2.setCell ⟨B, 0, none⟩ (.slice none 0 0)).alloc (Obj.cells #[] 3)).ownsRow w.heap.size 3 1 (.slice (some ⟨w2.heap.size, 0, none⟩) 0 0) 0 [] ∧ Below w.heap.size w ((w2.setCell ⟨B, 0, none⟩ (.slice none 0 0)).alloc (Obj.cells #[] 3)) := by
  have hs : (w2.setCell ⟨B, 0, none⟩ (.slice none 0 0)).heap.size = w2.heap.size := by simp [World.setCell]
  have hB' := hB.setCell (p := ⟨B, 0, none⟩) h1 (.slice none 0 0)
  have h0 := own_none0 (w2.setCell ⟨B, 0, none⟩ (.slice none 0 0)) 3 1 w.heap.size hB'.size
  rw [hs] at h0
  have hy' := heap_setCell_same w2 B 0 _ _ (.slice none 0 0) hy
  exact ⟨(Below.heap_alloc _ _ _ (Array.getElem?_eq_some_iff.1 hy').1).trans hy', World.ownsRow_nil _ _ _ _, h0, hB'.alloc hB'.size _⟩

set_option maxRecDepth 100000 in
set_option maxHeartbeats 1600000 in
theorem ikeep_any (v vl : Value) (xs : List Nd) (rs : List Int) (w : World) (R : NRow w v xs) (L : IRow w vl rs) (hrs : rs.length ≤ 1048576) :
    Calls Try.prog 21 #[.agg #[v], vl] w fun e w' => ∃ v1 v2, e = .returned (.tuple #[.agg #[v1], v2]) ∧ w'.ownsRow w.heap.size 33 5 v1 (keepL xs rs).length (ncs (keepL xs rs)) ∧ w'.ownsRow w.heap.size 3 1 v2 (keepR xs rs).length (iv (keepR xs rs)) ∧ Below w.heap.size w w' := by
  have R' := R
  obtain ⟨ao, cap, rfl, _⟩ := R'
  go_enter Try.func21, Try.ntmps21
  go_wp2_with fail
  have hB0 : Below w.heap.size w ((w.alloc (Obj.cells #[.slice ao xs.length cap] 26)).alloc (Obj.cells #[.slice none 0 0] 26)) := ((Below.refl _ _).alloc (Nat.le_refl _) _).alloc (by simp) _
  refine (ipool_any _ xs _ (R.below hB0)).mono ?_
  rintro e w1 ⟨rfl, hb1⟩
  have hx1 : w1.heap[w.heap.size]? = some (.cells #[.slice ao xs.length cap] 26 (0, 0)) := (hb1.block _ (by simp; omega)).trans (heap_alloc2_old _ _ _)
  have hy1 : w1.heap[w.heap.size + 1]? = some (.cells #[.slice none 0 0] 26 (0, 0)) := (hb1.block _ (by simp)).trans (heap_alloc2_new _ _ _)
  have hB1 := hB0.trans (hb1.mono hB0.size)
  have hsz1 := (Array.getElem?_eq_some_iff.1 hy1).1
  clear hB0 hb1
  have hc1 : w1.cell? ⟨w.heap.size, 0, none⟩ = some (.slice ao xs.length cap) := by rw [cell_of_row w1 _ 0 _ _ _ hx1]; rfl
  have hd1 : w1.cell? ⟨w.heap.size + 1, 0, none⟩ = some (.slice none 0 0) := by rw [cell_of_row w1 _ 0 _ _ _ hy1]; rfl
  have hf1 : w1.frozen? ⟨w.heap.size + 1, 0, none⟩ = false := frozen_of_row w1 _ 0 _ _ hy1
  by_cases hp : poolB xs = true
  · rw [hp]
    go_wp2_with fail
    refine (hasall_any _ _ xs rs _ (R.below hB1) (L.below hB1)).mono ?_
    rintro e w2 ⟨rfl, hb2⟩
    have hx2 := (hb2.block _ (by omega)).trans hx1
    have hy2 := (hb2.block _ hsz1).trans hy1
    have hB2 := hB1.trans (hb2.mono hB1.size)
    have hsz2 := (Array.getElem?_eq_some_iff.1 hy2).1
    have hc2 : w2.cell? ⟨w.heap.size, 0, none⟩ = some (.slice ao xs.length cap) := by rw [cell_of_row w2 _ 0 _ _ _ hx2]; rfl
    have hd2 : w2.cell? ⟨w.heap.size + 1, 0, none⟩ = some (.slice none 0 0) := by rw [cell_of_row w2 _ 0 _ _ _ hy2]; rfl
    have hf2 : w2.frozen? ⟨w.heap.size + 1, 0, none⟩ = false := frozen_of_row w2 _ 0 _ _ hy2
    clear hB1 hb2 hx1 hc1 hsz1 hd1 hf1 hy1
    cases hal : allI xs rs with
    | true =>
      have HL : Hid (keepL xs rs = mvN 0 xs rs) := by unfold Hid keepL; rw [hp, hal]; rfl
      have HR : Hid (keepR xs rs = mvR 0 xs rs rs) := by unfold Hid keepR; rw [hp, hal]; rfl
      have hlr : (mvR 0 xs rs rs).length = rs.length := by simp [mvR]
      go_wp2_with fail
      refine (moved_any ao cap vl xs rs 0 _ (R.below hB2) (L.below hB2) hp hal (by omega) hrs).mono ?_
      rintro e w3 ⟨v1, v2, rfl, ho1, ho2, hb3⟩
      obtain ⟨a1, q1, rfl⟩ := own_form ho1
      obtain ⟨a2, q2, rfl⟩ := own_form ho2
      have hy3 := (hb3.block _ hsz2).trans hy2
      have hd3 : w3.cell? ⟨w.heap.size + 1, 0, none⟩ = some (.slice none 0 0) := by rw [cell_of_row w3 _ 0 _ _ _ hy3]; rfl
      have hf3 : w3.frozen? ⟨w.heap.size + 1, 0, none⟩ = false := frozen_of_row w3 _ 0 _ _ hy3
      have hB3 := hB2.trans (hb3.mono hB2.size)
      obtain ⟨p1, p2, p3⟩ := put_pool hy3 ho1 hB3 hsz2 (by omega)
      have p4 := own_mono (B' := w.heap.size) (ownsRow_setCell_below ho2 (a := ⟨w.heap.size + 1, 0, none⟩) hsz2 (.slice a1 (mvN 0 xs rs).length q1)) (by omega)
      go_wp2
      refine bodyPost_ret (results_row_tmp rfl _ _ (w.heap.size + 1) 26 _ (0, 0) _ rfl p1 Try.underlying26 rfl Try.sizeP) rfl ⟨_, _, rfl, ?_, ?_, p3⟩
      · rw [HL.out]; exact p2
      · rw [HR.out, hlr]; exact p4
    | false =>
      have HL : Hid (keepL xs rs = []) := by unfold Hid keepL; rw [hp, hal]; rfl
      have HR : Hid (keepR xs rs = []) := by unfold Hid keepR; rw [hp, hal]; rfl
      obtain ⟨p1, p2, p4, p3⟩ := none_pair hy2 hB2 (by omega)
      go_wp2
      refine bodyPost_ret (results_row_tmp rfl _ _ (w.heap.size + 1) 26 _ (0, 0) _ rfl p1 Try.underlying26 rfl Try.sizeP) rfl ⟨_, _, rfl, ?_, ?_, p3⟩
      · rw [HL.out]; exact p2
      · rw [HR.out]; exact p4
  · have hp' : poolB xs = false := by simpa using hp
    have HL : Hid (keepL xs rs = []) := by unfold Hid keepL; rw [hp']; rfl
    have HR : Hid (keepR xs rs = []) := by unfold Hid keepR; rw [hp']; rfl
    rw [hp']
    obtain ⟨p1, p2, p4, p3⟩ := none_pair hy1 hB1 (by omega)
    go_wp2
    refine bodyPost_ret (results_row_tmp rfl _ _ (w.heap.size + 1) 26 _ (0, 0) _ rfl p1 Try.underlying26 rfl Try.sizeP) rfl ⟨_, _, rfl, ?_, ?_, p3⟩
    · rw [HL.out]; exact p2
    · rw [HR.out]; exact p4
end Go.Proofs.Ytbdgdeoecnhcdaa
