/-
  Texts that stood by themselves, laid into one.
-/
import Derived.Test.YtacbhbmjhlgflaaInM
import Derived.Test.YtacbhbmjhlgflaaLPoolOkM
/-
  Contracts of the laws' helpers szCode, toCode, eqCode: a code is three slices, of nodes, of instructions and of definitions. No condition.
-/
namespace Go.Proofs.Ytacbhbmjhlgflaa
open Go.RowKit

theorem NRow.sz {w : World} {v : Value} {xs : List Nd} (R : NRow w v xs) : ∀ x ∈ xs, x.s.size ≤ maxLen := by obtain ⟨_, _, _, _, _, hz, _⟩ := R; exact hz
theorem InRow.sz {w : World} {v : Value} {xs : List In} (R : InRow w v xs) : ∀ x ∈ xs, x.s.size ≤ maxLen := by obtain ⟨_, _, _, _, _, hz, _⟩ := R; exact hz
theorem DfRow.sz {w : World} {v : Value} {xs : List Df} (R : DfRow w v xs) : ∀ x ∈ xs, x.s.size ≤ maxLen := by obtain ⟨_, _, _, _, _, hz, _⟩ := R; exact hz

set_option maxHeartbeats 800000 in
theorem szcode_any (v1 v2 v3 : Value) (ns : List Nd) (is : List In) (ds : List Df) (w : World) (R1 : NRow w v1 ns) (R2 : InRow w v2 is) (R3 : DfRow w v3 ds) :
    Calls Try.prog 5 #[.agg #[v1, v2, v3], .int .i64 1048576] w fun e w' => ∃ r : Int, e = .returned (.int .i64 r) ∧ -1 ≤ r ∧ r ≤ 1048576 ∧ (0 ≤ r → ns.length ≤ 1048576 ∧ is.length ≤ 1048576 ∧ ds.length ≤ 1048576) ∧ Below w.heap.size w w' := by
  obtain ⟨a1, c1, rfl⟩ := R1.small
  obtain ⟨a2, c2, rfl⟩ := R2.small
  obtain ⟨a3, c3, rfl⟩ := R3.small
  go_enter Try.func5, Try.ntmps5
  go_wp2_with fail
  have hB0 : Below w.heap.size w (w.alloc (Obj.cells #[.slice a1 ns.length c1, .slice a2 is.length c2, .slice a3 ds.length c3] 28)) := (Below.refl _ _).alloc (Nat.le_refl _) _
  refine (szpool_any _ ns _ (R1.below hB0)).mono ?_
  rintro e w1 ⟨r1, rfl, h0, h1, h2, hb1⟩
  have hx1 : w1.heap[w.heap.size]? = some (.cells #[.slice a1 ns.length c1, .slice a2 is.length c2, .slice a3 ds.length c3] 28 (0, 0)) := (hb1.block _ (by simp)).trans (heap_alloc_new _ _)
  have hB1 := hB0.trans (hb1.mono hB0.size)
  have hc1 : w1.cell? ⟨w.heap.size, 0 + 1, none⟩ = some (.slice a2 is.length c2) := by rw [cell_of_row w1 _ 1 _ _ _ hx1]; rfl
  have hsz1 := (Array.getElem?_eq_some_iff.1 hx1).1
  clear hB0 hb1
  by_cases hr : r1 < 0
  · have HR : Hid (r1 = -1) := by unfold Hid; omega
    go_wp2
    go_ret
    exact ⟨-1, rfl, by omega, by omega, fun h => by omega, hB1⟩
  · have h2 := h2 (by omega)
    go_wp2_with fail
    refine (szins_any _ is r1 _ (R2.below hB1) (by omega) (by omega)).mono ?_
    rintro e w2 ⟨r2, rfl, k0, k1, k2, hb2⟩
    have hx2 := (hb2.block _ hsz1).trans hx1
    have hB2 := hB1.trans (hb2.mono hB1.size)
    have hc2 : w2.cell? ⟨w.heap.size, 0 + 2, none⟩ = some (.slice a3 ds.length c3) := by rw [cell_of_row w2 _ 2 _ _ _ hx2]; rfl
    clear hc1 hx1 hB1 hb2
    by_cases hr2 : r2 < 0
    · have HR : Hid (r2 = -1) := by unfold Hid; omega
      go_wp2
      go_ret
      exact ⟨-1, rfl, by omega, by omega, fun h => by omega, hB2⟩
    · have k2 := k2 (by omega)
      go_wp2_with fail
      refine (szdfs_any _ ds r2 _ (R3.below hB2) (by omega) (by omega)).mono ?_
      rintro e w3 ⟨r3, rfl, l0, l1, l2, hb3⟩
      have hB3 := hB2.trans (hb3.mono hB2.size)
      clear hc2 hx2 hb3 hB2
      by_cases hr3 : r3 < 0
      · have HR : Hid (r3 = -1) := by unfold Hid; omega
        go_wp2
        go_ret
        exact ⟨-1, rfl, by omega, by omega, fun h => by omega, hB3⟩
      · have l2 := l2 (by omega)
        go_wp2
        go_ret
        exact ⟨r3, rfl, by omega, by omega, fun _ => ⟨h2.1, k2.1, l2.1⟩, hB3⟩

set_option maxHeartbeats 800000 in
theorem eqcode_any (v1 v2 v3 u1 u2 u3 : Value) (ns : List Nd) (is : List In) (ds : List Df) (w : World) (R1 : NRow w v1 ns) (R2 : InRow w v2 is) (R3 : DfRow w v3 ds) (S1 : NRow w u1 ns) (S2 : InRow w u2 is) (S3 : DfRow w u3 ds) :
    Calls Try.prog 12 #[.agg #[v1, v2, v3], .agg #[u1, u2, u3]] w fun e w' => e = .returned (.bool true) ∧ Below w.heap.size w w' := by
  obtain ⟨a1, c1, rfl⟩ := R1.small
  obtain ⟨a2, c2, rfl⟩ := R2.small
  obtain ⟨a3, c3, rfl⟩ := R3.small
  obtain ⟨b1, d1, rfl⟩ := S1.small
  obtain ⟨b2, d2, rfl⟩ := S2.small
  obtain ⟨b3, d3, rfl⟩ := S3.small
  go_enter Try.func12, Try.ntmps12
  go_wp2_with fail
  have hB0 : Below w.heap.size w ((w.alloc (Obj.cells #[.slice a1 ns.length c1, .slice a2 is.length c2, .slice a3 ds.length c3] 41)).alloc (Obj.cells #[.slice b1 ns.length d1, .slice b2 is.length d2, .slice b3 ds.length d3] 41)) := ((Below.refl _ _).alloc (Nat.le_refl _) _).alloc (by simp) _
  refine (eqpool_any _ _ ns _ (R1.below hB0) (S1.below hB0)).mono ?_
  rintro e w1 ⟨rfl, hb1⟩
  have hx1 : w1.heap[w.heap.size]? = some (.cells #[.slice a1 ns.length c1, .slice a2 is.length c2, .slice a3 ds.length c3] 41 (0, 0)) := (hb1.block _ (by simp; omega)).trans ((heap_alloc_old _ _ (by simp)).trans (heap_alloc_new _ _))
  have hy1 : w1.heap[w.heap.size + 1]? = some (.cells #[.slice b1 ns.length d1, .slice b2 is.length d2, .slice b3 ds.length d3] 41 (0, 0)) := (hb1.block _ (by simp)).trans (heap_alloc2_new _ _ _)
  have hB1 := hB0.trans (hb1.mono hB0.size)
  have hc1 : w1.cell? ⟨w.heap.size, 0 + 1, none⟩ = some (.slice a2 is.length c2) := by rw [cell_of_row w1 _ 1 _ _ _ hx1]; rfl
  have hd1 : w1.cell? ⟨w.heap.size + 1, 0 + 1, none⟩ = some (.slice b2 is.length d2) := by rw [cell_of_row w1 _ 1 _ _ _ hy1]; rfl
  have hsx := (Array.getElem?_eq_some_iff.1 hx1).1
  have hsy := (Array.getElem?_eq_some_iff.1 hy1).1
  clear hB0 hb1
  go_wp2_with fail
  refine (eqins_any _ _ is _ (R2.below hB1) (S2.below hB1)).mono ?_
  rintro e w2 ⟨rfl, hb2⟩
  have hx2 := (hb2.block _ hsx).trans hx1
  have hy2 := (hb2.block _ hsy).trans hy1
  have hB2 := hB1.trans (hb2.mono hB1.size)
  have hc2 : w2.cell? ⟨w.heap.size, 0 + 2, none⟩ = some (.slice a3 ds.length c3) := by rw [cell_of_row w2 _ 2 _ _ _ hx2]; rfl
  have hd2 : w2.cell? ⟨w.heap.size + 1, 0 + 2, none⟩ = some (.slice b3 ds.length d3) := by rw [cell_of_row w2 _ 2 _ _ _ hy2]; rfl
  clear hc1 hd1 hx1 hy1 hB1 hb2
  go_wp2_with fail
  refine (eqdfs_any _ _ ds _ (R3.below hB2) (S3.below hB2)).mono ?_
  rintro e w3 ⟨rfl, hb3⟩
  have hB3 := hB2.trans (hb3.mono hB2.size)
  clear hc2 hd2 hx2 hy2 hb3 hB2
  go_wp2
  go_ret
  exact ⟨rfl, hB3⟩

theorem Try.sizeC : (Try.prog.info? 41).map (·.size) = some 3 := by kernel_rfl

set_option maxHeartbeats 1600000 in
theorem tocode_own (v1 v2 v3 : Value) (ns : List Nd) (is : List In) (ds : List Df) (w : World) (R1 : NRow w v1 ns) (R2 : InRow w v2 is) (R3 : DfRow w v3 ds) (h1 : ns.length ≤ 2097152) (h2 : is.length ≤ 2097152) (h3 : ds.length ≤ 2097152) :
    Calls Try.prog 8 #[.agg #[v1, v2, v3]] w fun e w' => ∃ u1 u2 u3, e = .returned (.agg #[u1, u2, u3]) ∧ w'.ownsRow w.heap.size 63 5 u1 ns.length (ncs ns) ∧ w'.ownsRow w.heap.size 115 4 u2 is.length (incs is) ∧ w'.ownsRow w.heap.size 60 3 u3 ds.length (dfcs ds) ∧ Below w.heap.size w w' := by
  have hz1 := R1.sz
  have hz2 := R2.sz
  have hz3 := R3.sz
  obtain ⟨a1, c1, rfl⟩ := R1.small
  obtain ⟨a2, c2, rfl⟩ := R2.small
  obtain ⟨a3, c3, rfl⟩ := R3.small
  go_enter Try.func8, Try.ntmps8
  go_wp2_with fail
  have hB0 : Below w.heap.size w (((w.alloc (Obj.cells #[.slice a1 ns.length c1, .slice a2 is.length c2, .slice a3 ds.length c3] 28)).alloc (Obj.cells #[.slice none 0 0, .slice none 0 0, .slice none 0 0] 41)).alloc (Obj.cells #[.slice none 0 0, .slice none 0 0, .slice none 0 0] 41)) :=
    (((Below.refl _ _).alloc (Nat.le_refl _) _).alloc (by simp) _).alloc (by simp; omega) _
  refine (topool_any _ ns _ (R1.below hB0) h1).mono ?_
  rintro e w1 ⟨u1, rfl, ho1, hb1⟩
  obtain ⟨b1, d1, rfl⟩ := own_form ho1
  have S1 := NRow.of_own ho1 (by omega) hz1
  have hx1 : w1.heap[w.heap.size]? = some (.cells #[.slice a1 ns.length c1, .slice a2 is.length c2, .slice a3 ds.length c3] 28 (0, 0)) := (hb1.block _ (by simp; omega)).trans ((heap_alloc_old _ _ (by simp; omega)).trans ((heap_alloc_old _ _ (by simp)).trans (heap_alloc_new _ _)))
  have hy1 : w1.heap[w.heap.size + 1]? = some (.cells #[.slice none 0 0, .slice none 0 0, .slice none 0 0] 41 (0, 0)) := (hb1.block _ (by simp)).trans ((heap_alloc_old _ _ (by simp)).trans (heap_alloc2_new _ _ _))
  have hv1 : w1.heap[w.heap.size + 1 + 1]? = some (.cells #[.slice none 0 0, .slice none 0 0, .slice none 0 0] 41 (0, 0)) := (hb1.block _ (by simp)).trans (heap_alloc3_new _ _ _ _)
  have hB1 := hB0.trans (hb1.mono hB0.size)
  have ho1' : w1.ownsRow (w.heap.size + 3) 63 5 (.slice b1 ns.length d1) ns.length (ncs ns) := by simpa using ho1
  have cv1 : w1.cell? ⟨w.heap.size + 1 + 1, 0, none⟩ = some (.slice none 0 0) := by rw [cell_of_row w1 _ 0 _ _ _ hv1]; rfl
  have fv1 : w1.frozen? ⟨w.heap.size + 1 + 1, 0, none⟩ = false := frozen_of_row w1 _ 0 _ _ hv1
  have cx1 : w1.cell? ⟨w.heap.size, 0 + 1, none⟩ = some (.slice a2 is.length c2) := by rw [cell_of_row w1 _ 1 _ _ _ hx1]; rfl
  have hsv := (Array.getElem?_eq_some_iff.1 hv1).1
  clear hB0 hb1 ho1
  go_wp2_with fail
  have hB1' : Below w.heap.size w (w1.setCell ⟨w.heap.size + 1 + 1, 0, none⟩ (.slice b1 ns.length d1)) := hB1.setCell (p := ⟨w.heap.size + 1 + 1, 0, none⟩) (by simp; omega) _
  refine (toins_any _ is _ (R2.below hB1') h2).mono ?_
  rintro e w2 ⟨u2, rfl, ho2, hb2⟩
  obtain ⟨b2, d2, rfl⟩ := own_form ho2
  have ho1'' := own_below (ownsRow_setCell_below ho1' (a := ⟨w.heap.size + 1 + 1, 0, none⟩) (by simp) (.slice b1 ns.length d1)) hb2
  have hx2 : w2.heap[w.heap.size]? = some (.cells #[.slice a1 ns.length c1, .slice a2 is.length c2, .slice a3 ds.length c3] 28 (0, 0)) := (hb2.block _ (by simp; omega)).trans ((heap_setCell_other w1 ⟨w.heap.size + 1 + 1, 0, none⟩ w.heap.size _ (by simp; omega)).trans hx1)
  have hy2 : w2.heap[w.heap.size + 1]? = some (.cells #[.slice none 0 0, .slice none 0 0, .slice none 0 0] 41 (0, 0)) := (hb2.block _ (by simp; omega)).trans ((heap_setCell_other w1 ⟨w.heap.size + 1 + 1, 0, none⟩ (w.heap.size + 1) _ (by simp)).trans hy1)
  have hv2 : w2.heap[w.heap.size + 1 + 1]? = some (.cells #[.slice b1 ns.length d1, .slice none 0 0, .slice none 0 0] 41 (0, 0)) := (hb2.block _ (by simp; omega)).trans (heap_setCell_same w1 (w.heap.size + 1 + 1) 0 _ _ (.slice b1 ns.length d1) hv1)
  have hB2 := hB1'.trans (hb2.mono hB1'.size)
  have ho2' : w2.ownsRow (w.heap.size + 3) 115 4 (.slice b2 is.length d2) is.length (incs is) := own_mono ho2 (by simp; omega)
  have cv2 : w2.cell? ⟨w.heap.size + 1 + 1, 0 + 1, none⟩ = some (.slice none 0 0) := by rw [cell_of_row w2 _ 1 _ _ _ hv2]; rfl
  have fv2 : w2.frozen? ⟨w.heap.size + 1 + 1, 0 + 1, none⟩ = false := frozen_of_row w2 _ 1 _ _ hv2
  have cx2 : w2.cell? ⟨w.heap.size, 0 + 2, none⟩ = some (.slice a3 ds.length c3) := by rw [cell_of_row w2 _ 2 _ _ _ hx2]; rfl
  have hsv2 := (Array.getElem?_eq_some_iff.1 hv2).1
  clear hB1 hB1' hb2 ho1' ho2 hx1 hy1 hv1 cv1 fv1 cx1 hsv S1
  go_wp2_with fail
  have hB2' : Below w.heap.size w (w2.setCell ⟨w.heap.size + 1 + 1, 1, none⟩ (.slice b2 is.length d2)) := hB2.setCell (p := ⟨w.heap.size + 1 + 1, 1, none⟩) (by simp; omega) _
  refine (todfs_any _ ds _ (R3.below hB2') h3).mono ?_
  rintro e w3 ⟨u3, rfl, ho3, hb3⟩
  obtain ⟨b3, d3, rfl⟩ := own_form ho3
  have hp1 := own_below (ownsRow_setCell_below ho1'' (a := ⟨w.heap.size + 1 + 1, 1, none⟩) (by simp) (.slice b2 is.length d2)) hb3
  have hp2 := own_below (ownsRow_setCell_below ho2' (a := ⟨w.heap.size + 1 + 1, 1, none⟩) (by simp) (.slice b2 is.length d2)) hb3
  have hy3 : w3.heap[w.heap.size + 1]? = some (.cells #[.slice none 0 0, .slice none 0 0, .slice none 0 0] 41 (0, 0)) := (hb3.block _ (by simp; omega)).trans ((heap_setCell_other w2 ⟨w.heap.size + 1 + 1, 1, none⟩ (w.heap.size + 1) _ (by simp)).trans hy2)
  have hv3 : w3.heap[w.heap.size + 1 + 1]? = some (.cells #[.slice b1 ns.length d1, .slice b2 is.length d2, .slice none 0 0] 41 (0, 0)) := (hb3.block _ (by simp; omega)).trans (heap_setCell_same w2 (w.heap.size + 1 + 1) 1 _ _ (.slice b2 is.length d2) hv2)
  have hB3 := hB2'.trans (hb3.mono hB2'.size)
  have hp3 : w3.ownsRow (w.heap.size + 3) 60 3 (.slice b3 ds.length d3) ds.length (dfcs ds) := own_mono ho3 (by simp; omega)
  have g0 : w3.cell? ⟨w.heap.size + 1 + 1, 0, none⟩ = some (.slice b1 ns.length d1) := by rw [cell_of_row w3 _ 0 _ _ _ hv3]; rfl
  have g1 : w3.cell? ⟨w.heap.size + 1 + 1, 0 + 1, none⟩ = some (.slice b2 is.length d2) := by rw [cell_of_row w3 _ 1 _ _ _ hv3]; rfl
  have g2 : w3.cell? ⟨w.heap.size + 1 + 1, 0 + 2, none⟩ = some (.slice none 0 0) := by rw [cell_of_row w3 _ 2 _ _ _ hv3]; rfl
  have gf : w3.frozen? ⟨w.heap.size + 1 + 1, 0 + 2, none⟩ = false := frozen_of_row w3 _ 2 _ _ hv3
  have k0 : w3.cell? ⟨w.heap.size + 1, 0, none⟩ = some (.slice none 0 0) := by rw [cell_of_row w3 _ 0 _ _ _ hy3]; rfl
  have k1 : w3.cell? ⟨w.heap.size + 1, 0 + 1, none⟩ = some (.slice none 0 0) := by rw [cell_of_row w3 _ 1 _ _ _ hy3]; rfl
  have k2 : w3.cell? ⟨w.heap.size + 1, 0 + 2, none⟩ = some (.slice none 0 0) := by rw [cell_of_row w3 _ 2 _ _ _ hy3]; rfl
  have f0 : w3.frozen? ⟨w.heap.size + 1, 0, none⟩ = false := frozen_of_row w3 _ 0 _ _ hy3
  have f1 : w3.frozen? ⟨w.heap.size + 1, 0 + 1, none⟩ = false := frozen_of_row w3 _ 1 _ _ hy3
  have f2 : w3.frozen? ⟨w.heap.size + 1, 0 + 2, none⟩ = false := frozen_of_row w3 _ 2 _ _ hy3
  clear hB2 hB2' hb3 ho1'' ho2' ho3 hx2 hy2 hv2 cv2 fv2 cx2 hsv2
  go_wp2
  have q0 := (heap_setCell_other w3 ⟨w.heap.size + 1 + 1, 2, none⟩ (w.heap.size + 1) (.slice b3 ds.length d3) (by simp)).trans hy3
  have q1 := heap_setCell_same _ (w.heap.size + 1) 0 _ _ (.slice b1 ns.length d1) q0
  have q2 := heap_setCell_same _ (w.heap.size + 1) 1 _ _ (.slice b2 is.length d2) q1
  have q3 := heap_setCell_same _ (w.heap.size + 1) 2 _ _ (.slice b3 ds.length d3) q2
  have up : ∀ {e : TypeId} {k : Nat} {v : Value} {n : Nat} {xs : List Value}, w3.ownsRow (w.heap.size + 3) e k v n xs → ((((w3.setCell ⟨w.heap.size + 1 + 1, 2, none⟩ (.slice b3 ds.length d3)).setCell ⟨w.heap.size + 1, 0, none⟩ (.slice b1 ns.length d1)).setCell ⟨w.heap.size + 1, 1, none⟩ (.slice b2 is.length d2)).setCell ⟨w.heap.size + 1, 2, none⟩ (.slice b3 ds.length d3)).ownsRow (w.heap.size + 3) e k v n xs := fun h =>
    ownsRow_setCell_below (ownsRow_setCell_below (ownsRow_setCell_below (ownsRow_setCell_below h (by simp) _) (by simp) _) (by simp) _) (by simp) _
  refine bodyPost_ret (results_cell_row rfl _ _ (w.heap.size + 1) 41 _ (0, 0) _ rfl q3 Try.underlying41 rfl Try.sizeC) rfl ⟨_, _, _, rfl, own_mono (up hp1) (by omega), own_mono (up hp2) (by omega), own_mono (up hp3) (by omega), ?_⟩
  exact (((hB3.setCell (p := ⟨w.heap.size + 1 + 1, 2, none⟩) (by simp; omega) _).setCell (p := ⟨w.heap.size + 1, 0, none⟩) (by simp) _).setCell (p := ⟨w.heap.size + 1, 1, none⟩) (by simp) _).setCell (p := ⟨w.heap.size + 1, 2, none⟩) (by simp) _


theorem tocode_any (v1 v2 v3 : Value) (ns : List Nd) (is : List In) (ds : List Df) (w : World) (R1 : NRow w v1 ns) (R2 : InRow w v2 is) (R3 : DfRow w v3 ds) (h1 : ns.length ≤ 2097152) (h2 : is.length ≤ 2097152) (h3 : ds.length ≤ 2097152) :
    Calls Try.prog 8 #[.agg #[v1, v2, v3]] w fun e w' => ∃ u1 u2 u3, e = .returned (.agg #[u1, u2, u3]) ∧ NRow w' u1 ns ∧ InRow w' u2 is ∧ DfRow w' u3 ds ∧ Below w.heap.size w w' := by
  refine (tocode_own v1 v2 v3 ns is ds w R1 R2 R3 h1 h2 h3).mono ?_
  rintro e w' ⟨u1, u2, u3, rfl, o1, o2, o3, hb⟩
  exact ⟨u1, u2, u3, rfl, NRow.of_own o1 (by omega) R1.sz, InRow.of_own o2 (by omega) R2.sz, DfRow.of_own o3 (by omega) R3.sz, hb⟩
end Go.Proofs.Ytacbhbmjhlgflaa

/-
  The place of the first definition of a name, and the contracts of spec.DefOf and impl.DefOf. No condition.
-/
namespace Go.Proofs.Ytacbhbmjhlgflaa
open Go.RowKit

/-- The place of the first of ds that has the name s, counted from i on; -1 when there is none. -/
def dfIdx : List Df → ByteArray → Nat → Int
  | [], _, _ => -1
  | d :: ds, s, i => if d.s.toList == s.toList then i else dfIdx ds s (i + 1)
theorem dfIdx_hit (ds : List Df) (s : ByteArray) (i : Nat) (d : Df) (h : ds[i]? = some d) (e : (d.s.toList == s.toList) = true) : dfIdx (ds.drop i) s i = i := by
  obtain ⟨hl, he⟩ := List.getElem?_eq_some_iff.1 h
  rw [List.drop_eq_getElem_cons hl, he, dfIdx, if_pos e]
theorem dfIdx_miss (ds : List Df) (s : ByteArray) (i : Nat) (d : Df) (h : ds[i]? = some d) (e : (d.s.toList == s.toList) = false) : dfIdx (ds.drop i) s i = dfIdx (ds.drop (i + 1)) s (i + 1) := by
  obtain ⟨hl, he⟩ := List.getElem?_eq_some_iff.1 h
  rw [List.drop_eq_getElem_cons hl, he, dfIdx, if_neg (by rw [e]; simp)]
theorem dfIdx_end (ds : List Df) (s : ByteArray) (i : Nat) (h : ds.length ≤ i) : dfIdx (ds.drop i) s i = -1 := by
  rw [List.drop_eq_nil_of_le h, dfIdx]

set_option maxHeartbeats 800000 in
theorem sdefof_any (a1 a2 : Option Addr) (n1 c1 n2 c2 : Nat) (v3 : Value) (ds : List Df) (s : ByteArray) (w : World) (R : DfRow w v3 ds) :
    Calls Try.prog 53 #[.agg #[.slice a1 n1 c1, .slice a2 n2 c2, v3], .string s] w fun e w' => e = .returned (.int .i64 (dfIdx ds s 0)) ∧ Below w.heap.size w w' := by
  obtain ⟨ao, cap, rfl, hcap, hm, hz, hcell⟩ := R
  go_enter Try.func53, Try.ntmps53
  have hB0 : Below w.heap.size w (w.alloc (Obj.cells #[.slice a1 n1 c1, .slice a2 n2 c2, .slice ao ds.length cap] 41)) := (Below.refl _ _).alloc (Nat.le_refl _) _
  have hx0 := heap_alloc_new w (Obj.cells #[.slice a1 n1 c1, .slice a2 n2 c2, .slice ao ds.length cap] 41)
  go_wp2_with fail
  generalize w.alloc (Obj.cells #[.slice a1 n1 c1, .slice a2 n2 c2, .slice ao ds.length cap] 41) = w0 at *
  have hc0 : w0.cell? ⟨w.heap.size, 0 + 2, none⟩ = some (.slice ao ds.length cap) := by rw [cell_of_row w0 _ 2 _ _ _ hx0]; rfl
  have hs0 := (Array.getElem?_eq_some_iff.1 hx0).1
  go_loopw [5] (fun i wr => ∃ k : Nat, k ≤ ds.length ∧ i = .int .i64 k ∧ Hid (dfIdx ds s 0 = dfIdx (ds.drop k) s k) ∧ Below w0.heap.size w0 wr) (fun i _ => ds.length - (intOf i).toNat)
  case atStart => exact ⟨0, by omega, rfl, rfl, Below.refl _ _⟩
  case round =>
    obtain ⟨k, hk, rfl, HK, hb⟩ := hrel
    have hB := hB0.trans (hb.mono hB0.size)
    have hcr := (hb.cell (p := ⟨w.heap.size, 0 + 2, none⟩) hs0).trans hc0
    by_cases hlt : k < ds.length
    · obtain ⟨g, o, rfl, hg, hcell⟩ := hcell (by intro e; subst e; simp at hlt)
      obtain ⟨x, hx⟩ : ∃ x, ds[k]? = some x := ⟨ds[k], by simp [hlt]⟩
      obtain ⟨d0, d1, d2⟩ := (hcell k x hx).below hB hg
      clear hcell
      cases e : (x.s.toList == s.toList) with
      | true =>
        have HR : Hid (dfIdx ds s 0 = k) := by unfold Hid; rw [HK.out, dfIdx_hit ds s k x hx e]
        clear hx HK
        go_wp2
        go_ret
        exact ⟨by rw [HR.out]; rfl, hB⟩
      | false =>
        have HR : Hid (dfIdx ds s 0 = dfIdx (ds.drop (k + 1)) s (k + 1)) := by unfold Hid; rw [HK.out, dfIdx_miss ds s k x hx e]
        clear hx HK
        go_wp2
        go_roundw
        case rel => exact ⟨k + 1, by omega, by go_num, HR, hb⟩
        case measure => simp [intOf]; omega
    · have HR : Hid (dfIdx ds s 0 = -1) := by unfold Hid; rw [HK.out, dfIdx_end ds s k (by omega)]
      clear HK hcell
      go_wp2
      go_ret
      exact ⟨by rw [HR.out]; rfl, hB⟩

set_option maxHeartbeats 400000 in
theorem defofc_any (d : Df) (s : ByteArray) (q : Nat) (w : World) (hq : w.cell? ⟨q, 0, none⟩ = some (.string s)) (hl : q < w.heap.size) :
    Calls Try.prog 62 #[.agg #[.string d.s, .int .i64 d.p, .int .i64 d.m], .pointer (some ⟨q, 0, none⟩)] w fun e w' => e = .returned (.bool (d.s.toList == s.toList)) ∧ Below w.heap.size w w' := by
  have hne : ¬ q = w.heap.size := by omega
  go_enter Try.func62, Try.ntmps62
  go_wp2
  go_ret
  exact ⟨rfl, (Below.refl _ _).alloc (Nat.le_refl _) _⟩

set_option maxHeartbeats 800000 in
theorem indexfunc_any (v3 : Value) (ds : List Df) (s : ByteArray) (q : Nat) (w : World) (R : DfRow w v3 ds) (hq : w.cell? ⟨q, 0, none⟩ = some (.string s)) (hl : q < w.heap.size) :
    Calls Try.prog 61 #[v3, .func (.func 62) #[] #[.pointer (some ⟨q, 0, none⟩)]] w fun e w' => e = .returned (.int .i64 (dfIdx ds s 0)) ∧ Below w.heap.size w w' := by
  obtain ⟨ao, cap, rfl, hcap, hm, hz, hcell⟩ := R
  go_enter Try.func61, Try.ntmps61
  go_wp2_with fail
  go_loopw [8] (fun i wr => ∃ k : Nat, k ≤ ds.length ∧ i = .int .i64 k ∧ Hid (dfIdx ds s 0 = dfIdx (ds.drop k) s k) ∧ Below w.heap.size w wr) (fun i _ => ds.length - (intOf i).toNat)
  case atStart => exact ⟨0, by omega, rfl, rfl, Below.refl _ _⟩
  case round =>
    obtain ⟨k, hk, rfl, HK, hb⟩ := hrel
    have hcr := (hb.cell (p := ⟨q, 0, none⟩) hl).trans hq
    have hlr := Nat.lt_of_lt_of_le hl hb.size
    by_cases hlt : k < ds.length
    · obtain ⟨g, o, rfl, hg, hcell⟩ := hcell (by intro e; subst e; simp at hlt)
      obtain ⟨x, hx⟩ : ∃ x, ds[k]? = some x := ⟨ds[k], by simp [hlt]⟩
      obtain ⟨d0, d1, d2⟩ := (hcell k x hx).below hb hg
      clear hcell
      cases e : (x.s.toList == s.toList) with
      | true =>
        have HR : Hid (dfIdx ds s 0 = k) := by unfold Hid; rw [HK.out, dfIdx_hit ds s k x hx e]
        clear hx HK
        go_wp2_with fail
        refine (defofc_any x s q _ hcr hlr).mono ?_
        rintro e' w2 ⟨rfl, hb2⟩
        rw [e]
        have hB2 := hb.trans (hb2.mono hb.size)
        clear d0 d1 d2 hcr hb2
        go_wp2
        go_ret
        exact ⟨by rw [HR.out]; rfl, hB2⟩
      | false =>
        have HR : Hid (dfIdx ds s 0 = dfIdx (ds.drop (k + 1)) s (k + 1)) := by unfold Hid; rw [HK.out, dfIdx_miss ds s k x hx e]
        clear hx HK
        go_wp2_with fail
        refine (defofc_any x s q _ hcr hlr).mono ?_
        rintro e' w2 ⟨rfl, hb2⟩
        rw [e]
        have hB2 := hb.trans (hb2.mono hb.size)
        clear d0 d1 d2 hcr hb2
        go_wp2
        go_roundw
        case rel => exact ⟨k + 1, by omega, by go_num, HR, hB2⟩
        case measure => simp [intOf]; omega
    · have HR : Hid (dfIdx ds s 0 = -1) := by unfold Hid; rw [HK.out, dfIdx_end ds s k (by omega)]
      clear HK hcell
      go_wp2
      go_ret
      exact ⟨by rw [HR.out]; rfl, hb⟩

set_option maxHeartbeats 800000 in
theorem idefof_any (a1 a2 : Option Addr) (n1 c1 n2 c2 : Nat) (v3 : Value) (ds : List Df) (s : ByteArray) (w : World) (R : DfRow w v3 ds) :
    Calls Try.prog 24 #[.agg #[.slice a1 n1 c1, .slice a2 n2 c2, v3], .string s] w fun e w' => e = .returned (.int .i64 (dfIdx ds s 0)) ∧ Below w.heap.size w w' := by
  have hmf : ∀ (fn : Fn) (first cap : Array Value) (w : World), (Instr.makeFunc fn first cap).run Try.prog w = .ok (.func fn first cap) w := fun _ _ _ _ => rfl
  obtain ⟨a3, c3, rfl⟩ := R.small
  go_enter Try.func24, Try.ntmps24
  go_wp2_with fail
  have hB0 : Below w.heap.size w ((w.alloc (Obj.cells #[.slice a1 n1 c1, .slice a2 n2 c2, .slice a3 ds.length c3] 41)).alloc (Obj.cells #[.string s] 9)) := ((Below.refl _ _).alloc (Nat.le_refl _) _).alloc (by simp) _
  refine (indexfunc_any _ ds s (w.heap.size + 1) _ (R.below hB0) ?_ ?_).mono ?_
  · rw [cell_of_row _ _ 0 _ _ _ (heap_alloc2_new _ _ _)]; rfl
  · simp
  rintro e w1 ⟨rfl, hb1⟩
  have hB1 := hB0.trans (hb1.mono hB0.size)
  clear hB0 hb1
  go_wp2
  go_ret
  exact ⟨rfl, hB1⟩
end Go.Proofs.Ytacbhbmjhlgflaa
