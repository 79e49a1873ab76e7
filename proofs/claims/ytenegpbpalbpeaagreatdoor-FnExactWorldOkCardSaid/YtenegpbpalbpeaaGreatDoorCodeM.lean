/-
  Contracts of the laws' helpers szCode, toCode, eqCode: a code is three slices, of nodes, of instructions and of definitions. No condition.
-/
import Derived.Test.YtenegpbpalbpeaaGreatDoorInM
import Derived.Test.YtenegpbpalbpeaaGreatDoorLPoolOkM
namespace Go.Proofs.YtenegpbpalbpeaaGreatDoor
open Go.RowKit
theorem NRow.sz {w : World} {v : Value} {xs : List Nd} (R : NRow w v xs) : ∀ x ∈ xs, x.s.size ≤ maxLen := by obtain ⟨_, _, _, _, _, hz, _⟩ := R; exact hz
theorem InRow.sz {w : World} {v : Value} {xs : List In} (R : InRow w v xs) : ∀ x ∈ xs, x.s.size ≤ maxLen := by obtain ⟨_, _, _, _, _, hz, _⟩ := R; exact hz
theorem DfRow.sz {w : World} {v : Value} {xs : List Df} (R : DfRow w v xs) : ∀ x ∈ xs, x.s.size ≤ maxLen := by obtain ⟨_, _, _, _, _, hz, _⟩ := R; exact hz
set_option maxHeartbeats 800000 in
theorem szcode_any (v1 v2 v3 : Value) (ns : List Nd) (is : List In) (ds : List Df) (w : World) (R1 : NRow w v1 ns) (R2 : InRow w v2 is) (R3 : DfRow w v3 ds) :
    Calls Tryz.prog 10 #[.agg #[v1, v2, v3], .int .i64 1048576] w fun e w' => ∃ r : Int, e = .returned (.int .i64 r) ∧ -1 ≤ r ∧ r ≤ 1048576 ∧ (0 ≤ r → ns.length ≤ 1048576 ∧ is.length ≤ 1048576 ∧ ds.length ≤ 1048576) ∧ Below w.heap.size w w' := by
  obtain ⟨a1, c1, rfl⟩ := R1.small
  obtain ⟨a2, c2, rfl⟩ := R2.small
  obtain ⟨a3, c3, rfl⟩ := R3.small
  go_enter Tryz.func10, Tryz.ntmps10
  go_wp2_with fail
  have hB0 : Below w.heap.size w (w.alloc (Obj.cells #[.slice a1 ns.length c1, .slice a2 is.length c2, .slice a3 ds.length c3] 28)) := (Below.refl _ _).alloc (Nat.le_refl _) _
  refine (szpool_any _ ns _ (R1.below hB0)).mono ?_
  rintro e w1 ⟨r1, rfl, h0, h1, h2, hb1⟩
  have hx1 : w1.heap[w.heap.size]? = some (.cells #[.slice a1 ns.length c1, .slice a2 is.length c2, .slice a3 ds.length c3] 28 (0, 0)) := (hb1.block _ (by simp)).trans (heap_alloc_new _ _)
  have hB1 := hB0.trans (hb1.mono hB0.size)
  have hc1 : w1.cell? ⟨w.heap.size, 0 + 1, none⟩ = some (.slice a2 is.length c2) := by rw [cell_of_row w1 _ 1 _ _ _ hx1]; rfl
  have hsz1 := (Array.getElem?_eq_some_iff.1 hx1).1
  clear hB0 hb1
  by_cases hr : r1 < 0
  · have HR : Hid (r1 = -1) := by unfold Hid; omega
    go_wp2
    go_ret
    exact ⟨-1, rfl, by omega, by omega, fun h => by omega, hB1⟩
  · have h2 := h2 (by omega)
    go_wp2_with fail
    refine (szins_any _ is r1 _ (R2.below hB1) (by omega) (by omega)).mono ?_
    rintro e w2 ⟨r2, rfl, k0, k1, k2, hb2⟩
    have hx2 := (hb2.block _ hsz1).trans hx1
    have hB2 := hB1.trans (hb2.mono hB1.size)
    have hc2 : w2.cell? ⟨w.heap.size, 0 + 2, none⟩ = some (.slice a3 ds.length c3) := by rw [cell_of_row w2 _ 2 _ _ _ hx2]; rfl
    clear hc1 hx1 hB1 hb2
    by_cases hr2 : r2 < 0
    · have HR : Hid (r2 = -1) := by unfold Hid; omega
      go_wp2
      go_ret
      exact ⟨-1, rfl, by omega, by omega, fun h => by omega, hB2⟩
    · have k2 := k2 (by omega)
      go_wp2_with fail
      refine (szdfs_any _ ds r2 _ (R3.below hB2) (by omega) (by omega)).mono ?_
      rintro e w3 ⟨r3, rfl, l0, l1, l2, hb3⟩
      have hB3 := hB2.trans (hb3.mono hB2.size)
      clear hc2 hx2 hb3 hB2
      by_cases hr3 : r3 < 0
      · have HR : Hid (r3 = -1) := by unfold Hid; omega
        go_wp2
        go_ret
        exact ⟨-1, rfl, by omega, by omega, fun h => by omega, hB3⟩
      · have l2 := l2 (by omega)
        go_wp2
        go_ret
        exact ⟨r3, rfl, by omega, by omega, fun _ => ⟨h2.1, k2.1, l2.1⟩, hB3⟩
set_option maxHeartbeats 800000 in
theorem eqcode_any (v1 v2 v3 u1 u2 u3 : Value) (ns : List Nd) (is : List In) (ds : List Df) (w : World) (R1 : NRow w v1 ns) (R2 : InRow w v2 is) (R3 : DfRow w v3 ds) (S1 : NRow w u1 ns) (S2 : InRow w u2 is) (S3 : DfRow w u3 ds) :
    Calls Tryz.prog 14 #[.agg #[v1, v2, v3], .agg #[u1, u2, u3]] w fun e w' => e = .returned (.bool true) ∧ Below w.heap.size w w' := by
  obtain ⟨a1, c1, rfl⟩ := R1.small
  obtain ⟨a2, c2, rfl⟩ := R2.small
  obtain ⟨a3, c3, rfl⟩ := R3.small
  obtain ⟨b1, d1, rfl⟩ := S1.small
  obtain ⟨b2, d2, rfl⟩ := S2.small
  obtain ⟨b3, d3, rfl⟩ := S3.small
  go_enter Tryz.func14, Tryz.ntmps14
  go_wp2_with fail
  have hB0 : Below w.heap.size w ((w.alloc (Obj.cells #[.slice a1 ns.length c1, .slice a2 is.length c2, .slice a3 ds.length c3] 44)).alloc (Obj.cells #[.slice b1 ns.length d1, .slice b2 is.length d2, .slice b3 ds.length d3] 44)) := ((Below.refl _ _).alloc (Nat.le_refl _) _).alloc (by simp) _
  refine (eqpool_any _ _ ns _ (R1.below hB0) (S1.below hB0)).mono ?_
  rintro e w1 ⟨rfl, hb1⟩
  have hx1 : w1.heap[w.heap.size]? = some (.cells #[.slice a1 ns.length c1, .slice a2 is.length c2, .slice a3 ds.length c3] 44 (0, 0)) := (hb1.block _ (by simp; omega)).trans ((heap_alloc_old _ _ (by simp)).trans (heap_alloc_new _ _))
  have hy1 : w1.heap[w.heap.size + 1]? = some (.cells #[.slice b1 ns.length d1, .slice b2 is.length d2, .slice b3 ds.length d3] 44 (0, 0)) := (hb1.block _ (by simp)).trans (heap_alloc2_new _ _ _)
  have hB1 := hB0.trans (hb1.mono hB0.size)
  have hc1 : w1.cell? ⟨w.heap.size, 0 + 1, none⟩ = some (.slice a2 is.length c2) := by rw [cell_of_row w1 _ 1 _ _ _ hx1]; rfl
  have hd1 : w1.cell? ⟨w.heap.size + 1, 0 + 1, none⟩ = some (.slice b2 is.length d2) := by rw [cell_of_row w1 _ 1 _ _ _ hy1]; rfl
  have hsx := (Array.getElem?_eq_some_iff.1 hx1).1
  have hsy := (Array.getElem?_eq_some_iff.1 hy1).1
  clear hB0 hb1
  go_wp2_with fail
  refine (eqins_any _ _ is _ (R2.below hB1) (S2.below hB1)).mono ?_
  rintro e w2 ⟨rfl, hb2⟩
  have hx2 := (hb2.block _ hsx).trans hx1
  have hy2 := (hb2.block _ hsy).trans hy1
  have hB2 := hB1.trans (hb2.mono hB1.size)
  have hc2 : w2.cell? ⟨w.heap.size, 0 + 2, none⟩ = some (.slice a3 ds.length c3) := by rw [cell_of_row w2 _ 2 _ _ _ hx2]; rfl
  have hd2 : w2.cell? ⟨w.heap.size + 1, 0 + 2, none⟩ = some (.slice b3 ds.length d3) := by rw [cell_of_row w2 _ 2 _ _ _ hy2]; rfl
  clear hc1 hd1 hx1 hy1 hB1 hb2
  go_wp2_with fail
  refine (eqdfs_any _ _ ds _ (R3.below hB2) (S3.below hB2)).mono ?_
  rintro e w3 ⟨rfl, hb3⟩
  have hB3 := hB2.trans (hb3.mono hB2.size)
  clear hc2 hd2 hx2 hy2 hb3 hB2
  go_wp2
  go_ret
  exact ⟨rfl, hB3⟩
theorem Tryz.sizeC : (Tryz.prog.info? 44).map (·.size) = some 3 := by kernel_rfl
set_option maxHeartbeats 1600000 in
theorem tocode_own (v1 v2 v3 : Value) (ns : List Nd) (is : List In) (ds : List Df) (w : World) (R1 : NRow w v1 ns) (R2 : InRow w v2 is) (R3 : DfRow w v3 ds) (h1 : ns.length ≤ 2097152) (h2 : is.length ≤ 2097152) (h3 : ds.length ≤ 2097152) :
    Calls Tryz.prog 12 #[.agg #[v1, v2, v3]] w fun e w' => ∃ u1 u2 u3, e = .returned (.agg #[u1, u2, u3]) ∧ w'.ownsRow w.heap.size 178 5 u1 ns.length (ncs ns) ∧ w'.ownsRow w.heap.size 163 4 u2 is.length (incs is) ∧ w'.ownsRow w.heap.size 131 3 u3 ds.length (dfcs ds) ∧ Below w.heap.size w w' := by
  have hz1 := R1.sz
  have hz2 := R2.sz
  have hz3 := R3.sz
  obtain ⟨a1, c1, rfl⟩ := R1.small
  obtain ⟨a2, c2, rfl⟩ := R2.small
  obtain ⟨a3, c3, rfl⟩ := R3.small
  go_enter Tryz.func12, Tryz.ntmps12
  go_wp2_with fail
  have hB0 : Below w.heap.size w (((w.alloc (Obj.cells #[.slice a1 ns.length c1, .slice a2 is.length c2, .slice a3 ds.length c3] 28)).alloc (Obj.cells #[.slice none 0 0, .slice none 0 0, .slice none 0 0] 44)).alloc (Obj.cells #[.slice none 0 0, .slice none 0 0, .slice none 0 0] 44)) :=
    (((Below.refl _ _).alloc (Nat.le_refl _) _).alloc (by simp) _).alloc (by simp; omega) _
  refine (topool_any _ ns _ (R1.below hB0) h1).mono ?_
  rintro e w1 ⟨u1, rfl, ho1, hb1⟩
  obtain ⟨b1, d1, rfl⟩ := own_form ho1
  have S1 := NRow.of_own ho1 (by omega) hz1
  have hx1 : w1.heap[w.heap.size]? = some (.cells #[.slice a1 ns.length c1, .slice a2 is.length c2, .slice a3 ds.length c3] 28 (0, 0)) := (hb1.block _ (by simp; omega)).trans ((heap_alloc_old _ _ (by simp; omega)).trans ((heap_alloc_old _ _ (by simp)).trans (heap_alloc_new _ _)))
  have hy1 : w1.heap[w.heap.size + 1]? = some (.cells #[.slice none 0 0, .slice none 0 0, .slice none 0 0] 44 (0, 0)) := (hb1.block _ (by simp)).trans ((heap_alloc_old _ _ (by simp)).trans (heap_alloc2_new _ _ _))
  have hv1 : w1.heap[w.heap.size + 1 + 1]? = some (.cells #[.slice none 0 0, .slice none 0 0, .slice none 0 0] 44 (0, 0)) := (hb1.block _ (by simp)).trans (heap_alloc3_new _ _ _ _)
  have hB1 := hB0.trans (hb1.mono hB0.size)
  have ho1' : w1.ownsRow (w.heap.size + 3) 178 5 (.slice b1 ns.length d1) ns.length (ncs ns) := by simpa using ho1
  have cv1 : w1.cell? ⟨w.heap.size + 1 + 1, 0, none⟩ = some (.slice none 0 0) := by rw [cell_of_row w1 _ 0 _ _ _ hv1]; rfl
  have fv1 : w1.frozen? ⟨w.heap.size + 1 + 1, 0, none⟩ = false := frozen_of_row w1 _ 0 _ _ hv1
  have cx1 : w1.cell? ⟨w.heap.size, 0 + 1, none⟩ = some (.slice a2 is.length c2) := by rw [cell_of_row w1 _ 1 _ _ _ hx1]; rfl
  have hsv := (Array.getElem?_eq_some_iff.1 hv1).1
  clear hB0 hb1 ho1
  go_wp2_with fail
  have hB1' : Below w.heap.size w (w1.setCell ⟨w.heap.size + 1 + 1, 0, none⟩ (.slice b1 ns.length d1)) := hB1.setCell (p := ⟨w.heap.size + 1 + 1, 0, none⟩) (by simp; omega) _
  refine (toins_any _ is _ (R2.below hB1') h2).mono ?_
  rintro e w2 ⟨u2, rfl, ho2, hb2⟩
  obtain ⟨b2, d2, rfl⟩ := own_form ho2
  have ho1'' := own_below (ownsRow_setCell_below ho1' (a := ⟨w.heap.size + 1 + 1, 0, none⟩) (by simp) (.slice b1 ns.length d1)) hb2
  have hx2 : w2.heap[w.heap.size]? = some (.cells #[.slice a1 ns.length c1, .slice a2 is.length c2, .slice a3 ds.length c3] 28 (0, 0)) := (hb2.block _ (by simp; omega)).trans ((heap_setCell_other w1 ⟨w.heap.size + 1 + 1, 0, none⟩ w.heap.size _ (by simp; omega)).trans hx1)
  have hy2 : w2.heap[w.heap.size + 1]? = some (.cells #[.slice none 0 0, .slice none 0 0, .slice none 0 0] 44 (0, 0)) := (hb2.block _ (by simp; omega)).trans ((heap_setCell_other w1 ⟨w.heap.size + 1 + 1, 0, none⟩ (w.heap.size + 1) _ (by simp)).trans hy1)
  have hv2 : w2.heap[w.heap.size + 1 + 1]? = some (.cells #[.slice b1 ns.length d1, .slice none 0 0, .slice none 0 0] 44 (0, 0)) := (hb2.block _ (by simp; omega)).trans (heap_setCell_same w1 (w.heap.size + 1 + 1) 0 _ _ (.slice b1 ns.length d1) hv1)
  have hB2 := hB1'.trans (hb2.mono hB1'.size)
  have ho2' : w2.ownsRow (w.heap.size + 3) 163 4 (.slice b2 is.length d2) is.length (incs is) := own_mono ho2 (by simp; omega)
  have cv2 : w2.cell? ⟨w.heap.size + 1 + 1, 0 + 1, none⟩ = some (.slice none 0 0) := by rw [cell_of_row w2 _ 1 _ _ _ hv2]; rfl
  have fv2 : w2.frozen? ⟨w.heap.size + 1 + 1, 0 + 1, none⟩ = false := frozen_of_row w2 _ 1 _ _ hv2
  have cx2 : w2.cell? ⟨w.heap.size, 0 + 2, none⟩ = some (.slice a3 ds.length c3) := by rw [cell_of_row w2 _ 2 _ _ _ hx2]; rfl
  have hsv2 := (Array.getElem?_eq_some_iff.1 hv2).1
  clear hB1 hB1' hb2 ho1' ho2 hx1 hy1 hv1 cv1 fv1 cx1 hsv S1
  go_wp2_with fail
  have hB2' : Below w.heap.size w (w2.setCell ⟨w.heap.size + 1 + 1, 1, none⟩ (.slice b2 is.length d2)) := hB2.setCell (p := ⟨w.heap.size + 1 + 1, 1, none⟩) (by simp; omega) _
  refine (todfs_any _ ds _ (R3.below hB2') h3).mono ?_
  rintro e w3 ⟨u3, rfl, ho3, hb3⟩
  obtain ⟨b3, d3, rfl⟩ := own_form ho3
  have hp1 := own_below (ownsRow_setCell_below ho1'' (a := ⟨w.heap.size + 1 + 1, 1, none⟩) (by simp) (.slice b2 is.length d2)) hb3
  have hp2 := own_below (ownsRow_setCell_below ho2' (a := ⟨w.heap.size + 1 + 1, 1, none⟩) (by simp) (.slice b2 is.length d2)) hb3
  have hy3 : w3.heap[w.heap.size + 1]? = some (.cells #[.slice none 0 0, .slice none 0 0, .slice none 0 0] 44 (0, 0)) := (hb3.block _ (by simp; omega)).trans ((heap_setCell_other w2 ⟨w.heap.size + 1 + 1, 1, none⟩ (w.heap.size + 1) _ (by simp)).trans hy2)
  have hv3 : w3.heap[w.heap.size + 1 + 1]? = some (.cells #[.slice b1 ns.length d1, .slice b2 is.length d2, .slice none 0 0] 44 (0, 0)) := (hb3.block _ (by simp; omega)).trans (heap_setCell_same w2 (w.heap.size + 1 + 1) 1 _ _ (.slice b2 is.length d2) hv2)
  have hB3 := hB2'.trans (hb3.mono hB2'.size)
  have hp3 : w3.ownsRow (w.heap.size + 3) 131 3 (.slice b3 ds.length d3) ds.length (dfcs ds) := own_mono ho3 (by simp; omega)
  have g0 : w3.cell? ⟨w.heap.size + 1 + 1, 0, none⟩ = some (.slice b1 ns.length d1) := by rw [cell_of_row w3 _ 0 _ _ _ hv3]; rfl
  have g1 : w3.cell? ⟨w.heap.size + 1 + 1, 0 + 1, none⟩ = some (.slice b2 is.length d2) := by rw [cell_of_row w3 _ 1 _ _ _ hv3]; rfl
  have g2 : w3.cell? ⟨w.heap.size + 1 + 1, 0 + 2, none⟩ = some (.slice none 0 0) := by rw [cell_of_row w3 _ 2 _ _ _ hv3]; rfl
  have gf : w3.frozen? ⟨w.heap.size + 1 + 1, 0 + 2, none⟩ = false := frozen_of_row w3 _ 2 _ _ hv3
  have k0 : w3.cell? ⟨w.heap.size + 1, 0, none⟩ = some (.slice none 0 0) := by rw [cell_of_row w3 _ 0 _ _ _ hy3]; rfl
  have k1 : w3.cell? ⟨w.heap.size + 1, 0 + 1, none⟩ = some (.slice none 0 0) := by rw [cell_of_row w3 _ 1 _ _ _ hy3]; rfl
  have k2 : w3.cell? ⟨w.heap.size + 1, 0 + 2, none⟩ = some (.slice none 0 0) := by rw [cell_of_row w3 _ 2 _ _ _ hy3]; rfl
  have f0 : w3.frozen? ⟨w.heap.size + 1, 0, none⟩ = false := frozen_of_row w3 _ 0 _ _ hy3
  have f1 : w3.frozen? ⟨w.heap.size + 1, 0 + 1, none⟩ = false := frozen_of_row w3 _ 1 _ _ hy3
  have f2 : w3.frozen? ⟨w.heap.size + 1, 0 + 2, none⟩ = false := frozen_of_row w3 _ 2 _ _ hy3
  clear hB2 hB2' hb3 ho1'' ho2' ho3 hx2 hy2 hv2 cv2 fv2 cx2 hsv2
  go_wp2
  have q0 := (heap_setCell_other w3 ⟨w.heap.size + 1 + 1, 2, none⟩ (w.heap.size + 1) (.slice b3 ds.length d3) (by simp)).trans hy3
  have q1 := heap_setCell_same _ (w.heap.size + 1) 0 _ _ (.slice b1 ns.length d1) q0
  have q2 := heap_setCell_same _ (w.heap.size + 1) 1 _ _ (.slice b2 is.length d2) q1
  have q3 := heap_setCell_same _ (w.heap.size + 1) 2 _ _ (.slice b3 ds.length d3) q2
  have up : ∀ {e : TypeId} {k : Nat} {v : Value} {n : Nat} {xs : List Value}, w3.ownsRow (w.heap.size + 3) e k v n xs → ((((w3.setCell ⟨w.heap.size + 1 + 1, 2, none⟩ (.slice b3 ds.length d3)).setCell ⟨w.heap.size + 1, 0, none⟩ (.slice b1 ns.length d1)).setCell ⟨w.heap.size + 1, 1, none⟩ (.slice b2 is.length d2)).setCell ⟨w.heap.size + 1, 2, none⟩ (.slice b3 ds.length d3)).ownsRow (w.heap.size + 3) e k v n xs := fun h =>
    ownsRow_setCell_below (ownsRow_setCell_below (ownsRow_setCell_below (ownsRow_setCell_below h (by simp) _) (by simp) _) (by simp) _) (by simp) _
  refine bodyPost_ret (results_cell_row rfl _ _ (w.heap.size + 1) 44 _ (0, 0) _ rfl q3 Tryz.underlying44 rfl Tryz.sizeC) rfl ⟨_, _, _, rfl, own_mono (up hp1) (by omega), own_mono (up hp2) (by omega), own_mono (up hp3) (by omega), ?_⟩
  exact (((hB3.setCell (p := ⟨w.heap.size + 1 + 1, 2, none⟩) (by simp; omega) _).setCell (p := ⟨w.heap.size + 1, 0, none⟩) (by simp) _).setCell (p := ⟨w.heap.size + 1, 1, none⟩) (by simp) _).setCell (p := ⟨w.heap.size + 1, 2, none⟩) (by simp) _
end Go.Proofs.YtenegpbpalbpeaaGreatDoor
