/-
  Texts that stood by themselves, laid into one.
-/
import Derived.Test.YtenegpbpalbpeaaGreatDoorStrsM
import Derived.Test.YtenegpbpalbpeaaGreatDoorNameM
import Derived.Test.YtenegpbpalbpeaaGreatDoorPcMarkM
import Derived.Deep.MidRow
import Derived.Deep.RegionHeld3
/-
  A part of a row of texts that the call owns, and how it is marked. No condition.
-/
namespace Go.Proofs.YtenegpbpalbpeaaGreatDoor
open Go.RowKit
def SOwn (w : World) (base : Nat) (v : Value) (xs : List ByteArray) : Prop :=
  ∃ ao cap, v = .slice ao xs.length cap ∧ (xs.length ≤ cap ∧ (ao = none → cap = 0)) ∧
    (xs = [] ∨ ∃ g CAP N pre post, ao = some ⟨g, pre.length, none⟩ ∧ pre.length + xs.length + post.length = N ∧ w.ownsRow base 9 1 (.slice (some ⟨g, 0, none⟩) N CAP) N (stv (pre ++ (xs ++ post))))
theorem SOwn.form {w : World} {base : Nat} {v : Value} {xs : List ByteArray} (h : SOwn w base v xs) : ∃ ao cap, v = .slice ao xs.length cap := by
  obtain ⟨ao, cap, rfl, _⟩ := h
  exact ⟨ao, cap, rfl⟩
theorem SOwn.of_own {w : World} {base : Nat} {v : Value} {xs : List ByteArray} (h : w.ownsRow base 9 1 v xs.length (stv xs)) : SOwn w base v xs := by
  have h' := h
  rcases h.2 with ⟨rfl, h0⟩ | ⟨g, cap, cur, rfl, hb, hg, hnc, hcm, hcs, htake⟩
  · have : xs = [] := List.eq_nil_of_length_eq_zero h0
    subst this
    exact ⟨none, 0, rfl, by simp, Or.inl rfl⟩
  · exact ⟨_, cap, rfl, ⟨hnc, fun h => by cases h⟩, Or.inr ⟨g, cap, xs.length, [], [], rfl, by simp, by simpa using h'⟩⟩
theorem SOwn.row {w : World} {base : Nat} {v : Value} {xs : List ByteArray} (h : SOwn w base v xs) (hm : xs.length ≤ 9223372036854775807) (hz : ∀ x ∈ xs, x.size ≤ maxLen) : StRow w v xs := by
  obtain ⟨ao, cap, rfl, hc, h⟩ := h
  refine ⟨ao, cap, rfl, hc, hm, hz, fun hne => ?_⟩
  rcases h with h | ⟨g, CAP, N, pre, post, rfl, hN, ho⟩
  · exact absurd h hne
  · refine ⟨g, pre.length, rfl, (ho.lt g rfl).2, fun i x hi => ?_⟩
    have hil : i < xs.length := (List.getElem?_eq_some_iff.1 hi).1
    have := ho.cellAt (pre.length + i) (by omega)
    rw [this]
    apply stv_get
    rw [List.getElem?_append_right (by omega), show pre.length + i - pre.length = i by omega, List.getElem?_append_left hil]
    exact hi
theorem SOwn.below {w w' : World} {base : Nat} {v : Value} {xs : List ByteArray} (h : SOwn w base v xs) (hb : Below w.heap.size w w') : SOwn w' base v xs := by
  obtain ⟨ao, cap, rfl, hc, h⟩ := h
  refine ⟨ao, cap, rfl, hc, ?_⟩
  rcases h with h | ⟨g, CAP, N, pre, post, rfl, hN, ho⟩
  · exact Or.inl h
  · exact Or.inr ⟨g, CAP, N, pre, post, rfl, hN, own_below ho hb⟩
theorem SOwn.alloc {w : World} {base : Nat} {v : Value} {xs : List ByteArray} (h : SOwn w base v xs) (o : Obj) : SOwn (w.alloc o) base v xs := h.below ((Below.refl _ _).alloc (Nat.le_refl _) _)
theorem SOwn.blk {w : World} {base : Nat} {v : Value} {xs : List ByteArray} (h : SOwn w base v xs) (hne : xs ≠ []) : ∃ g cs, v.ownBlock = some g ∧ base ≤ g ∧ w.heap[g]? = some (.cells cs 9 (0, 0)) := by
  obtain ⟨ao, cap, rfl, hc, h⟩ := h
  rcases h with h | ⟨g, CAP, N, pre, post, rfl, hN, ho⟩
  · exact absurd h hne
  · rcases ho.2 with ⟨e, _⟩ | ⟨g', cap', cur, e, hb, hg, _⟩
    · cases e
    · cases e
      exact ⟨_, cur, rfl, hb, hg⟩
theorem SOwn.kept {w w' : World} {base : Nat} {v : Value} {xs : List ByteArray} {o : Option Nat} (h : SOwn w base v xs) (hg : w.grownBy w' o) (hne : xs = [] ∨ ∀ g, v.ownBlock = some g → o ≠ some g) : SOwn w' base v xs := by
  obtain ⟨ao, cap, rfl, hc, h⟩ := h
  refine ⟨ao, cap, rfl, hc, ?_⟩
  rcases h with h | ⟨g, CAP, N, pre, post, rfl, hN, ho⟩
  · exact Or.inl h
  · rcases hne with hne | hne
    · exact Or.inl hne
    · refine Or.inr ⟨g, CAP, N, pre, post, rfl, hN, ho.kept hg (Or.inr fun e => hne g rfl ?_)⟩
      simpa [Value.ownBlock] using e.symm
end Go.Proofs.YtenegpbpalbpeaaGreatDoor
/-
  Links: what one is, and the contracts of the laws' helpers szLink, toLink, eqLink, markLink, heldLink. No condition.
-/
namespace Go.Proofs.YtenegpbpalbpeaaGreatDoor
open Go.RowKit
structure Lk where
  sent : Int
  acked : Int
  q : List ByteArray
  got : Int
  h : List Pc
theorem Tryz.sizeLk : (Tryz.prog.info? 138).map (·.size) = some 5 := by kernel_rfl
set_option maxHeartbeats 800000 in
theorem szlink_gen (l0 : Int) (hl0 : 0 ≤ l0) (hl1 : l0 ≤ 1048576) (vq vh : Value) (l : Lk) (w : World) (Rq : StRow w vq l.q) (Rh : PcRow w vh l.h) :
    Calls Tryz.prog 74 #[.agg #[.int .i64 l.sent, .int .i64 l.acked, vq, .int .i64 l.got, vh], .int .i64 l0] w fun e w' => ∃ r : Int, e = .returned (.int .i64 r) ∧ -1 ≤ r ∧ r ≤ 1048576 ∧ (0 ≤ r → l.q.length ≤ 1048576 ∧ l.h.length ≤ 1048576) ∧ Below w.heap.size w w' := by
  obtain ⟨a1, c1, rfl⟩ := Rq.small
  obtain ⟨a2, c2, rfl⟩ := Rh.small
  go_enter Tryz.func74, Tryz.ntmps74
  go_wp2_with fail
  have hB0 : Below w.heap.size w (w.alloc (Obj.cells #[.int .i64 l.sent, .int .i64 l.acked, .slice a1 l.q.length c1, .int .i64 l.got, .slice a2 l.h.length c2] 118)) := (Below.refl _ _).alloc (Nat.le_refl _) _
  refine (szstrs_any _ l.q l0 _ (Rq.below hB0) hl0 hl1).mono ?_
  rintro e w1 ⟨r1, rfl, h0, h1, h2, hb1⟩
  have hx1 : w1.heap[w.heap.size]? = some (.cells #[.int .i64 l.sent, .int .i64 l.acked, .slice a1 l.q.length c1, .int .i64 l.got, .slice a2 l.h.length c2] 118 (0, 0)) := (hb1.block _ (by simp)).trans (heap_alloc_new _ _)
  have hB1 := hB0.trans (hb1.mono hB0.size)
  have hc1 : w1.cell? ⟨w.heap.size, 0 + 4, none⟩ = some (.slice a2 l.h.length c2) := by rw [cell_of_row w1 _ 4 _ _ _ hx1]; rfl
  clear hB0 hb1
  by_cases hr : r1 < 0
  · have HR : Hid (r1 = -1) := by unfold Hid; omega
    go_wp2
    go_ret
    exact ⟨-1, rfl, by omega, by omega, fun h => by omega, hB1⟩
  · have h2 := h2 (by omega)
    go_wp2_with fail
    refine (szpcs_any _ l.h r1 _ (Rh.below hB1) (by omega) (by omega)).mono ?_
    rintro e w2 ⟨r2, rfl, k0, k1, k2, hb2⟩
    have hB2 := hB1.trans (hb2.mono hB1.size)
    clear hc1 hx1 hB1 hb2
    by_cases hr2 : r2 < 0
    · have HR : Hid (r2 = -1) := by unfold Hid; omega
      go_wp2
      go_ret
      exact ⟨-1, rfl, by omega, by omega, fun h => by omega, hB2⟩
    · have k2 := k2 (by omega)
      go_wp2
      go_ret
      exact ⟨r2, rfl, by omega, by omega, fun _ => ⟨h2.1, k2.1⟩, hB2⟩
set_option maxHeartbeats 800000 in
theorem eqlink_any (v1 v2 u1 u2 : Value) (l : Lk) (w : World) (R1 : StRow w v1 l.q) (R2 : PcRow w v2 l.h) (S1 : StRow w u1 l.q) (S2 : PcRow w u2 l.h) :
    Calls Tryz.prog 97 #[.agg #[.int .i64 l.sent, .int .i64 l.acked, v1, .int .i64 l.got, v2], .agg #[.int .i64 l.sent, .int .i64 l.acked, u1, .int .i64 l.got, u2]] w fun e w' => e = .returned (.bool true) ∧ Below w.heap.size w w' := by
  obtain ⟨a1, c1, rfl⟩ := R1.small
  obtain ⟨a2, c2, rfl⟩ := R2.small
  obtain ⟨b1, d1, rfl⟩ := S1.small
  obtain ⟨b2, d2, rfl⟩ := S2.small
  go_enter Tryz.func97, Tryz.ntmps97
  go_wp2_with fail
  have hB0 : Below w.heap.size w ((w.alloc (Obj.cells #[.int .i64 l.sent, .int .i64 l.acked, .slice a1 l.q.length c1, .int .i64 l.got, .slice a2 l.h.length c2] 138)).alloc (Obj.cells #[.int .i64 l.sent, .int .i64 l.acked, .slice b1 l.q.length d1, .int .i64 l.got, .slice b2 l.h.length d2] 138)) := ((Below.refl _ _).alloc (Nat.le_refl _) _).alloc (by simp) _
  refine (eqstrs_any _ _ l.q _ (R1.below hB0) (S1.below hB0)).mono ?_
  rintro e w1 ⟨rfl, hb1⟩
  have hx1 : w1.heap[w.heap.size]? = some (.cells #[.int .i64 l.sent, .int .i64 l.acked, .slice a1 l.q.length c1, .int .i64 l.got, .slice a2 l.h.length c2] 138 (0, 0)) := (hb1.block _ (by simp; omega)).trans ((heap_alloc_old _ _ (by simp)).trans (heap_alloc_new _ _))
  have hy1 : w1.heap[w.heap.size + 1]? = some (.cells #[.int .i64 l.sent, .int .i64 l.acked, .slice b1 l.q.length d1, .int .i64 l.got, .slice b2 l.h.length d2] 138 (0, 0)) := (hb1.block _ (by simp)).trans (heap_alloc2_new _ _ _)
  have hB1 := hB0.trans (hb1.mono hB0.size)
  have hc1 : w1.cell? ⟨w.heap.size, 0 + 3, none⟩ = some (.int .i64 l.got) := by rw [cell_of_row w1 _ 3 _ _ _ hx1]; rfl
  have hd1 : w1.cell? ⟨w.heap.size + 1, 0 + 3, none⟩ = some (.int .i64 l.got) := by rw [cell_of_row w1 _ 3 _ _ _ hy1]; rfl
  have hc2 : w1.cell? ⟨w.heap.size, 0 + 4, none⟩ = some (.slice a2 l.h.length c2) := by rw [cell_of_row w1 _ 4 _ _ _ hx1]; rfl
  have hd2 : w1.cell? ⟨w.heap.size + 1, 0 + 4, none⟩ = some (.slice b2 l.h.length d2) := by rw [cell_of_row w1 _ 4 _ _ _ hy1]; rfl
  clear hB0 hb1
  go_wp2_with fail
  refine (eqpcs_any _ _ l.h _ (R2.below hB1) (S2.below hB1)).mono ?_
  rintro e w2 ⟨rfl, hb2⟩
  have hB2 := hB1.trans (hb2.mono hB1.size)
  clear hc1 hd1 hx1 hy1 hB1 hb2 hc2 hd2
  go_wp2
  go_ret
  exact ⟨rfl, hB2⟩
set_option maxHeartbeats 1600000 in
theorem tolink_any (v1 v2 : Value) (l : Lk) (w : World) (R1 : StRow w v1 l.q) (R2 : PcRow w v2 l.h) (h1 : l.q.length ≤ 2097152) (h2 : l.h.length ≤ 2097152) :
    Calls Tryz.prog 85 #[.agg #[.int .i64 l.sent, .int .i64 l.acked, v1, .int .i64 l.got, v2]] w fun e w' => ∃ u1 u2, e = .returned (.agg #[.int .i64 l.sent, .int .i64 l.acked, u1, .int .i64 l.got, u2]) ∧ w'.ownsRow w.heap.size 9 1 u1 l.q.length (stv l.q) ∧ w'.ownsRow w.heap.size 139 2 u2 l.h.length (pccs l.h) ∧ Below w.heap.size w w' := by
  obtain ⟨a1, c1, rfl⟩ := R1.small
  obtain ⟨a2, c2, rfl⟩ := R2.small
  go_enter Tryz.func85, Tryz.ntmps85
  go_wp2_with fail
  have hB0 : Below w.heap.size w (((w.alloc (Obj.cells #[.int .i64 l.sent, .int .i64 l.acked, .slice a1 l.q.length c1, .int .i64 l.got, .slice a2 l.h.length c2] 118)).alloc (Obj.cells #[.int .i64 0, .int .i64 0, .slice none 0 0, .int .i64 0, .slice none 0 0] 138)).alloc (Obj.cells #[.int .i64 l.sent, .int .i64 l.acked, .slice none 0 0, .int .i64 0, .slice none 0 0] 138)) :=
    (((Below.refl _ _).alloc (Nat.le_refl _) _).alloc (by simp) _).alloc (by simp; omega) _
  refine (tostrs_any _ l.q _ (R1.below hB0) h1).mono ?_
  rintro e w1 ⟨u1, rfl, ho1, hb1⟩
  obtain ⟨b1, d1, rfl⟩ := own_form ho1
  have hx1 : w1.heap[w.heap.size]? = some (.cells #[.int .i64 l.sent, .int .i64 l.acked, .slice a1 l.q.length c1, .int .i64 l.got, .slice a2 l.h.length c2] 118 (0, 0)) := (hb1.block _ (by simp; omega)).trans ((heap_alloc_old _ _ (by simp; omega)).trans ((heap_alloc_old _ _ (by simp)).trans (heap_alloc_new _ _)))
  have hy1 : w1.heap[w.heap.size + 1]? = some (.cells #[.int .i64 0, .int .i64 0, .slice none 0 0, .int .i64 0, .slice none 0 0] 138 (0, 0)) := (hb1.block _ (by simp)).trans ((heap_alloc_old _ _ (by simp)).trans (heap_alloc2_new _ _ _))
  have hv1 : w1.heap[w.heap.size + 1 + 1]? = some (.cells #[.int .i64 l.sent, .int .i64 l.acked, .slice none 0 0, .int .i64 0, .slice none 0 0] 138 (0, 0)) := (hb1.block _ (by simp)).trans (heap_alloc3_new _ _ _ _)
  have hB1 := hB0.trans (hb1.mono hB0.size)
  have ho1' : w1.ownsRow (w.heap.size + 3) 9 1 (.slice b1 l.q.length d1) l.q.length (stv l.q) := by simpa using ho1
  have cv1 : w1.cell? ⟨w.heap.size + 1 + 1, 0 + 2, none⟩ = some (.slice none 0 0) := by rw [cell_of_row w1 _ 2 _ _ _ hv1]; rfl
  have cv3 : w1.cell? ⟨w.heap.size + 1 + 1, 0 + 3, none⟩ = some (.int .i64 0) := by rw [cell_of_row w1 _ 3 _ _ _ hv1]; rfl
  have fv1 : w1.frozen? ⟨w.heap.size + 1 + 1, 0 + 2, none⟩ = false := frozen_of_row w1 _ 2 _ _ hv1
  have fv3 : w1.frozen? ⟨w.heap.size + 1 + 1, 0 + 3, none⟩ = false := frozen_of_row w1 _ 3 _ _ hv1
  have cx1 : w1.cell? ⟨w.heap.size, 0 + 3, none⟩ = some (.int .i64 l.got) := by rw [cell_of_row w1 _ 3 _ _ _ hx1]; rfl
  have cx2 : w1.cell? ⟨w.heap.size, 0 + 4, none⟩ = some (.slice a2 l.h.length c2) := by rw [cell_of_row w1 _ 4 _ _ _ hx1]; rfl
  clear hB0 hb1 ho1
  go_wp2_with fail
  have hB1' : Below w.heap.size w ((w1.setCell ⟨w.heap.size + 1 + 1, 2, none⟩ (.slice b1 l.q.length d1)).setCell ⟨w.heap.size + 1 + 1, 3, none⟩ (.int .i64 l.got)) := (hB1.setCell (p := ⟨w.heap.size + 1 + 1, 2, none⟩) (by simp; omega) _).setCell (p := ⟨w.heap.size + 1 + 1, 3, none⟩) (by simp; omega) _
  refine (topcs_any _ l.h _ (R2.below hB1') h2).mono ?_
  rintro e w2 ⟨u2, rfl, ho2, hb2⟩
  obtain ⟨b2, d2, rfl⟩ := own_form ho2
  have ho1'' := own_below (ownsRow_setCell_below (ownsRow_setCell_below ho1' (a := ⟨w.heap.size + 1 + 1, 2, none⟩) (by simp) (.slice b1 l.q.length d1)) (a := ⟨w.heap.size + 1 + 1, 3, none⟩) (by simp) (.int .i64 l.got)) hb2
  have hy2 : w2.heap[w.heap.size + 1]? = some (.cells #[.int .i64 0, .int .i64 0, .slice none 0 0, .int .i64 0, .slice none 0 0] 138 (0, 0)) := (hb2.block _ (by simp; have := (Array.getElem?_eq_some_iff.1 hv1).1; omega)).trans ((heap_setCell_other _ ⟨w.heap.size + 1 + 1, 3, none⟩ (w.heap.size + 1) _ (by simp)).trans ((heap_setCell_other w1 ⟨w.heap.size + 1 + 1, 2, none⟩ (w.heap.size + 1) _ (by simp)).trans hy1))
  have hv2 : w2.heap[w.heap.size + 1 + 1]? = some (.cells #[.int .i64 l.sent, .int .i64 l.acked, .slice b1 l.q.length d1, .int .i64 l.got, .slice none 0 0] 138 (0, 0)) := (hb2.block _ (by simp; have := (Array.getElem?_eq_some_iff.1 hv1).1; omega)).trans (heap_setCell_same _ (w.heap.size + 1 + 1) 3 _ _ (.int .i64 l.got) (heap_setCell_same w1 (w.heap.size + 1 + 1) 2 _ _ (.slice b1 l.q.length d1) hv1))
  have hB2 := hB1'.trans (hb2.mono hB1'.size)
  have hsv := (Array.getElem?_eq_some_iff.1 hv1).1
  have ho2' : w2.ownsRow (w.heap.size + 3) 139 2 (.slice b2 l.h.length d2) l.h.length (pccs l.h) := own_mono ho2 (by simp; omega)
  have cv2 : w2.cell? ⟨w.heap.size + 1 + 1, 0 + 4, none⟩ = some (.slice none 0 0) := by rw [cell_of_row w2 _ 4 _ _ _ hv2]; rfl
  have fv2 : w2.frozen? ⟨w.heap.size + 1 + 1, 0 + 4, none⟩ = false := frozen_of_row w2 _ 4 _ _ hv2
  clear hB1 hB1' hb2 ho1' ho2 hx1 hy1 hv1 cv1 fv1 cx1 cx2 cv3 fv3
  have hv3 : (w2.setCell ⟨w.heap.size + 1 + 1, 4, none⟩ (.slice b2 l.h.length d2)).heap[w.heap.size + 1 + 1]? = some (.cells #[.int .i64 l.sent, .int .i64 l.acked, .slice b1 l.q.length d1, .int .i64 l.got, .slice b2 l.h.length d2] 138 (0, 0)) := heap_setCell_same w2 (w.heap.size + 1 + 1) 4 _ _ (.slice b2 l.h.length d2) hv2
  have hy3 := (heap_setCell_other w2 ⟨w.heap.size + 1 + 1, 4, none⟩ (w.heap.size + 1) (.slice b2 l.h.length d2) (by simp)).trans hy2
  go_wp2_with (first
    | refine wpList_load_row rfl 138 _ rfl (w.heap.size + 1 + 1) rfl 138 #[.int .i64 l.sent, .int .i64 l.acked, .slice b1 l.q.length d1, .int .i64 l.got, .slice b2 l.h.length d2] (0, 0) _ hv3 Tryz.underlying138 rfl Tryz.sizeLk ?_
    | refine wpList_store_own2 rfl 138 _ _ rfl (w.heap.size + 1) #[.int .i64 l.sent, .int .i64 l.acked, .slice b1 l.q.length d1, .int .i64 l.got, .slice b2 l.h.length d2] rfl rfl 138 _ hy3 Tryz.sizeLk rfl (by simp [Value.oneCell']) ?_)
  intro w3 hy4 hbg _ hoth
  have hB3 := (hB2.setCell (p := ⟨w.heap.size + 1 + 1, 4, none⟩) (by simp; omega) (.slice b2 l.h.length d2)).trans (hbg.mono (by omega))
  have up : ∀ {e : TypeId} {k : Nat} {v : Value} {n : Nat} {xs : List Value}, w2.ownsRow (w.heap.size + 3) e k v n xs → w3.ownsRow (w.heap.size + 3) e k v n xs := fun h =>
    own_keep (ownsRow_setCell_below h (a := ⟨w.heap.size + 1 + 1, 4, none⟩) (by simp) _) (by omega) hoth
  go_wp2
  exact bodyPost_ret (results_cell_row rfl _ _ (w.heap.size + 1) 138 _ (0, 0) _ rfl hy4 Tryz.underlying138 rfl Tryz.sizeLk) rfl ⟨_, _, rfl, own_mono (up ho1'') (by omega), own_mono (up ho2') (by omega), hB3⟩
def VarL (w : World) (b lo hi : Nat) (v1 v2 : Value) (l : Lk) : Prop :=
  w.heap[b]? = some (.cells #[.int .i64 l.sent, .int .i64 l.acked, v1, .int .i64 l.got, v2] 138 (0, 0)) ∧ SOwn w lo v1 l.q ∧ w.ownsRow lo 139 2 v2 l.h.length (pccs l.h) ∧ (l.q ≠ [] → ∀ k, v1.ownBlock = some k → k < hi) ∧ (∀ k, v2.ownBlock = some k → k < hi) ∧ hi ≤ w.heap.size
theorem VarL.new {w5 we : World} {lo : Nat} {v1 v2 : Value} {l : Lk} (h1 : SOwn w5 lo v1 l.q) (h2 : w5.ownsRow lo 139 2 v2 l.h.length (pccs l.h)) (hd : Below w5.heap.size w5 we) (hb : we.heap[w5.heap.size]? = some (.cells #[.int .i64 l.sent, .int .i64 l.acked, v1, .int .i64 l.got, v2] 138 (0, 0))) :
    VarL we w5.heap.size lo we.heap.size v1 v2 l :=
  ⟨hb, h1.below hd, own_below h2 hd, fun hne k hk => by
    obtain ⟨g, cs, e, _, hg⟩ := (h1.below hd).blk hne
    rw [hk] at e
    cases e
    exact (Array.getElem?_eq_some_iff.1 hg).1, fun k hk => ((own_below h2 hd).lt k hk).2, Nat.le_refl _⟩
theorem VarL.below {w w' : World} {b lo hi : Nat} {v1 v2 : Value} {l : Lk} (h : VarL w b lo hi v1 v2 l) (hb : Below w.heap.size w w') : VarL w' b lo hi v1 v2 l :=
  ⟨(hb.block b (Array.getElem?_eq_some_iff.1 h.1).1).trans h.1, h.2.1.below hb, own_below h.2.2.1 hb, h.2.2.2.1, h.2.2.2.2.1, Nat.le_trans h.2.2.2.2.2 hb.size⟩
theorem VarL.lt {w : World} {b lo hi : Nat} {v1 v2 : Value} {l : Lk} (h : VarL w b lo hi v1 v2 l) : b < w.heap.size := (Array.getElem?_eq_some_iff.1 h.1).1
def lmk (l : Lk) : Lk := ⟨l.sent, l.acked, sm 1 l.q.length, l.got, pmarked (1 + l.q.length) l.h l.h.length⟩
def Turned (w w' : World) (lo hi : Nat) : Prop :=
  w'.os = w.os ∧ w'.tape = w.tape ∧ w'.output = w.output ∧ w.heap.size ≤ w'.heap.size ∧ ∀ k, k < w.heap.size → (k < lo ∨ hi ≤ k ∨ ∃ cs t, w.heap[k]? = some (.cells cs t (0, 0)) ∧ t ≠ 9 ∧ t ≠ 139) → w'.heap[k]? = w.heap[k]?
theorem Turned.block {w w' : World} {lo hi k : Nat} {cs : Array Value} {t : TypeId} (h : Turned w w' lo hi) (hk : w.heap[k]? = some (.cells cs t (0, 0))) (h1 : t ≠ 9) (h2 : t ≠ 139) : w'.heap[k]? = some (.cells cs t (0, 0)) :=
  (h.2.2.2.2 k (Array.getElem?_eq_some_iff.1 hk).1 (Or.inr (Or.inr ⟨cs, t, hk, h1, h2⟩))).trans hk
theorem own_turned {w w' : World} {lo hi lo' hi' k n : Nat} {e : TypeId} {v : Value} {xs : List Value} (h : Turned w w' lo hi) (ho : w.ownsRow lo' e k v n xs) (hv : ∀ g, v.ownBlock = some g → g < hi') (hd : hi' ≤ lo ∨ hi ≤ lo') : w'.ownsRow lo' e k v n xs := by
  refine ⟨ho.1, ?_⟩
  rcases ho.2 with ⟨rfl, h0⟩ | ⟨g, cap, cur, rfl, hb, hg, hr⟩
  · exact Or.inl ⟨rfl, h0⟩
  · have h1 := hv g rfl
    exact Or.inr ⟨g, cap, cur, rfl, hb, (h.2.2.2.2 g (Array.getElem?_eq_some_iff.1 hg).1 (by omega)).trans hg, hr⟩
theorem VarL.turned {w w' : World} {lo hi b lo' hi' : Nat} {v1 v2 : Value} {l : Lk} (h : Turned w w' lo hi) (V : VarL w b lo' hi' v1 v2 l) (hd : hi' ≤ lo ∨ hi ≤ lo') : VarL w' b lo' hi' v1 v2 l := by
  refine ⟨h.block V.1 (by decide) (by decide), ?_, own_turned h V.2.2.1 V.2.2.2.2.1 hd, V.2.2.2.1, V.2.2.2.2.1, Nat.le_trans V.2.2.2.2.2 h.2.2.2.1⟩
  obtain ⟨ao, cap, rfl, hc, hq⟩ := V.2.1
  refine ⟨ao, cap, rfl, hc, ?_⟩
  by_cases hne : l.q = []
  · exact Or.inl hne
  · rcases hq with hq | ⟨g, CAP, N, pre, post, rfl, hN, ho⟩
    · exact absurd hq hne
    · exact Or.inr ⟨g, CAP, N, pre, post, rfl, hN, own_turned h ho (fun g' e => V.2.2.2.1 hne g' (by simpa [Value.ownBlock] using e)) hd⟩
end Go.Proofs.YtenegpbpalbpeaaGreatDoor
/-
  Helpers for regions that draw their order and load whole structs. Nothing of the program; no condition.
-/
namespace Go.Proofs.YtenegpbpalbpeaaGreatDoor
open Go.RowKit
theorem yields_row {P : Program} {ops : Array Oper} {S : World → Prop} {op : Oper} {a : Act} (hw : Region.wanted op (yielded ops a.tmps) = true) (ty : TypeId) (x : Operand) (ho : op.op = .load ty x)
    (b : Nat) (hx : a.eval x = .pointer (some ⟨b, 0, none⟩)) (cs : Array Value) (t : TypeId) (d : TypeDesc) (hS : ∀ w, S w → w.heap[b]? = some (.cells cs t (0, 0)))
    (hu : P.underlying ty = some d) (hd : d.isRow = true) (hi : (P.info? ty).map (·.size) = some cs.size) : YieldsIf P ops S op (.agg cs) a := by
  have h := yieldsIf_load_mid (P := P) (ops := ops) (S := S) (op := op) (a := a) hw ty x ho b 0 hx cs.toList d (fun w hw' => by
    have hr := World.rangeAt_of_block (hS w hw') 0 cs.size
    simpa using hr) hu hd (by simpa using hi)
  simpa using h
theorem drew_bel (w : World) : Below w.heap.size w w.drew := (Below.refl _ _).drew
theorem alloc_bel (w : World) (o : Obj) : Below w.heap.size w (w.alloc o) := (Below.refl _ _).alloc (Nat.le_refl _) _
theorem blk_lt {w : World} {b : Nat} {o : Obj} (h : w.heap[b]? = some o) : b < w.heap.size := (Array.getElem?_eq_some_iff.1 h).1
theorem blk_bel {w w' : World} {b : Nat} {o : Obj} (h : w.heap[b]? = some o) (hb : Below w.heap.size w w') : w'.heap[b]? = some o := (hb.block _ (blk_lt h)).trans h
end Go.Proofs.YtenegpbpalbpeaaGreatDoor
