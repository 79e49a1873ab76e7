/-
  Links: what one is, and the contracts of the laws' helpers szLink, toLink, eqLink, markLink, heldLink. No condition.
-/
import Derived.Test.YtllfojddaobpmaaStrs
import Derived.Test.YtllfojddaobpmaaPcMark
import Derived.Test.YtllfojddaobpmaaStore2
namespace Go.Proofs.Ytllfojddaobpmaa
open Go.RowKit

structure Lk where
  sent : Int
  acked : Int
  q : List ByteArray
  got : Int
  h : List Pc

theorem Try.sizeLk : (Try.prog.info? 119).map (·.size) = some 5 := by kernel_rfl
theorem Try.sizeLLk : (Try.prog.info? 103).map (·.size) = some 5 := by kernel_rfl

set_option maxHeartbeats 800000 in
theorem szlink_gen (l0 : Int) (hl0 : 0 ≤ l0) (hl1 : l0 ≤ 1048576) (vq vh : Value) (l : Lk) (w : World) (Rq : StRow w vq l.q) (Rh : PcRow w vh l.h) :
    Calls Try.prog 44 #[.agg #[.int .i64 l.sent, .int .i64 l.acked, vq, .int .i64 l.got, vh], .int .i64 l0] w fun e w' => ∃ r : Int, e = .returned (.int .i64 r) ∧ -1 ≤ r ∧ r ≤ 1048576 ∧ (0 ≤ r → l.q.length ≤ 1048576 ∧ l.h.length ≤ 1048576) ∧ Below w.heap.size w w' := by
  obtain ⟨a1, c1, rfl⟩ := Rq.small
  obtain ⟨a2, c2, rfl⟩ := Rh.small
  go_enter Try.func44, Try.ntmps44
  go_wp2_with fail
  have hB0 : Below w.heap.size w (w.alloc (Obj.cells #[.int .i64 l.sent, .int .i64 l.acked, .slice a1 l.q.length c1, .int .i64 l.got, .slice a2 l.h.length c2] 103)) := (Below.refl _ _).alloc (Nat.le_refl _) _
  refine (szstrs_any _ l.q l0 _ (Rq.below hB0) hl0 hl1).mono ?_
  rintro e w1 ⟨r1, rfl, h0, h1, h2, hb1⟩
  have hx1 : w1.heap[w.heap.size]? = some (.cells #[.int .i64 l.sent, .int .i64 l.acked, .slice a1 l.q.length c1, .int .i64 l.got, .slice a2 l.h.length c2] 103 (0, 0)) := (hb1.block _ (by simp)).trans (heap_alloc_new _ _)
  have hB1 := hB0.trans (hb1.mono hB0.size)
  have hc1 : w1.cell? ⟨w.heap.size, 0 + 4, none⟩ = some (.slice a2 l.h.length c2) := by rw [cell_of_row w1 _ 4 _ _ _ hx1]; rfl
  clear hB0 hb1
  by_cases hr : r1 < 0
  · have HR : Hid (r1 = -1) := by unfold Hid; omega
    go_wp2
    go_ret
    exact ⟨-1, rfl, by omega, by omega, fun h => by omega, hB1⟩
  · have h2 := h2 (by omega)
    go_wp2_with fail
    refine (szpcs_any _ l.h r1 _ (Rh.below hB1) (by omega) (by omega)).mono ?_
    rintro e w2 ⟨r2, rfl, k0, k1, k2, hb2⟩
    have hB2 := hB1.trans (hb2.mono hB1.size)
    clear hc1 hx1 hB1 hb2
    by_cases hr2 : r2 < 0
    · have HR : Hid (r2 = -1) := by unfold Hid; omega
      go_wp2
      go_ret
      exact ⟨-1, rfl, by omega, by omega, fun h => by omega, hB2⟩
    · have k2 := k2 (by omega)
      go_wp2
      go_ret
      exact ⟨r2, rfl, by omega, by omega, fun _ => ⟨h2.1, k2.1⟩, hB2⟩

theorem szlink_any (vq vh : Value) (l : Lk) (w : World) (Rq : StRow w vq l.q) (Rh : PcRow w vh l.h) :
    Calls Try.prog 44 #[.agg #[.int .i64 l.sent, .int .i64 l.acked, vq, .int .i64 l.got, vh], .int .i64 1048576] w fun e w' => ∃ r : Int, e = .returned (.int .i64 r) ∧ -1 ≤ r ∧ r ≤ 1048576 ∧ (0 ≤ r → l.q.length ≤ 1048576 ∧ l.h.length ≤ 1048576) ∧ Below w.heap.size w w' :=
  szlink_gen 1048576 (by omega) (by omega) vq vh l w Rq Rh

set_option maxHeartbeats 800000 in
theorem eqlink_any (v1 v2 u1 u2 : Value) (l : Lk) (w : World) (R1 : StRow w v1 l.q) (R2 : PcRow w v2 l.h) (S1 : StRow w u1 l.q) (S2 : PcRow w u2 l.h) :
    Calls Try.prog 60 #[.agg #[.int .i64 l.sent, .int .i64 l.acked, v1, .int .i64 l.got, v2], .agg #[.int .i64 l.sent, .int .i64 l.acked, u1, .int .i64 l.got, u2]] w fun e w' => e = .returned (.bool true) ∧ Below w.heap.size w w' := by
  obtain ⟨a1, c1, rfl⟩ := R1.small
  obtain ⟨a2, c2, rfl⟩ := R2.small
  obtain ⟨b1, d1, rfl⟩ := S1.small
  obtain ⟨b2, d2, rfl⟩ := S2.small
  go_enter Try.func60, Try.ntmps60
  go_wp2_with fail
  have hB0 : Below w.heap.size w ((w.alloc (Obj.cells #[.int .i64 l.sent, .int .i64 l.acked, .slice a1 l.q.length c1, .int .i64 l.got, .slice a2 l.h.length c2] 119)).alloc (Obj.cells #[.int .i64 l.sent, .int .i64 l.acked, .slice b1 l.q.length d1, .int .i64 l.got, .slice b2 l.h.length d2] 119)) := ((Below.refl _ _).alloc (Nat.le_refl _) _).alloc (by simp) _
  refine (eqstrs_any _ _ l.q _ (R1.below hB0) (S1.below hB0)).mono ?_
  rintro e w1 ⟨rfl, hb1⟩
  have hx1 : w1.heap[w.heap.size]? = some (.cells #[.int .i64 l.sent, .int .i64 l.acked, .slice a1 l.q.length c1, .int .i64 l.got, .slice a2 l.h.length c2] 119 (0, 0)) := (hb1.block _ (by simp; omega)).trans ((heap_alloc_old _ _ (by simp)).trans (heap_alloc_new _ _))
  have hy1 : w1.heap[w.heap.size + 1]? = some (.cells #[.int .i64 l.sent, .int .i64 l.acked, .slice b1 l.q.length d1, .int .i64 l.got, .slice b2 l.h.length d2] 119 (0, 0)) := (hb1.block _ (by simp)).trans (heap_alloc2_new _ _ _)
  have hB1 := hB0.trans (hb1.mono hB0.size)
  have hc1 : w1.cell? ⟨w.heap.size, 0 + 3, none⟩ = some (.int .i64 l.got) := by rw [cell_of_row w1 _ 3 _ _ _ hx1]; rfl
  have hd1 : w1.cell? ⟨w.heap.size + 1, 0 + 3, none⟩ = some (.int .i64 l.got) := by rw [cell_of_row w1 _ 3 _ _ _ hy1]; rfl
  have hc2 : w1.cell? ⟨w.heap.size, 0 + 4, none⟩ = some (.slice a2 l.h.length c2) := by rw [cell_of_row w1 _ 4 _ _ _ hx1]; rfl
  have hd2 : w1.cell? ⟨w.heap.size + 1, 0 + 4, none⟩ = some (.slice b2 l.h.length d2) := by rw [cell_of_row w1 _ 4 _ _ _ hy1]; rfl
  clear hB0 hb1
  go_wp2_with fail
  refine (eqpcs_any _ _ l.h _ (R2.below hB1) (S2.below hB1)).mono ?_
  rintro e w2 ⟨rfl, hb2⟩
  have hB2 := hB1.trans (hb2.mono hB1.size)
  clear hc1 hd1 hx1 hy1 hB1 hb2 hc2 hd2
  go_wp2
  go_ret
  exact ⟨rfl, hB2⟩

set_option maxHeartbeats 1600000 in
theorem tolink_any (v1 v2 : Value) (l : Lk) (w : World) (R1 : StRow w v1 l.q) (R2 : PcRow w v2 l.h) (h1 : l.q.length ≤ 2097152) (h2 : l.h.length ≤ 2097152) :
    Calls Try.prog 52 #[.agg #[.int .i64 l.sent, .int .i64 l.acked, v1, .int .i64 l.got, v2]] w fun e w' => ∃ u1 u2, e = .returned (.agg #[.int .i64 l.sent, .int .i64 l.acked, u1, .int .i64 l.got, u2]) ∧ w'.ownsRow w.heap.size 9 1 u1 l.q.length (stv l.q) ∧ w'.ownsRow w.heap.size 121 2 u2 l.h.length (pccs l.h) ∧ Below w.heap.size w w' := by
  obtain ⟨a1, c1, rfl⟩ := R1.small
  obtain ⟨a2, c2, rfl⟩ := R2.small
  go_enter Try.func52, Try.ntmps52
  go_wp2_with fail
  have hB0 : Below w.heap.size w (((w.alloc (Obj.cells #[.int .i64 l.sent, .int .i64 l.acked, .slice a1 l.q.length c1, .int .i64 l.got, .slice a2 l.h.length c2] 103)).alloc (Obj.cells #[.int .i64 0, .int .i64 0, .slice none 0 0, .int .i64 0, .slice none 0 0] 119)).alloc (Obj.cells #[.int .i64 l.sent, .int .i64 l.acked, .slice none 0 0, .int .i64 0, .slice none 0 0] 119)) :=
    (((Below.refl _ _).alloc (Nat.le_refl _) _).alloc (by simp) _).alloc (by simp; omega) _
  refine (tostrs_any _ l.q _ (R1.below hB0) h1).mono ?_
  rintro e w1 ⟨u1, rfl, ho1, hb1⟩
  obtain ⟨b1, d1, rfl⟩ := own_form ho1
  have hx1 : w1.heap[w.heap.size]? = some (.cells #[.int .i64 l.sent, .int .i64 l.acked, .slice a1 l.q.length c1, .int .i64 l.got, .slice a2 l.h.length c2] 103 (0, 0)) := (hb1.block _ (by simp; omega)).trans ((heap_alloc_old _ _ (by simp; omega)).trans ((heap_alloc_old _ _ (by simp)).trans (heap_alloc_new _ _)))
  have hy1 : w1.heap[w.heap.size + 1]? = some (.cells #[.int .i64 0, .int .i64 0, .slice none 0 0, .int .i64 0, .slice none 0 0] 119 (0, 0)) := (hb1.block _ (by simp)).trans ((heap_alloc_old _ _ (by simp)).trans (heap_alloc2_new _ _ _))
  have hv1 : w1.heap[w.heap.size + 1 + 1]? = some (.cells #[.int .i64 l.sent, .int .i64 l.acked, .slice none 0 0, .int .i64 0, .slice none 0 0] 119 (0, 0)) := (hb1.block _ (by simp)).trans (heap_alloc3_new _ _ _ _)
  have hB1 := hB0.trans (hb1.mono hB0.size)
  have ho1' : w1.ownsRow (w.heap.size + 3) 9 1 (.slice b1 l.q.length d1) l.q.length (stv l.q) := by simpa using ho1
  have cv1 : w1.cell? ⟨w.heap.size + 1 + 1, 0 + 2, none⟩ = some (.slice none 0 0) := by rw [cell_of_row w1 _ 2 _ _ _ hv1]; rfl
  have cv3 : w1.cell? ⟨w.heap.size + 1 + 1, 0 + 3, none⟩ = some (.int .i64 0) := by rw [cell_of_row w1 _ 3 _ _ _ hv1]; rfl
  have fv1 : w1.frozen? ⟨w.heap.size + 1 + 1, 0 + 2, none⟩ = false := frozen_of_row w1 _ 2 _ _ hv1
  have fv3 : w1.frozen? ⟨w.heap.size + 1 + 1, 0 + 3, none⟩ = false := frozen_of_row w1 _ 3 _ _ hv1
  have cx1 : w1.cell? ⟨w.heap.size, 0 + 3, none⟩ = some (.int .i64 l.got) := by rw [cell_of_row w1 _ 3 _ _ _ hx1]; rfl
  have cx2 : w1.cell? ⟨w.heap.size, 0 + 4, none⟩ = some (.slice a2 l.h.length c2) := by rw [cell_of_row w1 _ 4 _ _ _ hx1]; rfl
  clear hB0 hb1 ho1
  go_wp2_with fail
  have hB1' : Below w.heap.size w ((w1.setCell ⟨w.heap.size + 1 + 1, 2, none⟩ (.slice b1 l.q.length d1)).setCell ⟨w.heap.size + 1 + 1, 3, none⟩ (.int .i64 l.got)) := (hB1.setCell (p := ⟨w.heap.size + 1 + 1, 2, none⟩) (by simp; omega) _).setCell (p := ⟨w.heap.size + 1 + 1, 3, none⟩) (by simp; omega) _
  refine (topcs_any _ l.h _ (R2.below hB1') h2).mono ?_
  rintro e w2 ⟨u2, rfl, ho2, hb2⟩
  obtain ⟨b2, d2, rfl⟩ := own_form ho2
  have ho1'' := own_below (ownsRow_setCell_below (ownsRow_setCell_below ho1' (a := ⟨w.heap.size + 1 + 1, 2, none⟩) (by simp) (.slice b1 l.q.length d1)) (a := ⟨w.heap.size + 1 + 1, 3, none⟩) (by simp) (.int .i64 l.got)) hb2
  have hy2 : w2.heap[w.heap.size + 1]? = some (.cells #[.int .i64 0, .int .i64 0, .slice none 0 0, .int .i64 0, .slice none 0 0] 119 (0, 0)) := (hb2.block _ (by simp; have := (Array.getElem?_eq_some_iff.1 hv1).1; omega)).trans ((heap_setCell_other _ ⟨w.heap.size + 1 + 1, 3, none⟩ (w.heap.size + 1) _ (by simp)).trans ((heap_setCell_other w1 ⟨w.heap.size + 1 + 1, 2, none⟩ (w.heap.size + 1) _ (by simp)).trans hy1))
  have hv2 : w2.heap[w.heap.size + 1 + 1]? = some (.cells #[.int .i64 l.sent, .int .i64 l.acked, .slice b1 l.q.length d1, .int .i64 l.got, .slice none 0 0] 119 (0, 0)) := (hb2.block _ (by simp; have := (Array.getElem?_eq_some_iff.1 hv1).1; omega)).trans (heap_setCell_same _ (w.heap.size + 1 + 1) 3 _ _ (.int .i64 l.got) (heap_setCell_same w1 (w.heap.size + 1 + 1) 2 _ _ (.slice b1 l.q.length d1) hv1))
  have hB2 := hB1'.trans (hb2.mono hB1'.size)
  have hsv := (Array.getElem?_eq_some_iff.1 hv1).1
  have ho2' : w2.ownsRow (w.heap.size + 3) 121 2 (.slice b2 l.h.length d2) l.h.length (pccs l.h) := own_mono ho2 (by simp; omega)
  have cv2 : w2.cell? ⟨w.heap.size + 1 + 1, 0 + 4, none⟩ = some (.slice none 0 0) := by rw [cell_of_row w2 _ 4 _ _ _ hv2]; rfl
  have fv2 : w2.frozen? ⟨w.heap.size + 1 + 1, 0 + 4, none⟩ = false := frozen_of_row w2 _ 4 _ _ hv2
  clear hB1 hB1' hb2 ho1' ho2 hx1 hy1 hv1 cv1 fv1 cx1 cx2 cv3 fv3
  have hv3 : (w2.setCell ⟨w.heap.size + 1 + 1, 4, none⟩ (.slice b2 l.h.length d2)).heap[w.heap.size + 1 + 1]? = some (.cells #[.int .i64 l.sent, .int .i64 l.acked, .slice b1 l.q.length d1, .int .i64 l.got, .slice b2 l.h.length d2] 119 (0, 0)) := heap_setCell_same w2 (w.heap.size + 1 + 1) 4 _ _ (.slice b2 l.h.length d2) hv2
  have hy3 := (heap_setCell_other w2 ⟨w.heap.size + 1 + 1, 4, none⟩ (w.heap.size + 1) (.slice b2 l.h.length d2) (by simp)).trans hy2
  go_wp2_with (first
    | refine wpList_load_row rfl 119 _ rfl (w.heap.size + 1 + 1) rfl 119 #[.int .i64 l.sent, .int .i64 l.acked, .slice b1 l.q.length d1, .int .i64 l.got, .slice b2 l.h.length d2] (0, 0) _ hv3 Try.underlying119 rfl Try.sizeLk ?_
    | refine wpList_store_own2 rfl 119 _ _ rfl (w.heap.size + 1) #[.int .i64 l.sent, .int .i64 l.acked, .slice b1 l.q.length d1, .int .i64 l.got, .slice b2 l.h.length d2] rfl rfl 119 _ hy3 Try.sizeLk rfl (by simp [Value.oneCell']) ?_)
  intro w3 hy4 hbg _ hoth
  have hB3 := (hB2.setCell (p := ⟨w.heap.size + 1 + 1, 4, none⟩) (by simp; omega) (.slice b2 l.h.length d2)).trans (hbg.mono (by omega))
  have up : ∀ {e : TypeId} {k : Nat} {v : Value} {n : Nat} {xs : List Value}, w2.ownsRow (w.heap.size + 3) e k v n xs → w3.ownsRow (w.heap.size + 3) e k v n xs := fun h =>
    own_keep (ownsRow_setCell_below h (a := ⟨w.heap.size + 1 + 1, 4, none⟩) (by simp) _) (by omega) hoth
  go_wp2
  exact bodyPost_ret (results_cell_row rfl _ _ (w.heap.size + 1) 119 _ (0, 0) _ rfl hy4 Try.underlying119 rfl Try.sizeLk) rfl ⟨_, _, rfl, own_mono (up ho1'') (by omega), own_mono (up ho2') (by omega), hB3⟩

/-- A slice of texts that lies in a row of one's own, maybe behind others there. -/
def SOwn (w : World) (base : Nat) (v : Value) (xs : List ByteArray) : Prop :=
  ∃ ao cap, v = .slice ao xs.length cap ∧ (xs.length ≤ cap ∧ (ao = none → cap = 0)) ∧
    (xs = [] ∨ ∃ g CAP N pre post, ao = some ⟨g, pre.length, none⟩ ∧ pre.length + xs.length + post.length = N ∧ w.ownsRow base 9 1 (.slice (some ⟨g, 0, none⟩) N CAP) N (stv (pre ++ (xs ++ post))))
theorem SOwn.form {w : World} {base : Nat} {v : Value} {xs : List ByteArray} (h : SOwn w base v xs) : ∃ ao cap, v = .slice ao xs.length cap := by
  obtain ⟨ao, cap, rfl, _⟩ := h
  exact ⟨ao, cap, rfl⟩
theorem SOwn.of_own {w : World} {base : Nat} {v : Value} {xs : List ByteArray} (h : w.ownsRow base 9 1 v xs.length (stv xs)) : SOwn w base v xs := by
  have h' := h
  rcases h.2 with ⟨rfl, h0⟩ | ⟨g, cap, cur, rfl, hb, hg, hnc, hcm, hcs, htake⟩
  · have : xs = [] := List.eq_nil_of_length_eq_zero h0
    subst this
    exact ⟨none, 0, rfl, by simp, Or.inl rfl⟩
  · exact ⟨_, cap, rfl, ⟨hnc, fun h => by cases h⟩, Or.inr ⟨g, cap, xs.length, [], [], rfl, by simp, by simpa using h'⟩⟩
theorem SOwn.row {w : World} {base : Nat} {v : Value} {xs : List ByteArray} (h : SOwn w base v xs) (hm : xs.length ≤ 9223372036854775807) (hz : ∀ x ∈ xs, x.size ≤ maxLen) : StRow w v xs := by
  obtain ⟨ao, cap, rfl, hc, h⟩ := h
  refine ⟨ao, cap, rfl, hc, hm, hz, fun hne => ?_⟩
  rcases h with h | ⟨g, CAP, N, pre, post, rfl, hN, ho⟩
  · exact absurd h hne
  · refine ⟨g, pre.length, rfl, (ho.lt g rfl).2, fun i x hi => ?_⟩
    have hil : i < xs.length := (List.getElem?_eq_some_iff.1 hi).1
    have := ho.cellAt (pre.length + i) (by omega)
    rw [this]
    apply stv_get
    rw [List.getElem?_append_right (by omega), show pre.length + i - pre.length = i by omega, List.getElem?_append_left hil]
    exact hi
theorem SOwn.below {w w' : World} {base : Nat} {v : Value} {xs : List ByteArray} (h : SOwn w base v xs) (hb : Below w.heap.size w w') : SOwn w' base v xs := by
  obtain ⟨ao, cap, rfl, hc, h⟩ := h
  refine ⟨ao, cap, rfl, hc, ?_⟩
  rcases h with h | ⟨g, CAP, N, pre, post, rfl, hN, ho⟩
  · exact Or.inl h
  · exact Or.inr ⟨g, CAP, N, pre, post, rfl, hN, own_below ho hb⟩
theorem SOwn.alloc {w : World} {base : Nat} {v : Value} {xs : List ByteArray} (h : SOwn w base v xs) (o : Obj) : SOwn (w.alloc o) base v xs := h.below ((Below.refl _ _).alloc (Nat.le_refl _) _)
/-- Where it is not empty, its block is one of texts, from base on. -/
theorem SOwn.blk {w : World} {base : Nat} {v : Value} {xs : List ByteArray} (h : SOwn w base v xs) (hne : xs ≠ []) : ∃ g cs, v.ownBlock = some g ∧ base ≤ g ∧ w.heap[g]? = some (.cells cs 9 (0, 0)) := by
  obtain ⟨ao, cap, rfl, hc, h⟩ := h
  rcases h with h | ⟨g, CAP, N, pre, post, rfl, hN, ho⟩
  · exact absurd h hne
  · rcases ho.2 with ⟨e, _⟩ | ⟨g', cap', cur, e, hb, hg, _⟩
    · cases e
    · cases e
      exact ⟨_, cur, rfl, hb, hg⟩
theorem SOwn.kept {w w' : World} {base : Nat} {v : Value} {xs : List ByteArray} {o : Option Nat} (h : SOwn w base v xs) (hg : w.grownBy w' o) (hne : xs = [] ∨ ∀ g, v.ownBlock = some g → o ≠ some g) : SOwn w' base v xs := by
  obtain ⟨ao, cap, rfl, hc, h⟩ := h
  refine ⟨ao, cap, rfl, hc, ?_⟩
  rcases h with h | ⟨g, CAP, N, pre, post, rfl, hN, ho⟩
  · exact Or.inl h
  · rcases hne with hne | hne
    · exact Or.inl hne
    · refine Or.inr ⟨g, CAP, N, pre, post, rfl, hN, ho.kept hg (Or.inr fun e => hne g rfl ?_)⟩
      simpa [Value.ownBlock] using e.symm

/-- What a link's variable holds: at block b, a link whose rows lie between lo and hi and read as l has them. -/
def VarL (w : World) (b lo hi : Nat) (v1 v2 : Value) (l : Lk) : Prop :=
  w.heap[b]? = some (.cells #[.int .i64 l.sent, .int .i64 l.acked, v1, .int .i64 l.got, v2] 119 (0, 0)) ∧ SOwn w lo v1 l.q ∧ w.ownsRow lo 121 2 v2 l.h.length (pccs l.h) ∧ (l.q ≠ [] → ∀ k, v1.ownBlock = some k → k < hi) ∧ (∀ k, v2.ownBlock = some k → k < hi) ∧ hi ≤ w.heap.size
theorem VarL.new {w5 we : World} {lo : Nat} {v1 v2 : Value} {l : Lk} (h1 : SOwn w5 lo v1 l.q) (h2 : w5.ownsRow lo 121 2 v2 l.h.length (pccs l.h)) (hd : Below w5.heap.size w5 we) (hb : we.heap[w5.heap.size]? = some (.cells #[.int .i64 l.sent, .int .i64 l.acked, v1, .int .i64 l.got, v2] 119 (0, 0))) :
    VarL we w5.heap.size lo we.heap.size v1 v2 l :=
  ⟨hb, h1.below hd, own_below h2 hd, fun hne k hk => by
    obtain ⟨g, cs, e, _, hg⟩ := (h1.below hd).blk hne
    rw [hk] at e
    cases e
    exact (Array.getElem?_eq_some_iff.1 hg).1, fun k hk => ((own_below h2 hd).lt k hk).2, Nat.le_refl _⟩
theorem VarL.below {w w' : World} {b lo hi : Nat} {v1 v2 : Value} {l : Lk} (h : VarL w b lo hi v1 v2 l) (hb : Below w.heap.size w w') : VarL w' b lo hi v1 v2 l :=
  ⟨(hb.block b (Array.getElem?_eq_some_iff.1 h.1).1).trans h.1, h.2.1.below hb, own_below h.2.2.1 hb, h.2.2.2.1, h.2.2.2.2.1, Nat.le_trans h.2.2.2.2.2 hb.size⟩
theorem VarL.lt {w : World} {b lo hi : Nat} {v1 v2 : Value} {l : Lk} (h : VarL w b lo hi v1 v2 l) : b < w.heap.size := (Array.getElem?_eq_some_iff.1 h.1).1
theorem VarL.row1 {w : World} {b lo hi : Nat} {v1 v2 : Value} {l : Lk} (h : VarL w b lo hi v1 v2 l) (hm : l.q.length ≤ 4194304) (hz : ∀ x ∈ l.q, x.size ≤ maxLen) : StRow w v1 l.q := h.2.1.row (by omega) hz
theorem VarL.row2 {w : World} {b lo hi : Nat} {v1 v2 : Value} {l : Lk} (h : VarL w b lo hi v1 v2 l) (hm : l.h.length ≤ 4194304) (hz : ∀ x ∈ l.h, x.s.size ≤ maxLen) : PcRow w v2 l.h := PcRow.of_own h.2.2.1 (by omega) hz
/-- What another block's turning leaves. -/
theorem VarL.keptBy {w w' : World} {b lo hi : Nat} {v1 v2 : Value} {l : Lk} {o : Option Nat} (h : VarL w b lo hi v1 v2 l) (hg : w.grownBy w' o) (hb : ∀ k, o = some k → k ≠ b ∧ (k < lo ∨ hi ≤ k)) : VarL w' b lo hi v1 v2 l := by
  refine ⟨(hg.block b h.lt (fun e => (hb b e.symm).1 rfl)).trans h.1, h.2.1.kept hg ?_, h.2.2.1.kept hg ?_, h.2.2.2.1, h.2.2.2.2.1, Nat.le_trans h.2.2.2.2.2 hg.size⟩
  · by_cases hq : l.q = []
    · exact Or.inl hq
    · refine Or.inr fun g e eo => ?_
      obtain ⟨g', cs, e', hlo, _⟩ := h.2.1.blk hq
      rw [e] at e'
      cases e'
      have k1 := h.2.2.2.1 hq g e
      have k3 := (hb g eo).2
      omega
  · cases hv : v2.ownBlock with
    | none => exact Or.inl rfl
    | some k =>
      refine Or.inr fun e => ?_
      have k1 := h.2.2.2.2.1 k hv
      have k2 := (h.2.2.1.lt k hv).1
      have k3 := (hb k e.symm).2
      omega
/-- What is marked of a link: its texts, and its pieces behind them. -/
def lmk (l : Lk) : Lk := ⟨l.sent, l.acked, sm 1 l.q.length, l.got, pmarked (1 + l.q.length) l.h l.h.length⟩
/-- All but rows of texts and of pieces between lo and hi stay, and what is new. -/
def Turned (w w' : World) (lo hi : Nat) : Prop :=
  w'.os = w.os ∧ w'.tape = w.tape ∧ w'.output = w.output ∧ w.heap.size ≤ w'.heap.size ∧ ∀ k, k < w.heap.size → (k < lo ∨ hi ≤ k ∨ ∃ cs t, w.heap[k]? = some (.cells cs t (0, 0)) ∧ t ≠ 9 ∧ t ≠ 121) → w'.heap[k]? = w.heap[k]?
theorem Turned.block {w w' : World} {lo hi k : Nat} {cs : Array Value} {t : TypeId} (h : Turned w w' lo hi) (hk : w.heap[k]? = some (.cells cs t (0, 0))) (h1 : t ≠ 9) (h2 : t ≠ 121) : w'.heap[k]? = some (.cells cs t (0, 0)) :=
  (h.2.2.2.2 k (Array.getElem?_eq_some_iff.1 hk).1 (Or.inr (Or.inr ⟨cs, t, hk, h1, h2⟩))).trans hk
theorem Turned.belowT {w0 w w' : World} {lo hi B : Nat} (h0 : Below B w0 w) (h : Turned w w' lo hi) (hB : B ≤ lo) (hw : B ≤ w.heap.size) : Below B w0 w' :=
  ⟨h.1.trans h0.os, h.2.1.trans h0.tape, h.2.2.1.trans h0.output, Nat.le_trans h0.size h.2.2.2.1, fun k hk => (h.2.2.2.2 k (Nat.lt_of_lt_of_le hk hw) (Or.inl (Nat.lt_of_lt_of_le hk hB))).trans (h0.block k hk)⟩
theorem own_turned {w w' : World} {lo hi lo' hi' k n : Nat} {e : TypeId} {v : Value} {xs : List Value} (h : Turned w w' lo hi) (ho : w.ownsRow lo' e k v n xs) (hv : ∀ g, v.ownBlock = some g → g < hi') (hd : hi' ≤ lo ∨ hi ≤ lo') : w'.ownsRow lo' e k v n xs := by
  refine ⟨ho.1, ?_⟩
  rcases ho.2 with ⟨rfl, h0⟩ | ⟨g, cap, cur, rfl, hb, hg, hr⟩
  · exact Or.inl ⟨rfl, h0⟩
  · have h1 := hv g rfl
    exact Or.inr ⟨g, cap, cur, rfl, hb, (h.2.2.2.2 g (Array.getElem?_eq_some_iff.1 hg).1 (by omega)).trans hg, hr⟩
theorem VarL.turned {w w' : World} {lo hi b lo' hi' : Nat} {v1 v2 : Value} {l : Lk} (h : Turned w w' lo hi) (V : VarL w b lo' hi' v1 v2 l) (hd : hi' ≤ lo ∨ hi ≤ lo') : VarL w' b lo' hi' v1 v2 l := by
  refine ⟨h.block V.1 (by decide) (by decide), ?_, own_turned h V.2.2.1 V.2.2.2.2.1 hd, V.2.2.2.1, V.2.2.2.2.1, Nat.le_trans V.2.2.2.2.2 h.2.2.2.1⟩
  obtain ⟨ao, cap, rfl, hc, hq⟩ := V.2.1
  refine ⟨ao, cap, rfl, hc, ?_⟩
  by_cases hne : l.q = []
  · exact Or.inl hne
  · rcases hq with hq | ⟨g, CAP, N, pre, post, rfl, hN, ho⟩
    · exact absurd hq hne
    · exact Or.inr ⟨g, CAP, N, pre, post, rfl, hN, own_turned h ho (fun g' e => V.2.2.2.1 hne g' (by simpa [Value.ownBlock] using e)) hd⟩

theorem lmk_q (l : Lk) : (lmk l).q.length = l.q.length := sm_length _ _
theorem lmk_h (l : Lk) : (lmk l).h.length = l.h.length := pmarked_length _ _ _ (Nat.le_refl _)

end Go.Proofs.Ytllfojddaobpmaa
