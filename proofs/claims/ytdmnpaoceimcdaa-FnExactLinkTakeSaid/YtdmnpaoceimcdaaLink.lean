/-
  Links: what one is, and the contracts of the laws' helpers szLink, toLink, eqLink, markLink, heldLink. No condition.
-/
import Derived.Test.YtdmnpaoceimcdaaStrs
import Derived.Test.YtdmnpaoceimcdaaPcMark
import Derived.Test.YtdmnpaoceimcdaaStore2
namespace Go.Proofs.Ytdmnpaoceimcdaa
open Go.RowKit

structure Lk where
  sent : Int
  acked : Int
  q : List ByteArray
  got : Int
  h : List Pc

theorem Try.sizeLk : (Try.prog.info? 27).map (·.size) = some 5 := by kernel_rfl
theorem Try.sizeLLk : (Try.prog.info? 44).map (·.size) = some 5 := by kernel_rfl

set_option maxHeartbeats 800000 in
theorem szlink_any (vq vh : Value) (l : Lk) (w : World) (Rq : StRow w vq l.q) (Rh : PcRow w vh l.h) :
    Calls Try.prog 18 #[.agg #[.int .i64 l.sent, .int .i64 l.acked, vq, .int .i64 l.got, vh], .int .i64 1048576] w fun e w' => ∃ r : Int, e = .returned (.int .i64 r) ∧ -1 ≤ r ∧ r ≤ 1048576 ∧ (0 ≤ r → l.q.length ≤ 1048576 ∧ l.h.length ≤ 1048576) ∧ Below w.heap.size w w' := by
  obtain ⟨a1, c1, rfl⟩ := Rq.small
  obtain ⟨a2, c2, rfl⟩ := Rh.small
  go_enter Try.func18, Try.ntmps18
  go_wp2_with fail
  have hB0 : Below w.heap.size w (w.alloc (Obj.cells #[.int .i64 l.sent, .int .i64 l.acked, .slice a1 l.q.length c1, .int .i64 l.got, .slice a2 l.h.length c2] 44)) := (Below.refl _ _).alloc (Nat.le_refl _) _
  refine (szstrs_any _ l.q 1048576 _ (Rq.below hB0) (by omega) (by omega)).mono ?_
  rintro e w1 ⟨r1, rfl, h0, h1, h2, hb1⟩
  have hx1 : w1.heap[w.heap.size]? = some (.cells #[.int .i64 l.sent, .int .i64 l.acked, .slice a1 l.q.length c1, .int .i64 l.got, .slice a2 l.h.length c2] 44 (0, 0)) := (hb1.block _ (by simp)).trans (heap_alloc_new _ _)
  have hB1 := hB0.trans (hb1.mono hB0.size)
  have hc1 : w1.cell? ⟨w.heap.size, 0 + 4, none⟩ = some (.slice a2 l.h.length c2) := by rw [cell_of_row w1 _ 4 _ _ _ hx1]; rfl
  clear hB0 hb1
  by_cases hr : r1 < 0
  · have HR : Hid (r1 = -1) := by unfold Hid; omega
    go_wp2
    go_ret
    exact ⟨-1, rfl, by omega, by omega, fun h => by omega, hB1⟩
  · have h2 := h2 (by omega)
    go_wp2_with fail
    refine (szpcs_any _ l.h r1 _ (Rh.below hB1) (by omega) (by omega)).mono ?_
    rintro e w2 ⟨r2, rfl, k0, k1, k2, hb2⟩
    have hB2 := hB1.trans (hb2.mono hB1.size)
    clear hc1 hx1 hB1 hb2
    by_cases hr2 : r2 < 0
    · have HR : Hid (r2 = -1) := by unfold Hid; omega
      go_wp2
      go_ret
      exact ⟨-1, rfl, by omega, by omega, fun h => by omega, hB2⟩
    · have k2 := k2 (by omega)
      go_wp2
      go_ret
      exact ⟨r2, rfl, by omega, by omega, fun _ => ⟨h2.1, k2.1⟩, hB2⟩

set_option maxHeartbeats 800000 in
theorem eqlink_any (v1 v2 u1 u2 : Value) (l : Lk) (w : World) (R1 : StRow w v1 l.q) (R2 : PcRow w v2 l.h) (S1 : StRow w u1 l.q) (S2 : PcRow w u2 l.h) :
    Calls Try.prog 22 #[.agg #[.int .i64 l.sent, .int .i64 l.acked, v1, .int .i64 l.got, v2], .agg #[.int .i64 l.sent, .int .i64 l.acked, u1, .int .i64 l.got, u2]] w fun e w' => e = .returned (.bool true) ∧ Below w.heap.size w w' := by
  obtain ⟨a1, c1, rfl⟩ := R1.small
  obtain ⟨a2, c2, rfl⟩ := R2.small
  obtain ⟨b1, d1, rfl⟩ := S1.small
  obtain ⟨b2, d2, rfl⟩ := S2.small
  go_enter Try.func22, Try.ntmps22
  go_wp2_with fail
  have hB0 : Below w.heap.size w ((w.alloc (Obj.cells #[.int .i64 l.sent, .int .i64 l.acked, .slice a1 l.q.length c1, .int .i64 l.got, .slice a2 l.h.length c2] 27)).alloc (Obj.cells #[.int .i64 l.sent, .int .i64 l.acked, .slice b1 l.q.length d1, .int .i64 l.got, .slice b2 l.h.length d2] 27)) := ((Below.refl _ _).alloc (Nat.le_refl _) _).alloc (by simp) _
  refine (eqstrs_any _ _ l.q _ (R1.below hB0) (S1.below hB0)).mono ?_
  rintro e w1 ⟨rfl, hb1⟩
  have hx1 : w1.heap[w.heap.size]? = some (.cells #[.int .i64 l.sent, .int .i64 l.acked, .slice a1 l.q.length c1, .int .i64 l.got, .slice a2 l.h.length c2] 27 (0, 0)) := (hb1.block _ (by simp; omega)).trans ((heap_alloc_old _ _ (by simp)).trans (heap_alloc_new _ _))
  have hy1 : w1.heap[w.heap.size + 1]? = some (.cells #[.int .i64 l.sent, .int .i64 l.acked, .slice b1 l.q.length d1, .int .i64 l.got, .slice b2 l.h.length d2] 27 (0, 0)) := (hb1.block _ (by simp)).trans (heap_alloc2_new _ _ _)
  have hB1 := hB0.trans (hb1.mono hB0.size)
  have hc1 : w1.cell? ⟨w.heap.size, 0 + 3, none⟩ = some (.int .i64 l.got) := by rw [cell_of_row w1 _ 3 _ _ _ hx1]; rfl
  have hd1 : w1.cell? ⟨w.heap.size + 1, 0 + 3, none⟩ = some (.int .i64 l.got) := by rw [cell_of_row w1 _ 3 _ _ _ hy1]; rfl
  have hc2 : w1.cell? ⟨w.heap.size, 0 + 4, none⟩ = some (.slice a2 l.h.length c2) := by rw [cell_of_row w1 _ 4 _ _ _ hx1]; rfl
  have hd2 : w1.cell? ⟨w.heap.size + 1, 0 + 4, none⟩ = some (.slice b2 l.h.length d2) := by rw [cell_of_row w1 _ 4 _ _ _ hy1]; rfl
  clear hB0 hb1
  go_wp2_with fail
  refine (eqpcs_any _ _ l.h _ (R2.below hB1) (S2.below hB1)).mono ?_
  rintro e w2 ⟨rfl, hb2⟩
  have hB2 := hB1.trans (hb2.mono hB1.size)
  clear hc1 hd1 hx1 hy1 hB1 hb2 hc2 hd2
  go_wp2
  go_ret
  exact ⟨rfl, hB2⟩

set_option maxHeartbeats 1600000 in
theorem tolink_any (v1 v2 : Value) (l : Lk) (w : World) (R1 : StRow w v1 l.q) (R2 : PcRow w v2 l.h) (h1 : l.q.length ≤ 2097152) (h2 : l.h.length ≤ 2097152) :
    Calls Try.prog 20 #[.agg #[.int .i64 l.sent, .int .i64 l.acked, v1, .int .i64 l.got, v2]] w fun e w' => ∃ u1 u2, e = .returned (.agg #[.int .i64 l.sent, .int .i64 l.acked, u1, .int .i64 l.got, u2]) ∧ w'.ownsRow w.heap.size 9 1 u1 l.q.length (stv l.q) ∧ w'.ownsRow w.heap.size 29 2 u2 l.h.length (pccs l.h) ∧ Below w.heap.size w w' := by
  obtain ⟨a1, c1, rfl⟩ := R1.small
  obtain ⟨a2, c2, rfl⟩ := R2.small
  go_enter Try.func20, Try.ntmps20
  go_wp2_with fail
  have hB0 : Below w.heap.size w (((w.alloc (Obj.cells #[.int .i64 l.sent, .int .i64 l.acked, .slice a1 l.q.length c1, .int .i64 l.got, .slice a2 l.h.length c2] 44)).alloc (Obj.cells #[.int .i64 0, .int .i64 0, .slice none 0 0, .int .i64 0, .slice none 0 0] 27)).alloc (Obj.cells #[.int .i64 l.sent, .int .i64 l.acked, .slice none 0 0, .int .i64 0, .slice none 0 0] 27)) :=
    (((Below.refl _ _).alloc (Nat.le_refl _) _).alloc (by simp) _).alloc (by simp; omega) _
  refine (tostrs_any _ l.q _ (R1.below hB0) h1).mono ?_
  rintro e w1 ⟨u1, rfl, ho1, hb1⟩
  obtain ⟨b1, d1, rfl⟩ := own_form ho1
  have hx1 : w1.heap[w.heap.size]? = some (.cells #[.int .i64 l.sent, .int .i64 l.acked, .slice a1 l.q.length c1, .int .i64 l.got, .slice a2 l.h.length c2] 44 (0, 0)) := (hb1.block _ (by simp; omega)).trans ((heap_alloc_old _ _ (by simp; omega)).trans ((heap_alloc_old _ _ (by simp)).trans (heap_alloc_new _ _)))
  have hy1 : w1.heap[w.heap.size + 1]? = some (.cells #[.int .i64 0, .int .i64 0, .slice none 0 0, .int .i64 0, .slice none 0 0] 27 (0, 0)) := (hb1.block _ (by simp)).trans ((heap_alloc_old _ _ (by simp)).trans (heap_alloc2_new _ _ _))
  have hv1 : w1.heap[w.heap.size + 1 + 1]? = some (.cells #[.int .i64 l.sent, .int .i64 l.acked, .slice none 0 0, .int .i64 0, .slice none 0 0] 27 (0, 0)) := (hb1.block _ (by simp)).trans (heap_alloc3_new _ _ _ _)
  have hB1 := hB0.trans (hb1.mono hB0.size)
  have ho1' : w1.ownsRow (w.heap.size + 3) 9 1 (.slice b1 l.q.length d1) l.q.length (stv l.q) := by simpa using ho1
  have cv1 : w1.cell? ⟨w.heap.size + 1 + 1, 0 + 2, none⟩ = some (.slice none 0 0) := by rw [cell_of_row w1 _ 2 _ _ _ hv1]; rfl
  have cv3 : w1.cell? ⟨w.heap.size + 1 + 1, 0 + 3, none⟩ = some (.int .i64 0) := by rw [cell_of_row w1 _ 3 _ _ _ hv1]; rfl
  have fv1 : w1.frozen? ⟨w.heap.size + 1 + 1, 0 + 2, none⟩ = false := frozen_of_row w1 _ 2 _ _ hv1
  have fv3 : w1.frozen? ⟨w.heap.size + 1 + 1, 0 + 3, none⟩ = false := frozen_of_row w1 _ 3 _ _ hv1
  have cx1 : w1.cell? ⟨w.heap.size, 0 + 3, none⟩ = some (.int .i64 l.got) := by rw [cell_of_row w1 _ 3 _ _ _ hx1]; rfl
  have cx2 : w1.cell? ⟨w.heap.size, 0 + 4, none⟩ = some (.slice a2 l.h.length c2) := by rw [cell_of_row w1 _ 4 _ _ _ hx1]; rfl
  clear hB0 hb1 ho1
  go_wp2_with fail
  have hB1' : Below w.heap.size w ((w1.setCell ⟨w.heap.size + 1 + 1, 2, none⟩ (.slice b1 l.q.length d1)).setCell ⟨w.heap.size + 1 + 1, 3, none⟩ (.int .i64 l.got)) := (hB1.setCell (p := ⟨w.heap.size + 1 + 1, 2, none⟩) (by simp; omega) _).setCell (p := ⟨w.heap.size + 1 + 1, 3, none⟩) (by simp; omega) _
  refine (topcs_any _ l.h _ (R2.below hB1') h2).mono ?_
  rintro e w2 ⟨u2, rfl, ho2, hb2⟩
  obtain ⟨b2, d2, rfl⟩ := own_form ho2
  have ho1'' := own_below (ownsRow_setCell_below (ownsRow_setCell_below ho1' (a := ⟨w.heap.size + 1 + 1, 2, none⟩) (by simp) (.slice b1 l.q.length d1)) (a := ⟨w.heap.size + 1 + 1, 3, none⟩) (by simp) (.int .i64 l.got)) hb2
  have hy2 : w2.heap[w.heap.size + 1]? = some (.cells #[.int .i64 0, .int .i64 0, .slice none 0 0, .int .i64 0, .slice none 0 0] 27 (0, 0)) := (hb2.block _ (by simp; have := (Array.getElem?_eq_some_iff.1 hv1).1; omega)).trans ((heap_setCell_other _ ⟨w.heap.size + 1 + 1, 3, none⟩ (w.heap.size + 1) _ (by simp)).trans ((heap_setCell_other w1 ⟨w.heap.size + 1 + 1, 2, none⟩ (w.heap.size + 1) _ (by simp)).trans hy1))
  have hv2 : w2.heap[w.heap.size + 1 + 1]? = some (.cells #[.int .i64 l.sent, .int .i64 l.acked, .slice b1 l.q.length d1, .int .i64 l.got, .slice none 0 0] 27 (0, 0)) := (hb2.block _ (by simp; have := (Array.getElem?_eq_some_iff.1 hv1).1; omega)).trans (heap_setCell_same _ (w.heap.size + 1 + 1) 3 _ _ (.int .i64 l.got) (heap_setCell_same w1 (w.heap.size + 1 + 1) 2 _ _ (.slice b1 l.q.length d1) hv1))
  have hB2 := hB1'.trans (hb2.mono hB1'.size)
  have hsv := (Array.getElem?_eq_some_iff.1 hv1).1
  have ho2' : w2.ownsRow (w.heap.size + 3) 29 2 (.slice b2 l.h.length d2) l.h.length (pccs l.h) := own_mono ho2 (by simp; omega)
  have cv2 : w2.cell? ⟨w.heap.size + 1 + 1, 0 + 4, none⟩ = some (.slice none 0 0) := by rw [cell_of_row w2 _ 4 _ _ _ hv2]; rfl
  have fv2 : w2.frozen? ⟨w.heap.size + 1 + 1, 0 + 4, none⟩ = false := frozen_of_row w2 _ 4 _ _ hv2
  clear hB1 hB1' hb2 ho1' ho2 hx1 hy1 hv1 cv1 fv1 cx1 cx2 cv3 fv3
  have hv3 : (w2.setCell ⟨w.heap.size + 1 + 1, 4, none⟩ (.slice b2 l.h.length d2)).heap[w.heap.size + 1 + 1]? = some (.cells #[.int .i64 l.sent, .int .i64 l.acked, .slice b1 l.q.length d1, .int .i64 l.got, .slice b2 l.h.length d2] 27 (0, 0)) := heap_setCell_same w2 (w.heap.size + 1 + 1) 4 _ _ (.slice b2 l.h.length d2) hv2
  have hy3 := (heap_setCell_other w2 ⟨w.heap.size + 1 + 1, 4, none⟩ (w.heap.size + 1) (.slice b2 l.h.length d2) (by simp)).trans hy2
  go_wp2_with (first
    | refine wpList_load_row rfl 27 _ rfl (w.heap.size + 1 + 1) rfl 27 #[.int .i64 l.sent, .int .i64 l.acked, .slice b1 l.q.length d1, .int .i64 l.got, .slice b2 l.h.length d2] (0, 0) _ hv3 Try.underlying27 rfl Try.sizeLk ?_
    | refine wpList_store_own2 rfl 27 _ _ rfl (w.heap.size + 1) #[.int .i64 l.sent, .int .i64 l.acked, .slice b1 l.q.length d1, .int .i64 l.got, .slice b2 l.h.length d2] rfl rfl 27 _ hy3 Try.sizeLk rfl (by simp [Value.oneCell']) ?_)
  intro w3 hy4 hbg _ hoth
  have hB3 := (hB2.setCell (p := ⟨w.heap.size + 1 + 1, 4, none⟩) (by simp; omega) (.slice b2 l.h.length d2)).trans (hbg.mono (by omega))
  have up : ∀ {e : TypeId} {k : Nat} {v : Value} {n : Nat} {xs : List Value}, w2.ownsRow (w.heap.size + 3) e k v n xs → w3.ownsRow (w.heap.size + 3) e k v n xs := fun h =>
    own_keep (ownsRow_setCell_below h (a := ⟨w.heap.size + 1 + 1, 4, none⟩) (by simp) _) (by omega) hoth
  go_wp2
  exact bodyPost_ret (results_cell_row rfl _ _ (w.heap.size + 1) 27 _ (0, 0) _ rfl hy4 Try.underlying27 rfl Try.sizeLk) rfl ⟨_, _, rfl, own_mono (up ho1'') (by omega), own_mono (up ho2') (by omega), hB3⟩

/-- A slice of texts that lies in a row of one's own, maybe behind others there. -/
def SOwn (w : World) (base : Nat) (v : Value) (xs : List ByteArray) : Prop :=
  ∃ ao cap, v = .slice ao xs.length cap ∧ (xs.length ≤ cap ∧ (ao = none → cap = 0)) ∧
    (xs = [] ∨ ∃ g CAP N pre post, ao = some ⟨g, pre.length, none⟩ ∧ pre.length + xs.length + post.length = N ∧ w.ownsRow base 9 1 (.slice (some ⟨g, 0, none⟩) N CAP) N (stv (pre ++ (xs ++ post))))
theorem SOwn.form {w : World} {base : Nat} {v : Value} {xs : List ByteArray} (h : SOwn w base v xs) : ∃ ao cap, v = .slice ao xs.length cap := by
  obtain ⟨ao, cap, rfl, _⟩ := h
  exact ⟨ao, cap, rfl⟩
theorem SOwn.of_own {w : World} {base : Nat} {v : Value} {xs : List ByteArray} (h : w.ownsRow base 9 1 v xs.length (stv xs)) : SOwn w base v xs := by
  have h' := h
  rcases h.2 with ⟨rfl, h0⟩ | ⟨g, cap, cur, rfl, hb, hg, hnc, hcm, hcs, htake⟩
  · have : xs = [] := List.eq_nil_of_length_eq_zero h0
    subst this
    exact ⟨none, 0, rfl, by simp, Or.inl rfl⟩
  · exact ⟨_, cap, rfl, ⟨hnc, fun h => by cases h⟩, Or.inr ⟨g, cap, xs.length, [], [], rfl, by simp, by simpa using h'⟩⟩
theorem SOwn.row {w : World} {base : Nat} {v : Value} {xs : List ByteArray} (h : SOwn w base v xs) (hm : xs.length ≤ 9223372036854775807) (hz : ∀ x ∈ xs, x.size ≤ maxLen) : StRow w v xs := by
  obtain ⟨ao, cap, rfl, hc, h⟩ := h
  refine ⟨ao, cap, rfl, hc, hm, hz, fun hne => ?_⟩
  rcases h with h | ⟨g, CAP, N, pre, post, rfl, hN, ho⟩
  · exact absurd h hne
  · refine ⟨g, pre.length, rfl, (ho.lt g rfl).2, fun i x hi => ?_⟩
    have hil : i < xs.length := (List.getElem?_eq_some_iff.1 hi).1
    have := ho.cellAt (pre.length + i) (by omega)
    rw [this]
    apply stv_get
    rw [List.getElem?_append_right (by omega), show pre.length + i - pre.length = i by omega, List.getElem?_append_left hil]
    exact hi
theorem SOwn.below {w w' : World} {base : Nat} {v : Value} {xs : List ByteArray} (h : SOwn w base v xs) (hb : Below w.heap.size w w') : SOwn w' base v xs := by
  obtain ⟨ao, cap, rfl, hc, h⟩ := h
  refine ⟨ao, cap, rfl, hc, ?_⟩
  rcases h with h | ⟨g, CAP, N, pre, post, rfl, hN, ho⟩
  · exact Or.inl h
  · exact Or.inr ⟨g, CAP, N, pre, post, rfl, hN, own_below ho hb⟩
theorem SOwn.alloc {w : World} {base : Nat} {v : Value} {xs : List ByteArray} (h : SOwn w base v xs) (o : Obj) : SOwn (w.alloc o) base v xs := h.below ((Below.refl _ _).alloc (Nat.le_refl _) _)
/-- Where it is not empty, its block is one of texts, from base on. -/
theorem SOwn.blk {w : World} {base : Nat} {v : Value} {xs : List ByteArray} (h : SOwn w base v xs) (hne : xs ≠ []) : ∃ g cs, v.ownBlock = some g ∧ base ≤ g ∧ w.heap[g]? = some (.cells cs 9 (0, 0)) := by
  obtain ⟨ao, cap, rfl, hc, h⟩ := h
  rcases h with h | ⟨g, CAP, N, pre, post, rfl, hN, ho⟩
  · exact absurd h hne
  · rcases ho.2 with ⟨e, _⟩ | ⟨g', cap', cur, e, hb, hg, _⟩
    · cases e
    · cases e
      exact ⟨_, cur, rfl, hb, hg⟩
theorem SOwn.kept {w w' : World} {base : Nat} {v : Value} {xs : List ByteArray} {o : Option Nat} (h : SOwn w base v xs) (hg : w.grownBy w' o) (hne : xs = [] ∨ ∀ g, v.ownBlock = some g → o ≠ some g) : SOwn w' base v xs := by
  obtain ⟨ao, cap, rfl, hc, h⟩ := h
  refine ⟨ao, cap, rfl, hc, ?_⟩
  rcases h with h | ⟨g, CAP, N, pre, post, rfl, hN, ho⟩
  · exact Or.inl h
  · rcases hne with hne | hne
    · exact Or.inl hne
    · refine Or.inr ⟨g, CAP, N, pre, post, rfl, hN, ho.kept hg (Or.inr fun e => hne g rfl ?_)⟩
      simpa [Value.ownBlock] using e.symm

set_option maxHeartbeats 400000 in
theorem markstrs_any (v : Value) (k : Int) (base : Nat) (xs : List ByteArray) (w : World) (h : SOwn w base v xs) (hm : xs.length ≤ 4194304) (hk0 : 0 ≤ k) (hk : k ≤ 2305843009213693952) :
    Calls Try.prog 25 #[v, .int .i64 k] w fun e w' => e = .returned (.int .i64 (k + xs.length)) ∧ SOwn w' base v (sm k xs.length) ∧ (xs = [] ∧ w' = w ∨ xs ≠ [] ∧ w.grownBy w' v.ownBlock) := by
  have h' := h
  obtain ⟨ao, cap, rfl, hc, h⟩ := h
  by_cases hx : xs = []
  · subst hx
    go_enter Try.func25, Try.ntmps25
    go_wp2
    refine wp_loop_rounds 1 ?_
    rw [rounds_succ]
    go_wp2
    go_ret
    exact ⟨by simp, h', Or.inl ⟨trivial, rfl⟩⟩
  · rcases h with h | ⟨g, CAP, N, pre, post, rfl, hN, ho⟩
    · exact absurd h hx
    refine (markstrs_mid g pre.length cap CAP N base k pre xs post w rfl hN ho hm hk0 hk).mono ?_
    rintro e w' ⟨rfl, ho', hg⟩
    exact ⟨rfl, ⟨_, cap, by rw [sm_length], by rw [sm_length]; exact hc, Or.inr ⟨g, CAP, N, pre, post, rfl, by rw [sm_length]; exact hN, ho'⟩⟩, Or.inr ⟨hx, hg⟩⟩

/-- What a link's variable holds: at block b, a link whose rows lie between lo and hi and read as l has them. -/
def VarL (w : World) (b lo hi : Nat) (v1 v2 : Value) (l : Lk) : Prop :=
  w.heap[b]? = some (.cells #[.int .i64 l.sent, .int .i64 l.acked, v1, .int .i64 l.got, v2] 27 (0, 0)) ∧ SOwn w lo v1 l.q ∧ w.ownsRow lo 29 2 v2 l.h.length (pccs l.h) ∧ (l.q ≠ [] → ∀ k, v1.ownBlock = some k → k < hi) ∧ (∀ k, v2.ownBlock = some k → k < hi) ∧ hi ≤ w.heap.size
theorem VarL.new {w5 we : World} {lo : Nat} {v1 v2 : Value} {l : Lk} (h1 : SOwn w5 lo v1 l.q) (h2 : w5.ownsRow lo 29 2 v2 l.h.length (pccs l.h)) (hd : Below w5.heap.size w5 we) (hb : we.heap[w5.heap.size]? = some (.cells #[.int .i64 l.sent, .int .i64 l.acked, v1, .int .i64 l.got, v2] 27 (0, 0))) :
    VarL we w5.heap.size lo we.heap.size v1 v2 l :=
  ⟨hb, h1.below hd, own_below h2 hd, fun hne k hk => by
    obtain ⟨g, cs, e, _, hg⟩ := (h1.below hd).blk hne
    rw [hk] at e
    cases e
    exact (Array.getElem?_eq_some_iff.1 hg).1, fun k hk => ((own_below h2 hd).lt k hk).2, Nat.le_refl _⟩
theorem VarL.below {w w' : World} {b lo hi : Nat} {v1 v2 : Value} {l : Lk} (h : VarL w b lo hi v1 v2 l) (hb : Below w.heap.size w w') : VarL w' b lo hi v1 v2 l :=
  ⟨(hb.block b (Array.getElem?_eq_some_iff.1 h.1).1).trans h.1, h.2.1.below hb, own_below h.2.2.1 hb, h.2.2.2.1, h.2.2.2.2.1, Nat.le_trans h.2.2.2.2.2 hb.size⟩
theorem VarL.lt {w : World} {b lo hi : Nat} {v1 v2 : Value} {l : Lk} (h : VarL w b lo hi v1 v2 l) : b < w.heap.size := (Array.getElem?_eq_some_iff.1 h.1).1
theorem VarL.row1 {w : World} {b lo hi : Nat} {v1 v2 : Value} {l : Lk} (h : VarL w b lo hi v1 v2 l) (hm : l.q.length ≤ 4194304) (hz : ∀ x ∈ l.q, x.size ≤ maxLen) : StRow w v1 l.q := h.2.1.row (by omega) hz
theorem VarL.row2 {w : World} {b lo hi : Nat} {v1 v2 : Value} {l : Lk} (h : VarL w b lo hi v1 v2 l) (hm : l.h.length ≤ 4194304) (hz : ∀ x ∈ l.h, x.s.size ≤ maxLen) : PcRow w v2 l.h := PcRow.of_own h.2.2.1 (by omega) hz
/-- What another block's turning leaves. -/
theorem VarL.keptBy {w w' : World} {b lo hi : Nat} {v1 v2 : Value} {l : Lk} {o : Option Nat} (h : VarL w b lo hi v1 v2 l) (hg : w.grownBy w' o) (hb : ∀ k, o = some k → k ≠ b ∧ (k < lo ∨ hi ≤ k)) : VarL w' b lo hi v1 v2 l := by
  refine ⟨(hg.block b h.lt (fun e => (hb b e.symm).1 rfl)).trans h.1, h.2.1.kept hg ?_, h.2.2.1.kept hg ?_, h.2.2.2.1, h.2.2.2.2.1, Nat.le_trans h.2.2.2.2.2 hg.size⟩
  · by_cases hq : l.q = []
    · exact Or.inl hq
    · refine Or.inr fun g e eo => ?_
      obtain ⟨g', cs, e', hlo, _⟩ := h.2.1.blk hq
      rw [e] at e'
      cases e'
      have k1 := h.2.2.2.1 hq g e
      have k3 := (hb g eo).2
      omega
  · cases hv : v2.ownBlock with
    | none => exact Or.inl rfl
    | some k =>
      refine Or.inr fun e => ?_
      have k1 := h.2.2.2.2.1 k hv
      have k2 := (h.2.2.1.lt k hv).1
      have k3 := (hb k e.symm).2
      omega
/-- What is marked of a link: its texts, and its pieces behind them. -/
def lmk (l : Lk) : Lk := ⟨l.sent, l.acked, sm 1 l.q.length, l.got, pmarked (1 + l.q.length) l.h l.h.length⟩
/-- All but rows of texts and of pieces between lo and hi stay, and what is new. -/
def Turned (w w' : World) (lo hi : Nat) : Prop :=
  w'.os = w.os ∧ w'.tape = w.tape ∧ w'.output = w.output ∧ w.heap.size ≤ w'.heap.size ∧ ∀ k, k < w.heap.size → (k < lo ∨ hi ≤ k ∨ ∃ cs t, w.heap[k]? = some (.cells cs t (0, 0)) ∧ t ≠ 9 ∧ t ≠ 29) → w'.heap[k]? = w.heap[k]?
theorem Turned.block {w w' : World} {lo hi k : Nat} {cs : Array Value} {t : TypeId} (h : Turned w w' lo hi) (hk : w.heap[k]? = some (.cells cs t (0, 0))) (h1 : t ≠ 9) (h2 : t ≠ 29) : w'.heap[k]? = some (.cells cs t (0, 0)) :=
  (h.2.2.2.2 k (Array.getElem?_eq_some_iff.1 hk).1 (Or.inr (Or.inr ⟨cs, t, hk, h1, h2⟩))).trans hk
theorem Turned.belowT {w0 w w' : World} {lo hi B : Nat} (h0 : Below B w0 w) (h : Turned w w' lo hi) (hB : B ≤ lo) (hw : B ≤ w.heap.size) : Below B w0 w' :=
  ⟨h.1.trans h0.os, h.2.1.trans h0.tape, h.2.2.1.trans h0.output, Nat.le_trans h0.size h.2.2.2.1, fun k hk => (h.2.2.2.2 k (Nat.lt_of_lt_of_le hk hw) (Or.inl (Nat.lt_of_lt_of_le hk hB))).trans (h0.block k hk)⟩
theorem own_turned {w w' : World} {lo hi lo' hi' k n : Nat} {e : TypeId} {v : Value} {xs : List Value} (h : Turned w w' lo hi) (ho : w.ownsRow lo' e k v n xs) (hv : ∀ g, v.ownBlock = some g → g < hi') (hd : hi' ≤ lo ∨ hi ≤ lo') : w'.ownsRow lo' e k v n xs := by
  refine ⟨ho.1, ?_⟩
  rcases ho.2 with ⟨rfl, h0⟩ | ⟨g, cap, cur, rfl, hb, hg, hr⟩
  · exact Or.inl ⟨rfl, h0⟩
  · have h1 := hv g rfl
    exact Or.inr ⟨g, cap, cur, rfl, hb, (h.2.2.2.2 g (Array.getElem?_eq_some_iff.1 hg).1 (by omega)).trans hg, hr⟩
theorem VarL.turned {w w' : World} {lo hi b lo' hi' : Nat} {v1 v2 : Value} {l : Lk} (h : Turned w w' lo hi) (V : VarL w b lo' hi' v1 v2 l) (hd : hi' ≤ lo ∨ hi ≤ lo') : VarL w' b lo' hi' v1 v2 l := by
  refine ⟨h.block V.1 (by decide) (by decide), ?_, own_turned h V.2.2.1 V.2.2.2.2.1 hd, V.2.2.2.1, V.2.2.2.2.1, Nat.le_trans V.2.2.2.2.2 h.2.2.2.1⟩
  obtain ⟨ao, cap, rfl, hc, hq⟩ := V.2.1
  refine ⟨ao, cap, rfl, hc, ?_⟩
  by_cases hne : l.q = []
  · exact Or.inl hne
  · rcases hq with hq | ⟨g, CAP, N, pre, post, rfl, hN, ho⟩
    · exact absurd hq hne
    · exact Or.inr ⟨g, CAP, N, pre, post, rfl, hN, own_turned h ho (fun g' e => V.2.2.2.1 hne g' (by simpa [Value.ownBlock] using e)) hd⟩

theorem lmk_q (l : Lk) : (lmk l).q.length = l.q.length := sm_length _ _
theorem lmk_h (l : Lk) : (lmk l).h.length = l.h.length := pmarked_length _ _ _ (Nat.le_refl _)

set_option maxHeartbeats 1600000 in
theorem marklink_any (b lo hi : Nat) (v1 v2 : Value) (l : Lk) (w : World) (V : VarL w b lo hi v1 v2 l) (h1 : l.q.length ≤ 2097152) (h2 : l.h.length ≤ 2097152) :
    Calls Try.prog 24 #[.agg #[.int .i64 l.sent, .int .i64 l.acked, v1, .int .i64 l.got, v2], .int .i64 1] w fun e w' => e = .returned (.int .i64 (1 + l.q.length + 2 * l.h.length)) ∧ VarL w' b lo hi v1 v2 (lmk l) ∧ Turned w w' lo hi := by
  have V0 := V
  obtain ⟨hb, hq, hh, hk1, hk2, hhi⟩ := V
  obtain ⟨a1, c1, rfl⟩ := hq.form
  obtain ⟨a2, c2, rfl⟩ := own_form hh
  have hB0 : Below w.heap.size w (w.alloc (Obj.cells #[.int .i64 l.sent, .int .i64 l.acked, .slice a1 l.q.length c1, .int .i64 l.got, .slice a2 l.h.length c2] 27)) := (Below.refl _ _).alloc (Nat.le_refl _) _
  go_enter Try.func24, Try.ntmps24
  go_wp2_with fail
  refine (markstrs_any _ 1 lo l.q _ (hq.below hB0) (by omega) (by omega) (by omega)).mono ?_
  rintro e w1 ⟨rfl, hq1, hg1⟩
  have hs1 : (w.alloc (Obj.cells #[.int .i64 l.sent, .int .i64 l.acked, .slice a1 l.q.length c1, .int .i64 l.got, .slice a2 l.h.length c2] 27)).heap.size ≤ w1.heap.size := by
    rcases hg1 with ⟨_, rfl⟩ | ⟨_, hg1⟩
    · exact Nat.le_refl _
    · exact hg1.size
  have keep1 : ∀ (k : Nat) (cs : Array Value) (t : TypeId), (w.alloc (Obj.cells #[.int .i64 l.sent, .int .i64 l.acked, .slice a1 l.q.length c1, .int .i64 l.got, .slice a2 l.h.length c2] 27)).heap[k]? = some (.cells cs t (0, 0)) → t ≠ 9 → w1.heap[k]? = some (.cells cs t (0, 0)) := by
    intro k cs t hk ht
    rcases hg1 with ⟨_, rfl⟩ | ⟨hne, hg1⟩
    · exact hk
    · obtain ⟨g, cs', e, _, hg⟩ := (hq.below hB0).blk hne
      rw [e] at hg1
      refine (hg1.block k (Array.getElem?_eq_some_iff.1 hk).1 (fun e => ht ?_)).trans hk
      have e := Option.some.inj e
      subst e
      rw [hk] at hg
      simp only [Option.some.injEq, Obj.cells.injEq] at hg
      exact hg.2.1
  have hx1 := keep1 w.heap.size _ 27 (heap_alloc_new _ _) (by decide)
  have cx : w1.cell? ⟨w.heap.size, 0 + 4, none⟩ = some (.slice a2 l.h.length c2) := by rw [cell_of_row w1 _ 4 _ _ _ hx1]; rfl
  have hh1 : w1.ownsRow lo 29 2 (.slice a2 l.h.length c2) l.h.length (pccs l.h) := by
    refine ⟨hh.1, ?_⟩
    rcases (hh.alloc (Obj.cells #[.int .i64 l.sent, .int .i64 l.acked, .slice a1 l.q.length c1, .int .i64 l.got, .slice a2 l.h.length c2] 27)).2 with ⟨e, h0⟩ | ⟨g, cap, cur, e, hbb, hg, hr⟩
    · exact Or.inl ⟨e, h0⟩
    · exact Or.inr ⟨g, cap, cur, e, hbb, keep1 g _ _ hg (by decide), hr⟩
  go_wp2_with fail
  refine (markpieces_any _ (1 + l.q.length) lo l.h _ hh1 (by omega) (by omega) (by omega)).mono ?_
  rintro e w2 ⟨rfl, hh2, hg2⟩
  clear cx
  have keep2 : ∀ (k : Nat) (cs : Array Value) (t : TypeId), w1.heap[k]? = some (.cells cs t (0, 0)) → t ≠ 29 → w2.heap[k]? = some (.cells cs t (0, 0)) := by
    intro k cs t hk ht
    exact (hg2.block k (Array.getElem?_eq_some_iff.1 hk).1 (fun e => own_ne hh1 hk ht e.symm)).trans hk
  have HV : VarL w2 b lo hi (.slice a1 l.q.length c1) (.slice a2 l.h.length c2) (lmk l) := by
    have hsz : w.heap.size ≤ w2.heap.size := Nat.le_trans (Nat.le_trans (by simp) hs1) hg2.size
    refine ⟨keep2 b _ _ (keep1 b _ _ ((heap_alloc_old _ _ V0.lt).trans hb) (by decide)) (by decide), ?_, ?_, fun hne k hk => hk1 (fun e => hne (by simp [lmk, sm, e])) k hk, hk2, Nat.le_trans hhi hsz⟩
    · obtain ⟨ao, cap, e, hc, hq⟩ := hq1
      refine ⟨ao, cap, e, hc, ?_⟩
      rcases hq with hq | ⟨g, CAP, N, pre, post, rfl, hN, ho⟩
      · exact Or.inl hq
      · refine Or.inr ⟨g, CAP, N, pre, post, rfl, hN, ⟨ho.1, ?_⟩⟩
        rcases ho.2 with ⟨e, h0⟩ | ⟨g', cap', cur, e, hbb, hg, hr⟩
        · exact Or.inl ⟨e, h0⟩
        · exact Or.inr ⟨g', cap', cur, e, hbb, keep2 g' _ _ hg (by decide), hr⟩
    · rw [lmk_h]; exact hh2
  have HT : Turned w w2 lo hi := by
    refine ⟨?_, ?_, ?_, Nat.le_trans (Nat.le_trans (by simp) hs1) hg2.size, fun k hk hor => ?_⟩
    · rcases hg1 with ⟨_, rfl⟩ | ⟨hne, hg1⟩
      · exact hg2.os
      · exact hg2.os.trans hg1.os
    · rcases hg1 with ⟨_, rfl⟩ | ⟨hne, hg1⟩
      · exact hg2.tape
      · exact hg2.tape.trans hg1.tape
    · rcases hg1 with ⟨_, rfl⟩ | ⟨hne, hg1⟩
      · exact hg2.output
      · exact hg2.output.trans hg1.output
    · have st1 : w1.heap[k]? = w.heap[k]? := by
        rw [← heap_alloc_old w (Obj.cells #[.int .i64 l.sent, .int .i64 l.acked, .slice a1 l.q.length c1, .int .i64 l.got, .slice a2 l.h.length c2] 27) hk]
        rcases hg1 with ⟨_, rfl⟩ | ⟨hne, hg1⟩
        · rfl
        · refine hg1.block k (by simp; omega) (fun e => ?_)
          have k1 := hk1 hne k e.symm
          obtain ⟨g, cs', e', hlo, hg⟩ := hq.blk hne
          rw [← e] at e'
          cases e'
          rcases hor with h | h | ⟨cs, t, h, ht, _⟩
          · omega
          · omega
          · rw [hg] at h
            simp only [Option.some.injEq, Obj.cells.injEq] at h
            exact ht h.2.1.symm
      refine Eq.trans ?_ st1
      refine hg2.block k (Nat.lt_of_lt_of_le (by simp; omega) hs1) (fun e => ?_)
      have k1 := hk2 k e.symm
      have k2 := (hh.lt k e.symm).1
      rcases hor with h | h | ⟨cs, t, h, _, ht⟩
      · omega
      · omega
      · exact own_ne hh h ht e.symm
  clear hg1 hg2 keep1 keep2 hx1 hh1 hh2 hq1
  go_wp2
  go_ret
  exact ⟨rfl, HV, HT⟩

set_option maxHeartbeats 800000 in
theorem heldlink_any (v1 v2 : Value) (l : Lk) (w : World) (R1 : StRow w v1 (lmk l).q) (R2 : PcRow w v2 (lmk l).h) (h1 : l.q.length ≤ 2097152) (h2 : l.h.length ≤ 2097152) :
    Calls Try.prog 26 #[.agg #[.int .i64 l.sent, .int .i64 l.acked, v1, .int .i64 l.got, v2], .int .i64 1] w fun e w' => e = .returned (.int .i64 (1 + l.q.length + 2 * l.h.length)) ∧ Below w.heap.size w w' := by
  obtain ⟨a1, c1, e1⟩ := R1.small
  obtain ⟨a2, c2, e2⟩ := R2.small
  rw [lmk_q] at e1
  rw [lmk_h] at e2
  subst e1 e2
  have hB0 : Below w.heap.size w (w.alloc (Obj.cells #[.int .i64 l.sent, .int .i64 l.acked, .slice a1 l.q.length c1, .int .i64 l.got, .slice a2 l.h.length c2] 27)) := (Below.refl _ _).alloc (Nat.le_refl _) _
  go_enter Try.func26, Try.ntmps26
  go_wp2_with fail
  refine (heldstrs_any _ 1 l.q.length _ (R1.below hB0) (by omega) (by omega) (by omega)).mono ?_
  rintro e w1 ⟨rfl, hb1⟩
  have hx1 : w1.heap[w.heap.size]? = some (.cells #[.int .i64 l.sent, .int .i64 l.acked, .slice a1 l.q.length c1, .int .i64 l.got, .slice a2 l.h.length c2] 27 (0, 0)) := (hb1.block _ (by simp)).trans (heap_alloc_new _ _)
  have hB1 := hB0.trans (hb1.mono hB0.size)
  have cx : w1.cell? ⟨w.heap.size, 0 + 4, none⟩ = some (.slice a2 l.h.length c2) := by rw [cell_of_row w1 _ 4 _ _ _ hx1]; rfl
  have hpos : ¬ (1 + (l.q.length : Int)) < 0 := by omega
  clear hB0 hb1
  go_wp2_with fail
  refine (heldpieces_any _ (1 + l.q.length) l.h _ (R2.below hB1) (by omega) (by omega) (by omega)).mono ?_
  rintro e w2 ⟨rfl, hb2⟩
  have hB2 := hB1.trans (hb2.mono hB1.size)
  have hpos2 : ¬ (1 + (l.q.length : Int) + 2 * (l.h.length : Int)) < 0 := by omega
  clear cx hx1 hb2 hB1
  go_wp2
  go_ret
  exact ⟨rfl, hB2⟩
end Go.Proofs.Ytdmnpaoceimcdaa
