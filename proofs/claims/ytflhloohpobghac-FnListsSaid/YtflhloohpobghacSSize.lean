/-
  Contracts of spec's l2Has, l1Min and SizeOf.
-/
import Derived.Test.YtflhloohpobghacISize
import Derived.Test.YtflhloohpobghacSNode
namespace Go.Proofs.Ytflhloohpobghac
open Go.RowKit

set_option maxHeartbeats 400000 in
theorem shas_any (v : Value) (xs : List Nd) (a : Int) (w : World) (R : NRow w v xs) :
    Calls Try.prog 25 #[.agg #[v], .int .i64 a] w fun e w' => e = .returned (.bool (hasI xs a)) ∧ Below w.heap.size w w' := by
  obtain ⟨ao, cap, rfl, _, hm, _⟩ := R
  go_enter Try.func25, Try.ntmps25
  go_wp2_with fail
  refine (lin_any _ _ _ _).mono ?_
  rintro e w1 ⟨rfl, rfl⟩
  go_wp2
  go_ret
  refine ⟨retB ?_, (Below.refl _ _).alloc (Nat.le_refl _) _⟩
  rw [Bool.eq_iff_iff]
  simp [hasI]
  omega

set_option maxHeartbeats 400000 in
theorem lmin_any (x y : Int) (w : World) : Calls Try.prog 33 #[.int .i64 x, .int .i64 y] w fun e w' => e = .returned (.int .i64 (min x y)) ∧ w' = w := by
  by_cases h : x < y
  · have HM : Hid (min x y = x) := by unfold Hid; omega
    go_enter Try.func33, Try.ntmps33
    go_wp2
    go_ret
    exact ⟨by rw [HM.out]; rfl, rfl⟩
  · have HM : Hid (min x y = y) := by unfold Hid; omega
    go_enter Try.func33, Try.ntmps33
    go_wp2
    go_ret
    exact ⟨by rw [HM.out]; rfl, rfl⟩

theorem own_of_eq {W w5 : World} {base k n : Nat} {e : TypeId} {v : Value} {xs : List Value} (e5 : w5 = W) (h : W.ownsRow base e k v n xs) : w5.ownsRow base e k v n xs := by rw [e5]; exact h
theorem own_of_eqN {W w5 : World} {base k n m : Nat} {e : TypeId} {v : Value} {xs : List Value} (e5 : w5 = W.drewN m) (h : W.ownsRow base e k v n xs) : w5.ownsRow base e k v n xs := by rw [e5]; exact h
theorem belowN {B : Nat} {w w' : World} (h : Below B w w') (n : Nat) : Below B w (w'.drewN n) := ⟨h.os, h.tape, h.output, h.size, h.block⟩

set_option maxRecDepth 100000 in
set_option maxHeartbeats 1600000 in
theorem ssize_in (ao : Option Addr) (cap : Nat) (xs : List Nd) (v : Nat) (w : World) (R : NRow w (.slice ao xs.length cap) xs) (hp : poolB xs = true) (hv : v < xs.length) :
    Calls Try.prog 15 #[.agg #[.slice ao xs.length cap], .int .i64 v] w fun e w' => e = .returned (.int .i64 ((sizesTo xs (v + 1)).getD v 0)) ∧ Below w.heap.size w w' := by
  have hlen := poolB_len hp
  have R' := R
  obtain ⟨ao', cap', e', ⟨hcap, _⟩, _, hz, hcell⟩ := R'
  simp only [Value.slice.injEq, true_and] at e'
  obtain ⟨rfl, rfl⟩ := e'
  obtain ⟨g, o, rfl, hg, hcell⟩ := hcell (by intro e; subst e; simp at hv)
  obtain ⟨i0, hi, hz0, hz1, hz2⟩ := info_parts Try.infoI
  have hI : Hid (hasI xs v = true) := by unfold Hid hasI; simp [hv]
  go_enter Try.func15, Try.ntmps15
  go_wp2_with fail
  have hB0 : Below w.heap.size w (w.alloc (Obj.cells #[.slice (some ⟨g, o, none⟩) xs.length cap] 26)) := (Below.refl _ _).alloc (Nat.le_refl _) _
  refine (spool_any _ xs _ (R.below hB0)).mono ?_
  rintro e w1 ⟨rfl, hb1⟩
  have hx1 : w1.heap[w.heap.size]? = some (.cells #[.slice (some ⟨g, o, none⟩) xs.length cap] 26 (0, 0)) := (hb1.block _ (by simp)).trans (heap_alloc_new _ _)
  have hB1 := hB0.trans (hb1.mono hB0.size)
  have hc1 : w1.cell? ⟨w.heap.size, 0, none⟩ = some (.slice (some ⟨g, o, none⟩) xs.length cap) := by rw [cell_of_row w1 _ 0 _ _ _ hx1]; rfl
  have hsz1 := (Array.getElem?_eq_some_iff.1 hx1).1
  clear hB0 hb1
  rw [hp]
  go_wp2_with fail
  refine (shas_any _ xs _ _ (R.below hB1)).mono ?_
  rintro e w2 ⟨rfl, hb2⟩
  rw [hI.out]
  have hx2 := (hb2.block _ hsz1).trans hx1
  have hB2 := hB1.trans (hb2.mono hB1.size)
  have hc2 : w2.cell? ⟨w.heap.size, 0, none⟩ = some (.slice (some ⟨g, o, none⟩) xs.length cap) := by rw [cell_of_row w2 _ 0 _ _ _ hx2]; rfl
  have hsz2 := (Array.getElem?_eq_some_iff.1 hx2).1
  clear hB1 hb2 hc1 hx1 hsz1 hI
  go_wp2_with fail
  go_loopw [5, 6] (fun s i wr => ∃ k : Nat, k ≤ v + 1 ∧ i = .int .i64 k ∧ wr.ownsRow w2.heap.size 3 1 s k (iv (sizesTo xs k)) ∧ Below w2.heap.size w2 wr) (fun _ i _ => v + 1 - (intOf i).toNat)
  case atStart => exact ⟨0, by omega, rfl, World.ownsRow_made _ _ 0 (Nat.le_refl _) (by simp) (by simp), (Below.refl _ _).alloc (Nat.le_refl _) _⟩
  case round =>
    obtain ⟨k, hk, rfl, hown, hb⟩ := hrel
    have hB := hB2.trans (hb.mono hB2.size)
    have hcr := (hb.cell (p := ⟨w.heap.size, 0, none⟩) hsz2).trans hc2
    have hbs := hb.size
    by_cases hlt : k < v + 1
    · obtain ⟨x, hx⟩ : ∃ x, xs[k]? = some x := ⟨xs[k], by simp [show k < xs.length by omega]⟩
      obtain ⟨c0, c1, c2, c3, c4⟩ := (hcell k x hx).below hB hg
      have hnb := poolB_at hp hx
      have HS : Hid (sizesTo xs (k + 1) = sizesTo xs k ++ [szN (sizesTo xs k) x]) := sizesTo_succ xs k x hx
      have hsb := sizesTo_bounds xs k
      have hsl := sizesTo_length xs k (by omega)
      clear hcell hx hc2 hx2
      by_cases h5 : x.k = 5
      · have hkk : x.k = 5 ∨ x.k = 6 ∨ x.k = 7 := Or.inl h5
        have hA : hasA x.k = true := by unfold hasA; simp [hkk]
        have hra := nodeB_A hnb hA
        obtain ⟨na, hna⟩ := Int.eq_ofNat_of_zero_le hra.1
        rw [hna] at c3 hra
        rcases hown.2 with ⟨rfl, h0⟩ | ⟨B, capB, cur, rfl, hBb, _⟩
        · omega
        have hBl : B < wr.heap.size := (hown.lt _ rfl).2
        have hBne : B ≠ wr.heap.size := by omega
        have ea := hown.cellAt na (by omega)
        rw [iv_get _ _ (by omega)] at ea
        have hab := getD_mem_bounds _ na hsb
        have HA : Hid (szA (sizesTo xs k) x = (sizesTo xs k).getD na 0) := by unfold Hid szA; rw [hA, if_pos rfl, hna]; rfl
        generalize (sizesTo xs k).getD na 0 = za at ea hab HA
        have hBB : hasB x.k = true := by unfold hasB; simp [h5]
        have hrb := nodeB_B hnb hBB
        obtain ⟨nb', hnb'⟩ := Int.eq_ofNat_of_zero_le hrb.1
        rw [hnb'] at c4 hrb
        have eb := hown.cellAt nb' (by omega)
        rw [iv_get _ _ (by omega)] at eb
        have hbb := getD_mem_bounds _ nb' hsb
        have HB : Hid (szB (sizesTo xs k) x = (sizesTo xs k).getD nb' 0) := by unfold Hid szB; rw [hBB, if_pos rfl, hnb']; rfl
        generalize (sizesTo xs k).getD nb' 0 = zb at eb hbb HB
        clear hsb hnb hkk hA hBB
        go_wp2_with fail
        go_quiet (fail)
        go_wp2_with fail
        refine (lmin_any _ _ _).mono ?_
        rintro e w5 ⟨rfl, hw5⟩
        first | have hown5 := own_of_eqN hw5 (hown.alloc _) | have hown5 := own_of_eq hw5 (hown.alloc _)
        have hb5 : Below w2.heap.size w2 w5 := by rw [hw5]; first | exact hb.alloc hbs _ | exact belowN (hb.alloc hbs _) _
        have hbs5 := hb5.size
        clear hw5
        go_wp2_with (at_builtin; refine wpList_append_own _ rfl _ _ 27 rfl w2.heap.size 3 i0 (.int .i64 0) 1 8 Try.underlying27 hi hz0 hz1 hz2 rfl (by decide) _ _ _ rfl (hown5.alloc _) ⟨w5.heap.size, 0, none⟩ 1 1 [.int .i64 (min (1 + za + zb) 1000000000)] rfl rfl (cell_one_new _ _ _) (fun u hu => by simp at hu; subst hu; rfl) (by unfold maxLen; omega) (by omega) (by simp; omega) ?_)
        intro v' w6 hown' hgrow _
        have hsz : szN (sizesTo xs k) x = min (1 + za + zb) 1000000000 := by unfold szN; rw [HA.out, HB.out]
        have hown6 : w6.ownsRow w2.heap.size 3 1 v' (k + 1) (iv (sizesTo xs (k + 1))) := by
          rw [HS.out, iv_append, hsz]
          exact hown'
        have hb6 : Below w2.heap.size w2 w6 := (hb5.alloc hbs5 _).grown hgrow (by simp; omega) (fun j hj => (hown5.lt j hj).1)
        clear hown' hgrow hsz
        go_wp2
        go_roundw
        case rel => exact ⟨k + 1, by omega, by go_num, hown6, hb6⟩
        case measure => simp [intOf]; omega
      by_cases h67 : x.k = 6 ∨ x.k = 7
      · have hkk : x.k = 5 ∨ x.k = 6 ∨ x.k = 7 := Or.inr h67
        have hA : hasA x.k = true := by unfold hasA; simp [hkk]
        have hra := nodeB_A hnb hA
        obtain ⟨na, hna⟩ := Int.eq_ofNat_of_zero_le hra.1
        rw [hna] at c3 hra
        rcases hown.2 with ⟨rfl, h0⟩ | ⟨B, capB, cur, rfl, hBb, _⟩
        · omega
        have hBl : B < wr.heap.size := (hown.lt _ rfl).2
        have hBne : B ≠ wr.heap.size := by omega
        have ea := hown.cellAt na (by omega)
        rw [iv_get _ _ (by omega)] at ea
        have hab := getD_mem_bounds _ na hsb
        have HA : Hid (szA (sizesTo xs k) x = (sizesTo xs k).getD na 0) := by unfold Hid szA; rw [hA, if_pos rfl, hna]; rfl
        generalize (sizesTo xs k).getD na 0 = za at ea hab HA
        have HB : Hid (szB (sizesTo xs k) x = 0) := by unfold Hid szB hasB; simp [h5]
        clear hsb hnb hkk hA
        rcases h67 with h6 | h6
        all_goals
          go_wp2_with fail
          refine (lmin_any _ _ _).mono ?_
          rintro e w5 ⟨rfl, hw5⟩
          first | have hown5 := own_of_eqN hw5 (hown.alloc _) | have hown5 := own_of_eq hw5 (hown.alloc _)
          have hb5 : Below w2.heap.size w2 w5 := by rw [hw5]; first | exact hb.alloc hbs _ | exact belowN (hb.alloc hbs _) _
          have hbs5 := hb5.size
          clear hw5
          go_wp2_with (at_builtin; refine wpList_append_own _ rfl _ _ 27 rfl w2.heap.size 3 i0 (.int .i64 0) 1 8 Try.underlying27 hi hz0 hz1 hz2 rfl (by decide) _ _ _ rfl (hown5.alloc _) ⟨w5.heap.size, 0, none⟩ 1 1 [.int .i64 (min (1 + za) 1000000000)] rfl rfl (cell_one_new _ _ _) (fun u hu => by simp at hu; subst hu; rfl) (by unfold maxLen; omega) (by omega) (by simp; omega) ?_)
          intro v' w6 hown' hgrow _
          have hsz : szN (sizesTo xs k) x = min (1 + za) 1000000000 := by unfold szN; rw [HA.out, HB.out, Int.add_zero]
          have hown6 : w6.ownsRow w2.heap.size 3 1 v' (k + 1) (iv (sizesTo xs (k + 1))) := by
            rw [HS.out, iv_append, hsz]
            exact hown'
          have hb6 : Below w2.heap.size w2 w6 := (hb5.alloc hbs5 _).grown hgrow (by simp; omega) (fun j hj => (hown5.lt j hj).1)
          clear hown' hgrow hsz
          go_wp2
          go_roundw
          case rel => exact ⟨k + 1, by omega, by go_num, hown6, hb6⟩
          case measure => simp [intOf]; omega
      · have HA : Hid (szA (sizesTo xs k) x = 0) := by unfold Hid szA hasA; rw [if_neg (by simp; omega)]
        have HB : Hid (szB (sizesTo xs k) x = 0) := by unfold Hid szB hasB; simp [h5]
        have h6 : ¬ x.k = 6 := by omega
        have h7 : ¬ x.k = 7 := by omega
        clear hsb hnb h67
        go_wp2_with fail
        refine (lmin_any _ _ _).mono ?_
        rintro e w5 ⟨rfl, hw5⟩
        first | have hown5 := own_of_eqN hw5 (hown.alloc _) | have hown5 := own_of_eq hw5 (hown.alloc _)
        have hb5 : Below w2.heap.size w2 w5 := by rw [hw5]; first | exact hb.alloc hbs _ | exact belowN (hb.alloc hbs _) _
        have hbs5 := hb5.size
        clear hw5
        go_wp2_with (at_builtin; refine wpList_append_own _ rfl _ _ 27 rfl w2.heap.size 3 i0 (.int .i64 0) 1 8 Try.underlying27 hi hz0 hz1 hz2 rfl (by decide) _ _ _ rfl (hown5.alloc _) ⟨w5.heap.size, 0, none⟩ 1 1 [.int .i64 (min (1) 1000000000)] rfl rfl (cell_one_new _ _ _) (fun u hu => by simp at hu; subst hu; rfl) (by unfold maxLen; omega) (by omega) (by simp; omega) ?_)
        intro v' w6 hown' hgrow _
        have hsz : szN (sizesTo xs k) x = min (1) 1000000000 := by unfold szN; rw [HA.out, HB.out]; decide
        have hown6 : w6.ownsRow w2.heap.size 3 1 v' (k + 1) (iv (sizesTo xs (k + 1))) := by
          rw [HS.out, iv_append, hsz]
          exact hown'
        have hb6 : Below w2.heap.size w2 w6 := (hb5.alloc hbs5 _).grown hgrow (by simp; omega) (fun j hj => (hown5.lt j hj).1)
        clear hown' hgrow hsz
        go_wp2
        go_roundw
        case rel => exact ⟨k + 1, by omega, by go_num, hown6, hb6⟩
        case measure => simp [intOf]; omega
    · have hkv : k = v + 1 := by omega
      subst hkv
      rcases hown.2 with ⟨rfl, h0⟩ | ⟨B, cap', cur, rfl, _⟩
      · omega
      have hsl := sizesTo_length xs (v + 1) (by omega)
      have e0 := hown.cellAt v (by omega)
      rw [iv_get _ _ (by omega)] at e0
      obtain ⟨zz, hzz⟩ : ∃ zz, zz = (sizesTo xs (v + 1)).getD v 0 := ⟨_, rfl⟩
      rw [← hzz] at e0
      have HZ : Hid (zz = (sizesTo xs (v + 1)).getD v 0) := hzz
      clear hzz
      go_wp2
      go_ret
      exact ⟨by rw [← HZ.out]; rfl, hB⟩
set_option maxHeartbeats 400000 in
theorem ssize_out (ao : Option Addr) (cap : Nat) (xs : List Nd) (v : Int) (w : World) (R : NRow w (.slice ao xs.length cap) xs) (h : (poolB xs && hasI xs v) = false) :
    Calls Try.prog 15 #[.agg #[.slice ao xs.length cap], .int .i64 v] w fun e w' => e = .returned (.int .i64 0) ∧ Below w.heap.size w w' := by
  go_enter Try.func15, Try.ntmps15
  go_wp2_with fail
  have hB0 : Below w.heap.size w (w.alloc (Obj.cells #[.slice ao xs.length cap] 26)) := (Below.refl _ _).alloc (Nat.le_refl _) _
  refine (spool_any _ xs _ (R.below hB0)).mono ?_
  rintro e w1 ⟨rfl, hb1⟩
  have hx1 : w1.heap[w.heap.size]? = some (.cells #[.slice ao xs.length cap] 26 (0, 0)) := (hb1.block _ (by simp)).trans (heap_alloc_new _ _)
  have hB1 := hB0.trans (hb1.mono hB0.size)
  have hc1 : w1.cell? ⟨w.heap.size, 0, none⟩ = some (.slice ao xs.length cap) := by rw [cell_of_row w1 _ 0 _ _ _ hx1]; rfl
  clear hB0 hb1 hx1
  cases hp : poolB xs with
  | false =>
    clear h
    go_wp2_with fail
    go_ret
    exact ⟨rfl, hB1⟩
  | true =>
    rw [hp, Bool.true_and] at h
    go_wp2_with fail
    refine (shas_any _ xs _ _ (R.below hB1)).mono ?_
    rintro e w2 ⟨rfl, hb2⟩
    rw [h]
    have hB2 := hB1.trans (hb2.mono hB1.size)
    clear hc1 hb2 hB1
    go_wp2_with fail
    go_ret
    exact ⟨rfl, hB2⟩

theorem ssize_any (v : Value) (xs : List Nd) (a : Int) (w : World) (R : NRow w v xs) :
    Calls Try.prog 15 #[.agg #[v], .int .i64 a] w fun e w' => e = .returned (.int .i64 (sizeR xs a)) ∧ Below w.heap.size w w' := by
  have R' := R
  obtain ⟨ao, cap, rfl, _⟩ := R'
  unfold sizeR
  cases h : (poolB xs && hasI xs a) with
  | false => exact ssize_out ao cap xs a w R h
  | true =>
    simp only [Bool.and_eq_true, hasI, decide_eq_true_eq] at h
    obtain ⟨n, rfl⟩ := Int.eq_ofNat_of_zero_le h.2.1
    rw [if_pos rfl, Int.toNat_natCast, sizesTo_prefix xs (n + 1) n (by omega) (by omega)]
    exact ssize_in ao cap xs n w R h.1 (by omega)
end Go.Proofs.Ytflhloohpobghac
