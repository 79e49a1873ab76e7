/-
  Texts that stood by themselves, laid into one.
-/
import Derived.Test.YtbgkofinmdpmcaaGreatDoorSizeIM
import Derived.Test.YtbgkofinmdpmcaaGreatDoorSNodeM
import Derived.Deep.RegionWith
/-
  Contract of impl.SizeOf.
-/
namespace Go.Proofs.YtbgkofinmdpmcaaGreatDoor
open Go.RowKit

theorem Tryz.infoI : (Tryz.prog.info? 3).map (fun i => (i.zero, i.size, i.bytes)) = some (some (.int .i64 0), 1, 8) := by kernel_rfl

/-- The sizes so far, and noughts behind them. -/
def padded (xs : List Nd) (k n : Nat) : List Int := sizesTo xs k ++ List.replicate (n - k) 0
theorem padded_length (xs : List Nd) (k n : Nat) (hk : k ≤ n) (hn : n ≤ xs.length) : (padded xs k n).length = n := by
  unfold padded; rw [List.length_append, sizesTo_length xs k (by omega)]; simp; omega
theorem padded_zero (xs : List Nd) (n : Nat) : iv (padded xs 0 n) = (madeCells #[Value.int .i64 0] n).toList := by
  rw [toList_madeCells_one]; simp [padded, iv, sizesTo, sizes]
theorem padded_get (xs : List Nd) (k n i : Nat) (hk : k ≤ xs.length) (hi : i < k) : (padded xs k n).getD i 0 = (sizesTo xs k).getD i 0 := by
  unfold padded
  simp only [List.getD_eq_getElem?_getD]
  rw [List.getElem?_append_left (by rw [sizesTo_length xs k hk]; exact hi)]
theorem padded_set (xs : List Nd) (k n : Nat) (x : Nd) (hk : k < n) (hn : n ≤ xs.length) (h : xs[k]? = some x) : (padded xs k n).set k (szN (sizesTo xs k) x) = padded xs (k + 1) n := by
  unfold padded
  have hl := sizesTo_length xs k (by omega)
  rw [sizesTo_succ xs k x h, show n - k = n - (k + 1) + 1 by omega, List.replicate_succ, List.set_append_right _ _ (by omega), hl, Nat.sub_self, List.set_cons_zero, List.append_assoc]
  rfl

/-- A row of ints of the call's own, one cell of it written three times: what lies there. -/
theorem thrice {w : World} {base n B cap k : Nat} {zs : List Int} (h : w.ownsRow base 3 1 (.slice (some ⟨B, 0, none⟩) n cap) n (iv zs)) (hk : k < zs.length) (hn : zs.length = n) (a b c : Int) :
    ((((w.setCell ⟨B, k, none⟩ (.int .i64 a)).setCell ⟨B, k, none⟩ (.int .i64 b)).setCell ⟨B, k, none⟩ (.int .i64 c)).cell? ⟨B, k, none⟩ = some (.int .i64 c) ∧ (((w.setCell ⟨B, k, none⟩ (.int .i64 a)).setCell ⟨B, k, none⟩ (.int .i64 b)).setCell ⟨B, k, none⟩ (.int .i64 c)).frozen? ⟨B, k, none⟩ = false) ∧
    (((w.setCell ⟨B, k, none⟩ (.int .i64 a)).setCell ⟨B, k, none⟩ (.int .i64 b)).setCell ⟨B, k, none⟩ (.int .i64 c)).ownsRow base 3 1 (.slice (some ⟨B, 0, none⟩) n cap) n (iv (zs.set k c)) := by
  have s1 := h.stored k (.int .i64 a)
  rw [iv_set] at s1
  have s2 := s1.1.stored k (.int .i64 b)
  rw [iv_set, List.set_set] at s2
  have s3 := s2.1.stored k (.int .i64 c)
  rw [iv_set, List.set_set] at s3
  have g := s3.1.cellAt k (by omega)
  rw [iv_get _ _ (by rw [List.length_set]; omega), List.getD_eq_getElem?_getD, List.getElem?_set_self (by omega)] at g
  exact ⟨⟨g, s3.1.frozenAt k⟩, s3.1⟩
theorem twice {w : World} {base n B cap k : Nat} {zs : List Int} (h : w.ownsRow base 3 1 (.slice (some ⟨B, 0, none⟩) n cap) n (iv zs)) (hk : k < zs.length) (hn : zs.length = n) (a b : Int) :
    (((w.setCell ⟨B, k, none⟩ (.int .i64 a)).setCell ⟨B, k, none⟩ (.int .i64 b)).cell? ⟨B, k, none⟩ = some (.int .i64 b) ∧ ((w.setCell ⟨B, k, none⟩ (.int .i64 a)).setCell ⟨B, k, none⟩ (.int .i64 b)).frozen? ⟨B, k, none⟩ = false) ∧
    ((w.setCell ⟨B, k, none⟩ (.int .i64 a)).setCell ⟨B, k, none⟩ (.int .i64 b)).ownsRow base 3 1 (.slice (some ⟨B, 0, none⟩) n cap) n (iv (zs.set k b)) := by
  have s1 := h.stored k (.int .i64 a)
  rw [iv_set] at s1
  have s2 := s1.1.stored k (.int .i64 b)
  rw [iv_set, List.set_set] at s2
  have g := s2.1.cellAt k (by omega)
  rw [iv_get _ _ (by rw [List.length_set]; omega), List.getD_eq_getElem?_getD, List.getElem?_set_self (by omega)] at g
  exact ⟨⟨g, s2.1.frozenAt k⟩, s2.1⟩

theorem min_if (z : Int) : (if 1000000000 < z then 1000000000 else z) = min z 1000000000 := by split <;> omega
theorem fin3 {w w0 : World} {W0 base n B cap k : Nat} {zs : List Int} (h : w.ownsRow base 3 1 (.slice (some ⟨B, 0, none⟩) n cap) n (iv zs)) (hk : k < zs.length) (hn : zs.length = n) (hB : Below W0 w0 w) (hb : W0 ≤ B) (hs : W0 ≤ w.heap.size) (a b c d : Int) (o : Obj) :
    (((((w.setCell ⟨B, k, none⟩ (.int .i64 a)).setCell ⟨B, k, none⟩ (.int .i64 b)).setCell ⟨B, k, none⟩ (.int .i64 c)).setCell ⟨B, k, none⟩ (.int .i64 d)).alloc o).ownsRow base 3 1 (.slice (some ⟨B, 0, none⟩) n cap) n (iv (zs.set k d)) ∧
    Below W0 w0 (((((w.setCell ⟨B, k, none⟩ (.int .i64 a)).setCell ⟨B, k, none⟩ (.int .i64 b)).setCell ⟨B, k, none⟩ (.int .i64 c)).setCell ⟨B, k, none⟩ (.int .i64 d)).alloc o) := by
  have s := (thrice h hk hn a b c).2.stored k (.int .i64 d)
  rw [iv_set, List.set_set] at s
  exact ⟨s.1.alloc _, ((((hB.setCell (p := ⟨B, k, none⟩) hb _).setCell (p := ⟨B, k, none⟩) hb _).setCell (p := ⟨B, k, none⟩) hb _).setCell (p := ⟨B, k, none⟩) hb _).alloc (by simpa using hs) _⟩
theorem fin2 {w w0 : World} {W0 base n B cap k : Nat} {zs : List Int} (h : w.ownsRow base 3 1 (.slice (some ⟨B, 0, none⟩) n cap) n (iv zs)) (hk : k < zs.length) (hn : zs.length = n) (hB : Below W0 w0 w) (hb : W0 ≤ B) (hs : W0 ≤ w.heap.size) (a b d : Int) (o : Obj) :
    ((((w.setCell ⟨B, k, none⟩ (.int .i64 a)).setCell ⟨B, k, none⟩ (.int .i64 b)).setCell ⟨B, k, none⟩ (.int .i64 d)).alloc o).ownsRow base 3 1 (.slice (some ⟨B, 0, none⟩) n cap) n (iv (zs.set k d)) ∧
    Below W0 w0 ((((w.setCell ⟨B, k, none⟩ (.int .i64 a)).setCell ⟨B, k, none⟩ (.int .i64 b)).setCell ⟨B, k, none⟩ (.int .i64 d)).alloc o) :=
  ⟨(thrice h hk hn a b d).2.alloc _, (((hB.setCell (p := ⟨B, k, none⟩) hb _).setCell (p := ⟨B, k, none⟩) hb _).setCell (p := ⟨B, k, none⟩) hb _).alloc (by simpa using hs) _⟩
theorem fin1 {w w0 : World} {W0 base n B cap k : Nat} {zs : List Int} (h : w.ownsRow base 3 1 (.slice (some ⟨B, 0, none⟩) n cap) n (iv zs)) (hk : k < zs.length) (hn : zs.length = n) (hB : Below W0 w0 w) (hb : W0 ≤ B) (hs : W0 ≤ w.heap.size) (a d : Int) (o : Obj) :
    (((w.setCell ⟨B, k, none⟩ (.int .i64 a)).setCell ⟨B, k, none⟩ (.int .i64 d)).alloc o).ownsRow base 3 1 (.slice (some ⟨B, 0, none⟩) n cap) n (iv (zs.set k d)) ∧
    Below W0 w0 (((w.setCell ⟨B, k, none⟩ (.int .i64 a)).setCell ⟨B, k, none⟩ (.int .i64 d)).alloc o) :=
  ⟨(twice h hk hn a d).2.alloc _, ((hB.setCell (p := ⟨B, k, none⟩) hb _).setCell (p := ⟨B, k, none⟩) hb _).alloc (by simpa using hs) _⟩
theorem hasB_A {k : Int} (h : hasA k = false) : hasB k = false := by
  unfold hasA at h; unfold hasB
  simp only [decide_eq_false_iff_not] at h ⊢
  omega

set_option maxRecDepth 100000 in
set_option maxHeartbeats 1600000 in
theorem isize_in (ao : Option Addr) (cap : Nat) (xs : List Nd) (v : Nat) (w : World) (R : NRow w (.slice ao xs.length cap) xs) (hp : poolB xs = true) (hv : v < xs.length) :
    Calls Tryz.prog 10 #[.agg #[.slice ao xs.length cap], .int .i64 v] w fun e w' => e = .returned (.int .i64 ((sizesTo xs (v + 1)).getD v 0)) ∧ Below w.heap.size w w' := by
  have hlen := poolB_len hp
  have R' := R
  obtain ⟨ao', cap', e', ⟨hcap, _⟩, _, hz, hcell⟩ := R'
  simp only [Value.slice.injEq, true_and] at e'
  obtain ⟨rfl, rfl⟩ := e'
  obtain ⟨g, o, rfl, hg, hcell⟩ := hcell (by intro e; subst e; simp at hv)
  obtain ⟨i0, hi, hz0, hz1, hz2⟩ := info_parts Tryz.infoI
  have hI : Hid (hasI xs v = true) := by unfold Hid hasI; simp [hv]
  go_enter Tryz.func10, Tryz.ntmps10
  go_wp2_with fail
  have hB0 : Below w.heap.size w (w.alloc (Obj.cells #[.slice (some ⟨g, o, none⟩) xs.length cap] 26)) := (Below.refl _ _).alloc (Nat.le_refl _) _
  refine (ipool_any _ xs _ (R.below hB0)).mono ?_
  rintro e w1 ⟨rfl, hb1⟩
  have hx1 : w1.heap[w.heap.size]? = some (.cells #[.slice (some ⟨g, o, none⟩) xs.length cap] 26 (0, 0)) := (hb1.block _ (by simp)).trans (heap_alloc_new _ _)
  have hB1 := hB0.trans (hb1.mono hB0.size)
  have hc1 : w1.cell? ⟨w.heap.size, 0, none⟩ = some (.slice (some ⟨g, o, none⟩) xs.length cap) := by rw [cell_of_row w1 _ 0 _ _ _ hx1]; rfl
  have hsz1 := (Array.getElem?_eq_some_iff.1 hx1).1
  clear hB0 hb1
  rw [hp]
  go_wp2_with fail
  refine (has_any _ xs _ _ (R.below hB1)).mono ?_
  rintro e w2 ⟨rfl, hb2⟩
  rw [hI.out]
  have hx2 := (hb2.block _ hsz1).trans hx1
  have hB2 := hB1.trans (hb2.mono hB1.size)
  have hc2 : w2.cell? ⟨w.heap.size, 0, none⟩ = some (.slice (some ⟨g, o, none⟩) xs.length cap) := by rw [cell_of_row w2 _ 0 _ _ _ hx2]; rfl
  have hsz2 := (Array.getElem?_eq_some_iff.1 hx2).1
  clear hB1 hb2 hc1 hx1 hsz1 hI
  have hbytes : i0.bytes * (v + 1) ≤ 281474976710656 := by rw [hz2]; omega
  have hmax : v + 1 ≤ maxLen := by unfold maxLen; omega
  have hcv : ((v : Int) + 1).toNat = v + 1 := by omega
  go_wp2_with (at_make; refine wpList_make_full _ rfl _ _ 42 rfl w2.heap.size 3 i0 (.int .i64 0) 1 Tryz.underlying42 hi hz0 hz1 _ _ _ _ (v + 1) rfl rfl (by simp) (by simp) hbytes hmax (Nat.le_refl _) ?_)
  intro w3 hown hgrow
  have hb3 : Below w2.heap.size w2 w3 := (Below.refl _ _).grown hgrow (Nat.le_refl _) (by intro k hk; cases hk)
  have hB3 := hB2.trans (hb3.mono hB2.size)
  have hc3 := (hb3.cell (p := ⟨w.heap.size, 0, none⟩) hsz2).trans hc2
  clear hgrow hc2
  go_wp2_with fail
  go_loopw [28] (fun i wr => ∃ k : Nat, k ≤ v + 1 ∧ i = .int .i64 k ∧ wr.ownsRow w2.heap.size 3 1 (.slice (some ⟨w2.heap.size, 0, none⟩) (v + 1) (v + 1)) (v + 1) (iv (padded xs k (v + 1))) ∧ Below w.heap.size w wr) (fun i _ => v + 1 - (intOf i).toNat)
  case atStart => exact ⟨0, by omega, rfl, by rw [padded_zero]; simpa using hown, hB3⟩
  case round =>
    clear hown hB3 hc3 hb3 hB2 hx2
    obtain ⟨k, hk, rfl, hown, hB⟩ := hrel
    by_cases hlt : k < v + 1
    · obtain ⟨x, hx⟩ : ∃ x, xs[k]? = some x := ⟨xs[k], by simp [show k < xs.length by omega]⟩
      obtain ⟨c0, c1, c2, c3, c4⟩ := (hcell k x hx).below hB hg
      have hnb := poolB_at hp hx
      have hkd := nodeB_kind hnb
      have HX : Hid (xs[k]? = some x) := hx
      have hBw : w2.heap.size < wr.heap.size := (hown.lt _ rfl).2
      have hpl := padded_length xs k (v + 1) hk (by omega)
      clear hcell hx
      go_wp2_with fail
      refine (shapeof_any x.k _).mono ?_
      rintro e w4 ⟨rfl, hb4⟩
      rw [shapeV, if_pos hkd]
      have hbox := (hb4.block wr.heap.size (by simp)).trans (heap_alloc_new _ _)
      have hcellN : ∀ j, w4.cell? ⟨wr.heap.size, j, none⟩ = #[Value.int .i64 x.k, .int .i64 x.n, .string x.s, .int .i64 x.a, .int .i64 x.b][j]? := fun j => cell_of_row w4 _ j _ _ _ hbox
      have d3 := hcellN 3
      have d4 := hcellN 4
      simp only [List.getElem?_toArray, List.getElem?_cons_succ, List.getElem?_cons_zero] at d3 d4
      have hown4 := own_below (hown.alloc _) hb4
      have hB4 := (hB.alloc hB.size _).trans (hb4.mono (by have := hB.size; simp; omega))
      have hw4 : wr.heap.size < w4.heap.size := (Array.getElem?_eq_some_iff.1 hbox).1
      have hw4' : w2.heap.size < w4.heap.size := by omega
      have hne4 : w2.heap.size ≠ wr.heap.size := by omega
      have e0 := hown4.cellAt k (by omega)
      rw [iv_get _ _ (by omega)] at e0
      have f0 := hown4.frozenAt k
      clear c0 c1 c2 c3 c4 hbox hcellN hb4 hown hB
      have hsb := sizesTo_bounds xs k
      cases hA : hasA x.k with
      | false =>
        have hBb := hasB_A hA
        have HA : Hid (szA (sizesTo xs k) x = 0) := by unfold Hid szA; rw [hA]; rfl
        have HB : Hid (szB (sizesTo xs k) x = 0) := by unfold Hid szB; rw [hBb]; rfl
        rw [hBb]
        clear hnb hkd hbytes hmax hcv hsb
        go_wp2_with fail
        all_goals
          obtain ⟨fo, fb⟩ := fin1 (zs := padded xs k (v + 1)) hown4 (by rw [hpl]; exact hlt) hpl hB4 (Nat.le_of_lt hsz2) (by omega) 1 1 (Obj.cells #[.int .i64 (lo x.k), .int .i64 (Go.Proofs.YtbgkofinmdpmcaaGreatDoor.hi x.k), .bool (hasS x.k), .bool false, .bool false] 66)
          refine ⟨⟨k + 1, by omega, by go_num, ?_, fb⟩, by simp [intOf]; omega⟩
          have hsz : szN (sizesTo xs k) x = 1 := by unfold szN; rw [HA.out, HB.out]; decide
          rw [← padded_set xs k (v + 1) x hlt (by omega) HX.out, hsz]
          exact fo
      | true =>
        have hra := nodeB_A hnb hA
        obtain ⟨na, hna⟩ := Int.eq_ofNat_of_zero_le hra.1
        rw [hna] at d3 hra
        have ea := hown4.cellAt na (by omega)
        rw [iv_get _ _ (by omega), padded_get xs k (v + 1) na (by omega) (by omega)] at ea
        have hab := getD_mem_bounds _ na hsb
        have HA : Hid (szA (sizesTo xs k) x = (sizesTo xs k).getD na 0) := by unfold Hid szA; rw [hA, if_pos rfl, hna]; rfl
        generalize (sizesTo xs k).getD na 0 = za at ea hab HA
        have hnk : na ≠ k := by omega
        cases hBb : hasB x.k with
        | false =>
          have HB : Hid (szB (sizesTo xs k) x = 0) := by unfold Hid szB; rw [hBb]; rfl
          obtain ⟨⟨g3, q3⟩, _⟩ := twice (zs := padded xs k (v + 1)) hown4 (by rw [hpl]; exact hlt) hpl 1 (1 + za)
          clear hnb hkd hbytes hmax hcv hsb
          go_wp2_with fail
          go_region
          all_goals go_wp2_with fail
          all_goals
            obtain ⟨fo, fb⟩ := fin2 (zs := padded xs k (v + 1)) hown4 (by rw [hpl]; exact hlt) hpl hB4 (Nat.le_of_lt hsz2) (by omega) 1 (1 + za) (if 1000000000 < 1 + za then 1000000000 else 1 + za) (Obj.cells #[.int .i64 (lo x.k), .int .i64 (Go.Proofs.YtbgkofinmdpmcaaGreatDoor.hi x.k), .bool (hasS x.k), .bool true, .bool false] 66)
            refine ⟨⟨k + 1, by omega, by go_num, ?_, fb.drew⟩, by simp [intOf]; omega⟩
            have hsz : szN (sizesTo xs k) x = (if 1000000000 < 1 + za then 1000000000 else 1 + za) := by unfold szN; rw [HA.out, HB.out, min_if, Int.add_zero]
            rw [← padded_set xs k (v + 1) x hlt (by omega) HX.out, hsz]
            exact fo.drew
        | true =>
          have hrb := nodeB_B hnb hBb
          obtain ⟨nb', hnb'⟩ := Int.eq_ofNat_of_zero_le hrb.1
          rw [hnb'] at d4 hrb
          have eb := hown4.cellAt nb' (by omega)
          rw [iv_get _ _ (by omega), padded_get xs k (v + 1) nb' (by omega) (by omega)] at eb
          have hbb := getD_mem_bounds _ nb' hsb
          have HB : Hid (szB (sizesTo xs k) x = (sizesTo xs k).getD nb' 0) := by unfold Hid szB; rw [hBb, if_pos rfl, hnb']; rfl
          generalize (sizesTo xs k).getD nb' 0 = zb at eb hbb HB
          have hnk2 : nb' ≠ k := by omega
          clear hsb
          obtain ⟨⟨g3, q3⟩, _⟩ := thrice (zs := padded xs k (v + 1)) hown4 (by rw [hpl]; exact hlt) hpl 1 (1 + za) (1 + za + zb)
          clear hnb hkd hbytes hmax hcv
          go_wp2_with fail
          go_region
          all_goals go_wp2_with fail
          all_goals go_region
          all_goals go_wp2_with fail
          all_goals
            obtain ⟨fo, fb⟩ := fin3 (zs := padded xs k (v + 1)) hown4 (by rw [hpl]; exact hlt) hpl hB4 (Nat.le_of_lt hsz2) (by omega) 1 (1 + za) (1 + za + zb) (if 1000000000 < 1 + za + zb then 1000000000 else 1 + za + zb) (Obj.cells #[.int .i64 (lo x.k), .int .i64 (Go.Proofs.YtbgkofinmdpmcaaGreatDoor.hi x.k), .bool (hasS x.k), .bool true, .bool true] 66)
            refine ⟨⟨k + 1, by omega, by go_num, ?_, fb.drew.drew⟩, by simp [intOf]; omega⟩
            have hsz : szN (sizesTo xs k) x = (if 1000000000 < 1 + za + zb then 1000000000 else 1 + za + zb) := by unfold szN; rw [HA.out, HB.out, min_if]
            rw [← padded_set xs k (v + 1) x hlt (by omega) HX.out, hsz]
            exact fo.drew.drew
    · have hkv : k = v + 1 := by omega
      subst hkv
      have hpl := padded_length xs (v + 1) (v + 1) (Nat.le_refl _) (by omega)
      have e0 := hown.cellAt v (by omega)
      rw [iv_get _ _ (by omega), padded_get xs (v + 1) (v + 1) v (by omega) (by omega)] at e0
      go_wp2
      go_ret
      exact ⟨rfl, hB⟩

set_option maxHeartbeats 400000 in
theorem isize_out (ao : Option Addr) (cap : Nat) (xs : List Nd) (v : Int) (w : World) (R : NRow w (.slice ao xs.length cap) xs) (h : (poolB xs && hasI xs v) = false) :
    Calls Tryz.prog 10 #[.agg #[.slice ao xs.length cap], .int .i64 v] w fun e w' => e = .returned (.int .i64 0) ∧ Below w.heap.size w w' := by
  go_enter Tryz.func10, Tryz.ntmps10
  go_wp2_with fail
  have hB0 : Below w.heap.size w (w.alloc (Obj.cells #[.slice ao xs.length cap] 26)) := (Below.refl _ _).alloc (Nat.le_refl _) _
  refine (ipool_any _ xs _ (R.below hB0)).mono ?_
  rintro e w1 ⟨rfl, hb1⟩
  have hx1 : w1.heap[w.heap.size]? = some (.cells #[.slice ao xs.length cap] 26 (0, 0)) := (hb1.block _ (by simp)).trans (heap_alloc_new _ _)
  have hB1 := hB0.trans (hb1.mono hB0.size)
  have hc1 : w1.cell? ⟨w.heap.size, 0, none⟩ = some (.slice ao xs.length cap) := by rw [cell_of_row w1 _ 0 _ _ _ hx1]; rfl
  clear hB0 hb1 hx1
  cases hp : poolB xs with
  | false =>
    clear h
    go_wp2_with fail
    go_ret
    exact ⟨rfl, hB1⟩
  | true =>
    rw [hp, Bool.true_and] at h
    go_wp2_with fail
    refine (has_any _ xs _ _ (R.below hB1)).mono ?_
    rintro e w2 ⟨rfl, hb2⟩
    rw [h]
    have hB2 := hB1.trans (hb2.mono hB1.size)
    clear hc1 hb2 hB1
    go_wp2_with fail
    go_ret
    exact ⟨rfl, hB2⟩

theorem isize_any (v : Value) (xs : List Nd) (a : Int) (w : World) (R : NRow w v xs) :
    Calls Tryz.prog 10 #[.agg #[v], .int .i64 a] w fun e w' => e = .returned (.int .i64 (sizeR xs a)) ∧ Below w.heap.size w w' := by
  have R' := R
  obtain ⟨ao, cap, rfl, _⟩ := R'
  unfold sizeR
  cases h : (poolB xs && hasI xs a) with
  | false => exact isize_out ao cap xs a w R h
  | true =>
    simp only [Bool.and_eq_true, hasI, decide_eq_true_eq] at h
    obtain ⟨n, rfl⟩ := Int.eq_ofNat_of_zero_le h.2.1
    rw [if_pos rfl, Int.toNat_natCast, sizesTo_prefix xs (n + 1) n (by omega) (by omega)]
    exact isize_in ao cap xs n w R h.1 (by omega)
end Go.Proofs.YtbgkofinmdpmcaaGreatDoor

/-
  Contracts of spec's l2Has, l1Min and SizeOf.
-/
namespace Go.Proofs.YtbgkofinmdpmcaaGreatDoor
open Go.RowKit

set_option maxHeartbeats 400000 in
theorem shas_any (v : Value) (xs : List Nd) (a : Int) (w : World) (R : NRow w v xs) :
    Calls Tryz.prog 21 #[.agg #[v], .int .i64 a] w fun e w' => e = .returned (.bool (hasI xs a)) ∧ Below w.heap.size w w' := by
  obtain ⟨ao, cap, rfl, _, hm, _⟩ := R
  go_enter Tryz.func21, Tryz.ntmps21
  go_wp2_with fail
  refine (lin_any _ _ _ _).mono ?_
  rintro e w1 ⟨rfl, rfl⟩
  go_wp2
  go_ret
  refine ⟨retB ?_, (Below.refl _ _).alloc (Nat.le_refl _) _⟩
  rw [Bool.eq_iff_iff]
  simp [hasI]
  omega

set_option maxHeartbeats 400000 in
theorem lmin_any (x y : Int) (w : World) : Calls Tryz.prog 37 #[.int .i64 x, .int .i64 y] w fun e w' => e = .returned (.int .i64 (min x y)) ∧ w' = w := by
  by_cases h : x < y
  · have HM : Hid (min x y = x) := by unfold Hid; omega
    go_enter Tryz.func37, Tryz.ntmps37
    go_wp2
    go_ret
    exact ⟨by rw [HM.out]; rfl, rfl⟩
  · have HM : Hid (min x y = y) := by unfold Hid; omega
    go_enter Tryz.func37, Tryz.ntmps37
    go_wp2
    go_ret
    exact ⟨by rw [HM.out]; rfl, rfl⟩

theorem own_of_eq {W w5 : World} {base k n : Nat} {e : TypeId} {v : Value} {xs : List Value} (e5 : w5 = W) (h : W.ownsRow base e k v n xs) : w5.ownsRow base e k v n xs := by rw [e5]; exact h
theorem own_of_eqN {W w5 : World} {base k n m : Nat} {e : TypeId} {v : Value} {xs : List Value} (e5 : w5 = W.drewN m) (h : W.ownsRow base e k v n xs) : w5.ownsRow base e k v n xs := by rw [e5]; exact h
theorem belowN {B : Nat} {w w' : World} (h : Below B w w') (n : Nat) : Below B w (w'.drewN n) := ⟨h.os, h.tape, h.output, h.size, h.block⟩

end Go.Proofs.YtbgkofinmdpmcaaGreatDoor

/-
  Contracts of the laws' own helpers toNode, toNodeS, toPool, szNode, szNodeS, szPool, eqNode, eqNodeS, eqPool.
-/
namespace Go.Proofs.YtbgkofinmdpmcaaGreatDoor
open Go.RowKit

/-- How much room is left behind so many bytes; -1 when there is not as much. -/
def less (l n : Int) : Int := if l < n then -1 else l - n

/-- The first j of xs, and zero nodes behind them. -/
def zeroN : Nd := ⟨0, 0, ByteArray.empty, 0, 0⟩
def ncopied (xs : List Nd) (j : Nat) : List Nd := xs.take j ++ List.replicate (xs.length - j) zeroN
theorem ncopied_length (xs : List Nd) (j : Nat) (h : j ≤ xs.length) : (ncopied xs j).length = xs.length := by simp [ncopied]; omega
theorem ncopied_full (xs : List Nd) : ncopied xs xs.length = xs := by simp [ncopied]
theorem ncs_zeros (n : Nat) : ncs (List.replicate n zeroN) = (madeCells #[Value.int .i64 0, .int .i64 0, .string ByteArray.empty, .int .i64 0, .int .i64 0] (n * 5)).toList := by
  apply List.ext_getElem?
  intro j
  by_cases hj : j < n * 5
  · have hq : j / 5 < n := by omega
    rw [show j = j / 5 * 5 + j % 5 by omega, ncs_get _ (j / 5) zeroN (by simp [hq]) (j % 5) (by omega)]
    rw [show j / 5 * 5 + j % 5 = j by omega]
    have h5 : j % 5 = 0 ∨ j % 5 = 1 ∨ j % 5 = 2 ∨ j % 5 = 3 ∨ j % 5 = 4 := by omega
    rcases h5 with h5 | h5 | h5 | h5 | h5 <;> simp [madeCells, hj, h5, zeroN, Nd.cs]
  · rw [List.getElem?_eq_none (by rw [ncs_length, List.length_replicate]; omega), List.getElem?_eq_none (by simp [madeCells]; omega)]
theorem ncopied_zero (xs : List Nd) : ncs (ncopied xs 0) = (madeCells #[Value.int .i64 0, .int .i64 0, .string ByteArray.empty, .int .i64 0, .int .i64 0] (xs.length * 5)).toList := by
  rw [← ncs_zeros]; simp [ncopied]
theorem ncopied_set (xs : List Nd) (j : Nat) (h : j < xs.length) : (ncopied xs j).set j xs[j] = ncopied xs (j + 1) := by
  unfold ncopied
  rw [show xs.length - j = xs.length - (j + 1) + 1 by omega, List.replicate_succ, List.take_succ_eq_append_getElem h]
  rw [List.set_append_right _ _ (by simp; omega)]
  have e : j - (List.take j xs).length = 0 := by simp; omega
  rw [e, List.set_cons_zero, List.append_assoc]
  rfl

theorem heap_alloc3_new (w : World) (A B C : Obj) : (((w.alloc A).alloc B).alloc C).heap[w.heap.size + 1 + 1]? = some C := by
  have h := heap_alloc_new ((w.alloc A).alloc B) C
  simpa using h

end Go.Proofs.YtbgkofinmdpmcaaGreatDoor
