/-
  Contract of the draws' DrawSizeOf.
-/
import Derived.Test.YtmgjefkelohocaaDoorDraw10
namespace Go.Proofs.YtmgjefkelohocaaDoor
open Go.RowKit

theorem PV.below {w w' : World} {b base : Nat} {xs : List Nd} (h : PV w b base xs) (hb : Below w.heap.size w w') : PV w' b base xs := by
  obtain ⟨v', h1, h2⟩ := h
  exact ⟨v', (hb.block b (Array.getElem?_eq_some_iff.1 h1).1).trans h1, own_below h2 hb⟩
theorem PV.turn {w w' : World} {b P : Nat} {xs : List Nd} (h : PV w b (P + 1) xs) (hg : w.grownBy w' (some P)) (hb : P < b) : PV w' b (P + 1) xs := h.kept hg (by omega) (by omega)
theorem below_own {w0 w w' : World} {v : Value} {zs : List Int} {P : Nat} (c : Cur w0 v zs w P) (hb : Below (P + 1) w w') : Cur w0 v zs w' P := c.kept hb

set_option maxRecDepth 100000 in
set_option maxHeartbeats 3200000 in
theorem dsizeof_any (v : Value) (zs : List Int) (w : World) (R : Row w v zs) (hl : zs.length ≤ 1048576) :
    Calls Tryd.prog 52 #[v] w fun e w' => ∃ (v' : Value) (xs : List Nd) (x : Int), e = .returned (.tuple #[.agg #[v'], .int .i64 x]) ∧ xs.length ≤ 3001 ∧ (∀ x ∈ xs, x.s.size ≤ 40) ∧ w'.ownsRow w.heap.size 55 5 v' xs.length (ncs xs) ∧ -9223372036854775808 ≤ x ∧ x ≤ 9223372036854775807 ∧ Below w.heap.size w w' := by
  have hB0 : Below w.heap.size w (w.alloc (.cells #[.slice none 0 0] 26)) := (Below.refl _ _).alloc (Nat.le_refl _) _
  have hr0 : (w.alloc (.cells #[.slice none 0 0] 26)).heap[w.heap.size]? = some (.cells #[.slice none 0 0] 26 (0, 0)) := heap_alloc_new _ _
  have R0 := R.below hB0
  go_enter Tryd.func52, Tryd.ntmps52
  go_wp2_with fail
  generalize hA : w.alloc (Obj.cells #[Value.slice none 0 0] 26) = wA at hB0 hr0 R0 ⊢
  have hA1 : wA.heap.size = w.heap.size + 1 := by rw [← hA]; simp
  have HA1 : Hid (wA.heap.size = w.heap.size + 1) := hA1
  clear hA hA1
  refine (new_any v zs wA R0 hl).mono ?_
  rintro e w1 ⟨rfl, c1, b1⟩
  have hlr : w.heap.size < wA.heap.size := by rw [HA1.out]; omega
  have hP1 := c1.lt
  have hlrA := hlr
  generalize wA.heap.size = P at c1 hlr hP1 HA1 ⊢
  clear b1
  go_wp2_with fail
  refine (ddraw_any wA v zs w1 P c1).mono ?_
  rintro e w2 ⟨v2, xs, rfl, hxl, hz, ho2, c2, g2⟩
  obtain ⟨a2, q2, rfl⟩ := own_form ho2
  have hb2 := c2.lt
  have pv2 : PV (w2.alloc (.cells #[.slice a2 xs.length q2] 26)) w2.heap.size (P + 1) xs := ⟨_, heap_alloc_new _ _, own_mono (ho2.alloc _) (by omega)⟩
  have c3 := c2.kept ((Below.refl (P + 1) w2).alloc (by omega) (.cells #[.slice a2 xs.length q2] 26))
  clear ho2 c2 g2 c1
  go_wp2_with fail
  generalize w2.alloc (Obj.cells #[Value.slice a2 xs.length q2] 26) = w3 at pv2 c3 ⊢
  generalize w2.heap.size = b at pv2 hb2 ⊢
  refine (once_any wA v zs w3 P 12 c3 (by omega)).mono ?_
  rintro e w4 ⟨bb, rfl, c4, g4⟩
  have pv4 := pv2.turn g4 hb2
  have HZ : Hid (∀ x ∈ xs, x.s.size ≤ 40) := hz
  clear pv2 c3 g4 hz
  go_upto_if 12 with fail
  go_cut [] from 7 (fun wx => ∃ ys : List Nd, ys.length ≤ 3001 ∧ Hid (∀ x ∈ ys, x.s.size ≤ 40) ∧ PV wx b (P + 1) ys ∧ Cur wA v zs wx P)
  case first =>
    cases bb with
    | false =>
      go_wp2_with fail
      go_meet
      case rel => exact ⟨xs, hxl, HZ, pv4, c4⟩
    | true =>
      obtain ⟨v4, hb4, ho4⟩ := pv4
      have hc4 : w4.cell? ⟨b, 0, none⟩ = some v4 := by rw [cell_of_row w4 _ 0 _ _ _ hb4]; rfl
      have hf4 : w4.frozen? ⟨b, 0, none⟩ = false := frozen_of_row w4 _ 0 _ _ hb4
      have hlt4 := (Array.getElem?_eq_some_iff.1 hb4).1
      have hne : b ≠ w4.heap.size := by omega
      have hb5 := heap_setCell_same w4 b 0 _ _ (.slice (some ⟨w4.heap.size, 0, none⟩) 1 1) hb4
      have hs5 : (w4.setCell ⟨b, 0, none⟩ (.slice (some ⟨w4.heap.size, 0, none⟩) 1 1)).heap.size = w4.heap.size := by simp [World.setCell]
      have hb6 := (heap_alloc_old _ (Obj.cells #[.int .i64 1, .int .i64 0, .string ByteArray.empty, .int .i64 0, .int .i64 0] 55) (by rw [hs5]; exact hlt4)).trans hb5
      have own6 := own_lit1 (w4.setCell ⟨b, 0, none⟩ (.slice (some ⟨w4.heap.size, 0, none⟩) 1 1)) ⟨1, 0, ByteArray.empty, 0, 0⟩ (P + 1) (by rw [hs5]; omega)
      rw [hs5] at own6
      have c6 := c4.kept (((Below.refl (P + 1) w4).setCell (p := ⟨b, 0, none⟩) (by simp; omega) (.slice (some ⟨w4.heap.size, 0, none⟩) 1 1)).alloc (by omega) (Obj.cells #[.int .i64 1, .int .i64 0, .string ByteArray.empty, .int .i64 0, .int .i64 0] 55))
      clear hs5
      go_wp2_with fail
      go_loopw [6] (fun i wr => ∃ (ys : List Nd), 1 ≤ ys.length ∧ ys.length ≤ 41 ∧ i = .int .i64 ((ys.length : Int) - 1) ∧ Hid (∀ x ∈ ys, x.s.size ≤ 40) ∧ PV wr b (P + 1) ys ∧ Cur wA v zs wr P) (fun i _ => 40 - (intOf i).toNat)
      case atStart => exact ⟨[⟨1, 0, ByteArray.empty, 0, 0⟩], by simp, by simp, rfl, (fun x hx => by simp at hx; rw [hx]; exact empty40), ⟨_, hb6, own6⟩, c6⟩
      case round =>
        clear hc4 hf4 hb5 own6 hb6 c6 hb4 ho4 c4
        obtain ⟨ys, h1, h41, rfl, HY, pvr, cr⟩ := hrel
        by_cases hlt : (ys.length : Int) - 1 < 40
        · obtain ⟨v5, hb5, ho5⟩ := pvr
          obtain ⟨a5, q5, rfl⟩ := own_form ho5
          go_wp2_with fail
          refine (sadd_any b (P + 1) a5 q5 ys ⟨5, 0, ByteArray.empty, (ys.length : Int) - 1, (ys.length : Int) - 1⟩ wr hb5 ho5 (by omega) (by omega)).mono ?_
          rintro e w6 ⟨v6, rfl, hb6, ho6, hB6⟩
          have c6 := cr.kept hB6
          clear hb5 ho5 hB6 cr
          go_wp2_with fail
          go_roundw
          case rel =>
            refine ⟨ys ++ [_], by simp, by simp; omega, by simp, ?_, ⟨_, hb6, ho6⟩, c6⟩
            intro z hz
            simp only [List.mem_append, List.mem_singleton] at hz
            rcases hz with hz | rfl
            · exact HY.out z hz
            · exact empty40
          case measure => simp [intOf]; omega
        · go_wp2_with fail
          go_meet
          case rel => exact ⟨ys, by omega, HY, pvr, cr⟩
  case rest =>
    obtain ⟨ys, hyl, HY, ⟨v5, hb5, ho5⟩, c5⟩ := hcut
    clear pv4 c4 HZ hxl
    obtain ⟨a5, q5, rfl⟩ := own_form ho5
    obtain ⟨w5, hw5⟩ : ∃ w5, w5 = wc := ⟨_, rfl⟩
    subst hw5
    have hc5 : w5.cell? ⟨b, 0, none⟩ = some (.slice a5 ys.length q5) := by rw [cell_of_row w5 _ 0 _ _ _ hb5]; rfl
    have hlt5 := (Array.getElem?_eq_some_iff.1 hb5).1
    go_wp2_with fail
    go_region_with (go_at_call 34; refine (ddrawat_any wA v zs _ P a5 ys.length q5 ?_ (by omega)).mono ?_; exact c5.kept ⟨rfl, rfl, rfl, Nat.le_refl _, fun _ _ => rfl⟩; rintro e w6 ⟨x, rfl, hx0, hx1, c6, g6⟩; have g6' : w5.grownBy w6 (some P) := ⟨g6.os, g6.tape, g6.output, g6.size, g6.block⟩; have hb6 := (g6'.block b hlt5 (by simp; omega)).trans hb5; have ho6 := ho5.kept g6' (own_not ho5 (by omega)); have hc6 : w6.cell? ⟨b, 0, none⟩ = some (.slice a5 ys.length q5) := cell_of_row w6 b 0 _ _ _ hb6; have hr6 : w6.heap[w.heap.size]? = some (.cells #[.slice none 0 0] 26 (0, 0)) := (c6.2.1.block _ (by omega)).trans hr0; have hd6 : w6.cell? ⟨w.heap.size, 0, none⟩ = some (.slice none 0 0) := cell_of_row w6 _ 0 _ _ _ hr6; have hf6 : w6.frozen? ⟨w.heap.size, 0, none⟩ = false := frozen_of_row w6 _ 0 _ _ hr6)
    all_goals
      have hBA : Below w.heap.size w w6 := hB0.trans (c6.2.1.mono hB0.size)
      obtain ⟨p1, p2, p3⟩ := put_pool hr6 ho6 hBA (by omega) (Nat.le_refl _)
      clear hd6 hf6 hc6 hc5
      go_wp2_with fail
      refine bodyPost_ret (results_row_tmp rfl _ _ w.heap.size 26 _ (0, 0) _ rfl p1 Tryd.underlying26 rfl Tryd.sizeP) rfl ⟨_, ys, x, rfl, hyl, HY.out, p2, hx0, hx1, p3⟩
end Go.Proofs.YtmgjefkelohocaaDoor
