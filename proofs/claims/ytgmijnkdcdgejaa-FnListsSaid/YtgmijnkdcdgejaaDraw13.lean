/-
  Contract of the draws' DrawMakeList.
-/
import Derived.Test.YtgmijnkdcdgejaaDraw12
import Derived.Test.YtgmijnkdcdgejaaSCls
namespace Go.Proofs.Ytgmijnkdcdgejaa
open Go.RowKit

set_option maxRecDepth 100000 in
set_option maxHeartbeats 3200000 in
theorem dmklist_any (v : Value) (zs : List Int) (w : World) (R : Row w v zs) (hl : zs.length ≤ 1048576) :
    Calls Try.prog 6 #[v] w fun e w' => ∃ (v' vl : Value) (xs : List Nd) (ls : List Int), e = .returned (.tuple #[.agg #[v'], vl]) ∧ xs.length ≤ 3001 ∧ (∀ x ∈ xs, x.s.size ≤ 40) ∧ ls.length ≤ 6 ∧ w'.ownsRow w.heap.size 68 5 v' xs.length (ncs xs) ∧ w'.ownsRow w.heap.size 3 1 vl ls.length (iv ls) ∧ Below w.heap.size w w' := by
  obtain ⟨i0, hi, hz0, hz1, hz2⟩ := info_parts Try.infoI4
  have hB0 : Below w.heap.size w (w.alloc (.cells #[.slice none 0 0] 26)) := (Below.refl _ _).alloc (Nat.le_refl _) _
  have hr0 : (w.alloc (.cells #[.slice none 0 0] 26)).heap[w.heap.size]? = some (.cells #[.slice none 0 0] 26 (0, 0)) := heap_alloc_new _ _
  have R0 := R.below hB0
  go_enter Try.func6, Try.ntmps6
  go_wp2_with fail
  generalize hA : w.alloc (Obj.cells #[Value.slice none 0 0] 26) = wA at hB0 hr0 R0 ⊢
  have hlr : w.heap.size < wA.heap.size := by rw [← hA]; simp
  clear hA
  refine (new_any v zs wA R0 hl).mono ?_
  rintro e w1 ⟨rfl, c1, b1⟩
  have hP1 := c1.lt
  have hlrA := hlr
  generalize wA.heap.size = P at c1 hlr hP1 ⊢
  clear b1
  go_wp2_with fail
  refine (ddraw_any wA v zs w1 P c1).mono ?_
  rintro e w2 ⟨v2, xs, rfl, hxl, hz, ho2, c2, g2⟩
  obtain ⟨a2, q2, rfl⟩ := own_form ho2
  have hb2 := c2.lt
  have hs1 : P + 1 ≤ w1.heap.size := by omega
  have hb4 : ((w2.alloc (.cells #[.slice a2 xs.length q2] 26)).alloc (.cells #[] 3)).heap[w2.heap.size]? = some (.cells #[.slice a2 xs.length q2] 26 (0, 0)) := (heap_alloc_old _ _ (by simp)).trans (heap_alloc_new _ _)
  have ho4 := own_mono (B' := P + 1) ((ho2.alloc (.cells #[.slice a2 xs.length q2] 26)).alloc (.cells #[] 3)) hs1
  have hi4 := own_empty (w2.alloc (.cells #[.slice a2 xs.length q2] 26)) 3 1 (P + 1) (by simp; omega)
  have c4 := c2.kept (((Below.refl (P + 1) w2).alloc (by omega) (.cells #[.slice a2 xs.length q2] 26)).alloc (by simp; omega) (.cells #[] 3))
  have HZ : Hid (∀ x ∈ xs, x.s.size ≤ 40) := hz
  have hsw : (w2.alloc (.cells #[.slice a2 xs.length q2] 26)).heap.size = w2.heap.size + 1 := by simp
  rw [hsw] at hi4
  clear ho2 c2 g2 c1 hz hsw
  go_wp2_with fail
  generalize hb : w2.heap.size = b at hb4 hb2 hi4 ⊢
  generalize hw4 : (w2.alloc (Obj.cells #[Value.slice a2 xs.length q2] 26)).alloc (Obj.cells #[] 3) = w4 at hb4 ho4 hi4 c4 ⊢
  clear hw4 hb
  go_loopw [6, 7] (fun s i wr => ∃ (ls : List Int), ls.length ≤ 6 ∧ i = .int .i64 ls.length ∧ wr.heap[b]? = some (.cells #[.slice a2 xs.length q2] 26 (0, 0)) ∧ wr.ownsRow (P + 1) 68 5 (.slice a2 xs.length q2) xs.length (ncs xs) ∧ wr.ownsRow (P + 1) 3 1 s ls.length (iv ls) ∧ Cur wA v zs wr P) (fun _ i _ => 6 - (intOf i).toNat)
  case atStart => exact ⟨[], by simp, rfl, hb4, ho4, hi4, c4⟩
  case round =>
    clear hb4 ho4 hi4 c4
    obtain ⟨ls, hls, rfl, hbr, hor, hir, cr⟩ := hrel
    have hlr4 := (Array.getElem?_eq_some_iff.1 hbr).1
    go_wp2_with fail
    refine (below_any wA v zs wr P 6 cr (by omega)).mono ?_
    rintro e w5 ⟨n, rfl, hn0, hn1, c5, g5⟩
    have hn := hn1 (by omega)
    have hb5 := (g5.block b hlr4 (by simp; omega)).trans hbr
    have ho5 := hor.kept g5 (own_not hor (by omega))
    have hi5 := hir.kept g5 (own_not hir (by omega))
    have hl5 := (Array.getElem?_eq_some_iff.1 hb5).1
    have hc5 : w5.cell? ⟨b, 0, none⟩ = some (.slice a2 xs.length q2) := cell_of_row w5 _ 0 _ _ _ hb5
    clear hbr hor hir cr g5 hn1 hlr4
    by_cases hlt : (ls.length : Int) < n
    · go_wp2_with fail
      refine (ddrawat_any wA v zs w5 P a2 xs.length q2 c5 (by omega)).mono ?_
      rintro e w6 ⟨x, rfl, hx0, hx1, c6, g6⟩
      have hb6 := (g6.block b hl5 (by simp; omega)).trans hb5
      have ho6 := ho5.kept g6 (own_not ho5 (by omega))
      have hi6 := hi5.kept g6 (own_not hi5 (by omega))
      have hl6 := (Array.getElem?_eq_some_iff.1 hb6).1
      obtain ⟨asl, qs, rfl⟩ := own_form hi6
      clear hb5 ho5 hi5 c5 g6 hl5 hc5
      go_wp2_with (at_builtin; refine wpList_append_own _ rfl _ _ 27 rfl (P + 1) 3 i0 (.int .i64 0) 1 8 Try.underlying27 hi hz0 hz1 hz2 rfl (by decide) _ _ _ rfl (hi6.alloc _) ⟨w6.heap.size, 0, none⟩ 1 1 [.int .i64 x] rfl rfl (cell_one_new _ _ _) (fun u hu => by simp at hu; subst hu; rfl) (by unfold maxLen; omega) (by omega) (by simp; omega) ?_)
      intro v7 w7 hi7 hg7 _
      have hi8 : w7.ownsRow (P + 1) 3 1 v7 (ls ++ [x]).length (iv (ls ++ [x])) := by rw [iv_append, List.length_append]; exact hi7
      have ho7 := (ho6.alloc (Obj.cells #[.int .i64 x] 3)).kept hg7 (own_apart ho6 hi6 (by decide))
      have hb7 : w7.heap[b]? = some (.cells #[.slice a2 xs.length q2] 26 (0, 0)) := (hg7.block b (by simp; omega) (fun e => own_ne hi6 hb6 (by decide) e.symm)).trans ((heap_alloc_old _ _ hl6).trans hb6)
      have c7 := c6.kept (((Below.refl (P + 1) w6).alloc (by omega) _).grown hg7 (by simp; omega) (fun k hk => (hi6.lt k hk).1))
      clear hi7 hg7 ho6 hb6 c6 hi6
      go_wp2_with fail
      go_roundw
      case rel => exact ⟨ls ++ [x], by simp; omega, by simp, hb7, ho7, hi8, c7⟩
      case measure => simp [intOf]; omega
    · have hr5 := (c5.2.1.block w.heap.size (by omega)).trans hr0
      have hd5 : w5.cell? ⟨w.heap.size, 0, none⟩ = some (.slice none 0 0) := cell_of_row w5 _ 0 _ _ _ hr5
      have hf5 : w5.frozen? ⟨w.heap.size, 0, none⟩ = false := frozen_of_row w5 _ 0 _ _ hr5
      have hB5 := hB0.trans (c5.2.1.mono hB0.size)
      obtain ⟨p1, p2, p3⟩ := put_pool hr5 ho5 hB5 (by omega) (Nat.le_refl _)
      have p4 := own_mono (B' := w.heap.size) (ownsRow_setCell_below hi5 (a := ⟨w.heap.size, 0, none⟩) (by show w.heap.size < P + 1; omega) (.slice a2 xs.length q2)) (by omega)
      have hne : w.heap.size ≠ b := by omega
      obtain ⟨asl, qs, rfl⟩ := own_form hi5
      go_wp2_with fail
      refine bodyPost_ret (results_row_tmp rfl _ _ w.heap.size 26 _ (0, 0) _ rfl p1 Try.underlying26 rfl Try.sizeP) rfl ⟨_, .slice asl ls.length qs, xs, ls, rfl, hxl, HZ.out, hls, p2, p4, p3⟩
end Go.Proofs.Ytgmijnkdcdgejaa
