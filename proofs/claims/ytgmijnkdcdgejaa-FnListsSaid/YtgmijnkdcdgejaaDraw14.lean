/-
  Contract of the draws' DrawListOf.
-/
import Derived.Test.YtgmijnkdcdgejaaDraw13
import Derived.Test.YtgmijnkdcdgejaaSList2
namespace Go.Proofs.Ytgmijnkdcdgejaa
open Go.RowKit

theorem more_small (zs : List Int) (n m : Nat) : ∀ x ∈ more zs n m, x.s.size ≤ 40 := by
  have hp : ∀ (r : List Int) (l : Nat), ∀ x ∈ pairsR r l, x.s.size ≤ 40 := by
    intro r
    induction r with
    | nil => intro l x hx; simp [pairsR] at hx
    | cons z r ih =>
      intro l x hx
      simp only [pairsR, List.mem_cons] at hx
      rcases hx with rfl | hx
      · exact empty40
      · exact ih _ x hx
  intro x hx
  simp only [more, List.mem_cons] at hx
  rcases hx with rfl | hx
  · exact empty40
  · exact hp _ _ x hx

set_option maxRecDepth 100000 in
set_option maxHeartbeats 3200000 in
theorem dlistof_any (v : Value) (zs : List Int) (w : World) (R : Row w v zs) (hl : zs.length ≤ 1048576) :
    Calls Try.prog 10 #[v] w fun e w' => ∃ (v' : Value) (xs : List Nd) (x : Int), e = .returned (.tuple #[.agg #[v'], .int .i64 x]) ∧ xs.length ≤ 3001 ∧ (∀ x ∈ xs, x.s.size ≤ 40) ∧ w'.ownsRow w.heap.size 68 5 v' xs.length (ncs xs) ∧ Below w.heap.size w w' := by
  obtain ⟨i0, hi, hz0, hz1, hz2⟩ := info_parts Try.infoI4
  have hB0 : Below w.heap.size w (w.alloc (.cells #[.slice none 0 0] 26)) := (Below.refl _ _).alloc (Nat.le_refl _) _
  have hr0 : (w.alloc (.cells #[.slice none 0 0] 26)).heap[w.heap.size]? = some (.cells #[.slice none 0 0] 26 (0, 0)) := heap_alloc_new _ _
  have R0 := R.below hB0
  go_enter Try.func10, Try.ntmps10
  go_wp2_with fail
  generalize hA : w.alloc (Obj.cells #[Value.slice none 0 0] 26) = wA at hB0 hr0 R0 ⊢
  have hlr : w.heap.size < wA.heap.size := by rw [← hA]; simp
  clear hA
  refine (new_any v zs wA R0 hl).mono ?_
  rintro e w1 ⟨rfl, c1, b1⟩
  have hP1 := c1.lt
  have hlrA := hlr
  generalize wA.heap.size = P at c1 hlr hP1 ⊢
  clear b1
  go_wp2_with fail
  refine (ddraw_any wA v zs w1 P c1).mono ?_
  rintro e w2 ⟨v2, xs, rfl, hxl, hz, ho2, c2, g2⟩
  obtain ⟨a2, q2, rfl⟩ := own_form ho2
  have hb2 := c2.lt
  have hb3 := heap_alloc_new w2 (.cells #[.slice a2 xs.length q2] 26)
  have ho3 := own_mono (B' := P + 1) (ho2.alloc (.cells #[.slice a2 xs.length q2] 26)) (by omega)
  have c3 := c2.kept ((Below.refl (P + 1) w2).alloc (by omega) (.cells #[.slice a2 xs.length q2] 26))
  have HZ : Hid (∀ x ∈ xs, x.s.size ≤ 40) := hz
  clear ho2 c2 g2 c1 hz
  go_upto_region 3 with fail
  generalize w2.alloc (Obj.cells #[Value.slice a2 xs.length q2] 26) = w3 at hb3 ho3 c3 ⊢
  generalize w2.heap.size = b at hb3 hb2 ⊢
  have hl3 := (Array.getElem?_eq_some_iff.1 hb3).1
  go_cut [31] from 9 (fun s31 wx => ∃ bb : Bool, s31 = .bool bb ∧ (bb = true → 0 < xs.length ∧ xs.length < 40) ∧ wx.heap[b]? = some (.cells #[.slice a2 xs.length q2] 26 (0, 0)) ∧ wx.ownsRow (P + 1) 68 5 (.slice a2 xs.length q2) xs.length (ncs xs) ∧ Cur wA v zs wx P)
  case first =>
    have R3 := NRow.of_own ho3 (by omega) (fun x hx => Nat.le_trans (HZ.out x hx) (by unfold maxLen; omega))
    have hc3 : w3.cell? ⟨b, 0, none⟩ = some (.slice a2 xs.length q2) := cell_of_row w3 _ 0 _ _ _ hb3
    go_wp2_with fail
    refine (spool_any _ xs _ R3).mono ?_
    rintro e w4 ⟨rfl, hb34⟩
    have hb4 := (hb34.block b hl3).trans hb3
    have ho4 := own_below ho3 hb34
    have c4 := c3.kept (hb34.mono (by omega))
    have hc4 : w4.cell? ⟨b, 0, none⟩ = some (.slice a2 xs.length q2) := cell_of_row w4 _ 0 _ _ _ hb4
    have hl4 := (Array.getElem?_eq_some_iff.1 hb4).1
    clear hb3 ho3 c3 hc3 hb34 R3
    cases hp : poolB xs with
    | false =>
      go_wp2_with fail
      go_meet
      case rel => exact ⟨false, rfl, (fun h => by cases h), hb4, ho4, c4⟩
    | true =>
      by_cases h0 : 0 < xs.length
      · have h0' : (0 : Int) < xs.length := by omega
        by_cases h40 : xs.length < 40
        · have h40' : (xs.length : Int) < 40 := by omega
          go_wp2_with fail
          refine (once_any wA v zs w4 P 3 c4 (by omega)).mono ?_
          rintro e w5 ⟨bb, rfl, c5, g5⟩
          have hb5 := (g5.block b hl4 (by simp; omega)).trans hb4
          have ho5 := ho4.kept g5 (own_not ho4 (by omega))
          go_wp2_with fail
          go_meet
          case rel => exact ⟨!bb, rfl, (fun _ => ⟨h0, h40⟩), hb5, ho5, c5⟩
        · have h40' : ¬ (xs.length : Int) < 40 := by omega
          go_wp2_with fail
          go_meet
          case rel => exact ⟨false, rfl, (fun h => by cases h), hb4, ho4, c4⟩
      · have h0' : ¬ (0 : Int) < xs.length := by omega
        go_wp2_with fail
        go_meet
        case rel => exact ⟨false, rfl, (fun h => by cases h), hb4, ho4, c4⟩
  case rest =>
    obtain ⟨bb, rfl, hbb, hb5, ho5, c5⟩ := hcut
    obtain ⟨w5, hw5⟩ : ∃ w5, w5 = wc := ⟨_, rfl⟩
    subst hw5
    clear hb3 ho3 c3 hl3
    have hl5 := (Array.getElem?_eq_some_iff.1 hb5).1
    have hc5 : w5.cell? ⟨b, 0, none⟩ = some (.slice a2 xs.length q2) := cell_of_row w5 _ 0 _ _ _ hb5
    have hP5 := c5.lt
    cases bb with
    | false =>
      clear hbb
      go_wp2_with fail
      go_region_with (go_at_call 23; refine (ddrawat_any wA v zs _ P a2 xs.length q2 ?_ (by omega)).mono ?_; exact c5.kept ⟨rfl, rfl, rfl, Nat.le_refl _, fun _ _ => rfl⟩; rintro e w6 ⟨x, rfl, hx0, hx1, c6, g6⟩; have g6' : w5.grownBy w6 (some P) := ⟨g6.os, g6.tape, g6.output, g6.size, g6.block⟩; have hb6 := (g6'.block b hl5 (by simp; omega)).trans hb5; have ho6 := ho5.kept g6' (own_not ho5 (by omega)); have hc6 : w6.cell? ⟨b, 0, none⟩ = some (.slice a2 xs.length q2) := cell_of_row w6 b 0 _ _ _ hb6; have hr6 : w6.heap[w.heap.size]? = some (.cells #[.slice none 0 0] 26 (0, 0)) := (c6.2.1.block _ (by omega)).trans hr0; have hd6 : w6.cell? ⟨w.heap.size, 0, none⟩ = some (.slice none 0 0) := cell_of_row w6 _ 0 _ _ _ hr6; have hf6 : w6.frozen? ⟨w.heap.size, 0, none⟩ = false := frozen_of_row w6 _ 0 _ _ hr6)
      all_goals
        have hBA : Below w.heap.size w w6 := hB0.trans (c6.2.1.mono hB0.size)
        obtain ⟨p1, p2, p3⟩ := put_pool hr6 ho6 hBA (by omega) (Nat.le_refl _)
        clear hd6 hf6 hc6 hc5
        go_wp2_with fail
        refine bodyPost_ret (results_row_tmp rfl _ _ w.heap.size 26 _ (0, 0) _ rfl p1 Try.underlying26 rfl Try.sizeP) rfl ⟨_, xs, x, rfl, hxl, HZ.out, p2, p3⟩
    | true =>
      obtain ⟨h0, h40⟩ := hbb rfl
      have hb6 := (heap_alloc_old w5 (.cells #[] 3) hl5).trans hb5
      have ho6 := ho5.alloc (.cells #[] 3)
      have hi6 := own_empty w5 3 1 (P + 1) (by omega)
      have c6 := c5.kept ((Below.refl (P + 1) w5).alloc (by omega) (.cells #[] 3))
      clear hb5 ho5 c5 hc5
      go_wp2_with fail
      go_loopw [6, 7] (fun s i wr => ∃ (ls : List Int), ls.length ≤ 5 ∧ i = .int .i64 ls.length ∧ wr.heap[b]? = some (.cells #[.slice a2 xs.length q2] 26 (0, 0)) ∧ wr.ownsRow (P + 1) 68 5 (.slice a2 xs.length q2) xs.length (ncs xs) ∧ wr.ownsRow (P + 1) 3 1 s ls.length (iv ls) ∧ Cur wA v zs wr P) (fun _ i _ => 5 - (intOf i).toNat)
      case atStart => exact ⟨[], by simp, rfl, hb6, ho6, hi6, c6⟩
      case round =>
        clear hb6 ho6 hi6 c6
        obtain ⟨ls, hls, rfl, hbr, hor, hir, cr⟩ := hrel
        have hlr4 := (Array.getElem?_eq_some_iff.1 hbr).1
        go_wp2_with fail
        refine (below_any wA v zs wr P 5 cr (by omega)).mono ?_
        rintro e w6 ⟨n, rfl, hn0, hn1, c6, g6⟩
        have hn := hn1 (by omega)
        have hb6 := (g6.block b hlr4 (by simp; omega)).trans hbr
        have ho6 := hor.kept g6 (own_not hor (by omega))
        have hi6 := hir.kept g6 (own_not hir (by omega))
        have hl6 := (Array.getElem?_eq_some_iff.1 hb6).1
        have hc6 : w6.cell? ⟨b, 0, none⟩ = some (.slice a2 xs.length q2) := cell_of_row w6 _ 0 _ _ _ hb6
        clear hbr hor hir cr g6 hn1 hlr4
        by_cases hlt : (ls.length : Int) < n
        · go_wp2_with fail
          refine (below_any wA v zs w6 P xs.length c6 (by omega)).mono ?_
          rintro e w7 ⟨x, rfl, hx0, hx1, c7, g7⟩
          have hb7 := (g7.block b hl6 (by simp; omega)).trans hb6
          have ho7 := ho6.kept g7 (own_not ho6 (by omega))
          have hi7 := hi6.kept g7 (own_not hi6 (by omega))
          have hl7 := (Array.getElem?_eq_some_iff.1 hb7).1
          obtain ⟨asl, qs, rfl⟩ := own_form hi7
          clear hb6 ho6 hi6 c6 g7 hl6 hc6 hx1
          go_wp2_with (at_builtin; refine wpList_append_own _ rfl _ _ 27 rfl (P + 1) 3 i0 (.int .i64 0) 1 8 Try.underlying27 hi hz0 hz1 hz2 rfl (by decide) _ _ _ rfl (hi7.alloc _) ⟨w7.heap.size, 0, none⟩ 1 1 [.int .i64 x] rfl rfl (cell_one_new _ _ _) (fun u hu => by simp at hu; subst hu; rfl) (by unfold maxLen; omega) (by omega) (by simp; omega) ?_)
          intro v8 w8 hi8 hg8 _
          have hi9 : w8.ownsRow (P + 1) 3 1 v8 (ls ++ [x]).length (iv (ls ++ [x])) := by rw [iv_append, List.length_append]; exact hi8
          have ho8 := (ho7.alloc (Obj.cells #[.int .i64 x] 3)).kept hg8 (own_apart ho7 hi7 (by decide))
          have hb8 : w8.heap[b]? = some (.cells #[.slice a2 xs.length q2] 26 (0, 0)) := (hg8.block b (by simp; omega) (fun e => own_ne hi7 hb7 (by decide) e.symm)).trans ((heap_alloc_old _ _ hl7).trans hb7)
          have c8 := c7.kept (((Below.refl (P + 1) w7).alloc (by omega) _).grown hg8 (by simp; omega) (fun k hk => (hi7.lt k hk).1))
          clear hi8 hg8 ho7 hb7 c7 hi7
          go_wp2_with fail
          go_roundw
          case rel => exact ⟨ls ++ [x], by simp; omega, by simp, hb8, ho8, hi9, c8⟩
          case measure => simp [intOf]; omega
        · go_wp2_with fail
          refine (slist_more b (P + 1) _ _ xs ls w6 hb6 ho6 hi6 (by omega) (by omega) (by omega)).mono ?_
          rintro e w7 ⟨v7, rfl, hb7, ho7, hB7⟩
          have c7 := c6.kept hB7
          have hml := more_length ls xs.length 0
          have hlL : (xs ++ more ls xs.length 0).length ≤ 3001 := by rw [List.length_append, hml]; omega
          have HL : Hid (∀ x ∈ xs ++ more ls xs.length 0, x.s.size ≤ 40) := fun x hx => by
            rcases List.mem_append.1 hx with h | h
            · exact HZ.out x h
            · exact more_small _ _ _ x h
          generalize xs ++ more ls xs.length 0 = LL at ho7 hlL HL
          obtain ⟨a7, q7, rfl⟩ := own_form ho7
          have hc7 : w7.cell? ⟨b, 0, none⟩ = some (.slice a7 LL.length q7) := cell_of_row w7 _ 0 _ _ _ hb7
          have hr7 := (c7.2.1.block w.heap.size (by omega)).trans hr0
          have hd7 : w7.cell? ⟨w.heap.size, 0, none⟩ = some (.slice none 0 0) := cell_of_row w7 _ 0 _ _ _ hr7
          have hf7 : w7.frozen? ⟨w.heap.size, 0, none⟩ = false := frozen_of_row w7 _ 0 _ _ hr7
          have hBA : Below w.heap.size w w7 := hB0.trans (c7.2.1.mono hB0.size)
          obtain ⟨p1, p2, p3⟩ := put_pool hr7 ho7 hBA (by omega) (Nat.le_refl _)
          have hne : w.heap.size ≠ b := by omega
          clear hml
          go_wp2_with fail
          refine bodyPost_ret (results_row_tmp rfl _ _ w.heap.size 26 _ (0, 0) _ rfl p1 Try.underlying26 rfl Try.sizeP) rfl ⟨_, LL, _, rfl, hlL, HL.out, p2, p3⟩
end Go.Proofs.Ytgmijnkdcdgejaa
