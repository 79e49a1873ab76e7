/-
  The contract of spec.DeedParse. No condition but the line's length.
-/
import Derived.Test.YtkoiccocgejmcaaDoorSDp2
import Derived.Deep.RegionHeld3
namespace Go.Proofs.YtkoiccocgejmcaaDoor
open Go.RowKit

/-- Nothing is read. -/
theorem ps_none {L : List UInt8} (h : fld 1 ((spl L).drop 1) 0 0 = none) : PsAns L 0 0 0 false := by
  refine ⟨fun h => (by cases h), fun _ => ⟨rfl, rfl, rfl, fun k a b hd e => ?_⟩⟩
  have := (fld_line hd).1
  rw [e, h] at this
  cases this
theorem ps_some {L : List UInt8} {a b : Int} (h : fld 1 ((spl L).drop 1) 0 0 = some (a, b)) (k' a' b' : Int) (hd : dlB k' a' b' = true) (e : lineL k' a' b' = L) : k' = kdL ((spl L).headD []) ∧ a' = a ∧ b' = b := by
  have h1 := fld_line hd
  rw [e, h] at h1
  simp only [Option.some.injEq, Prod.mk.injEq] at h1
  exact ⟨h1.2.symm, h1.1.1.symm, h1.1.2.symm⟩
theorem ps_bad {L : List UInt8} {a b : Int} (h : fld 1 ((spl L).drop 1) 0 0 = some (a, b)) (hb : dlB (kdL ((spl L).headD [])) a b = false ∨ lineL (kdL ((spl L).headD [])) a b ≠ L) : PsAns L 0 0 0 false := by
  refine ⟨fun h => (by cases h), fun _ => ⟨rfl, rfl, rfl, fun k' a' b' hd e => ?_⟩⟩
  obtain ⟨rfl, rfl, rfl⟩ := ps_some h k' a' b' hd e
  rcases hb with hb | hb
  · rw [hb] at hd; cases hd
  · exact hb e
theorem spl_mem (l : List UInt8) : ∀ w ∈ spl l, w.length ≤ l.length := by
  induction l with
  | nil => intro w hw; simp [spl] at hw; subst hw; simp
  | cons c r ih =>
    intro w hw
    unfold spl at hw
    split at hw
    · rcases List.mem_cons.1 hw with rfl | h
      · simp
      · have := ih w h; simp; omega
    · split at hw
      · simp at hw; subst hw; simp
      · rename_i h t e
        rcases List.mem_cons.1 hw with rfl | h'
        · have := ih h (by rw [e]; simp); simp; omega
        · have := ih w (by rw [e]; simp [h']); simp; omega
theorem fld_step {ws : List (List UInt8)} {i : Nat} {w : List UInt8} {a b : Int} (h : ws[i]? = some w) : fld i (ws.drop i) a b = if n9 w = true ∧ i ≤ 2 then (if i = 1 then fld (i + 1) (ws.drop (i + 1)) (tval w) b else fld (i + 1) (ws.drop (i + 1)) a (tval w)) else none := by
  obtain ⟨h1, h2⟩ := List.getElem?_eq_some_iff.1 h
  rw [List.drop_eq_getElem_cons h1, h2]
  rfl

set_option maxRecDepth 100000 in
set_option maxHeartbeats 6400000 in
theorem sdp_any (s : ByteArray) (w : World) (hs : s.size ≤ 1048576) :
    Calls Tryd.prog 8 #[.string s] w fun e w' => ∃ (k a b : Int) (ok : Bool), e = .returned (.tuple #[.agg #[.int .i64 k, .int .i64 a, .int .i64 b], .bool ok]) ∧ PsAns s.data.toList k a b ok ∧ Below w.heap.size w w' := by
  have hbA : Below w.heap.size w (w.alloc (Obj.cells #[.int .i64 0, .int .i64 0, .int .i64 0] 26)) := (Below.refl _ _).alloc (Nat.le_refl _) _
  have h2 : (w.alloc (Obj.cells #[.int .i64 0, .int .i64 0, .int .i64 0] 26)).heap[w.heap.size]? = some (.cells #[.int .i64 0, .int .i64 0, .int .i64 0] 26 (0, 0)) := heap_alloc_new _ _
  have hlL : s.data.toList.length = s.size := by rw [Array.length_toList]; rfl
  have hsl := spl_len s.data.toList
  have hne := spl_ne s.data.toList
  go_enter Tryd.func8, Tryd.ntmps8
  go_wp2_with fail
  refine (swords_any s _ hs).mono ?_
  rintro e w1 ⟨v4, rfl, own, hb1⟩
  have hB1 := hbA.trans (hb1.mono hbA.size)
  have h21 := (hb1.block _ (Array.getElem?_eq_some_iff.1 h2).1).trans h2
  have lt2 : w.heap.size < w1.heap.size := (Array.getElem?_eq_some_iff.1 h21).1
  obtain ⟨ws, hws⟩ : ∃ ws, Hid (spl s.data.toList = ws) := ⟨_, rfl⟩
  rw [hws.out] at own hne hsl
  have R := StRow.of_own own (by rw [txs_length]; omega) (by
    intro x hx
    simp only [txs, List.mem_map] at hx
    obtain ⟨y, hy, rfl⟩ := hx
    have := spl_mem s.data.toList y (by rw [hws.out]; exact hy)
    rw [tx_size]
    unfold maxLen
    omega)
  have own' := own
  obtain ⟨ao, cap, rfl⟩ := own_form own
  obtain ⟨w0, wr0, rfl⟩ : ∃ a b, ws = a :: b := by cases ws with | nil => exact absurd rfl hne | cons a b => exact ⟨a, b, rfl⟩
  obtain ⟨_, _, e4, _, _, _, hc4⟩ := R
  simp only [Value.slice.injEq] at e4
  obtain ⟨rfl, _, rfl⟩ := e4
  obtain ⟨g, o, rfl, hg, hcell⟩ := hc4 (by simp [txs])
  have hlen : (txs (w0 :: wr0)).length = wr0.length + 1 := by simp [txs]
  have hwl : wr0.length ≤ 1048576 := by simp at hsl; omega
  have hc0 : w1.cell? ⟨g, o, none⟩ = some (.string (tx w0)) := by have := hcell 0 (tx w0) (by simp [txs]); simpa using this
  have K := kdL_range w0
  have HK : Hid (∀ k : Int, 1 ≤ k ∧ k ≤ 5 → (w0 = dwL k ↔ kdL w0 = k)) := fun k hk => kdL_iff w0 k hk
  have HKD : Hid (kdL ((spl s.data.toList).headD []) = kdL w0) := by unfold Hid; rw [hws.out]; rfl
  generalize kdL w0 = kk at *
  rw [hlen] at own own'
  have hbD : Below w1.heap.size w1 (w1.alloc (Obj.cells #[.int .i64 0, .int .i64 0, .int .i64 0] 26)) := (Below.refl _ _).alloc (Nat.le_refl _) _
  have h5 : (w1.alloc (Obj.cells #[.int .i64 0, .int .i64 0, .int .i64 0] 26)).heap[w1.heap.size]? = some (.cells #[.int .i64 0, .int .i64 0, .int .i64 0] 26 (0, 0)) := heap_alloc_new _ _
  clear own own' hb1 hbA h2 hsl hne hlL
  rw [hlen]
  go_wp2_with fail
  go_loopw [6] (fun v6 wr => ∃ j : Nat, v6 = .int .i64 j ∧ 1 ≤ j ∧ j ≤ 6 ∧ ∃ q : Int, Hid (q = if kk < j then kk else 0) ∧ wr.heap[w1.heap.size]? = some (.cells #[.int .i64 q, .int .i64 0, .int .i64 0] 26 (0, 0)) ∧ Below w1.heap.size w1 wr) (fun v6 _ => 6 - (intOf v6).toNat)
  case atStart => exact ⟨1, rfl, by omega, by omega, 0, by unfold Hid; split <;> omega, h5, hbD⟩
  case round =>
    clear h5 hbD
    obtain ⟨j, rfl, hj1, hj6, q, HQ0, h5, hbr⟩ := hrel
    have hgr : wr.cell? ⟨g, o, none⟩ = some (.string (tx w0)) := (hbr.cell (p := ⟨g, o, none⟩) hg).trans hc0
    have lt5 : w1.heap.size < wr.heap.size := (Array.getElem?_eq_some_iff.1 h5).1
    have ltg : g < wr.heap.size := Nat.lt_trans hg lt5
    by_cases hj : j ≤ 5
    · have hj' : (j : Int) ≤ 5 := by omega
      have W := fun w => sword17_any j w (by omega)
      go_wp2_with fail
      go_region_held3 (fun w' => w'.cell? ⟨g, o, none⟩ = some (.string (tx w0))) (first | (with_reducible exact s2) | go_keep) (first
        | (go_at_call 12; with_reducible refine (W _).mono ?_; rintro e w2 ⟨rfl, hb2⟩
           have s2 : w2.cell? ⟨g, o, none⟩ = some (.string (tx w0)) := (hb2.cell (p := ⟨g, o, none⟩) ltg).trans hgr))
      all_goals
        have hb2' : Below w1.heap.size w1 w2 := hbr.drew.trans (hb2.mono hbr.size)
        have h52 := (hb2.block _ lt5).trans h5
        have HQ : Hid (((tx w0).toList == (tx (dwL j)).toList) = decide (kk = j)) := by
          unfold Hid
          rw [ByteArray.toList_eq, ByteArray.toList_eq, tx_list, tx_list, Bool.eq_iff_iff, beq_iff_eq, decide_eq_true_eq]
          exact HK.out j (by omega)
        clear hbr hb2 h5 hgr s2
        rw [HQ.out]
        by_cases hkj : kk = j
        · have hd : decide (kk = (j : Int)) = true := decide_eq_true hkj
          rw [hd]
          have f5 := frozen_of_row w2 w1.heap.size 0 _ _ h52
          have c5 := cell_of_row w2 w1.heap.size 0 _ _ _ h52
          have hnew := heap_setCell_same w2 w1.heap.size 0 _ _ (.int .i64 j) h52
          have hbn := hb2'.setCell (p := ⟨w1.heap.size, 0, none⟩) (Nat.le_refl _) (.int .i64 j)
          have he : Hid ((j : Int) = (if kk < ((j + 1 : Nat) : Int) then kk else 0)) := by unfold Hid; rw [if_pos (by omega)]; omega
          go_wp2_with fail
          go_roundw
          case rel => exact ⟨j + 1, by go_num, by omega, by omega, j, he, hnew, hbn⟩
          case measure => simp [intOf]; omega
        · have hd : decide (kk = (j : Int)) = false := decide_eq_false hkj
          rw [hd]
          have he : Hid (q = (if kk < ((j + 1 : Nat) : Int) then kk else 0)) := by
            unfold Hid
            rw [HQ0.out]
            by_cases h : kk < (j : Int)
            · rw [if_pos h, if_pos (by omega)]
            · rw [if_neg h, if_neg (by omega)]
          go_wp2_with fail
          go_roundw
          case rel => exact ⟨j + 1, by go_num, by omega, by omega, q, he, h52, hb2'⟩
          case measure => simp [intOf]; omega
    · have hj' : ¬ (j : Int) ≤ 5 := by omega
      obtain rfl : q = kk := by rw [HQ0.out, if_pos (by omega)]
      clear HK hc0 hgr ltg K HQ0
      go_wp2_with fail
      go_loopw [7, 8, 9] (fun v7 _ _ wr => ∃ (i : Nat) (a b : Int), v7 = .int .i64 i ∧ 1 ≤ i ∧ i ≤ wr0.length + 1 ∧ Hid (fld 1 wr0 0 0 = fld i ((w0 :: wr0).drop i) a b) ∧ wr.heap[w1.heap.size]? = some (.cells #[.int .i64 q, .int .i64 a, .int .i64 b] 26 (0, 0)) ∧ Below w1.heap.size w1 wr) (fun v7 _ _ _ => wr0.length + 1 - (intOf v7).toNat)
      case atStart => exact ⟨1, 0, 0, rfl, by omega, by omega, rfl, h5, hbr⟩
      case round =>
        clear h5 hbr lt5
        obtain ⟨i, a, b, rfl, hi1, hi2, HF, h5, hbr⟩ := hrel
        have lt5 : w1.heap.size < wr.heap.size := (Array.getElem?_eq_some_iff.1 h5).1
        have h23 := (hbr.block _ lt2).trans h21
        have hB3 := hB1.trans (hbr.mono hB1.size)
        by_cases hlt : i < wr0.length + 1
        · have hlti : (i : Int) < ((wr0.length + 1 : Nat) : Int) := by omega
          obtain ⟨x, hx⟩ : ∃ x, (w0 :: wr0)[i]? = some x := ⟨_, List.getElem?_eq_getElem (by simpa using hlt)⟩
          have hxl : x.length ≤ 1048576 := by
            have := spl_mem s.data.toList x (by rw [hws.out]; exact List.mem_of_getElem? hx)
            have h2 : s.data.toList.length = s.size := by rw [Array.length_toList]; rfl
            omega
          have hcx : wr.cell? ⟨g, o + i, none⟩ = some (.string (tx x)) := (hbr.cell (p := ⟨g, o + i, none⟩) hg).trans (hcell i (tx x) (by simp only [txs, List.getElem?_map, hx]; rfl))
          have HS : Hid (fld i ((w0 :: wr0).drop i) a b = if n9 x = true ∧ i ≤ 2 then (if i = 1 then fld (i + 1) ((w0 :: wr0).drop (i + 1)) (tval x) b else fld (i + 1) ((w0 :: wr0).drop (i + 1)) a (tval x)) else none) := fld_step hx
          have N := snum17_any x wr hxl
          cases hn : n9 x with
          | false =>
            have HP : Hid (PsAns s.data.toList 0 0 0 false) := by
              refine ps_none ?_
              rw [hws.out]
              show fld 1 wr0 0 0 = none
              rw [HF.out, HS.out, hn]
              simp
            rw [hn] at N
            clear HF HS hx hn
            go_wp2_with fail
            refine N.mono ?_
            rintro e w4 ⟨y, rfl, _, hb4⟩
            have h24 := (hb4.block _ (Array.getElem?_eq_some_iff.1 h23).1).trans h23
            have hB4 := hB3.trans (hb4.mono hB3.size)
            have hbb : w.heap.size < w4.heap.size := (Array.getElem?_eq_some_iff.1 h24).1
            clear N hb4 h23 hB3 hcx h5 hbr
            go_wp2_with (refine wpList_store_own2 rfl 26 _ _ rfl w.heap.size #[.int .i64 0, .int .i64 0, .int .i64 0] rfl rfl 26 _ h24 Tryd.sizeDeed rfl (by simp [Value.oneCell']) ?_)
            intro w9 h9 hb9 _ _
            have hB9 := hB4.trans hb9
            clear hb9 h24 hB4
            go_wp2_with fail
            exact bodyPost_ret (results_row_tmp rfl _ _ w.heap.size 26 _ (0, 0) _ rfl h9 Tryd.underlying26 rfl Tryd.sizeDeed) rfl ⟨0, 0, 0, false, rfl, HP.out, hB9⟩
          | true =>
            rw [hn] at N
            have hHS := HS.out
            rw [hn] at hHS
            by_cases hi3 : i ≤ 2
            · have hg2 : ¬ (2 : Int) < (i : Int) := by omega
              by_cases h1 : i = 1
              · subst h1
                have HN : Hid (fld 1 wr0 0 0 = fld (1 + 1) ((w0 :: wr0).drop (1 + 1)) (tval x) b) := by unfold Hid; rw [HF.out, hHS, if_pos ⟨rfl, by omega⟩, if_pos rfl]
                clear HF HS hHS hx
                go_wp2_with fail
                refine N.mono ?_
                rintro e w4 ⟨y, rfl, hy, hb4⟩
                obtain rfl : y = tval x := hy (by first | exact hn | trivial)
                generalize tval x = y at *
                have h54 := (hb4.block _ (Array.getElem?_eq_some_iff.1 h5).1).trans h5
                have hbr4 := hbr.trans (hb4.mono hbr.size)
                clear N hb4 h23 hB3 hcx h5 hbr hn hy
                have f5 := frozen_of_row w4 w1.heap.size 1 _ _ h54
                have c5 := cell_of_row w4 w1.heap.size 1 _ _ _ h54
                have hnew := heap_setCell_same w4 w1.heap.size 1 _ _ (.int .i64 y) h54
                have hbn := hbr4.setCell (p := ⟨w1.heap.size, 1, none⟩) (Nat.le_refl _) (.int .i64 y)
                go_wp2_with fail
                go_roundw
                case rel => exact ⟨1 + 1, y, b, by go_num, by omega, by omega, HN, hnew, hbn⟩
                case measure => simp [intOf]; omega
              · obtain rfl : i = 2 := by omega
                have HN : Hid (fld 1 wr0 0 0 = fld (2 + 1) ((w0 :: wr0).drop (2 + 1)) a (tval x)) := by unfold Hid; rw [HF.out, hHS, if_pos ⟨rfl, by omega⟩, if_neg (by omega)]
                clear HF HS hHS hx
                go_wp2_with fail
                refine N.mono ?_
                rintro e w4 ⟨y, rfl, hy, hb4⟩
                obtain rfl : y = tval x := hy (by first | exact hn | trivial)
                generalize tval x = y at *
                have h54 := (hb4.block _ (Array.getElem?_eq_some_iff.1 h5).1).trans h5
                have hbr4 := hbr.trans (hb4.mono hbr.size)
                clear N hb4 h23 hB3 hcx h5 hbr hn hy
                have f5 := frozen_of_row w4 w1.heap.size 2 _ _ h54
                have c5 := cell_of_row w4 w1.heap.size 2 _ _ _ h54
                have hnew := heap_setCell_same w4 w1.heap.size 2 _ _ (.int .i64 y) h54
                have hbn := hbr4.setCell (p := ⟨w1.heap.size, 2, none⟩) (Nat.le_refl _) (.int .i64 y)
                go_wp2_with fail
                go_roundw
                case rel => exact ⟨2 + 1, a, y, by go_num, by omega, by omega, HN, hnew, hbn⟩
                case measure => simp [intOf]; omega
            · have hg2 : (2 : Int) < (i : Int) := by omega
              have HP : Hid (PsAns s.data.toList 0 0 0 false) := by
                refine ps_none ?_
                rw [hws.out]
                show fld 1 wr0 0 0 = none
                rw [HF.out, hHS, if_neg (fun h => hi3 h.2)]
              clear HF HS hHS hx
              go_wp2_with fail
              refine N.mono ?_
              rintro e w4 ⟨y, rfl, _, hb4⟩
              have h24 := (hb4.block _ (Array.getElem?_eq_some_iff.1 h23).1).trans h23
              have hB4 := hB3.trans (hb4.mono hB3.size)
              clear N hb4 h23 hB3 hcx h5 hbr
              go_wp2_with (refine wpList_store_own2 rfl 26 _ _ rfl w.heap.size #[.int .i64 0, .int .i64 0, .int .i64 0] rfl rfl 26 _ h24 Tryd.sizeDeed rfl (by simp [Value.oneCell']) ?_)
              intro w9 h9 hb9 _ _
              have hB9 := hB4.trans hb9
              clear hb9 h24 hB4
              go_wp2_with fail
              exact bodyPost_ret (results_row_tmp rfl _ _ w.heap.size 26 _ (0, 0) _ rfl h9 Tryd.underlying26 rfl Tryd.sizeDeed) rfl ⟨0, 0, 0, false, rfl, HP.out, hB9⟩
        · have hlti : ¬ (i : Int) < ((wr0.length + 1 : Nat) : Int) := by omega
          have HE : Hid (fld 1 ((spl s.data.toList).drop 1) 0 0 = some (a, b)) := by
            unfold Hid
            rw [hws.out]
            show fld 1 wr0 0 0 = _
            rw [HF.out, List.drop_eq_nil_of_le (by simp; omega)]
            rfl
          have HSX : Hid (s = tx s.data.toList) := by unfold Hid tx; apply ByteArray.ext; simp
          have D := fun w => sdl_any q a b w
          clear HF
          cases hd : dlB q a b with
          | false =>
            have HP : Hid (PsAns s.data.toList 0 0 0 false) := ps_bad HE.out (Or.inl (by rw [HKD.out]; exact hd))
            rw [hd] at D
            generalize dlS q a b = t at *
            go_wp2_with (refine wpList_load_row rfl 26 _ rfl w1.heap.size rfl 26 #[.int .i64 q, .int .i64 a, .int .i64 b] (0, 0) _ h5 Tryd.underlying26 rfl Tryd.sizeDeed ?_)
            refine (D _).mono ?_
            rintro e w4 ⟨rfl, hb4⟩
            have h24 := (hb4.block _ (Array.getElem?_eq_some_iff.1 h23).1).trans h23
            have hB4 := hB3.trans (hb4.mono hB3.size)
            clear D hb4 h23 hB3 h5 hbr
            go_wp2_with (refine wpList_store_own2 rfl 26 _ _ rfl w.heap.size #[.int .i64 0, .int .i64 0, .int .i64 0] rfl rfl 26 _ h24 Tryd.sizeDeed rfl (by simp [Value.oneCell']) ?_)
            intro w9 h9 hb9 _ _
            have hB9 := hB4.trans hb9
            clear hb9 h24 hB4
            go_wp2_with fail
            exact bodyPost_ret (results_row_tmp rfl _ _ w.heap.size 26 _ (0, 0) _ rfl h9 Tryd.underlying26 rfl Tryd.sizeDeed) rfl ⟨0, 0, 0, false, rfl, HP.out, hB9⟩
          | true =>
            have HT : Hid (dlS q a b = tx (lineL q a b)) := by unfold Hid dlS; rw [hd]; rfl
            rw [hd] at D
            by_cases heq : lineL q a b = s.data.toList
            · have HP : Hid (PsAns s.data.toList q a b true) := ⟨fun _ => ⟨hd, heq⟩, fun h => (by cases h)⟩
              have HQ : Hid (dlS q a b = s) := by unfold Hid; rw [HT.out, heq, ← HSX.out]
              rw [HQ.out] at D
              go_wp2_with (refine wpList_load_row rfl 26 _ rfl w1.heap.size rfl 26 #[.int .i64 q, .int .i64 a, .int .i64 b] (0, 0) _ h5 Tryd.underlying26 rfl Tryd.sizeDeed ?_)
              refine (D _).mono ?_
              rintro e w4 ⟨rfl, hb4⟩
              have h24 := (hb4.block _ (Array.getElem?_eq_some_iff.1 h23).1).trans h23
              have h54 := (hb4.block _ (Array.getElem?_eq_some_iff.1 h5).1).trans h5
              have hB4 := hB3.trans (hb4.mono hB3.size)
              clear D hb4 h23 hB3 h5 hbr
              go_wp2_with (first
                | (refine wpList_load_row rfl 26 _ rfl w1.heap.size rfl 26 #[.int .i64 q, .int .i64 a, .int .i64 b] (0, 0) _ h54 Tryd.underlying26 rfl Tryd.sizeDeed ?_)
                | (refine wpList_store_own2 rfl 26 _ _ rfl w.heap.size #[.int .i64 q, .int .i64 a, .int .i64 b] rfl rfl 26 _ h24 Tryd.sizeDeed rfl (by simp [Value.oneCell']) ?_))
              intro w9 h9 hb9 _ _
              have hB9 := hB4.trans hb9
              clear hb9 h24 hB4
              go_wp2_with fail
              exact bodyPost_ret (results_row_tmp rfl _ _ w.heap.size 26 _ (0, 0) _ rfl h9 Tryd.underlying26 rfl Tryd.sizeDeed) rfl ⟨q, a, b, true, rfl, HP.out, hB9⟩
            · have HP : Hid (PsAns s.data.toList 0 0 0 false) := ps_bad HE.out (Or.inr (by rw [HKD.out]; exact heq))
              have HQ2 : Hid (((dlS q a b).toList == s.toList) = false) := by
                unfold Hid
                rw [HT.out, ByteArray.toList_eq, ByteArray.toList_eq, tx_list, beq_eq_false_iff_ne]
                exact heq
              generalize dlS q a b = t at *
              have HQ3 := HQ2.out
              go_wp2_with (refine wpList_load_row rfl 26 _ rfl w1.heap.size rfl 26 #[.int .i64 q, .int .i64 a, .int .i64 b] (0, 0) _ h5 Tryd.underlying26 rfl Tryd.sizeDeed ?_)
              refine (D _).mono ?_
              rintro e w4 ⟨rfl, hb4⟩
              have h24 := (hb4.block _ (Array.getElem?_eq_some_iff.1 h23).1).trans h23
              have hB4 := hB3.trans (hb4.mono hB3.size)
              clear D hb4 h23 hB3 h5 hbr
              go_wp2_with (refine wpList_store_own2 rfl 26 _ _ rfl w.heap.size #[.int .i64 0, .int .i64 0, .int .i64 0] rfl rfl 26 _ h24 Tryd.sizeDeed rfl (by simp [Value.oneCell']) ?_)
              intro w9 h9 hb9 _ _
              have hB9 := hB4.trans hb9
              clear hb9 h24 hB4
              go_wp2_with fail
              exact bodyPost_ret (results_row_tmp rfl _ _ w.heap.size 26 _ (0, 0) _ rfl h9 Tryd.underlying26 rfl Tryd.sizeDeed) rfl ⟨0, 0, 0, false, rfl, HP.out, hB9⟩
end Go.Proofs.YtkoiccocgejmcaaDoor
