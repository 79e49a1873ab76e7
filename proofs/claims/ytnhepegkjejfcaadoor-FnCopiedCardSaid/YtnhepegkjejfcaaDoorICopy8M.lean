/-
  Contract of impl's Copy. No condition.
-/
import Derived.Test.YtnhepegkjejfcaaDoorICopy7M
import Derived.Test.YtnhepegkjejfcaaDoorSCopy7M
namespace Go.Proofs.YtnhepegkjejfcaaDoor
open Go.RowKit

set_option maxRecDepth 100000 in
set_option maxHeartbeats 3200000 in
theorem icopy7_any (vp vq : Value) (ps xs : List Nd) (v : Int) (w : World) (RP : NRow w vp ps) (RQ : NRow w vq xs) :
    Calls Tryd.prog 14 #[.agg #[vp], .agg #[vq], .int .i64 v] w fun e w' => ∃ v1, e = .returned (.tuple #[.agg #[v1], .int .i64 (cyI ps xs v)]) ∧ w'.ownsRow w.heap.size 40 5 v1 (cyL ps xs v).length (ncs (cyL ps xs v)) ∧ Below w.heap.size w w' := by
  have RP' := RP
  have RQ' := RQ
  obtain ⟨ap, cp, rfl, _⟩ := RP'
  obtain ⟨aq, cq, rfl, _⟩ := RQ'
  have hB0 : Below w.heap.size w (((w.alloc (Obj.cells #[.slice ap ps.length cp] 26)).alloc (Obj.cells #[.slice aq xs.length cq] 26)).alloc (Obj.cells #[.slice none 0 0] 26)) := (below2 w _ _).alloc (by simp; omega) _
  have hx0 : (((w.alloc (Obj.cells #[.slice ap ps.length cp] 26)).alloc (Obj.cells #[.slice aq xs.length cq] 26)).alloc (Obj.cells #[.slice none 0 0] 26)).heap[w.heap.size]? = some (.cells #[.slice ap ps.length cp] 26 (0, 0)) := (Below.heap_alloc _ _ _ (by simp; omega)).trans (old2 w _ _)
  have hy0 : (((w.alloc (Obj.cells #[.slice ap ps.length cp] 26)).alloc (Obj.cells #[.slice aq xs.length cq] 26)).alloc (Obj.cells #[.slice none 0 0] 26)).heap[w.heap.size + 1]? = some (.cells #[.slice aq xs.length cq] 26 (0, 0)) := (Below.heap_alloc _ _ _ (by simp)).trans (heap_alloc2_new w _ _)
  have hz0 : (((w.alloc (Obj.cells #[.slice ap ps.length cp] 26)).alloc (Obj.cells #[.slice aq xs.length cq] 26)).alloc (Obj.cells #[.slice none 0 0] 26)).heap[w.heap.size + 1 + 1]? = some (.cells #[.slice none 0 0] 26 (0, 0)) := by
    have := heap_alloc_new ((w.alloc (Obj.cells #[.slice ap ps.length cp] 26)).alloc (Obj.cells #[.slice aq xs.length cq] 26)) (Obj.cells #[.slice none 0 0] 26)
    simpa using this
  go_enter Tryd.func14, Tryd.ntmps14
  go_wp2_with fail
  generalize ((w.alloc (Obj.cells #[.slice ap ps.length cp] 26)).alloc (Obj.cells #[.slice aq xs.length cq] 26)).alloc (Obj.cells #[.slice none 0 0] 26) = W0 at *
  refine (ipool_any _ ps _ (RP.below hB0)).mono ?_
  rintro e w1 ⟨rfl, hb1⟩
  have hl0 := (Array.getElem?_eq_some_iff.1 hz0).1
  have hB1 := hB0.trans (hb1.mono hB0.size)
  have hx1 := (hb1.block _ (by omega)).trans hx0
  have hy1 := (hb1.block _ (by omega)).trans hy0
  have hz1 := (hb1.block _ hl0).trans hz0
  have hl1 := (Array.getElem?_eq_some_iff.1 hz1).1
  have cx1 : w1.cell? ⟨w.heap.size, 0, none⟩ = some (.slice ap ps.length cp) := by rw [cell_of_row w1 _ 0 _ _ _ hx1]; rfl
  have cy1 : w1.cell? ⟨w.heap.size + 1, 0, none⟩ = some (.slice aq xs.length cq) := by rw [cell_of_row w1 _ 0 _ _ _ hy1]; rfl
  have cz1 : w1.cell? ⟨w.heap.size + 1 + 1, 0, none⟩ = some (.slice none 0 0) := by rw [cell_of_row w1 _ 0 _ _ _ hz1]; rfl
  have fz1 : w1.frozen? ⟨w.heap.size + 1 + 1, 0, none⟩ = false := frozen_of_row w1 _ 0 _ _ hz1
  clear hB0 hb1 hx0 hy0 hz0 hl0
  by_cases hpp : poolB ps = true
  · rw [hpp]
    go_wp2_with fail
    refine (ipool_any _ xs _ (RQ.below hB1)).mono ?_
    rintro e w2 ⟨rfl, hb2⟩
    have hB2 := hB1.trans (hb2.mono hB1.size)
    have hx2 := (hb2.block _ (by omega)).trans hx1
    have hy2 := (hb2.block _ (by omega)).trans hy1
    have hz2 := (hb2.block _ hl1).trans hz1
    have hl2 := (Array.getElem?_eq_some_iff.1 hz2).1
    have cx2 : w2.cell? ⟨w.heap.size, 0, none⟩ = some (.slice ap ps.length cp) := by rw [cell_of_row w2 _ 0 _ _ _ hx2]; rfl
    have cy2 : w2.cell? ⟨w.heap.size + 1, 0, none⟩ = some (.slice aq xs.length cq) := by rw [cell_of_row w2 _ 0 _ _ _ hy2]; rfl
    have cz2 : w2.cell? ⟨w.heap.size + 1 + 1, 0, none⟩ = some (.slice none 0 0) := by rw [cell_of_row w2 _ 0 _ _ _ hz2]; rfl
    have fz2 : w2.frozen? ⟨w.heap.size + 1 + 1, 0, none⟩ = false := frozen_of_row w2 _ 0 _ _ hz2
    clear hB1 hb2 hx1 hy1 hz1 hl1 cx1 cy1 cz1 fz1
    have hpl := poolB_len hpp
    by_cases hpq : poolB xs = true
    · rw [hpq]
      go_wp2_with fail
      refine (has_any _ xs _ _ (RQ.below hB2)).mono ?_
      rintro e w3 ⟨rfl, hb3⟩
      have hB3 := hB2.trans (hb3.mono hB2.size)
      have hx3 := (hb3.block _ (by omega)).trans hx2
      have hy3 := (hb3.block _ (by omega)).trans hy2
      have hz3 := (hb3.block _ hl2).trans hz2
      have hl3 := (Array.getElem?_eq_some_iff.1 hz3).1
      have cx3 : w3.cell? ⟨w.heap.size, 0, none⟩ = some (.slice ap ps.length cp) := by rw [cell_of_row w3 _ 0 _ _ _ hx3]; rfl
      have cy3 : w3.cell? ⟨w.heap.size + 1, 0, none⟩ = some (.slice aq xs.length cq) := by rw [cell_of_row w3 _ 0 _ _ _ hy3]; rfl
      have cz3 : w3.cell? ⟨w.heap.size + 1 + 1, 0, none⟩ = some (.slice none 0 0) := by rw [cell_of_row w3 _ 0 _ _ _ hz3]; rfl
      have fz3 : w3.frozen? ⟨w.heap.size + 1 + 1, 0, none⟩ = false := frozen_of_row w3 _ 0 _ _ hz3
      clear hB2 hb3 hx2 hy2 hz2 hl2 cx2 cy2 cz2 fz2
      cases hhi : hasI xs v with
      | false =>
        have hno : cyOk ps xs v = false := by unfold cyOk; rw [hhi]; simp
        have HL : Hid (cyL ps xs v = ps) := by unfold Hid cyL; rw [hpp, hno]; rfl
        have HI : Hid (cyI ps xs v = -1) := by unfold Hid cyI; rw [hpp, hno]; rfl
        go_wp2_with fail
        refine (with_any _ _ ps [] _ (RP.below hB3) (NRow.nil0 _) (by simp; omega)).mono ?_
        rintro e w9 ⟨v9, rfl, ho9, hb9⟩
        rw [List.append_nil] at ho9
        obtain ⟨a9, q9, rfl⟩ := own_form ho9
        have hz9 := (hb9.block _ hl3).trans hz3
        have cz9 : w9.cell? ⟨w.heap.size + 1 + 1, 0, none⟩ = some (.slice none 0 0) := by rw [cell_of_row w9 _ 0 _ _ _ hz9]; rfl
        have fz9 : w9.frozen? ⟨w.heap.size + 1 + 1, 0, none⟩ = false := frozen_of_row w9 _ 0 _ _ hz9
        have hB9 := hB3.trans (hb9.mono hB3.size)
        obtain ⟨p1, p2, p3⟩ := put_pool hz9 ho9 hB9 hl3 (by omega)
        clear hb9
        go_wp2
        refine bodyPost_ret (results_row_tmp rfl _ _ (w.heap.size + 1 + 1) 26 _ (0, 0) _ rfl p1 Tryd.underlying26 rfl Tryd.sizeP) rfl ⟨_, by rw [HI.out]; rfl, ?_, p3⟩
        rw [HL.out]
        exact p2
      | true =>
        have hhv := hhi
        simp only [hasI, Bool.and_eq_true, decide_eq_true_eq] at hhv
        obtain ⟨k, rfl⟩ := Int.eq_ofNat_of_zero_le hhv.1
        have hk : k < xs.length := by omega
        have hql := poolB_len hpq
        obtain ⟨hcut1, hcut2⟩ := mv_cut ps.length xs k hk (fun i x h => poolB_at hpq h)
        have hpy := poolB_take hpq (k + 1)
        have hyl : (xs.take (k + 1)).length = k + 1 := by simp; omega
        have hay : allI (xs.take (k + 1)) [(k : Int)] = true := by simp [allI, hasI]; omega
        have RQ3 := RQ.below hB3
        have RQ3' := RQ3
        obtain ⟨_, _, eq', hcq, _, _, hcellq⟩ := RQ3'
        simp only [Value.slice.injEq, true_and] at eq'
        obtain ⟨rfl, rfl⟩ := eq'
        obtain ⟨gq, oq, rfl, hgq, _⟩ := hcellq (by intro e; subst e; simp at hk)
        have RY := NRow.cut RQ3 (k + 1) (by omega) (by omega)
        have MV : ∀ (vl : Value) (W : World), NRow W (.slice (some ⟨gq, oq, none⟩) (k + 1) (k + 1)) (xs.take (k + 1)) → IRow W vl [(k : Int)] → Calls Tryd.prog 20 #[.agg #[.slice (some ⟨gq, oq, none⟩) (k + 1) (k + 1)], vl, .int .i64 (ps.length : Int)] W fun e w' => ∃ v1 v2, e = .returned (.tuple #[v1, v2]) ∧ w'.ownsRow W.heap.size 40 5 v1 (mvN ps.length xs [(k : Int)]).length (ncs (mvN ps.length xs [(k : Int)])) ∧ w'.ownsRow W.heap.size 3 1 v2 1 (iv [(mvAll ps.length xs (reachL xs [(k : Int)])).2.getD k 0]) ∧ Below W.heap.size W w' := fun vl W RW LW => by
          have h := moved_any (some ⟨gq, oq, none⟩) (k + 1) vl (xs.take (k + 1)) [(k : Int)] ps.length W (by rw [hyl]; exact RW) LW hpy hay hpl (by simp)
          rw [hyl, hcut1] at h
          have e1 : mvR ps.length (xs.take (k + 1)) [(k : Int)] [(k : Int)] = [(mvAll ps.length xs (reachL xs [(k : Int)])).2.getD k 0] := by simp only [mvR, List.map_cons, List.map_nil, Int.toNat_natCast, hcut2]
          rw [e1] at h
          exact h
        have hml := mvN_len ps.length xs [(k : Int)]
        have hm0 : 0 < (mvN ps.length xs [(k : Int)]).length := by
          rcases Nat.eq_zero_or_pos (mvN ps.length xs [(k : Int)]).length with h | h
          · unfold mvN mvAll at h
            rw [(mvF_len _ _ _).1] at h
            exact absurd (List.eq_nil_of_length_eq_zero h) (its_some xs k hk)
          · exact h
        have HLn : Hid ((ps ++ mvN ps.length xs [(k : Int)]).length = ps.length + (mvN ps.length xs [(k : Int)]).length) := List.length_append
        have HCI : Hid (cyOk ps xs k = true → cyI ps xs k = (mvAll ps.length xs (reachL xs [(k : Int)])).2.getD k 0) := by unfold Hid; intro h; unfold cyI; rw [hpp, h]; rfl
        generalize (mvAll ps.length xs (reachL xs [(k : Int)])).2.getD k 0 = y at *
        generalize hMM : mvN ps.length xs [(k : Int)] = M at *
        clear hcut1 hcut2 hay hpy hcellq
        have hlw3 : w.heap.size < w3.heap.size := by omega
        have hlw3' : w.heap.size + 1 < w3.heap.size := by omega
        go_upto_region 5 with fail
        go_cut [8, 9] from 26 (fun s8 s9 wx => (∃ a1 q1, s8 = .slice a1 M.length q1) ∧ (∃ a2 q2, s9 = .slice a2 1 q2) ∧ wx.ownsRow w3.heap.size 40 5 s8 M.length (ncs M) ∧ wx.ownsRow w3.heap.size 3 1 s9 1 (iv [y]) ∧ Below w3.heap.size w3 wx)
        case first =>
          have hlit := (lit1_row w3 (k : Int)).below (Below.refl _ _).drew
          have hdl : Below w3.heap.size w3 (w3.alloc (Obj.cells #[.int .i64 (k : Int)] 3)).drew := ((Below.refl w3.heap.size w3).alloc (Nat.le_refl _) _).drew
          go_region_with (first
            | (go_at_call 30; refine (upto7_any gq oq xs.length cq k _ hk (by omega) hql).mono ?_; rintro e wu ⟨rfl, hbu⟩
               have hbw : Below w3.heap.size w3 wu := by first | exact drew_step7 hbu | exact hdl.trans (hbu.mono (by simp))
               have cxu := (hbw.cell (p := ⟨w.heap.size, 0, none⟩) hlw3).trans cx3
               have hsu := hbw.size
               have hlu : w.heap.size < wu.heap.size := by omega
               have RYu := RY.below hbw
               first | have hLu := hlit.below hbu | skip)
            | (go_at_call 20; refine (MV _ _ ?_ ?_).mono ?_; first | exact RYu | exact RYu.below ((Below.refl _ _).alloc (Nat.le_refl _) _)
               first | exact hLu | exact lit1_row _ _
               rintro e w6 ⟨v1, v2, rfl, ho1, ho2, hb6⟩
               have hB6 : Below w3.heap.size w3 w6 := by first | exact hbw.trans (hb6.mono hsu) | exact (hbw.alloc hsu _).trans (hb6.mono (by simp; omega))
               obtain ⟨a1, q1, rfl⟩ := own_form ho1
               obtain ⟨a2, q2, rfl⟩ := own_form ho2
               have ho1' := own_mono (B' := w3.heap.size) ho1 (by first | exact hsu | (simp; omega))
               have ho2' := own_mono (B' := w3.heap.size) ho2 (by first | exact hsu | (simp; omega))))
          all_goals
            go_wp2_with fail
            go_meet
            case rel => exact ⟨⟨a1, q1, rfl⟩, ⟨a2, q2, rfl⟩, ho1', ho2', hB6⟩
        case rest =>
          obtain ⟨⟨a1, q1, rfl⟩, ⟨a2, q2, rfl⟩, ho1, ho2, hBx⟩ := hcut
          have hx6 := (hBx.block _ (by omega)).trans hx3
          have hz6 := (hBx.block _ hl3).trans hz3
          have hBw6 := hB3.trans (hBx.mono hB3.size)
          have hl6 := (Array.getElem?_eq_some_iff.1 hz6).1
          have cx6 : wc.cell? ⟨w.heap.size, 0, none⟩ = some (.slice ap ps.length cp) := by rw [cell_of_row wc _ 0 _ _ _ hx6]; rfl
          have cz6 : wc.cell? ⟨w.heap.size + 1 + 1, 0, none⟩ = some (.slice none 0 0) := by rw [cell_of_row wc _ 0 _ _ _ hz6]; rfl
          have fz6 : wc.frozen? ⟨w.heap.size + 1 + 1, 0, none⟩ = false := frozen_of_row wc _ 0 _ _ hz6
          clear cx3 cy3 cz3 fz3 MV
          by_cases hfit : ps.length + M.length ≤ 3000
          · have hok : cyOk ps xs k = true := by unfold cyOk; rw [hpq, hhi, hMM]; simp [hfit]
            have HL : Hid (cyL ps xs k = ps ++ M) := by unfold Hid cyL; rw [hpp, hok, hMM]; rfl
            have HI : Hid (cyI ps xs k = y) := HCI.out hok
            have hfit' : ¬ (3000 : Int) < (ps.length : Int) + M.length := by omega
            rcases ho1.2 with ⟨_, hn0'⟩ | ⟨g1, c1', cur1, e1, _, hg1, _⟩
            · omega
            simp only [Value.slice.injEq, true_and] at e1
            obtain ⟨rfl, rfl⟩ := e1
            rcases ho2.2 with ⟨_, hn0'⟩ | ⟨g2, c2', cur2, e2, _, hg2, _⟩
            · omega
            simp only [Value.slice.injEq, true_and] at e2
            obtain ⟨rfl, rfl⟩ := e2
            have y2 := (ho2.cellAt 0 (by omega)).trans (iv_get [y] 0 (by simp))
            rw [show ([y] : List Int).getD 0 0 = y from rfl] at y2
            have hlg2 := (ho2.lt g2 rfl).2
            have hnews : ∀ j u, (ncs M)[j]? = some u → wc.cell? ((⟨g1, 0, none⟩ : Addr).add j) = some u := fun j u hu => by
              have hj := (List.getElem?_eq_some_iff.1 hu).1
              rw [ncs_length] at hj
              rw [Addr.add_lit, Nat.zero_add]
              exact (ho1.cellAt j (by omega)).trans hu
            have RPc := RP.below hBw6
            obtain ⟨n0, hn, hn0, hn1, hn2⟩ := info_parts Tryd.infoN
            have hcpl : ps.length ≤ cp := by
              have RP' := RP
              obtain ⟨_, _, ep, hcp', _⟩ := RP'
              simp only [Value.slice.injEq, true_and] at ep
              obtain ⟨rfl, rfl⟩ := ep
              exact hcp'.1
            have hnc : ap = none → ps.length = 0 ∧ ps.length = 0 := fun h => ⟨(RPc.nilcap h).1, (RPc.nilcap h).1⟩
            go_wp2_with fail
            go_region_law (refine step_append_grows (w := wc.drew) rfl (.tmp 56) (.tmp 57) 24 rfl 40 n0 _ 5 48 Tryd.underlying24 hn hn0 hn1 hn2 rfl (by decide) ap ps.length ps.length (ncs ps) (by simp [Act.eval, Act.put]) hnc (by rw [ncs_length]) RPc.cells ⟨g1, 0, none⟩ M.length q1 (ncs M) (by simp [Act.eval, Act.put]) (by rw [ncs_length]) hnews (ncs_one M) (by omega) (by unfold maxLen; omega) (by omega) ?_; intro v9 w9 ho9 hg9; obtain ⟨a9, q9, rfl⟩ := own_form ho9; have hB9 : Below wc.heap.size wc w9 := (Below.refl wc.heap.size wc).drew.grown hg9 (Nat.le_refl _) (fun k hk => by cases hk); have hz9 := (hB9.block _ hl6).trans hz6; have cz9 : w9.cell? ⟨w.heap.size + 1 + 1, 0, none⟩ = some (.slice none 0 0) := cell_of_row w9 _ 0 _ _ _ hz9; have fz9 : w9.frozen? ⟨w.heap.size + 1 + 1, 0, none⟩ = false := frozen_of_row w9 _ 0 _ _ hz9; have y9 := (hB9.cell (p := ⟨g2, 0, none⟩) hlg2).trans y2)
            all_goals
              have hBw9 := hBw6.trans (hB9.mono hBw6.size)
              have ho9' : w9.ownsRow wc.heap.size 40 5 (.slice a9 (ps.length + M.length) q9) (ps.length + M.length) (ncs ps ++ ncs M) := ho9
              obtain ⟨p1, p2, p3⟩ := put_pool hz9 ho9' hBw9 hl6 (by omega)
              go_wp2
              refine bodyPost_ret (results_row_tmp rfl _ _ (w.heap.size + 1 + 1) 26 _ (0, 0) _ rfl p1 Tryd.underlying26 rfl Tryd.sizeP) rfl ⟨_, by rw [HI.out]; rfl, ?_, p3⟩
              rw [HL.out, List.length_append, ncs_append]
              exact p2
          · have hno : cyOk ps xs k = false := by unfold cyOk; rw [hMM]; simp [hfit]
            have hfit' : (3000 : Int) < (ps.length : Int) + M.length := by omega
            have HL : Hid (cyL ps xs k = ps) := by unfold Hid cyL; rw [hpp, hno]; rfl
            have HI : Hid (cyI ps xs k = -1) := by unfold Hid cyI; rw [hpp, hno]; rfl
            go_wp2_with fail
            refine (with_any _ _ ps [] _ (RP.below hBw6) (NRow.nil0 _) (by simp; omega)).mono ?_
            rintro e w9 ⟨v9, rfl, ho9, hb9⟩
            rw [List.append_nil] at ho9
            obtain ⟨a9, q9, rfl⟩ := own_form ho9
            have hz9 := (hb9.block _ hl6).trans hz6
            have cz9 : w9.cell? ⟨w.heap.size + 1 + 1, 0, none⟩ = some (.slice none 0 0) := by rw [cell_of_row w9 _ 0 _ _ _ hz9]; rfl
            have fz9 : w9.frozen? ⟨w.heap.size + 1 + 1, 0, none⟩ = false := frozen_of_row w9 _ 0 _ _ hz9
            have hB9 := hBw6.trans (hb9.mono hBw6.size)
            obtain ⟨p1, p2, p3⟩ := put_pool hz9 ho9 hB9 hl6 (by omega)
            clear hb9
            go_wp2
            refine bodyPost_ret (results_row_tmp rfl _ _ (w.heap.size + 1 + 1) 26 _ (0, 0) _ rfl p1 Tryd.underlying26 rfl Tryd.sizeP) rfl ⟨_, by rw [HI.out]; rfl, ?_, p3⟩
            rw [HL.out]
            exact p2
    · have hpq' : poolB xs = false := by simpa using hpq
      rw [hpq']
      have hno : cyOk ps xs v = false := by unfold cyOk; rw [hpq']; simp
      have HL : Hid (cyL ps xs v = ps) := by unfold Hid cyL; rw [hpp, hno]; rfl
      have HI : Hid (cyI ps xs v = -1) := by unfold Hid cyI; rw [hpp, hno]; rfl
      go_wp2_with fail
      refine (with_any _ _ ps [] _ (RP.below hB2) (NRow.nil0 _) (by simp; omega)).mono ?_
      rintro e w9 ⟨v9, rfl, ho9, hb9⟩
      rw [List.append_nil] at ho9
      obtain ⟨a9, q9, rfl⟩ := own_form ho9
      have hz9 := (hb9.block _ hl2).trans hz2
      have cz9 : w9.cell? ⟨w.heap.size + 1 + 1, 0, none⟩ = some (.slice none 0 0) := by rw [cell_of_row w9 _ 0 _ _ _ hz9]; rfl
      have fz9 : w9.frozen? ⟨w.heap.size + 1 + 1, 0, none⟩ = false := frozen_of_row w9 _ 0 _ _ hz9
      have hB9 := hB2.trans (hb9.mono hB2.size)
      obtain ⟨p1, p2, p3⟩ := put_pool hz9 ho9 hB9 hl2 (by omega)
      clear hb9
      go_wp2
      refine bodyPost_ret (results_row_tmp rfl _ _ (w.heap.size + 1 + 1) 26 _ (0, 0) _ rfl p1 Tryd.underlying26 rfl Tryd.sizeP) rfl ⟨_, by rw [HI.out]; rfl, ?_, p3⟩
      rw [HL.out]
      exact p2
  · have hpp' : poolB ps = false := by simpa using hpp
    rw [hpp']
    have HL : Hid (cyL ps xs v = []) := by unfold Hid cyL; rw [hpp']; rfl
    have HI : Hid (cyI ps xs v = -1) := by unfold Hid cyI; rw [hpp']; rfl
    obtain ⟨p1, p2, p3⟩ := put_pool (ao := none) (cap := 0) hz1 (World.ownsRow_nil _ (w.heap.size + 1 + 1 + 1) _ _) hB1 (by omega) (by omega)
    go_wp2
    refine bodyPost_ret (results_row_tmp rfl _ _ (w.heap.size + 1 + 1) 26 _ (0, 0) _ rfl p1 Tryd.underlying26 rfl Tryd.sizeP) rfl ⟨_, by rw [HI.out]; rfl, ?_, p3⟩
    rw [HL.out]
    exact p2
end Go.Proofs.YtnhepegkjejfcaaDoor
