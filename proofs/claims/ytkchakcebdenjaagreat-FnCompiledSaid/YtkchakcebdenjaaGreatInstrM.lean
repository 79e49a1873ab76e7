/-
  Texts that stood by themselves, laid into one.
-/
import Derived.Test.YtkchakcebdenjaaGreatSCp9M
import Derived.Test.YtkchakcebdenjaaGreatDefOfM
/-
  The contract of spec's l4Top. No condition beyond the compiler's memory, and that the value is there.
-/
namespace Go.Proofs.YtkchakcebdenjaaGreat
open Go.RowKit
set_option maxRecDepth 100000 in
set_option maxHeartbeats 6400000 in
theorem s4top_any (xs : List Nd) (hp : poolB xs = true) (M d : Nat) (hd : d ≤ 2097152) (v : Nat) (hv : v < xs.length) (s : CS) (w : World) (h : Mk xs M d w s) (h0 : s.how = 0) :
    Calls Tryz.prog 25 #[.pointer (some ⟨M, 0, none⟩), .int .i64 v] w fun r w' => r = .returned (.tuple #[]) ∧ Mk xs M (d + 1) w' (ctop xs v s) ∧ CF M w w' := by
  have HPS := pool_s2 hp
  have HEn : Hid (∀ n : Nat, n < xs.length → CE xs M (d + 1) (cexp xs xs.length) n) := fun n hn => s4expr_any xs hp M (d + 1) n hn xs.length hn
  have HEv : Hid (∀ z ∈ [(v : Int)], CE xs M (d + 1) (cexp xs xs.length) z ∧ 1 + z.toNat ≤ 3001) := fun z hz => by
    rw [List.mem_singleton] at hz
    subst hz
    exact ⟨HEn.out v hv, by rw [Int.toNat_natCast]; omega⟩
  obtain ⟨x, hx⟩ : ∃ x, xs[v]? = some x := ⟨xs[v], by simp [hv]⟩
  have hnd : ndAt xs (v : Int) = x := ndAt_some hx
  have HX : Hid (xs[v]? = some x) := hx
  have HH : Hid (s.how = 0) := h0
  have HM : Hid (ctop xs v s = ctop xs v s) := rfl
  have hcd : ∀ (n : ByteArray) (ns : List ByteArray) (b : List Int), cdef (cexp xs xs.length) n ns b s = cdefine (cexp xs xs.length) n ns b s := fun n ns b => by unfold cdef; rw [if_pos HH.out]
  have HCD : Hid (∀ (n : ByteArray) (ns : List ByteArray) (b : List Int), cdef (cexp xs xs.length) n ns b s = cdefine (cexp xs xs.length) n ns b s) := hcd
  have HC : Hid (ctop xs v s = (if x.k = 5 ∧ (chainR xs v).2 ∧ (ndAt xs ((chainR xs v).1.getD 0 0)).k = 4 ∧ isW (ndAt xs ((chainR xs v).1.getD 0 0)).s wDefine then
    (if 3 ≤ (chainR xs v).1.length ∧ (ndAt xs ((chainR xs v).1.getD 1 0)).k = 5 ∧ (chainR xs ((chainR xs v).1.getD 1 0).toNat).2 ∧ varN xs ((chainR xs ((chainR xs v).1.getD 1 0).toNat).1.getD 0 0) then
      (if namesHow xs ((chainR xs ((chainR xs v).1.getD 1 0).toNat).1.drop 1) = 0 then cdefine (cexp xs xs.length) (ndAt xs ((chainR xs ((chainR xs v).1.getD 1 0).toNat).1.getD 0 0)).s (nameL xs ((chainR xs ((chainR xs v).1.getD 1 0).toNat).1.drop 1)) ((chainR xs v).1.drop 2) s else { s with how := namesHow xs ((chainR xs ((chainR xs v).1.getD 1 0).toNat).1.drop 1) })
     else { s with how := 1 })
  else cdefine (cexp xs xs.length) wMain [] [(v : Int)] s)) := by
    unfold Hid ctop
    rw [hnd, Int.toNat_natCast]
  have hk0 := h
  obtain ⟨pv, lv, dv, L, D, h2⟩ := hk0
  have hM := h2.lt
  obtain ⟨g, cap, rfl, hg, d0, d1, d2, d3, d4⟩ := own_node h2.pool v x hx
  obtain ⟨c0, _, _, c3, _, _, f3⟩ := h2.cells
  have hv' : (v : Int) < xs.length := by omega
  have hB0 : Below w.heap.size w (w.alloc (.cells #[] 3)) := (Below.refl _ _).alloc (Nat.le_refl _) _
  have k1 := h.on hB0
  have h1 := h2.on hB0
  have f1 := CF.of_below (M := M) hB0 (by omega)
  have d10 := (hB0.cell (p := ⟨g, v * 5, none⟩) hg).trans d0
  obtain ⟨c10, _⟩ := h1.cells
  clear hcd hnd hx h0 d0 d1 d2 d3 d4 c0 c3 f3 HM
  go_enter Tryz.func25, Tryz.ntmps25
  go_upto_region 2 with fail
  generalize w.alloc (.cells #[] 3) = w1 at *
  by_cases h5 : x.k = 5
  · have R1 := NRow.of_own h1.pool (by omega) HPS.2
    go_wp2_with fail
    refine (slistof_in _ _ xs v _ R1 hp hv).mono ?_
    rintro r w2 ⟨v2, rfl, ho2, hb2⟩
    have kX := k1.on hb2
    have h12 := h1.on hb2
    have fX := f1.trans (CF.of_below (M := M) hb2 k1.lt)
    have T2 := TRow.of_own ho2
    have hmem := chainR_mem hp v
    have hcn : (chainR xs v).2 = true → 0 < (chainR xs v).1.length := chain_ne HX.out h5
    obtain ⟨c20, _⟩ := h12.cells
    cases hch : (chainR xs v).2 with
    | false =>
      have HR : Hid (ctop xs v s = cdef (cexp xs xs.length) wMain [] [(v : Int)] s) := by
        unfold Hid
        rw [HCD.out, HC.out, if_neg (by rw [hch]; simp)]
      clear HC hmem hcn
      go_wp2_with fail
      go_quiet (fail)
      have hbq : Below w2.heap.size w2 (w2.drewN nq) := ⟨rfl, rfl, rfl, Nat.le_refl _, fun _ _ => rfl⟩
      have kq := kX.on hbq
      have fq := fX.trans (CF.of_below (M := M) hbq kX.lt)
      generalize w2.drewN nq = w4 at kq fq ⊢
      have hB5 : Below w4.heap.size w4 ((w4.alloc (.cells #[] 9)).alloc (.cells #[.int .i64 v] 3)) := ((Below.refl _ _).alloc (Nat.le_refl _) _).alloc (by simp) _
      have N5 : SRow ((w4.alloc (.cells #[] 9)).alloc (.cells #[.int .i64 v] 3)) (.slice (some ⟨w4.heap.size, 0, none⟩) 0 0) [] := (World.ownsRow_made (base := 0) (e := 9) (size := 1) w4 #[] 0 (Nat.zero_le _) (by simp) (by simp)).alloc _
      have T5 : TRow ((w4.alloc (.cells #[] 9)).alloc (.cells #[.int .i64 v] 3)) (.slice (some ⟨w4.heap.size + 1, 0, none⟩) 1 1) [(v : Int)] := by
        have := own_lit (w4.alloc (.cells #[] 9)) (.int .i64 v) 3 0 (Nat.zero_le _)
        rw [show (w4.alloc (.cells #[] 9)).heap.size = w4.heap.size + 1 by simp] at this
        exact TRow.of_own (l := [(v : Int)]) this
      go_wp2_with fail
      refine (s4define_any xs M d hd (cexp xs xs.length) wMain [] _ [(v : Int)] _ s _ (kq.on hB5) N5 T5 HEv.out).mono ?_
      rintro r w6 ⟨rfl, k6, f6⟩
      go_wp2_with fail
      exact bodyPost_ret (results_none rfl _ _ _) rfl ⟨rfl, by rw [HR.out]; exact k6, (fq.trans (CF.of_below (M := M) hB5 kq.lt)).trans f6⟩
    | true =>
      have hl0 := hcn hch
      rw [hch] at HC
      have HMm : Hid (∀ z ∈ (chainR xs v).1, ∃ n : Nat, z = n ∧ n < v) := hmem
      clear hcn hch hmem
      generalize (chainR xs v).1 = l at *
      obtain ⟨al, cl, rfl, hlc, hcm⟩ := T2.form
      obtain ⟨gl, ol, rfl, hgl, hc0⟩ := T2.cell 0 hl0
      obtain ⟨n0, hn0, hn0v⟩ := HMm.out (l.getD 0 0) (by rw [List.getD_eq_getElem?_getD, List.getElem?_eq_getElem hl0]; exact List.getElem_mem _)
      rw [hn0, Nat.add_zero] at hc0
      obtain ⟨y, hy⟩ : ∃ y, xs[n0]? = some y := ⟨xs[n0]'(by omega), by simp [show n0 < xs.length by omega]⟩
      have hyn : ndAt xs (l.getD 0 0) = y := by rw [hn0]; exact ndAt_some hy
      obtain ⟨g', cap', eg, hg', y0, y1, y2, y3, y4⟩ := own_node h12.pool n0 y hy
      simp only [Value.slice.injEq, Option.some.injEq, Addr.mk.injEq, and_true, true_and] at eg
      obtain ⟨rfl, rfl⟩ := eg
      rw [hyn] at HC
      have hn0' : (n0 : Int) < xs.length := by omega
      have hl0' : (0 : Int) < l.length := by omega
      have HT2 : Hid (TRow w2 (.slice (some ⟨gl, ol, none⟩) l.length cl) l) := T2
      clear T2 hn0 hyn hy ho2
      by_cases q4 : y.k = 4
      · cases qd : (y.s.toList == [100, 101, 102, 105, 110, 101]) with
        | false =>
          have HR : Hid (ctop xs v s = cdef (cexp xs xs.length) wMain [] [(v : Int)] s) := by
            unfold Hid
            rw [HCD.out, HC.out, if_neg (by intro hh; have := hh.2.2.2; unfold isW wDefine at this; rw [qd] at this; cases this)]
          have qn : (y.s.toList != [100, 101, 102, 105, 110, 101]) = true := by simpa using qd
          clear HC
          go_wp2_with fail
          go_quiet (fail)
          have hbq : Below w2.heap.size w2 (w2.drewN nq) := ⟨rfl, rfl, rfl, Nat.le_refl _, fun _ _ => rfl⟩
          have kq := kX.on hbq
          have fq := fX.trans (CF.of_below (M := M) hbq kX.lt)
          generalize w2.drewN nq = w4 at kq fq ⊢
          have hB5 : Below w4.heap.size w4 ((w4.alloc (.cells #[] 9)).alloc (.cells #[.int .i64 v] 3)) := ((Below.refl _ _).alloc (Nat.le_refl _) _).alloc (by simp) _
          have N5 : SRow ((w4.alloc (.cells #[] 9)).alloc (.cells #[.int .i64 v] 3)) (.slice (some ⟨w4.heap.size, 0, none⟩) 0 0) [] := (World.ownsRow_made (base := 0) (e := 9) (size := 1) w4 #[] 0 (Nat.zero_le _) (by simp) (by simp)).alloc _
          have T5 : TRow ((w4.alloc (.cells #[] 9)).alloc (.cells #[.int .i64 v] 3)) (.slice (some ⟨w4.heap.size + 1, 0, none⟩) 1 1) [(v : Int)] := by
            have := own_lit (w4.alloc (.cells #[] 9)) (.int .i64 v) 3 0 (Nat.zero_le _)
            rw [show (w4.alloc (.cells #[] 9)).heap.size = w4.heap.size + 1 by simp] at this
            exact TRow.of_own (l := [(v : Int)]) this
          go_wp2_with fail
          refine (s4define_any xs M d hd (cexp xs xs.length) wMain [] _ [(v : Int)] _ s _ (kq.on hB5) N5 T5 HEv.out).mono ?_
          rintro r w6 ⟨rfl, k6, f6⟩
          go_wp2_with fail
          exact bodyPost_ret (results_none rfl _ _ _) rfl ⟨rfl, by rw [HR.out]; exact k6, (fq.trans (CF.of_below (M := M) hB5 kq.lt)).trans f6⟩
        | true =>
          have HC2 : Hid (ctop xs v s = (if 3 ≤ l.length ∧ (ndAt xs (l.getD 1 0)).k = 5 ∧ (chainR xs (l.getD 1 0).toNat).2 ∧ varN xs ((chainR xs (l.getD 1 0).toNat).1.getD 0 0) then
      (if namesHow xs ((chainR xs (l.getD 1 0).toNat).1.drop 1) = 0 then cdefine (cexp xs xs.length) (ndAt xs ((chainR xs (l.getD 1 0).toNat).1.getD 0 0)).s (nameL xs ((chainR xs (l.getD 1 0).toNat).1.drop 1)) (l.drop 2) s else { s with how := namesHow xs ((chainR xs (l.getD 1 0).toNat).1.drop 1) })
     else { s with how := 1 })) := by
            unfold Hid
            rw [HC.out, if_pos ⟨h5, by trivial, q4, by unfold isW wDefine; exact qd⟩]
          have qn : (y.s.toList != [100, 101, 102, 105, 110, 101]) = false := by simpa using qd
          clear HC
          go_wp2_with fail
          go_quiet (fail)
          have hbq : Below w2.heap.size w2 (w2.drewN nq) := ⟨rfl, rfl, rfl, Nat.le_refl _, fun _ _ => rfl⟩
          have k4 := kX.on hbq
          have h4m := h12.on hbq
          have f4 := fX.trans (CF.of_below (M := M) hbq kX.lt)
          have HT4 : Hid (TRow (w2.drewN nq) (.slice (some ⟨gl, ol, none⟩) l.length cl) l) := HT2.out.below hbq
          clear c20 hc0 y0 y1 y2 y3 y4 kX h12 fX qn qd q4
          go_upto_region 6 with fail
          generalize w2.drewN nq = w4 at k4 h4m f4 HT4 ⊢
          obtain ⟨c40, _, _, c43, _, _, f43⟩ := h4m.cells
          rw [HH.out] at c43
          by_cases h3 : 3 ≤ l.length
          · have h3' : ¬ (l.length : Int) < 3 := by omega
            have hl1' : (1 : Int) < l.length := by omega
            obtain ⟨n1, hn1, hn1v⟩ := HMm.out (l.getD 1 0) (by rw [List.getD_eq_getElem?_getD, List.getElem?_eq_getElem (show 1 < l.length by omega)]; exact List.getElem_mem _)
            obtain ⟨gl', ol', el', hgl4, hc1⟩ := HT4.out.cell 1 (by omega)
            simp only [Option.some.injEq, Addr.mk.injEq, and_true] at el'
            obtain ⟨rfl, rfl⟩ := el'
            rw [hn1] at hc1 HC2
            rw [Int.toNat_natCast] at HC2
            obtain ⟨z, hz⟩ : ∃ z, xs[n1]? = some z := ⟨xs[n1]'(by omega), by simp [show n1 < xs.length by omega]⟩
            have hzn : ndAt xs (n1 : Int) = z := ndAt_some hz
            rw [hzn] at HC2
            obtain ⟨g', cap', eg, hg4, z0, _⟩ := own_node h4m.pool n1 z hz
            simp only [Value.slice.injEq, Option.some.injEq, Addr.mk.injEq, and_true, true_and] at eg
            obtain ⟨rfl, rfl⟩ := eg
            have hn1' : (n1 : Int) < xs.length := by omega
            have HZ : Hid (xs[n1]? = some z) := hz
            clear hn1 hzn hz
            by_cases z5 : z.k = 5
            · go_wp2_with fail
              go_quiet (fail)
              have hbq4 : Below w4.heap.size w4 (w4.drewN nq) := ⟨rfl, rfl, rfl, Nat.le_refl _, fun _ _ => rfl⟩
              have k5 := k4.on hbq4
              have h5m := h4m.on hbq4
              have f5 := f4.trans (CF.of_below (M := M) hbq4 k4.lt)
              have HT5 : Hid (TRow (w4.drewN nq) (.slice (some ⟨gl, ol, none⟩) l.length cl) l) := HT4.out.below hbq4
              have hc15 := (hbq4.cell (p := ⟨gl, ol + 1, none⟩) hgl4).trans hc1
              go_upto_region 8 with fail
              generalize w4.drewN nq = w5 at k5 h5m f5 HT5 hc15 ⊢
              clear c40 c43 f43 hc1 z0 k4 h4m f4 HT4
              obtain ⟨c50, _⟩ := h5m.cells
              have R5 := NRow.of_own h5m.pool (by omega) HPS.2
              have hgl5 := World.block_lt_of_cell? _ _ hc15
              go_region_held (fun w' => w'.cell? ⟨M, 0, none⟩ = some (.slice (some ⟨g, 0, none⟩) xs.length cap) ∧ w'.cell? ⟨gl, ol + 1, none⟩ = some (.int .i64 n1)) (first | exact ⟨e0, e1⟩ | go_keep) (first
                | (go_at_call 58; refine (slistof_in _ _ xs n1 _ ?_ hp (by omega)).mono ?_; exact R5.below (Below.refl _ _).drew; rintro r w6 ⟨v6, rfl, ho6, hb6⟩; have hb56 : Below w5.heap.size w5 w6 := (Below.refl _ _).drew.trans hb6; have e0 := (hb56.cell (p := ⟨M, 0, none⟩) h5m.lt).trans c50; have e1 := (hb56.cell (p := ⟨gl, ol + 1, none⟩) hgl5).trans hc15))
              have k6 := k5.on hb56
              have h6m := h5m.on hb56
              have f6 := f5.trans (CF.of_below (M := M) hb56 k5.lt)
              have T6 := TRow.of_own ho6
              have hmem1 := chainR_mem hp n1
              have hcn1 : (chainR xs n1).2 = true → 0 < (chainR xs n1).1.length := chain_ne HZ.out z5
              have HT6 : Hid (TRow w6 (.slice (some ⟨gl, ol, none⟩) l.length cl) l) := HT5.out.below hb56
              obtain ⟨_, _, _, c63, _, _, f63⟩ := h6m.cells
              rw [HH.out] at c63
              clear e0 e1 R5 hc15 c50 HT5 hb6
              cases hch : (chainR xs n1).2 with
              | false =>
                have HR : Hid (ctop xs v s = { s with how := 1 }) := by unfold Hid; rw [HC2.out, if_neg (by rw [hch]; simp)]
                clear HC2 hmem1 hcn1
                obtain ⟨kb1, fb1⟩ := h6m.wrong 1 (by decide) { s with how := 1 } rfl
                go_wp2_with fail
                exact bodyPost_ret (results_none rfl _ _ _) rfl ⟨rfl, by rw [HR.out]; exact (kb1.wide (by omega)), f6.trans fb1⟩
              | true =>
                have hs0 := hcn1 hch
                rw [hch] at HC2
                have HM1 : Hid (∀ z ∈ (chainR xs n1).1, ∃ n : Nat, z = n ∧ n < n1) := hmem1
                clear hcn1 hch hmem1
                generalize (chainR xs n1).1 = sg at *
                obtain ⟨as_, cs_, rfl, hsc, hscm⟩ := T6.form
                obtain ⟨gs, os, rfl, hgs, hcs⟩ := T6.cell 0 hs0
                obtain ⟨n2, hn2, hn2v⟩ := HM1.out (sg.getD 0 0) (by rw [List.getD_eq_getElem?_getD, List.getElem?_eq_getElem hs0]; exact List.getElem_mem _)
                rw [hn2, Nat.add_zero] at hcs
                rw [hn2] at HC2
                obtain ⟨u, hu⟩ : ∃ u, xs[n2]? = some u := ⟨xs[n2]'(by omega), by simp [show n2 < xs.length by omega]⟩
                rw [ndAt_some hu] at HC2
                have hs0' : (0 : Int) < sg.length := by omega
                have HTs : Hid (TRow w6 (.slice (some ⟨gs, os, none⟩) sg.length cs_) sg) := T6
                clear T6 hn2 ho6
                go_wp2_with fail
                refine (s4name_any xs M d s n2 u _ k6 hu).mono ?_
                rintro r w7 ⟨rfl, hb7⟩
                have k7 := k6.on hb7
                have h7m := h6m.on hb7
                have f7 := f6.trans (CF.of_below (M := M) hb7 k6.lt)
                have HTs7 : Hid (TRow w7 (.slice (some ⟨gs, os, none⟩) sg.length cs_) sg) := HTs.out.below hb7
                have HT7 : Hid (TRow w7 (.slice (some ⟨gl, ol, none⟩) l.length cl) l) := HT6.out.below hb7
                obtain ⟨_, _, _, c73, _, _, f73⟩ := h7m.cells
                rw [HH.out] at c73
                clear c63 f63 hcs hu
                cases hvb : varN xs n2 with
                | false =>
                  have HR : Hid (ctop xs v s = { s with how := 1 }) := by unfold Hid; rw [HC2.out, if_neg (by rw [hvb]; simp)]
                  clear HC2
                  obtain ⟨kb1, fb1⟩ := h7m.wrong 1 (by decide) { s with how := 1 } rfl
                  go_wp2_with fail
                  exact bodyPost_ret (results_none rfl _ _ _) rfl ⟨rfl, by rw [HR.out]; exact (kb1.wide (by omega)), f7.trans fb1⟩
                | true =>
                  rw [hvb, if_pos ⟨h3, z5, by trivial, by trivial⟩] at HC2
                  have hs1' : (1 : Int) ≤ sg.length := by omega
                  clear c73 f73
                  by_cases hcs : cs_ = 1
                  case' pos =>
                    have Ts1 : TRow w7 (.slice (some ⟨gs, os, none⟩) (sg.length - 1) 0) (sg.drop 1) := ⟨_, _, by rw [List.length_drop], by rw [List.length_drop]; omega, by omega, fun hne => absurd (List.drop_eq_nil_of_le (by omega)) hne⟩
                  case' neg =>
                    have Ts1 := HTs7.out.drop 1 (by omega)
                  all_goals
                    go_wp2_with fail
                    refine (s4names_any xs M d s _ (sg.drop 1) _ k7 HH.out Ts1 (fun z hz => by obtain ⟨k, e, hk⟩ := HM1.out z (List.mem_of_mem_drop hz); exact ⟨k, e, by omega⟩)).mono ?_
                    rintro r w8 ⟨v8, ys, rfl, S8, hy4, hys, k8, f8⟩
                    have f8' := f7.trans f8
                    have T8 := (f8.trow' k7 HT7.out).drop 2 (by omega)
                    have hl2' : (2 : Int) ≤ l.length := by omega
                    go_wp2_with fail
                    refine (s4define_any xs M d hd (cexp xs xs.length) u.s ys _ (l.drop 2) _ _ _ k8 S8 T8 (fun z hz => by
                      obtain ⟨k, rfl, hk⟩ := HMm.out z (List.mem_of_mem_drop hz)
                      exact ⟨HEn.out k (by omega), by rw [Int.toNat_natCast]; omega⟩)).mono ?_
                    rintro r w9 ⟨rfl, k9, f9⟩
                    have HR : Hid (ctop xs v s = cdef (cexp xs xs.length) u.s ys (l.drop 2) ⟨s.list, s.defs, namesHow xs (sg.drop 1)⟩) := by
                      unfold Hid
                      rw [HC2.out]
                      by_cases hnh : namesHow xs (sg.drop 1) = 0
                      · have hs : s = ⟨s.list, s.defs, 0⟩ := by
                          have := HH.out
                          obtain ⟨a, b, c⟩ := s
                          dsimp only at this ⊢
                          rw [this]
                        rw [if_pos hnh, hys hnh, hnh, ← hs, HCD.out]
                      · rw [if_neg hnh]
                        unfold cdef
                        rw [if_neg (by exact hnh)]
                    go_wp2_with fail
                    go_end0
                    exact ⟨rfl, by rw [HR.out]; exact k9, f8'.trans f9⟩
            · have HR : Hid (ctop xs v s = { s with how := 1 }) := by unfold Hid; rw [HC2.out, if_neg (by intro hh; exact z5 hh.2.1)]
              have zb : (z.k == 5) = false := by simpa using z5
              have zn : (z.k != 5) = true := by simpa using z5
              have zd : decide (z.k = 5) = false := by simpa using z5
              clear HC2 z5
              go_wp2_with fail
              go_quiet (fail)
              have hbq4 : Below w4.heap.size w4 (w4.drewN nq) := ⟨rfl, rfl, rfl, Nat.le_refl _, fun _ _ => rfl⟩
              have h5m := h4m.on hbq4
              have f5 := f4.trans (CF.of_below (M := M) hbq4 k4.lt)
              obtain ⟨kb1, fb1⟩ := h5m.wrong 1 (by decide) { s with how := 1 } rfl
              go_wp2_with fail
              exact bodyPost_ret (results_none rfl _ _ _) rfl ⟨rfl, by rw [HR.out]; exact (kb1.wide (by omega)), f5.trans fb1⟩
          · have HR : Hid (ctop xs v s = { s with how := 1 }) := by unfold Hid; rw [HC2.out, if_neg (by intro hh; exact h3 hh.1)]
            have h3' : (l.length : Int) < 3 := by omega
            clear HC2
            go_wp2_with fail
            go_quiet (fail)
            have hbq4 : Below w4.heap.size w4 (w4.drewN nq) := ⟨rfl, rfl, rfl, Nat.le_refl _, fun _ _ => rfl⟩
            have h5m := h4m.on hbq4
            have f5 := f4.trans (CF.of_below (M := M) hbq4 k4.lt)
            obtain ⟨kb1, fb1⟩ := h5m.wrong 1 (by decide) { s with how := 1 } rfl
            go_wp2_with fail
            exact bodyPost_ret (results_none rfl _ _ _) rfl ⟨rfl, by rw [HR.out]; exact (kb1.wide (by omega)), f5.trans fb1⟩
      · have HR : Hid (ctop xs v s = cdef (cexp xs xs.length) wMain [] [(v : Int)] s) := by
          unfold Hid
          rw [HCD.out, HC.out, if_neg (by intro hh; exact q4 hh.2.2.1)]
        have qb : (y.k == 4) = false := by simpa using q4
        have qn : (y.k != 4) = true := by simpa using q4
        have qd2 : decide (y.k = 4) = false := by simpa using q4
        clear HC q4
        go_wp2_with fail
        go_quiet (fail)
        have hbq : Below w2.heap.size w2 (w2.drewN nq) := ⟨rfl, rfl, rfl, Nat.le_refl _, fun _ _ => rfl⟩
        have kq := kX.on hbq
        have fq := fX.trans (CF.of_below (M := M) hbq kX.lt)
        generalize w2.drewN nq = w4 at kq fq ⊢
        have hB5 : Below w4.heap.size w4 ((w4.alloc (.cells #[] 9)).alloc (.cells #[.int .i64 v] 3)) := ((Below.refl _ _).alloc (Nat.le_refl _) _).alloc (by simp) _
        have N5 : SRow ((w4.alloc (.cells #[] 9)).alloc (.cells #[.int .i64 v] 3)) (.slice (some ⟨w4.heap.size, 0, none⟩) 0 0) [] := (World.ownsRow_made (base := 0) (e := 9) (size := 1) w4 #[] 0 (Nat.zero_le _) (by simp) (by simp)).alloc _
        have T5 : TRow ((w4.alloc (.cells #[] 9)).alloc (.cells #[.int .i64 v] 3)) (.slice (some ⟨w4.heap.size + 1, 0, none⟩) 1 1) [(v : Int)] := by
          have := own_lit (w4.alloc (.cells #[] 9)) (.int .i64 v) 3 0 (Nat.zero_le _)
          rw [show (w4.alloc (.cells #[] 9)).heap.size = w4.heap.size + 1 by simp] at this
          exact TRow.of_own (l := [(v : Int)]) this
        go_wp2_with fail
        refine (s4define_any xs M d hd (cexp xs xs.length) wMain [] _ [(v : Int)] _ s _ (kq.on hB5) N5 T5 HEv.out).mono ?_
        rintro r w6 ⟨rfl, k6, f6⟩
        go_wp2_with fail
        exact bodyPost_ret (results_none rfl _ _ _) rfl ⟨rfl, by rw [HR.out]; exact k6, (fq.trans (CF.of_below (M := M) hB5 kq.lt)).trans f6⟩
  · have HR : Hid (ctop xs v s = cdef (cexp xs xs.length) wMain [] [(v : Int)] s) := by
      unfold Hid
      rw [HCD.out, HC.out, if_neg (by intro hh; exact h5 hh.1)]
    have qb : (x.k == 5) = false := by simpa using h5
    have kX := k1
    have fX := f1
    clear HC h5
    go_wp2_with fail
    go_quiet (fail)
    have hbq : Below w1.heap.size w1 (w1.drewN nq) := ⟨rfl, rfl, rfl, Nat.le_refl _, fun _ _ => rfl⟩
    have kq := kX.on hbq
    have fq := fX.trans (CF.of_below (M := M) hbq kX.lt)
    generalize w1.drewN nq = w4 at kq fq ⊢
    have hB5 : Below w4.heap.size w4 ((w4.alloc (.cells #[] 9)).alloc (.cells #[.int .i64 v] 3)) := ((Below.refl _ _).alloc (Nat.le_refl _) _).alloc (by simp) _
    have N5 : SRow ((w4.alloc (.cells #[] 9)).alloc (.cells #[.int .i64 v] 3)) (.slice (some ⟨w4.heap.size, 0, none⟩) 0 0) [] := (World.ownsRow_made (base := 0) (e := 9) (size := 1) w4 #[] 0 (Nat.zero_le _) (by simp) (by simp)).alloc _
    have T5 : TRow ((w4.alloc (.cells #[] 9)).alloc (.cells #[.int .i64 v] 3)) (.slice (some ⟨w4.heap.size + 1, 0, none⟩) 1 1) [(v : Int)] := by
      have := own_lit (w4.alloc (.cells #[] 9)) (.int .i64 v) 3 0 (Nat.zero_le _)
      rw [show (w4.alloc (.cells #[] 9)).heap.size = w4.heap.size + 1 by simp] at this
      exact TRow.of_own (l := [(v : Int)]) this
    go_wp2_with fail
    refine (s4define_any xs M d hd (cexp xs xs.length) wMain [] _ [(v : Int)] _ s _ (kq.on hB5) N5 T5 HEv.out).mono ?_
    rintro r w6 ⟨rfl, k6, f6⟩
    go_wp2_with fail
    exact bodyPost_ret (results_none rfl _ _ _) rfl ⟨rfl, by rw [HR.out]; exact k6, (fq.trans (CF.of_below (M := M) hB5 kq.lt)).trans f6⟩
end Go.Proofs.YtkchakcebdenjaaGreat
/-
  When an instruction is right, and the contracts of impl's rules. No condition.
-/
namespace Go.Proofs.YtkchakcebdenjaaGreat
open Go.RowKit
def bareB (x : In) : Bool := x.n == 0 && x.i == 0 && x.s.toList == []
def litB (x : In) (n1 : Nat) : Bool := x.i == 0 && x.s.toList == [] && decide (0 ≤ x.n) && decide (x.n < n1)
def varB (x : In) : Bool := x.s.toList == [] && decide (0 ≤ x.n) && decide (x.n ≤ 20) && decide (0 ≤ x.i) && decide (x.i < 4)
def globalB (x : In) : Bool := x.n == 0 && x.i == 0 && nameB x.s
def wayB (x : In) (i : Int) (n2 : Nat) : Bool := x.i == 0 && x.s.toList == [] && decide (i < x.n) && decide (x.n ≤ n2)
def funB (x : In) (i : Int) (n2 : Nat) : Bool := x.s.toList == [] && decide (i < x.n) && decide (x.n < n2) && decide (0 ≤ x.i) && decide (x.i ≤ 4)
def callB (x : In) : Bool := x.n == 0 && x.s.toList == [] && decide (0 ≤ x.i) && decide (x.i ≤ 4)
set_option maxHeartbeats 1600000 in
theorem isbare_any (x : In) (a1 a2 a3 : Option Addr) (n1 n2 n3 c1 c2 c3 : Nat) (i : Int) (w : World) :
    Calls Tryz.prog 112 #[.agg #[.int .i64 x.o, .int .i64 x.n, .int .i64 x.i, .string x.s], .agg #[.slice a1 n1 c1, .slice a2 n2 c2, .slice a3 n3 c3], .int .i64 i] w fun e w' => e = .returned (.bool (bareB x)) ∧ Below w.heap.size w w' := by
  go_enter Tryz.func112, Tryz.ntmps112
  go_wp2
  all_goals
    go_ret
    refine ⟨retB ?_, ?_⟩
    · unfold bareB
      first
        | (simp [*]; done)
        | (simp [*]; omega)
        | (rw [Bool.eq_iff_iff]; simp [*]; omega)
    · first
        | exact ((Below.refl _ _).alloc (Nat.le_refl _) _).alloc (by simp) _
        | exact (((Below.refl _ _).alloc (Nat.le_refl _) _).alloc (by simp) _).alloc (by simp; omega) _
set_option maxHeartbeats 1600000 in
theorem islit_any (x : In) (a1 a2 a3 : Option Addr) (n1 n2 n3 c1 c2 c3 : Nat) (i : Int) (w : World) :
    Calls Tryz.prog 106 #[.agg #[.int .i64 x.o, .int .i64 x.n, .int .i64 x.i, .string x.s], .agg #[.slice a1 n1 c1, .slice a2 n2 c2, .slice a3 n3 c3], .int .i64 i] w fun e w' => e = .returned (.bool (litB x n1)) ∧ Below w.heap.size w w' := by
  go_enter Tryz.func106, Tryz.ntmps106
  go_wp2
  all_goals
    go_ret
    refine ⟨retB ?_, ?_⟩
    · unfold litB
      first
        | (simp [*]; done)
        | (simp [*]; omega)
        | (rw [Bool.eq_iff_iff]; simp [*]; omega)
    · first
        | exact ((Below.refl _ _).alloc (Nat.le_refl _) _).alloc (by simp) _
        | exact (((Below.refl _ _).alloc (Nat.le_refl _) _).alloc (by simp) _).alloc (by simp; omega) _
set_option maxHeartbeats 1600000 in
theorem isvar_any (x : In) (a1 a2 a3 : Option Addr) (n1 n2 n3 c1 c2 c3 : Nat) (i : Int) (w : World) :
    Calls Tryz.prog 107 #[.agg #[.int .i64 x.o, .int .i64 x.n, .int .i64 x.i, .string x.s], .agg #[.slice a1 n1 c1, .slice a2 n2 c2, .slice a3 n3 c3], .int .i64 i] w fun e w' => e = .returned (.bool (varB x)) ∧ Below w.heap.size w w' := by
  go_enter Tryz.func107, Tryz.ntmps107
  go_wp2
  all_goals
    go_ret
    refine ⟨retB ?_, ?_⟩
    · unfold varB
      first
        | (simp [*]; done)
        | (simp [*]; omega)
        | (rw [Bool.eq_iff_iff]; simp [*]; omega)
    · first
        | exact ((Below.refl _ _).alloc (Nat.le_refl _) _).alloc (by simp) _
        | exact (((Below.refl _ _).alloc (Nat.le_refl _) _).alloc (by simp) _).alloc (by simp; omega) _
set_option maxHeartbeats 1600000 in
theorem isglobal_any (x : In) (a1 a2 a3 : Option Addr) (n1 n2 n3 c1 c2 c3 : Nat) (i : Int) (w : World) (hs : x.s.size ≤ maxLen) :
    Calls Tryz.prog 108 #[.agg #[.int .i64 x.o, .int .i64 x.n, .int .i64 x.i, .string x.s], .agg #[.slice a1 n1 c1, .slice a2 n2 c2, .slice a3 n3 c3], .int .i64 i] w fun e w' => e = .returned (.bool (globalB x)) ∧ Below w.heap.size w w' := by
  go_enter Tryz.func108, Tryz.ntmps108
  go_wp2_with (go_at_call 88; refine (iname_any x.s _ hs).mono ?_; rintro e w1 ⟨rfl, rfl⟩)
  all_goals
    go_ret
    refine ⟨retB ?_, ?_⟩
    · unfold globalB
      first
        | (simp [*]; done)
        | (simp [*]; omega)
        | (rw [Bool.eq_iff_iff]; simp [*]; omega)
    · first
        | exact ((Below.refl _ _).alloc (Nat.le_refl _) _).alloc (by simp) _
        | exact (((Below.refl _ _).alloc (Nat.le_refl _) _).alloc (by simp) _).alloc (by simp; omega) _
set_option maxHeartbeats 1600000 in
theorem isway_any (x : In) (a1 a2 a3 : Option Addr) (n1 n2 n3 c1 c2 c3 : Nat) (i : Int) (w : World) :
    Calls Tryz.prog 109 #[.agg #[.int .i64 x.o, .int .i64 x.n, .int .i64 x.i, .string x.s], .agg #[.slice a1 n1 c1, .slice a2 n2 c2, .slice a3 n3 c3], .int .i64 i] w fun e w' => e = .returned (.bool (wayB x i n2)) ∧ Below w.heap.size w w' := by
  go_enter Tryz.func109, Tryz.ntmps109
  go_wp2
  all_goals
    go_ret
    refine ⟨retB ?_, ?_⟩
    · unfold wayB
      first
        | (simp [*]; done)
        | (simp [*]; omega)
        | (rw [Bool.eq_iff_iff]; simp [*]; omega)
    · first
        | exact ((Below.refl _ _).alloc (Nat.le_refl _) _).alloc (by simp) _
        | exact (((Below.refl _ _).alloc (Nat.le_refl _) _).alloc (by simp) _).alloc (by simp; omega) _
set_option maxHeartbeats 1600000 in
theorem isfun_any (x : In) (a1 a2 a3 : Option Addr) (n1 n2 n3 c1 c2 c3 : Nat) (i : Int) (w : World) :
    Calls Tryz.prog 110 #[.agg #[.int .i64 x.o, .int .i64 x.n, .int .i64 x.i, .string x.s], .agg #[.slice a1 n1 c1, .slice a2 n2 c2, .slice a3 n3 c3], .int .i64 i] w fun e w' => e = .returned (.bool (funB x i n2)) ∧ Below w.heap.size w w' := by
  go_enter Tryz.func110, Tryz.ntmps110
  go_wp2
  all_goals
    go_ret
    refine ⟨retB ?_, ?_⟩
    · unfold funB
      first
        | (simp [*]; done)
        | (simp [*]; omega)
        | (rw [Bool.eq_iff_iff]; simp [*]; omega)
    · first
        | exact ((Below.refl _ _).alloc (Nat.le_refl _) _).alloc (by simp) _
        | exact (((Below.refl _ _).alloc (Nat.le_refl _) _).alloc (by simp) _).alloc (by simp; omega) _
set_option maxHeartbeats 1600000 in
theorem iscall_any (x : In) (a1 a2 a3 : Option Addr) (n1 n2 n3 c1 c2 c3 : Nat) (i : Int) (w : World) :
    Calls Tryz.prog 111 #[.agg #[.int .i64 x.o, .int .i64 x.n, .int .i64 x.i, .string x.s], .agg #[.slice a1 n1 c1, .slice a2 n2 c2, .slice a3 n3 c3], .int .i64 i] w fun e w' => e = .returned (.bool (callB x)) ∧ Below w.heap.size w w' := by
  go_enter Tryz.func111, Tryz.ntmps111
  go_wp2
  all_goals
    go_ret
    refine ⟨retB ?_, ?_⟩
    · unfold callB
      first
        | (simp [*]; done)
        | (simp [*]; omega)
        | (rw [Bool.eq_iff_iff]; simp [*]; omega)
    · first
        | exact ((Below.refl _ _).alloc (Nat.le_refl _) _).alloc (by simp) _
        | exact (((Below.refl _ _).alloc (Nat.le_refl _) _).alloc (by simp) _).alloc (by simp; omega) _
end Go.Proofs.YtkchakcebdenjaaGreat
