/-
  Contract of the draws' l10DrawRight: a link that is right. No condition.
-/
import Derived.Test.YtkhokfkcicaojaaDLk0
import Derived.Deep.RegionHeld
namespace Go.Proofs.Ytkhokfkcicaojaa
open Go.RowKit

theorem five_set {w : World} {b : Nat} {t : TypeId} {o0 o1 o2 o3 o4 : Value} (n0 n1 n2 n3 n4 : Value) (h : w.heap[b]? = some (.cells #[o0, o1, o2, o3, o4] t (0, 0))) :
    (((((w.setCell ⟨b, 0, none⟩ n0).setCell ⟨b, 1, none⟩ n1).setCell ⟨b, 2, none⟩ n2).setCell ⟨b, 3, none⟩ n3).setCell ⟨b, 4, none⟩ n4).heap[b]? = some (.cells #[n0, n1, n2, n3, n4] t (0, 0)) ∧
    Below b w (((((w.setCell ⟨b, 0, none⟩ n0).setCell ⟨b, 1, none⟩ n1).setCell ⟨b, 2, none⟩ n2).setCell ⟨b, 3, none⟩ n3).setCell ⟨b, 4, none⟩ n4) ∧
    (((((w.setCell ⟨b, 0, none⟩ n0).setCell ⟨b, 1, none⟩ n1).setCell ⟨b, 2, none⟩ n2).setCell ⟨b, 3, none⟩ n3).setCell ⟨b, 4, none⟩ n4).heap.size = w.heap.size ∧
    (∀ k, k ≠ b → (((((w.setCell ⟨b, 0, none⟩ n0).setCell ⟨b, 1, none⟩ n1).setCell ⟨b, 2, none⟩ n2).setCell ⟨b, 3, none⟩ n3).setCell ⟨b, 4, none⟩ n4).heap[k]? = w.heap[k]?) := by
  have e0 := heap_setCell_same w b 0 _ _ n0 h
  have e1 := heap_setCell_same _ b 1 _ _ n1 e0
  have e2 := heap_setCell_same _ b 2 _ _ n2 e1
  have e3 := heap_setCell_same _ b 3 _ _ n3 e2
  have e4 := heap_setCell_same _ b 4 _ _ n4 e3
  refine ⟨e4, (((((Below.refl _ _).setCell (p := ⟨b, 0, none⟩) (Nat.le_refl _) _).setCell (p := ⟨b, 1, none⟩) (Nat.le_refl _) _).setCell (p := ⟨b, 2, none⟩) (Nat.le_refl _) _).setCell (p := ⟨b, 3, none⟩) (Nat.le_refl _) _).setCell (p := ⟨b, 4, none⟩) (Nat.le_refl _) _, by simp, fun k hk => ?_⟩
  exact (heap_setCell_other _ ⟨b, 4, none⟩ k _ (by simpa using hk)).trans ((heap_setCell_other _ ⟨b, 3, none⟩ k _ (by simpa using hk)).trans ((heap_setCell_other _ ⟨b, 2, none⟩ k _ (by simpa using hk)).trans ((heap_setCell_other _ ⟨b, 1, none⟩ k _ (by simpa using hk)).trans (heap_setCell_other _ ⟨b, 0, none⟩ k _ (by simpa using hk)))))

set_option maxRecDepth 100000 in
set_option maxHeartbeats 12800000 in
theorem d10right_any (w0 : World) (v : Value) (zs : List Int) (w : World) (P : Nat) (c : Cur w0 v zs w P) :
    Calls Try.prog 31 #[.pointer (some ⟨P, 0, none⟩)] w fun e w' => ∃ (l : Lk) (v1 v2 : Value), e = .returned (.agg #[.int .i64 l.sent, .int .i64 l.acked, v1, .int .i64 l.got, v2]) ∧ SOwn w' w.heap.size v1 l.q ∧ w'.ownsRow w.heap.size 29 2 v2 l.h.length (pccs l.h) ∧ linkB l = true ∧ (∀ x ∈ l.q, x.size ≤ maxLen) ∧ (∀ x ∈ l.h, x.s.size ≤ maxLen) ∧ Cur w0 v zs w' P ∧ w.grownBy w' (some P) := by
  have hP := c.lt
  obtain ⟨i0, hi, hz0, hz1, hz2⟩ := info_parts Try.infoStr
  obtain ⟨hB0, hx0, hy0⟩ := two_bx w (Obj.cells #[.int .i64 0, .int .i64 0, .slice none 0 0, .int .i64 0, .slice none 0 0] 27) (Obj.cells #[.int .i64 0, .int .i64 0, .slice none 0 0, .int .i64 0, .slice none 0 0] 27)
  go_enter Try.func31, Try.ntmps31
  go_wp2_with (refine wpList_store_own2 rfl 27 _ _ rfl (w.heap.size + 1) #[.int .i64 0, .int .i64 0, .slice none 0 0, .int .i64 0, .slice none 0 0] rfl rfl 27 _ hy0 Try.sizeLk rfl (by simp [Value.oneCell']) ?_)
  intro w1 hv1 hbg1 hsz1 hoth1
  have hs1 : w.heap.size + 2 ≤ w1.heap.size := by rw [hsz1]; simp
  have hr1 := (hoth1 w.heap.size (by omega)).trans hx0
  have hB1 := hB0.trans (hbg1.mono (by omega))
  have D0 : DR w0 v zs P w (w1.alloc (.cells #[] 9)) zeroLk (.slice none 0 0) (.slice none 0 0) (.slice (some ⟨w1.heap.size, 0, none⟩) ([] : List ByteArray).length 0) [] :=
    ⟨(heap_alloc_old _ _ (by omega)).trans hr1, (heap_alloc_old _ _ (by omega)).trans hv1, ⟨none, 0, rfl, by simp [zeroLk], Or.inl rfl⟩, ⟨rfl, Or.inl ⟨rfl, rfl⟩⟩, own_none0 w1 9 1 (w.heap.size + 2) hs1, fun k hk => Or.inl rfl, zeroLk_ok, fun x hx => by simp [zeroLk] at hx, fun x hx => by simp [zeroLk] at hx, fun x hx => by simp at hx,
      c.kept (((hB0.trans (hbg1.mono (by omega))).alloc hB1.size _).mono hP |> fun h => h), (grown_below (hB1.alloc hB1.size _) (some P))⟩
  clear hB0 hx0 hy0 hv1 hbg1 hsz1 hoth1 hr1 hB1
  go_wp2_with fail
  refine (below_any w0 v zs _ P 22 D0.cur (by omega)).mono ?_
  rintro e w2 ⟨n, rfl, hn0, hn1, c2, g2⟩
  have D2 := D0.turn c2 g2 hP
  have hn1 := hn1 (by omega)
  clear D0 c2 g2
  go_wp2_with fail
  go_loopw [4, 6] (fun s i wr => ∃ (j : Nat) (l : Lk) (v1 v2 : Value) (S : List ByteArray), j ≤ 22 ∧ i = .int .i64 j ∧ S.length ≤ j ∧ DR w0 v zs P w wr l v1 v2 s S) (fun _ i _ => 22 - (intOf i).toNat)
  case atStart => exact ⟨0, zeroLk, _, _, [], by omega, rfl, by simp, D2⟩
  case round =>
    clear D2
    obtain ⟨j, l, v1, v2, S, hj, rfl, hSl, D⟩ := hrel
    obtain ⟨aS, cS, rfl⟩ := own_form D.s
    obtain ⟨a1, c1, rfl⟩ := D.q.form
    obtain ⟨a2, c2, rfl⟩ := own_form D.h
    obtain ⟨n1, n2, n3, n4, _, n6⟩ := linkB_nums D.ok
    have hhl := linkB_heldlen D.ok
    by_cases hlt : (j : Int) < n
    · go_wp2_with fail
      refine (below_any w0 v zs wr P 4 D.cur (by omega)).mono ?_
      rintro e w3 ⟨m, rfl, hm0, hm1, c3, g3⟩
      have hm1 := hm1 (by omega)
      have D3 := D.turn c3 g3 hP
      clear D c3 g3
      have hmm : m = 0 ∨ m = 1 ∨ m = 2 ∨ m = 3 := by omega
      clear hm0 hm1
      rcases hmm with rfl | rfl | rfl | rfl
      · go_wp2_with fail
        have DA := D3.below ((Below.refl _ w3).alloc (Nat.le_refl _) (.cells (([ByteArray.mk #[97], ByteArray.mk #[98], ByteArray.mk #[], ByteArray.mk #[99, 99]].map Value.string).toArray) 9)) hP
        refine (picks_any w0 v zs _ P w3.heap.size 4 [ByteArray.mk #[97], ByteArray.mk #[98], ByteArray.mk #[], ByteArray.mk #[99, 99]] DA.cur (by have := D3.lt; omega) (by decide) (by decide) (fun i hi => strs_new w3 _ 9 i hi)).mono ?_
        rintro e w4 ⟨s, hs, rfl, c4, g4⟩
        have D4 := DA.turn c4 g4 hP
        have hs' : s.size ≤ maxLen := by
          unfold maxLen
          simp only [List.mem_cons, List.not_mem_nil, or_false] at hs
          rcases hs with rfl | rfl | rfl | rfl <;> decide
        clear D3 DA c4 g4 hs
        go_wp2_with (refine wpList_load_row rfl 27 _ rfl (w.heap.size + 1) rfl 27 #[.int .i64 l.sent, .int .i64 l.acked, .slice a1 l.q.length c1, .int .i64 l.got, .slice a2 l.h.length c2] (0, 0) _ D4.box Try.underlying27 rfl Try.sizeLk ?_)
        refine (slinksend_any _ _ l s _ (D4.q.row (by omega) D4.zq) (PcRow.of_own D4.h (by omega) D4.zh) hs').mono ?_
        rintro e w5 ⟨u1, u2, rfl, q5, h5, hb5⟩
        obtain ⟨f1, g1, rfl⟩ := q5.form
        obtain ⟨f2, g2, rfl⟩ := own_form h5
        have D5 := D4.below hb5 hP
        have hfr : ∀ k, (Value.slice aS S.length cS).ownBlock = some k → k < w4.heap.size := fun k hk => (D4.s.lt k hk).2
        have hl4 := D4.lt
        have lb := sendR_lb s D4.ok
        have zz := sendR_ok l s D4.zq D4.zh hs'
        clear D4 hb5
        generalize sendR l s = RR at *
        obtain ⟨M, bb⟩ := RR
        simp only at lb zz q5 h5
        go_wp2_with (refine wpList_store_own2 rfl 27 _ _ rfl w5.heap.size #[.int .i64 M.sent, .int .i64 M.acked, .slice f1 M.q.length g1, .int .i64 M.got, .slice f2 M.h.length g2] rfl rfl 27 _ (heap_alloc_new _ _) Try.sizeLk rfl (by simp [Value.oneCell']) ?_)
        intro w6 hn6 hbg6 hs6 ho6
        clear hs6 ho6
        have hb6 : Below w5.heap.size w5 w6 := ((Below.refl _ _).alloc (Nat.le_refl _) _).trans hbg6
        have D6 := D5.below hb6 hP
        have q6 := q5.below hb6
        have h6 := own_below h5 hb6
        clear D5 q5 h5 hb6 hbg6
        generalize w5.heap.size = n5 at *
        cases bb with
        | false =>
          go_wp2
          go_roundw
          case rel => exact ⟨j + 1, l, _, _, S, by omega, by go_num, by omega, D6⟩
          case measure => simp [intOf]; omega
        | true =>
          go_wp2_with (first
            | refine wpList_load_row rfl 27 _ rfl n5 rfl 27 #[.int .i64 M.sent, .int .i64 M.acked, .slice f1 M.q.length g1, .int .i64 M.got, .slice f2 M.h.length g2] (0, 0) _ hn6 Try.underlying27 rfl Try.sizeLk ?_
            | refine wpList_store_own2 rfl 27 _ _ rfl (w.heap.size + 1) #[.int .i64 M.sent, .int .i64 M.acked, .slice f1 M.q.length g1, .int .i64 M.got, .slice f2 M.h.length g2] rfl rfl 27 _ D6.box Try.sizeLk rfl (by simp [Value.oneCell']) ?_)
          intro w7 hv7 hbg7 hsz7 hoth7
          have D7 := D6.put hv7 hoth7 hbg7 hsz7 q6 h6 (by omega) hfr lb zz.1 zz.2 hP
          clear D6 q6 h6 hv7 hoth7 hbg7 hsz7 hn6
          have lit := StRow.lit1 w7 s hs'
          obtain ⟨H4, HH4⟩ : ∃ H4, (w7.alloc (.cells #[.string s] 9)).heap.size = H4 := ⟨_, rfl⟩
          have hH4 : w7.heap.size ≤ H4 := by rw [← HH4]; simp
          have hl7 := D7.lt
          go_wp2_with (at_builtin; refine wpList_append_lies _ rfl _ _ 24 rfl (w.heap.size + 2) 9 i0 _ 1 16 Try.underlying24 hi hz0 hz1 hz2 rfl (by decide) _ _ _ rfl (D7.s.alloc _) ⟨w7.heap.size, 0, none⟩ 1 1 (stv [s]) rfl rfl (lit.cells _ rfl) (stv_one _) (by omega) (by unfold maxLen; omega) (by omega) (by simp; omega) H4 HH4 ?_)
          intro g8 c8 w8 o8 hg8 hgg8 _
          have o8' : w8.ownsRow (w.heap.size + 2) 9 1 (.slice (some ⟨g8, 0, none⟩) (S ++ [s]).length c8) (S ++ [s]).length (stv (S ++ [s])) := by rw [stv_append, List.length_append]; exact o8
          have D8 := D7.more o8' hg8 hgg8 hH4 hs' hP
          have HE : Hid ((S ++ [s]).length = S.length + 1) := by unfold Hid; simp
          have hSl8 : (S ++ [s]).length ≤ j + 1 := by rw [HE.out]; omega
          clear D7 o8 o8' hg8 hgg8 lit HH4
          generalize S ++ [s] = S8 at *
          go_wp2
          go_roundw
          case rel => exact ⟨j + 1, M, .slice f1 M.q.length g1, .slice f2 M.h.length g2, S8, by omega, by go_num, by omega, by rw [← HE.out]; exact D8⟩
          case measure => simp [intOf]; omega
      · go_wp2_with fail
        have DA := D3.below ((Below.refl _ w3).alloc (Nat.le_refl _) (.cells (([ByteArray.mk #[97], ByteArray.mk #[98], ByteArray.mk #[], ByteArray.mk #[99, 99]].map Value.string).toArray) 9)) hP
        refine (picks_any w0 v zs _ P w3.heap.size 4 [ByteArray.mk #[97], ByteArray.mk #[98], ByteArray.mk #[], ByteArray.mk #[99, 99]] DA.cur (by have := D3.lt; omega) (by decide) (by decide) (fun i hi => strs_new w3 _ 9 i hi)).mono ?_
        rintro e w4 ⟨s, hs, rfl, c4, g4⟩
        have D4 := DA.turn c4 g4 hP
        have hs' : s.size ≤ maxLen := by
          unfold maxLen
          simp only [List.mem_cons, List.not_mem_nil, or_false] at hs
          rcases hs with rfl | rfl | rfl | rfl <;> decide
        clear D3 DA c4 g4 hs
        go_wp2_with (refine wpList_load_row rfl 27 _ rfl (w.heap.size + 1) rfl 27 #[.int .i64 l.sent, .int .i64 l.acked, .slice a1 l.q.length c1, .int .i64 l.got, .slice a2 l.h.length c2] (0, 0) _ D4.box Try.underlying27 rfl Try.sizeLk ?_)
        refine (slinksend_any _ _ l s _ (D4.q.row (by omega) D4.zq) (PcRow.of_own D4.h (by omega) D4.zh) hs').mono ?_
        rintro e w5 ⟨u1, u2, rfl, q5, h5, hb5⟩
        obtain ⟨f1, g1, rfl⟩ := q5.form
        obtain ⟨f2, g2, rfl⟩ := own_form h5
        have D5 := D4.below hb5 hP
        have hfr : ∀ k, (Value.slice aS S.length cS).ownBlock = some k → k < w4.heap.size := fun k hk => (D4.s.lt k hk).2
        have hl4 := D4.lt
        have lb := sendR_lb s D4.ok
        have zz := sendR_ok l s D4.zq D4.zh hs'
        clear D4 hb5
        generalize sendR l s = RR at *
        obtain ⟨M, bb⟩ := RR
        simp only at lb zz q5 h5
        go_wp2_with (refine wpList_store_own2 rfl 27 _ _ rfl w5.heap.size #[.int .i64 M.sent, .int .i64 M.acked, .slice f1 M.q.length g1, .int .i64 M.got, .slice f2 M.h.length g2] rfl rfl 27 _ (heap_alloc_new _ _) Try.sizeLk rfl (by simp [Value.oneCell']) ?_)
        intro w6 hn6 hbg6 hs6 ho6
        clear hs6 ho6
        have hb6 : Below w5.heap.size w5 w6 := ((Below.refl _ _).alloc (Nat.le_refl _) _).trans hbg6
        have D6 := D5.below hb6 hP
        have q6 := q5.below hb6
        have h6 := own_below h5 hb6
        clear D5 q5 h5 hb6 hbg6
        generalize w5.heap.size = n5 at *
        cases bb with
        | false =>
          go_wp2
          go_roundw
          case rel => exact ⟨j + 1, l, _, _, S, by omega, by go_num, by omega, D6⟩
          case measure => simp [intOf]; omega
        | true =>
          go_wp2_with (first
            | refine wpList_load_row rfl 27 _ rfl n5 rfl 27 #[.int .i64 M.sent, .int .i64 M.acked, .slice f1 M.q.length g1, .int .i64 M.got, .slice f2 M.h.length g2] (0, 0) _ hn6 Try.underlying27 rfl Try.sizeLk ?_
            | refine wpList_store_own2 rfl 27 _ _ rfl (w.heap.size + 1) #[.int .i64 M.sent, .int .i64 M.acked, .slice f1 M.q.length g1, .int .i64 M.got, .slice f2 M.h.length g2] rfl rfl 27 _ D6.box Try.sizeLk rfl (by simp [Value.oneCell']) ?_)
          intro w7 hv7 hbg7 hsz7 hoth7
          have D7 := D6.put hv7 hoth7 hbg7 hsz7 q6 h6 (by omega) hfr lb zz.1 zz.2 hP
          clear D6 q6 h6 hv7 hoth7 hbg7 hsz7 hn6
          have lit := StRow.lit1 w7 s hs'
          obtain ⟨H4, HH4⟩ : ∃ H4, (w7.alloc (.cells #[.string s] 9)).heap.size = H4 := ⟨_, rfl⟩
          have hH4 : w7.heap.size ≤ H4 := by rw [← HH4]; simp
          have hl7 := D7.lt
          go_wp2_with (at_builtin; refine wpList_append_lies _ rfl _ _ 24 rfl (w.heap.size + 2) 9 i0 _ 1 16 Try.underlying24 hi hz0 hz1 hz2 rfl (by decide) _ _ _ rfl (D7.s.alloc _) ⟨w7.heap.size, 0, none⟩ 1 1 (stv [s]) rfl rfl (lit.cells _ rfl) (stv_one _) (by omega) (by unfold maxLen; omega) (by omega) (by simp; omega) H4 HH4 ?_)
          intro g8 c8 w8 o8 hg8 hgg8 _
          have o8' : w8.ownsRow (w.heap.size + 2) 9 1 (.slice (some ⟨g8, 0, none⟩) (S ++ [s]).length c8) (S ++ [s]).length (stv (S ++ [s])) := by rw [stv_append, List.length_append]; exact o8
          have D8 := D7.more o8' hg8 hgg8 hH4 hs' hP
          have HE : Hid ((S ++ [s]).length = S.length + 1) := by unfold Hid; simp
          have hSl8 : (S ++ [s]).length ≤ j + 1 := by rw [HE.out]; omega
          clear D7 o8 o8' hg8 hgg8 lit HH4
          generalize S ++ [s] = S8 at *
          go_wp2
          go_roundw
          case rel => exact ⟨j + 1, M, .slice f1 M.q.length g1, .slice f2 M.h.length g2, S8, by omega, by go_num, by omega, by rw [← HE.out]; exact D8⟩
          case measure => simp [intOf]; omega
      · have Dd := D3.below ((Below.refl w3.heap.size w3).drew) hP
        have k3 : w3.cell? ⟨w.heap.size + 1, 3, none⟩ = some (.int .i64 l.got) := cell_of_row w3 _ 3 _ _ _ D3.box
        go_wp2_with fail
        go_region_with (go_at_call 19; refine (below_any w0 v zs _ P 4 ?_ ?_).mono ?_; exact Dd.cur; omega; rintro e w4 ⟨m, rfl, hm0, hm1, c4, g4⟩; have D4 := Dd.turn c4 g4 hP; have k4 : w4.cell? ⟨w.heap.size + 1, 3, none⟩ = some (.int .i64 l.got) := cell_of_row w4 _ 3 _ _ _ D4.box)
        all_goals
          have hm1 := hm1 (by omega)
          clear D3 Dd k3 k4 c4 g4
          have W1 : IntKind.i64.wrap (l.got + m) = l.got + m := by rw [IntKind.wrap_i64]; omega
          try rw [W1]
          obtain ⟨k, hk⟩ := Int.eq_ofNat_of_zero_le (show 0 ≤ l.got + m by omega)
          rw [hk]
          by_cases hkS : k < S.length
          · have hkS' : (k : Int) < (S.length : Int) := by omega
            obtain ⟨gS, hgS⟩ : ∃ gS, aS = some ⟨gS, 0, none⟩ := by
              rcases D4.s.2 with ⟨e, h0⟩ | ⟨g, cap, cur, e, _⟩
              · omega
              · simp only [Value.slice.injEq] at e
                exact ⟨g, e.1⟩
            subst hgS
            obtain ⟨s, hs⟩ : ∃ s, S[k]? = some s := ⟨S[k], by simp [hkS]⟩
            have hsz := D4.zS s (List.mem_of_getElem? hs)
            have ks := D4.s.cellAt k (by omega)
            rw [stv_get S k s hs] at ks
            have Dd := D4.below ((Below.refl w4.heap.size w4).drew) hP
            have j0 : w4.cell? ⟨w.heap.size + 1, 0, none⟩ = some (.int .i64 l.sent) := cell_of_row w4 _ 0 _ _ _ D4.box
            have j1 : w4.cell? ⟨w.heap.size + 1, 1, none⟩ = some (.int .i64 l.acked) := cell_of_row w4 _ 1 _ _ _ D4.box
            have j2 : w4.cell? ⟨w.heap.size + 1, 2, none⟩ = some (.slice a1 l.q.length c1) := cell_of_row w4 _ 2 _ _ _ D4.box
            have j3 : w4.cell? ⟨w.heap.size + 1, 3, none⟩ = some (.int .i64 l.got) := cell_of_row w4 _ 3 _ _ _ D4.box
            have j4 : w4.cell? ⟨w.heap.size + 1, 4, none⟩ = some (.slice a2 l.h.length c2) := cell_of_row w4 _ 4 _ _ _ D4.box
            go_wp2_with fail
            go_region_with (go_at_call 8; refine (slinktake_any _ _ l ⟨k, s⟩ _ ?_ ?_ ?_).mono ?_; exact Dd.q.row (by omega) Dd.zq; exact PcRow.of_own Dd.h (by omega) Dd.zh; exact hsz; rintro e w5 ⟨u1, u2, u3, rfl, q5, h5, o5, _, hb5⟩; obtain ⟨f1, g1, rfl⟩ := own_form q5; obtain ⟨f2, g2, rfl⟩ := own_form h5; obtain ⟨f3, g3, rfl⟩ := own_form o5; have D5 := Dd.below hb5 hP; have r0 : w5.cell? ⟨w.heap.size + 1, 0, none⟩ = some (.int .i64 l.sent) := cell_of_row w5 _ 0 _ _ _ D5.box; have r1 : w5.cell? ⟨w.heap.size + 1, 1, none⟩ = some (.int .i64 l.acked) := cell_of_row w5 _ 1 _ _ _ D5.box; have r2 : w5.cell? ⟨w.heap.size + 1, 2, none⟩ = some (.slice a1 l.q.length c1) := cell_of_row w5 _ 2 _ _ _ D5.box; have r3 : w5.cell? ⟨w.heap.size + 1, 3, none⟩ = some (.int .i64 l.got) := cell_of_row w5 _ 3 _ _ _ D5.box; have r4 : w5.cell? ⟨w.heap.size + 1, 4, none⟩ = some (.slice a2 l.h.length c2) := cell_of_row w5 _ 4 _ _ _ D5.box; have t0 : w5.frozen? ⟨w.heap.size + 1, 0, none⟩ = false := frozen_of_row w5 _ 0 _ _ D5.box; have t1 : w5.frozen? ⟨w.heap.size + 1, 1, none⟩ = false := frozen_of_row w5 _ 1 _ _ D5.box; have t2 : w5.frozen? ⟨w.heap.size + 1, 2, none⟩ = false := frozen_of_row w5 _ 2 _ _ D5.box; have t3 : w5.frozen? ⟨w.heap.size + 1, 3, none⟩ = false := frozen_of_row w5 _ 3 _ _ D5.box; have t4 : w5.frozen? ⟨w.heap.size + 1, 4, none⟩ = false := frozen_of_row w5 _ 4 _ _ D5.box)
            all_goals
              have lb := takeR_lb ⟨k, s⟩ D5.ok
              have zz := takeR_ok l ⟨k, s⟩ D5.zq D5.zh hsz
              have hfr : ∀ k, (Value.slice (some ⟨gS, 0, none⟩) S.length cS).ownBlock = some k → k < w4.heap.size := fun k hk => (D4.s.lt k hk).2
              have hl4 := D4.lt
              clear D4 Dd hb5 o5 j0 j1 j2 j3 j4 r0 r1 r2 r3 r4 t0 t1 t2 t3 t4 ks
              generalize (takeR l ⟨k, s⟩).1 = M at *
              obtain ⟨hv6, hb6, hs6, ho6⟩ := five_set (.int .i64 M.sent) (.int .i64 M.acked) (.slice f1 M.q.length g1) (.int .i64 M.got) (.slice f2 M.h.length g2) D5.box
              have D6 := D5.put hv6 ho6 hb6 hs6 (SOwn.of_own q5) h5 (by simp; omega) hfr lb zz.1 zz.2.1 hP
              clear hv6 hb6 hs6 ho6 D5 q5 h5
              generalize ((((w5.setCell ⟨w.heap.size + 1, 0, none⟩ (.int .i64 M.sent)).setCell ⟨w.heap.size + 1, 1, none⟩ (.int .i64 M.acked)).setCell ⟨w.heap.size + 1, 2, none⟩ (.slice f1 M.q.length g1)).setCell ⟨w.heap.size + 1, 3, none⟩ (.int .i64 M.got)).setCell ⟨w.heap.size + 1, 4, none⟩ (.slice f2 M.h.length g2) = w6 at *
              go_wp2
              go_roundw
              case rel => exact ⟨j + 1, M, _, _, S, by omega, by go_num, by omega, D6⟩
              case measure => simp [intOf]; omega
          · have hkS' : ¬ (k : Int) < (S.length : Int) := by omega
            go_wp2
            go_roundw
            case rel => exact ⟨j + 1, l, _, _, S, by omega, by go_num, by omega, D4⟩
            case measure => simp [intOf]; omega
      · have Dd := D3.below ((Below.refl w3.heap.size w3).drew) hP
        have j0 : w3.cell? ⟨w.heap.size + 1, 0, none⟩ = some (.int .i64 l.sent) := cell_of_row w3 _ 0 _ _ _ D3.box
        have j1 : w3.cell? ⟨w.heap.size + 1, 1, none⟩ = some (.int .i64 l.acked) := cell_of_row w3 _ 1 _ _ _ D3.box
        have j2 : w3.cell? ⟨w.heap.size + 1, 2, none⟩ = some (.slice a1 l.q.length c1) := cell_of_row w3 _ 2 _ _ _ D3.box
        have j3 : w3.cell? ⟨w.heap.size + 1, 3, none⟩ = some (.int .i64 l.got) := cell_of_row w3 _ 3 _ _ _ D3.box
        have j4 : w3.cell? ⟨w.heap.size + 1, 4, none⟩ = some (.slice a2 l.h.length c2) := cell_of_row w3 _ 4 _ _ _ D3.box
        go_wp2_with fail
        go_region_with (first
          | (go_at_call 19; refine (below_any w0 v zs _ P 2 ?_ ?_).mono ?_; exact Dd.cur; omega; rintro e w4 ⟨m, rfl, hm0, hm1, c4, g4⟩; have D4 := Dd.turn c4 g4 hP; have hm1 := hm1 (by omega); have W1 : IntKind.i64.wrap (l.got - m) = l.got - m := (by rw [IntKind.wrap_i64]; omega); have k0 : w4.cell? ⟨w.heap.size + 1, 0, none⟩ = some (.int .i64 l.sent) := cell_of_row w4 _ 0 _ _ _ D4.box; have k1 : w4.cell? ⟨w.heap.size + 1, 1, none⟩ = some (.int .i64 l.acked) := cell_of_row w4 _ 1 _ _ _ D4.box; have k2 : w4.cell? ⟨w.heap.size + 1, 2, none⟩ = some (.slice a1 l.q.length c1) := cell_of_row w4 _ 2 _ _ _ D4.box; have k3 : w4.cell? ⟨w.heap.size + 1, 3, none⟩ = some (.int .i64 l.got) := cell_of_row w4 _ 3 _ _ _ D4.box; have k4 : w4.cell? ⟨w.heap.size + 1, 4, none⟩ = some (.slice a2 l.h.length c2) := cell_of_row w4 _ 4 _ _ _ D4.box)
          | (go_at_call 38; refine (slinkack_any _ _ l (l.got - m) _ ?_ ?_).mono ?_; exact D4.q.row (by omega) D4.zq; exact PcRow.of_own D4.h (by omega) D4.zh; rintro e w5 ⟨u1, u2, rfl, q5, h5, hb5⟩; obtain ⟨f1, g1, rfl⟩ := q5.form; obtain ⟨f2, g2, rfl⟩ := own_form h5; have D5 := D4.below hb5 hP; have r0 : w5.cell? ⟨w.heap.size + 1, 0, none⟩ = some (.int .i64 l.sent) := cell_of_row w5 _ 0 _ _ _ D5.box; have r1 : w5.cell? ⟨w.heap.size + 1, 1, none⟩ = some (.int .i64 l.acked) := cell_of_row w5 _ 1 _ _ _ D5.box; have r2 : w5.cell? ⟨w.heap.size + 1, 2, none⟩ = some (.slice a1 l.q.length c1) := cell_of_row w5 _ 2 _ _ _ D5.box; have r3 : w5.cell? ⟨w.heap.size + 1, 3, none⟩ = some (.int .i64 l.got) := cell_of_row w5 _ 3 _ _ _ D5.box; have r4 : w5.cell? ⟨w.heap.size + 1, 4, none⟩ = some (.slice a2 l.h.length c2) := cell_of_row w5 _ 4 _ _ _ D5.box; have t0 : w5.frozen? ⟨w.heap.size + 1, 0, none⟩ = false := frozen_of_row w5 _ 0 _ _ D5.box; have t1 : w5.frozen? ⟨w.heap.size + 1, 1, none⟩ = false := frozen_of_row w5 _ 1 _ _ D5.box; have t2 : w5.frozen? ⟨w.heap.size + 1, 2, none⟩ = false := frozen_of_row w5 _ 2 _ _ D5.box; have t3 : w5.frozen? ⟨w.heap.size + 1, 3, none⟩ = false := frozen_of_row w5 _ 3 _ _ D5.box; have t4 : w5.frozen? ⟨w.heap.size + 1, 4, none⟩ = false := frozen_of_row w5 _ 4 _ _ D5.box))
        all_goals
          have lb := ackR_lb (l.got - m) D5.ok
          have zz := ackR_ok l (l.got - m) D5.zq D5.zh
          have hfr : ∀ k, (Value.slice aS S.length cS).ownBlock = some k → k < w4.heap.size := fun k hk => (D4.s.lt k hk).2
          have hl4 := D4.lt
          clear D4 Dd hb5 j0 j1 j2 j3 j4 k0 k1 k2 k3 k4 r0 r1 r2 r3 r4 t0 t1 t2 t3 t4 D3 c4 g4
          generalize (ackR l (l.got - m)).1 = M at *
          obtain ⟨hv6, hb6, hs6, ho6⟩ := five_set (.int .i64 M.sent) (.int .i64 M.acked) (.slice f1 M.q.length g1) (.int .i64 M.got) (.slice f2 M.h.length g2) D5.box
          have D6 := D5.put hv6 ho6 hb6 hs6 q5 h5 (by omega) hfr lb zz.1 zz.2 hP
          clear hv6 hb6 hs6 ho6 D5 q5 h5
          generalize ((((w5.setCell ⟨w.heap.size + 1, 0, none⟩ (.int .i64 M.sent)).setCell ⟨w.heap.size + 1, 1, none⟩ (.int .i64 M.acked)).setCell ⟨w.heap.size + 1, 2, none⟩ (.slice f1 M.q.length g1)).setCell ⟨w.heap.size + 1, 3, none⟩ (.int .i64 M.got)).setCell ⟨w.heap.size + 1, 4, none⟩ (.slice f2 M.h.length g2) = w6 at *
          go_wp2
          go_roundw
          case rel => exact ⟨j + 1, M, _, _, S, by omega, by go_num, by omega, D6⟩
          case measure => simp [intOf]; omega
    · go_wp2_with (first
        | refine wpList_load_row rfl 27 _ rfl (w.heap.size + 1) rfl 27 #[.int .i64 l.sent, .int .i64 l.acked, .slice a1 l.q.length c1, .int .i64 l.got, .slice a2 l.h.length c2] (0, 0) _ D.box Try.underlying27 rfl Try.sizeLk ?_
        | refine wpList_store_own2 rfl 27 _ _ rfl w.heap.size #[.int .i64 l.sent, .int .i64 l.acked, .slice a1 l.q.length c1, .int .i64 l.got, .slice a2 l.h.length c2] rfl rfl 27 _ D.res Try.sizeLk rfl (by simp [Value.oneCell']) ?_)
      intro w9 hv9 hbg9 hsz9 hoth9
      have t1 := D.q.box D.res (by decide) hoth9 (B' := w.heap.size) (by omega)
      have t2 := own_mono (B' := w.heap.size) (own_box D.h D.res (by decide) hoth9) (by omega)
      have hl := D.lt
      have c9 := D.cur.kept (hbg9.mono (by omega))
      have g9 : w.grownBy w9 (some P) := grown_mr D.gr ⟨hbg9.os, hbg9.tape, hbg9.output, by omega, fun i hi hne => hoth9 i (fun e => hne (by rw [e]))⟩ (fun k hk => by cases hk; omega)
      have K := D.ok
      have zq := D.zq
      have zh := D.zh
      clear D
      go_wp2
      exact bodyPost_ret (results_cell_row rfl _ _ w.heap.size 27 _ (0, 0) _ rfl hv9 Try.underlying27 rfl Try.sizeLk) rfl ⟨l, _, _, rfl, t1, t2, K, zq, zh, c9, g9⟩
end Go.Proofs.Ytkhokfkcicaojaa
