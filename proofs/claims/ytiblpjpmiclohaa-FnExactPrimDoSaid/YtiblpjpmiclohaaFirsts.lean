/-
  Contract of impl.firstsAlike: for each node the first one that is alike.
-/
import Derived.Test.YtiblpjpmiclohaaCls
import Derived.Test.YtiblpjpmiclohaaInts
import Derived.Test.YtiblpjpmiclohaaGrow
import Derived.OneCell
namespace Go.Proofs.Ytiblpjpmiclohaa
open Go.RowKit Go.Maps

theorem Try.infoI4 : (Try.prog.info? 3).map (fun i => (i.zero, i.size, i.bytes)) = some (some (.int .i64 0), 1, 8) := by kernel_rfl
def padI (l : List Int) (n : Nat) : List Int := l ++ List.replicate (n - l.length) 0
theorem padI_length (l : List Int) (n : Nat) (h : l.length ≤ n) : (padI l n).length = n := by simp [padI]; omega
theorem padI_nil (n : Nat) : iv (padI [] n) = (madeCells #[Value.int .i64 0] n).toList := by rw [toList_madeCells_one]; simp [padI, iv]
theorem padI_get (l : List Int) (n i : Nat) (h : i < l.length) : (padI l n).getD i 0 = l.getD i 0 := by
  unfold padI
  simp only [List.getD_eq_getElem?_getD]
  rw [List.getElem?_append_left h]
theorem padI_set (l : List Int) (n k : Nat) (z : Int) (hk : l.length = k) (h : k < n) : (padI l n).set k z = padI (l ++ [z]) n := by
  subst hk
  unfold padI
  rw [show n - l.length = n - (l ++ [z]).length + 1 by simp; omega, List.replicate_succ, List.set_append_right _ _ (Nat.le_refl _), Nat.sub_self, List.set_cons_zero, List.append_assoc]
  rfl
theorem padI_full (l : List Int) : padI l l.length = l := by simp [padI]
theorem makeMap_hint (n : Int) (w : World) : (Instr.makeMap 112 (some (.int .i64 n))).run Try.prog w = .ok (.map (some w.heap.size)) (w.alloc (.map #[] 0)) := by
  simp [Instr.makeMap, run_underlying Try.underlying112, asInt, asIntOf, newObj]
  rfl
theorem zeroI (w : World) : (zeroValue 3).run Try.prog w = .ok (.int .i64 0) w := by kernel_rfl

theorem fb_get {l : List Int} {k : Nat} (h : ∀ f ∈ l, 0 ≤ f ∧ f ≤ k) (i : Nat) (hi : i < l.length) : 0 ≤ l.getD i 0 ∧ l.getD i 0 ≤ k := by
  rw [List.getD_eq_getElem?_getD, List.getElem?_eq_getElem hi]
  exact h _ (List.getElem_mem _)
theorem nodeB_N {x : Nd} {n : Int} (h : nodeB x n = true) : -1000000000 ≤ x.n ∧ x.n ≤ 1000000000 := by
  simp only [nodeB, Bool.and_eq_true, decide_eq_true_eq] at h
  have h1 := h.1.1.2
  have h2 := h.1.2
  unfold lo at h1
  unfold Go.Proofs.Ytiblpjpmiclohaa.hi at h2
  constructor
  · split at h1 <;> omega
  · split at h2
    · omega
    · split at h2
      · omega
      · split at h2 <;> omega
theorem nodeB_A0 {x : Nd} {n : Int} (h : nodeB x n = true) (ha : hasA x.k = false) : x.a = 0 := by
  simp only [nodeB, Bool.and_eq_true, decide_eq_true_eq] at h
  have := h.2.1.2
  rw [ha] at this
  simpa [partB] using this
theorem nodeB_B0 {x : Nd} {n : Int} (h : nodeB x n = true) (ha : hasB x.k = false) : x.b = 0 := by
  simp only [nodeB, Bool.and_eq_true, decide_eq_true_eq] at h
  have := h.2.2
  rw [ha] at this
  simpa [partB] using this

set_option maxRecDepth 100000 in
set_option maxHeartbeats 1600000 in
theorem firsts_any (ao : Option Addr) (cap : Nat) (xs : List Nd) (w : World) (R : NRow w (.slice ao xs.length cap) xs) (hp : ∀ (k : Nat) (x : Nd), xs[k]? = some x → nodeB x k = true) (hlen : xs.length ≤ 3000) :
    Calls Try.prog 75 #[.slice ao xs.length cap] w fun e w' => ∃ v', e = .returned v' ∧ w'.ownsRow w.heap.size 3 1 v' xs.length (iv (firstsTo xs xs.length)) ∧ Below w.heap.size w w' := by
  obtain ⟨ao', cap', e', ⟨hcap, _⟩, _, hz, hcell⟩ := R
  simp only [Value.slice.injEq, true_and] at e'
  obtain ⟨rfl, rfl⟩ := e'
  obtain ⟨i0, hi, hz0, hz1, hz2⟩ := info_parts Try.infoI4
  have hbytes : i0.bytes * xs.length ≤ 281474976710656 := by rw [hz2]; omega
  have hmax : xs.length ≤ maxLen := by unfold maxLen; omega
  have hmm := makeMap_hint
  go_enter Try.func75, Try.ntmps75
  go_wp2_with (at_make; refine wpList_make_full _ rfl _ _ 27 rfl (w.heap.size + 1) 3 i0 (.int .i64 0) 1 Try.underlying27 hi hz0 hz1 _ _ _ _ xs.length rfl rfl rfl rfl hbytes hmax (by simp) ?_)
  intro w1 hown hgrow
  have hm1 := (World.ownsMap_made (H := Unit) w Try.prog 34 (plainElem Try.prog 3)).kept hgrow (by simp)
  have hB1 : Below w.heap.size w w1 := ((Below.refl _ _).alloc (Nat.le_refl _) _).grown hgrow (by simp) (by intro k hk; cases hk)
  clear hgrow hmm
  go_wp2_with fail
  go_loopw [19] (fun i wr => ∃ (k m : Nat) (D : DataW Unit), k ≤ xs.length ∧ m ≤ k ∧ i = .int .i64 k ∧ wr.ownsMap Try.prog 34 (plainElem Try.prog 3) w.heap.size m D ∧ Hid (Holds D (keysTo xs k)) ∧ wr.ownsRow (w.heap.size + 1) 3 1 (.slice (some ⟨w.heap.size + 1, 0, none⟩) xs.length xs.length) xs.length (iv (padI (firstsTo xs k) xs.length)) ∧ Below w.heap.size w wr) (fun i _ => xs.length - (intOf i).toNat)
  case atStart => exact ⟨0, 0, .map [], by omega, Nat.le_refl _, rfl, hm1, Holds.start, by rw [show firstsTo xs 0 = [] by simp [firstsTo, cls], padI_nil]; simpa using hown, hB1⟩
  case round =>
    clear hown hm1 hB1 hbytes hmax
    obtain ⟨k, m, D, hk, hmk, rfl, hmap, HH, hown, hB⟩ := hrel
    have hfl := firstsTo_length xs k hk
    by_cases hlt : k < xs.length
    · obtain ⟨g, o, rfl, hg, hcell⟩ := hcell (by intro e; subst e; simp at hlt)
      obtain ⟨x, hx⟩ : ∃ x, xs[k]? = some x := ⟨xs[k], by simp [hlt]⟩
      obtain ⟨c0, c1, c2, c3, c4⟩ := (hcell k x hx).below hB hg
      have hnb := hp k x hx
      have hkd := nodeB_kind hnb
      have hxs := hz x (List.mem_of_getElem? hx)
      have HF : Hid (firstsTo xs (k + 1) = firstsTo xs k ++ [((idx (keysTo xs k) (nrm (firstsTo xs k) x) : Nat) : Int)]) := firstsTo_succ xs k x hx
      have HK : Hid (keysTo xs (k + 1) = keysTo xs k ++ [nrm (firstsTo xs k) x]) := keysTo_succ xs k x hx
      have hkl : Hid ((keysTo xs k).length = k) := keysTo_length xs k hk
      have hBw : w.heap.size + 1 < wr.heap.size := (hown.lt _ rfl).2
      clear hcell hx hp
      go_wp2_with fail
      refine (shapeof_any x.k _).mono ?_
      rintro e w4 ⟨rfl, hb4⟩
      rw [shapeV, if_pos hkd]
      have hbox := (hb4.block wr.heap.size (by simp)).trans (heap_alloc_new _ _)
      have hcellN : ∀ j, w4.cell? ⟨wr.heap.size, j, none⟩ = #[Value.int .i64 x.k, .int .i64 x.n, .string x.s, .int .i64 x.a, .int .i64 x.b][j]? := fun j => cell_of_row w4 _ j _ _ _ hbox
      have hfrN : ∀ j, w4.frozen? ⟨wr.heap.size, j, none⟩ = false := fun j => frozen_of_row w4 _ j _ _ hbox
      have d0 := hcellN 0
      have d1 := hcellN 1
      have d2 := hcellN 2
      have d3 := hcellN 3
      have d4 := hcellN 4
      simp only [List.getElem?_toArray, List.getElem?_cons_succ, List.getElem?_cons_zero] at d0 d1 d2 d3 d4
      have f3 := hfrN 3
      have f4 := hfrN 4
      have hown4 := own_below (hown.alloc _) hb4
      have hmap4 := (hmap.alloc _).kept (grown_below2 hb4 none) (by simp)
      have hB4 := (hB.alloc hB.size _).trans (hb4.mono (by have := hB.size; simp; omega))
      have hw4 : wr.heap.size < w4.heap.size := (Array.getElem?_eq_some_iff.1 hbox).1
      have hw4' : w.heap.size + 1 < w4.heap.size := by omega
      have hne4 : w.heap.size + 1 ≠ wr.heap.size := by omega
      have hne5 : w.heap.size ≠ wr.heap.size := by omega
      clear c0 c1 c2 c3 c4 hbox hcellN hfrN hb4 hown hmap hB
      have hfb := firsts_bounds xs k hk
      have hnn := nodeB_N hnb
      have hwk : (Lit.int .i64 x.k).wf = true := WalkArith.wf_i64 (by omega)
      have hwn : (Lit.int .i64 x.n).wf = true := WalkArith.wf_i64 (by omega)
      have hpl := padI_length (firstsTo xs k) xs.length (by omega)
      cases hA : hasA x.k with
      | false =>
        have hBb : hasB x.k = false := by
          unfold hasA at hA; unfold hasB
          simp only [decide_eq_false_iff_not] at hA ⊢
          omega
        have HN : Hid (nrm (firstsTo xs k) x = x) := by unfold Hid nrm; rw [hA, hBb]; rfl
        have hwa : (Lit.int .i64 x.a).wf = true := by rw [nodeB_A0 hnb hA]; rfl
        have hwb : (Lit.int .i64 x.b).wf = true := by rw [nodeB_B0 hnb hBb]; rfl
        rw [hBb]
        have hmapq := hmap4
        have hownq := hown4
        have hBq := hB4
        obtain ⟨kl, hkey⟩ : ∃ kl, keyOf Try.prog 34 (nkey x) = some kl := key_some x hwk hwn hxs hwa hwb
        have hHH := HH.out x kl hkey
        have e0 := hown4.cellAt k (by omega)
        rw [iv_get _ _ (by omega)] at e0
        have g0 := hown4.frozenAt k
        clear hfb hnb hkd hnn
        go_wp2_with (at_lookup; refine wpList_lookup_own_ok_int _ rfl _ _ 112 rfl 34 3 .i64 Try.keyed Try.underlying112 Try.underlying3 (zeroI _) w.heap.size m D rfl (hmapq.alloc _) _ kl rfl hkey ?_)
        intro c hat hwc
        by_cases hin : x ∈ keysTo xs k
        · obtain ⟨hhas, hat2⟩ := hHH.1 hin
          have hci : c = ((idx (keysTo xs k) x : Nat) : Int) := by rw [hat2] at hat; injection hat with h1; injection h1 with _ h2; exact h2.symm
          rw [hhas]
          have HC : Hid (c = ((idx (keysTo xs k) x : Nat) : Int)) := hci
          clear hat hat2 hhas hci hHH
          go_wp2
          refine ⟨⟨k + 1, m, D, by omega, by omega, by go_num, (hmapq.setCell (a := ⟨w.heap.size + 1, k, none⟩) (by simp) (.int .i64 c)).alloc _, ?_, ?_, (hBq.setCell (p := ⟨w.heap.size + 1, k, none⟩) (by simp) (.int .i64 c)).alloc (by simp; exact hB4.size) _⟩, by simp [intOf]; omega⟩
          · unfold Hid; rw [HK.out, HN.out]; exact HH.out.again _ hin
          · have hs := (hownq.stored k (.int .i64 c)).1
            rw [iv_set, padI_set _ _ k c hfl hlt] at hs
            rw [HF.out, HN.out, ← HC.out]
            exact hs.alloc _
        · have hhas := hHH.2 hin
          have hix := idx_none (keysTo xs k) x hin
          rw [hkl.out] at hix
          rw [hhas]
          have HC : Hid (idx (keysTo xs k) x = k) := hix
          clear hat hhas hHH hix
          go_wp2_with (at_mapUpdate; refine wpList_mapUpdate_own _ rfl _ _ _ 112 rfl 34 3 Try.keyed Try.underlying112 _ w.heap.size m D rfl (hmapq.alloc _) (by unfold maxLen; omega) _ _ kl rfl rfl hkey _ [] (plainElem_int Try.underlying3 (WalkArith.wf_i64 (n := (k : Int)) (by omega))) ?_)
          intro w5 hmap5 hg5
          have hown5 := (hownq.alloc _).kept hg5 (Or.inr (by simp [Value.ownBlock]))
          have hB5 : Below w.heap.size w w5 := (hBq.alloc hBq.size _).grown hg5 (by have := hBq.size; simp; omega) (fun j hj => by simp at hj; omega)
          have e5 := hown5.cellAt k (by omega)
          rw [iv_get _ _ (by omega)] at e5
          have g5 := hown5.frozenAt k
          clear hg5 e0 g0
          go_wp2
          refine ⟨⟨k + 1, m + 1, _, by omega, by omega, by go_num, hmap5.setCell (a := ⟨w.heap.size + 1, k, none⟩) (by simp) (.int .i64 k), ?_, ?_, hB5.setCell (p := ⟨w.heap.size + 1, k, none⟩) (by simp) (.int .i64 k)⟩, by simp [intOf]; omega⟩
          · unfold Hid; rw [HK.out, HN.out]
            have := HH.out.put hmapq.isMap _ hin kl hkey
            rwa [hkl.out] at this
          · have hs := (hown5.stored k (.int .i64 k)).1
            rw [iv_set, padI_set _ _ k k hfl hlt] at hs
            rw [HF.out, HN.out, HC.out]
            exact hs
      | true =>
        have hra := nodeB_A hnb hA
        obtain ⟨na, hna⟩ := Int.eq_ofNat_of_zero_le hra.1
        rw [hna] at d3 hra
        have ea := hown4.cellAt na (by omega)
        rw [iv_get _ _ (by omega), padI_get _ _ na (by omega)] at ea
        have hab := fb_get hfb na (by omega)
        have HA : Hid ((if hasA x.k then (firstsTo xs k).getD x.a.toNat 0 else x.a) = (firstsTo xs k).getD na 0) := by unfold Hid; rw [hA, if_pos rfl, hna]; rfl
        cases hBb : hasB x.k with
        | false =>
          have HN : Hid (nrm (firstsTo xs k) x = ⟨x.k, x.n, x.s, (firstsTo xs k).getD na 0, x.b⟩) := by unfold Hid nrm; rw [HA.out, hBb]; rfl
          have hwb : (Lit.int .i64 x.b).wf = true := by rw [nodeB_B0 hnb hBb]; rfl
          generalize (firstsTo xs k).getD na 0 = fa at ea hab HA HN
          have hwa : (Lit.int .i64 fa).wf = true := WalkArith.wf_i64 (by omega)
          have hmapq := hmap4.setCell (a := ⟨wr.heap.size, 3, none⟩) hne5 (.int .i64 fa)
          have hownq := ownsRow_setCell_other hown4 (a := ⟨wr.heap.size, 3, none⟩) (by simp [Value.ownBlock]; omega) (.int .i64 fa)
          have hBq := hB4.setCell (p := ⟨wr.heap.size, 3, none⟩) (by simp; omega) (.int .i64 fa)
          obtain ⟨kl, hkey⟩ : ∃ kl, keyOf Try.prog 34 (nkey (⟨x.k, x.n, x.s, fa, x.b⟩ : Nd)) = some kl := key_some (⟨x.k, x.n, x.s, fa, x.b⟩ : Nd) hwk hwn hxs hwa hwb
          have hHH := HH.out (⟨x.k, x.n, x.s, fa, x.b⟩ : Nd) kl hkey
          have e0 := hown4.cellAt k (by omega)
          rw [iv_get _ _ (by omega)] at e0
          have g0 := hown4.frozenAt k
          clear hfb hnb hkd hnn
          go_wp2_with (at_lookup; refine wpList_lookup_own_ok_int _ rfl _ _ 112 rfl 34 3 .i64 Try.keyed Try.underlying112 Try.underlying3 (zeroI _) w.heap.size m D rfl (hmapq.alloc _) _ kl rfl hkey ?_)
          intro c hat hwc
          by_cases hin : (⟨x.k, x.n, x.s, fa, x.b⟩ : Nd) ∈ keysTo xs k
          · obtain ⟨hhas, hat2⟩ := hHH.1 hin
            have hci : c = ((idx (keysTo xs k) (⟨x.k, x.n, x.s, fa, x.b⟩ : Nd) : Nat) : Int) := by rw [hat2] at hat; injection hat with h1; injection h1 with _ h2; exact h2.symm
            rw [hhas]
            have HC : Hid (c = ((idx (keysTo xs k) (⟨x.k, x.n, x.s, fa, x.b⟩ : Nd) : Nat) : Int)) := hci
            clear hat hat2 hhas hci hHH
            go_wp2
            refine ⟨⟨k + 1, m, D, by omega, by omega, by go_num, (hmapq.setCell (a := ⟨w.heap.size + 1, k, none⟩) (by simp) (.int .i64 c)).alloc _, ?_, ?_, (hBq.setCell (p := ⟨w.heap.size + 1, k, none⟩) (by simp) (.int .i64 c)).alloc (by simp; exact hB4.size) _⟩, by simp [intOf]; omega⟩
            · unfold Hid; rw [HK.out, HN.out]; exact HH.out.again _ hin
            · have hs := (hownq.stored k (.int .i64 c)).1
              rw [iv_set, padI_set _ _ k c hfl hlt] at hs
              rw [HF.out, HN.out, ← HC.out]
              exact hs.alloc _
          · have hhas := hHH.2 hin
            have hix := idx_none (keysTo xs k) (⟨x.k, x.n, x.s, fa, x.b⟩ : Nd) hin
            rw [hkl.out] at hix
            rw [hhas]
            have HC : Hid (idx (keysTo xs k) (⟨x.k, x.n, x.s, fa, x.b⟩ : Nd) = k) := hix
            clear hat hhas hHH hix
            go_wp2_with (at_mapUpdate; refine wpList_mapUpdate_own _ rfl _ _ _ 112 rfl 34 3 Try.keyed Try.underlying112 _ w.heap.size m D rfl (hmapq.alloc _) (by unfold maxLen; omega) _ _ kl rfl rfl hkey _ [] (plainElem_int Try.underlying3 (WalkArith.wf_i64 (n := (k : Int)) (by omega))) ?_)
            intro w5 hmap5 hg5
            have hown5 := (hownq.alloc _).kept hg5 (Or.inr (by simp [Value.ownBlock]))
            have hB5 : Below w.heap.size w w5 := (hBq.alloc hBq.size _).grown hg5 (by have := hBq.size; simp; omega) (fun j hj => by simp at hj; omega)
            have e5 := hown5.cellAt k (by omega)
            rw [iv_get _ _ (by omega)] at e5
            have g5 := hown5.frozenAt k
            clear hg5 e0 g0
            go_wp2
            refine ⟨⟨k + 1, m + 1, _, by omega, by omega, by go_num, hmap5.setCell (a := ⟨w.heap.size + 1, k, none⟩) (by simp) (.int .i64 k), ?_, ?_, hB5.setCell (p := ⟨w.heap.size + 1, k, none⟩) (by simp) (.int .i64 k)⟩, by simp [intOf]; omega⟩
            · unfold Hid; rw [HK.out, HN.out]
              have := HH.out.put hmapq.isMap _ hin kl hkey
              rwa [hkl.out] at this
            · have hs := (hown5.stored k (.int .i64 k)).1
              rw [iv_set, padI_set _ _ k k hfl hlt] at hs
              rw [HF.out, HN.out, HC.out]
              exact hs
        | true =>
          have hrb := nodeB_B hnb hBb
          obtain ⟨nb', hnb'⟩ := Int.eq_ofNat_of_zero_le hrb.1
          rw [hnb'] at d4 hrb
          have eb := hown4.cellAt nb' (by omega)
          rw [iv_get _ _ (by omega), padI_get _ _ nb' (by omega)] at eb
          have hbb := fb_get hfb nb' (by omega)
          have HBf : Hid ((if hasB x.k then (firstsTo xs k).getD x.b.toNat 0 else x.b) = (firstsTo xs k).getD nb' 0) := by unfold Hid; rw [hBb, if_pos rfl, hnb']; rfl
          have HN : Hid (nrm (firstsTo xs k) x = ⟨x.k, x.n, x.s, (firstsTo xs k).getD na 0, (firstsTo xs k).getD nb' 0⟩) := by unfold Hid nrm; rw [HA.out, HBf.out]
          generalize (firstsTo xs k).getD na 0 = fa at ea hab HA HN
          generalize (firstsTo xs k).getD nb' 0 = fb at eb hbb HBf HN
          have hwa : (Lit.int .i64 fa).wf = true := WalkArith.wf_i64 (by omega)
          have hwb : (Lit.int .i64 fb).wf = true := WalkArith.wf_i64 (by omega)
          have hmapq := (hmap4.setCell (a := ⟨wr.heap.size, 3, none⟩) hne5 (.int .i64 fa)).setCell (a := ⟨wr.heap.size, 4, none⟩) hne5 (.int .i64 fb)
          have hownq := ownsRow_setCell_other (ownsRow_setCell_other hown4 (a := ⟨wr.heap.size, 3, none⟩) (by simp [Value.ownBlock]; omega) (.int .i64 fa)) (a := ⟨wr.heap.size, 4, none⟩) (by simp [Value.ownBlock]; omega) (.int .i64 fb)
          have hBq := (hB4.setCell (p := ⟨wr.heap.size, 3, none⟩) (by simp; omega) (.int .i64 fa)).setCell (p := ⟨wr.heap.size, 4, none⟩) (by simp; omega) (.int .i64 fb)
          obtain ⟨kl, hkey⟩ : ∃ kl, keyOf Try.prog 34 (nkey (⟨x.k, x.n, x.s, fa, fb⟩ : Nd)) = some kl := key_some (⟨x.k, x.n, x.s, fa, fb⟩ : Nd) hwk hwn hxs hwa hwb
          have hHH := HH.out (⟨x.k, x.n, x.s, fa, fb⟩ : Nd) kl hkey
          have e0 := hown4.cellAt k (by omega)
          rw [iv_get _ _ (by omega)] at e0
          have g0 := hown4.frozenAt k
          clear hfb hnb hkd hnn
          go_wp2_with (at_lookup; refine wpList_lookup_own_ok_int _ rfl _ _ 112 rfl 34 3 .i64 Try.keyed Try.underlying112 Try.underlying3 (zeroI _) w.heap.size m D rfl (hmapq.alloc _) _ kl rfl hkey ?_)
          intro c hat hwc
          by_cases hin : (⟨x.k, x.n, x.s, fa, fb⟩ : Nd) ∈ keysTo xs k
          · obtain ⟨hhas, hat2⟩ := hHH.1 hin
            have hci : c = ((idx (keysTo xs k) (⟨x.k, x.n, x.s, fa, fb⟩ : Nd) : Nat) : Int) := by rw [hat2] at hat; injection hat with h1; injection h1 with _ h2; exact h2.symm
            rw [hhas]
            have HC : Hid (c = ((idx (keysTo xs k) (⟨x.k, x.n, x.s, fa, fb⟩ : Nd) : Nat) : Int)) := hci
            clear hat hat2 hhas hci hHH
            go_wp2
            refine ⟨⟨k + 1, m, D, by omega, by omega, by go_num, (hmapq.setCell (a := ⟨w.heap.size + 1, k, none⟩) (by simp) (.int .i64 c)).alloc _, ?_, ?_, (hBq.setCell (p := ⟨w.heap.size + 1, k, none⟩) (by simp) (.int .i64 c)).alloc (by simp; exact hB4.size) _⟩, by simp [intOf]; omega⟩
            · unfold Hid; rw [HK.out, HN.out]; exact HH.out.again _ hin
            · have hs := (hownq.stored k (.int .i64 c)).1
              rw [iv_set, padI_set _ _ k c hfl hlt] at hs
              rw [HF.out, HN.out, ← HC.out]
              exact hs.alloc _
          · have hhas := hHH.2 hin
            have hix := idx_none (keysTo xs k) (⟨x.k, x.n, x.s, fa, fb⟩ : Nd) hin
            rw [hkl.out] at hix
            rw [hhas]
            have HC : Hid (idx (keysTo xs k) (⟨x.k, x.n, x.s, fa, fb⟩ : Nd) = k) := hix
            clear hat hhas hHH hix
            go_wp2_with (at_mapUpdate; refine wpList_mapUpdate_own _ rfl _ _ _ 112 rfl 34 3 Try.keyed Try.underlying112 _ w.heap.size m D rfl (hmapq.alloc _) (by unfold maxLen; omega) _ _ kl rfl rfl hkey _ [] (plainElem_int Try.underlying3 (WalkArith.wf_i64 (n := (k : Int)) (by omega))) ?_)
            intro w5 hmap5 hg5
            have hown5 := (hownq.alloc _).kept hg5 (Or.inr (by simp [Value.ownBlock]))
            have hB5 : Below w.heap.size w w5 := (hBq.alloc hBq.size _).grown hg5 (by have := hBq.size; simp; omega) (fun j hj => by simp at hj; omega)
            have e5 := hown5.cellAt k (by omega)
            rw [iv_get _ _ (by omega)] at e5
            have g5 := hown5.frozenAt k
            clear hg5 e0 g0
            go_wp2
            refine ⟨⟨k + 1, m + 1, _, by omega, by omega, by go_num, hmap5.setCell (a := ⟨w.heap.size + 1, k, none⟩) (by simp) (.int .i64 k), ?_, ?_, hB5.setCell (p := ⟨w.heap.size + 1, k, none⟩) (by simp) (.int .i64 k)⟩, by simp [intOf]; omega⟩
            · unfold Hid; rw [HK.out, HN.out]
              have := HH.out.put hmapq.isMap _ hin kl hkey
              rwa [hkl.out] at this
            · have hs := (hown5.stored k (.int .i64 k)).1
              rw [iv_set, padI_set _ _ k k hfl hlt] at hs
              rw [HF.out, HN.out, HC.out]
              exact hs
    · have hkx : k = xs.length := by omega
      subst hkx
      have HP : Hid (padI (firstsTo xs xs.length) xs.length = firstsTo xs xs.length) := by unfold Hid; have := padI_full (firstsTo xs xs.length); rwa [hfl] at this
      rw [HP.out] at hown
      go_wp2
      go_ret
      exact ⟨_, rfl, own_mono hown (by omega), hB⟩
end Go.Proofs.Ytiblpjpmiclohaa
