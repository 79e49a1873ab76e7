/-
  Contract of impl.firstsAlike: for each node the first one that is alike.
-/
import Derived.Test.YtmgjefkelohocaaDoorWParts
import Derived.Test.YtmgjefkelohocaaDoorInts
import Derived.Test.YtmgjefkelohocaaDoorGrow
import Derived.OneCell
namespace Go.Proofs.YtmgjefkelohocaaDoor
open Go.RowKit Go.Maps

theorem Tryd.infoI4 : (Tryd.prog.info? 3).map (fun i => (i.zero, i.size, i.bytes)) = some (some (.int .i64 0), 1, 8) := by kernel_rfl
def padI (l : List Int) (n : Nat) : List Int := l ++ List.replicate (n - l.length) 0
theorem padI_length (l : List Int) (n : Nat) (h : l.length ≤ n) : (padI l n).length = n := by simp [padI]; omega
theorem padI_nil (n : Nat) : iv (padI [] n) = (madeCells #[Value.int .i64 0] n).toList := by rw [toList_madeCells_one]; simp [padI, iv]
theorem padI_get (l : List Int) (n i : Nat) (h : i < l.length) : (padI l n).getD i 0 = l.getD i 0 := by
  unfold padI
  simp only [List.getD_eq_getElem?_getD]
  rw [List.getElem?_append_left h]
theorem padI_set (l : List Int) (n k : Nat) (z : Int) (hk : l.length = k) (h : k < n) : (padI l n).set k z = padI (l ++ [z]) n := by
  subst hk
  unfold padI
  rw [show n - l.length = n - (l ++ [z]).length + 1 by simp; omega, List.replicate_succ, List.set_append_right _ _ (Nat.le_refl _), Nat.sub_self, List.set_cons_zero, List.append_assoc]
  rfl
theorem padI_full (l : List Int) : padI l l.length = l := by simp [padI]
theorem makeMap_hint (n : Int) (w : World) : (Instr.makeMap 123 (some (.int .i64 n))).run Tryd.prog w = .ok (.map (some w.heap.size)) (w.alloc (.map #[] 0)) := by
  simp [Instr.makeMap, run_underlying Tryd.underlying123, asInt, asIntOf, newObj]
  rfl
theorem zeroI (w : World) : (zeroValue 3).run Tryd.prog w = .ok (.int .i64 0) w := by kernel_rfl

theorem fb_get {l : List Int} {k : Nat} (h : ∀ f ∈ l, 0 ≤ f ∧ f ≤ k) (i : Nat) (hi : i < l.length) : 0 ≤ l.getD i 0 ∧ l.getD i 0 ≤ k := by
  rw [List.getD_eq_getElem?_getD, List.getElem?_eq_getElem hi]
  exact h _ (List.getElem_mem _)
theorem nodeB_N {x : Nd} {n : Int} (h : nodeB x n = true) : -1000000000 ≤ x.n ∧ x.n ≤ 1000000000 := by
  simp only [nodeB, Bool.and_eq_true, decide_eq_true_eq] at h
  have h1 := h.1.1.2
  have h2 := h.1.2
  unfold lo at h1
  unfold Go.Proofs.YtmgjefkelohocaaDoor.hi at h2
  constructor
  · split at h1 <;> omega
  · split at h2
    · omega
    · split at h2
      · omega
      · split at h2 <;> omega
theorem nodeB_A0 {x : Nd} {n : Int} (h : nodeB x n = true) (ha : hasA x.k = false) : x.a = 0 := by
  simp only [nodeB, Bool.and_eq_true, decide_eq_true_eq] at h
  have := h.2.1.2
  rw [ha] at this
  simpa [partB] using this
theorem nodeB_B0 {x : Nd} {n : Int} (h : nodeB x n = true) (ha : hasB x.k = false) : x.b = 0 := by
  simp only [nodeB, Bool.and_eq_true, decide_eq_true_eq] at h
  have := h.2.2
  rw [ha] at this
  simpa [partB] using this

set_option maxRecDepth 100000 in
set_option maxHeartbeats 1600000 in
theorem firsts_any (ao : Option Addr) (cap : Nat) (xs : List Nd) (w : World) (R : NRow w (.slice ao xs.length cap) xs) (hp : ∀ (k : Nat) (x : Nd), xs[k]? = some x → nodeB x k = true) (hlen : xs.length ≤ 3000) :
    Calls Tryd.prog 65 #[.slice ao xs.length cap] w fun e w' => ∃ v', e = .returned v' ∧ w'.ownsRow w.heap.size 3 1 v' xs.length (iv (firstsTo xs xs.length)) ∧ Below w.heap.size w w' := by
  obtain ⟨ao', cap', e', ⟨hcap, _⟩, _, hz, hcell⟩ := R
  simp only [Value.slice.injEq, true_and] at e'
  obtain ⟨rfl, rfl⟩ := e'
  obtain ⟨i0, hi, hz0, hz1, hz2⟩ := info_parts Tryd.infoI4
  have hbytes : i0.bytes * xs.length ≤ 281474976710656 := by rw [hz2]; omega
  have hmax : xs.length ≤ maxLen := by unfold maxLen; omega
  have hmm := makeMap_hint
  go_enter Tryd.func65, Tryd.ntmps65
  go_wp2_with (at_make; refine wpList_make_full _ rfl _ _ 34 rfl (w.heap.size + 1) 3 i0 (.int .i64 0) 1 Tryd.underlying34 hi hz0 hz1 _ _ _ _ xs.length rfl rfl rfl rfl hbytes hmax (by simp) ?_)
  intro w1 hown hgrow
  have hm1 := (World.ownsMap_made (H := Unit) w Tryd.prog 55 (plainElem Tryd.prog 3)).kept hgrow (by simp)
  have hB1 : Below w.heap.size w w1 := ((Below.refl _ _).alloc (Nat.le_refl _) _).grown hgrow (by simp) (by intro k hk; cases hk)
  clear hgrow hmm
  go_wp2_with fail
  go_loopw [17] (fun i wr => ∃ (k m : Nat) (D : DataW Unit), k ≤ xs.length ∧ m ≤ k ∧ i = .int .i64 k ∧ wr.ownsMap Tryd.prog 55 (plainElem Tryd.prog 3) w.heap.size m D ∧ Hid (Holds D (keysTo xs k)) ∧ wr.ownsRow (w.heap.size + 1) 3 1 (.slice (some ⟨w.heap.size + 1, 0, none⟩) xs.length xs.length) xs.length (iv (padI (firstsTo xs k) xs.length)) ∧ Below w.heap.size w wr) (fun i _ => xs.length - (intOf i).toNat)
  case atStart => exact ⟨0, 0, .map [], by omega, Nat.le_refl _, rfl, hm1, Holds.start, by rw [show firstsTo xs 0 = [] by simp [firstsTo, cls], padI_nil]; simpa using hown, hB1⟩
  case round =>
    clear hown hm1 hB1 hbytes hmax
    obtain ⟨k, m, D, hk, hmk, rfl, hmap, HH, hown, hB⟩ := hrel
    have hfl := firstsTo_length xs k hk
    by_cases hlt : k < xs.length
    · obtain ⟨g, o, rfl, hg, hcell⟩ := hcell (by intro e; subst e; simp at hlt)
      obtain ⟨x, hx⟩ : ∃ x, xs[k]? = some x := ⟨xs[k], by simp [hlt]⟩
      obtain ⟨c0, c1, c2, c3, c4⟩ := (hcell k x hx).below hB hg
      have hnb := hp k x hx
      have hkd := nodeB_kind hnb
      have hxs := hz x (List.mem_of_getElem? hx)
      have HF : Hid (firstsTo xs (k + 1) = firstsTo xs k ++ [((idx (keysTo xs k) (nrm (firstsTo xs k) x) : Nat) : Int)]) := firstsTo_succ xs k x hx
      have HK : Hid (keysTo xs (k + 1) = keysTo xs k ++ [nrm (firstsTo xs k) x]) := keysTo_succ xs k x hx
      have hkl : Hid ((keysTo xs k).length = k) := keysTo_length xs k hk
      have hBw : w.heap.size + 1 < wr.heap.size := (hown.lt _ rfl).2
      clear hcell hx hp
      have hfb := firsts_bounds xs k hk
      have hnn := nodeB_N hnb
      have hwk : (Lit.int .i64 x.k).wf = true := WalkArith.wf_i64 (by omega)
      have hwn : (Lit.int .i64 x.n).wf = true := WalkArith.wf_i64 (by omega)
      have hpl := padI_length (firstsTo xs k) xs.length (by omega)
      have hpA : hasA x.k = true → 0 ≤ x.a ∧ x.a < (xs.length : Int) := fun h => by have := nodeB_A hnb h; omega
      have hpB : hasB x.k = true → 0 ≤ x.b ∧ x.b < (xs.length : Int) := fun h => by have := nodeB_B hnb h; omega
      have hpc : ∀ i, i < xs.length → wr.cell? ⟨w.heap.size + 1, i, none⟩ = some (.int .i64 ((padI (firstsTo xs k) xs.length).getD i 0)) := fun i hi => (hown.cellAt i (by omega)).trans (iv_get _ _ (by omega))
      have W := withparts_any x (w.heap.size + 1) xs.length (padI (firstsTo xs k) xs.length) (wr.alloc (Obj.cells #[.int .i64 x.k, .int .i64 x.n, .string x.s, .int .i64 x.a, .int .i64 x.b] 55)) hkd hpA hpB (fun i hi => (((Below.refl wr.heap.size wr).alloc (Nat.le_refl _) _).cell (p := ⟨w.heap.size + 1, i, none⟩) hBw).trans (hpc i hi)) (by simp; omega)
      have HN : Hid (nrm (firstsTo xs k) x = ⟨x.k, x.n, x.s, (nrm (padI (firstsTo xs k) xs.length) x).a, (nrm (padI (firstsTo xs k) xs.length) x).b⟩) := by
        unfold Hid nrm
        simp only [Nd.mk.injEq, true_and]
        constructor
        · split
          · rename_i h; have := nodeB_A hnb h; rw [padI_get _ _ _ (by omega)]
          · rfl
        · split
          · rename_i h; have := nodeB_B hnb h; rw [padI_get _ _ _ (by omega)]
          · rfl
      have hwa : (Lit.int .i64 (nrm (padI (firstsTo xs k) xs.length) x).a).wf = true := by
        cases h : hasA x.k with
        | true => have h1 := nodeB_A hnb h; have h2 := fb_get hfb x.a.toNat (by omega); refine WalkArith.wf_i64 ?_; unfold nrm; rw [h]; simp only [if_true]; rw [padI_get _ _ _ (by omega)]; omega
        | false => have h1 := nodeB_A0 hnb h; unfold nrm; rw [h, h1]; rfl
      have hwb : (Lit.int .i64 (nrm (padI (firstsTo xs k) xs.length) x).b).wf = true := by
        cases h : hasB x.k with
        | true => have h1 := nodeB_B hnb h; have h2 := fb_get hfb x.b.toNat (by omega); refine WalkArith.wf_i64 ?_; unfold nrm; rw [h]; simp only [if_true]; rw [padI_get _ _ _ (by omega)]; omega
        | false => have h1 := nodeB_B0 hnb h; unfold nrm; rw [h, h1]; rfl
      clear hpA hpB hpc hfb hnb hnn
      generalize (nrm (padI (firstsTo xs k) xs.length) x).a = ya at W HN hwa
      generalize (nrm (padI (firstsTo xs k) xs.length) x).b = yb at W HN hwb
      go_wp2_with fail
      refine W.mono ?_
      rintro e w4 ⟨rfl, hb4⟩
      have hbox := (hb4.block wr.heap.size (by simp)).trans (heap_alloc_new _ _)
      clear W c0 c1 c2 c3 c4
      go_wp2_with (refine wpList_store_own rfl 55 _ _ rfl wr.heap.size #[.int .i64 x.k, .int .i64 x.n, .string x.s, .int .i64 ya, .int .i64 yb] rfl rfl 55 _ hbox Tryd.sizeNW rfl (by simp [Value.oneCell']) ?_)
      intro w6 hh6 hb6 hs6
      have hB' : Below wr.heap.size wr w6 := (((Below.refl wr.heap.size wr).alloc (Nat.le_refl _) _).trans (hb4.mono (by simp))).trans hb6
      have hownq := own_below hown hB'
      have hmapq := hmap.kept (grown_below2 hB' none) (by simp)
      have hBq := hB.trans (hB'.mono (by have := hB.size; omega))
      have d0 := cell_of_row w6 _ 0 _ _ _ hh6
      have d1 := cell_of_row w6 _ 1 _ _ _ hh6
      have d2 := cell_of_row w6 _ 2 _ _ _ hh6
      have d3 := cell_of_row w6 _ 3 _ _ _ hh6
      have d4 := cell_of_row w6 _ 4 _ _ _ hh6
      simp only [List.getElem?_toArray, List.getElem?_cons_succ, List.getElem?_cons_zero] at d0 d1 d2 d3 d4
      have hw6 : wr.heap.size < w6.heap.size := (Array.getElem?_eq_some_iff.1 hh6).1
      have hw6' : w.heap.size + 1 < w6.heap.size := by omega
      have hne4 : w.heap.size + 1 ≠ wr.heap.size := by omega
      have hne5 : w.heap.size ≠ wr.heap.size := by omega
      obtain ⟨kl, hkey⟩ : ∃ kl, keyOf Tryd.prog 55 (nkey (⟨x.k, x.n, x.s, ya, yb⟩ : Nd)) = some kl := key_some (⟨x.k, x.n, x.s, ya, yb⟩ : Nd) hwk hwn hxs hwa hwb
      have hHH := HH.out (⟨x.k, x.n, x.s, ya, yb⟩ : Nd) kl hkey
      have e0 := hownq.cellAt k (by omega)
      rw [iv_get _ _ (by omega)] at e0
      have g0 := hownq.frozenAt k
      clear hbox hh6 hb4 hb6 hs6 hown hmap hB hB'
      go_wp2_with (at_lookup; refine wpList_lookup_own_ok_int _ rfl _ _ 123 rfl 55 3 .i64 Tryd.keyed Tryd.underlying123 Tryd.underlying3 (zeroI _) w.heap.size m D rfl hmapq _ kl rfl hkey ?_)
      intro c hat hwc
      by_cases hin : (⟨x.k, x.n, x.s, ya, yb⟩ : Nd) ∈ keysTo xs k
      · obtain ⟨hhas, hat2⟩ := hHH.1 hin
        have hci : c = ((idx (keysTo xs k) (⟨x.k, x.n, x.s, ya, yb⟩ : Nd) : Nat) : Int) := by rw [hat2] at hat; injection hat with h1; injection h1 with _ h2; exact h2.symm
        rw [hhas]
        have HC : Hid (c = ((idx (keysTo xs k) (⟨x.k, x.n, x.s, ya, yb⟩ : Nd) : Nat) : Int)) := hci
        clear hat hat2 hhas hci hHH
        go_wp2
        refine ⟨⟨k + 1, m, D, by omega, by omega, by go_num, hmapq.setCell (a := ⟨w.heap.size + 1, k, none⟩) (by simp) (.int .i64 c), ?_, ?_, hBq.setCell (p := ⟨w.heap.size + 1, k, none⟩) (by simp) (.int .i64 c)⟩, by simp [intOf]; omega⟩
        · unfold Hid; rw [HK.out, HN.out]; exact HH.out.again _ hin
        · have hs := (hownq.stored k (.int .i64 c)).1
          rw [iv_set, padI_set _ _ k c hfl hlt] at hs
          rw [HF.out, HN.out, ← HC.out]
          exact hs
      · have hhas := hHH.2 hin
        have hix := idx_none (keysTo xs k) (⟨x.k, x.n, x.s, ya, yb⟩ : Nd) hin
        rw [hkl.out] at hix
        rw [hhas]
        have HC : Hid (idx (keysTo xs k) (⟨x.k, x.n, x.s, ya, yb⟩ : Nd) = k) := hix
        clear hat hhas hHH hix
        go_wp2_with (at_mapUpdate; refine wpList_mapUpdate_own _ rfl _ _ _ 123 rfl 55 3 Tryd.keyed Tryd.underlying123 _ w.heap.size m D rfl hmapq (by unfold maxLen; omega) _ _ kl rfl rfl hkey _ [] (plainElem_int Tryd.underlying3 (WalkArith.wf_i64 (n := (k : Int)) (by omega))) ?_)
        intro w7 hmap5 hg5
        have hown5 := hownq.kept hg5 (Or.inr (by simp [Value.ownBlock]))
        have hB5 : Below w.heap.size w w7 := hBq.grown hg5 (by have := hBq.size; simp; omega) (fun j hj => by simp at hj; omega)
        have e5 := hown5.cellAt k (by omega)
        rw [iv_get _ _ (by omega)] at e5
        have g5 := hown5.frozenAt k
        clear hg5 e0 g0
        go_wp2
        refine ⟨⟨k + 1, m + 1, _, by omega, by omega, by go_num, hmap5.setCell (a := ⟨w.heap.size + 1, k, none⟩) (by simp) (.int .i64 k), ?_, ?_, hB5.setCell (p := ⟨w.heap.size + 1, k, none⟩) (by simp) (.int .i64 k)⟩, by simp [intOf]; omega⟩
        · unfold Hid; rw [HK.out, HN.out]
          have := HH.out.put hmapq.isMap _ hin kl hkey
          rwa [hkl.out] at this
        · have hs := (hown5.stored k (.int .i64 k)).1
          rw [iv_set, padI_set _ _ k k hfl hlt] at hs
          rw [HF.out, HN.out, HC.out]
          exact hs
    · have hkx : k = xs.length := by omega
      subst hkx
      have HP : Hid (padI (firstsTo xs xs.length) xs.length = firstsTo xs xs.length) := by unfold Hid; have := padI_full (firstsTo xs xs.length); rwa [hfl] at this
      rw [HP.out] at hown
      go_wp2
      go_ret
      exact ⟨_, rfl, own_mono hown (by omega), hB⟩
end Go.Proofs.YtmgjefkelohocaaDoor
