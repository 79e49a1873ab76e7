/-
  The law FnExactRead, walked: at every argument the law returns true. The table of powers of ten and the two error variables are there.
-/
import Derived.Test.YtmgjefkelohocaaDoorLMkListM
import Derived.Test.YtmgjefkelohocaaDoorIReadM
namespace Go.Proofs.YtmgjefkelohocaaDoor
open Go.RowKit

theorem rd_fits {t : ByteArray} (n f i : Nat) (s s' : RS) (h4 : t.size ≤ 400) (hf : f ≤ i) (hi : i ≤ t.size) (h : Fits n f s) (e : rd t f i s = .ok s') : Fits n t.size s' := by
  induction hk : t.size - i generalizing f i s with
  | zero =>
    have hie : i = t.size := by omega
    subst hie
    rw [rd_stop hf] at e
    exact h.wordR hf (by rw [ByteArray.size_extract]; omega) (by rw [ByteArray.size_extract]; omega) e
  | succ k ih =>
    have hlt : i < t.size := by omega
    cases hw : wb (t[i].toNat : Int) with
    | true =>
      rw [rd_in hlt hw] at e
      exact ih f (i + 1) s (by omega) (by omega) h e (by omega)
    | false =>
      rw [rd_at hlt hw hf] at e
      cases h1 : wordR (t.extract f i) f s with
      | bad a b => rw [h1] at e; cases e
      | ok s1 =>
        rw [h1] at e
        change ((rdMark (t[i].toNat : Int) i s1).andThen fun s2 => rd t (i + 1) (i + 1) s2) = _ at e
        cases h2 : rdMark (t[i].toNat : Int) i s1 with
        | bad a b => rw [h2] at e; cases e
        | ok s2 =>
          rw [h2] at e
          have F1 : Fits n i s1 := h.wordR hf (by rw [ByteArray.size_extract]; omega) (by rw [ByteArray.size_extract]; omega) h1
          exact ih (i + 1) (i + 1) s2 (Nat.le_refl _) (by omega) (F1.mark (by omega) h2) e (by omega)
/-- How much an answer of Read has. -/
theorem readR_bound (xs : List Nd) (t : ByteArray) (hl : xs.length ≤ 1048576) (hz : ∀ x ∈ xs, x.s.size ≤ maxLen) : (readR xs t).1.length ≤ 2097152 ∧ (readR xs t).2.1.length ≤ 400 ∧ ∀ x ∈ (readR xs t).1, x.s.size ≤ maxLen := by
  unfold readR
  split
  · split
    · rename_i h4
      cases hr : rd t 0 0 ⟨xs, [], 0, []⟩ with
      | bad h p => exact ⟨by simp only; omega, by simp, hz⟩
      | ok s =>
        have F := rd_fits xs.length 0 0 _ s h4 (Nat.le_refl _) (Nat.zero_le _) ⟨by simp, by simp, by simp, by simp, hz⟩ hr
        have f1 := F.ns
        have f2 := F.vs
        simp only
        split
        · split
          · exact ⟨by simp only; omega, by simp only; omega, F.txt⟩
          · exact ⟨by simp only; omega, by simp, hz⟩
        · exact ⟨by simp only; omega, by simp, hz⟩
    · exact ⟨by simp only; omega, by simp, hz⟩
  · exact ⟨by simp, by simp, by simp⟩
theorem Errs.mono {B B' : Nat} {w : World} (h : Errs B w) (hB : B ≤ B') : Errs B' w := fun w' hb => h w' (hb.mono hB)
theorem Pow.mono' {B B' : Nat} {w : World} (h : Pow B w) (hB : B ≤ B') : Pow B' w := fun w' hb => h w' (hb.mono hB)

set_option maxRecDepth 100000 in
set_option maxHeartbeats 3200000 in
theorem lread_any (hC : CatchR) (v : Value) (xs : List Nd) (t : ByteArray) (w : World) (R : NRow w v xs) (ht : t.size ≤ maxLen) (hT : Pow w.heap.size w) (hE : Errs w.heap.size w) :
    Calls Tryd.prog 6 #[.agg #[v], .string t] w fun e w' => e = .returned (.bool true) ∧ Below w.heap.size w w' := by
  have hTE : ∀ {u : World}, Below w.heap.size w u → Pow u.heap.size u ∧ Errs u.heap.size u := fun hb => ⟨(hT.on hb).mono' hb.size, (hE.on hb).mono hb.size⟩
  have R' := R
  obtain ⟨ao, cap, rfl, _, _, hz, _⟩ := R'
  have hB0 : Below w.heap.size w (w.alloc (Obj.cells #[.slice ao xs.length cap] 42)) := (Below.refl _ _).alloc (Nat.le_refl _) _
  by_cases hbig : 1048576 < t.size
  · have hbig' : (1048576 : Int) < t.size := by omega
    go_enter Tryd.func6, Tryd.ntmps6
    go_wp2
    go_ret
    exact ⟨rfl, hB0⟩
  have hbig' : ¬ (1048576 : Int) < t.size := by omega
  go_enter Tryd.func6, Tryd.ntmps6
  go_wp2_with fail
  refine (szpool_any _ xs _ (R.below hB0)).mono ?_
  rintro e w1 ⟨r, rfl, hr0, hr1, hr2, hb1⟩
  have hx1 : w1.heap[w.heap.size]? = some (.cells #[.slice ao xs.length cap] 42 (0, 0)) := (hb1.block _ (by simp)).trans (heap_alloc_new _ _)
  have hB1 := hB0.trans (hb1.mono hB0.size)
  have hsz1 := (Array.getElem?_eq_some_iff.1 hx1).1
  clear hB0 hb1
  by_cases hr : r < 0
  · go_wp2
    go_ret
    exact ⟨rfl, hB1⟩
  have hl := (hr2 (by omega)).1
  clear hr2
  obtain ⟨bL, bZ, hzL⟩ := readR_bound xs t hl hz
  have HRS := fun (u : World) (x : Value) (Ru : NRow u x xs) => sread_any x xs t u Ru ht
  have HRI := fun (u : World) (x : Value) (Ru : NRow u x xs) (hb : Below w.heap.size w u) => iread_any hC x xs t u Ru ht (hTE hb).1 (hTE hb).2
  unfold ReadAns at HRS HRI
  obtain ⟨L, hL⟩ : ∃ L, Hid ((readR xs t).1 = L) := ⟨_, rfl⟩
  obtain ⟨Z, hZ⟩ : ∃ Z, Hid ((readR xs t).2.1 = Z) := ⟨_, rfl⟩
  obtain ⟨H, hH⟩ : ∃ H, Hid ((readR xs t).2.2.1 = H) := ⟨_, rfl⟩
  obtain ⟨Q, hQ⟩ : ∃ Q, Hid ((readR xs t).2.2.2 = Q) := ⟨_, rfl⟩
  rw [hL.out] at bL hzL
  rw [hZ.out] at bZ
  rw [hL.out, hZ.out, hH.out, hQ.out] at HRS HRI
  clear hL hZ hH hQ
  have hlL' : L.length ≤ 4194304 := by omega
  have hlZ' : Z.length ≤ 4194304 := by omega
  have hlm := nmarked_length 1 L _ (Nat.le_refl _)
  have hc1 : w1.cell? ⟨w.heap.size, 0, none⟩ = some (.slice ao xs.length cap) := by rw [cell_of_row w1 _ 0 _ _ _ hx1]; rfl
  go_wp2_with fail
  refine (topool_any _ xs _ (R.below hB1) (by omega)).mono ?_
  rintro e w2 ⟨v2, rfl, ho2, hb2⟩
  obtain ⟨ao2, cap2, rfl⟩ := own_form ho2
  have R2 := NRow.of_own ho2 (by omega) hz
  have hB2 := hB1.trans (hb2.mono hB1.size)
  have hx2 := (hb2.block _ hsz1).trans hx1
  have hsz2 := (Array.getElem?_eq_some_iff.1 hx2).1
  clear hB1 hx1 hc1 hb2 hsz1 ho2
  go_wp2_with fail
  refine (HRS _ _ R2).mono ?_
  rintro e w4 ⟨v6, v7, rfl, ho6, ho7, hb4⟩
  obtain ⟨ao6, cap6, rfl⟩ := own_form ho6
  obtain ⟨ao7, cap7, rfl⟩ := own_form ho7
  obtain ⟨V6, hBc, hcc⟩ := Var.new hB2 hb4 ho6
  have O7 := (OwnI.mk' ho7).below ((Below.refl w4.heap.size w4).alloc (Nat.le_refl _) (Obj.cells #[.slice ao6 L.length cap6] 26))
  have hxc := (hcc.block _ hsz2).trans hx2
  have hk4 : w4.cell? ⟨w.heap.size, 0, none⟩ = some (.slice ao xs.length cap) := by rw [cell_of_row w4 _ 0 _ _ _ ((hb4.block _ hsz2).trans hx2)]; rfl
  have hw4 : w.heap.size < w4.heap.size := Nat.lt_of_lt_of_le hsz2 hb4.size
  have hlo6 : w.heap.size ≤ w2.heap.size := by omega
  clear hB2 hx2 hb4 R2 ho6 ho7 hcc hsz2
  go_wp2_with fail
  generalize w4.alloc (Obj.cells #[.slice ao6 L.length cap6] 26) = wc at V6 hBc O7 hxc ⊢
  generalize w4.heap.size = b6 at V6 O7 ⊢
  generalize w2.heap.size = lo6 at V6 O7 hlo6
  clear hk4 hw4
  have hszc := (Array.getElem?_eq_some_iff.1 hxc).1
  refine (topool_any _ xs _ (R.below hBc) (by omega)).mono ?_
  rintro e wd ⟨v8, rfl, ho8, hb8⟩
  obtain ⟨ao8, cap8, rfl⟩ := own_form ho8
  obtain ⟨V8, hBe, hce⟩ := Var.new hBc hb8 ho8
  have V6e := V6.below hce
  have O7e := O7.below hce
  have hxe := (hce.block _ hszc).trans hxc
  have hs8 : wc.heap.size ≤ wd.heap.size := hb8.size
  have hb6c : b6 ≤ wc.heap.size := Nat.le_of_lt V6.lt
  clear V6 O7 hBc hxc ho8 hb8 hce
  have k8 := V8.cell
  go_wp2_with fail
  have hle8 : wd.heap.size ≤ (wd.alloc (Obj.cells #[.slice ao8 xs.length cap8] 26)).heap.size := by simp
  generalize wd.alloc (Obj.cells #[.slice ao8 xs.length cap8] 26) = we at *
  refine (HRI _ _ (V8.row (by omega) hz) hBe).mono ?_
  rintro e wg ⟨v10, v12, rfl, ho10, ho12, hb10⟩
  obtain ⟨ao10, cap10, rfl⟩ := own_form ho10
  obtain ⟨ao12, cap12, rfl⟩ := own_form ho12
  obtain ⟨V10, hBh, hch⟩ := Var.new hBe hb10 ho10
  have O12 := (OwnI.mk' ho12).below ((Below.refl wg.heap.size wg).alloc (Nat.le_refl _) (Obj.cells #[.slice ao10 L.length cap10] 26))
  have V6h := V6e.below hch
  have O7h := O7e.below hch
  have V8h := V8.below hch
  have hxh := (hch.block _ (Array.getElem?_eq_some_iff.1 hxe).1).trans hxe
  have hl6 : b6 < wg.heap.size := Nat.lt_of_lt_of_le V6e.lt hb10.size
  have c6g : wg.cell? ⟨b6, 0, none⟩ = some (.slice ao6 L.length cap6) := (V6e.below hb10).cell
  have hs10 : we.heap.size ≤ wg.heap.size := hb10.size
  have hlo12 : w.heap.size ≤ we.heap.size := hBe.size
  clear V6e O7e V8 hBe hxe ho10 ho12 hb10 hch k8
  go_wp2_with fail
  generalize wg.alloc (Obj.cells #[.slice ao10 L.length cap10] 26) = wh at *
  generalize wg.heap.size = b10 at *
  clear c6g
  refine (eqpool_any _ _ L _ (V10.row hlL' hzL) (V6h.row hlL' hzL)).mono ?_
  rintro e wi0 ⟨rfl, hbi0⟩
  have O7i := O7h.below hbi0
  have O12i := O12.below hbi0
  have V6i := V6h.below hbi0
  have V8i := V8h.below hbi0
  have V10i := V10.below hbi0
  have hBi := hBh.trans (hbi0.mono hBh.size)
  have hxi := (hbi0.block _ (Array.getElem?_eq_some_iff.1 hxh).1).trans hxh
  clear O7h O12 V6h V8h V10 hBh hxh hbi0
  go_wp2_with fail
  refine (eqints_any _ _ Z _ (O12i.row hlZ') (O7i.row hlZ')).mono ?_
  rintro e wi ⟨rfl, hbi⟩
  have O7 := O7i.below hbi
  have O12 := O12i.below hbi
  have V6f := V6i.below hbi
  have V8f := V8i.below hbi
  have V10f := V10i.below hbi
  have hBf := hBi.trans (hbi.mono hBi.size)
  have hxf := (hbi.block _ (Array.getElem?_eq_some_iff.1 hxi).1).trans hxi
  have hszf := (Array.getElem?_eq_some_iff.1 hxf).1
  clear O7i O12i V6i V8i V10i hBi hxi hbi
  have k8 := V8f.cell
  have lt8 := V8f.lt
  have jf : wi.cell? ⟨w.heap.size, 0, none⟩ = some (.slice ao xs.length cap) := by rw [cell_of_row wi _ 0 _ _ _ hxf]; rfl
  go_wp2_with fail
  go_region_held (fun w' => w'.cell? ⟨wd.heap.size, 0, none⟩ = some (.slice ao8 xs.length cap8) ∧ w'.cell? ⟨w.heap.size, 0, none⟩ = some (.slice ao xs.length cap)) (first | exact ⟨k5, j5⟩ | exact ⟨k4, j4⟩ | go_keep) (first
    | (go_at_call 21; refine (topool_any _ xs _ ?_ ?_).mono ?_; exact R.below hBf.drew; omega; rintro e wk ⟨vk, rfl, hok, hbk⟩; obtain ⟨aok, capk, rfl⟩ := own_form hok
       have hb34 : Below wi.heap.size wi wk := step_drew hbk
       have k4 := (hb34.cell (p := ⟨wd.heap.size, 0, none⟩) lt8).trans k8
       have j4 := (hb34.cell (p := ⟨w.heap.size, 0, none⟩) hszf).trans jf
       have R4 := NRow.of_own hok (by omega) hz
       have R8 := (V8f.below hb34).row (by omega) hz)
    | (go_at_call 22; refine (eqpool_any _ _ xs _ ?_ ?_).mono ?_; exact R8; exact R4; rintro e w5' ⟨rfl, hb5⟩
       have k5 := (hb5.cell (p := ⟨wd.heap.size, 0, none⟩) (Nat.lt_of_lt_of_le lt8 hb34.size)).trans k4
       have j5 := (hb5.cell (p := ⟨w.heap.size, 0, none⟩) (Nat.lt_of_lt_of_le hszf hb34.size)).trans j4))
  have hbf5 := hb34.trans (hb5.mono hb34.size)
  have O7g := O7.below hbf5
  have O12g := O12.below hbf5
  have V6 := V6f.below hbf5
  have V8 := V8f.below hbf5
  have V10 := V10f.below hbf5
  have hB := hBf.trans (hbf5.mono hBf.size)
  have hx := (hbf5.block _ (Array.getElem?_eq_some_iff.1 hxf).1).trans hxf
  clear O7 O12 V6f V8f V10f hBf hxf k8 lt8 jf k4 j4 R4 R8 k5 j5 hb34 hbk hb5 hok hbf5
  have k8 := V8.cell
  go_wp2_with fail
  refine (markpool_any _ 1 wc.heap.size xs _ V8.2.1 (by omega) (by omega) (by omega)).mono ?_
  rintro e w8 ⟨rfl, _, hg8⟩
  have O7h := O7g.keptN V8 hg8
  have O12h := O12g.keptN V8 hg8
  have V6h := V6.kept V8 hg8 (Or.inl (by omega))
  have V10h := V10.kept V8 hg8 (Or.inr (by omega))
  have hxh := V8.block hg8 hx (by decide)
  have hBh := below_mark hB V8 hg8 (by omega) hB.size
  clear O7g O12g V6 V8 V10 hB hx hg8 k8
  have hkb0 : ¬ (1 + 5 * (xs.length : Int)) < 0 := by omega
  have c10 := V10h.cell
  have c6 := V6h.cell
  go_wp2_with fail
  refine (eqpool_any _ _ L _ (V10h.row hlL' hzL) (V6h.row hlL' hzL)).mono ?_
  rintro e wa0 ⟨rfl, hba0⟩
  have O7a := O7h.below hba0
  have O12a := O12h.below hba0
  have V6a := V6h.below hba0
  have V10a := V10h.below hba0
  have hBa := hBh.trans (hba0.mono hBh.size)
  have hxa := (hba0.block _ (Array.getElem?_eq_some_iff.1 hxh).1).trans hxh
  clear O7h O12h V6h V10h hBh hxh hba0 c10 c6
  go_wp2_with fail
  refine (eqints_any _ _ Z _ (O12a.row hlZ') (O7a.row hlZ')).mono ?_
  rintro e wa ⟨rfl, hba⟩
  have O7h := O7a.below hba
  have O12h := O12a.below hba
  have V6h := V6a.below hba
  have V10h := V10a.below hba
  have hBh := hBa.trans (hba.mono hBa.size)
  have hxh := (hba.block _ (Array.getElem?_eq_some_iff.1 hxa).1).trans hxa
  clear O7a O12a V6a V10a hBa hxa hba
  have c10 := V10h.cell
  go_wp2_with fail
  refine (markpool_any _ 1 we.heap.size L _ V10h.2.1 hlL' (by omega) (by omega)).mono ?_
  rintro e wb ⟨rfl, hob, hgb⟩
  have O7 := O7h.keptN V10h hgb
  have O12 := O12h.keptN V10h hgb
  have V6 := V6h.kept V10h hgb (Or.inl (by omega))
  have V10 := V10h.marked (ys := nmarked 1 L L.length) hgb (by rw [hlm]; exact hob)
  have hx := V10h.block hgb hxh (by decide)
  have hB := below_mark hBh V10h hgb (by omega) hBh.size
  clear O7h O12h V6h V10h hBh hxh hob hgb c10
  have hk1 : (0 : Int) ≤ 1 + 5 * L.length := by omega
  have hk1' : (1 : Int) + 5 * L.length ≤ 2305843009213693952 := by omega
  go_wp2_with fail
  refine (markints_any _ _ we.heap.size Z _ O12.1 hlZ' hk1 hk1').mono ?_
  rintro e wm0 ⟨rfl, hom, hgm⟩
  have hlmI := imarked_length (1 + 5 * (L.length : Int)) Z _ (Nat.le_refl _)
  have O12m : OwnI wm0 we.heap.size b10 (.slice ao12 Z.length cap12) (imarked (1 + 5 * (L.length : Int)) Z Z.length) := ⟨by rw [hlmI]; exact hom, O12.2⟩
  have O7h := O7.kept O12 hgm (Or.inl (by omega))
  have V6h := V6.keptI O12 hgm
  have V10h := V10.keptI O12 hgm
  have hxh := O12.block hgm hx (by decide)
  have hBh := below_markI hB O12 hgm hlo12 hB.size
  clear O7 O12 V6 V10 hx hB hom hgm
  have hzM := nmarked_ok 1 L (by omega) hlL'
  have c10 := V10h.cell
  go_wp2_with fail
  refine (heldpool_any _ 1 L _ (V10h.row (by omega) hzM) hlL' (by omega) (by omega)).mono ?_
  rintro e wc2 ⟨rfl, hbc2⟩
  have O7 := O7h.below hbc2
  have O12 := O12m.below hbc2
  have V6 := V6h.below hbc2
  have V10 := V10h.below hbc2
  have hB := hBh.trans (hbc2.mono hBh.size)
  have hx := (hbc2.block _ (Array.getElem?_eq_some_iff.1 hxh).1).trans hxh
  clear O7h O12m V6h V10h hBh hxh hbc2 c10
  have hk2 : ¬ (1 + 5 * (L.length : Int)) < 0 := by omega
  go_wp2_with fail
  refine (heldints_any _ (1 + 5 * (L.length : Int)) Z _ (O12.row (by omega)) hlZ' hk1 hk1').mono ?_
  rintro e wd2 ⟨rfl, hwd2⟩
  subst hwd2
  have hk3 : ¬ (1 + 5 * (L.length : Int) + Z.length) < 0 := by omega
  have hcd : wd2.cell? ⟨w.heap.size, 0, none⟩ = some (.slice ao xs.length cap) := by rw [cell_of_row wd2 _ 0 _ _ _ hx]; rfl
  go_wp2_with fail
  refine (topool_any _ xs _ (R.below hB) (by omega)).mono ?_
  rintro e wj ⟨vj, rfl, hoj, hbj⟩
  obtain ⟨aoj, capj, rfl⟩ := own_form hoj
  have Rj := NRow.of_own hoj (by omega) hz
  have O7h := O7.below hbj
  have O12h := O12.below hbj
  have V6h := V6.below hbj
  have V10h := V10.below hbj
  have hBh := hB.trans (hbj.mono hB.size)
  clear O7 O12 V6 V10 hB hx hcd hoj hbj
  go_wp2_with fail
  refine (HRI _ _ Rj hBh).mono ?_
  rintro e wm ⟨vm, vn, rfl, hom, hon, hbm⟩
  obtain ⟨aom, capm, rfl⟩ := own_form hom
  obtain ⟨aon, capn, rfl⟩ := own_form hon
  obtain ⟨V15, hBn, hcn⟩ := Var.new hBh hbm hom
  have O16 := (OwnI.mk' hon).below ((Below.refl wm.heap.size wm).alloc (Nat.le_refl _) (Obj.cells #[.slice aom L.length capm] 26))
  have O7n := O7h.below hcn
  have O12n := O12h.below hcn
  have V6n := V6h.below hcn
  have V10n := V10h.below hcn
  have c6m : wm.cell? ⟨b6, 0, none⟩ = some (.slice ao6 L.length cap6) := (V6h.below hbm).cell
  have hl6m : b6 < wm.heap.size := Nat.lt_of_lt_of_le V6h.lt hbm.size
  clear O7h O12h V6h V10h hBh Rj hom hon hbm hcn
  go_wp2_with fail
  refine (eqpool_any _ _ L _ (V15.row hlL' hzL) (V6n.row hlL' hzL)).mono ?_
  rintro e wn ⟨rfl, hbn⟩
  have O7 := O7n.below hbn
  have O12 := O12n.below hbn
  have O16h := O16.below hbn
  have V10 := V10n.below hbn
  have hB := hBn.trans (hbn.mono hBn.size)
  clear O7n O12n O16 V15 V6n V10n hBn hbn c6m
  go_wp2_with fail
  refine (eqints_any _ _ Z _ (O16h.row hlZ') (O7.row hlZ')).mono ?_
  rintro e wp ⟨rfl, hbp⟩
  have O12h := O12.below hbp
  have V10h := V10.below hbp
  have hBh := hB.trans (hbp.mono hB.size)
  clear O7 O12 O16h V10 hB hbp
  have c10 := V10h.cell
  go_wp2_with fail
  refine (heldpool_any _ 1 L _ (V10h.row (by omega) hzM) hlL' (by omega) (by omega)).mono ?_
  rintro e wo ⟨rfl, hbo⟩
  have O12 := O12h.below hbo
  have hBo := hBh.trans (hbo.mono hBh.size)
  clear O12h V10h c10 hBh hbo
  go_wp2_with fail
  refine (heldints_any _ (1 + 5 * (L.length : Int)) Z _ (O12.row (by omega)) hlZ' hk1 hk1').mono ?_
  rintro e wq ⟨rfl, hwq⟩
  subst hwq
  go_wp2
  go_ret
  exact ⟨rfl, hBo⟩
end Go.Proofs.YtmgjefkelohocaaDoor
