/-
  The law FnExactValueRead, walked: at every text the law returns true. The variable errors.errorType reads as it is laid.
-/
import Derived.Test.YtbgkofinmdpmcaaDoorTo2M
import Derived.Test.YtbgkofinmdpmcaaDoorLMakeM
namespace Go.Proofs.YtbgkofinmdpmcaaDoor
open Go.RowKit

theorem vr_bound (s : ByteArray) : (vrL (sb s)).length ≤ 3000 ∧ ∀ x ∈ vrL (sb s), x.s.size ≤ maxLen := by
  cases h : vrR (sb s) with
  | none => rw [(vr_no h).1]; exact ⟨by simp, by intro x hx; cases hx⟩
  | some xs =>
    rw [(vr_yes h).1]
    have hp := (vr_pool (sb_wf s) h).1
    exact ⟨poolB_len hp, ndok_max (pool_ndok hp)⟩

set_option maxRecDepth 100000 in
set_option maxHeartbeats 3200000 in
theorem lvread_any (s : ByteArray) (w : World) (hg : ErrT w) :
    Calls Tryd.prog 3 #[.string s] w fun e w' => e = .returned (.bool true) ∧ Below w.heap.size w w' := by
  by_cases hbig : 1048576 < s.size
  · have hbig' : (1048576 : Int) < s.size := by omega
    go_enter Tryd.func3, Tryd.ntmps3
    go_wp2
    go_ret
    exact ⟨rfl, Below.refl _ _⟩
  have hbig' : ¬ (1048576 : Int) < s.size := by omega
  obtain ⟨hlL, hzL⟩ := vr_bound s
  have HRS := fun (u : World) => svread_any s u (by omega)
  have HRI := fun (u : World) (hb : Below w.heap.size w u) => ivread_any s u (by omega) (hg.below hb (Nat.le_refl _))
  unfold VrAns at HRS HRI
  obtain ⟨L, hL⟩ : ∃ L, Hid (vrL (sb s) = L) := ⟨_, rfl⟩
  obtain ⟨I, hI⟩ : ∃ I, Hid (vrI (sb s) = I) := ⟨_, rfl⟩
  obtain ⟨O, hO⟩ : ∃ O, Hid (vrB (sb s) = O) := ⟨_, rfl⟩
  rw [hL.out] at hlL hzL
  rw [hL.out, hI.out, hO.out] at HRS HRI
  clear hL hI hO
  have hlL' : L.length ≤ 4194304 := by omega
  have hlm := nmarked_length 1 L _ (Nat.le_refl _)
  have hk2 : ¬ (1 + 5 * (L.length : Int)) < 0 := by omega
  have hzM := nmarked_ok 1 L (by omega) hlL'
  go_enter Tryd.func3, Tryd.ntmps3
  go_wp2_with fail
  refine (HRS _).mono ?_
  rintro e w1 ⟨⟨v1, rfl, ho1⟩, hb1⟩
  obtain ⟨ao1, cap1, rfl⟩ := own_form ho1
  obtain ⟨V6, hBc, hcc⟩ := Var.new (Below.refl _ w) hb1 ho1
  clear hcc
  go_wp2_with fail
  generalize w1.alloc (Obj.cells #[.slice ao1 L.length cap1] 24) = wc at V6 hBc ⊢
  have hs1 := hb1.size
  generalize w1.heap.size = b6 at V6 hs1 ⊢
  clear ho1 hb1
  refine (HRI _ hBc).mono ?_
  rintro e w2 ⟨⟨v2, rfl, ho2⟩, hb2⟩
  obtain ⟨ao2, cap2, rfl⟩ := own_form ho2
  obtain ⟨V10, hBd, hcd⟩ := Var.new hBc hb2 ho2
  have V6d := V6.below hcd
  have hb6 := V6.lt
  have hs2 := hb2.size
  have lt6 : b6 < w2.heap.size := Nat.lt_of_lt_of_le hb6 hs2
  have k6 : w2.cell? ⟨b6, 0, none⟩ = some (.slice ao1 L.length cap1) := (V6.below hb2).cell
  clear V6 hcd ho2 hb2
  go_wp2_with fail
  generalize w2.alloc (Obj.cells #[.slice ao2 L.length cap2] 24) = wd at V10 hBd V6d ⊢
  clear lt6
  generalize w2.heap.size = b10 at V10 hs2 ⊢
  refine (eqpool_any _ _ L _ (V10.row hlL' hzL) (V6d.row hlL' hzL)).mono ?_
  rintro e we ⟨rfl, hbe⟩
  have V6e := V6d.below hbe
  have V10e := V10.below hbe
  have hBe := hBd.trans (hbe.mono hBd.size)
  clear V6d V10 hBd hbe k6
  have c10 := V10e.cell
  go_wp2_with fail
  refine (markpool_any _ 1 wc.heap.size L _ V10e.2.1 hlL' (by omega) (by omega)).mono ?_
  rintro e wf ⟨rfl, hof, hgf⟩
  have V6f := V6e.kept V10e hgf (Or.inl (Nat.le_refl _))
  have V10f := V10e.marked (ys := nmarked 1 L L.length) hgf (by rw [hlm]; exact hof)
  have hBf := below_mark hBe V10e hgf hBc.size hBe.size
  clear V6e V10e hBe hof hgf c10
  have c10 := V10f.cell
  go_wp2_with fail
  refine (heldpool_any _ 1 L _ (V10f.row (by omega) hzM) hlL' (by omega) (by omega)).mono ?_
  rintro e wg ⟨rfl, hbg⟩
  have V6g := V6f.below hbg
  have V10g := V10f.below hbg
  have hBg := hBf.trans (hbg.mono hBf.size)
  clear V6f V10f hBf hbg c10
  go_wp2_with fail
  refine (HRI _ hBg).mono ?_
  rintro e wh ⟨⟨v3, rfl, ho3⟩, hb3⟩
  obtain ⟨ao3, cap3, rfl⟩ := own_form ho3
  obtain ⟨V15, hBi, hci⟩ := Var.new hBg hb3 ho3
  have V6i := V6g.below hci
  have V10i := V10g.below hci
  have k6 : wh.cell? ⟨b6, 0, none⟩ = some (.slice ao1 L.length cap1) := (V6g.below hb3).cell
  have lt6 : b6 < wh.heap.size := Nat.lt_of_lt_of_le V6g.lt hb3.size
  clear V6g V10g hBg hci ho3 hb3
  go_wp2_with fail
  refine (eqpool_any _ _ L _ (V15.row hlL' hzL) (V6i.row hlL' hzL)).mono ?_
  rintro e wj ⟨rfl, hbj⟩
  have V10j := V10i.below hbj
  have hBj := hBi.trans (hbj.mono hBi.size)
  clear V6i V10i V15 hBi hbj k6
  have c10 := V10j.cell
  go_wp2_with fail
  refine (heldpool_any _ 1 L _ (V10j.row (by omega) hzM) hlL' (by omega) (by omega)).mono ?_
  rintro e wk ⟨rfl, hbk⟩
  have hBk := hBj.trans (hbk.mono hBj.size)
  go_wp2
  go_ret
  exact ⟨rfl, hBk⟩
end Go.Proofs.YtbgkofinmdpmcaaDoor
