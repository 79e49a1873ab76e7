/-
  The law FnExactCopy, walked: at every argument the law returns true.
-/
import Derived.Test.YtbdgdeoecnhcdabLListOf
import Derived.Test.YtbdgdeoecnhcdabSzGen
import Derived.Test.YtbdgdeoecnhcdabICopy8
import Derived.Test.YtbdgdeoecnhcdabSCopy8
import Derived.Deep.RegionHeld
namespace Go.Proofs.Ytbdgdeoecnhcdab
open Go.RowKit

theorem its_ok7 (xs : List Nd) (bs : List Bool) (k : Nat) (hz : ∀ y ∈ xs, y.s.size ≤ maxLen) : ∀ p ∈ its xs bs k, p.2.s.size ≤ maxLen := by
  induction xs generalizing k with
  | nil => simp [its]
  | cons x xs ih =>
    intro p hp
    have ih := ih (k + 1) (fun y hy => hz y (List.mem_cons_of_mem _ hy))
    simp only [its] at hp
    split at hp
    · rcases List.mem_cons.1 hp with rfl | hp
      · exact hz x List.mem_cons_self
      · exact ih p hp
    · exact ih p hp
theorem fold_ok7 (a : Nat) (l : List (Nat × Nd)) (s : List Nd × List Int) (hl : ∀ p ∈ l, p.2.s.size ≤ maxLen) (hs : ∀ y ∈ s.1, y.s.size ≤ maxLen) : ∀ y ∈ (l.foldl (mvS a) s).1, y.s.size ≤ maxLen := by
  induction l generalizing s with
  | nil => exact hs
  | cons p l ih =>
    rw [List.foldl_cons]
    refine ih _ (fun q hq => hl q (List.mem_cons_of_mem _ hq)) (fun y hy => ?_)
    simp only [mvS, List.mem_append, List.mem_singleton] at hy
    rcases hy with hy | rfl
    · exact hs y hy
    · exact hl p List.mem_cons_self
theorem cyL_ok (ps xs : List Nd) (v : Int) (hp : ∀ y ∈ ps, y.s.size ≤ maxLen) (hz : ∀ y ∈ xs, y.s.size ≤ maxLen) : ∀ y ∈ cyL ps xs v, y.s.size ≤ maxLen := by
  unfold cyL
  split
  · split
    · intro y hy
      rcases List.mem_append.1 hy with hy | hy
      · exact hp y hy
      · exact fold_ok7 ps.length _ _ (its_ok7 xs _ 0 hz) (by simp) y hy
    · exact hp
  · simp
theorem cyL_len (ps xs : List Nd) (v : Int) : (cyL ps xs v).length ≤ ps.length + xs.length := by
  unfold cyL
  split
  · split
    · rw [List.length_append]; have := mvN_len ps.length xs [v]; omega
    · omega
  · simp

theorem two7 {w w' : World} {a b : Nat} {u v : Value} (h : w.cell? ⟨a, 0, none⟩ = some u ∧ w.cell? ⟨b, 0, none⟩ = some v) (hb : Below w.heap.size w w') (ha : a < w.heap.size) (hb' : b < w.heap.size) : w'.cell? ⟨a, 0, none⟩ = some u ∧ w'.cell? ⟨b, 0, none⟩ = some v :=
  ⟨(hb.cell (p := ⟨a, 0, none⟩) ha).trans h.1, (hb.cell (p := ⟨b, 0, none⟩) hb').trans h.2⟩
theorem two7set {w : World} {a b c : Nat} {u v x : Value} (h : w.cell? ⟨a, 0, none⟩ = some u ∧ w.cell? ⟨b, 0, none⟩ = some v) (ha : a ≠ c) (hb : b ≠ c) : (w.setCell ⟨c, 0, none⟩ x).cell? ⟨a, 0, none⟩ = some u ∧ (w.setCell ⟨c, 0, none⟩ x).cell? ⟨b, 0, none⟩ = some v :=
  ⟨(World.cell?_of_block (w := w) (Below.heap_setCell w ⟨c, 0, none⟩ x a ha)).trans h.1, (World.cell?_of_block (w := w) (Below.heap_setCell w ⟨c, 0, none⟩ x b hb)).trans h.2⟩

set_option maxRecDepth 100000 in
set_option maxHeartbeats 6400000 in
theorem lcopy7_any (vp vq : Value) (ps xs : List Nd) (v : Int) (w : World) (RP : NRow w vp ps) (RQ : NRow w vq xs) :
    Calls Try.prog 3 #[.agg #[vp], .agg #[vq], .int .i64 v] w fun e w' => e = .returned (.bool true) ∧ Below w.heap.size w w' := by
  have RP' := RP
  obtain ⟨ap, cp, rfl, _, _, hzp, _⟩ := RP'
  have RQ' := RQ
  obtain ⟨aq, cq, rfl, _, _, hzq, _⟩ := RQ'
  have hB0 : Below w.heap.size w ((w.alloc (Obj.cells #[.slice ap ps.length cp] 24)).alloc (Obj.cells #[.slice aq xs.length cq] 24)) := below2 w _ _
  have hx0 := old2 w (Obj.cells #[.slice ap ps.length cp] 24) (Obj.cells #[.slice aq xs.length cq] 24)
  have hy0 := heap_alloc2_new w (Obj.cells #[.slice ap ps.length cp] 24) (Obj.cells #[.slice aq xs.length cq] 24)
  go_enter Try.func3, Try.ntmps3
  go_wp2_with fail
  generalize (w.alloc (Obj.cells #[.slice ap ps.length cp] 24)).alloc (Obj.cells #[.slice aq xs.length cq] 24) = W0 at *
  refine (szpool_gen 1048576 (by omega) (by omega) _ ps _ (RP.below hB0)).mono ?_
  rintro e w1 ⟨r, rfl, hr0, hr1, hr2, hb1⟩
  have hl0 := (Array.getElem?_eq_some_iff.1 hy0).1
  have hB1 := hB0.trans (hb1.mono hB0.size)
  have hx1 := (hb1.block _ (by omega)).trans hx0
  have hy1 := (hb1.block _ hl0).trans hy0
  have hl1 := (Array.getElem?_eq_some_iff.1 hy1).1
  have cy1 : w1.cell? ⟨w.heap.size + 1, 0, none⟩ = some (.slice aq xs.length cq) := by rw [cell_of_row w1 _ 0 _ _ _ hy1]; rfl
  clear hB0 hb1 hx0 hy0 hl0
  by_cases hr : r < 0
  · go_wp2
    go_ret
    exact ⟨rfl, hB1⟩
  have hlp := (hr2 (by omega)).1
  clear hr2
  go_wp2_with fail
  refine (szpool_gen r (by omega) hr1 _ xs _ (RQ.below hB1)).mono ?_
  rintro e W ⟨r', rfl, hs0, hs1, hs2, hb2⟩
  have hB := hB1.trans (hb2.mono hB1.size)
  have hx := (hb2.block _ (by omega)).trans hx1
  have hy := (hb2.block _ hl1).trans hy1
  have hl := (Array.getElem?_eq_some_iff.1 hy).1
  clear hB1 hb2 hx1 hy1 hl1 cy1
  by_cases hrr : r' < 0
  · go_wp2
    go_ret
    exact ⟨rfl, hB⟩
  have hlq := (hs2 (by omega)).1
  clear hs2
  have hzL := cyL_ok ps xs v hzp hzq
  have hlL0 := cyL_len ps xs v
  have IC := fun (vp vq : Value) (w : World) (RP : NRow w vp ps) (RQ : NRow w vq xs) => icopy7_any vp vq ps xs v w RP RQ
  have SC := fun (vp vq : Value) (w : World) (RP : NRow w vp ps) (RQ : NRow w vq xs) => scopy7_any vp vq ps xs v w RP RQ
  generalize cyL ps xs v = Q at *
  generalize cyI ps xs v = I at *
  have hlQ : Q.length ≤ 4194304 := by omega
  have hlm := nmarked_length 1 Q _ (Nat.le_refl _)
  have cX : W.cell? ⟨w.heap.size, 0, none⟩ = some (.slice ap ps.length cp) := by rw [cell_of_row W _ 0 _ _ _ hx]; rfl
  have cY : W.cell? ⟨w.heap.size + 1, 0, none⟩ = some (.slice aq xs.length cq) := by rw [cell_of_row W _ 0 _ _ _ hy]; rfl
  have hlX : w.heap.size < W.heap.size := by omega
  go_upto_region 8 with fail
  go_cut [8, 9] from 29 (fun s8 s9 wx => ∃ b6 lo6 hi6 v6, s8 = .pointer (some ⟨b6, 0, none⟩) ∧ s9 = .int .i64 I ∧ W.heap.size ≤ lo6 ∧ Var wx b6 lo6 hi6 v6 Q ∧ Below W.heap.size W wx)
  case first =>
    have sS := (⟨cX, cY⟩ : W.cell? ⟨w.heap.size, 0, none⟩ = some (.slice ap ps.length cp) ∧ W.cell? ⟨w.heap.size + 1, 0, none⟩ = some (.slice aq xs.length cq))
    clear cX cY
    go_region_held (fun w' => w'.cell? ⟨w.heap.size, 0, none⟩ = some (.slice ap ps.length cp) ∧ w'.cell? ⟨w.heap.size + 1, 0, none⟩ = some (.slice aq xs.length cq)) (first | exact s5 | exact sq | exact sp | exact two7set s5 (by omega) (by omega) | go_keep) (first
      | (go_at_call 7; refine (topool_any (.slice ap ps.length cp) ps _ ?_ ?_).mono ?_; (first | exact RP.below hB.drew | exact RP.below (hB.drew.alloc hB.size _) | exact RP.below (hB.trans (hbQ.mono hB.size)) | exact RP.below ((hB.trans (hbQ.mono hB.size)).alloc (hB.trans (hbQ.mono hB.size)).size _)); omega; rintro e wp ⟨vp', rfl, hop, hbp⟩
         obtain ⟨ap2, cp2, rfl⟩ := own_form hop
         have hbP : Below W.heap.size W wp := (by first | exact step_drew hbp | exact step_drewA hbp | exact hbQ.trans (hbp.mono hbQ.size) | exact hbQ.trans ((step_alloc hbp).mono hbQ.size))
         have TP := NRow.of_own hop (by omega) hzp
         have sp := two7 sS hbP hlX hl
         have zp := hbP.size
         try first | have TQ' := TQ.below hbp | have TQ' := TQ.below (step_alloc hbp)
         try first | have qp : wp.heap[W.heap.size]? = some (.cells #[.slice none 0 0] 28 (0, 0)) := block_new (w2 := W.drew) hbp | have qp := block_new hbp | have qp := (hbp.block _ (Array.getElem?_eq_some_iff.1 qq).1).trans qq)
      | (go_at_call 7; refine (topool_any (.slice aq xs.length cq) xs _ ?_ ?_).mono ?_; (first | exact RQ.below hB.drew | exact RQ.below (hB.drew.alloc hB.size _) | exact RQ.below (hB.trans (hbP.mono hB.size)) | exact RQ.below ((hB.trans (hbP.mono hB.size)).alloc (hB.trans (hbP.mono hB.size)).size _)); omega; rintro e wq ⟨vq', rfl, hoq, hbq⟩
         obtain ⟨aq2, cq2, rfl⟩ := own_form hoq
         have hbQ : Below W.heap.size W wq := (by first | exact step_drew hbq | exact step_drewA hbq | exact hbP.trans (hbq.mono hbP.size) | exact hbP.trans ((step_alloc hbq).mono hbP.size))
         have TQ := NRow.of_own hoq (by omega) hzq
         have sq := two7 sS hbQ hlX hl
         have zq := hbQ.size
         try first | have TP' := TP.below hbq | have TP' := TP.below (step_alloc hbq)
         try first | have qq : wq.heap[W.heap.size]? = some (.cells #[.slice none 0 0] 28 (0, 0)) := block_new (w2 := W.drew) hbq | have qq := block_new hbq | have qq := (hbq.block _ (Array.getElem?_eq_some_iff.1 qp).1).trans qp)
      | (go_at_call 6; refine (SC _ _ _ ?_ ?_).mono ?_; (first | exact TP' | exact TP | exact TP'.below ((Below.refl _ _).alloc (Nat.le_refl _) _) | exact TP.below ((Below.refl _ _).alloc (Nat.le_refl _) _)); (first | exact TQ' | exact TQ | exact TQ'.below ((Below.refl _ _).alloc (Nat.le_refl _) _) | exact TQ.below ((Below.refl _ _).alloc (Nat.le_refl _) _)); rintro e w5 ⟨v5, rfl, ho5, hb5⟩
         obtain ⟨ao5, cap5, rfl⟩ := own_form ho5
         have h25 : Below W.heap.size W w5 := (by first | exact hbQ.trans (hb5.mono hbQ.size) | exact hbP.trans (hb5.mono hbP.size) | exact hbQ.trans ((step_alloc hb5).mono hbQ.size) | exact hbP.trans ((step_alloc hb5).mono hbP.size))
         have z5 := h25.size
         have ho5' := own_mono (B' := W.heap.size) ho5 (by first | exact hbQ.size | exact hbP.size | (simp; omega))
         have s5 := two7 sS h25 hlX hl
         try first | have q5 := block_new hb5 | have q5 := (hb5.block _ (Array.getElem?_eq_some_iff.1 qq).1).trans qq | have q5 := (hb5.block _ (Array.getElem?_eq_some_iff.1 qp).1).trans qp
         try have k5 : w5.cell? ⟨_, 0, none⟩ = some (.slice none 0 0) := (cell_of_row w5 _ 0 _ _ _ q5)
         try have l5 := (frozen_of_row w5 _ 0 _ _ q5)))
    all_goals
      go_wp2_with fail
      go_meet
      case rel =>
        first
          | (obtain ⟨vr, b1, b2⟩ := Var.put hB h25 q5 ho5' (by omega)
             exact ⟨_, _, _, _, rfl, rfl, Nat.le_refl _, vr, b2⟩)
          | (obtain ⟨vr, b1, b2⟩ := Var.new hB h25 ho5'
             exact ⟨_, _, _, _, rfl, rfl, Nat.le_refl _, vr, b2⟩)
  case rest =>
    obtain ⟨b6, lo6, hi6, v6, rfl, rfl, hlo6, V6, hBWc⟩ := hcut
    obtain ⟨ao6, cap6, rfl⟩ := own_form V6.2.1
    have hBc := hB.trans (hBWc.mono hB.size)
    have hxc := (hBWc.block _ hlX).trans hx
    have hyc := (hBWc.block _ hl).trans hy
    have hlc := (Array.getElem?_eq_some_iff.1 hyc).1
    have ccx : wc.cell? ⟨w.heap.size, 0, none⟩ = some (.slice ap ps.length cp) := by rw [cell_of_row wc _ 0 _ _ _ hxc]; rfl
    have hhi6 := V6.2.2.2
    have hloW : w.heap.size ≤ lo6 := Nat.le_trans hB.size hlo6
    clear hx hy hB hBWc SC cX cY hlX
    clear hl
    go_wp2_with fail
    refine (topool_any _ ps _ (RP.below hBc) (by omega)).mono ?_
    rintro e wd ⟨v8, rfl, ho8, hb8⟩
    obtain ⟨ao8, cap8, rfl⟩ := own_form ho8
    obtain ⟨V8, hBe, hce⟩ := Var.new hBc hb8 ho8
    have V6e := V6.below hce
    have hxe := (hce.block _ (by omega)).trans hxc
    have hye := (hce.block _ hlc).trans hyc
    have hs8 : wc.heap.size ≤ wd.heap.size := hb8.size
    have hle := (Array.getElem?_eq_some_iff.1 hye).1
    have cyd : wd.cell? ⟨w.heap.size + 1, 0, none⟩ = some (.slice aq xs.length cq) := by rw [cell_of_row wd _ 0 _ _ _ ((hb8.block _ hlc).trans hyc)]; rfl
    have hld : w.heap.size + 1 < wd.heap.size := by omega
    clear V6 hBc hxc hyc ho8 hb8 hce ccx
    go_wp2_with fail
    have hle8 : wd.heap.size < (wd.alloc (Obj.cells #[.slice ao8 ps.length cap8] 28)).heap.size := by simp
    generalize wd.alloc (Obj.cells #[.slice ao8 ps.length cap8] 28) = we at *
    clear cyd
    refine (topool_any _ xs _ (RQ.below hBe) (by omega)).mono ?_
    rintro e wf ⟨v9, rfl, ho9, hb9⟩
    obtain ⟨ao9, cap9, rfl⟩ := own_form ho9
    obtain ⟨V9, hBg, hcg⟩ := Var.new hBe hb9 ho9
    have V6g := V6e.below hcg
    have V8g := V8.below hcg
    have hxg := (hcg.block _ (by omega)).trans hxe
    have hyg := (hcg.block _ hle).trans hye
    have hs9 : we.heap.size ≤ wf.heap.size := hb9.size
    have k8f : wf.cell? ⟨wd.heap.size, 0, none⟩ = some (.slice ao8 ps.length cap8) := (V8.below hb9).cell
    have hl8f : wd.heap.size < wf.heap.size := by omega
    clear V6e V8 hBe hxe hye ho9 hb9 hcg
    go_wp2_with fail
    have hle9 : wf.heap.size < (wf.alloc (Obj.cells #[.slice ao9 xs.length cap9] 28)).heap.size := by simp
    generalize wf.alloc (Obj.cells #[.slice ao9 xs.length cap9] 28) = wg at *
    clear k8f
    refine (IC _ _ _ (V8g.row (by omega) hzp) (V9.row (by omega) hzq)).mono ?_
    rintro e wh ⟨v10, rfl, ho10, hb10⟩
    obtain ⟨ao10, cap10, rfl⟩ := own_form ho10
    obtain ⟨V10, hBi, hci⟩ := Var.new hBg hb10 ho10
    have V6i := V6g.below hci
    have V8i := V8g.below hci
    have V9i := V9.below hci
    have hxi := (hci.block _ (Array.getElem?_eq_some_iff.1 hxg).1).trans hxg
    have hyi := (hci.block _ (Array.getElem?_eq_some_iff.1 hyg).1).trans hyg
    have hs10 : wg.heap.size ≤ wh.heap.size := hb10.size
    have c6h : wh.cell? ⟨b6, 0, none⟩ = some (.slice ao6 Q.length cap6) := (V6g.below hb10).cell
    have hl6h : b6 < wh.heap.size := Nat.lt_of_lt_of_le V6g.lt hb10.size
    clear V6g V8g V9 hBg hxg hyg ho10 hb10 hci
    go_wp2_with fail
    generalize wh.alloc (Obj.cells #[.slice ao10 Q.length cap10] 28) = wi at *
    clear c6h
    refine (eqpool_any _ _ Q _ (V10.row hlQ hzL) (V6i.row hlQ hzL)).mono ?_
    rintro e wj ⟨rfl, hbj⟩
    have V6 := V6i.below hbj
    have V8 := V8i.below hbj
    have V9 := V9i.below hbj
    have V10j := V10.below hbj
    have hBj := hBi.trans (hbj.mono hBi.size)
    have hxj := (hbj.block _ (Array.getElem?_eq_some_iff.1 hxi).1).trans hxi
    have hyj := (hbj.block _ (Array.getElem?_eq_some_iff.1 hyi).1).trans hyi
    have hlxj := (Array.getElem?_eq_some_iff.1 hxj).1
    have hlyj := (Array.getElem?_eq_some_iff.1 hyj).1
    clear V6i V8i V9i V10 hBi hxi hyi hbj
    have k8 := V8.cell
    have lt8 := V8.lt
    have jf : wj.cell? ⟨w.heap.size, 0, none⟩ = some (.slice ap ps.length cp) := by rw [cell_of_row wj _ 0 _ _ _ hxj]; rfl
    go_wp2_with fail
    go_region_held (fun w' => w'.cell? ⟨wd.heap.size, 0, none⟩ = some (.slice ao8 ps.length cap8) ∧ w'.cell? ⟨w.heap.size, 0, none⟩ = some (.slice ap ps.length cp)) (first | exact ⟨k5, j5⟩ | exact ⟨k4, j4⟩ | go_keep) (first
      | (go_at_call 7; refine (topool_any _ ps _ ?_ ?_).mono ?_; exact RP.below hBj.drew; omega; rintro e wk ⟨vk, rfl, hok, hbk⟩; obtain ⟨aok, capk, rfl⟩ := own_form hok
         have hb34 : Below wj.heap.size wj wk := step_drew hbk
         have k4 := (hb34.cell (p := ⟨wd.heap.size, 0, none⟩) lt8).trans k8
         have j4 := (hb34.cell (p := ⟨w.heap.size, 0, none⟩) hlxj).trans jf
         have R4 := NRow.of_own hok (by omega) hzp
         have R8 := (V8.below hb34).row (by omega) hzp)
      | (go_at_call 9; refine (eqpool_any _ _ ps _ ?_ ?_).mono ?_; exact R8; exact R4; rintro e w5' ⟨rfl, hb5⟩
         have k5 := (hb5.cell (p := ⟨wd.heap.size, 0, none⟩) (Nat.lt_of_lt_of_le lt8 hb34.size)).trans k4
         have j5 := (hb5.cell (p := ⟨w.heap.size, 0, none⟩) (Nat.lt_of_lt_of_le hlxj hb34.size)).trans j4))
    have hbf5 := hb34.trans (hb5.mono hb34.size)
    have V6k := V6.below hbf5
    have V8k := V8.below hbf5
    have V9k := V9.below hbf5
    have V10k := V10j.below hbf5
    have hBk := hBj.trans (hbf5.mono hBj.size)
    have hxk := (hbf5.block _ hlxj).trans hxj
    have hyk := (hbf5.block _ hlyj).trans hyj
    have hlyk := (Array.getElem?_eq_some_iff.1 hyk).1
    clear V6 V8 V9 V10j hBj hxj hyj k8 lt8 jf k4 j4 k5 j5 R4 R8 hb34 hbk hb5 hok hbf5 hlxj hlyj
    have k9 := V9k.cell
    have lt9 := V9k.lt
    have jg : w5'.cell? ⟨w.heap.size + 1, 0, none⟩ = some (.slice aq xs.length cq) := by rw [cell_of_row w5' _ 0 _ _ _ hyk]; rfl
    go_wp2_with fail
    go_region_held (fun w' => w'.cell? ⟨wf.heap.size, 0, none⟩ = some (.slice ao9 xs.length cap9) ∧ w'.cell? ⟨w.heap.size + 1, 0, none⟩ = some (.slice aq xs.length cq)) (first | exact ⟨k5, j5⟩ | exact ⟨k4, j4⟩ | go_keep) (first
      | (go_at_call 7; refine (topool_any _ xs _ ?_ ?_).mono ?_; exact RQ.below hBk.drew; omega; rintro e wl ⟨vk, rfl, hok, hbk⟩; obtain ⟨aol, capl, rfl⟩ := own_form hok
         have hb34 : Below w5'.heap.size w5' wl := step_drew hbk
         have k4 := (hb34.cell (p := ⟨wf.heap.size, 0, none⟩) lt9).trans k9
         have j4 := (hb34.cell (p := ⟨w.heap.size + 1, 0, none⟩) hlyk).trans jg
         have R4 := NRow.of_own hok (by omega) hzq
         have R8 := (V9k.below hb34).row (by omega) hzq)
      | (go_at_call 9; refine (eqpool_any _ _ xs _ ?_ ?_).mono ?_; exact R8; exact R4; rintro e w6' ⟨rfl, hb5⟩
         have k5 := (hb5.cell (p := ⟨wf.heap.size, 0, none⟩) (Nat.lt_of_lt_of_le lt9 hb34.size)).trans k4
         have j5 := (hb5.cell (p := ⟨w.heap.size + 1, 0, none⟩) (Nat.lt_of_lt_of_le hlyk hb34.size)).trans j4))
    have hbf5 := hb34.trans (hb5.mono hb34.size)
    have V6 := V6k.below hbf5
    have V8 := V8k.below hbf5
    have V9 := V9k.below hbf5
    have V10 := V10k.below hbf5
    have hBm := hBk.trans (hbf5.mono hBk.size)
    have hxm := (hbf5.block _ (Array.getElem?_eq_some_iff.1 hxk).1).trans hxk
    have hym := (hbf5.block _ hlyk).trans hyk
    clear V6k V8k V9k V10k hBk hxk hyk k9 lt9 jg k4 j4 k5 j5 R4 R8 hb34 hbk hb5 hok hbf5 hlyk
    have k8 := V8.cell
    go_wp2_with fail
    refine (markpool_any _ 1 wc.heap.size ps _ V8.2.1 (by omega) (by omega) (by omega)).mono ?_
    rintro e w7 ⟨rfl, _, hg8⟩
    have V6n := V6.kept V8 hg8 (Or.inl (by omega))
    have V9n := V9.kept V8 hg8 (Or.inr (by omega))
    have V10n := V10.kept V8 hg8 (Or.inr (by omega))
    have hxn := V8.block hg8 hxm (by decide)
    have hyn := V8.block hg8 hym (by decide)
    have hBn := below_mark hBm V8 hg8 (by omega) hBm.size
    clear V6 V8 V9 V10 hBm hxm hym hg8 k8
    have hkb : (1 : Int) + 5 * ps.length ≤ 2305843009213693952 := by omega
    have hkb0 : (0 : Int) ≤ 1 + 5 * ps.length := by omega
    have k9 := V9n.cell
    go_wp2_with fail
    refine (markpool_any _ _ we.heap.size xs _ V9n.2.1 (by omega) hkb0 hkb).mono ?_
    rintro e w8 ⟨rfl, _, hg9⟩
    have V6o := V6n.kept V9n hg9 (Or.inl (by omega))
    have V10o := V10n.kept V9n hg9 (Or.inr (by omega))
    have hxo := V9n.block hg9 hxn (by decide)
    have hyo := V9n.block hg9 hyn (by decide)
    have hBo := below_mark hBn V9n hg9 (by omega) hBn.size
    clear V6n V9n V10n hBn hxn hyn hg9 k9
    have c10 := V10o.cell
    have c6 := V6o.cell
    have hk1 : ¬ (1 + 5 * (ps.length : Int) + 5 * xs.length) < 0 := by omega
    go_wp2_with fail
    refine (eqpool_any _ _ Q _ (V10o.row hlQ hzL) (V6o.row hlQ hzL)).mono ?_
    rintro e wa ⟨rfl, hba⟩
    have V6p := V6o.below hba
    have V10p := V10o.below hba
    have hBp := hBo.trans (hba.mono hBo.size)
    have hxp := (hba.block _ (Array.getElem?_eq_some_iff.1 hxo).1).trans hxo
    have hyp := (hba.block _ (Array.getElem?_eq_some_iff.1 hyo).1).trans hyo
    clear V6o V10o hBo hxo hyo hba c10 c6
    have c10 := V10p.cell
    go_wp2_with fail
    refine (markpool_any _ 1 wg.heap.size Q _ V10p.2.1 hlQ (by omega) (by omega)).mono ?_
    rintro e wb ⟨rfl, hob, hgb⟩
    have V6q := V6p.kept V10p hgb (Or.inl (by omega))
    have V10q := V10p.marked (ys := nmarked 1 Q Q.length) hgb (by rw [hlm]; exact hob)
    have hxq := V10p.block hgb hxp (by decide)
    have hyq := V10p.block hgb hyp (by decide)
    have hBq := below_mark hBp V10p hgb (by omega) hBp.size
    clear V6p V10p hBp hxp hyp hob hgb c10
    have c10 := V10q.cell
    have hzM := nmarked_ok 1 Q (by omega) hlQ
    go_wp2_with fail
    refine (heldpool_any _ 1 Q _ (V10q.row (by omega) hzM) hlQ (by omega) (by omega)).mono ?_
    rintro e wt ⟨rfl, hbt⟩
    have V6t := V6q.below hbt
    have V10t := V10q.below hbt
    have hBt := hBq.trans (hbt.mono hBq.size)
    have hxt := (hbt.block _ (Array.getElem?_eq_some_iff.1 hxq).1).trans hxq
    have hyt := (hbt.block _ (Array.getElem?_eq_some_iff.1 hyq).1).trans hyq
    have hlxt := (Array.getElem?_eq_some_iff.1 hxt).1
    have hlyt := (Array.getElem?_eq_some_iff.1 hyt).1
    clear V6q V10q hBq hxq hyq hbt c10
    have hk2 : ¬ (1 + 5 * (Q.length : Int)) < 0 := by omega
    have cXt : wt.cell? ⟨w.heap.size, 0, none⟩ = some (.slice ap ps.length cp) := by rw [cell_of_row wt _ 0 _ _ _ hxt]; rfl
    have cYt : wt.cell? ⟨w.heap.size + 1, 0, none⟩ = some (.slice aq xs.length cq) := by rw [cell_of_row wt _ 0 _ _ _ hyt]; rfl
    go_upto_region 31 with fail
    go_cut [17, 18] from 98 (fun s8 s9 wx => ∃ b6 lo6 hi6 v6, s8 = .pointer (some ⟨b6, 0, none⟩) ∧ s9 = .int .i64 I ∧ wt.heap.size ≤ lo6 ∧ Var wx b6 lo6 hi6 v6 Q ∧ Below wt.heap.size wt wx)
    case first =>
      have sS := (⟨cXt, cYt⟩ : wt.cell? ⟨w.heap.size, 0, none⟩ = some (.slice ap ps.length cp) ∧ wt.cell? ⟨w.heap.size + 1, 0, none⟩ = some (.slice aq xs.length cq))
      clear cXt cYt
      go_region_held (fun w' => w'.cell? ⟨w.heap.size, 0, none⟩ = some (.slice ap ps.length cp) ∧ w'.cell? ⟨w.heap.size + 1, 0, none⟩ = some (.slice aq xs.length cq)) (first | exact s5 | exact sq | exact sp | exact two7set s5 (by omega) (by omega) | go_keep) (first
        | (go_at_call 7; refine (topool_any (.slice ap ps.length cp) ps _ ?_ ?_).mono ?_; (first | exact RP.below hBt.drew | exact RP.below (hBt.drew.alloc hBt.size _) | exact RP.below (hBt.trans (hbQ.mono hBt.size)) | exact RP.below ((hBt.trans (hbQ.mono hBt.size)).alloc (hBt.trans (hbQ.mono hBt.size)).size _)); omega; rintro e wp ⟨vp', rfl, hop, hbp⟩
           obtain ⟨ap2, cp2, rfl⟩ := own_form hop
           have hbP : Below wt.heap.size wt wp := (by first | exact step_drew hbp | exact step_drewA hbp | exact hbQ.trans (hbp.mono hbQ.size) | exact hbQ.trans ((step_alloc hbp).mono hbQ.size))
           have TP := NRow.of_own hop (by omega) hzp
           have sp := two7 sS hbP hlxt hlyt
           have zp := hbP.size
           try first | have TQ' := TQ.below hbp | have TQ' := TQ.below (step_alloc hbp)
           try first | have qp : wp.heap[wt.heap.size]? = some (.cells #[.slice none 0 0] 28 (0, 0)) := block_new (w2 := wt.drew) hbp | have qp := block_new hbp | have qp := (hbp.block _ (Array.getElem?_eq_some_iff.1 qq).1).trans qq)
        | (go_at_call 7; refine (topool_any (.slice aq xs.length cq) xs _ ?_ ?_).mono ?_; (first | exact RQ.below hBt.drew | exact RQ.below (hBt.drew.alloc hBt.size _) | exact RQ.below (hBt.trans (hbP.mono hBt.size)) | exact RQ.below ((hBt.trans (hbP.mono hBt.size)).alloc (hBt.trans (hbP.mono hBt.size)).size _)); omega; rintro e wq ⟨vq', rfl, hoq, hbq⟩
           obtain ⟨aq2, cq2, rfl⟩ := own_form hoq
           have hbQ : Below wt.heap.size wt wq := (by first | exact step_drew hbq | exact step_drewA hbq | exact hbP.trans (hbq.mono hbP.size) | exact hbP.trans ((step_alloc hbq).mono hbP.size))
           have TQ := NRow.of_own hoq (by omega) hzq
           have sq := two7 sS hbQ hlxt hlyt
           have zq := hbQ.size
           try first | have TP' := TP.below hbq | have TP' := TP.below (step_alloc hbq)
           try first | have qq : wq.heap[wt.heap.size]? = some (.cells #[.slice none 0 0] 28 (0, 0)) := block_new (w2 := wt.drew) hbq | have qq := block_new hbq | have qq := (hbq.block _ (Array.getElem?_eq_some_iff.1 qp).1).trans qp)
        | (go_at_call 8; refine (IC _ _ _ ?_ ?_).mono ?_; (first | exact TP' | exact TP | exact TP'.below ((Below.refl _ _).alloc (Nat.le_refl _) _) | exact TP.below ((Below.refl _ _).alloc (Nat.le_refl _) _)); (first | exact TQ' | exact TQ | exact TQ'.below ((Below.refl _ _).alloc (Nat.le_refl _) _) | exact TQ.below ((Below.refl _ _).alloc (Nat.le_refl _) _)); rintro e w5 ⟨v5, rfl, ho5, hb5⟩
           obtain ⟨ao5, cap5, rfl⟩ := own_form ho5
           have h25 : Below wt.heap.size wt w5 := (by first | exact hbQ.trans (hb5.mono hbQ.size) | exact hbP.trans (hb5.mono hbP.size) | exact hbQ.trans ((step_alloc hb5).mono hbQ.size) | exact hbP.trans ((step_alloc hb5).mono hbP.size))
           have z5 := h25.size
           have ho5' := own_mono (B' := wt.heap.size) ho5 (by first | exact hbQ.size | exact hbP.size | (simp; omega))
           have s5 := two7 sS h25 hlxt hlyt
           try first | have q5 := block_new hb5 | have q5 := (hb5.block _ (Array.getElem?_eq_some_iff.1 qq).1).trans qq | have q5 := (hb5.block _ (Array.getElem?_eq_some_iff.1 qp).1).trans qp
           try have k5 : w5.cell? ⟨_, 0, none⟩ = some (.slice none 0 0) := (cell_of_row w5 _ 0 _ _ _ q5)
           try have l5 := (frozen_of_row w5 _ 0 _ _ q5)))
      all_goals
        go_wp2_with fail
        go_meet
        case rel =>
          first
            | (obtain ⟨vr, b1, b2⟩ := Var.put hBt h25 q5 ho5' (by omega)
               exact ⟨_, _, _, _, rfl, rfl, Nat.le_refl _, vr, b2⟩)
            | (obtain ⟨vr, b1, b2⟩ := Var.new hBt h25 ho5'
               exact ⟨_, _, _, _, rfl, rfl, Nat.le_refl _, vr, b2⟩)
    case rest =>
      obtain ⟨b15, lo15, hi15, v15, rfl, rfl, _, V15, hBWu⟩ := hcut
      obtain ⟨ao15, cap15, rfl⟩ := own_form V15.2.1
      have V6u := V6t.below hBWu
      have V10u := V10t.below hBWu
      have hBu := hBt.trans (hBWu.mono hBt.size)
      have c15 := V15.cell
      have c6 := V6u.cell
      clear V6t V10t hBt hxt hyt cXt cYt hBWu
      go_wp2_with fail
      refine (eqpool_any _ _ Q _ (V15.row hlQ hzL) (V6u.row hlQ hzL)).mono ?_
      rintro e wv ⟨rfl, hbv⟩
      have V10v := V10u.below hbv
      have hBv := hBu.trans (hbv.mono hBu.size)
      have c10 := V10v.cell
      clear V15 V6u V10u hBu hbv c15 c6
      go_wp2_with fail
      refine (heldpool_any _ 1 Q _ (V10v.row (by omega) hzM) hlQ (by omega) (by omega)).mono ?_
      rintro e wy ⟨rfl, hby⟩
      have hBy := hBv.trans (hby.mono hBv.size)
      clear V10v c10 hBv hby
      go_wp2
      go_ret
      exact ⟨rfl, hBy⟩
end Go.Proofs.Ytbdgdeoecnhcdab
