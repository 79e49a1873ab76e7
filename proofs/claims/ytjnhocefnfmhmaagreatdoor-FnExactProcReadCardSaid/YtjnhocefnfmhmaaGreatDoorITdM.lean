/-
  Contract of impl's Tidy. No condition.
-/
import Derived.Test.YtjnhocefnfmhmaaGreatDoorTdM
import Derived.Test.YtjnhocefnfmhmaaGreatDoorMv2M
import Derived.Test.YtjnhocefnfmhmaaGreatDoorBsM
import Derived.Deep.CutRange
import Derived.Deep.DeepCutAuto
namespace Go.Proofs.YtjnhocefnfmhmaaGreatDoor
open Go.RowKit

/-- A machine as cells. -/
def mcs (v : Value) (m : Mc) : Array Value := #[v, .int .i64 m.p, .int .i64 m.s, .int .i64 m.e, .int .i64 m.d, .int .i64 m.t, .int .i64 m.q, .int .i64 m.r]

theorem three_set {wA : World} {B : Nat} {T : TypeId} {v p s e d t q r a b c : Value} (h : wA.heap[B]? = some (.cells #[v, p, s, e, d, t, q, r] T (0, 0))) :
    (((wA.setCell ⟨B, 2, none⟩ a).setCell ⟨B, 3, none⟩ b).setCell ⟨B, 4, none⟩ c).drew.heap[B]? = some (.cells #[v, p, a, b, c, t, q, r] T (0, 0)) ∧ (∀ k, k ≠ B → (((wA.setCell ⟨B, 2, none⟩ a).setCell ⟨B, 3, none⟩ b).setCell ⟨B, 4, none⟩ c).drew.heap[k]? = wA.heap[k]?) ∧ Below B wA (((wA.setCell ⟨B, 2, none⟩ a).setCell ⟨B, 3, none⟩ b).setCell ⟨B, 4, none⟩ c).drew := by
  have h1 := heap_setCell_same wA B 2 _ _ a h
  have h2 := heap_setCell_same _ B 3 _ _ b h1
  have h3 := heap_setCell_same _ B 4 _ _ c h2
  refine ⟨h3, fun k hk => ?_, ((((Below.refl B wA).setCell (p := ⟨B, 2, none⟩) (Nat.le_refl _) a).setCell (p := ⟨B, 3, none⟩) (Nat.le_refl _) b).setCell (p := ⟨B, 4, none⟩) (Nat.le_refl _) c).drew⟩
  show (((wA.setCell ⟨B, 2, none⟩ a).setCell ⟨B, 3, none⟩ b).setCell ⟨B, 4, none⟩ c).heap[k]? = _
  rw [Below.heap_setCell _ _ _ _ hk, Below.heap_setCell _ _ _ _ hk, Below.heap_setCell _ _ _ _ hk]

set_option maxRecDepth 100000 in
set_option maxHeartbeats 3200000 in
theorem itidy_any (v : Value) (xs : List Nd) (m : Mc) (w : World) (R : NRow w v xs) (hlen : xs.length ≤ 2097152) :
    Calls Tryz.prog 71 #[.agg #[v, .int .i64 m.p, .int .i64 m.s, .int .i64 m.e, .int .i64 m.d, .int .i64 m.t, .int .i64 m.q, .int .i64 m.r]] w fun e w' => ∃ v', e = .returned (.agg #[v', .int .i64 (tdM xs m).p, .int .i64 (tdM xs m).s, .int .i64 (tdM xs m).e, .int .i64 (tdM xs m).d, .int .i64 (tdM xs m).t, .int .i64 (tdM xs m).q, .int .i64 (tdM xs m).r]) ∧ w'.ownsRow w.heap.size 153 5 v' (tdL xs m).length (ncs (tdL xs m)) ∧ Below w.heap.size w w' := by
  have R' := R
  obtain ⟨ao, cap, rfl, _⟩ := R'
  obtain ⟨hB0, hx0, hy0⟩ := two_boxes w (Obj.cells #[.slice ao xs.length cap, .int .i64 m.p, .int .i64 m.s, .int .i64 m.e, .int .i64 m.d, .int .i64 m.t, .int .i64 m.q, .int .i64 m.r] 47) (Obj.cells #[.slice none 0 0, .int .i64 0, .int .i64 0, .int .i64 0, .int .i64 0, .int .i64 0, .int .i64 0, .int .i64 0] 47)
  go_enter Tryz.func71, Tryz.ntmps71
  go_wp2_with fail
  generalize (w.alloc (Obj.cells #[.slice ao xs.length cap, .int .i64 m.p, .int .i64 m.s, .int .i64 m.e, .int .i64 m.d, .int .i64 m.t, .int .i64 m.q, .int .i64 m.r] 47)).alloc (Obj.cells #[.slice none 0 0, .int .i64 0, .int .i64 0, .int .i64 0, .int .i64 0, .int .i64 0, .int .i64 0, .int .i64 0] 47) = W0 at *
  refine (iroots_any ao xs.length cap m _).mono ?_
  rintro e w1 ⟨vr, rfl, L1, hb1⟩
  have hl0 := (Array.getElem?_eq_some_iff.1 hy0).1
  have hB1 := hB0.trans (hb1.mono hB0.size)
  have hx1 := (hb1.block _ (by omega)).trans hx0
  have hy1 := (hb1.block _ hl0).trans hy0
  have hl1 := (Array.getElem?_eq_some_iff.1 hy1).1
  have cx1 : w1.cell? ⟨w.heap.size, 0, none⟩ = some (.slice ao xs.length cap) := cell_of_row w1 _ 0 _ _ _ hx1
  clear hB0 hb1 hx0 hy0 hl0
  go_wp2_with fail
  refine (ipool_any _ xs _ (R.below hB1)).mono ?_
  rintro e w2 ⟨rfl, hb2⟩
  have hB2 := hB1.trans (hb2.mono hB1.size)
  have hx2 := (hb2.block _ (by omega)).trans hx1
  have hy2 := (hb2.block _ hl1).trans hy1
  have hl2 := (Array.getElem?_eq_some_iff.1 hy2).1
  have L2 := L1.below hb2
  have cx2 : w2.cell? ⟨w.heap.size, 0, none⟩ = some (.slice ao xs.length cap) := cell_of_row w2 _ 0 _ _ _ hx2
  clear hB1 hb2 hx1 hy1 hl1 L1 cx1
  by_cases hp : poolB xs = true
  · rw [hp]
    go_wp2_with fail
    refine (hasall_any _ _ xs (tdR m) _ (R.below hB2) L2).mono ?_
    rintro e w3 ⟨rfl, hb3⟩
    have hB3 := hB2.trans (hb3.mono hB2.size)
    have hx3 := (hb3.block _ (by omega)).trans hx2
    have hy3 := (hb3.block _ hl2).trans hy2
    have hl3 := (Array.getElem?_eq_some_iff.1 hy3).1
    have L3 := L2.below hb3
    have cx3 : w3.cell? ⟨w.heap.size, 0, none⟩ = some (.slice ao xs.length cap) := cell_of_row w3 _ 0 _ _ _ hx3
    clear hB2 hb3 hx2 hy2 hl2 L2 cx2
    cases hal : allI xs (tdR m) with
    | true =>
      have hok : tdOk xs m = true := by unfold tdOk; rw [hp, hal]; rfl
      have HL : Hid (tdL xs m = mvN 0 xs (tdR m)) := by unfold Hid tdL; rw [hok]; rfl
      have HM : Hid (tdM xs m = ⟨m.p, tdF xs m m.s, tdF xs m m.e, tdF xs m m.d, m.t, m.q, if argB m then tdF xs m m.r else m.r⟩) := by unfold Hid tdM; rw [hok]; rfl
      have hlR := tdR_len m
      have HR : Hid (mvR 0 xs (tdR m) (tdR m) = (tdR m).map (tdF xs m)) := rfl
      go_wp2_with fail
      refine (moved_any ao cap vr xs (tdR m) 0 _ (R.below hB3) L3 hp hal (by omega) (by rw [hlR]; split <;> omega)).mono ?_
      rintro e w4 ⟨v1, v2, rfl, ho1, ho2, hb4⟩
      rw [HR.out] at ho2
      have hB4 := hB3.trans (hb4.mono hB3.size)
      have hx4 := (hb4.block _ (by omega)).trans hx3
      have hy4 := (hb4.block _ hl3).trans hy3
      obtain ⟨a1, q1, rfl⟩ := own_form ho1
      have hl30 : 0 < (tdR m).length := by rw [hlR]; split <;> omega
      rcases ho2.2 with ⟨_, hn0⟩ | ⟨g2, q2, cur2, e2, hg2, _, _⟩
      · omega
      subst e2
      have y0 : w4.cell? ⟨g2, 0, none⟩ = some (.int .i64 (tdF xs m m.s)) := (ho2.cellAt 0 (by omega)).trans (by unfold tdR; split <;> rfl)
      have y1 : w4.cell? ⟨g2, 1, none⟩ = some (.int .i64 (tdF xs m m.e)) := (ho2.cellAt 1 (by rw [hlR]; split <;> omega)).trans (by unfold tdR; split <;> rfl)
      have y2 : w4.cell? ⟨g2, 2, none⟩ = some (.int .i64 (tdF xs m m.d)) := (ho2.cellAt 2 (by rw [hlR]; split <;> omega)).trans (by unfold tdR; split <;> rfl)
      have y3 : argB m = true → w4.cell? ⟨g2, 3, none⟩ = some (.int .i64 (tdF xs m m.r)) := fun h => (ho2.cellAt 3 (by rw [hlR, h]; simp)).trans (by unfold tdR; rw [h]; rfl)
      have hgw : w.heap.size ≠ g2 := by omega
      have hl3' : w.heap.size < w3.heap.size := by omega
      generalize tdF xs m m.s = fs at *
      generalize tdF xs m m.e = fe at *
      generalize tdF xs m m.d = fd at *
      generalize tdF xs m m.r = fr at *
      clear cx3 hx3 hy3
      clear ho2 hb4 L3
      cases hA : argB m with
      | true =>
        rw [hA] at hlR HM
        simp only [if_true] at hlR HM
        have y3 := y3 hA
        rw [hlR]
        clear hlR hl30
        go_wp2_with (refine wpList_store_at rfl 40 _ _ rfl w.heap.size 0 (.agg #[.slice a1 (mvN 0 xs (tdR m)).length q1]) #[.slice a1 (mvN 0 xs (tdR m)).length q1] rfl rfl rfl rfl 47 #[.slice ao xs.length cap, .int .i64 m.p, .int .i64 m.s, .int .i64 m.e, .int .i64 m.d, .int .i64 m.t, .int .i64 m.q, .int .i64 m.r] #[.slice a1 (mvN 0 xs (tdR m)).length q1, .int .i64 m.p, .int .i64 m.s, .int .i64 m.e, .int .i64 m.d, .int .i64 m.t, .int .i64 m.q, .int .i64 m.r] hx4 (by simp) (by kernel_rfl) rfl ?_)
        intro wA hvA hbA hsA hkA
        have hyA := (hkA _ (by omega)).trans hy4
        have keep : ∀ (i : Nat), wA.cell? ⟨g2, i, none⟩ = w4.cell? ⟨g2, i, none⟩ := fun i => World.cell?_of_block (w := w4) (hkA g2 (Ne.symm hgw))
        have z0 := (keep 0).trans y0
        have z1 := (keep 1).trans y1
        have z2 := (keep 2).trans y2
        have z3 := (keep 3).trans y3
        have hBA := hB4.trans hbA
        have hoA := own_keep ho1 hl3' hkA
        have hlA : w.heap.size < wA.heap.size := (Array.getElem?_eq_some_iff.1 hvA).1
        clear keep y0 y1 y2 y3 hx4 hy4 hbA hB4 ho1
        have d2 : wA.cell? ⟨w.heap.size, 2, none⟩ = some (.int .i64 m.s) := cell_of_row wA _ 2 _ _ _ hvA
        have d3 : wA.cell? ⟨w.heap.size, 3, none⟩ = some (.int .i64 m.e) := cell_of_row wA _ 3 _ _ _ hvA
        have d4 : wA.cell? ⟨w.heap.size, 4, none⟩ = some (.int .i64 m.d) := cell_of_row wA _ 4 _ _ _ hvA
        have f2 : wA.frozen? ⟨w.heap.size, 2, none⟩ = false := frozen_of_row wA _ 2 _ _ hvA
        have f3 : wA.frozen? ⟨w.heap.size, 3, none⟩ = false := frozen_of_row wA _ 3 _ _ hvA
        have f4 : wA.frozen? ⟨w.heap.size, 4, none⟩ = false := frozen_of_row wA _ 4 _ _ hvA
        go_wp2_with fail
        go_region
        obtain ⟨hvC, hkC, hbC⟩ := three_set (a := .int .i64 fs) (b := .int .i64 fe) (c := .int .i64 fd) hvA
        generalize (((wA.setCell ⟨w.heap.size, 2, none⟩ (.int .i64 fs)).setCell ⟨w.heap.size, 3, none⟩ (.int .i64 fe)).setCell ⟨w.heap.size, 4, none⟩ (.int .i64 fd)).drew = wC at *
        have hyC := (hkC _ (by omega)).trans hyA
        have hBC := hBA.trans hbC
        have hoC := own_keep hoA hl3' hkC
        have hlC : w.heap.size < wC.heap.size := (Array.getElem?_eq_some_iff.1 hvC).1
        have hlC' : w.heap.size + 1 < wC.heap.size := (Array.getElem?_eq_some_iff.1 hyC).1
        have z3C : wC.cell? ⟨g2, 3, none⟩ = some (.int .i64 fr) := (World.cell?_of_block (w := wA) (hkC g2 (Ne.symm hgw))).trans z3
        have hg2C : g2 < wC.heap.size := World.block_lt_of_cell? _ _ z3C
        clear hvA hkA hkC hbC hyA hBA hoA z0 z1 z2 d2 d3 d4 f2 f3 f4 z3
        go_wp2_with (refine wpList_load_row rfl 47 _ rfl w.heap.size rfl 47 #[.slice a1 (mvN 0 xs (tdR m)).length q1, .int .i64 m.p, .int .i64 fs, .int .i64 fe, .int .i64 fd, .int .i64 m.t, .int .i64 m.q, .int .i64 m.r] (0, 0) _ hvC Tryz.underlying47 rfl Tryz.sizeMach ?_)
        refine (ihasarg_any _ ⟨m.p, fs, fe, fd, m.t, m.q, m.r⟩ _).mono ?_
        rintro e w6 ⟨rfl, hb6⟩
        rw [show argB ⟨m.p, fs, fe, fd, m.t, m.q, m.r⟩ = true from hA]
        have hv6 := (hb6.block _ hlC).trans hvC
        have hy6 := (hb6.block _ hlC').trans hyC
        have hB6 := hBC.trans (hb6.mono hBC.size)
        have ho6 := own_below hoC hb6
        have z36 := (hb6.cell (p := ⟨g2, 3, none⟩) hg2C).trans z3C
        go_wp2_with (refine wpList_store_at rfl 3 _ _ rfl w.heap.size 7 (.int .i64 fr) #[.int .i64 fr] rfl rfl rfl rfl 47 #[.slice a1 (mvN 0 xs (tdR m)).length q1, .int .i64 m.p, .int .i64 fs, .int .i64 fe, .int .i64 fd, .int .i64 m.t, .int .i64 m.q, .int .i64 m.r] #[.slice a1 (mvN 0 xs (tdR m)).length q1, .int .i64 m.p, .int .i64 fs, .int .i64 fe, .int .i64 fd, .int .i64 m.t, .int .i64 m.q, .int .i64 fr] hv6 (by simp) (by kernel_rfl) rfl ?_)
        intro w7 hv7 hb7 hs7 hk7
        have hy7 := (hk7 _ (by omega)).trans hy6
        have hB7 := hB6.trans hb7
        have ho7 := own_keep ho6 hl3' hk7
        go_wp2_with (first
          | (refine wpList_load_row rfl 47 _ rfl w.heap.size rfl 47 #[.slice a1 (mvN 0 xs (tdR m)).length q1, .int .i64 m.p, .int .i64 fs, .int .i64 fe, .int .i64 fd, .int .i64 m.t, .int .i64 m.q, .int .i64 fr] (0, 0) _ hv7 Tryz.underlying47 rfl Tryz.sizeMach ?_)
          | (refine wpList_store_own2 rfl 47 _ _ rfl (w.heap.size + 1) #[.slice a1 (mvN 0 xs (tdR m)).length q1, .int .i64 m.p, .int .i64 fs, .int .i64 fe, .int .i64 fd, .int .i64 m.t, .int .i64 m.q, .int .i64 fr] rfl rfl 47 #[.slice none 0 0, .int .i64 0, .int .i64 0, .int .i64 0, .int .i64 0, .int .i64 0, .int .i64 0, .int .i64 0] hy7 Tryz.sizeMach rfl (by simp [Value.oneCell']) ?_))
        intro wB hvB hbB hsB hkB
        go_wp2
        refine bodyPost_ret (results_cell_row rfl _ _ (w.heap.size + 1) 47 _ (0, 0) _ rfl hvB Tryz.underlying47 rfl Tryz.sizeMach) rfl ⟨.slice a1 (mvN 0 xs (tdR m)).length q1, by rw [HM.out], ?_, hB7.trans (hbB.mono (by omega))⟩
        rw [HL.out]
        exact own_mono (own_keep ho7 hl3 hkB) (by omega)
      | false =>
        rw [hA] at hlR HM
        simp only [Bool.false_eq_true, if_false] at hlR HM
        rw [hlR]
        clear hlR hl30 y3
        go_wp2_with (refine wpList_store_at rfl 40 _ _ rfl w.heap.size 0 (.agg #[.slice a1 (mvN 0 xs (tdR m)).length q1]) #[.slice a1 (mvN 0 xs (tdR m)).length q1] rfl rfl rfl rfl 47 #[.slice ao xs.length cap, .int .i64 m.p, .int .i64 m.s, .int .i64 m.e, .int .i64 m.d, .int .i64 m.t, .int .i64 m.q, .int .i64 m.r] #[.slice a1 (mvN 0 xs (tdR m)).length q1, .int .i64 m.p, .int .i64 m.s, .int .i64 m.e, .int .i64 m.d, .int .i64 m.t, .int .i64 m.q, .int .i64 m.r] hx4 (by simp) (by kernel_rfl) rfl ?_)
        intro wA hvA hbA hsA hkA
        have hyA := (hkA _ (by omega)).trans hy4
        have keep : ∀ (i : Nat), wA.cell? ⟨g2, i, none⟩ = w4.cell? ⟨g2, i, none⟩ := fun i => World.cell?_of_block (w := w4) (hkA g2 (Ne.symm hgw))
        have z0 := (keep 0).trans y0
        have z1 := (keep 1).trans y1
        have z2 := (keep 2).trans y2
        have hBA := hB4.trans hbA
        have hoA := own_keep ho1 hl3' hkA
        have hlA : w.heap.size < wA.heap.size := (Array.getElem?_eq_some_iff.1 hvA).1
        clear keep y0 y1 y2 hx4 hy4 hbA hB4 ho1
        have d2 : wA.cell? ⟨w.heap.size, 2, none⟩ = some (.int .i64 m.s) := cell_of_row wA _ 2 _ _ _ hvA
        have d3 : wA.cell? ⟨w.heap.size, 3, none⟩ = some (.int .i64 m.e) := cell_of_row wA _ 3 _ _ _ hvA
        have d4 : wA.cell? ⟨w.heap.size, 4, none⟩ = some (.int .i64 m.d) := cell_of_row wA _ 4 _ _ _ hvA
        have f2 : wA.frozen? ⟨w.heap.size, 2, none⟩ = false := frozen_of_row wA _ 2 _ _ hvA
        have f3 : wA.frozen? ⟨w.heap.size, 3, none⟩ = false := frozen_of_row wA _ 3 _ _ hvA
        have f4 : wA.frozen? ⟨w.heap.size, 4, none⟩ = false := frozen_of_row wA _ 4 _ _ hvA
        go_wp2_with fail
        go_region
        obtain ⟨hvC, hkC, hbC⟩ := three_set (a := .int .i64 fs) (b := .int .i64 fe) (c := .int .i64 fd) hvA
        generalize (((wA.setCell ⟨w.heap.size, 2, none⟩ (.int .i64 fs)).setCell ⟨w.heap.size, 3, none⟩ (.int .i64 fe)).setCell ⟨w.heap.size, 4, none⟩ (.int .i64 fd)).drew = wC at *
        have hyC := (hkC _ (by omega)).trans hyA
        have hBC := hBA.trans hbC
        have hoC := own_keep hoA hl3' hkC
        have hlC : w.heap.size < wC.heap.size := (Array.getElem?_eq_some_iff.1 hvC).1
        have hlC' : w.heap.size + 1 < wC.heap.size := (Array.getElem?_eq_some_iff.1 hyC).1
        clear hvA hkA hkC hbC hyA hBA hoA z0 z1 z2 d2 d3 d4 f2 f3 f4
        go_wp2_with (refine wpList_load_row rfl 47 _ rfl w.heap.size rfl 47 #[.slice a1 (mvN 0 xs (tdR m)).length q1, .int .i64 m.p, .int .i64 fs, .int .i64 fe, .int .i64 fd, .int .i64 m.t, .int .i64 m.q, .int .i64 m.r] (0, 0) _ hvC Tryz.underlying47 rfl Tryz.sizeMach ?_)
        refine (ihasarg_any _ ⟨m.p, fs, fe, fd, m.t, m.q, m.r⟩ _).mono ?_
        rintro e w6 ⟨rfl, hb6⟩
        rw [show argB ⟨m.p, fs, fe, fd, m.t, m.q, m.r⟩ = false from hA]
        have hv6 := (hb6.block _ hlC).trans hvC
        have hy6 := (hb6.block _ hlC').trans hyC
        have hB6 := hBC.trans (hb6.mono hBC.size)
        have ho6 := own_below hoC hb6
        go_wp2_with (first
          | (refine wpList_load_row rfl 47 _ rfl w.heap.size rfl 47 #[.slice a1 (mvN 0 xs (tdR m)).length q1, .int .i64 m.p, .int .i64 fs, .int .i64 fe, .int .i64 fd, .int .i64 m.t, .int .i64 m.q, .int .i64 m.r] (0, 0) _ hv6 Tryz.underlying47 rfl Tryz.sizeMach ?_)
          | (refine wpList_store_own2 rfl 47 _ _ rfl (w.heap.size + 1) #[.slice a1 (mvN 0 xs (tdR m)).length q1, .int .i64 m.p, .int .i64 fs, .int .i64 fe, .int .i64 fd, .int .i64 m.t, .int .i64 m.q, .int .i64 m.r] rfl rfl 47 #[.slice none 0 0, .int .i64 0, .int .i64 0, .int .i64 0, .int .i64 0, .int .i64 0, .int .i64 0, .int .i64 0] hy6 Tryz.sizeMach rfl (by simp [Value.oneCell']) ?_))
        intro wB hvB hbB hsB hkB
        go_wp2
        refine bodyPost_ret (results_cell_row rfl _ _ (w.heap.size + 1) 47 _ (0, 0) _ rfl hvB Tryz.underlying47 rfl Tryz.sizeMach) rfl ⟨.slice a1 (mvN 0 xs (tdR m)).length q1, by rw [HM.out], ?_, hB6.trans (hbB.mono (by omega))⟩
        rw [HL.out]
        exact own_mono (own_keep ho6 hl3 hkB) (by omega)
    | false =>
      have hno : tdOk xs m = false := by unfold tdOk; rw [hal]; simp
      have HL : Hid (tdL xs m = xs) := by unfold Hid tdL; rw [hno]; rfl
      have HM : Hid (tdM xs m = m) := by unfold Hid tdM; rw [hno]; rfl
      go_wp2_with fail
      refine (with_any _ _ xs [] _ (R.below hB3) (NRow.nil0 _) (by simp; omega)).mono ?_
      rintro e w9 ⟨v9, rfl, ho9, hb9⟩
      rw [List.append_nil] at ho9
      obtain ⟨a9, q9, rfl⟩ := own_form ho9
      have hB9 := hB3.trans (hb9.mono hB3.size)
      have hx9 := (hb9.block _ (by omega)).trans hx3
      have hy9 := (hb9.block _ hl3).trans hy3
      have hll : w.heap.size < w3.heap.size := by omega
      go_wp2_with (refine wpList_store_at rfl 40 _ _ rfl w.heap.size 0 (.agg #[.slice a9 xs.length q9]) #[.slice a9 xs.length q9] rfl rfl rfl rfl 47 #[.slice ao xs.length cap, .int .i64 m.p, .int .i64 m.s, .int .i64 m.e, .int .i64 m.d, .int .i64 m.t, .int .i64 m.q, .int .i64 m.r] #[.slice a9 xs.length q9, .int .i64 m.p, .int .i64 m.s, .int .i64 m.e, .int .i64 m.d, .int .i64 m.t, .int .i64 m.q, .int .i64 m.r] hx9 (by simp) (by kernel_rfl) rfl ?_)
      intro wA hvA hbA hsA hkA
      have hyA := (hkA _ (by omega)).trans hy9
      go_wp2_with (first
        | (refine wpList_load_row rfl 47 _ rfl w.heap.size rfl 47 #[.slice a9 xs.length q9, .int .i64 m.p, .int .i64 m.s, .int .i64 m.e, .int .i64 m.d, .int .i64 m.t, .int .i64 m.q, .int .i64 m.r] (0, 0) _ hvA Tryz.underlying47 rfl Tryz.sizeMach ?_)
        | (refine wpList_store_own2 rfl 47 _ _ rfl (w.heap.size + 1) #[.slice a9 xs.length q9, .int .i64 m.p, .int .i64 m.s, .int .i64 m.e, .int .i64 m.d, .int .i64 m.t, .int .i64 m.q, .int .i64 m.r] rfl rfl 47 #[.slice none 0 0, .int .i64 0, .int .i64 0, .int .i64 0, .int .i64 0, .int .i64 0, .int .i64 0, .int .i64 0] hyA Tryz.sizeMach rfl (by simp [Value.oneCell']) ?_))
      intro wB hvB hbB hsB hkB
      go_wp2
      refine bodyPost_ret (results_cell_row rfl _ _ (w.heap.size + 1) 47 _ (0, 0) _ rfl hvB Tryz.underlying47 rfl Tryz.sizeMach) rfl ⟨.slice a9 xs.length q9, by rw [HM.out], ?_, (hB9.trans hbA).trans (hbB.mono (by omega))⟩
      rw [HL.out]
      exact own_mono (own_keep (own_keep ho9 hll hkA) hl3 hkB) (by omega)
  · have hp' : poolB xs = false := by simpa using hp
    rw [hp']
    have hno : tdOk xs m = false := by unfold tdOk; rw [hp']; rfl
    have HL : Hid (tdL xs m = xs) := by unfold Hid tdL; rw [hno]; rfl
    have HM : Hid (tdM xs m = m) := by unfold Hid tdM; rw [hno]; rfl
    go_wp2_with fail
    refine (with_any _ _ xs [] _ (R.below hB2) (NRow.nil0 _) (by simp; omega)).mono ?_
    rintro e w9 ⟨v9, rfl, ho9, hb9⟩
    rw [List.append_nil] at ho9
    obtain ⟨a9, q9, rfl⟩ := own_form ho9
    have hB9 := hB2.trans (hb9.mono hB2.size)
    have hx9 := (hb9.block _ (by omega)).trans hx2
    have hy9 := (hb9.block _ hl2).trans hy2
    have hll : w.heap.size < w2.heap.size := by omega
    go_wp2_with (refine wpList_store_at rfl 40 _ _ rfl w.heap.size 0 (.agg #[.slice a9 xs.length q9]) #[.slice a9 xs.length q9] rfl rfl rfl rfl 47 #[.slice ao xs.length cap, .int .i64 m.p, .int .i64 m.s, .int .i64 m.e, .int .i64 m.d, .int .i64 m.t, .int .i64 m.q, .int .i64 m.r] #[.slice a9 xs.length q9, .int .i64 m.p, .int .i64 m.s, .int .i64 m.e, .int .i64 m.d, .int .i64 m.t, .int .i64 m.q, .int .i64 m.r] hx9 (by simp) (by kernel_rfl) rfl ?_)
    intro wA hvA hbA hsA hkA
    have hyA := (hkA _ (by omega)).trans hy9
    go_wp2_with (first
      | (refine wpList_load_row rfl 47 _ rfl w.heap.size rfl 47 #[.slice a9 xs.length q9, .int .i64 m.p, .int .i64 m.s, .int .i64 m.e, .int .i64 m.d, .int .i64 m.t, .int .i64 m.q, .int .i64 m.r] (0, 0) _ hvA Tryz.underlying47 rfl Tryz.sizeMach ?_)
      | (refine wpList_store_own2 rfl 47 _ _ rfl (w.heap.size + 1) #[.slice a9 xs.length q9, .int .i64 m.p, .int .i64 m.s, .int .i64 m.e, .int .i64 m.d, .int .i64 m.t, .int .i64 m.q, .int .i64 m.r] rfl rfl 47 #[.slice none 0 0, .int .i64 0, .int .i64 0, .int .i64 0, .int .i64 0, .int .i64 0, .int .i64 0, .int .i64 0] hyA Tryz.sizeMach rfl (by simp [Value.oneCell']) ?_))
    intro wB hvB hbB hsB hkB
    go_wp2
    refine bodyPost_ret (results_cell_row rfl _ _ (w.heap.size + 1) 47 _ (0, 0) _ rfl hvB Tryz.underlying47 rfl Tryz.sizeMach) rfl ⟨.slice a9 xs.length q9, by rw [HM.out], ?_, (hB9.trans hbA).trans (hbB.mono (by omega))⟩
    rw [HL.out]
    exact own_mono (own_keep (own_keep ho9 hll hkA) hl2 hkB) (by omega)
end Go.Proofs.YtjnhocefnfmhmaaGreatDoor
