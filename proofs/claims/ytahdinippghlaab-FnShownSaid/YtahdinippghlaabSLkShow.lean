/-
  Contract of spec's LinkShow. No condition.
-/
import Derived.Test.YtahdinippghlaabLkShowM
import Derived.Test.YtahdinippghlaabStepApp
import Derived.Deep.RegionLawGrows
namespace Go.Proofs.Ytahdinippghlaab
open Go.RowKit

set_option maxRecDepth 100000 in
set_option maxHeartbeats 6400000 in
theorem slinkshow_any (v1 v2 : Value) (l : Lk) (w : World) (R1 : StRow w v1 l.q) (R2 : PcRow w v2 l.h) :
    Calls Try.prog 10 #[.agg #[.int .i64 l.sent, .int .i64 l.acked, v1, .int .i64 l.got, v2]] w fun e w' => ∃ v, e = .returned v ∧ w'.ownsRow w.heap.size 31 2 v (showR l).length (pccs (showR l)) ∧ Below w.heap.size w w' := by
  have hzq := R1.sz
  have R10 := R1
  obtain ⟨a1, c1, rfl, hcap1, hm1, _, hcell⟩ := R1
  obtain ⟨a2, c2, rfl⟩ := R2.small
  obtain ⟨i0, hi, hz0, hz1, hz2⟩ := info_parts Try.infoPc
  obtain ⟨hB0, hx0, _⟩ := two_bx w (Obj.cells #[.int .i64 l.sent, .int .i64 l.acked, .slice a1 l.q.length c1, .int .i64 l.got, .slice a2 l.h.length c2] 27) (Obj.cells #[] 31)
  have own0 : ((w.alloc (Obj.cells #[.int .i64 l.sent, .int .i64 l.acked, .slice a1 l.q.length c1, .int .i64 l.got, .slice a2 l.h.length c2] 27)).alloc (Obj.cells #[] 31)).ownsRow (w.heap.size + 1) 31 2 (.slice (some ⟨w.heap.size + 1, 0, none⟩) 0 0) 0 [] := by
    have := own_none0 (w.alloc (Obj.cells #[.int .i64 l.sent, .int .i64 l.acked, .slice a1 l.q.length c1, .int .i64 l.got, .slice a2 l.h.length c2] 27)) 31 2 (w.heap.size + 1) (by simp)
    simpa using this
  obtain ⟨N, hN⟩ : ∃ N, N = (if linkB l = true then (if 4 ≤ l.q.length then 4 else l.q.length) else 0) := ⟨_, rfl⟩
  have HR : Hid (showR l = showP l.acked l.q N) := by
    unfold Hid showR
    rw [hN]
    split
    · rfl
    · rw [showP_zero]
  have hN1 : N ≤ l.q.length := by rw [hN]; split <;> (try split) <;> omega
  have hN2 : N ≤ 4 := by rw [hN]; split <;> (try split) <;> omega
  have hN3 : N < l.q.length → N < 4 → linkB l = false := by
    intro h1 h2
    rw [hN] at h1 h2
    cases hb : linkB l with
    | false => rfl
    | true =>
      rw [if_pos hb] at h1 h2
      by_cases h4 : 4 ≤ l.q.length
      · rw [if_pos h4] at h2; omega
      · rw [if_neg h4] at h1; omega
  have hN4 : 0 < N → linkB l = true := by
    intro h
    rw [hN] at h
    split at h
    · assumption
    · omega
  clear hN
  have SO := fun (v1 v2 : Value) (w : World) (R1 : StRow w v1 l.q) (R2 : PcRow w v2 l.h) => slinkok_any v1 v2 l w R1 R2
  have hnum : linkB l = true → 0 ≤ l.acked ∧ l.acked ≤ 100000 := fun h => by have := linkB_nums h; omega
  generalize linkB l = bb at *
  go_enter Try.func10, Try.ntmps10
  go_wp2
  go_loopw [3, 4] (fun p i wr => ∃ j : Nat, j ≤ N ∧ i = .int .i64 j ∧ wr.ownsRow (w.heap.size + 1) 31 2 p (showP l.acked l.q j).length (pccs (showP l.acked l.q j)) ∧ wr.heap[w.heap.size]? = some (.cells #[.int .i64 l.sent, .int .i64 l.acked, .slice a1 l.q.length c1, .int .i64 l.got, .slice a2 l.h.length c2] 27 (0, 0)) ∧ Below w.heap.size w wr) (fun _ i _ => N - (intOf i).toNat)
  case atStart => exact ⟨0, by omega, rfl, by rw [showP_zero]; exact own0, hx0, hB0⟩
  case round =>
    clear own0 hx0 hB0
    obtain ⟨j, hj, rfl, hown, hx, hB⟩ := hrel
    have e0 : wr.cell? ⟨w.heap.size, 0, none⟩ = some (.int .i64 l.sent) := cell_of_row wr _ 0 _ _ _ hx
    have e1 : wr.cell? ⟨w.heap.size, 1, none⟩ = some (.int .i64 l.acked) := cell_of_row wr _ 1 _ _ _ hx
    have e2 : wr.cell? ⟨w.heap.size, 2, none⟩ = some (.slice a1 l.q.length c1) := cell_of_row wr _ 2 _ _ _ hx
    have e3 : wr.cell? ⟨w.heap.size, 3, none⟩ = some (.int .i64 l.got) := cell_of_row wr _ 3 _ _ _ hx
    have e4 : wr.cell? ⟨w.heap.size, 4, none⟩ = some (.slice a2 l.h.length c2) := cell_of_row wr _ 4 _ _ _ hx
    by_cases hlt : j < N
    · have hbt := hN4 (by omega)
      subst hbt
      obtain ⟨ha0, ha1⟩ := hnum rfl
      have hlq : j < l.q.length := by omega
      have hl4 : (j : Int) < 4 := by omega
      go_wp2_with fail
      refine (SO _ _ _ (R10.below hB) (R2.below hB)).mono ?_
      rintro e w1 ⟨rfl, hb1⟩
      have hx1 := (hb1.block _ (Array.getElem?_eq_some_iff.1 hx).1).trans hx
      have own1 := own_below hown hb1
      have hB1 := hB.trans (hb1.mono hB.size)
      clear e0 e1 e2 e3 e4 hx hB hb1 hown
      obtain ⟨g, o, rfl, hg, hcell⟩ := hcell (by intro e; rw [e] at hlq; simp at hlq)
      obtain ⟨s, hs⟩ : ∃ s, l.q[j]? = some s := ⟨l.q[j], by simp [hlq]⟩
      have cq := (hB1.cell (p := ⟨g, o + j, none⟩) hg).trans (hcell j s hs)
      have hsz := hzq s (List.mem_of_getElem? hs)
      have cx1 : w1.cell? ⟨w.heap.size, 1, none⟩ = some (.int .i64 l.acked) := cell_of_row w1 _ 1 _ _ _ hx1
      have cx2 : w1.cell? ⟨w.heap.size, 2, none⟩ = some (.slice (some ⟨g, o, none⟩) l.q.length c1) := cell_of_row w1 _ 2 _ _ _ hx1
      have HS : Hid (showP l.acked l.q (j + 1) = showP l.acked l.q j ++ [⟨l.acked + (j : Int), s⟩]) := showP_succ _ _ _ _ hs
      have hL : (showP l.acked l.q j).length ≤ 4 := by rw [showP_length _ _ _ (by omega)]; omega
      clear hcell hs hN3 hN4 hnum SO
      generalize showP l.acked l.q j = L at *
      obtain ⟨ap, cp, rfl⟩ := own_form own1
      have L1 := PcRow.lit1 w1 ⟨l.acked + (j : Int), s⟩ hsz
      have hlt' : (j : Int) < l.q.length := by omega
      have W1 : IntKind.i64.wrap (l.acked + (j : Int)) = l.acked + (j : Int) := by rw [IntKind.wrap_i64]; omega
      have hwz : w.heap.size < w1.heap.size := (Array.getElem?_eq_some_iff.1 hx1).1
      go_wp2_with fail
      go_region_law (refine step_append_own_any _ rfl _ _ 25 rfl (w.heap.size + 1) 31 i0 _ 2 24 Try.underlying25 hi hz0 hz1 hz2 rfl (by decide) _ _ _ rfl (own1.drew.alloc _) (some ⟨w1.heap.size, 0, none⟩) 1 1 (pccs [⟨l.acked + (j : Int), s⟩]) rfl rfl (PcRow.lit1 w1.drew ⟨l.acked + (j : Int), s⟩ hsz).nilcap (PcRow.lit1 w1.drew ⟨l.acked + (j : Int), s⟩ hsz).cells (pccs_one _) (by unfold maxLen; omega) (by omega) (by simp; omega) ?_; intro u4 w4 o4 hg4)
      all_goals
        have hx4 := (hg4.block _ (by simp; omega) (fun e => own_ne own1 hx1 (by decide) e.symm)).trans ((heap_alloc_old w1.drew _ hwz).trans hx1)
        have hB4 : Below w.heap.size w w4 := (hB1.drew.alloc hB1.size _).grown hg4 (by simp; omega) (fun k hk => by have := (own1.lt k hk).1; omega)
        have o4' : w4.ownsRow (w.heap.size + 1) 31 2 u4 (showP l.acked l.q (j + 1)).length (pccs (showP l.acked l.q (j + 1))) := by rw [HS.out, pccs_append, List.length_append]; exact o4
        clear hg4 o4 own1 hx1 hB1 L1 cq cx1 cx2 HS
        go_wp2
        go_roundw
        case rel => exact ⟨j + 1, by omega, by go_num, o4', hx4, hB4⟩
        case measure => simp [intOf]; omega
    · have hje : j = N := by omega
      have fin : ∀ W : World, Below wr.heap.size wr W → ∀ p, wr.ownsRow (w.heap.size + 1) 31 2 p (showP l.acked l.q j).length (pccs (showP l.acked l.q j)) → W.ownsRow w.heap.size 31 2 p (showR l).length (pccs (showR l)) ∧ Below w.heap.size w W := by
        intro W hW p hp
        rw [HR.out, ← hje]
        exact ⟨own_mono (own_below hp hW) (by omega), hB.trans (hW.mono hB.size)⟩
      by_cases hl1 : j < l.q.length
      · by_cases hl2 : j < 4
        · have hbf := hN3 (by omega) (by omega)
          subst hbf
          have hl2' : (j : Int) < 4 := by omega
          go_wp2_with fail
          refine (SO _ _ _ (R10.below hB) (R2.below hB)).mono ?_
          rintro e w1 ⟨rfl, hb1⟩
          go_wp2
          go_ret
          exact ⟨_, rfl, fin _ hb1 _ hown⟩
        · have hl2' : ¬ (j : Int) < 4 := by omega
          go_wp2
          go_ret
          exact ⟨_, rfl, fin _ (Below.refl _ _) _ hown⟩
      · have hl1' : ¬ (j : Int) < l.q.length := by omega
        go_wp2
        go_ret
        exact ⟨_, rfl, fin _ (Below.refl _ _) _ hown⟩
end Go.Proofs.Ytahdinippghlaab
