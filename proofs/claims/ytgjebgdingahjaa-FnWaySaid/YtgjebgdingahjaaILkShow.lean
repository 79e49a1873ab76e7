/-
  Contract of impl's LinkShow. No condition.
-/
import Derived.Test.YtgjebgdingahjaaLkShowM
namespace Go.Proofs.Ytgjebgdingahjaa
open Go.RowKit

set_option maxRecDepth 100000 in
set_option maxHeartbeats 3200000 in
theorem ilinkshow_any (v1 v2 : Value) (l : Lk) (w : World) (R1 : StRow w v1 l.q) (R2 : PcRow w v2 l.h) :
    Calls Try.prog 8 #[.agg #[.int .i64 l.sent, .int .i64 l.acked, v1, .int .i64 l.got, v2]] w fun e w' => ∃ v, e = .returned v ∧ w'.ownsRow w.heap.size 36 2 v (showR l).length (pccs (showR l)) ∧ Below w.heap.size w w' := by
  have hzq := R1.sz
  have R10 := R1
  obtain ⟨a1, c1, rfl, hcap1, hm1, _, hcell⟩ := R1
  obtain ⟨a2, c2, rfl⟩ := R2.small
  obtain ⟨i0, hi, hz0, hz1, hz2⟩ := info_parts Try.infoPc
  obtain ⟨hB0, hx0, _⟩ := two_bx w (Obj.cells #[.int .i64 l.sent, .int .i64 l.acked, .slice a1 l.q.length c1, .int .i64 l.got, .slice a2 l.h.length c2] 27) (Obj.cells #[] 36)
  have own0 : ((w.alloc (Obj.cells #[.int .i64 l.sent, .int .i64 l.acked, .slice a1 l.q.length c1, .int .i64 l.got, .slice a2 l.h.length c2] 27)).alloc (Obj.cells #[] 36)).ownsRow (w.heap.size + 1) 36 2 (.slice (some ⟨w.heap.size + 1, 0, none⟩) 0 0) 0 [] := by
    have := own_none0 (w.alloc (Obj.cells #[.int .i64 l.sent, .int .i64 l.acked, .slice a1 l.q.length c1, .int .i64 l.got, .slice a2 l.h.length c2] 27)) 36 2 (w.heap.size + 1) (by simp)
    simpa using this
  go_enter Try.func8, Try.ntmps8
  go_wp2_with (refine wpList_load_row rfl 27 _ rfl w.heap.size rfl 27 #[.int .i64 l.sent, .int .i64 l.acked, .slice a1 l.q.length c1, .int .i64 l.got, .slice a2 l.h.length c2] (0, 0) _ hx0 Try.underlying27 rfl Try.sizeLk ?_)
  refine (ilinkok_any _ _ l _ (R10.below hB0) (R2.below hB0)).mono ?_
  rintro e w1 ⟨rfl, hb1⟩
  have hx1 := (hb1.block _ (Array.getElem?_eq_some_iff.1 hx0).1).trans hx0
  have own1 := own_below own0 hb1
  have hB1 := hB0.trans (hb1.mono hB0.size)
  clear hB0 hx0 own0 hb1
  cases hlb : linkB l with
  | false =>
    have HR : Hid (showR l = []) := showR_bad hlb
    go_wp2
    go_ret
    exact ⟨_, rfl, by rw [HR.out]; exact own_mono own1 (by omega), hB1⟩
  | true =>
    obtain ⟨n1, n2, n3, n4, n5, n6⟩ := linkB_nums hlb
    have N5 : Hid ((l.q.length : Int) = l.sent - l.acked) := n5
    clear n5
    have cx2 : w1.cell? ⟨w.heap.size, 2, none⟩ = some (.slice a1 l.q.length c1) := by rw [cell_of_row w1 _ 2 _ _ _ hx1]; rfl
    by_cases h4 : 4 ≤ l.q.length
    · have HR : Hid (showR l = showP l.acked l.q 4) := showR_four hlb h4
      have h4' : (4 : Int) ≤ l.q.length := by omega
      have hc4 : 4 ≤ c1 := by omega
      clear hlb
      go_wp2
      go_loopw [3, 19] (fun p i wr => ∃ j : Nat, j ≤ 4 ∧ i = .int .i64 j ∧ wr.ownsRow (w.heap.size + 1) 36 2 p (showP l.acked l.q j).length (pccs (showP l.acked l.q j)) ∧ wr.heap[w.heap.size]? = some (.cells #[.int .i64 l.sent, .int .i64 l.acked, .slice a1 l.q.length c1, .int .i64 l.got, .slice a2 l.h.length c2] 27 (0, 0)) ∧ Below w.heap.size w wr) (fun _ i _ => 4 - (intOf i).toNat)
      case atStart => exact ⟨0, by omega, rfl, by rw [showP_zero]; exact own1, hx1, hB1⟩
      case round =>
        clear own1 hx1 hB1 cx2
        obtain ⟨j, hj, rfl, hown, hx, hB⟩ := hrel
        by_cases hlt : j < 4
        · have hlq : j < l.q.length := by omega
          obtain ⟨g, o, rfl, hg, hcell⟩ := hcell (by intro e; rw [e] at hlq; simp at hlq)
          obtain ⟨s, hs⟩ : ∃ s, l.q[j]? = some s := ⟨l.q[j], by simp [hlq]⟩
          have cq := (hB.cell (p := ⟨g, o + j, none⟩) hg).trans (hcell j s hs)
          have hsz := hzq s (List.mem_of_getElem? hs)
          have cx1 : wr.cell? ⟨w.heap.size, 1, none⟩ = some (.int .i64 l.acked) := by rw [cell_of_row wr _ 1 _ _ _ hx]; rfl
          have HS : Hid (showP l.acked l.q (j + 1) = showP l.acked l.q j ++ [⟨l.acked + (j : Int), s⟩]) := showP_succ _ _ _ _ hs
          have hL : (showP l.acked l.q j).length ≤ 4 := by rw [showP_length _ _ _ (by omega)]; omega
          clear hcell hs
          generalize showP l.acked l.q j = L at *
          obtain ⟨ap, cp, rfl⟩ := own_form hown
          have L1 := PcRow.lit1 wr ⟨l.acked + (j : Int), s⟩ hsz
          have hlt' : (j : Int) < 4 := by omega
          have W1 : IntKind.i64.wrap (l.acked + (j : Int)) = l.acked + (j : Int) := by rw [IntKind.wrap_i64]; omega
          have hwz : w.heap.size < wr.heap.size := (Array.getElem?_eq_some_iff.1 hx).1
          go_wp2_with (at_builtin; refine wpList_append_own_any _ rfl _ _ 25 rfl (w.heap.size + 1) 36 i0 _ 2 24 Try.underlying25 hi hz0 hz1 hz2 rfl (by decide) _ _ _ rfl (hown.alloc _) (some ⟨wr.heap.size, 0, none⟩) 1 1 (pccs [⟨l.acked + (j : Int), s⟩]) rfl rfl L1.nilcap L1.cells (pccs_one _) (by unfold maxLen; omega) (by omega) (by simp; omega) ?_)
          intro u4 w4 o4 hg4
          have hx4 := (hg4.block _ (by simp; omega) (fun e => own_ne hown hx (by decide) e.symm)).trans ((heap_alloc_old _ _ hwz).trans hx)
          have hB4 : Below w.heap.size w w4 := (hB.alloc hB.size _).grown hg4 (by simp; omega) (fun k hk => by have := (hown.lt k hk).1; omega)
          have o4' : w4.ownsRow (w.heap.size + 1) 36 2 u4 (showP l.acked l.q (j + 1)).length (pccs (showP l.acked l.q (j + 1))) := by rw [HS.out, pccs_append, List.length_append]; exact o4
          clear hg4 o4 hown hx hB L1 cq cx1 HS
          go_wp2
          go_roundw
          case rel => exact ⟨j + 1, by omega, by go_num, o4', hx4, hB4⟩
          case measure => simp [intOf]; omega
        · have hlt' : ¬ (j : Int) < 4 := by omega
          have hje : j = 4 := by omega
          rw [hje] at hown
          clear hj hlt
          go_wp2
          go_ret
          exact ⟨_, rfl, by rw [HR.out]; exact own_mono hown (by omega), hB⟩
    · have HR : Hid (showR l = showP l.acked l.q l.q.length) := showR_few hlb h4
      have h4' : ¬ (4 : Int) ≤ l.q.length := by omega
      clear hlb
      go_wp2
      go_loopw [3, 19] (fun p i wr => ∃ j : Nat, j ≤ l.q.length ∧ i = .int .i64 j ∧ wr.ownsRow (w.heap.size + 1) 36 2 p (showP l.acked l.q j).length (pccs (showP l.acked l.q j)) ∧ wr.heap[w.heap.size]? = some (.cells #[.int .i64 l.sent, .int .i64 l.acked, .slice a1 l.q.length c1, .int .i64 l.got, .slice a2 l.h.length c2] 27 (0, 0)) ∧ Below w.heap.size w wr) (fun _ i _ => l.q.length - (intOf i).toNat)
      case atStart => exact ⟨0, by omega, rfl, by rw [showP_zero]; exact own1, hx1, hB1⟩
      case round =>
        clear own1 hx1 hB1 cx2
        obtain ⟨j, hj, rfl, hown, hx, hB⟩ := hrel
        by_cases hlt : j < l.q.length
        · have hlq : j < l.q.length := by omega
          obtain ⟨g, o, rfl, hg, hcell⟩ := hcell (by intro e; rw [e] at hlq; simp at hlq)
          obtain ⟨s, hs⟩ : ∃ s, l.q[j]? = some s := ⟨l.q[j], by simp [hlq]⟩
          have cq := (hB.cell (p := ⟨g, o + j, none⟩) hg).trans (hcell j s hs)
          have hsz := hzq s (List.mem_of_getElem? hs)
          have cx1 : wr.cell? ⟨w.heap.size, 1, none⟩ = some (.int .i64 l.acked) := by rw [cell_of_row wr _ 1 _ _ _ hx]; rfl
          have HS : Hid (showP l.acked l.q (j + 1) = showP l.acked l.q j ++ [⟨l.acked + (j : Int), s⟩]) := showP_succ _ _ _ _ hs
          have hL : (showP l.acked l.q j).length ≤ 4 := by rw [showP_length _ _ _ (by omega)]; omega
          clear hcell hs
          generalize showP l.acked l.q j = L at *
          obtain ⟨ap, cp, rfl⟩ := own_form hown
          have L1 := PcRow.lit1 wr ⟨l.acked + (j : Int), s⟩ hsz
          have hlt' : (j : Int) < l.q.length := by omega
          have W1 : IntKind.i64.wrap (l.acked + (j : Int)) = l.acked + (j : Int) := by rw [IntKind.wrap_i64]; omega
          have hwz : w.heap.size < wr.heap.size := (Array.getElem?_eq_some_iff.1 hx).1
          go_wp2_with (at_builtin; refine wpList_append_own_any _ rfl _ _ 25 rfl (w.heap.size + 1) 36 i0 _ 2 24 Try.underlying25 hi hz0 hz1 hz2 rfl (by decide) _ _ _ rfl (hown.alloc _) (some ⟨wr.heap.size, 0, none⟩) 1 1 (pccs [⟨l.acked + (j : Int), s⟩]) rfl rfl L1.nilcap L1.cells (pccs_one _) (by unfold maxLen; omega) (by omega) (by simp; omega) ?_)
          intro u4 w4 o4 hg4
          have hx4 := (hg4.block _ (by simp; omega) (fun e => own_ne hown hx (by decide) e.symm)).trans ((heap_alloc_old _ _ hwz).trans hx)
          have hB4 : Below w.heap.size w w4 := (hB.alloc hB.size _).grown hg4 (by simp; omega) (fun k hk => by have := (hown.lt k hk).1; omega)
          have o4' : w4.ownsRow (w.heap.size + 1) 36 2 u4 (showP l.acked l.q (j + 1)).length (pccs (showP l.acked l.q (j + 1))) := by rw [HS.out, pccs_append, List.length_append]; exact o4
          clear hg4 o4 hown hx hB L1 cq cx1 HS
          go_wp2
          go_roundw
          case rel => exact ⟨j + 1, by omega, by go_num, o4', hx4, hB4⟩
          case measure => simp [intOf]; omega
        · have hlt' : ¬ (j : Int) < l.q.length := by omega
          have hje : j = l.q.length := by omega
          rw [hje] at hown
          clear hj hlt
          go_wp2
          go_ret
          exact ⟨_, rfl, by rw [HR.out]; exact own_mono hown (by omega), hB⟩
end Go.Proofs.Ytgjebgdingahjaa
