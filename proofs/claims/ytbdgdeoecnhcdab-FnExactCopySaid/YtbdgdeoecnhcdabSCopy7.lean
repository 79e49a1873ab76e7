/-
  Contracts of spec's l7Copy and Copy. Conditions of l7Copy: the pool is right, v is a node of it.
-/
import Derived.Test.YtbdgdeoecnhcdabSInto
import Derived.Test.YtbdgdeoecnhcdabCyMath
import Derived.Deep.RegionHeld
namespace Go.Proofs.Ytbdgdeoecnhcdab
open Go.RowKit

theorem drew_step7 {w w' : World} (h : Below w.drew.heap.size w.drew w') : Below w.heap.size w w' := (Below.refl w.heap.size w).drew.trans h
theorem lit1_row (w : World) (z : Int) : IRow (w.alloc (Obj.cells #[.int .i64 z] 3)) (.slice (some ⟨w.heap.size, 0, none⟩) 1 1) [z] :=
  ⟨_, _, rfl, ⟨Nat.le_refl _, fun h => by cases h⟩, by simp, fun _ => ⟨w.heap.size, 0, rfl, by simp, fun i hi => by
    have : i = 0 := by simpa using hi
    subst this
    rw [cell_of_row _ _ _ _ _ _ (heap_alloc_new w _)]
    rfl⟩⟩
theorem allI_one (xs : List Nd) (v : Nat) (h : v < xs.length) : allI xs [(v : Int)] = true := by simp [allI, hasI]; omega

set_option maxRecDepth 100000 in
set_option maxHeartbeats 3200000 in
theorem slcopy7_any (b base : Nat) (ap : Option Addr) (cp : Nat) (ps xs : List Nd) (ao : Option Addr) (cap v : Nat) (w0 w : World) (hb : w.heap[b]? = some (.cells #[.slice ap ps.length cp] 28 (0, 0))) (ho : w.ownsRow base 70 5 (.slice ap ps.length cp) ps.length (ncs ps)) (hbb : base ≤ b)
    (R : NRow w0 (.slice ao xs.length cap) xs) (hw0 : w0.heap.size ≤ base) (h0 : Below base w0 w) (hp : poolB xs = true) (hps : ps.length ≤ 3001) (hv : v < xs.length) :
    Calls Try.prog 23 #[.pointer (some ⟨b, 0, none⟩), .agg #[.slice ao xs.length cap], .int .i64 (v : Int)] w fun e w' => ∃ vp, e = .returned (.int .i64 ((mvAll ps.length xs (reachL xs [(v : Int)])).2.getD v 0)) ∧ w'.heap[b]? = some (.cells #[vp] 28 (0, 0)) ∧ w'.ownsRow base 70 5 vp (ps ++ mvN ps.length xs [(v : Int)]).length (ncs (ps ++ mvN ps.length xs [(v : Int)])) ∧ Below base w0 w' := by
  obtain ⟨y, hy⟩ : ∃ y, (mvAll ps.length xs (reachL xs [(v : Int)])).2.getD v 0 = y := ⟨_, rfl⟩
  have HY : Hid ((mvAll ps.length xs (reachL xs [(v : Int)])).2.getD v 0 = y) := hy
  rw [hy]
  clear hy
  have hlen := poolB_len hp
  have hbw := (Array.getElem?_eq_some_iff.1 hb).1
  have hB1 : Below w.heap.size w (w.alloc (Obj.cells #[.slice ao xs.length cap] 28)) := (Below.refl _ _).alloc (Nat.le_refl _) _
  have k1 : (w.alloc (Obj.cells #[.slice ao xs.length cap] 28)).cell? ⟨w.heap.size, 0, none⟩ = some (.slice ao xs.length cap) := by rw [cell_of_row _ _ 0 _ _ _ (heap_alloc_new w _)]; rfl
  have hs1 : (w.alloc (Obj.cells #[.slice ao xs.length cap] 28)).heap.size = w.heap.size + 1 := by simp
  go_enter Try.func23, Try.ntmps23
  go_wp2_with fail
  generalize w.alloc (Obj.cells #[.slice ao xs.length cap] 28) = W1 at *
  have hrl := reachL_length xs [(v : Int)]
  have hal := allI_one xs v hv
  have hl2 : (mvAll ps.length xs (reachL xs [(v : Int)])).2.length = xs.length := (mvF_len _ _ _).2
  have HN : Hid (mvN ps.length xs [(v : Int)] = (mvAll ps.length xs (reachL xs [(v : Int)])).1) := rfl
  have hl1 : w.heap.size < W1.heap.size := by omega
  have h01 := h0.trans (hB1.mono (by omega))
  have hlit : IRow (W1.alloc (Obj.cells #[.int .i64 (v : Int)] 3)).drew (.slice (some ⟨w.heap.size + 1, 0, none⟩) 1 1) [(v : Int)] := by
    have h := (lit1_row W1 (v : Int)).below (Below.refl _ _).drew
    rw [hs1] at h
    exact h
  have hd1 : Below W1.heap.size W1 (W1.alloc (Obj.cells #[.int .i64 (v : Int)] 3)).drew := ((Below.refl W1.heap.size W1).alloc (Nat.le_refl _) _).drew
  have hsd : (W1.alloc (Obj.cells #[.int .i64 (v : Int)] 3)).drew.heap.size = W1.heap.size + 1 := by simp
  go_region_with (first
    | (go_at_call 43; refine (slreach_any ao cap _ xs [(v : Int)] _ ?_ ?_ hp hal).mono ?_; exact (R.below (h01.mono hw0)).below hd1; exact hlit; rintro e wk ⟨vk, rfl, hok, hbk⟩; obtain ⟨aok, capk, rfl⟩ := own_form hok
       have hb34 : Below W1.heap.size W1 wk := hd1.trans (hbk.mono (by omega))
       have k4 := (hb34.cell (p := ⟨w.heap.size, 0, none⟩) hl1).trans k1)
    | (go_at_call 42; refine (sinto_any b base ap cp ps xs (reachL xs [(v : Int)]) ao cap _ w0 _ ((hb34.block _ (by omega)).trans ((hB1.block _ hbw).trans hb)) (own_below (own_below ho hB1) hb34) hbb R hw0 (h01.trans (hb34.mono (by omega))) (own_mono hok (by omega)) hrl hp hps).mono ?_; rintro e w5 ⟨v5, vp, rfl, hb5, ho5, hi5, hB5⟩
       obtain ⟨a5, q5, rfl⟩ := own_form hi5
       rcases hi5.2 with ⟨hnil, hn0⟩ | ⟨g5, cap5, cur5, e5, _, _, _⟩
       · omega
       simp only [Value.slice.injEq, true_and] at e5
       obtain ⟨rfl, rfl⟩ := e5
       have e9 := (hi5.cellAt v (by omega)).trans (iv_get _ _ (by omega))
       rw [HY.out] at e9))
  all_goals
    go_wp2
    go_ret
    exact ⟨_, rfl, hb5, by rw [HN.out]; exact ho5, hB5⟩
end Go.Proofs.Ytbdgdeoecnhcdab
