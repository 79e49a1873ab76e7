/-
  Contracts of impl's upTo and Copy. Conditions of upTo: v is a node.
-/
import Derived.Test.YtbdgdeoecnhcdabMv2
import Derived.Test.YtbdgdeoecnhcdabCyMath
import Derived.Deep.RegionWith
import Derived.Deep.RegionLawGrows
import Derived.Deep.CutRange
import Derived.Deep.DeepCutAuto
namespace Go.Proofs.Ytbdgdeoecnhcdab
open Go.RowKit

theorem NRow.cut {w : World} {ao : Option Addr} {cap : Nat} {xs : List Nd} (R : NRow w (.slice ao xs.length cap) xs) (n : Nat) (h : n ≤ xs.length) (hn : 0 < n) : NRow w (.slice ao n n) (xs.take n) := by
  obtain ⟨ao', cap', e', ⟨h1, h2⟩, hm, hz, hcell⟩ := R
  simp only [Value.slice.injEq, true_and] at e'
  obtain ⟨rfl, rfl⟩ := e'
  have hl : (xs.take n).length = n := by simp; omega
  obtain ⟨g, o, e, hg, hc⟩ := hcell (by intro e; subst e; simp at h; omega)
  refine ⟨ao, n, by rw [hl], ⟨by omega, fun e0 => by rw [e0] at e; cases e⟩, by omega, fun x hx => hz x (List.mem_of_mem_take hx), fun _ => ⟨g, o, e, hg, fun i x hi => hc i x ?_⟩⟩
  rw [List.getElem?_take] at hi
  split at hi
  · exact hi
  · cases hi

set_option maxHeartbeats 800000 in
theorem upto7_any (g o n cap v : Nat) (w : World) (hv : v < n) (hc : n ≤ cap) (hn : n ≤ 3000) :
    Calls Try.prog 28 #[.agg #[.slice (some ⟨g, o, none⟩) n cap], .int .i64 (v : Int)] w fun e w' => e = .returned (.agg #[.slice (some ⟨g, o, none⟩) (v + 1) (v + 1)]) ∧ Below w.heap.size w w' := by
  go_enter Try.func28, Try.ntmps28
  go_wp2
  exact bodyPost_ret (results_cell_row rfl _ _ (w.heap.size + 1) 28 _ (0, 0) _ rfl (heap_alloc2_new _ _ _) Try.underlying28 rfl Try.sizeP) rfl ⟨rfl, below2 w _ _⟩
end Go.Proofs.Ytbdgdeoecnhcdab
