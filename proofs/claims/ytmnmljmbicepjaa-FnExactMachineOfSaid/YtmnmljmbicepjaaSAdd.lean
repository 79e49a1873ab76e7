/-
  Contract of spec's l2Add: a node behind the pool that a pointer leads to.
-/
import Derived.Test.YtmnmljmbicepjaaSMake
import Derived.Deep.RegionLaw
import Derived.Deep.AppendLies
namespace Go.Proofs.Ytmnmljmbicepjaa
open Go.RowKit

set_option maxHeartbeats 1600000 in
theorem sadd_any (b base : Nat) (ao : Option Addr) (cap : Nat) (xs : List Nd) (x : Nd) (w : World) (hb : w.heap[b]? = some (.cells #[.slice ao xs.length cap] 32 (0, 0))) (ho : w.ownsRow base 60 5 (.slice ao xs.length cap) xs.length (ncs xs))
    (hm : xs.length ≤ 2097152) (hbb : base ≤ b) :
    Calls Try.prog 37 #[.pointer (some ⟨b, 0, none⟩), .agg #[.int .i64 x.k, .int .i64 x.n, .string x.s, .int .i64 x.a, .int .i64 x.b]] w fun e w' =>
      ∃ v', e = .returned (.int .i64 xs.length) ∧ w'.heap[b]? = some (.cells #[v'] 32 (0, 0)) ∧ w'.ownsRow base 60 5 v' (xs ++ [x]).length (ncs (xs ++ [x])) ∧ Below base w w' := by
  obtain ⟨i0, hi, hz0, hz1, hz2⟩ := info_parts Try.infoN
  have hlt : b < w.heap.size := (Array.getElem?_eq_some_iff.1 hb).1
  have hcb : w.cell? ⟨b, 0, none⟩ = some (.slice ao xs.length cap) := by rw [cell_of_row w b 0 _ _ _ hb]; rfl
  have hne : b ≠ w.heap.size := by omega
  go_enter Try.func37, Try.ntmps37
  go_wp2_with fail
  go_region_law (refine step_append_lies _ rfl _ _ 30 rfl base 60 i0 _ 5 48 Try.underlying30 hi hz0 hz1 hz2 rfl (by decide) _ _ _ rfl ((ho.alloc _).alloc _) ⟨w.heap.size + 1, 0, none⟩ 1 1 (ncs [x]) rfl rfl (World.news_of_block (cs := #[.int .i64 x.k, .int .i64 x.n, .string x.s, .int .i64 x.a, .int .i64 x.b]) (t := 60) (fr := (0, 0)) (heap_alloc2_new w _ _)) (ncs_one _) (by omega) (by unfold maxLen; omega) (by omega) (by simp; omega) (w.heap.size + 2) (by simp) ?_; intro g capg w1 hown hgrow hat hgl; have hb1 : w1.heap[b]? = some (.cells #[.slice ao xs.length cap] 32 (0, 0)) := (hgrow.block b (by simp; omega) (fun e => own_ne ho hb (by decide) e.symm)).trans ((heap_alloc_old _ _ (by simp; omega)).trans ((heap_alloc_old _ _ hlt).trans hb)); have kb1 : w1.cell? ⟨b, 0, none⟩ = some (.slice ao xs.length cap) := cell_of_row w1 b 0 _ _ _ hb1; have fb1 : w1.frozen? ⟨b, 0, none⟩ = false := frozen_of_row w1 b 0 _ _ hb1)
  all_goals
    have hown2 : w1.ownsRow base 60 5 (.slice (some ⟨g, 0, none⟩) (xs.length + 1) capg) (xs ++ [x]).length (ncs (xs ++ [x])) := by
      rw [ncs_append, List.length_append]
      exact hown
    have hs0 : base ≤ w.heap.size := by omega
    have hB1 : Below base w w1 := (((Below.refl base w).alloc hs0 _).drew.alloc (by simp; omega) _).grown hgrow (by simp; omega) (fun k hk => (ho.lt k hk).1)
    have hB2 := hB1.setCell (p := ⟨b, 0, none⟩) hbb (.slice (some ⟨g, 0, none⟩) (xs.length + 1) capg)
    have ho2 := ownsRow_setCell_other hown2 (a := ⟨b, 0, none⟩) (own_ne hown2 hb1 (by decide)) (.slice (some ⟨g, 0, none⟩) (xs.length + 1) capg)
    have hb2 := heap_setCell_same w1 b 0 _ _ (.slice (some ⟨g, 0, none⟩) (xs.length + 1) capg) hb1
    clear hown hgrow hat hcb hb
    go_wp2
    go_ret
    exact ⟨_, by simp, hb2, ho2, hB2⟩
end Go.Proofs.Ytmnmljmbicepjaa
