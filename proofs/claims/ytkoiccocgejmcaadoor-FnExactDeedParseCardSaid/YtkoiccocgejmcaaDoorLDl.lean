/-
  The law FnExactDeedLine, walked. The table of tens and the words of deeds read as they are laid.
-/
import Derived.Test.YtkoiccocgejmcaaDoorIDl
namespace Go.Proofs.YtkoiccocgejmcaaDoor
open Go.RowKit

set_option maxRecDepth 100000 in
set_option maxHeartbeats 1600000 in
theorem ldl_any (k a b : Int) (B : Nat) (w : World) (hBB : B ≤ w.heap.size) (hT : Pow B w) (hW : Wds w) (ha : a ≤ 9223372036854775807) (hb : b ≤ 9223372036854775807) :
    Calls Tryd.prog 3 #[.agg #[.int .i64 k, .int .i64 a, .int .i64 b]] w fun e w' => e = .returned (.bool true) ∧ Below w.heap.size w w' := by
  have hB : Below w.heap.size w (w.alloc (Obj.cells #[.int .i64 k, .int .i64 a, .int .i64 b] 23)) := (Below.refl _ _).alloc (Nat.le_refl _) _
  have IG := fun (w' : World) (h : Below w.heap.size w w') => idl_any k a b B w' (Nat.le_trans hBB h.size) (hT.on (h.mono hBB)) (hW.on h) ha hb
  have SG := fun w' => sdl_any k a b w'
  generalize dlB k a b = r at *
  generalize dlS k a b = s at *
  have rr : (r != r) = false := by simp
  clear hT hW
  go_enter Tryd.func3, Tryd.ntmps3
  go_wp2_with fail
  refine (todeed_any k a b _).mono ?_
  rintro e w1 ⟨rfl, hb1⟩
  have hx1 : w1.heap[w.heap.size]? = some (.cells #[.int .i64 k, .int .i64 a, .int .i64 b] 23 (0, 0)) := (hb1.block _ (by simp)).trans (heap_alloc_new _ _)
  have hB1 := hB.trans (hb1.mono hB.size)
  clear hb1 hB
  go_wp2_with fail
  refine (SG _).mono ?_
  rintro e w2 ⟨rfl, hb2⟩
  have hx2 := (hb2.block _ (Array.getElem?_eq_some_iff.1 hx1).1).trans hx1
  have hB2 := hB1.trans (hb2.mono hB1.size)
  clear hb2 hB1 hx1
  go_wp2_with (refine wpList_load_row rfl 23 _ rfl w.heap.size rfl 23 #[.int .i64 k, .int .i64 a, .int .i64 b] (0, 0) _ hx2 Tryd.underlying23 rfl Tryd.sizeLDeed ?_)
  refine (todeed_any k a b _).mono ?_
  rintro e w3 ⟨rfl, hb3⟩
  have hB3 := hB2.trans (hb3.mono hB2.size)
  clear hb3 hB2 hx2
  go_wp2_with fail
  refine (IG _ hB3).mono ?_
  rintro e w4 ⟨rfl, hb4⟩
  have hB4 := hB3.trans (hb4.mono hB3.size)
  clear hb4 hB3
  go_wp2
  go_ret
  exact ⟨rfl, hB4⟩
end Go.Proofs.YtkoiccocgejmcaaDoor
