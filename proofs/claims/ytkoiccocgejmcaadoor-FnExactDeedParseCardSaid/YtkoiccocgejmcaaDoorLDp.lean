/-
  The law FnExactDeedParse, walked. The listed variables read as they are laid.
-/
import Derived.Test.YtkoiccocgejmcaaDoorIDp8
namespace Go.Proofs.YtkoiccocgejmcaaDoor
open Go.RowKit

set_option maxHeartbeats 800000 in
theorem eqdeed_any (k x y : Int) (w : World) :
    Calls Tryd.prog 10 #[.agg #[.int .i64 k, .int .i64 x, .int .i64 y], .agg #[.int .i64 k, .int .i64 x, .int .i64 y]] w fun e w' => e = .returned (.bool true) ∧ Below w.heap.size w w' := by
  have hb := ((Below.refl w.heap.size w).alloc (Nat.le_refl _) (Obj.cells #[.int .i64 k, .int .i64 x, .int .i64 y] 26)).alloc (by simp) (Obj.cells #[.int .i64 k, .int .i64 x, .int .i64 y] 26)
  go_enter Tryd.func10, Tryd.ntmps10
  go_wp2
  go_ret
  exact ⟨rfl, hb⟩

set_option maxRecDepth 100000 in
set_option maxHeartbeats 3200000 in
theorem ldp_any (s : ByteArray) (B : Nat) (a : Addr) (w : World) (hE : EnvD B a w) (hs : s.size ≤ maxLen) :
    Calls Tryd.prog 4 #[.string s] w fun e w' => e = .returned (.bool true) ∧ Below w.heap.size w w' := by
  unfold maxLen at hs
  by_cases hb : 1048576 < s.size
  · go_enter Tryd.func4, Tryd.ntmps4
    go_wp2
    go_ret
    exact ⟨rfl, Below.refl _ _⟩
  · have hle : s.size ≤ 1048576 := by omega
    have hll : s.data.toList.length = s.size := by rw [Array.length_toList]; rfl
    have SP := sdp_any s w hle
    have IP := fun w' (h : Below w.heap.size w w') => idp_any s.data.toList B a w' (hE.on h) (by omega)
    rw [← tx_all s] at IP
    clear hE hll
    go_enter Tryd.func4, Tryd.ntmps4
    go_wp2_with fail
    refine SP.mono ?_
    rintro e w1 ⟨k, x, y, ok, rfl, h1, hb1⟩
    go_wp2_with (refine wpList_store_own2 rfl 26 _ _ rfl w1.heap.size #[.int .i64 k, .int .i64 x, .int .i64 y] rfl rfl 26 _ (heap_alloc_new _ _) Tryd.sizeDeed rfl (by simp [Value.oneCell']) ?_)
    intro w2 r2 hb2 _ _
    have hB2 : Below w.heap.size w w2 := hb1.trans ((((Below.refl _ _).alloc (Nat.le_refl _) _).trans hb2).mono hb1.size)
    have lt2 := (Array.getElem?_eq_some_iff.1 r2).1
    clear SP hb1 hb2
    go_wp2_with fail
    refine (IP _ hB2).mono ?_
    rintro e w3 ⟨k', x', y', ok', rfl, h2, hb3⟩
    obtain ⟨rfl, rfl, rfl, rfl⟩ := h1.uniq h2
    have r3 := (hb3.block _ lt2).trans r2
    have hB3 := hB2.trans (hb3.mono hB2.size)
    have lt3 := (Array.getElem?_eq_some_iff.1 r3).1
    clear IP hb3 hB2 r2 h1 h2
    go_wp2_with (refine wpList_store_own2 rfl 26 _ _ rfl w3.heap.size #[.int .i64 k, .int .i64 x, .int .i64 y] rfl rfl 26 _ (heap_alloc_new _ _) Tryd.sizeDeed rfl (by simp [Value.oneCell']) ?_)
    intro w4 r4 hb4 _ _
    have hbx : Below w3.heap.size w3 w4 := ((Below.refl _ _).alloc (Nat.le_refl _) _).trans hb4
    have r34 := (hbx.block _ lt3).trans r3
    have hB4 := hB3.trans (hbx.mono hB3.size)
    have rr : (ok != ok) = false := by simp
    clear hbx hb4 r3 hB3
    go_wp2_with (first
      | (refine wpList_load_row rfl 26 _ rfl w3.heap.size rfl 26 #[.int .i64 k, .int .i64 x, .int .i64 y] (0, 0) _ r4 Tryd.underlying26 rfl Tryd.sizeDeed ?_)
      | (refine wpList_load_row rfl 26 _ rfl w1.heap.size rfl 26 #[.int .i64 k, .int .i64 x, .int .i64 y] (0, 0) _ r34 Tryd.underlying26 rfl Tryd.sizeDeed ?_))
    refine (eqdeed_any k x y _).mono ?_
    rintro e w5 ⟨rfl, hb5⟩
    have hB5 := hB4.trans (hb5.mono hB4.size)
    clear hb5 hB4 r4 r34
    go_wp2
    go_ret
    exact ⟨rfl, hB5⟩
end Go.Proofs.YtkoiccocgejmcaaDoor
