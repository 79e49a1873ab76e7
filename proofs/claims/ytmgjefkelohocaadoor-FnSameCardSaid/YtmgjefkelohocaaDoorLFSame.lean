/-
  The law FnSame, walked: at every argument it returns true. The table of powers of ten reads as it is laid.
-/
import Derived.Test.YtmgjefkelohocaaDoorDraw15
import Derived.Test.YtmgjefkelohocaaDoorSSame
import Derived.Test.YtmgjefkelohocaaDoorSzStep
import Derived.Test.YtmgjefkelohocaaDoorIWr
namespace Go.Proofs.YtmgjefkelohocaaDoor
open Go.RowKit

set_option maxRecDepth 100000 in
set_option maxHeartbeats 400000 in
theorem fsame_big (ao : Option Addr) (len cap : Nat) (w : World) (hl : 1048576 < len) (hm : len ≤ 9223372036854775807) :
    Calls Tryd.prog 3 #[.slice ao len cap] w fun e w' => e = .returned (.bool true) ∧ Below w.heap.size w w' := by
  go_enter Tryd.func3, Tryd.ntmps3
  go_wp2_with (go_at_call 8; go_in)
  go_ret
  exact ⟨rfl, Below.refl _ _⟩

set_option maxRecDepth 100000 in
set_option maxHeartbeats 3200000 in
theorem fsame_small (ao : Option Addr) (cap : Nat) (zs : List Int) (w : World) (R : Row w (.slice ao zs.length cap) zs) (hl : zs.length ≤ 1048576) (hT : Pow w.heap.size w) :
    Calls Tryd.prog 3 #[.slice ao zs.length cap] w fun e w' => e = .returned (.bool true) ∧ Below w.heap.size w w' := by
  go_enter Tryd.func3, Tryd.ntmps3
  go_wp2_with (go_at_call 8; go_in)
  refine (dsame_any _ zs w R hl).mono ?_
  rintro e w1 ⟨v1, xs, a, b, rfl, hxl, hz, ho1, ha, hb, b1⟩
  have R1 := NRow.of_own ho1 (by omega) (fun x hx => Nat.le_trans (hz x hx) (by unfold maxLen; omega))
  obtain ⟨a1, q1, rfl⟩ := own_form ho1
  have hB2 : Below w1.heap.size w1 (w1.alloc (Obj.cells #[.slice a1 xs.length q1] 26)) := (Below.refl _ _).alloc (Nat.le_refl _) _
  have R2 := R1.below hB2
  have hq2 : (w1.alloc (Obj.cells #[.slice a1 xs.length q1] 26)).heap[w1.heap.size]? = some (.cells #[.slice a1 xs.length q1] 26 (0, 0)) := heap_alloc_new _ _
  have hBB2 := b1.trans (hB2.mono b1.size)
  clear ho1 R1 hz b1 hB2
  go_wp2_with fail
  generalize w1.alloc (Obj.cells #[.slice a1 xs.length q1] 26) = w2 at *
  generalize w1.heap.size = q at *
  have hql := (Array.getElem?_eq_some_iff.1 hq2).1
  refine (isame_any _ xs a b _ R2).mono ?_
  rintro e w3 ⟨rfl, hb3⟩
  have hq3 := (hb3.block _ hql).trans hq2
  have c3 : w3.cell? ⟨q, 0, none⟩ = some (.slice a1 xs.length q1) := cell_of_row w3 _ 0 _ _ _ hq3
  have R3 := R2.below hb3
  have hBB3 := hBB2.trans (hb3.mono hBB2.size)
  clear hq2 R2 hb3 hBB2
  go_wp2_with fail
  refine (ssame_any _ xs a b _ R3).mono ?_
  rintro e w4 ⟨rfl, hb4⟩
  have hq4 := (hb4.block _ (Array.getElem?_eq_some_iff.1 hq3).1).trans hq3
  have c4 : w4.cell? ⟨q, 0, none⟩ = some (.slice a1 xs.length q1) := cell_of_row w4 _ 0 _ _ _ hq4
  have R4 := R3.below hb4
  have hBB4 := hBB3.trans (hb4.mono hBB3.size)
  clear hq3 R3 hb4 hBB3 c3
  generalize hs : sameR xs a b = s
  go_wp2_with fail
  refine (isame_any _ xs b a _ R4).mono ?_
  rintro e w5 ⟨rfl, hb5⟩
  have hq5 := (hb5.block _ (Array.getElem?_eq_some_iff.1 hq4).1).trans hq4
  have c5 : w5.cell? ⟨q, 0, none⟩ = some (.slice a1 xs.length q1) := cell_of_row w5 _ 0 _ _ _ hq5
  have R5 := R4.below hb5
  have hBB5 := hBB4.trans (hb5.mono hBB4.size)
  clear hq4 R4 hb5 hBB4 c4
  rw [sameR_comm xs b a, hs]
  cases s with
  | false =>
    clear hs
    go_wp2_with fail
    go_ret
    exact ⟨rfl, hBB5⟩
  | true =>
    have HS : Hid (sameR xs a a = true) := sameR_self hs
    have HZ : Hid (sizeR xs a = sizeR xs b) := (same_text hs).1
    have HW : Hid (writeR xs a = writeR xs b) := (same_text hs).2
    have hT5 : Pow w5.heap.size w5 := (hT.on hBB5).mono hBB5.size
    have hlt5 := (Array.getElem?_eq_some_iff.1 hq5).1
    clear hs
    go_wp2_with fail
    go_region_held (fun w' => w'.cell? ⟨q, 0, none⟩ = some (.slice a1 xs.length q1)) (first | exact s10 | exact s9 | exact s8 | exact s7 | exact s6 | go_keep) (first
      | (go_at_call 10; refine (isame_any _ xs a a _ ?_).mono ?_; exact R5.below (Below.refl _ _).drew; rintro e w6 ⟨rfl, hb6⟩; rw [HS.out]; have t6 : Below w5.heap.size w5 w6 := (Below.refl _ _).drew.trans hb6; have s6 := (t6.cell (p := ⟨q, 0, none⟩) hlt5).trans c5)
      | (go_at_call_of 12 (Value.int IntKind.i64 a); refine (isize_any _ xs a _ ?_).mono ?_; exact R5.below t6; rintro e w7 ⟨rfl, hb7⟩; have t7 : Below w5.heap.size w5 w7 := t6.trans (hb7.mono t6.size); have s7 := (t7.cell (p := ⟨q, 0, none⟩) hlt5).trans c5)
      | (go_at_call_of 12 (Value.int IntKind.i64 b); refine (isize_any _ xs b _ ?_).mono ?_; exact R5.below t7; rintro e w8 ⟨rfl, hb8⟩; rw [← HZ.out]; have t8 : Below w5.heap.size w5 w8 := t7.trans (hb8.mono t7.size); have s8 := (t8.cell (p := ⟨q, 0, none⟩) hlt5).trans c5)
      | (go_at_call_of 13 (Value.int IntKind.i64 a); refine (iwrite_any _ xs a _ ?_ ?_).mono ?_; exact R5.below t8; exact (hT5.on t8).mono t8.size; rintro e w9 ⟨rfl, hb9⟩; have t9 : Below w5.heap.size w5 w9 := t8.trans (hb9.mono t8.size); have s9 := (t9.cell (p := ⟨q, 0, none⟩) hlt5).trans c5)
      | (go_at_call_of 13 (Value.int IntKind.i64 b); refine (iwrite_any _ xs b _ ?_ ?_).mono ?_; exact R5.below t9; exact (hT5.on t9).mono t9.size; rintro e w10 ⟨rfl, hb10⟩; rw [← HW.out]; have t10 : Below w5.heap.size w5 w10 := t9.trans (hb10.mono t9.size); have s10 := (t10.cell (p := ⟨q, 0, none⟩) hlt5).trans c5))
    have hB10 := hBB5.trans (t10.mono hBB5.size)
    clear t6 t7 t8 t9 t10 s6 s7 s8 s9 s10
    go_wp2_with fail
    go_ret
    exact ⟨by simp, hB10⟩
end Go.Proofs.YtmgjefkelohocaaDoor
