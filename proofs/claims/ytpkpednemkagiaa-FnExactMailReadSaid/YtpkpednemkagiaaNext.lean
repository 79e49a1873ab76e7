/-
  Contract of (impl.reader).next: the byte at the place, and the place one further; none where there is no byte.
-/
import Derived.Test.YtpkpednemkagiaaNumber
import Derived.Test.YtpkpednemkagiaaGrow
namespace Go.Proofs.Ytpkpednemkagiaa
open Go.RowKit

/-- A block of one int. -/
def One (w : World) (P : Nat) (a : Int) : Prop := w.heap[P]? = some (.cells #[.int .i64 a] 3 (0, 0))
theorem One.cell {w : World} {P : Nat} {a : Int} (h : One w P a) : w.cell? ⟨P, 0, none⟩ = some (.int .i64 a) := by
  rw [cell_of_row w P 0 _ 3 (0, 0) h]; rfl
theorem One.free {w : World} {P : Nat} {a : Int} (h : One w P a) : w.frozen? ⟨P, 0, none⟩ = false := frozen_of_row w P 0 _ 3 h
theorem One.lt {w : World} {P : Nat} {a : Int} (h : One w P a) : P < w.heap.size := (Array.getElem?_eq_some_iff.1 h).1
theorem One.set {w : World} {P : Nat} {a : Int} (h : One w P a) (b : Int) : One (w.setCell ⟨P, 0, none⟩ (.int .i64 b)) P b := heap_setCell_same w P 0 _ 3 _ h

theorem One.kept {w w' : World} {P : Nat} {a : Int} (h : One w P a) {row : Option Nat} (hg : w.grownBy w' row) (hne : some P ≠ row) : One w' P a := (hg.block P h.lt hne).trans h
theorem One.below {w w' : World} {P B : Nat} {a : Int} (h : One w P a) (hb : Below B w w') (hP : P < B) : One w' P a := (hb.block P hP).trans h
set_option maxHeartbeats 400000 in
theorem next_no (v : Value) (zs : List Int) (P : Nat) (a : Int) (w : World) (R : ∃ ao cap, v = .slice ao zs.length cap) (h : One w P a) (_hl : zs.length ≤ 140737488351232) (ha : a < 0 ∨ (zs.length : Int) ≤ a) :
    Calls Try.prog 33 #[.agg #[v, .pointer (some ⟨P, 0, none⟩)]] w fun e w' => e = .returned (.tuple #[.int .u8 0, .bool false]) ∧ One w' P a ∧ w.grownBy w' (some P) := by
  obtain ⟨ao, cap, rfl⟩ := R
  have hc := h.cell
  have hP := h.lt
  by_cases ha1 : a < 0
  · clear ha
    go_enter Try.func33, Try.ntmps33
    go_wp2
    go_ret2
    exact ⟨rfl, h.kept (World.grownBy_alloc w _ none) (by simp), World.grownBy_alloc w _ _⟩
  · have ha2 : (zs.length : Int) ≤ a := by omega
    clear ha
    go_enter Try.func33, Try.ntmps33
    go_wp2
    go_ret2
    exact ⟨rfl, h.kept (World.grownBy_alloc w _ none) (by simp), World.grownBy_alloc w _ _⟩

set_option maxHeartbeats 400000 in
theorem next_yes (zs : List Int) (P n g o cap : Nat) (w : World) (h : One w P n) (hl : zs.length ≤ 140737488351232) (hn : n < zs.length)
    (hc0 : w.cell? ⟨g, o + n, none⟩ = some (.int .u8 zs[n])) (hgP : g ≠ P) :
    Calls Try.prog 33 #[.agg #[.slice (some ⟨g, o, none⟩) zs.length cap, .pointer (some ⟨P, 0, none⟩)]] w fun e w' => e = .returned (.tuple #[.int .u8 zs[n], .bool true]) ∧ One w' P ((n : Int) + 1) ∧ w.grownBy w' (some P) := by
  have hc := h.cell
  have hf := h.free
  have hP := h.lt
  have hg := World.block_lt_of_cell? _ _ hc0
  simp only at hg
  generalize zs[n] = b at hc0 ⊢
  go_enter Try.func33, Try.ntmps33
  go_wp2
  go_ret2
  have h1 := (h.set ((n : Int) + 1)).kept (World.grownBy_alloc (w.setCell ⟨P, 0, none⟩ (.int .i64 ((n : Int) + 1))) (.cells #[.slice (some ⟨g, o, none⟩) zs.length cap, .pointer (some ⟨P, 0, none⟩)] 40) none) (by simp)
  exact ⟨rfl, h1, grown_trans (grown_set w P 0 _) (World.grownBy_alloc _ _ _)⟩

theorem grown_then {w w1 w2 : World} {row : Option Nat} {B : Nat} (h : w.grownBy w1 row) (k : Below B w1 w2) (hB : w.heap.size ≤ B) : w.grownBy w2 row :=
  ⟨k.os.trans h.os, k.tape.trans h.tape, k.output.trans h.output, Nat.le_trans h.size k.size, fun i hi hne => (k.block i (by omega)).trans (h.block i hi hne)⟩

theorem gN_nV (zs : List Int) (n : Nat) (bs : List Int) (h : scan 9 (zs.drop n) = some bs) :
    (gN zs (n : Int)).1 = (nV bs).1 ∧ (gN zs (n : Int)).2.2 = (nV bs).2 ∧ ((gN zs (n : Int)).2.2 = true → (gN zs (n : Int)).2.1 = (n : Int) + bs.length) := by
  have h1 : ¬ (n : Int) < 0 := by omega
  simp only [gN, h1, if_false, Int.toNat_natCast, h, nV]
  split <;> simp

end Go.Proofs.Ytpkpednemkagiaa
