/-
  The contract of impl.nodeWord: a node that is no pair, as it is written. The table of powers of ten reads as it is laid.
-/
import Derived.Test.YtnhepegkjejfcaaDoorTo2M
import Derived.Test.YtnhepegkjejfcaaDoorShelfM
import Derived.Lib.AppendIntMem
namespace Go.Proofs.YtnhepegkjejfcaaDoor
open Go.RowKit

/-- The library's table of powers of ten reads as it is laid, whatever is done from B on. -/
def Pow (B : Nat) (w : World) : Prop := Lib.TabBelow Tryd.prog B w "internal/strconv.uint64pow10" .u64 Lib.pow10Tab
theorem Pow.on {B : Nat} {w w' : World} (h : Pow B w) (hb : Below B w w') : Pow B w' := Lib.TabBelow.on h hb

set_option maxRecDepth 100000 in
set_option maxHeartbeats 1600000 in
theorem nodeword_any (x : Nd) (B : Nat) (w : World) (hB : B ≤ w.heap.size) (hT : Pow B w) (hk : 1 ≤ x.k ∧ x.k ≤ 9) (hn : -1000000000 ≤ x.n ∧ x.n ≤ 1000000000) :
    Calls Tryd.prog 45 #[.agg #[.int .i64 x.k, .int .i64 x.n, .string x.s, .int .i64 x.a, .int .i64 x.b]] w fun e w' => e = .returned (.string (tx (wordL x))) ∧ Below w.heap.size w w' := by
  obtain ⟨k, n, s, a, b⟩ := x
  dsimp only at hk hn ⊢
  have hB0 : Below w.heap.size w (w.alloc (Obj.cells #[.int .i64 k, .int .i64 n, .string s, .int .i64 a, .int .i64 b] 40)) := (Below.refl _ _).alloc (Nat.le_refl _) _
  have HT := (hT.on (hB0.mono hB)).here
  go_enter Tryd.func45, Tryd.ntmps45
  go_wp2_with fail
  refine (Tryd.strconv_Itoa n (by omega) (by omega) _ HT).mono ?_
  rintro e w1 ⟨rfl, q, os, hw1⟩
  have hb1 : Below (w.alloc (Obj.cells #[.int .i64 k, .int .i64 n, .string s, .int .i64 a, .int .i64 b] 40)).heap.size (w.alloc (Obj.cells #[.int .i64 k, .int .i64 n, .string s, .int .i64 a, .int .i64 b] 40)) w1 := by rw [hw1]; exact Lib.below_grow _ _ (Nat.le_refl _) q os
  have hx1 : w1.heap[w.heap.size]? = some (.cells #[.int .i64 k, .int .i64 n, .string s, .int .i64 a, .int .i64 b] 40 (0, 0)) := (hb1.block _ (by simp)).trans (heap_alloc_new _ _)
  have hB1 := hB0.trans (hb1.mono hB0.size)
  have c0 : w1.cell? ⟨w.heap.size, 0, none⟩ = some (.int .i64 k) := by rw [cell_of_row w1 _ 0 _ _ _ hx1]; rfl
  have c1 : w1.cell? ⟨w.heap.size, 0 + 1, none⟩ = some (.int .i64 n) := by rw [cell_of_row w1 _ 1 _ _ _ hx1]; rfl
  have c2 : w1.cell? ⟨w.heap.size, 0 + 2, none⟩ = some (.string s) := by rw [cell_of_row w1 _ 2 _ _ _ hx1]; rfl
  clear hw1 hb1 hx1 hB0
  have hc : k = 1 ∨ k = 2 ∨ k = 3 ∨ k = 4 ∨ k = 5 ∨ k = 6 ∨ k = 7 ∨ k = 8 ∨ k = 9 := by omega
  have hi : (⟨(Lib.itoa n).toArray⟩ : ByteArray) = tx (Lib.itoa n) := rfl
  rw [hi]
  rcases hc with rfl | rfl | rfl | rfl | rfl | rfl | rfl | rfl | rfl
  · go_wp2
    go_ret
    exact ⟨retS (by simp [wordL, tx]), hB1⟩
  · by_cases h0 : n = 0
    · go_wp2
      go_ret
      exact ⟨retS (by simp [wordL, tx, h0]), hB1⟩
    · go_wp2
      go_ret
      exact ⟨retS (by simp [wordL, tx, h0]), hB1⟩
  · go_wp2
    go_ret
    exact ⟨retS (by simp [wordL]), hB1⟩
  · go_wp2
    go_ret
    exact ⟨retS (by simp [wordL, tx]), hB1⟩
  · go_wp2
    go_ret
    exact ⟨retS (by simp [wordL, tx]), hB1⟩
  · have ha : ∀ w : World, (Op.stringOp .add ⟨#[35, 102, 117, 110]⟩ (tx (Lib.itoa n))).run Tryd.prog w = .ok (.string (tx ([35, 102, 117, 110] ++ Lib.itoa n))) w := fun w => by
      rw [run_string_add_sum w _ _ (by rw [tx_size]; have := itoa_len hn; show 4 + _ ≤ _; omega), ← tx_append]
      rfl
    go_wp2
    go_ret
    exact ⟨retS (by simp [wordL]), hB1⟩
  · have ha : ∀ w : World, (Op.stringOp .add ⟨#[35, 107, 111, 110, 116]⟩ (tx (Lib.itoa n))).run Tryd.prog w = .ok (.string (tx ([35, 107, 111, 110, 116] ++ Lib.itoa n))) w := fun w => by
      rw [run_string_add_sum w _ _ (by rw [tx_size]; have := itoa_len hn; show 5 + _ ≤ _; omega), ← tx_append]
      rfl
    go_wp2
    go_ret
    exact ⟨retS (by simp [wordL]), hB1⟩
  · have ha : ∀ w : World, (Op.stringOp .add ⟨#[35, 112, 114, 105, 109]⟩ (tx (Lib.itoa n))).run Tryd.prog w = .ok (.string (tx ([35, 112, 114, 105, 109] ++ Lib.itoa n))) w := fun w => by
      rw [run_string_add_sum w _ _ (by rw [tx_size]; have := itoa_len hn; show 5 + _ ≤ _; omega), ← tx_append]
      rfl
    go_wp2
    go_ret
    exact ⟨retS (by simp [wordL]), hB1⟩
  · have ha : ∀ w : World, (Op.stringOp .add ⟨#[35, 112, 105, 100]⟩ (tx (Lib.itoa n))).run Tryd.prog w = .ok (.string (tx ([35, 112, 105, 100] ++ Lib.itoa n))) w := fun w => by
      rw [run_string_add_sum w _ _ (by rw [tx_size]; have := itoa_len hn; show 4 + _ ≤ _; omega), ← tx_append]
      rfl
    go_wp2
    go_ret
    exact ⟨retS (by simp [wordL]), hB1⟩
end Go.Proofs.YtnhepegkjejfcaaDoor
