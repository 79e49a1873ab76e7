/-
  Texts that stood by themselves, laid into one.
-/
import Derived.Shelf.LaysM
import Derived.Shelf.Strconv.Itoa3
import Derived.Test.YtnhepegkjejfcaaDoorProg
import Derived.Test.YtnhepegkjejfcaaDoorTo2M
import Derived.Lib.AppendIntMem
/-
  The contract of the library function strconv.Itoa at this program, by one application. The table of powers of ten reads as it is laid.
-/
namespace Go.Proofs
open Go.Shelf
def Tryd.laysM171_ren : Go.Shelf.Ren := ⟨fun | 171 => 58 | 243 => 63 | 246 => 66 | 283 => 67 | 284 => 68 | 285 => 69 | 286 => 70 | 129 => 72 | 317 => 71 | 318 => 73 | 319 => 74 | 320 => 75 | 337 => 76 | 338 => 77 | n => n, fun | 3 => 3 | 9 => 9 | 2 => 2 | 4 => 4 | 171 => 101 | 0 => 0 | 53 => 102 | 37 => 22 | 5 => 5 | 173 => 105 | 212 => 109 | 51 => 110 | 20 => 20 | 213 => 111 | 46 => 98 | 232 => 114 | 233 => 115 | n => n, fun | 17 => 0 | 18 => 1 | 19 => 2 | n => n⟩
theorem Tryd.laysM171 : Go.Proofs.LaysM.n171 Tryd.prog Tryd.laysM171_ren := {
  mixed := by kernel_rfl
  f129 := Tryd.func72.trans (congrArg some (by kernel_rfl))
  f171 := Tryd.func58.trans (congrArg some (by kernel_rfl))
  f243 := Tryd.func63.trans (congrArg some (by kernel_rfl))
  f246 := Tryd.func66.trans (congrArg some (by kernel_rfl))
  f283 := Tryd.func67.trans (congrArg some (by kernel_rfl))
  f284 := Tryd.func68.trans (congrArg some (by kernel_rfl))
  f285 := Tryd.func69.trans (congrArg some (by kernel_rfl))
  f286 := Tryd.func70.trans (congrArg some (by kernel_rfl))
  f317 := Tryd.func71.trans (congrArg some (by kernel_rfl))
  f318 := Tryd.func73.trans (congrArg some (by kernel_rfl))
  f319 := Tryd.func74.trans (congrArg some (by kernel_rfl))
  f320 := Tryd.func75.trans (congrArg some (by kernel_rfl))
  f337 := Tryd.func76.trans (congrArg some (by kernel_rfl))
  f338 := Tryd.func77.trans (congrArg some (by kernel_rfl))
  t0 := Tryd.underlying0
  a0 := Tryd.isAgg0
  z0 := Tryd.sizeOf0
  v0 := Tryd.zeroValue0
  t2 := Tryd.underlying2
  a2 := Tryd.isAgg2
  z2 := Tryd.sizeOf2
  v2 := Tryd.zeroValue2
  t3 := Tryd.underlying3
  a3 := Tryd.isAgg3
  z3 := Tryd.sizeOf3
  v3 := Tryd.zeroValue3
  t4 := Tryd.underlying4
  a4 := Tryd.isAgg4
  z4 := Tryd.sizeOf4
  v4 := Tryd.zeroValue4
  t5 := Tryd.underlying5
  a5 := Tryd.isAgg5
  z5 := Tryd.sizeOf5
  v5 := Tryd.zeroValue5
  t9 := Tryd.underlying9
  a9 := Tryd.isAgg9
  z9 := Tryd.sizeOf9
  v9 := Tryd.zeroValue9
  t20 := Tryd.underlying20
  a20 := Tryd.isAgg20
  z20 := Tryd.sizeOf20
  v20 := Tryd.zeroValue20
  t37 := Tryd.underlying22
  a37 := Tryd.isAgg22
  z37 := Tryd.sizeOf22
  v37 := Tryd.zeroValue22
  t46 := Tryd.underlying98
  a46 := Tryd.isAgg98
  z46 := Tryd.sizeOf98
  v46 := Tryd.zeroValue98
  t51 := Tryd.underlying110
  a51 := Tryd.isAgg110
  z51 := Tryd.sizeOf110
  v51 := Tryd.zeroValue110
  t53 := Tryd.underlying102
  a53 := Tryd.isAgg102
  z53 := Tryd.sizeOf102
  v53 := Tryd.zeroValue102
  t171 := Tryd.underlying101
  a171 := Tryd.isAgg101
  z171 := Tryd.sizeOf101
  v171 := Tryd.zeroValue101
  t173 := Tryd.underlying105
  a173 := Tryd.isAgg105
  z173 := Tryd.sizeOf105
  v173 := Tryd.zeroValue105
  t212 := Tryd.underlying109
  a212 := Tryd.isAgg109
  z212 := Tryd.sizeOf109
  v212 := Tryd.zeroValue109
  t213 := Tryd.underlying111
  a213 := Tryd.isAgg111
  z213 := Tryd.sizeOf111
  t232 := Tryd.underlying114
  a232 := Tryd.isAgg114
  z232 := Tryd.sizeOf114
  v232 := Tryd.zeroValue114
  t233 := Tryd.underlying115
  a233 := Tryd.isAgg115
  z233 := Tryd.sizeOf115
  v233 := Tryd.zeroValue115
  g17 := by kernel_rfl
  g18 := by kernel_rfl
  g19 := by kernel_rfl
  i0 := by kernel_rfl
  i2 := by kernel_rfl
  i3 := by kernel_rfl
  i4 := by kernel_rfl
  i5 := by kernel_rfl
  i9 := by kernel_rfl
  i20 := by kernel_rfl
  i37 := by kernel_rfl
  i46 := by kernel_rfl
  i51 := by kernel_rfl
  i53 := by kernel_rfl
  i171 := by kernel_rfl
  i173 := by kernel_rfl
  i212 := by kernel_rfl
  i232 := by kernel_rfl
  i233 := by kernel_rfl
  m17 := by kernel_rfl
  m18 := by kernel_rfl
  m19 := by kernel_rfl }
open Go.RowKit Go.Sort Go.Lib in
theorem Tryd.strconv_Itoa (n : Int) (h0 : -9223372036854775808 ≤ n) (h1 : n ≤ 9223372036854775807) (w : World) (htab : Lib.TabIs Tryd.prog w "internal/strconv.uint64pow10" .u64 Lib.pow10Tab) :
    Calls Tryd.prog 58 #[.int .i64 n] w fun e w' => e = .returned (.string ⟨(Lib.itoa n).toArray⟩) ∧ ∃ k os, w' = grow (w.drewN k) os := Any.strconv_Itoa Tryd.laysM171 n h0 h1 w htab
end Go.Proofs

/-
  The contract of impl.nodeWord: a node that is no pair, as it is written. The table of powers of ten reads as it is laid.
-/
namespace Go.Proofs.YtnhepegkjejfcaaDoor
open Go.RowKit

/-- The library's table of powers of ten reads as it is laid, whatever is done from B on. -/
def Pow (B : Nat) (w : World) : Prop := Lib.TabBelow Tryd.prog B w "internal/strconv.uint64pow10" .u64 Lib.pow10Tab
theorem Pow.on {B : Nat} {w w' : World} (h : Pow B w) (hb : Below B w w') : Pow B w' := Lib.TabBelow.on h hb

set_option maxRecDepth 100000 in
set_option maxHeartbeats 1600000 in
theorem nodeword_any (x : Nd) (B : Nat) (w : World) (hB : B ≤ w.heap.size) (hT : Pow B w) (hk : 1 ≤ x.k ∧ x.k ≤ 9) (hn : -1000000000 ≤ x.n ∧ x.n ≤ 1000000000) :
    Calls Tryd.prog 45 #[.agg #[.int .i64 x.k, .int .i64 x.n, .string x.s, .int .i64 x.a, .int .i64 x.b]] w fun e w' => e = .returned (.string (tx (wordL x))) ∧ Below w.heap.size w w' := by
  obtain ⟨k, n, s, a, b⟩ := x
  dsimp only at hk hn ⊢
  have hB0 : Below w.heap.size w (w.alloc (Obj.cells #[.int .i64 k, .int .i64 n, .string s, .int .i64 a, .int .i64 b] 40)) := (Below.refl _ _).alloc (Nat.le_refl _) _
  have HT := (hT.on (hB0.mono hB)).here
  go_enter Tryd.func45, Tryd.ntmps45
  go_wp2_with fail
  refine (Tryd.strconv_Itoa n (by omega) (by omega) _ HT).mono ?_
  rintro e w1 ⟨rfl, q, os, hw1⟩
  have hb1 : Below (w.alloc (Obj.cells #[.int .i64 k, .int .i64 n, .string s, .int .i64 a, .int .i64 b] 40)).heap.size (w.alloc (Obj.cells #[.int .i64 k, .int .i64 n, .string s, .int .i64 a, .int .i64 b] 40)) w1 := by rw [hw1]; exact Lib.below_grow _ _ (Nat.le_refl _) q os
  have hx1 : w1.heap[w.heap.size]? = some (.cells #[.int .i64 k, .int .i64 n, .string s, .int .i64 a, .int .i64 b] 40 (0, 0)) := (hb1.block _ (by simp)).trans (heap_alloc_new _ _)
  have hB1 := hB0.trans (hb1.mono hB0.size)
  have c0 : w1.cell? ⟨w.heap.size, 0, none⟩ = some (.int .i64 k) := by rw [cell_of_row w1 _ 0 _ _ _ hx1]; rfl
  have c1 : w1.cell? ⟨w.heap.size, 0 + 1, none⟩ = some (.int .i64 n) := by rw [cell_of_row w1 _ 1 _ _ _ hx1]; rfl
  have c2 : w1.cell? ⟨w.heap.size, 0 + 2, none⟩ = some (.string s) := by rw [cell_of_row w1 _ 2 _ _ _ hx1]; rfl
  clear hw1 hb1 hx1 hB0
  have hc : k = 1 ∨ k = 2 ∨ k = 3 ∨ k = 4 ∨ k = 5 ∨ k = 6 ∨ k = 7 ∨ k = 8 ∨ k = 9 := by omega
  have hi : (⟨(Lib.itoa n).toArray⟩ : ByteArray) = tx (Lib.itoa n) := rfl
  rw [hi]
  rcases hc with rfl | rfl | rfl | rfl | rfl | rfl | rfl | rfl | rfl
  · go_wp2
    go_ret
    exact ⟨retS (by simp [wordL, tx]), hB1⟩
  · by_cases h0 : n = 0
    · go_wp2
      go_ret
      exact ⟨retS (by simp [wordL, tx, h0]), hB1⟩
    · go_wp2
      go_ret
      exact ⟨retS (by simp [wordL, tx, h0]), hB1⟩
  · go_wp2
    go_ret
    exact ⟨retS (by simp [wordL]), hB1⟩
  · go_wp2
    go_ret
    exact ⟨retS (by simp [wordL, tx]), hB1⟩
  · go_wp2
    go_ret
    exact ⟨retS (by simp [wordL, tx]), hB1⟩
  · have ha : ∀ w : World, (Op.stringOp .add ⟨#[35, 102, 117, 110]⟩ (tx (Lib.itoa n))).run Tryd.prog w = .ok (.string (tx ([35, 102, 117, 110] ++ Lib.itoa n))) w := fun w => by
      rw [run_string_add_sum w _ _ (by rw [tx_size]; have := itoa_len hn; show 4 + _ ≤ _; omega), ← tx_append]
      rfl
    go_wp2
    go_ret
    exact ⟨retS (by simp [wordL]), hB1⟩
  · have ha : ∀ w : World, (Op.stringOp .add ⟨#[35, 107, 111, 110, 116]⟩ (tx (Lib.itoa n))).run Tryd.prog w = .ok (.string (tx ([35, 107, 111, 110, 116] ++ Lib.itoa n))) w := fun w => by
      rw [run_string_add_sum w _ _ (by rw [tx_size]; have := itoa_len hn; show 5 + _ ≤ _; omega), ← tx_append]
      rfl
    go_wp2
    go_ret
    exact ⟨retS (by simp [wordL]), hB1⟩
  · have ha : ∀ w : World, (Op.stringOp .add ⟨#[35, 112, 114, 105, 109]⟩ (tx (Lib.itoa n))).run Tryd.prog w = .ok (.string (tx ([35, 112, 114, 105, 109] ++ Lib.itoa n))) w := fun w => by
      rw [run_string_add_sum w _ _ (by rw [tx_size]; have := itoa_len hn; show 5 + _ ≤ _; omega), ← tx_append]
      rfl
    go_wp2
    go_ret
    exact ⟨retS (by simp [wordL]), hB1⟩
  · have ha : ∀ w : World, (Op.stringOp .add ⟨#[35, 112, 105, 100]⟩ (tx (Lib.itoa n))).run Tryd.prog w = .ok (.string (tx ([35, 112, 105, 100] ++ Lib.itoa n))) w := fun w => by
      rw [run_string_add_sum w _ _ (by rw [tx_size]; have := itoa_len hn; show 4 + _ ≤ _; omega), ← tx_append]
      rfl
    go_wp2
    go_ret
    exact ⟨retS (by simp [wordL]), hB1⟩
end Go.Proofs.YtnhepegkjejfcaaDoor
