/-
  Texts that stood by themselves, laid into one.
-/
import Derived.Test.YtbgkofinmdpmcaaGreatDoorNdM
import Derived.Lib.ItoaNum
import Derived.Test.YtbgkofinmdpmcaaGreatDoorDVrM
import Derived.Deep.LoopGhost
import Derived.Shelf.LaysM
import Derived.Shelf.Strconv.Itoa3
import Derived.Test.YtbgkofinmdpmcaaGreatDoorProg
import Derived.Lib.AppendIntMem
/-
  How values are written, as lists of bytes. Nothing of the program; no condition.
-/
namespace Go.Proofs.YtbgkofinmdpmcaaGreatDoor
open Go.RowKit

theorem dec_len : ∀ (k u : Nat), u < 10 ^ (k + 1) → (Lib.decDigits u).length ≤ k + 1 := by
  intro k
  induction k with
  | zero => intro u h; rw [Lib.decDigits, dif_pos (by simpa using h)]; simp
  | succ k ih =>
    intro u h
    rw [Lib.decDigits]
    split
    · simp
    · have := ih (u / 10) (by rw [Nat.pow_succ] at h; omega)
      simp
      omega
theorem itoa_len {n : Int} (h : -1000000000 ≤ n ∧ n ≤ 1000000000) : (Lib.itoa n).length ≤ 11 := by
  unfold Lib.itoa
  split
  · have := dec_len 9 n.natAbs (by omega)
    simp; omega
  · have := dec_len 9 n.toNat (by omega)
    omega

/-- A node that is no pair, as it is written. -/
def wordL (x : Nd) : List UInt8 :=
  if x.k = 1 then [40, 41] else if x.k = 2 then (if x.n = 0 then [35, 102] else [35, 116]) else if x.k = 3 then Lib.itoa x.n
  else if x.k = 4 then x.s.data.toList else if x.k = 6 then [35, 102, 117, 110] ++ Lib.itoa x.n else if x.k = 7 then [35, 107, 111, 110, 116] ++ Lib.itoa x.n
  else if x.k = 8 then [35, 112, 114, 105, 109] ++ Lib.itoa x.n else if x.k = 9 then [35, 112, 105, 100] ++ Lib.itoa x.n else []

theorem wordL_len {x : Nd} (h : -1000000000 ≤ x.n ∧ x.n ≤ 1000000000) (hs : x.s.size ≤ 1000) : (wordL x).length ≤ 1100 := by
  have := itoa_len h
  have e : x.s.data.toList.length = x.s.size := by rw [Array.length_toList]; rfl
  unfold wordL
  split
  · simp
  · split
    · split <;> simp
    · split
      · omega
      · split
        · omega
        · split
          · simp; omega
          · split
            · simp; omega
            · split
              · simp; omega
              · split
                · simp; omega
                · simp

/-- The node v as it is written, and as it is written as the rest of a list. -/
def ft (xs : List Nd) : Nat → Nat → List UInt8 × List UInt8
  | 0, _ => ([], [])
  | f + 1, v => match xs[v]? with
    | none => ([], [])
    | some x => if x.k = 5 then ([40] ++ (ft xs f x.a.toNat).1 ++ (ft xs f x.b.toNat).2 ++ [41], [32] ++ (ft xs f x.a.toNat).1 ++ (ft xs f x.b.toNat).2)
      else (wordL x, if x.k = 1 then [] else [32, 46, 32] ++ wordL x)
def fullT (xs : List Nd) (v : Nat) : List UInt8 := (ft xs (v + 1) v).1
def restT (xs : List Nd) (v : Nat) : List UInt8 := (ft xs (v + 1) v).2

theorem nodesB_at {xs : List Nd} : ∀ {k i : Nat} {x : Nd}, nodesB xs k = true → xs[i]? = some x → nodeB x ((k + i : Nat) : Int) = true := by
  induction xs with
  | nil => intro k i x _ h; simp at h
  | cons y ys ih =>
    intro k i x h hx
    rw [nodesB, Bool.and_eq_true] at h
    cases i with
    | zero => simp at hx; subst hx; simpa using h.1
    | succ i =>
      have := ih (k := k + 1) (i := i) h.2 (by simpa using hx)
      rw [show k + (i + 1) = k + 1 + i by omega]
      exact this
theorem pool_at {xs : List Nd} (hp : poolB xs = true) {i : Nat} {x : Nd} (hx : xs[i]? = some x) : nodeB x (i : Int) = true := by
  simp only [poolB, Bool.and_eq_true] at hp
  have := nodesB_at hp.2 hx
  simpa using this
theorem pool_pair {xs : List Nd} (hp : poolB xs = true) {i : Nat} {x : Nd} (hx : xs[i]? = some x) (h5 : x.k = 5) : ∃ a b : Nat, x.a = a ∧ x.b = b ∧ a < i ∧ b < i := by
  have h := pool_at hp hx
  simp only [nodeB, Bool.and_eq_true, partB, hasA, hasB, h5] at h
  obtain ⟨_, ⟨_, hA⟩, hB⟩ := h
  simp only [true_or, decide_true, if_true, Bool.and_eq_true, decide_eq_true_eq] at hA hB
  exact ⟨x.a.toNat, x.b.toNat, by omega, by omega, by omega, by omega⟩
theorem lo_ge (k : Int) : -1000000000 ≤ lo k := by unfold lo; split <;> decide
theorem hi_le (k : Int) : hi k ≤ 1000000000 := by
  unfold hi
  split
  · decide
  · split
    · decide
    · split <;> decide
theorem pool_num {xs : List Nd} (hp : poolB xs = true) {i : Nat} {x : Nd} (hx : xs[i]? = some x) : (1 ≤ x.k ∧ x.k ≤ 9) ∧ (-1000000000 ≤ x.n ∧ x.n ≤ 1000000000) := by
  have h := pool_at hp hx
  simp only [nodeB, Bool.and_eq_true, decide_eq_true_eq] at h
  obtain ⟨⟨⟨⟨h1, h2⟩, h3⟩, h4⟩, _⟩ := h
  exact ⟨⟨h1, h2⟩, Int.le_trans (lo_ge _) h3, Int.le_trans h4 (hi_le _)⟩

theorem ft_fuel {xs : List Nd} (hp : poolB xs = true) : ∀ (v f : Nat), v < f → ft xs f v = ft xs (v + 1) v := by
  intro v
  induction v using Nat.strongRecOn with
  | _ v ih =>
    intro f hf
    cases f with
    | zero => omega
    | succ f =>
      rw [ft, ft]
      cases hx : xs[v]? with
      | none => rfl
      | some x =>
        dsimp only
        by_cases h5 : x.k = 5
        · obtain ⟨a, b, ha, hb, hal, hbl⟩ := pool_pair hp hx h5
          rw [if_pos h5, if_pos h5, ha, hb, Int.toNat_natCast, Int.toNat_natCast, ih a hal f (by omega), ih b hbl f (by omega), ih a hal v hal, ih b hbl v hbl]
        · rw [if_neg h5, if_neg h5]
theorem fullT_pair {xs : List Nd} (hp : poolB xs = true) {v : Nat} {x : Nd} (hx : xs[v]? = some x) (h5 : x.k = 5) {a b : Nat} (ha : x.a = a) (hb : x.b = b) (hal : a < v) (hbl : b < v) : fullT xs v = [40] ++ fullT xs a ++ restT xs b ++ [41] := by
  rw [fullT, ft, hx]
  dsimp only
  rw [if_pos h5, ha, hb, Int.toNat_natCast, Int.toNat_natCast, ft_fuel hp a v hal, ft_fuel hp b v hbl]
  rfl
theorem restT_pair {xs : List Nd} (hp : poolB xs = true) {v : Nat} {x : Nd} (hx : xs[v]? = some x) (h5 : x.k = 5) {a b : Nat} (ha : x.a = a) (hb : x.b = b) (hal : a < v) (hbl : b < v) : restT xs v = [32] ++ fullT xs a ++ restT xs b := by
  rw [restT, ft, hx]
  dsimp only
  rw [if_pos h5, ha, hb, Int.toNat_natCast, Int.toNat_natCast, ft_fuel hp a v hal, ft_fuel hp b v hbl]
  rfl
theorem fullT_word {xs : List Nd} {v : Nat} {x : Nd} (hx : xs[v]? = some x) (h5 : ¬ x.k = 5) : fullT xs v = wordL x := by
  rw [fullT, ft, hx]
  dsimp only
  rw [if_neg h5]
theorem restT_nil {xs : List Nd} {v : Nat} {x : Nd} (hx : xs[v]? = some x) (h1 : x.k = 1) : restT xs v = [] := by
  rw [restT, ft, hx]
  dsimp only
  rw [if_neg (by omega), if_pos h1]
theorem restT_word {xs : List Nd} {v : Nat} {x : Nd} (hx : xs[v]? = some x) (h5 : ¬ x.k = 5) (h1 : ¬ x.k = 1) : restT xs v = [32, 46, 32] ++ wordL x := by
  rw [restT, ft, hx]
  dsimp only
  rw [if_neg h5, if_neg h1]
end Go.Proofs.YtbgkofinmdpmcaaGreatDoor

/-
  The contract of spec.l3Digits: a number's digits are those of strconv.Itoa. No condition beyond its size.
-/
namespace Go.Proofs.YtbgkofinmdpmcaaGreatDoor
open Go.RowKit

/-- A text of bytes. -/
def tx (l : List UInt8) : ByteArray := ⟨l.toArray⟩
theorem tx_list (l : List UInt8) : (tx l).data.toList = l := by simp [tx]
theorem tx_size (l : List UInt8) : (tx l).size = l.length := by simp [tx, ByteArray.size]
theorem tx_append (a b : List UInt8) : tx a ++ tx b = tx (a ++ b) := by
  apply ByteArray.ext
  simp [tx, ByteArray.data_append]
theorem retS {a b : ByteArray} (h : a = b) : Ending.returned (.string a) = .returned (.string b) := by rw [h]
theorem addS (a b : List UInt8) (w : World) (h : a.length + b.length ≤ 1000000) : (Op.stringOp .add (tx a) (tx b)).run Tryz.prog w = .ok (.string (tx (a ++ b))) w := by
  rw [run_string_add_sum w _ _ (by rw [tx_size, tx_size]; omega), tx_append]

theorem digit_tx (j : Nat) : strOfNums [48 + (j : Int) % 10] = tx [UInt8.ofNat (48 + j % 10)] := by
  have e : (48 + (j : Int) % 10).toNat = 48 + j % 10 := by omega
  apply ByteArray.ext
  simp [strOfNums, tx, e]
theorem mtGo_dec : ∀ (f k : Nat) (l : List UInt8), 0 < k → k ≤ f → mtGo f k (tx l) = tx (Lib.decDigits k ++ l) := by
  intro f
  induction f with
  | zero => intro k l h0 h; omega
  | succ f ih =>
    intro k l h0 h
    rw [mtGo, if_neg (by omega), digit_tx, tx_append, Lib.decDigits]
    by_cases h10 : k < 10
    · rw [dif_pos h10, show k / 10 = 0 by omega, mtGo_end, show k % 10 = k by omega]
    · rw [dif_neg h10, ih (k / 10) _ (by omega) (by omega)]
      simp

end Go.Proofs.YtbgkofinmdpmcaaGreatDoor

/-
  The contract of the library function strconv.Itoa at this program, by one application. The table of powers of ten reads as it is laid.
-/
namespace Go.Proofs
open Go.Shelf
def Tryz.laysM171_ren : Go.Shelf.Ren := ⟨fun | 171 => 89 | 243 => 103 | 246 => 108 | 283 => 109 | 284 => 110 | 285 => 111 | 286 => 112 | 129 => 114 | 317 => 113 | 318 => 115 | 319 => 116 | 320 => 117 | 337 => 118 | 338 => 119 | n => n, fun | 3 => 3 | 9 => 9 | 2 => 2 | 4 => 4 | 171 => 175 | 0 => 0 | 53 => 176 | 37 => 22 | 5 => 5 | 173 => 179 | 212 => 183 | 51 => 184 | 20 => 20 | 213 => 185 | 46 => 145 | 232 => 188 | 233 => 189 | n => n, fun | 17 => 1 | 18 => 2 | 19 => 3 | n => n⟩
theorem Tryz.laysM171 : Go.Proofs.LaysM.n171 Tryz.prog Tryz.laysM171_ren := {
  mixed := by kernel_rfl
  f129 := Tryz.func114.trans (congrArg some (by kernel_rfl))
  f171 := Tryz.func89.trans (congrArg some (by kernel_rfl))
  f243 := Tryz.func103.trans (congrArg some (by kernel_rfl))
  f246 := Tryz.func108.trans (congrArg some (by kernel_rfl))
  f283 := Tryz.func109.trans (congrArg some (by kernel_rfl))
  f284 := Tryz.func110.trans (congrArg some (by kernel_rfl))
  f285 := Tryz.func111.trans (congrArg some (by kernel_rfl))
  f286 := Tryz.func112.trans (congrArg some (by kernel_rfl))
  f317 := Tryz.func113.trans (congrArg some (by kernel_rfl))
  f318 := Tryz.func115.trans (congrArg some (by kernel_rfl))
  f319 := Tryz.func116.trans (congrArg some (by kernel_rfl))
  f320 := Tryz.func117.trans (congrArg some (by kernel_rfl))
  f337 := Tryz.func118.trans (congrArg some (by kernel_rfl))
  f338 := Tryz.func119.trans (congrArg some (by kernel_rfl))
  t0 := Tryz.underlying0
  a0 := Tryz.isAgg0
  z0 := Tryz.sizeOf0
  v0 := Tryz.zeroValue0
  t2 := Tryz.underlying2
  a2 := Tryz.isAgg2
  z2 := Tryz.sizeOf2
  v2 := Tryz.zeroValue2
  t3 := Tryz.underlying3
  a3 := Tryz.isAgg3
  z3 := Tryz.sizeOf3
  v3 := Tryz.zeroValue3
  t4 := Tryz.underlying4
  a4 := Tryz.isAgg4
  z4 := Tryz.sizeOf4
  v4 := Tryz.zeroValue4
  t5 := Tryz.underlying5
  a5 := Tryz.isAgg5
  z5 := Tryz.sizeOf5
  v5 := Tryz.zeroValue5
  t9 := Tryz.underlying9
  a9 := Tryz.isAgg9
  z9 := Tryz.sizeOf9
  v9 := Tryz.zeroValue9
  t20 := Tryz.underlying20
  a20 := Tryz.isAgg20
  z20 := Tryz.sizeOf20
  v20 := Tryz.zeroValue20
  t37 := Tryz.underlying22
  a37 := Tryz.isAgg22
  z37 := Tryz.sizeOf22
  v37 := Tryz.zeroValue22
  t46 := Tryz.underlying145
  a46 := Tryz.isAgg145
  z46 := Tryz.sizeOf145
  v46 := Tryz.zeroValue145
  t51 := Tryz.underlying184
  a51 := Tryz.isAgg184
  z51 := Tryz.sizeOf184
  v51 := Tryz.zeroValue184
  t53 := Tryz.underlying176
  a53 := Tryz.isAgg176
  z53 := Tryz.sizeOf176
  v53 := Tryz.zeroValue176
  t171 := Tryz.underlying175
  a171 := Tryz.isAgg175
  z171 := Tryz.sizeOf175
  v171 := Tryz.zeroValue175
  t173 := Tryz.underlying179
  a173 := Tryz.isAgg179
  z173 := Tryz.sizeOf179
  v173 := Tryz.zeroValue179
  t212 := Tryz.underlying183
  a212 := Tryz.isAgg183
  z212 := Tryz.sizeOf183
  v212 := Tryz.zeroValue183
  t213 := Tryz.underlying185
  a213 := Tryz.isAgg185
  z213 := Tryz.sizeOf185
  t232 := Tryz.underlying188
  a232 := Tryz.isAgg188
  z232 := Tryz.sizeOf188
  v232 := Tryz.zeroValue188
  t233 := Tryz.underlying189
  a233 := Tryz.isAgg189
  z233 := Tryz.sizeOf189
  v233 := Tryz.zeroValue189
  g17 := by kernel_rfl
  g18 := by kernel_rfl
  g19 := by kernel_rfl
  i0 := by kernel_rfl
  i2 := by kernel_rfl
  i3 := by kernel_rfl
  i4 := by kernel_rfl
  i5 := by kernel_rfl
  i9 := by kernel_rfl
  i20 := by kernel_rfl
  i37 := by kernel_rfl
  i46 := by kernel_rfl
  i51 := by kernel_rfl
  i53 := by kernel_rfl
  i171 := by kernel_rfl
  i173 := by kernel_rfl
  i212 := by kernel_rfl
  i232 := by kernel_rfl
  i233 := by kernel_rfl
  m17 := by kernel_rfl
  m18 := by kernel_rfl
  m19 := by kernel_rfl }
open Go.RowKit Go.Sort Go.Lib in
theorem Tryz.strconv_Itoa (n : Int) (h0 : -9223372036854775808 ≤ n) (h1 : n ≤ 9223372036854775807) (w : World) (htab : Lib.TabIs Tryz.prog w "internal/strconv.uint64pow10" .u64 Lib.pow10Tab) :
    Calls Tryz.prog 89 #[.int .i64 n] w fun e w' => e = .returned (.string ⟨(Lib.itoa n).toArray⟩) ∧ ∃ k os, w' = grow (w.drewN k) os := Any.strconv_Itoa Tryz.laysM171 n h0 h1 w htab
end Go.Proofs

/-
  The contract of impl.nodeWord: a node that is no pair, as it is written. The table of powers of ten reads as it is laid.
-/
namespace Go.Proofs.YtbgkofinmdpmcaaGreatDoor
open Go.RowKit

/-- The library's table of powers of ten reads as it is laid, whatever is done from B on. -/
def Pow (B : Nat) (w : World) : Prop := Lib.TabBelow Tryz.prog B w "internal/strconv.uint64pow10" .u64 Lib.pow10Tab
theorem Pow.on {B : Nat} {w w' : World} (h : Pow B w) (hb : Below B w w') : Pow B w' := Lib.TabBelow.on h hb

set_option maxRecDepth 100000 in
set_option maxHeartbeats 1600000 in
theorem nodeword_any (x : Nd) (B : Nat) (w : World) (hB : B ≤ w.heap.size) (hT : Pow B w) (hk : 1 ≤ x.k ∧ x.k ≤ 9) (hn : -1000000000 ≤ x.n ∧ x.n ≤ 1000000000) :
    Calls Tryz.prog 55 #[.agg #[.int .i64 x.k, .int .i64 x.n, .string x.s, .int .i64 x.a, .int .i64 x.b]] w fun e w' => e = .returned (.string (tx (wordL x))) ∧ Below w.heap.size w w' := by
  obtain ⟨k, n, s, a, b⟩ := x
  dsimp only at hk hn ⊢
  have hB0 : Below w.heap.size w (w.alloc (Obj.cells #[.int .i64 k, .int .i64 n, .string s, .int .i64 a, .int .i64 b] 64)) := (Below.refl _ _).alloc (Nat.le_refl _) _
  have HT := (hT.on (hB0.mono hB)).here
  go_enter Tryz.func55, Tryz.ntmps55
  go_wp2_with fail
  refine (Tryz.strconv_Itoa n (by omega) (by omega) _ HT).mono ?_
  rintro e w1 ⟨rfl, q, os, hw1⟩
  have hb1 : Below (w.alloc (Obj.cells #[.int .i64 k, .int .i64 n, .string s, .int .i64 a, .int .i64 b] 64)).heap.size (w.alloc (Obj.cells #[.int .i64 k, .int .i64 n, .string s, .int .i64 a, .int .i64 b] 64)) w1 := by rw [hw1]; exact Lib.below_grow _ _ (Nat.le_refl _) q os
  have hx1 : w1.heap[w.heap.size]? = some (.cells #[.int .i64 k, .int .i64 n, .string s, .int .i64 a, .int .i64 b] 64 (0, 0)) := (hb1.block _ (by simp)).trans (heap_alloc_new _ _)
  have hB1 := hB0.trans (hb1.mono hB0.size)
  have c0 : w1.cell? ⟨w.heap.size, 0, none⟩ = some (.int .i64 k) := by rw [cell_of_row w1 _ 0 _ _ _ hx1]; rfl
  have c1 : w1.cell? ⟨w.heap.size, 0 + 1, none⟩ = some (.int .i64 n) := by rw [cell_of_row w1 _ 1 _ _ _ hx1]; rfl
  have c2 : w1.cell? ⟨w.heap.size, 0 + 2, none⟩ = some (.string s) := by rw [cell_of_row w1 _ 2 _ _ _ hx1]; rfl
  clear hw1 hb1 hx1 hB0
  have hc : k = 1 ∨ k = 2 ∨ k = 3 ∨ k = 4 ∨ k = 5 ∨ k = 6 ∨ k = 7 ∨ k = 8 ∨ k = 9 := by omega
  have hi : (⟨(Lib.itoa n).toArray⟩ : ByteArray) = tx (Lib.itoa n) := rfl
  rw [hi]
  rcases hc with rfl | rfl | rfl | rfl | rfl | rfl | rfl | rfl | rfl
  · go_wp2
    go_ret
    exact ⟨retS (by simp [wordL, tx]), hB1⟩
  · by_cases h0 : n = 0
    · go_wp2
      go_ret
      exact ⟨retS (by simp [wordL, tx, h0]), hB1⟩
    · go_wp2
      go_ret
      exact ⟨retS (by simp [wordL, tx, h0]), hB1⟩
  · go_wp2
    go_ret
    exact ⟨retS (by simp [wordL]), hB1⟩
  · go_wp2
    go_ret
    exact ⟨retS (by simp [wordL, tx]), hB1⟩
  · go_wp2
    go_ret
    exact ⟨retS (by simp [wordL, tx]), hB1⟩
  · have ha : ∀ w : World, (Op.stringOp .add ⟨#[35, 102, 117, 110]⟩ (tx (Lib.itoa n))).run Tryz.prog w = .ok (.string (tx ([35, 102, 117, 110] ++ Lib.itoa n))) w := fun w => by
      rw [run_string_add_sum w _ _ (by rw [tx_size]; have := itoa_len hn; show 4 + _ ≤ _; omega), ← tx_append]
      rfl
    go_wp2
    go_ret
    exact ⟨retS (by simp [wordL]), hB1⟩
  · have ha : ∀ w : World, (Op.stringOp .add ⟨#[35, 107, 111, 110, 116]⟩ (tx (Lib.itoa n))).run Tryz.prog w = .ok (.string (tx ([35, 107, 111, 110, 116] ++ Lib.itoa n))) w := fun w => by
      rw [run_string_add_sum w _ _ (by rw [tx_size]; have := itoa_len hn; show 5 + _ ≤ _; omega), ← tx_append]
      rfl
    go_wp2
    go_ret
    exact ⟨retS (by simp [wordL]), hB1⟩
  · have ha : ∀ w : World, (Op.stringOp .add ⟨#[35, 112, 114, 105, 109]⟩ (tx (Lib.itoa n))).run Tryz.prog w = .ok (.string (tx ([35, 112, 114, 105, 109] ++ Lib.itoa n))) w := fun w => by
      rw [run_string_add_sum w _ _ (by rw [tx_size]; have := itoa_len hn; show 5 + _ ≤ _; omega), ← tx_append]
      rfl
    go_wp2
    go_ret
    exact ⟨retS (by simp [wordL]), hB1⟩
  · have ha : ∀ w : World, (Op.stringOp .add ⟨#[35, 112, 105, 100]⟩ (tx (Lib.itoa n))).run Tryz.prog w = .ok (.string (tx ([35, 112, 105, 100] ++ Lib.itoa n))) w := fun w => by
      rw [run_string_add_sum w _ _ (by rw [tx_size]; have := itoa_len hn; show 4 + _ ≤ _; omega), ← tx_append]
      rfl
    go_wp2
    go_ret
    exact ⟨retS (by simp [wordL]), hB1⟩
end Go.Proofs.YtbgkofinmdpmcaaGreatDoor
