/-
  Texts that stood by themselves, laid into one.
-/
import Derived.Test.YtpkpednemkagiaaDraw2M
/-
  Contracts of the draws: l1PickInt gives one of its numbers; at gives a byte of the code.
-/
namespace Go.Proofs.Ytpkpednemkagiaa
open Go.RowKit

set_option maxHeartbeats 800000 in
theorem pick_any (w0 : World) (v : Value) (zs : List Int) (w : World) (P g cap : Nat) (xs : List Int) (c : Cur w0 v zs w P) (hg : g ≠ P) (h1 : 1 ≤ xs.length) (h2 : xs.length ≤ 1048576) (hr : ∀ x ∈ xs, -9223372036854775808 ≤ x ∧ x ≤ 9223372036854775807)
    (hc : ∀ i, i < xs.length → w.cell? ⟨g, i, none⟩ = some (.int .i64 (xs.getD i 0))) :
    Calls Try.prog 40 #[.pointer (some ⟨P, 0, none⟩), .slice (some ⟨g, 0, none⟩) xs.length cap] w fun e w' => ∃ x : Int, e = .returned (.int .i64 x) ∧ -9223372036854775808 ≤ x ∧ x ≤ 9223372036854775807 ∧ Cur w0 v zs w' P ∧ w.grownBy w' (some P) := by
  have hgl := World.block_lt_of_cell? _ _ (hc 0 (by omega))
  simp only at hgl
  go_enter Try.func40, Try.ntmps40
  go_wp2_with fail
  refine (below_any w0 v zs w P xs.length c (by omega)).mono ?_
  rintro e w1 ⟨x, rfl, hx0, hx1, c1, g1⟩
  have hx := hx1 (by omega)
  obtain ⟨k, rfl⟩ := Int.eq_ofNat_of_zero_le hx0
  have hk : k < xs.length := by omega
  have hck : w1.cell? ⟨g, k, none⟩ = some (.int .i64 (xs.getD k 0)) := by
    rw [World.cell?_of_block (w := w) (g1.block g hgl (by simpa using hg))]; exact hc k hk
  have hrk := hr xs[k] (List.getElem_mem _)
  clear hc hr hx1
  go_wp2_with fail
  go_ret
  exact ⟨_, rfl, hrk.1, hrk.2, c1, g1⟩

theorem ints_new (w : World) (xs : List Int) (t : TypeId) (i : Nat) (hi : i < xs.length) : (w.alloc (.cells (xs.map (Value.int .i64)).toArray t)).cell? ⟨w.heap.size, i, none⟩ = some (.int .i64 (xs.getD i 0)) := by
  rw [cell_of_row _ w.heap.size i _ t (0, 0) (heap_alloc_new w _)]
  simp [hi]

end Go.Proofs.Ytpkpednemkagiaa

/-
  Contracts of the draws: l1Once tells yes or no; l1Pick gives one of its texts.
-/
namespace Go.Proofs.Ytpkpednemkagiaa
open Go.RowKit

set_option maxHeartbeats 800000 in
theorem once_any (w0 : World) (v : Value) (zs : List Int) (w : World) (P : Nat) (n : Int) (c : Cur w0 v zs w P) (hn : n ≤ 9223372036854775807) :
    Calls Try.prog 28 #[.pointer (some ⟨P, 0, none⟩), .int .i64 n] w fun e w' => ∃ b : Bool, e = .returned (.bool b) ∧ Cur w0 v zs w' P ∧ w.grownBy w' (some P) := by
  go_enter Try.func28, Try.ntmps28
  go_wp2_with fail
  refine (below_any w0 v zs w P n c hn).mono ?_
  rintro e w1 ⟨x, rfl, hx0, hx1, c1, g1⟩
  go_wp2_with fail
  go_ret
  exact ⟨_, rfl, c1, g1⟩

set_option maxHeartbeats 800000 in
theorem picks_any (w0 : World) (v : Value) (zs : List Int) (w : World) (P g cap : Nat) (xs : List ByteArray) (c : Cur w0 v zs w P) (hg : g ≠ P) (h1 : 1 ≤ xs.length) (h2 : xs.length ≤ 1048576)
    (hc : ∀ i, i < xs.length → w.cell? ⟨g, i, none⟩ = some (.string (xs.getD i ByteArray.empty))) :
    Calls Try.prog 23 #[.pointer (some ⟨P, 0, none⟩), .slice (some ⟨g, 0, none⟩) xs.length cap] w fun e w' => ∃ s ∈ xs, e = .returned (.string s) ∧ Cur w0 v zs w' P ∧ w.grownBy w' (some P) := by
  have hgl := World.block_lt_of_cell? _ _ (hc 0 (by omega))
  simp only at hgl
  go_enter Try.func23, Try.ntmps23
  go_wp2_with fail
  refine (below_any w0 v zs w P xs.length c (by omega)).mono ?_
  rintro e w1 ⟨x, rfl, hx0, hx1, c1, g1⟩
  have hx := hx1 (by omega)
  obtain ⟨k, rfl⟩ := Int.eq_ofNat_of_zero_le hx0
  have hk : k < xs.length := by omega
  have hck : w1.cell? ⟨g, k, none⟩ = some (.string (xs.getD k ByteArray.empty)) := by
    rw [World.cell?_of_block (w := w) (g1.block g hgl (by simpa using hg))]; exact hc k hk
  rw [show xs.getD k ByteArray.empty = xs[k] by simp [hk]] at hck
  have hmem : xs[k] ∈ xs := List.getElem_mem _
  generalize xs[k] = s at hck hmem
  clear hc hx1
  go_wp2_with fail
  go_ret
  exact ⟨s, hmem, rfl, c1, g1⟩

theorem strs_new (w : World) (xs : List ByteArray) (t : TypeId) (i : Nat) (hi : i < xs.length) : (w.alloc (.cells (xs.map Value.string).toArray t)).cell? ⟨w.heap.size, i, none⟩ = some (.string (xs.getD i ByteArray.empty)) := by
  rw [cell_of_row _ w.heap.size i _ t (0, 0) (heap_alloc_new w _)]
  simp [hi]

end Go.Proofs.Ytpkpednemkagiaa

/-
  Plain mathematics of a number's bytes: groups of seven bits, the lowest first. Nothing of the program; no condition.
-/
namespace Go.Proofs.Ytpkpednemkagiaa

/-- A number's bytes, f of them at most. -/
def enc : Nat → Int → List Int
  | 0, _ => []
  | f + 1, x => if x < 128 then [x] else (x % 128 + 128) :: enc f (x / 128)
/-- What f bytes can't hold. -/
def lim : Nat → Int
  | 0 => 1
  | f + 1 => 128 * lim f
theorem lim_nine : lim 9 = 9223372036854775808 := by simp [lim]
theorem lim_pos (f : Nat) : 1 ≤ lim f := by
  induction f with
  | zero => simp [lim]
  | succ f ih => simp only [lim]; omega
theorem enc_last (f : Nat) (x : Int) (h : x < 128) : enc (f + 1) x = [x] := by simp [enc, h]
theorem enc_more (f : Nat) (x : Int) (h : 128 ≤ x) : enc (f + 1) x = (x % 128 + 128) :: enc f (x / 128) := by
  have : ¬ x < 128 := by omega
  simp [enc, this]
theorem lim_more (f : Nat) (y : Int) (h : 128 ≤ y) (hy : y < lim (f + 1)) : ∃ f', f = f' + 1 ∧ y / 128 < lim f := by
  cases f with
  | zero => simp [lim] at hy; omega
  | succ f' => exact ⟨f', rfl, by simp only [lim] at hy ⊢; omega⟩
theorem enc_length (f : Nat) (x : Int) : (enc f x).length ≤ f := by
  induction f generalizing x with
  | zero => simp [enc]
  | succ f ih =>
    simp only [enc]
    split
    · simp
    · simp only [List.length_cons]; have := ih (x / 128); omega
theorem enc_wf (f : Nat) (x : Int) (h : 0 ≤ x) : ∀ z ∈ enc f x, 0 ≤ z ∧ z ≤ 255 := by
  induction f generalizing x with
  | zero => simp [enc]
  | succ f ih =>
    simp only [enc]
    split
    · intro z hz; simp at hz; omega
    · intro z hz
      simp only [List.mem_cons] at hz
      rcases hz with rfl | hz
      · omega
      · exact ih _ (by omega) z hz
/-- The bytes of any int: none of one below 0. -/
def encI (x : Int) : List Int := if x < 0 then [] else enc 9 x
theorem encI_neg (x : Int) (h : x < 0) : encI x = [] := by simp [encI, h]
theorem encI_pos (x : Int) (h : 0 ≤ x) : encI x = enc 9 x := by
  have : ¬ x < 0 := by omega
  simp [encI, this]
theorem encI_length (x : Int) : (encI x).length ≤ 9 := by
  unfold encI; split
  · simp
  · exact enc_length 9 x
theorem encI_wf (x : Int) : ∀ z ∈ encI x, 0 ≤ z ∧ z ≤ 255 := by
  unfold encI; split
  · simp
  · exact enc_wf 9 x (by omega)

end Go.Proofs.Ytpkpednemkagiaa

/-
  Plain mathematics of reading a number from bytes. Nothing of the program; no condition.
-/
namespace Go.Proofs.Ytpkpednemkagiaa
open Go.RowKit

/-- The bytes of the form that stands ahead, f of them at most: up to the first below 128. -/
def scan : Nat → List Int → Option (List Int)
  | 0, _ => none
  | _ + 1, [] => none
  | f + 1, b :: bs => if b < 128 then some [b] else (scan f bs).map (b :: ·)
/-- The number of a form. -/
def val : List Int → Int
  | [] => 0
  | b :: bs => b % 128 + 128 * val bs
theorem val_bounds (bs : List Int) : 0 ≤ val bs ∧ val bs < lim bs.length := by
  induction bs with
  | nil => simp [val, lim]
  | cons b bs ih => simp only [val, List.length_cons, lim]; omega
theorem val_snoc (bs : List Int) (b : Int) : val (bs ++ [b]) = val bs + b % 128 * lim bs.length := by
  induction bs with
  | nil => simp [val, lim]
  | cons c bs ih =>
    simp only [List.cons_append, val, ih, List.length_cons, lim]
    rw [Int.mul_add, ← Int.mul_assoc, ← Int.mul_assoc, Int.mul_comm (b % 128) 128]
    omega
theorem lim_mono {a b : Nat} (h : a ≤ b) : lim a ≤ lim b := by
  induction h with
  | refl => exact Int.le_refl _
  | step h ih => rename_i m; have := lim_pos m; simp only [lim]; omega
theorem mul_lim (b : Int) (k : Nat) : 0 ≤ b % 128 * lim k ∧ b % 128 * lim k ≤ 127 * lim k := by
  have h1 : 0 ≤ b % 128 := by omega
  have h2 : b % 128 ≤ 127 := by omega
  have h3 := lim_pos k
  exact ⟨Int.mul_nonneg h1 (by omega), Int.mul_le_mul_of_nonneg_right h2 (by omega)⟩

def gN (zs : List Int) (a : Int) : Int × Int × Bool :=
  if a < 0 then (0, 0, false) else
  match scan 9 (zs.drop a.toNat) with
  | none => (0, 0, false)
  | some bs => if 1 < bs.length ∧ bs.getLast? = some 0 then (0, 0, false) else (val bs, a + bs.length, true)
theorem gN_neg (zs : List Int) (a : Int) (h : a < 0) : gN zs a = (0, 0, false) := by simp [gN, h]
theorem gN_none (zs : List Int) (a : Nat) (h : scan 9 (zs.drop a) = none) : gN zs (a : Int) = (0, 0, false) := by
  have : ¬ (a : Int) < 0 := by omega
  simp [gN, h]
theorem gN_zero (zs : List Int) (a : Nat) (acc : List Int) (h : scan 9 (zs.drop a) = some (acc ++ [0])) (hk : 0 < acc.length) : gN zs (a : Int) = (0, 0, false) := by
  have : ¬ (a : Int) < 0 := by omega
  simp [gN, h]
  intro h0; subst h0; simp at hk
theorem gN_some (zs : List Int) (a : Nat) (acc : List Int) (b : Int) (h : scan 9 (zs.drop a) = some (acc ++ [b])) (hk : ¬ (b = 0 ∧ 0 < acc.length)) :
    gN zs (a : Int) = (val acc + b % 128 * lim acc.length, (a : Int) + acc.length + 1, true) := by
  have h1 : ¬ (a : Int) < 0 := by omega
  have h2 : ¬ (1 < (acc ++ [b]).length ∧ (acc ++ [b]).getLast? = some 0) := by
    simp only [List.length_append, List.length_cons, List.length_nil, List.getLast?_append, List.getLast?_singleton, Option.some_or, Option.some.injEq]
    omega
  simp only [gN, h1, if_false, Int.toNat_natCast, h]
  rw [if_neg h2, val_snoc]
  simp only [List.length_append, List.length_cons, List.length_nil]
  congr 2

/-- k bytes of the form have gone by. -/
def Sc (zs : List Int) (a k : Nat) (acc : List Int) : Prop := acc.length = k ∧ scan 9 (zs.drop a) = (scan (9 - k) (zs.drop (a + k))).map (acc ++ ·)
theorem Sc.start (zs : List Int) (a : Nat) : Sc zs a 0 [] := ⟨rfl, by simp⟩
theorem Sc.more {zs : List Int} {a k : Nat} {acc : List Int} (h : Sc zs a k acc) (hk : k < 9) (hl : a + k < zs.length) (hb : 128 ≤ zs[a + k]) : Sc zs a (k + 1) (acc ++ [zs[a + k]]) := by
  refine ⟨by simp [h.1], ?_⟩
  rw [h.2, show 9 - k = 9 - (k + 1) + 1 by omega, List.drop_eq_getElem_cons hl]
  simp only [scan]
  rw [if_neg (by omega), Option.map_map]
  congr 1
  funext x
  simp
theorem Sc.last {zs : List Int} {a k : Nat} {acc : List Int} (h : Sc zs a k acc) (hk : k < 9) (hl : a + k < zs.length) (hb : zs[a + k] < 128) : scan 9 (zs.drop a) = some (acc ++ [zs[a + k]]) := by
  rw [h.2, show 9 - k = 9 - (k + 1) + 1 by omega, List.drop_eq_getElem_cons hl]
  simp only [scan]
  rw [if_pos hb]
  rfl
theorem Sc.out {zs : List Int} {a k : Nat} {acc : List Int} (h : Sc zs a k acc) (hk : 9 ≤ k ∨ zs.length ≤ a + k) : scan 9 (zs.drop a) = none := by
  rw [h.2]
  rcases hk with hk | hk
  · rw [show 9 - k = 0 by omega]; rfl
  · rw [List.drop_eq_nil_of_le hk]
    cases 9 - k <;> rfl

/-- What GetNum answers, as a value. -/
abbrev gV (r : Int × Int × Bool) : Value := .tuple #[.int .i64 r.1, .int .i64 r.2.1, .bool r.2.2]

theorem lim_eight {k : Nat} (h : k ≤ 8) : lim k ≤ 72057594037927936 := by
  have := lim_mono h
  rw [show lim 8 = 72057594037927936 from by simp [lim]] at this
  exact this
theorem lim_seven {k : Nat} (h : k ≤ 7) : lim k ≤ 562949953421312 := by
  have := lim_mono h
  rw [show lim 7 = 562949953421312 from by simp [lim]] at this
  exact this

end Go.Proofs.Ytpkpednemkagiaa
