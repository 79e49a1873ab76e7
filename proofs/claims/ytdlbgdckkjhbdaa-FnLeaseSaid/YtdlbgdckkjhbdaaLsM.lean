/-
  Leases: which are right, where one is; contracts of the small methods, of impl's placeOfClaim and spec's l11At. No condition.
-/
import Derived.Test.YtdlbgdckkjhbdaaLsMark
import Derived.Test.YtdlbgdckkjhbdaaName
namespace Go.Proofs.Ytdlbgdckkjhbdaa
open Go.RowKit

/-- The place of the first of xs that is of id and who, counted from k on; -1: there is none. -/
def lsIdx : List Ls → Int → Int → Nat → Int
  | [], _, _, _ => -1
  | x :: xs, i, q, k => if (x.i == i && x.w == q) = true then k else lsIdx xs i q (k + 1)
theorem lsIdx_hit (xs : List Ls) (i q : Int) (k : Nat) (x : Ls) (h : xs[k]? = some x) (e : (x.i == i && x.w == q) = true) : lsIdx (xs.drop k) i q k = k := by
  obtain ⟨hl, he⟩ := List.getElem?_eq_some_iff.1 h
  rw [List.drop_eq_getElem_cons hl, he, lsIdx, if_pos e]
theorem lsIdx_miss (xs : List Ls) (i q : Int) (k : Nat) (x : Ls) (h : xs[k]? = some x) (e : (x.i == i && x.w == q) = false) : lsIdx (xs.drop k) i q k = lsIdx (xs.drop (k + 1)) i q (k + 1) := by
  obtain ⟨hl, he⟩ := List.getElem?_eq_some_iff.1 h
  rw [List.drop_eq_getElem_cons hl, he, lsIdx, if_neg (by rw [e]; simp)]
theorem lsIdx_end (xs : List Ls) (i q : Int) (k : Nat) (h : xs.length ≤ k) : lsIdx (xs.drop k) i q k = -1 := by
  rw [List.drop_eq_nil_of_le h, lsIdx]
theorem lsIdx_of (xs : List Ls) (i q : Int) (k : Nat) : lsIdx xs i q k = -1 ∧ (∀ x ∈ xs, (x.i == i && x.w == q) = false) ∨ ∃ (j : Nat) (x : Ls), lsIdx xs i q k = (k + j : Nat) ∧ xs[j]? = some x ∧ x.i = i ∧ x.w = q ∧ ∀ j' y, xs[j']? = some y → j' < j → (y.i == i && y.w == q) = false := by
  induction xs generalizing k with
  | nil => exact Or.inl ⟨rfl, by simp⟩
  | cons x xs ih =>
    by_cases e : (x.i == i && x.w == q) = true
    · refine Or.inr ⟨0, x, by rw [lsIdx, if_pos e]; rfl, rfl, ?_, ?_, fun j' y _ h => by omega⟩
      · simp at e; exact e.1
      · simp at e; exact e.2
    · rw [lsIdx, if_neg e]
      rcases ih (k + 1) with ⟨h1, h2⟩ | ⟨j, y, h1, h2, h3, h4, h5⟩
      · refine Or.inl ⟨h1, fun y hy => ?_⟩
        rcases List.mem_cons.1 hy with rfl | hy
        · simpa using e
        · exact h2 y hy
      · refine Or.inr ⟨j + 1, y, by rw [h1]; congr 1; omega, by simpa using h2, h3, h4, fun j' z hz hj => ?_⟩
        cases j' with
        | zero => simp at hz; subst hz; simpa using e
        | succ j' => exact h5 j' z (by simpa using hz) (by omega)
theorem lsIdx_lt (xs : List Ls) (i q : Int) : -1 ≤ lsIdx xs i q 0 ∧ lsIdx xs i q 0 < xs.length := by
  rcases lsIdx_of xs i q 0 with ⟨h, _⟩ | ⟨j, x, h1, h2, _⟩
  · rw [h]; omega
  · have := (List.getElem?_eq_some_iff.1 h2).1
    rw [h1]; omega

/-- The lease is within its limits. -/
def lsFit (x : Ls) : Bool := (decide (1 ≤ x.i) && decide (x.i ≤ 1000000000)) && ((decide (0 ≤ x.w) && decide (x.w ≤ 9)) && (decide (0 ≤ x.u) && decide (x.u ≤ 1000000000)))
theorem lsFit_iff (x : Ls) : lsFit x = true ↔ (1 ≤ x.i ∧ x.i ≤ 1000000000) ∧ (0 ≤ x.w ∧ x.w ≤ 9) ∧ (0 ≤ x.u ∧ x.u ≤ 1000000000) := by
  unfold lsFit
  simp only [Bool.and_eq_true, decide_eq_true_eq]
theorem lsFit_no {x : Ls} (h : ¬ ((1 ≤ x.i ∧ x.i ≤ 1000000000) ∧ (0 ≤ x.w ∧ x.w ≤ 9) ∧ (0 ≤ x.u ∧ x.u ≤ 1000000000))) : lsFit x = false := by
  rw [Bool.eq_false_iff]
  intro e
  exact h ((lsFit_iff x).1 e)
/-- The lease x at the place j is right behind those ahead of it. -/
def lsOne (xs : List Ls) (j : Nat) (x : Ls) : Bool := lsFit x && decide (lsIdx (xs.take j) x.i x.w 0 < 0)
def lsFrom (xs : List Ls) : List Ls → Nat → Bool
  | [], _ => true
  | y :: ys, j => lsOne xs j y && lsFrom xs ys (j + 1)
/-- The leases are right. -/
def lsB (xs : List Ls) : Bool := decide (xs.length ≤ 20) && lsFrom xs xs 0
theorem lsFrom_at (xs : List Ls) (j : Nat) (x : Ls) (h : xs[j]? = some x) : lsFrom xs (xs.drop j) j = (lsOne xs j x && lsFrom xs (xs.drop (j + 1)) (j + 1)) := by
  obtain ⟨hl, rfl⟩ := List.getElem?_eq_some_iff.1 h
  rw [List.drop_eq_getElem_cons hl]
  rfl
theorem lsFrom_end (xs : List Ls) : lsFrom xs (xs.drop xs.length) xs.length = true := by rw [List.drop_length]; rfl
theorem lsB_len {xs : List Ls} (h : lsB xs = true) : xs.length ≤ 20 := by
  unfold lsB at h
  simp only [Bool.and_eq_true, decide_eq_true_eq] at h
  exact h.1

theorem Try.sizeMoment : (Try.prog.info? 61).map (·.size) = some 1 := by kernel_rfl
theorem Try.sizeClaim : (Try.prog.info? 71).map (·.size) = some 2 := by kernel_rfl

set_option maxHeartbeats 400000 in
theorem mcovers_any (m n : Int) (w : World) :
    Calls Try.prog 46 #[.agg #[.int .i64 m], .agg #[.int .i64 n]] w fun e w' => e = .returned (.bool (decide (n ≤ m))) ∧ Below w.heap.size w w' := by
  have hB : Below w.heap.size w ((w.alloc (Obj.cells #[.int .i64 m] 61)).alloc (Obj.cells #[.int .i64 n] 61)) := below2 _ _ _
  by_cases h : n = m
  · subst h
    have HD : Hid (decide (n ≤ n) = true) := by unfold Hid; simp
    go_enter Try.func46, Try.ntmps46
    go_wp2
    go_ret
    exact ⟨retB HD.out.symm, hB⟩
  · have h1 : (n == m) = false := by simpa using h
    by_cases h2 : n < m
    · have HD : Hid (decide (n ≤ m) = true) := by unfold Hid; simp; omega
      go_enter Try.func46, Try.ntmps46
      go_wp2
      go_ret
      exact ⟨retB HD.out.symm, hB⟩
    · have HD : Hid (decide (n ≤ m) = false) := by unfold Hid; simp; omega
      go_enter Try.func46, Try.ntmps46
      go_wp2
      go_ret
      exact ⟨retB HD.out.symm, hB⟩

set_option maxHeartbeats 400000 in
theorem mistime_any (m : Int) (w : World) :
    Calls Try.prog 36 #[.agg #[.int .i64 m]] w fun e w' => e = .returned (.bool (decide (0 ≤ m) && decide (m ≤ 1000000000))) ∧ Below w.heap.size w w' := by
  have hB : Below w.heap.size w (w.alloc (Obj.cells #[.int .i64 m] 61)) := (Below.refl _ _).alloc (Nat.le_refl _) _
  obtain ⟨r, hr⟩ : ∃ r, (decide (0 ≤ m) && decide (m ≤ 1000000000)) = r := ⟨_, rfl⟩
  rw [hr]
  by_cases h : 0 ≤ m
  · by_cases h2 : m ≤ 1000000000
    · have HD : Hid (r = true) := by unfold Hid; rw [← hr]; simp; omega
      clear hr
      go_enter Try.func36, Try.ntmps36
      go_wp2
      go_ret
      exact ⟨retB HD.out.symm, hB⟩
    · have HD : Hid (r = false) := by unfold Hid; rw [← hr]; simp; omega
      clear hr
      go_enter Try.func36, Try.ntmps36
      go_wp2
      go_ret
      exact ⟨retB HD.out.symm, hB⟩
  · have HD : Hid (r = false) := by unfold Hid; rw [← hr]; simp; omega
    clear hr
    go_enter Try.func36, Try.ntmps36
    go_wp2
    go_ret
    exact ⟨retB HD.out.symm, hB⟩

set_option maxHeartbeats 400000 in
theorem lend_any (x : Ls) (w : World) :
    Calls Try.prog 47 #[.agg #[.int .i64 x.i, .int .i64 x.w, .int .i64 x.u]] w fun e w' => e = .returned (.agg #[.int .i64 x.u]) ∧ Below w.heap.size w w' := by
  go_enter Try.func47, Try.ntmps47
  go_wp2
  exact bodyPost_ret (results_cell_row rfl _ _ (w.heap.size + 1) 61 _ (0, 0) _ rfl (heap_alloc2_new _ _ _) Try.underlying61 rfl Try.sizeMoment) rfl
    ⟨rfl, below2 _ _ _⟩

set_option maxHeartbeats 400000 in
theorem lclaim_any (x : Ls) (w : World) :
    Calls Try.prog 44 #[.agg #[.int .i64 x.i, .int .i64 x.w, .int .i64 x.u]] w fun e w' => e = .returned (.agg #[.int .i64 x.i, .int .i64 x.w]) ∧ Below w.heap.size w w' := by
  go_enter Try.func44, Try.ntmps44
  go_wp2
  exact bodyPost_ret (results_cell_row rfl _ _ (w.heap.size + 1) 71 _ (0, 0) _ rfl (heap_alloc2_new _ _ _) Try.underlying71 rfl Try.sizeClaim) rfl
    ⟨rfl, below2 _ _ _⟩

set_option maxHeartbeats 1600000 in
theorem lfits_any (x : Ls) (w : World) :
    Calls Try.prog 45 #[.agg #[.int .i64 x.i, .int .i64 x.w, .int .i64 x.u]] w fun e w' => e = .returned (.bool (lsFit x)) ∧ Below w.heap.size w w' := by
  have hB : Below w.heap.size w (w.alloc (Obj.cells #[.int .i64 x.i, .int .i64 x.w, .int .i64 x.u] 40)) := (Below.refl _ _).alloc (Nat.le_refl _) _
  by_cases h1 : 1 ≤ x.i
  rotate_left
  · have HD : Hid (lsFit x = false) := lsFit_no (by omega)
    go_enter Try.func45, Try.ntmps45
    go_wp2
    go_ret
    exact ⟨retB HD.out.symm, hB⟩
  by_cases h2 : x.i ≤ 1000000000
  rotate_left
  · have HD : Hid (lsFit x = false) := lsFit_no (by omega)
    go_enter Try.func45, Try.ntmps45
    go_wp2
    go_ret
    exact ⟨retB HD.out.symm, hB⟩
  by_cases h3 : 0 ≤ x.w
  rotate_left
  · have HD : Hid (lsFit x = false) := lsFit_no (by omega)
    go_enter Try.func45, Try.ntmps45
    go_wp2
    go_ret
    exact ⟨retB HD.out.symm, hB⟩
  by_cases h4 : x.w ≤ 9
  rotate_left
  · have HD : Hid (lsFit x = false) := lsFit_no (by omega)
    go_enter Try.func45, Try.ntmps45
    go_wp2
    go_ret
    exact ⟨retB HD.out.symm, hB⟩
  have HD : Hid (lsFit x = (decide (0 ≤ x.u) && decide (x.u ≤ 1000000000))) := by
    unfold Hid lsFit
    simp [h1, h2, h3, h4]
  go_enter Try.func45, Try.ntmps45
  go_wp2_with fail
  refine (lend_any x _).mono ?_
  rintro e w1 ⟨rfl, hb1⟩
  have hB1 := hB.trans (hb1.mono hB.size)
  clear hb1 hB
  go_wp2_with fail
  refine (mistime_any x.u _).mono ?_
  rintro e w2 ⟨rfl, hb2⟩
  have hB2 := hB1.trans (hb2.mono hB1.size)
  clear hb2 hB1
  generalize (decide (0 ≤ x.u) && decide (x.u ≤ 1000000000)) = r at *
  cases r
  all_goals
    go_wp2
    go_ret
    exact ⟨retB HD.out.symm, hB2⟩
end Go.Proofs.Ytdlbgdckkjhbdaa
