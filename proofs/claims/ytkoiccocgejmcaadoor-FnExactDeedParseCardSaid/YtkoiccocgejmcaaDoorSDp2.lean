/-
  The contracts of spec.l17Num and spec.DeedParse. No condition but the line's length.
-/
import Derived.Test.YtkoiccocgejmcaaDoorSDp1
import Derived.Test.YtkoiccocgejmcaaDoorSNum2
namespace Go.Proofs.YtkoiccocgejmcaaDoor
open Go.RowKit

/-- A text that is a number from 0 on of nine digits at most. -/
def n9 (l : List UInt8) : Bool := numB l && !decide (tval l < 0) && !decide (9 < l.length)

set_option maxHeartbeats 800000 in
theorem snum17_any (l : List UInt8) (w : World) (hs : l.length ≤ 1048576) :
    Calls Tryd.prog 19 #[.string (tx l)] w fun e w' => ∃ x : Int, e = .returned (.tuple #[.int .i64 x, .bool (n9 l)]) ∧ (n9 l = true → x = tval l) ∧ Below w.heap.size w w' := by
  have N := snum_any (tx l) w (by rw [tx_size]; unfold maxLen; omega)
  rw [tx_list] at N
  have hz := tx_size l
  have HN9 : Hid (n9 l = (numB l && !decide (tval l < 0) && !decide (9 < l.length))) := rfl
  go_enter Tryd.func19, Tryd.ntmps19
  go_wp2_with fail
  refine N.mono ?_
  rintro e w1 ⟨x, rfl, hx, hb1⟩
  cases hn : numB l with
  | false =>
    have HF : Hid (n9 l = false) := by unfold Hid; rw [HN9.out, hn]; rfl
    clear hx N
    go_wp2_with fail
    go_ret2
    exact ⟨0, by rw [HF.out]; rfl, fun h => by (rw [HF.out] at h; cases h), hb1⟩
  | true =>
    have HXE : Hid (x = tval l) := hx hn
    have HN9' : Hid (n9 l = (numB l && !decide (x < 0) && !decide (9 < l.length))) := by unfold Hid; rw [HXE.out]; exact HN9.out
    clear N hx HN9
    by_cases h0 : x < 0
    · have HF : Hid (n9 l = false) := by unfold Hid; rw [HN9'.out, decide_eq_true h0]; simp
      go_wp2_with fail
      go_ret2
      exact ⟨0, by rw [HF.out]; rfl, fun h => by (rw [HF.out] at h; cases h), hb1⟩
    · by_cases h9 : 9 < l.length
      · have HF : Hid (n9 l = false) := by unfold Hid; rw [HN9'.out, decide_eq_true h9]; simp
        have h9' : (9 : Int) < ((tx l).size : Int) := by omega
        go_wp2_with fail
        go_ret2
        exact ⟨0, by rw [HF.out]; rfl, fun h => by (rw [HF.out] at h; cases h), hb1⟩
      · have HF : Hid (n9 l = true) := by unfold Hid; rw [HN9'.out, hn, decide_eq_false h9, decide_eq_false h0]; rfl
        have h9' : ¬ (9 : Int) < ((tx l).size : Int) := by omega
        go_wp2_with fail
        go_ret2
        exact ⟨x, by rw [HF.out]; rfl, fun _ => HXE.out, hb1⟩

/-- The numbers of a line, from the i-th word on. -/
def fld : Nat → List (List UInt8) → Int → Int → Option (Int × Int)
  | _, [], a, b => some (a, b)
  | i, w :: r, a, b => if n9 w = true ∧ i ≤ 2 then (if i = 1 then fld (i + 1) r (tval w) b else fld (i + 1) r a (tval w)) else none
/-- The kind that a word names; 0: none. -/
def kdL (l : List UInt8) : Int := if l = dwL 1 then 1 else if l = dwL 2 then 2 else if l = dwL 3 then 3 else if l = dwL 4 then 4 else if l = dwL 5 then 5 else 0
theorem kdL_range (l : List UInt8) : 0 ≤ kdL l ∧ kdL l ≤ 5 := by
  unfold kdL
  repeat' split
  all_goals omega
theorem kdL_iff (l : List UInt8) (k : Int) (hk : 1 ≤ k ∧ k ≤ 5) : l = dwL k ↔ kdL l = k := by
  constructor
  · rintro rfl
    rcases dwL_cases hk with rfl | rfl | rfl | rfl | rfl <;> decide
  · intro h
    unfold kdL at h
    split at h
    · rename_i e; rw [← h]; exact e
    · split at h
      · rename_i e; rw [← h]; exact e
      · split at h
        · rename_i e; rw [← h]; exact e
        · split at h
          · rename_i e; rw [← h]; exact e
          · split at h
            · rename_i e; rw [← h]; exact e
            · omega
theorem n9_itoa {x : Int} (h : 0 ≤ x) (h9 : x ≤ 999999999) : n9 (Lib.itoa x) = true := by
  unfold n9
  have hn : numB (Lib.itoa x) = true := (numB_iff _).2 ⟨x, by omega, rfl⟩
  have hl := (itoa_nine h).2 h9
  rw [hn, tval_itoa, decide_eq_false (by omega), decide_eq_false (by omega)]
  rfl
theorem fld_line {k a b : Int} (h : dlB k a b = true) : fld 1 ((spl (lineL k a b)).drop 1) 0 0 = some (a, b) ∧ kdL ((spl (lineL k a b)).headD []) = k := by
  obtain ⟨h1, h2, h3⟩ := dlB_iff.1 h
  obtain ⟨h4, h5⟩ := dkB_nonneg h1
  have hk := dkB_kind h1
  have na := n9_itoa h4 h2
  have nb := n9_itoa h5 h3
  rw [spl_line h1]
  by_cases hq : k = 1 ∨ k = 2
  · rw [if_pos hq]
    refine ⟨?_, (kdL_iff _ k hk).1 rfl⟩
    simp [fld, na, nb, tval_itoa]
  · rw [if_neg hq]
    refine ⟨?_, (kdL_iff _ k hk).1 rfl⟩
    simp [fld, na, tval_itoa, dkB_one h1 hq]
end Go.Proofs.YtkoiccocgejmcaaDoor
