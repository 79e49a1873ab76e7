/-
  Contracts of impl's and spec's LeaseDrop: what is left. No condition.
-/
import Derived.Test.YtdlbgdckkjhbdaaLsOkI
import Derived.Test.YtdlbgdckkjhbdaaLsOkS
import Derived.Test.YtdlbgdckkjhbdaaWith
import Derived.Test.YtdlbgdckkjhbdaaStore2
namespace Go.Proofs.Ytdlbgdckkjhbdaa
open Go.RowKit

/-- What is not over at n. -/
def lvL (xs : List Ls) (n : Int) : List Ls := xs.filter (fun x => decide (n ≤ x.u))
theorem lvL_at (xs : List Ls) (n : Int) (j : Nat) (x : Ls) (h : xs[j]? = some x) : lvL (xs.take (j + 1)) n = lvL (xs.take j) n ++ (if n ≤ x.u then [x] else []) := by
  obtain ⟨hl, rfl⟩ := List.getElem?_eq_some_iff.1 h
  unfold lvL
  rw [List.take_succ_eq_append_getElem hl, List.filter_append]
  congr 1
  by_cases e : n ≤ xs[j].u
  · simp [e]
  · simp [e]
theorem lvL_len (xs : List Ls) (n : Int) : (lvL xs n).length ≤ xs.length := List.length_filter_le _ _
/-- What LeaseDrop answers. -/
def dpL (xs : List Ls) (n : Int) : List Ls := if lsB xs = true then lvL xs n else []

theorem dpL_len (xs : List Ls) (n : Int) : (dpL xs n).length ≤ xs.length := by
  unfold dpL
  split
  · exact lvL_len xs n
  · simp

theorem LsRow.lit1 (w : World) (x : Ls) : LsRow (w.alloc (.cells #[.int .i64 x.i, .int .i64 x.w, .int .i64 x.u] 40)) (.slice (some ⟨w.heap.size, 0, none⟩) 1 1) [x] := by
  refine ⟨_, 1, rfl, ⟨by simp, fun h => by cases h⟩, by simp, fun _ => ⟨_, 0, rfl, by simp, fun i y hi => ?_⟩⟩
  have hi0 : i = 0 := by have := (List.getElem?_eq_some_iff.1 hi).1; simpa using this
  subst hi0
  simp only [List.getElem?_cons_zero, Option.some.injEq] at hi
  subst hi
  exact ⟨by rw [cell_of_row _ _ 0 _ _ _ (heap_alloc_new w _)]; rfl, by rw [cell_of_row _ _ 1 _ _ _ (heap_alloc_new w _)]; rfl, by rw [cell_of_row _ _ 2 _ _ _ (heap_alloc_new w _)]; rfl⟩

set_option maxHeartbeats 1600000 in
theorem sleasedrop_any (v : Value) (xs : List Ls) (n : Int) (w : World) (R : LsRow w v xs) :
    Calls Try.prog 20 #[v, .int .i64 n] w fun e w' => ∃ u, e = .returned u ∧ w'.ownsRow w.heap.size 40 3 u (dpL xs n).length (lscs (dpL xs n)) ∧ Below w.heap.size w w' := by
  have RR := R
  obtain ⟨ao, cap, rfl, hcap, hm, hcell⟩ := R
  obtain ⟨i0, hi, hz0, hz1, hz2⟩ := info_parts Try.infoLs
  have SO := fun (w : World) (R : LsRow w (.slice ao xs.length cap) xs) => sleasesok_any _ xs w R
  have hB0 : Below w.heap.size w (w.alloc (Obj.cells #[] 40)) := (Below.refl _ _).alloc (Nat.le_refl _) _
  have own0 := own_none0 w 40 3 w.heap.size (Nat.le_refl _)
  have HD : Hid (dpL xs n = if lsB xs = true then lvL xs n else []) := rfl
  have hbl := fun h : lsB xs = true => lsB_len h
  generalize lsB xs = bb at *
  generalize dpL xs n = D at *
  go_enter Try.func20, Try.ntmps20
  go_wp2
  go_loopw [5, 6] (fun p q wr => ∃ j : Nat, j ≤ xs.length ∧ q = .int .i64 j ∧ (0 < j → bb = true) ∧ wr.ownsRow w.heap.size 40 3 p (lvL (xs.take j) n).length (lscs (lvL (xs.take j) n)) ∧ Below w.heap.size w wr) (fun _ q _ => xs.length - (intOf q).toNat)
  case atStart => exact ⟨0, by omega, rfl, by omega, own0, hB0⟩
  case round =>
    clear own0 hB0
    obtain ⟨j, hj, rfl, hjb, hown, hb⟩ := hrel
    by_cases hlt : j < xs.length
    · go_wp2_with fail
      refine (SO _ (RR.below hb)).mono ?_
      rintro e w1 ⟨rfl, hb1⟩
      have hB1 := hb.trans (hb1.mono hb.size)
      have own1 := own_below hown hb1
      clear hb hb1 hown
      cases bb with
      | false =>
        have hj0 : j = 0 := by
          rcases Nat.eq_zero_or_pos j with h | h
          · exact h
          · cases hjb h
        subst hj0
        go_wp2
        go_ret
        refine ⟨_, rfl, ?_, hB1⟩
        rw [HD.out]
        exact own1
      | true =>
        obtain ⟨g, o, rfl, hg, hcell⟩ := hcell (by intro e; subst e; simp at hlt)
        obtain ⟨x, hx⟩ : ∃ x, xs[j]? = some x := ⟨xs[j], by simp [hlt]⟩
        obtain ⟨d0, d1, d2⟩ := (hcell j x hx).below hB1 hg
        have hL := lvL_len (xs.take j) n
        have hl20 := hbl rfl
        have hL2 : (lvL (xs.take j) n).length ≤ 20 := by simp at hL; omega
        clear hL
        by_cases e2 : n ≤ x.u
        · have HC : Hid (lvL (xs.take (j + 1)) n = lvL (xs.take j) n ++ [x]) := by unfold Hid; rw [lvL_at xs n j x hx, if_pos e2]
          clear hcell hx SO hbl
          generalize lvL (xs.take j) n = L at *
          obtain ⟨ap, cp, rfl⟩ := own_form own1
          have L1 := LsRow.lit1 w1 x
          go_wp2_with (at_builtin; refine wpList_append_own_any _ rfl _ _ 24 rfl w.heap.size 40 i0 _ 3 24 Try.underlying24 hi hz0 hz1 hz2 rfl (by decide) _ _ _ rfl (own1.alloc _) (some ⟨w1.heap.size, 0, none⟩) 1 1 (lscs [x]) rfl rfl L1.nilcap L1.cells (lscs_one _) (by unfold maxLen; omega) (by omega) (by have := hB1.size; simp; omega) ?_)
          intro u4 w4 o4 hg4
          have hB4 : Below w.heap.size w w4 := (hB1.alloc hB1.size _).grown hg4 (by have := hB1.size; simp; omega) (fun k hk => (own1.lt k hk).1)
          have o4' : w4.ownsRow w.heap.size 40 3 u4 (lvL (xs.take (j + 1)) n).length (lscs (lvL (xs.take (j + 1)) n)) := by rw [HC.out, lscs_append, List.length_append]; exact o4
          clear hg4 o4 own1 hB1 L1 HC d0 d1 d2
          go_wp2
          go_roundw
          case rel => exact ⟨j + 1, by omega, by go_num, by simp, o4', hB4⟩
          case measure => simp [intOf]; omega
        · have HC : Hid (lvL (xs.take (j + 1)) n = lvL (xs.take j) n) := by unfold Hid; rw [lvL_at xs n j x hx, if_neg e2, List.append_nil]
          clear hcell hx SO hbl
          have own2 : w1.ownsRow w.heap.size 40 3 u5 (lvL (xs.take (j + 1)) n).length (lscs (lvL (xs.take (j + 1)) n)) := by rw [HC.out]; exact own1
          clear own1 HC hL2
          go_wp2
          go_roundw
          case rel => exact ⟨j + 1, by omega, by go_num, by simp, own2, hB1⟩
          case measure => simp [intOf]; omega
    · have hjj : j = xs.length := by omega
      subst hjj
      have HO : Hid (D = lvL xs n) := by
        unfold Hid
        rw [HD.out]
        cases bb with
        | true => rfl
        | false =>
          cases xs with
          | nil => rfl
          | cons y ys => have := hjb (by simp); cases this
      rw [List.take_length] at hown
      clear RR hcell SO hbl
      go_wp2
      go_ret
      exact ⟨_, rfl, by rw [HO.out]; exact hown, hb⟩

set_option maxHeartbeats 1600000 in
theorem ileasedrop_any (v : Value) (xs : List Ls) (n : Int) (w : World) (R : LsRow w v xs) :
    Calls Try.prog 17 #[v, .int .i64 n] w fun e w' => ∃ u, e = .returned u ∧ w'.ownsRow w.heap.size 40 3 u (dpL xs n).length (lscs (dpL xs n)) ∧ Below w.heap.size w w' := by
  have RR := R
  obtain ⟨ao, cap, rfl, hcap, hm, hcell⟩ := R
  obtain ⟨i0, hi, hz0, hz1, hz2⟩ := info_parts Try.infoLs
  have SO := fun (w : World) (R : LsRow w (.slice ao xs.length cap) xs) => ileasesok_any _ xs w R
  have hB0 : Below w.heap.size w (w.alloc (Obj.cells #[] 40)) := (Below.refl _ _).alloc (Nat.le_refl _) _
  have own0 := own_none0 w 40 3 w.heap.size (Nat.le_refl _)
  have HD : Hid (dpL xs n = if lsB xs = true then lvL xs n else []) := rfl
  have hbl := fun h : lsB xs = true => lsB_len h
  generalize lsB xs = bb at *
  generalize dpL xs n = D at *
  go_enter Try.func17, Try.ntmps17
  go_wp2_with fail
  refine (SO _ (RR.below hB0)).mono ?_
  rintro e w0 ⟨rfl, hb0⟩
  have hB1 := hB0.trans (hb0.mono hB0.size)
  have own1 := own_below own0 hb0
  clear hB0 own0 hb0 SO RR
  cases bb with
  | false =>
    go_wp2
    go_ret
    refine ⟨_, rfl, ?_, hB1⟩
    rw [HD.out]
    exact own1
  | true =>
  have hl20 := hbl rfl
  clear hbl
  go_wp2
  go_loopw [5, 15] (fun p q wr => ∃ j : Nat, j ≤ xs.length ∧ q = .int .i64 j ∧ wr.ownsRow w.heap.size 40 3 p (lvL (xs.take j) n).length (lscs (lvL (xs.take j) n)) ∧ Below w.heap.size w wr) (fun _ q _ => xs.length - (intOf q).toNat)
  case atStart => exact ⟨0, by omega, rfl, own1, hB1⟩
  case round =>
    clear own1 hB1
    obtain ⟨j, hj, rfl, hown, hb⟩ := hrel
    by_cases hlt : j < xs.length
    · obtain ⟨g, o, rfl, hg, hcell⟩ := hcell (by intro e; subst e; simp at hlt)
      obtain ⟨x, hx⟩ : ∃ x, xs[j]? = some x := ⟨xs[j], by simp [hlt]⟩
      obtain ⟨d0, d1, d2⟩ := (hcell j x hx).below hb hg
      have hL := lvL_len (xs.take j) n
      have hL2 : (lvL (xs.take j) n).length ≤ 20 := by simp at hL; omega
      have hBn := hb.alloc hb.size (Obj.cells #[.int .i64 x.i, .int .i64 x.w, .int .i64 x.u] 40)
      have hxn := heap_alloc_new wr (Obj.cells #[.int .i64 x.i, .int .i64 x.w, .int .i64 x.u] 40)
      have ownn := hown.alloc (Obj.cells #[.int .i64 x.i, .int .i64 x.w, .int .i64 x.u] 40)
      have HE : Hid (lvL (xs.take (j + 1)) n = lvL (xs.take j) n ++ (if n ≤ x.u then [x] else [])) := lvL_at xs n j x hx
      clear hL hcell hx
      go_wp2_with fail
      refine (lend_any x _).mono ?_
      rintro e w1 ⟨rfl, hb1⟩
      have hB1 := hBn.trans (hb1.mono hBn.size)
      have hx1 := (hb1.block _ (by simp)).trans hxn
      have own1 := own_below ownn hb1
      clear hxn ownn hown hb
      go_wp2_with fail
      refine (mcovers_any x.u n _).mono ?_
      rintro e w2 ⟨rfl, hb2⟩
      have hB2 := hB1.trans (hb2.mono hB1.size)
      have hx2 := (hb2.block _ (by have := hb1.size; simp at this; omega)).trans hx1
      have own2 := own_below own1 hb2
      have cx0 : w2.cell? ⟨wr.heap.size, 0, none⟩ = some (.int .i64 x.i) := by rw [cell_of_row w2 _ 0 _ _ _ hx2]; rfl
      have cx1 : w2.cell? ⟨wr.heap.size, 0 + 1, none⟩ = some (.int .i64 x.w) := by rw [cell_of_row w2 _ 1 _ _ _ hx2]; rfl
      have cx2 : w2.cell? ⟨wr.heap.size, 0 + 2, none⟩ = some (.int .i64 x.u) := by rw [cell_of_row w2 _ 2 _ _ _ hx2]; rfl
      clear hb2 hB1 hBn hb1 hx1 hx2 own1 d0 d1 d2
      by_cases e2 : n ≤ x.u
      · have HC : Hid (lvL (xs.take (j + 1)) n = lvL (xs.take j) n ++ [x]) := by unfold Hid; rw [HE.out, if_pos e2]
        rw [decide_eq_true e2]
        clear HE
        generalize lvL (xs.take j) n = L at *
        obtain ⟨ap, cp, rfl⟩ := own_form own2
        have L1 := LsRow.lit1 w2 x
        go_wp2_with (at_builtin; refine wpList_append_own_any _ rfl _ _ 24 rfl w.heap.size 40 i0 _ 3 24 Try.underlying24 hi hz0 hz1 hz2 rfl (by decide) _ _ _ rfl (own2.alloc _) (some ⟨w2.heap.size, 0, none⟩) 1 1 (lscs [x]) rfl rfl L1.nilcap L1.cells (lscs_one _) (by unfold maxLen; omega) (by omega) (by have := hB2.size; simp; omega) ?_)
        intro u4 w4 o4 hg4
        have hB4 : Below w.heap.size w w4 := (hB2.alloc hB2.size _).grown hg4 (by have := hB2.size; simp; omega) (fun k hk => (own2.lt k hk).1)
        have o4' : w4.ownsRow w.heap.size 40 3 u4 (lvL (xs.take (j + 1)) n).length (lscs (lvL (xs.take (j + 1)) n)) := by rw [HC.out, lscs_append, List.length_append]; exact o4
        clear hg4 o4 own2 hB2 L1 HC cx0 cx1 cx2
        go_wp2
        go_roundw
        case rel => exact ⟨j + 1, by omega, by go_num, o4', hB4⟩
        case measure => simp [intOf]; omega
      · have HC : Hid (lvL (xs.take (j + 1)) n = lvL (xs.take j) n) := by unfold Hid; rw [HE.out, if_neg e2, List.append_nil]
        rw [decide_eq_false e2]
        have own3 : w2.ownsRow w.heap.size 40 3 u5 (lvL (xs.take (j + 1)) n).length (lscs (lvL (xs.take (j + 1)) n)) := by rw [HC.out]; exact own2
        clear own2 HC HE hL2
        go_wp2
        go_roundw
        case rel => exact ⟨j + 1, by omega, by go_num, own3, hB2⟩
        case measure => simp [intOf]; omega
    · have hjj : j = xs.length := by omega
      subst hjj
      have HO : Hid (D = lvL xs n) := HD.out
      rw [List.take_length] at hown
      clear hcell HD
      go_wp2
      go_ret
      exact ⟨_, rfl, by rw [HO.out]; exact hown, hb⟩
end Go.Proofs.Ytdlbgdckkjhbdaa
