/-
  Contracts of impl's and spec's Kept: whether a thing is kept. No condition.
-/
import Derived.Test.YtdlbgdckkjhbdaaLsOkI
import Derived.Test.YtdlbgdckkjhbdaaLsOkS
namespace Go.Proofs.Ytdlbgdckkjhbdaa
open Go.RowKit

/-- There is one of that Id whose Until is at least now. -/
def ktB : List Ls → Int → Int → Bool
  | [], _, _ => false
  | x :: xs, i, n => (x.i == i && decide (n ≤ x.u)) || ktB xs i n
theorem ktB_at (xs : List Ls) (i n : Int) (k : Nat) (x : Ls) (h : xs[k]? = some x) : ktB (xs.drop k) i n = ((x.i == i && decide (n ≤ x.u)) || ktB (xs.drop (k + 1)) i n) := by
  obtain ⟨hl, he⟩ := List.getElem?_eq_some_iff.1 h
  rw [List.drop_eq_getElem_cons hl, he, ktB]
theorem ktB_end (xs : List Ls) (i n : Int) : ktB (xs.drop xs.length) i n = false := by
  rw [List.drop_length, ktB]

set_option maxHeartbeats 1600000 in
theorem skept_any (v : Value) (xs : List Ls) (i n : Int) (w : World) (R : LsRow w v xs) :
    Calls Try.prog 25 #[v, .int .i64 i, .int .i64 n] w fun e w' => e = .returned (.bool (lsB xs && ktB xs i n)) ∧ Below w.heap.size w w' := by
  have RR := R
  obtain ⟨ao, cap, rfl, hcap, hm, hcell⟩ := R
  have SO := fun (w : World) (R : LsRow w (.slice ao xs.length cap) xs) => sleasesok_any _ xs w R
  obtain ⟨r, hr⟩ : ∃ r, (lsB xs && ktB xs i n) = r := ⟨_, rfl⟩
  rw [hr]
  have HF : Hid (r = (lsB xs && ktB xs i n)) := hr.symm
  clear hr
  generalize lsB xs = bb at *
  go_enter Try.func25, Try.ntmps25
  go_wp2
  go_loopw [7] (fun q wr => ∃ j : Nat, j ≤ xs.length ∧ q = .int .i64 j ∧ Hid (ktB xs i n = ktB (xs.drop j) i n) ∧ Below w.heap.size w wr) (fun q _ => xs.length - (intOf q).toNat)
  case atStart => exact ⟨0, by omega, rfl, rfl, Below.refl _ _⟩
  case round =>
    obtain ⟨j, hj, rfl, HA, hb⟩ := hrel
    by_cases hlt : j < xs.length
    · go_wp2_with fail
      refine (SO _ (RR.below hb)).mono ?_
      rintro e w1 ⟨rfl, hb1⟩
      have hB1 := hb.trans (hb1.mono hb.size)
      clear hb hb1
      cases bb with
      | false =>
        go_wp2
        go_ret
        exact ⟨retB (by rw [HF.out, Bool.false_and]), hB1⟩
      | true =>
        obtain ⟨g, o, rfl, hg, hcell⟩ := hcell (by intro e; subst e; simp at hlt)
        obtain ⟨x, hx⟩ : ∃ x, xs[j]? = some x := ⟨xs[j], by simp [hlt]⟩
        obtain ⟨d0, d1, d2⟩ := (hcell j x hx).below hB1 hg
        have HC : Hid (ktB xs i n = ((x.i == i && decide (n ≤ x.u)) || ktB (xs.drop (j + 1)) i n)) := by unfold Hid; rw [HA.out, ktB_at xs i n j x hx]
        clear hcell HA hx
        cases e1 : (x.i == i) with
        | true =>
          by_cases e2 : n ≤ x.u
          · go_wp2
            go_ret
            exact ⟨retB (by rw [HF.out, HC.out, e1, decide_eq_true e2]; rfl), hB1⟩
          · go_wp2
            go_roundw
            case rel => exact ⟨j + 1, by omega, by go_num, by unfold Hid; rw [HC.out, e1, decide_eq_false (p := n ≤ x.u) (by omega)]; rfl, hB1⟩
            case measure => simp [intOf]; omega
        | false =>
          go_wp2
          go_roundw
          case rel => exact ⟨j + 1, by omega, by go_num, by unfold Hid; rw [HC.out, e1]; rfl, hB1⟩
          case measure => simp [intOf]; omega
    · have hjj : j = xs.length := by omega
      subst hjj
      have HO : Hid (ktB xs i n = false) := by unfold Hid; rw [HA.out, ktB_end]
      clear HA RR hcell SO
      go_wp2
      go_ret
      exact ⟨retB (by rw [HF.out, HO.out, Bool.and_false]), hb⟩

set_option maxHeartbeats 1600000 in
theorem ikept_any (v : Value) (xs : List Ls) (i n : Int) (w : World) (R : LsRow w v xs) :
    Calls Try.prog 16 #[v, .int .i64 i, .int .i64 n] w fun e w' => e = .returned (.bool (lsB xs && ktB xs i n)) ∧ Below w.heap.size w w' := by
  have RR := R
  obtain ⟨ao, cap, rfl, hcap, hm, hcell⟩ := R
  have SO := fun (w : World) (R : LsRow w (.slice ao xs.length cap) xs) => ileasesok_any _ xs w R
  obtain ⟨r, hr⟩ : ∃ r, (lsB xs && ktB xs i n) = r := ⟨_, rfl⟩
  rw [hr]
  have HF : Hid (r = (lsB xs && ktB xs i n)) := hr.symm
  clear hr
  generalize lsB xs = bb at *
  go_enter Try.func16, Try.ntmps16
  go_wp2_with fail
  refine (SO _ RR).mono ?_
  rintro e w0 ⟨rfl, hb0⟩
  cases bb with
  | false =>
    go_wp2
    go_ret
    exact ⟨retB (by rw [HF.out, Bool.false_and]), hb0⟩
  | true =>
  clear SO RR
  go_wp2
  go_loopw [14] (fun q wr => ∃ j : Nat, j ≤ xs.length ∧ q = .int .i64 j ∧ Hid (ktB xs i n = ktB (xs.drop j) i n) ∧ Below w.heap.size w wr) (fun q _ => xs.length - (intOf q).toNat)
  case atStart => exact ⟨0, by omega, rfl, rfl, hb0⟩
  case round =>
    clear hb0
    obtain ⟨j, hj, rfl, HA, hb⟩ := hrel
    by_cases hlt : j < xs.length
    · obtain ⟨g, o, rfl, hg, hcell⟩ := hcell (by intro e; subst e; simp at hlt)
      obtain ⟨x, hx⟩ : ∃ x, xs[j]? = some x := ⟨xs[j], by simp [hlt]⟩
      obtain ⟨d0, d1, d2⟩ := (hcell j x hx).below hb hg
      have HC : Hid (ktB xs i n = ((x.i == i && decide (n ≤ x.u)) || ktB (xs.drop (j + 1)) i n)) := by unfold Hid; rw [HA.out, ktB_at xs i n j x hx]
      have hBn := hb.alloc hb.size (Obj.cells #[.int .i64 x.i, .int .i64 x.w, .int .i64 x.u] 40)
      clear hcell HA hx
      cases e1 : (x.i == i) with
      | true =>
        go_wp2_with fail
        refine (lend_any x _).mono ?_
        rintro e w1 ⟨rfl, hb1⟩
        have hB1 := hBn.trans (hb1.mono hBn.size)
        clear hb1
        go_wp2_with fail
        refine (mcovers_any x.u n _).mono ?_
        rintro e w2 ⟨rfl, hb2⟩
        have hB2 := hB1.trans (hb2.mono hB1.size)
        clear hb2 hB1 hBn hb d0 d1 d2
        by_cases e2 : n ≤ x.u
        · rw [decide_eq_true e2]
          go_wp2
          go_ret
          exact ⟨retB (by rw [HF.out, HC.out, e1, decide_eq_true e2]; rfl), hB2⟩
        · rw [decide_eq_false e2]
          go_wp2
          go_roundw
          case rel => exact ⟨j + 1, by omega, by go_num, by unfold Hid; rw [HC.out, e1, decide_eq_false (p := n ≤ x.u) (by omega)]; rfl, hB2⟩
          case measure => simp [intOf]; omega
      | false =>
        go_wp2
        go_roundw
        case rel => exact ⟨j + 1, by omega, by go_num, by unfold Hid; rw [HC.out, e1]; rfl, hBn⟩
        case measure => simp [intOf]; omega
    · have hjj : j = xs.length := by omega
      subst hjj
      have HO : Hid (ktB xs i n = false) := by unfold Hid; rw [HA.out, ktB_end]
      clear HA hcell
      go_wp2
      go_ret
      exact ⟨retB (by rw [HF.out, HO.out, Bool.and_false]), hb⟩
end Go.Proofs.Ytdlbgdckkjhbdaa
