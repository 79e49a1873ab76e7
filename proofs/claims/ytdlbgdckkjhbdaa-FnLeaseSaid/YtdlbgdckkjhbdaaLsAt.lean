/-
  Contracts of impl's placeOfClaim and spec's l11At: where the lease of both is. No condition.
-/
import Derived.Test.YtdlbgdckkjhbdaaLsM
namespace Go.Proofs.Ytdlbgdckkjhbdaa
open Go.RowKit

/-- What placeOfClaim tells. -/
def lsPl (k : Int) : Int := if 0 ≤ k then k else 0

set_option maxHeartbeats 800000 in
theorem s11at_any (v : Value) (xs : List Ls) (i q : Int) (w : World) (R : LsRow w v xs) :
    Calls Try.prog 42 #[v, .int .i64 i, .int .i64 q] w fun e w' => e = .returned (.int .i64 (lsIdx xs i q 0)) ∧ w' = w := by
  obtain ⟨ao, cap, rfl, hcap, hm, hcell⟩ := R
  go_enter Try.func42, Try.ntmps42
  go_wp2
  go_loop [7] (fun j => ∃ k : Nat, k ≤ xs.length ∧ j = .int .i64 k ∧ Hid (lsIdx xs i q 0 = lsIdx (xs.drop k) i q k)) (fun j => xs.length - (intOf j).toNat)
  case atStart => exact ⟨0, by omega, rfl, rfl⟩
  case round =>
    obtain ⟨k, hk, rfl, HK⟩ := hrel
    by_cases hlt : k < xs.length
    · obtain ⟨g, o, rfl, hg, hcell⟩ := hcell (by intro e; subst e; simp at hlt)
      obtain ⟨x, hx⟩ : ∃ x, xs[k]? = some x := ⟨xs[k], by simp [hlt]⟩
      obtain ⟨d0, d1, d2⟩ := (hcell k x hx)
      clear hcell
      cases e1 : (x.i == i) with
      | true =>
        cases e2 : (x.w == q) with
        | true =>
          have HR : Hid (lsIdx xs i q 0 = k) := by unfold Hid; rw [HK.out, lsIdx_hit xs i q k x hx (by rw [e1, e2]; rfl)]
          clear hx HK
          go_wp2
          go_ret
          exact ⟨by rw [HR.out]; rfl, rfl⟩
        | false =>
          have HR : Hid (lsIdx xs i q 0 = lsIdx (xs.drop (k + 1)) i q (k + 1)) := by unfold Hid; rw [HK.out, lsIdx_miss xs i q k x hx (by rw [e1, e2]; rfl)]
          clear hx HK
          go_wp2
          go_round
          case rel => exact ⟨k + 1, by omega, by go_num, HR⟩
          case measure => simp [intOf]; omega
      | false =>
        have HR : Hid (lsIdx xs i q 0 = lsIdx (xs.drop (k + 1)) i q (k + 1)) := by unfold Hid; rw [HK.out, lsIdx_miss xs i q k x hx (by rw [e1]; rfl)]
        clear hx HK
        go_wp2
        go_round
        case rel => exact ⟨k + 1, by omega, by go_num, HR⟩
        case measure => simp [intOf]; omega
    · have HR : Hid (lsIdx xs i q 0 = -1) := by unfold Hid; rw [HK.out, lsIdx_end xs i q k (by omega)]
      clear HK hcell
      go_wp2
      go_ret
      exact ⟨by rw [HR.out]; rfl, rfl⟩

theorem two_cells {w w2 : World} {g : Nat} {a b : Value} {t : TypeId} (h : w.heap[g]? = some (.cells #[a, b] t (0, 0))) (hb : Below w.drew.heap.size w.drew w2) :
    w2.cell? ⟨g, 0, none⟩ = some a ∧ w2.cell? ⟨g, 0 + 1, none⟩ = some b := by
  have hx2 : w2.heap[g]? = some (.cells #[a, b] t (0, 0)) := (hb.block _ (Array.getElem?_eq_some_iff.1 h).1).trans h
  exact ⟨by rw [cell_of_row w2 _ 0 _ _ _ hx2]; rfl, by rw [cell_of_row w2 _ 1 _ _ _ hx2]; rfl⟩

set_option maxHeartbeats 1600000 in
theorem placeofclaim_any (v : Value) (xs : List Ls) (i q : Int) (w : World) (R : LsRow w v xs) :
    Calls Try.prog 43 #[v, .agg #[.int .i64 i, .int .i64 q]] w fun e w' => e = .returned (.tuple #[.int .i64 (lsPl (lsIdx xs i q 0)), .bool (decide (0 ≤ lsIdx xs i q 0))]) ∧ Below w.heap.size w w' := by
  obtain ⟨ao, cap, rfl, hcap, hm, hcell⟩ := R
  have hB0 : Below w.heap.size w (w.alloc (Obj.cells #[.int .i64 i, .int .i64 q] 71)) := (Below.refl _ _).alloc (Nat.le_refl _) _
  have hx0 := heap_alloc_new w (Obj.cells #[.int .i64 i, .int .i64 q] 71)
  have hs0 : (w.alloc (Obj.cells #[.int .i64 i, .int .i64 q] 71)).heap.size = w.heap.size + 1 := by simp
  go_enter Try.func43, Try.ntmps43
  go_wp2_with fail
  generalize w.alloc (Obj.cells #[.int .i64 i, .int .i64 q] 71) = w0 at *
  have HS : Hid (w0.heap.size = w.heap.size + 1) := hs0
  clear hs0
  go_loopw [10] (fun j wr => ∃ k : Nat, k ≤ xs.length ∧ j = .int .i64 k ∧ Hid (lsIdx xs i q 0 = lsIdx (xs.drop k) i q k) ∧ Below w0.heap.size w0 wr) (fun j _ => xs.length - (intOf j).toNat)
  case atStart => exact ⟨0, by omega, rfl, rfl, Below.refl _ _⟩
  case round =>
    obtain ⟨k, hk, rfl, HK, hb⟩ := hrel
    have hB := hB0.trans (hb.mono hB0.size)
    have hxr : wr.heap[w.heap.size]? = some (.cells #[.int .i64 i, .int .i64 q] 71 (0, 0)) := (hb.block _ (by rw [HS.out]; omega)).trans hx0
    by_cases hlt : k < xs.length
    · obtain ⟨g, o, rfl, hg, hcell⟩ := hcell (by intro e; subst e; simp at hlt)
      obtain ⟨x, hx⟩ : ∃ x, xs[k]? = some x := ⟨xs[k], by simp [hlt]⟩
      obtain ⟨d0, d1, d2⟩ := (hcell k x hx).below hB hg
      clear hcell
      have hBn := hb.alloc hb.size (Obj.cells #[.int .i64 x.i, .int .i64 x.w, .int .i64 x.u] 40)
      have hxn : (wr.alloc (Obj.cells #[.int .i64 x.i, .int .i64 x.w, .int .i64 x.u] 40)).heap[w.heap.size]? = some (.cells #[.int .i64 i, .int .i64 q] 71 (0, 0)) := (heap_alloc_old _ _ (Array.getElem?_eq_some_iff.1 hxr).1).trans hxr
      have cr0 : wr.cell? ⟨w.heap.size, 0, none⟩ = some (.int .i64 i) := by rw [cell_of_row wr _ 0 _ _ _ hxr]; rfl
      have cr1 : wr.cell? ⟨w.heap.size, 0 + 1, none⟩ = some (.int .i64 q) := by rw [cell_of_row wr _ 1 _ _ _ hxr]; rfl
      have hlw : w.heap.size < wr.heap.size := (Array.getElem?_eq_some_iff.1 hxr).1
      have hnw : ¬ w.heap.size = wr.heap.size := by omega
      cases e1 : (x.i == i) with
      | true =>
        cases e2 : (x.w == q) with
        | true =>
          have HR : Hid (lsIdx xs i q 0 = k) := by unfold Hid; rw [HK.out, lsIdx_hit xs i q k x hx (by rw [e1, e2]; rfl)]
          have f1 : x.i = i := by simpa using e1
          have f2 : x.w = q := by simpa using e2
          clear hx HK e1 e2
          subst f1 f2
          go_wp2_with fail
          go_region_with (go_at_call 44; refine (lclaim_any x _).mono ?_; rintro e w2 ⟨rfl, hb2⟩; obtain ⟨cx0, cx1⟩ := two_cells hxn hb2)
          all_goals
            have hB2 := hBn.drew.trans (hb2.mono hBn.size)
            have hC2 := hB0.trans (hB2.mono hB0.size)
            clear cx0 cx1 cr0 cr1 hlw hnw hb2 hBn hB hb hxn hxr d0 d1 d2
            go_wp2
            exact bodyPost_ret (results_tmp2 rfl _ _ _) rfl ⟨by rw [HR.out]; simp [lsPl], hC2⟩
        | false =>
          have HR : Hid (lsIdx xs i q 0 = lsIdx (xs.drop (k + 1)) i q (k + 1)) := by unfold Hid; rw [HK.out, lsIdx_miss xs i q k x hx (by rw [e1, e2]; rfl)]
          have f1 : x.i = i := by simpa using e1
          have f2 : ¬ x.w = q := by simpa using e2
          have f3 : decide (x.w = q) = false := by simpa using e2
          clear hx HK e1
          subst f1
          go_wp2_with fail
          go_region_with (go_at_call 44; refine (lclaim_any x _).mono ?_; rintro e w2 ⟨rfl, hb2⟩; obtain ⟨cx0, cx1⟩ := two_cells hxn hb2)
          all_goals
            have hB2 := hBn.drew.trans (hb2.mono hBn.size)
            have hC2 := hB0.trans (hB2.mono hB0.size)
            clear cx0 cx1 cr0 cr1 hlw hnw hb2 hBn hB hb hxn hxr d0 d1 d2
            go_wp2
            go_roundw
            case rel => exact ⟨k + 1, by omega, by go_num, HR, hB2⟩
            case measure => simp [intOf]; omega
      | false =>
        have HR : Hid (lsIdx xs i q 0 = lsIdx (xs.drop (k + 1)) i q (k + 1)) := by unfold Hid; rw [HK.out, lsIdx_miss xs i q k x hx (by rw [e1]; rfl)]
        have f1 : ¬ x.i = i := by simpa using e1
        have f3 : decide (x.i = i) = false := by simpa using e1
        clear hx HK
        go_wp2_with fail
        go_region_with (go_at_call 44; refine (lclaim_any x _).mono ?_; rintro e w2 ⟨rfl, hb2⟩; obtain ⟨cx0, cx1⟩ := two_cells hxn hb2)
        all_goals
          have hB2 := hBn.drew.trans (hb2.mono hBn.size)
          have hC2 := hB0.trans (hB2.mono hB0.size)
          clear cx0 cx1 cr0 cr1 hlw hnw hb2 hBn hB hb hxn hxr d0 d1 d2
          go_wp2
          go_roundw
          case rel => exact ⟨k + 1, by omega, by go_num, HR, hB2⟩
          case measure => simp [intOf]; omega
    · have HR : Hid (lsIdx xs i q 0 = -1) := by unfold Hid; rw [HK.out, lsIdx_end xs i q k (by omega)]
      clear HK hcell
      go_wp2
      exact bodyPost_ret (results_tmp2 rfl _ _ _) rfl ⟨by rw [HR.out]; rfl, hB⟩
end Go.Proofs.Ytdlbgdckkjhbdaa
