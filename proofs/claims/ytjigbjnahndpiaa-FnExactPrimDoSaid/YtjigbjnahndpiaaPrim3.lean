/-
  The contracts of PrimArgs on both sides, and of spec.PrimOf. No condition.
-/
import Derived.Test.YtjigbjnahndpiaaPrim2
namespace Go.Proofs.Ytjigbjnahndpiaa
open Go.RowKit

theorem primArgs_hit (k : Nat) (h : k < 19) (s : ByteArray) (t n : Int) (hx : prims[k]? = some (s, t)) (e : (k : Int) + 1 = n) : primArgsR n = t := by
  unfold primArgsR
  rw [if_pos (by omega), show (n - 1).toNat = k by omega, List.getD_eq_getElem?_getD, hx]
  rfl

set_option maxRecDepth 100000 in
set_option maxHeartbeats 1600000 in
theorem iprimargs_any (w : World) (n : Int) : Calls Try.prog 15 #[.int .i64 n] w fun e w' => e = .returned (.int .i64 (primArgsR n)) ∧ Below w.heap.size w w' := by
  go_enter Try.func15, Try.ntmps15
  go_wp2_with fail
  refine (builtin_any _).mono ?_
  rintro e w1 ⟨rfl, hB1⟩
  have HV : ∃ pv, Hid (pv = primV) := ⟨_, rfl⟩
  obtain ⟨pv, HV⟩ := HV
  rw [← HV.out]
  go_wp2_with fail
  go_loopw [6] (fun i wr => ∃ k : Nat, k ≤ 19 ∧ i = .int .i64 k ∧ Hid (1 ≤ n → n ≤ 19 → (k : Int) < n) ∧ Below w1.heap.size w1 wr) (fun i _ => 19 - (intOf i).toNat)
  case atStart => exact ⟨0, by omega, rfl, by unfold Hid; omega, Below.refl _ _⟩
  case round =>
    obtain ⟨k, hk, rfl, HK, hb⟩ := hrel
    have hB := hB1.trans (hb.mono hB1.size)
    by_cases hlt : k < 19
    · obtain ⟨nm, t, hx, hs, _, _, _⟩ := prims_at k hlt
      have HS : Hid (primV.extract (k * 3) (k * 3 + 3) = pmC nm t k) := hs
      clear hs
      by_cases e : (k : Int) + 1 = n
      · have HR : Hid (primArgsR n = t) := primArgs_hit k hlt nm t n hx e
        clear hx HK
        go_wp2_with (first | (refine wpList_index_of rfl 73 _ _ rfl (.agg pv) (.int .i64 k) (.agg (pmC nm t k)) rfl rfl (by rw [HV.out]; exact run_index_prim k hlt nm t HS.out _) ?_) | (refine wpList_store_own rfl 72 _ _ rfl wr.heap.size (pmC nm t k) rfl rfl 72 _ (heap_alloc_new _ _) Try.sizePm rfl (pmC_one _ _ _) ?_))
        intro w3 hh3 hb3 hs3
        have hB3 : Below w1.heap.size w1 w3 := hb.trans ((((Below.refl _ _).alloc (Nat.le_refl _) _).trans hb3).mono hb.size)
        have hc1 : w3.cell? ⟨wr.heap.size, 0 + 1, none⟩ = some (.int .i64 (k + 1)) := by rw [cell_of_row w3 _ 1 _ _ _ hh3]; rfl
        have hc2 : w3.cell? ⟨wr.heap.size, 0 + 2, none⟩ = some (.int .i64 t) := by rw [cell_of_row w3 _ 2 _ _ _ hh3]; rfl
        clear hh3 hb3 hs3
        have e' : decide ((k : Int) + 1 = n) = true := by simp [e]
        have e2 : ((k : Int) + 1 == n) = true := by simp [e]
        go_wp2
        go_ret
        exact ⟨by rw [HR.out]; rfl, hB1.trans (hB3.mono hB1.size)⟩
      · have HR : Hid (1 ≤ n → n ≤ 19 → ((k + 1 : Nat) : Int) < n) := by have := HK.out; unfold Hid; omega
        clear hx HK
        go_wp2_with (first | (refine wpList_index_of rfl 73 _ _ rfl (.agg pv) (.int .i64 k) (.agg (pmC nm t k)) rfl rfl (by rw [HV.out]; exact run_index_prim k hlt nm t HS.out _) ?_) | (refine wpList_store_own rfl 72 _ _ rfl wr.heap.size (pmC nm t k) rfl rfl 72 _ (heap_alloc_new _ _) Try.sizePm rfl (pmC_one _ _ _) ?_))
        intro w3 hh3 hb3 hs3
        have hB3 : Below w1.heap.size w1 w3 := hb.trans ((((Below.refl _ _).alloc (Nat.le_refl _) _).trans hb3).mono hb.size)
        have hc1 : w3.cell? ⟨wr.heap.size, 0 + 1, none⟩ = some (.int .i64 (k + 1)) := by rw [cell_of_row w3 _ 1 _ _ _ hh3]; rfl
        clear hh3 hb3 hs3
        have e' : decide ((k : Int) + 1 = n) = false := by simp [e]
        have e2 : ((k : Int) + 1 == n) = false := by simp [e]
        go_wp2
        go_roundw
        case rel => exact ⟨k + 1, by omega, by go_num, HR, hB3⟩
        case measure => simp [intOf]; omega
    · have HR : Hid (primArgsR n = -1) := by
        have := HK.out
        unfold Hid primArgsR
        rw [if_neg (by omega)]
      clear HK
      go_wp2
      go_ret
      exact ⟨by rw [HR.out]; rfl, hB⟩

theorem strs_row (w : World) (xs : List ByteArray) (t : TypeId) (i : Nat) (hi : i < xs.length) : (w.alloc (.cells (xs.map Value.string).toArray t)).cell? ⟨w.heap.size, i, none⟩ = some (.string (xs.getD i ByteArray.empty)) := by
  rw [cell_of_row _ w.heap.size i _ t (0, 0) (heap_alloc_new w _)]
  simp [hi]

set_option maxRecDepth 100000 in
set_option maxHeartbeats 3200000 in
theorem l5names_any (w : World) : Calls Try.prog 39 #[] w fun e w' => e = .returned (.slice (some ⟨w.heap.size, 0, none⟩) 20 20) ∧ w' = w.alloc (Obj.cells (pnames.map Value.string).toArray 9) := by
  go_enter Try.func39, Try.ntmps39
  go_wp2_with fail
  go_ret
  exact ⟨rfl, rfl⟩

theorem pnames_at (k : Nat) (s : ByteArray) (t : Int) (hk : k < 19) (hx : prims[k]? = some (s, t)) : pnames.getD (k + 1) ByteArray.empty = s := by
  have : k = 0 ∨ k = 1 ∨ k = 2 ∨ k = 3 ∨ k = 4 ∨ k = 5 ∨ k = 6 ∨ k = 7 ∨ k = 8 ∨ k = 9 ∨ k = 10 ∨ k = 11 ∨ k = 12 ∨ k = 13 ∨ k = 14 ∨ k = 15 ∨ k = 16 ∨ k = 17 ∨ k = 18 := by omega
  rcases this with rfl | rfl | rfl | rfl | rfl | rfl | rfl | rfl | rfl | rfl | rfl | rfl | rfl | rfl | rfl | rfl | rfl | rfl | rfl <;>
    (simp only [prims, List.getElem?_cons_zero, List.getElem?_cons_succ, Option.some.injEq, Prod.mk.injEq] at hx; exact hx.1)

set_option maxRecDepth 100000 in
set_option maxHeartbeats 1600000 in
theorem sprimof_any (w : World) (s : ByteArray) : Calls Try.prog 12 #[.string s] w fun e w' => e = .returned (.int .i64 (primOfR s)) ∧ Below w.heap.size w w' := by
  go_enter Try.func12, Try.ntmps12
  go_wp2_with fail
  refine (l5names_any _).mono ?_
  rintro e w1 ⟨rfl, hw1⟩
  have hB1 : Below w.heap.size w w1 := by rw [hw1]; exact (Below.refl _ _).alloc (Nat.le_refl _) _
  have HST : Hid (∀ i, i < pnames.length → w1.cell? ⟨w.heap.size, i, none⟩ = some (.string (pnames.getD i ByteArray.empty))) := fun i hi => by rw [hw1]; exact strs_row w pnames 9 i hi
  have hg : w.heap.size < w1.heap.size := by rw [hw1]; simp
  clear hw1
  go_wp2_with fail
  go_loopw [4] (fun i wr => ∃ k : Nat, k ≤ 19 ∧ i = .int .i64 (k + 1) ∧ Hid (primOfR s = pmIdx (prims.drop k) s k) ∧ Below w1.heap.size w1 wr) (fun i _ => 20 - (intOf i).toNat)
  case atStart => exact ⟨0, by omega, rfl, rfl, Below.refl _ _⟩
  case round =>
    obtain ⟨k, hk, rfl, HK, hb⟩ := hrel
    have hB := hB1.trans (hb.mono hB1.size)
    by_cases hlt : k < 19
    · obtain ⟨nm, t, hx, _, _, _, _⟩ := prims_at k hlt
      have hc : wr.cell? ⟨w.heap.size, k + 1, none⟩ = some (.string nm) := by
        rw [hb.cell (p := ⟨w.heap.size, k + 1, none⟩) hg, HST.out (k + 1) (by show k + 1 < 20; omega), pnames_at k nm t hlt hx]
      cases e : (nm.toList == s.toList) with
      | true =>
        have HR : Hid (primOfR s = k + 1) := by unfold Hid; rw [HK.out, pmIdx_hit prims s k _ hx e]
        clear hx HK
        go_wp2
        go_ret
        exact ⟨by rw [HR.out]; rfl, hB⟩
      | false =>
        have HR : Hid (primOfR s = pmIdx (prims.drop (k + 1)) s (k + 1)) := by unfold Hid; rw [HK.out, pmIdx_miss prims s k _ hx e]
        clear hx HK
        go_wp2
        go_roundw
        case rel => exact ⟨k + 1, by omega, by go_num, HR, hb⟩
        case measure => simp [intOf]; omega
    · have HR : Hid (primOfR s = 0) := by unfold Hid; rw [HK.out, pmIdx_end prims s k (by show (19 : Nat) ≤ k; omega)]
      clear HK
      go_wp2
      go_ret
      exact ⟨by rw [HR.out]; rfl, hB⟩

theorem tk_get (m : Nat) (h : m < 20) : (ptakes.map (Value.int .i64))[m]'(by show m < 20; exact h) = .int .i64 (ptakes.getD m 0) := by
  have : m < ptakes.length := h
  simp [this]
theorem ptakes_at (n : Int) (h1 : 1 ≤ n) (h2 : n ≤ 19) : ptakes.getD n.toNat 0 = primArgsR n := by
  have : n = 1 ∨ n = 2 ∨ n = 3 ∨ n = 4 ∨ n = 5 ∨ n = 6 ∨ n = 7 ∨ n = 8 ∨ n = 9 ∨ n = 10 ∨ n = 11 ∨ n = 12 ∨ n = 13 ∨ n = 14 ∨ n = 15 ∨ n = 16 ∨ n = 17 ∨ n = 18 ∨ n = 19 := by omega
  rcases this with rfl | rfl | rfl | rfl | rfl | rfl | rfl | rfl | rfl | rfl | rfl | rfl | rfl | rfl | rfl | rfl | rfl | rfl | rfl <;> rfl

set_option maxRecDepth 100000 in
set_option maxHeartbeats 3200000 in
theorem sprimargs_any (w : World) (n : Int) : Calls Try.prog 14 #[.int .i64 n] w fun e w' => e = .returned (.int .i64 (primArgsR n)) ∧ Below w.heap.size w w' := by
  go_enter Try.func14, Try.ntmps14
  go_wp2_with fail
  refine (lin_any n 1 19 w).mono ?_
  rintro e w1 ⟨rfl, hw1⟩
  subst hw1
  by_cases h : 1 ≤ n ∧ n ≤ 19
  · have hb : (decide (1 ≤ n) && decide (n ≤ 19)) = true := by simp [h]
    obtain ⟨m, rfl⟩ : ∃ m : Nat, n = m := ⟨n.toNat, by omega⟩
    have HR : Hid (primArgsR (m : Int) = ptakes.getD m 0) := by unfold Hid; exact (ptakes_at m h.1 h.2).symm
    have hm : m < 20 := by omega
    go_wp2
    go_ret
    exact ⟨by rw [HR.out]; exact congrArg Ending.returned (tk_get m hm), (Below.refl _ _).alloc (Nat.le_refl _) _⟩
  · have hb : (decide (1 ≤ n) && decide (n ≤ 19)) = false := by
      simp only [Bool.and_eq_false_iff, decide_eq_false_iff_not]
      omega
    have HR : Hid (primArgsR n = -1) := by
      unfold Hid primArgsR
      rw [if_neg h]
    go_wp2
    go_ret
    exact ⟨by rw [HR.out]; rfl, Below.refl _ _⟩
end Go.Proofs.Ytjigbjnahndpiaa
