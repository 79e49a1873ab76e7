/-
  The law FnLists, walked: at every argument it returns true.
-/
import Derived.Test.YtgmijnkdcdgejaaDraw14
import Derived.Test.YtgmijnkdcdgejaaBack
import Derived.Test.YtgmijnkdcdgejaaSMkList
import Derived.Test.YtgmijnkdcdgejaaSameInts
namespace Go.Proofs.Ytgmijnkdcdgejaa
open Go.RowKit

set_option maxRecDepth 100000 in
set_option maxHeartbeats 400000 in
theorem flists_big (ao : Option Addr) (len cap : Nat) (w : World) (hl : 1048576 < len) (hm : len ≤ 9223372036854775807) :
    Calls Try.prog 3 #[.slice ao len cap] w fun e w' => e = .returned (.bool true) ∧ Below w.heap.size w w' := by
  go_enter Try.func3, Try.ntmps3
  go_wp2_with (go_at_call 5; go_in)
  go_ret
  exact ⟨rfl, Below.refl _ _⟩
theorem mlL_small {xs : List Nd} {zs : List Int} (hz : ∀ y ∈ xs, y.s.size ≤ 40) : ∀ y ∈ mlL xs zs, y.s.size ≤ 40 := by
  intro y hy
  unfold mlL at hy
  split at hy
  · split at hy
    · rcases List.mem_append.1 hy with h | h
      · exact hz y h
      · exact more_small _ _ _ y h
    · exact hz y hy
  · simp at hy
theorem mlL_len' (xs : List Nd) (zs : List Int) : (mlL xs zs).length ≤ xs.length + zs.length + 1 := by
  unfold mlL
  split
  · split
    · rw [List.length_append, more_length]; omega
    · omega
  · simp
theorem m40' {n : Nat} (h : n ≤ 40) : n ≤ maxLen := Nat.le_trans h (by unfold maxLen; omega)

set_option maxRecDepth 100000 in
set_option maxHeartbeats 3200000 in
theorem flists_small (ao : Option Addr) (cap : Nat) (zs : List Int) (w : World) (R : Row w (.slice ao zs.length cap) zs) (hl : zs.length ≤ 1048576) :
    Calls Try.prog 3 #[.slice ao zs.length cap] w fun e w' => e = .returned (.bool true) ∧ Below w.heap.size w w' := by
  go_enter Try.func3, Try.ntmps3
  go_wp2_with (go_at_call 5; go_in)
  refine (dmklist_any _ zs w R hl).mono ?_
  rintro e w1 ⟨v1, vl, xs, ls, rfl, hxl, hz, hls, ho1, hi1, b1⟩
  have R1 := NRow.of_own ho1 (by omega) (fun y hy => m40' (hz y hy))
  have L1 := IRow.of_own hi1 (by omega)
  obtain ⟨a1, q1, rfl⟩ := own_form ho1
  obtain ⟨al, ql, rfl⟩ := own_form hi1
  have hzL := mlL_small (zs := ls) hz
  have hB1 : Below w1.heap.size w1 (w1.alloc (Obj.cells #[.slice a1 xs.length q1] 26)) := (Below.refl _ _).alloc (Nat.le_refl _) _
  have hlen := mlL_len' xs ls
  clear ho1 hi1 hz
  go_wp2_with fail
  refine (imakelist_any _ _ xs ls _ (R1.below hB1) (L1.below hB1)).mono ?_
  rintro e w2 ⟨v2, rfl, ho2, hb2⟩
  have hp2 : w2.heap[w1.heap.size]? = some (.cells #[.slice a1 xs.length q1] 26 (0, 0)) := (hb2.block _ (by simp)).trans (heap_alloc_new _ _)
  have hB2 : Below w1.heap.size w1 w2 := hB1.trans (hb2.mono hB1.size)
  obtain ⟨LQ, hLQ⟩ : ∃ LQ, LQ = mlL xs ls := ⟨_, rfl⟩
  obtain ⟨nI, hnI⟩ : ∃ nI, nI = mlI xs ls := ⟨_, rfl⟩
  rw [← hLQ] at ho2 hzL hlen
  have R2 := NRow.of_own ho2 (by omega) (fun y hy => m40' (hzL y hy))
  obtain ⟨a2, q2, rfl⟩ := own_form ho2
  have hs2 := (Array.getElem?_eq_some_iff.1 hp2).1
  have hB2a := hB2.trans (((Below.refl w2.heap.size w2).alloc (Nat.le_refl _) (Obj.cells #[.slice a2 LQ.length q2] 26)).mono hB2.size)
  have SM := smakelist_any (.slice a1 xs.length q1) (.slice al ls.length ql) xs ls (w2.alloc (Obj.cells #[.slice a2 LQ.length q2] 26)) (R1.below hB2a) (L1.below hB2a) (by omega)
  rw [← hnI] at SM ⊢
  have HL : Hid (LQ = mlL xs ls) := hLQ
  have HI : Hid (nI = mlI xs ls) := hnI
  have hp2' := (heap_alloc_old w2 (Obj.cells #[.slice a2 LQ.length q2] 26) hs2).trans hp2
  have kp2 : (w2.alloc (Obj.cells #[.slice a2 LQ.length q2] 26)).cell? ⟨w1.heap.size, 0, none⟩ = some (.slice a1 xs.length q1) := cell_of_row _ _ 0 _ _ _ hp2'
  clear hLQ hnI ho2 hb2 hB1 hzL hp2'
  go_wp2_with fail
  refine SM.mono ?_
  rintro e w3 ⟨v3, rfl, ho3, hb3⟩
  have hq3 : w3.heap[w2.heap.size]? = some (.cells #[.slice a2 LQ.length q2] 26 (0, 0)) := (hb3.block _ (by simp)).trans (heap_alloc_new _ _)
  have hp3 := (hb3.block w1.heap.size (by simp; omega)).trans ((heap_alloc_old _ _ hs2).trans hp2)
  have hB23 : Below w2.heap.size w2 w3 := ((Below.refl w2.heap.size w2).alloc (Nat.le_refl _) _).trans (hb3.mono (by simp))
  have hB3 := hB2.trans (hB23.mono hB2.size)
  have hs3 := (Array.getElem?_eq_some_iff.1 hq3).1
  obtain ⟨a3, q3, rfl⟩ := own_form ho3
  have hB34 := (Below.refl w3.heap.size w3).alloc (Nat.le_refl _) (Obj.cells #[.slice a3 (mlL xs ls).length q3] 26)
  have hq4 := (hB34.block _ hs3).trans hq3
  have hp4 := (hB34.block w1.heap.size (by omega)).trans hp3
  have RQ := R2.below (hB23.trans (hB34.mono hB23.size))
  have LL := L1.below (hB3.trans (hB34.mono hB3.size))
  have hBw := (b1.trans (hB3.mono b1.size)).trans (hB34.mono (b1.trans (hB3.mono b1.size)).size)
  clear SM hb3 ho3 hp2 hB2 hB23 hB3 hB34 kp2 R1 R2 L1 b1 hp3 hq3 hB2a
  go_upto_region 6 with fail
  rw [← HL.out] at hq4 hp4 RQ LL hBw ⊢
  generalize w3.alloc (Obj.cells #[.slice a3 LQ.length q3] 26) = w4 at hq4 hp4 RQ LL hBw ⊢
  generalize w1.heap.size = bp at hp4 hs2 ⊢
  generalize w2.heap.size = bq at hq4 hs2 hs3 ⊢
  clear hs2 hs3
  have kp : w4.cell? ⟨bp, 0, none⟩ = some (.slice a1 xs.length q1) := cell_of_row w4 _ 0 _ _ _ hp4
  have kq : w4.cell? ⟨bq, 0, none⟩ = some (.slice a2 LQ.length q2) := cell_of_row w4 _ 0 _ _ _ hq4
  by_cases hok : poolB xs = true ∧ mlOk xs ls = true
  · have e1 : nI = ((xs.length + ls.length : Nat) : Int) := by rw [HI.out]; unfold mlI; rw [if_pos hok.1, if_pos hok.2]
    have e2 : LQ = xs ++ more ls xs.length 0 := by rw [HL.out]; unfold mlL; rw [if_pos hok.1, if_pos hok.2]
    have hbk := (lists_back xs ls hok.1 hok.2).2
    rw [← e2, ← e1] at hbk
    have hnn : 0 ≤ nI := by omega
    have IL := ilistof_any (.slice a2 LQ.length q2) LQ nI w4 RQ
    rw [hbk] at IL
    clear hok e1 e2 HI HL hbk
    go_wp2_with fail
    refine IL.mono ?_
    rintro e w5 ⟨v5, rfl, ho5, hb5⟩
    have L5 := IRow.of_own ho5 (by show ls.length ≤ _; omega)
    obtain ⟨a5, q5, rfl⟩ := own_form ho5
    have LL5 := LL.below hb5
    have hBw5 := hBw.trans (hb5.mono hBw.size)
    clear IL ho5 hb5 kp kq hp4 hq4 RQ LL hBw
    go_wp2_with fail
    refine (dlistof_any _ zs w5 (R.below hBw5) hl).mono ?_
    rintro e w6 ⟨v6, ys, x, rfl, hyl, hzy, ho6, hb6⟩
    have R6 := NRow.of_own ho6 (by omega) (fun y hy => m40' (hzy y hy))
    obtain ⟨a6, q6, rfl⟩ := own_form ho6
    have hB6a := (Below.refl w6.heap.size w6).alloc (Nat.le_refl _) (Obj.cells #[.slice a6 ys.length q6] 26)
    have hB56 := hb6.trans (hB6a.mono hb6.size)
    have L6 := L5.below hB56
    have LL6 := LL5.below hB56
    have hBw6 := hBw5.trans (hB56.mono hBw5.size)
    have R6a := R6.below hB6a
    have hr6 := heap_alloc_new w6 (Obj.cells #[.slice a6 ys.length q6] 26)
    have hll := listR_len' ys x
    clear ho6 hb6 hB6a hB56 L5 LL5 hBw5 R6 hzy
    go_wp2_with fail
    generalize w6.alloc (Obj.cells #[Value.slice a6 ys.length q6] 26) = w7 at hr6 L6 LL6 hBw6 R6a ⊢
    generalize w6.heap.size = br at hr6 ⊢
    obtain ⟨lr, hlr⟩ : ∃ lr, lr = listR ys x := ⟨_, rfl⟩
    have I7 := fun W R => ilistof_any (.slice a6 ys.length q6) ys x W R
    have S7 := fun W R => slistof_any (.slice a6 ys.length q6) ys x W R
    rw [← hlr] at I7 S7 hll
    clear hlr
    refine (I7 w7 R6a).mono ?_
    rintro e w8 ⟨v8, rfl, ho8, hb8⟩
    have hl7 := (Array.getElem?_eq_some_iff.1 hr6).1
    have hr8 := (hb8.block br hl7).trans hr6
    have k8 : w8.cell? ⟨br, 0, none⟩ = some (.slice a6 ys.length q6) := cell_of_row w8 _ 0 _ _ _ hr8
    have M8 := IRow.of_own ho8 (by omega)
    obtain ⟨a8, q8, rfl⟩ := own_form ho8
    go_wp2_with fail
    refine (S7 w8 (R6a.below hb8)).mono ?_
    rintro e w9 ⟨v9, rfl, ho9, hb9⟩
    have M9 := IRow.of_own ho9 (by omega)
    obtain ⟨a9, q9, rfl⟩ := own_form ho9
    have hB79 := hb8.trans (hb9.mono hb8.size)
    have L9 := L6.below hB79
    have LL9 := LL6.below hB79
    have M89 := M8.below hb9
    have hBw9 := hBw6.trans (hB79.mono hBw6.size)
    clear ho8 ho9 hb8 hb9 hB79 L6 LL6 M8 hBw6 R6a hr6 hr8 k8 I7 S7
    go_wp2_with fail
    refine (sameints_any _ _ ls _ L9 LL9).mono ?_
    rintro e w10 ⟨rfl, hb10⟩
    have M8a := M89.below hb10
    have M9a := M9.below hb10
    have hBw10 := hBw9.trans (hb10.mono hBw9.size)
    clear M89 M9 hBw9 hb10 L9 LL9
    cases hb2 : lr.2 with
    | true =>
      go_wp2_with fail
      refine (sameints_any _ _ lr.1 _ M8a M9a).mono ?_
      rintro e w11 ⟨rfl, hb11⟩
      have hBw11 := hBw10.trans (hb11.mono hBw10.size)
      go_wp2_with fail
      go_ret
      exact ⟨rfl, hBw11⟩
    | false =>
      go_wp2_with fail
      refine (sameints_any _ _ lr.1 _ M8a M9a).mono ?_
      rintro e w11 ⟨rfl, hb11⟩
      have hBw11 := hBw10.trans (hb11.mono hBw10.size)
      go_wp2_with fail
      go_ret
      exact ⟨rfl, hBw11⟩
  · have e1 : nI = -1 := by
      rw [HI.out]; unfold mlI
      by_cases hp : poolB xs = true
      · rw [if_pos hp, if_neg (fun h => hok ⟨hp, h⟩)]
      · rw [if_neg hp]
    have e2 : LQ.length = xs.length ∨ LQ.length = 0 := by
      rw [HL.out]; unfold mlL
      by_cases hp : poolB xs = true
      · left; rw [if_pos hp, if_neg (fun h => hok ⟨hp, h⟩)]
      · right; rw [if_neg hp]; rfl
    subst e1
    clear HI HL hok
    obtain ⟨lq, hlq'⟩ : ∃ lq, lq = LQ.length := ⟨_, rfl⟩
    rw [← hlq'] at e2 kq
    clear RQ hq4 hlen
    rw [← hlq']
    clear hlq'
    rcases e2 with e2 | e2
    all_goals
      subst e2
      go_wp2_with fail
      all_goals go_ret
      all_goals exact ⟨rfl, hBw⟩
end Go.Proofs.Ytgmijnkdcdgejaa
