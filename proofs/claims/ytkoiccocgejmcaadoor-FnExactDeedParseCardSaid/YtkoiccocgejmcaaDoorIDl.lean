/-
  The contracts of impl.isShort and impl.DeedLine. The table of tens and the words of deeds read as they are laid.
-/
import Derived.Test.YtkoiccocgejmcaaDoorDlEnv
namespace Go.Proofs.YtkoiccocgejmcaaDoor
open Go.RowKit

set_option maxHeartbeats 800000 in
theorem isshort_any (n : Int) (B : Nat) (w : World) (hT : Pow B w) (h : 0 ≤ n ∧ n ≤ 9223372036854775807) :
    Calls Tryd.prog 16 #[.int .i64 n] w fun e w' => e = .returned (.bool (decide (n ≤ 999999999))) ∧ Below w.heap.size w w' := by
  have hl := itoa_small h
  have H9 : Hid (decide ((Lib.itoa n).length ≤ 9) = decide (n ≤ 999999999)) := by unfold Hid; rw [decide_eq_decide]; exact itoa_nine h.1
  have HT := hT.here
  go_enter Tryd.func16, Tryd.ntmps16
  go_wp2_with fail
  refine (Tryd.strconv_Itoa n (by omega) (by omega) _ HT).mono ?_
  rintro e w1 ⟨rfl, q, os, hw1⟩
  have hb1 : Below w.heap.size w w1 := by rw [hw1]; exact Lib.below_grow _ _ (Nat.le_refl _) q os
  have hi : (⟨(Lib.itoa n).toArray⟩ : ByteArray) = tx (Lib.itoa n) := rfl
  rw [hi]
  have hz := tx_size (Lib.itoa n)
  generalize tx (Lib.itoa n) = t at *
  generalize (Lib.itoa n).length = m at *
  clear hw1
  go_wp2_with fail
  go_ret
  refine ⟨?_, hb1⟩
  rw [← H9.out, show decide (m ≤ 9) = decide ((m : Int) ≤ 9) by rw [decide_eq_decide]; omega]
  rfl

theorem Wds.at {w : World} (h : Wds w) (j : Nat) (hj : j ≤ 5) : w.cell? ⟨0, j, none⟩ = some (.string (tx (dwL j))) := by
  refine h.2 j _ ?_
  obtain rfl | rfl | rfl | rfl | rfl | rfl : j = 0 ∨ j = 1 ∨ j = 2 ∨ j = 3 ∨ j = 4 ∨ j = 5 := by omega
  all_goals rfl

set_option maxRecDepth 100000 in
set_option maxHeartbeats 3200000 in
theorem idl_any (k a b : Int) (B : Nat) (w : World) (hBB : B ≤ w.heap.size) (hT : Pow B w) (hW : Wds w) (ha : a ≤ 9223372036854775807) (hb : b ≤ 9223372036854775807) :
    Calls Tryd.prog 7 #[.agg #[.int .i64 k, .int .i64 a, .int .i64 b]] w fun e w' => e = .returned (.tuple #[.string (dlS k a b), .bool (dlB k a b)]) ∧ Below w.heap.size w w' := by
  have hB : Below w.heap.size w (w.alloc (Obj.cells #[.int .i64 k, .int .i64 a, .int .i64 b] 26)) := (Below.refl _ _).alloc (Nat.le_refl _) _
  have hx : (w.alloc (Obj.cells #[.int .i64 k, .int .i64 a, .int .i64 b] 26)).heap[w.heap.size]? = some (.cells #[.int .i64 k, .int .i64 a, .int .i64 b] 26 (0, 0)) := heap_alloc_new _ _
  have D := ideedok_any k a b
  cases hdk : dokB k a b with
  | false =>
    have HF : Hid (dlB k a b = false) := by unfold Hid dlB; rw [← dok_dk, hdk]; rfl
    rw [hdk] at D
    go_enter Tryd.func7, Tryd.ntmps7
    go_wp2_with fail
    refine (D _).mono ?_
    rintro e w1 ⟨rfl, hb1⟩
    have hB1 := hB.trans (hb1.mono hB.size)
    clear D hx hB hb1 hdk
    go_wp2_with fail
    go_ret2
    refine ⟨?_, hB1⟩
    unfold dlS
    rw [HF.out]
    rfl
  | true =>
    rw [hdk] at D
    rw [dok_dk] at hdk
    have hn := dkB_nonneg hdk
    have hkk := dkB_kind hdk
    have SA := fun (w' : World) (h : Below w.heap.size w w') => isshort_any a B w' (hT.on (h.mono hBB)) ⟨hn.1, ha⟩
    have SB := fun (w' : World) (h : Below w.heap.size w w') => isshort_any b B w' (hT.on (h.mono hBB)) ⟨hn.2, hb⟩
    have IA := fun (w' : World) (h : Below w.heap.size w w') => Tryd.strconv_Itoa a (by omega) (by omega) w' (hT.on (h.mono hBB)).here
    have IB := fun (w' : World) (h : Below w.heap.size w w') => Tryd.strconv_Itoa b (by omega) (by omega) w' (hT.on (h.mono hBB)).here
    by_cases hab : a ≤ 999999999 ∧ b ≤ 999999999
    · obtain ⟨h1, h2⟩ := hab
      have HT : Hid (dlB k a b = true) := dlB_iff.2 ⟨hdk, h1, h2⟩
      have l1 := (itoa_nine hn.1).2 h1
      have l2 := (itoa_nine hn.2).2 h2
      have l3 : (dwL k).length ≤ 4 := by unfold dwL; repeat' split
                                         all_goals simp
      have HS : Hid (dlS k a b = tx (lineL k a b)) := by unfold Hid dlS; rw [HT.out]; rfl
      have HLL : Hid (lineL k a b = dwL k ++ ([32] ++ (Lib.itoa a ++ (if k = 1 ∨ k = 2 then [32] ++ Lib.itoa b else [])))) := rfl
      rw [show decide (a ≤ 999999999) = true from decide_eq_true h1] at SA
      rw [show decide (b ≤ 999999999) = true from decide_eq_true h2] at SB
      have ea : (⟨(Lib.itoa a).toArray⟩ : ByteArray) = tx (Lib.itoa a) := rfl
      have eb : (⟨(Lib.itoa b).toArray⟩ : ByteArray) = tx (Lib.itoa b) := rfl
      rw [ea] at IA
      rw [eb] at IB
      have a1 : ∀ w : World, (Op.stringOp .add (tx (dwL k)) ⟨#[32]⟩).run Tryd.prog w = .ok (.string (tx (dwL k ++ [32]))) w := fun w => addS _ [32] w (by simp; omega)
      have a2 : ∀ w : World, (Op.stringOp .add (tx (dwL k ++ [32])) (tx (Lib.itoa a))).run Tryd.prog w = .ok (.string (tx (dwL k ++ [32] ++ Lib.itoa a))) w := fun w => addS _ _ w (by simp; omega)
      have a3 : ∀ w : World, (Op.stringOp .add ⟨#[32]⟩ (tx (Lib.itoa b))).run Tryd.prog w = .ok (.string (tx ([32] ++ Lib.itoa b))) w := fun w => addS [32] _ w (by simp; omega)
      have a4 : ∀ w : World, (Op.stringOp .add (tx (dwL k ++ [32] ++ Lib.itoa a)) (tx ([32] ++ Lib.itoa b))).run Tryd.prog w = .ok (.string (tx (dwL k ++ [32] ++ Lib.itoa a ++ ([32] ++ Lib.itoa b)))) w := fun w => addS _ _ w (by simp; omega)
      have HE : Hid (dlB k a b = true ∧ ((k = 1 ∨ k = 2) → dlS k a b = tx (dwL k ++ [32] ++ Lib.itoa a ++ ([32] ++ Lib.itoa b))) ∧ (¬ (k = 1 ∨ k = 2) → dlS k a b = tx (dwL k ++ [32] ++ Lib.itoa a))) := by
        refine ⟨HT.out, fun h => ?_, fun h => ?_⟩
        · rw [HS.out, HLL.out, if_pos h]; simp
        · rw [HS.out, HLL.out, if_neg h]; simp
      obtain ⟨j, rfl⟩ : ∃ j : Nat, k = (j : Int) := ⟨k.toNat, by omega⟩
      have hj1 : 1 ≤ j := by omega
      have hj5 : j ≤ 5 := by omega
      have cw := hW.at j hj5
      have lg := hW.1
      clear HT l1 l2 l3 HS HLL hdk hkk hn ea eb hT hW
      generalize tx (dwL j ++ [32] ++ Lib.itoa a ++ ([32] ++ Lib.itoa b)) = t4 at a4 HE
      generalize tx ([32] ++ Lib.itoa b) = t3 at a3 a4
      generalize tx (dwL j ++ [32] ++ Lib.itoa a) = t2 at a2 a4 HE
      generalize tx (dwL j ++ [32]) = t1 at a1 a2
      generalize tx (dwL j) = t0 at a1 cw
      generalize tx (Lib.itoa a) = ta at *
      generalize tx (Lib.itoa b) = tb at *
      go_enter Tryd.func7, Tryd.ntmps7
      go_wp2_with fail
      refine (D _).mono ?_
      rintro e w1 ⟨rfl, hb1⟩
      have hB1 := hB.trans (hb1.mono hB.size)
      have hx1 := (hb1.block _ (Array.getElem?_eq_some_iff.1 hx).1).trans hx
      clear D hx hB hb1
      have c1 : w1.cell? ⟨w.heap.size, 1, none⟩ = some (.int .i64 a) := by rw [cell_of_row w1 _ 1 _ _ _ hx1]; rfl
      go_wp2_with fail
      refine (SA _ hB1).mono ?_
      rintro e w2 ⟨rfl, hb2⟩
      have hB2 := hB1.trans (hb2.mono hB1.size)
      have hx2 := (hb2.block _ (Array.getElem?_eq_some_iff.1 hx1).1).trans hx1
      clear SA hx1 hB1 hb2 c1
      have c2 : w2.cell? ⟨w.heap.size, 2, none⟩ = some (.int .i64 b) := by rw [cell_of_row w2 _ 2 _ _ _ hx2]; rfl
      go_wp2_with fail
      refine (SB _ hB2).mono ?_
      rintro e w3 ⟨rfl, hb3⟩
      have hB3 := hB2.trans (hb3.mono hB2.size)
      have hx3 := (hb3.block _ (Array.getElem?_eq_some_iff.1 hx2).1).trans hx2
      clear SB hx2 hB2 hb3 c2
      have c0 : w3.cell? ⟨w.heap.size, 0, none⟩ = some (.int .i64 j) := by rw [cell_of_row w3 _ 0 _ _ _ hx3]; rfl
      have c1 : w3.cell? ⟨w.heap.size, 1, none⟩ = some (.int .i64 a) := by rw [cell_of_row w3 _ 1 _ _ _ hx3]; rfl
      have c2 : w3.cell? ⟨w.heap.size, 2, none⟩ = some (.int .i64 b) := by rw [cell_of_row w3 _ 2 _ _ _ hx3]; rfl
      have cw3 : w3.cell? ⟨0, j, none⟩ = some (.string t0) := (hB3.cell (p := ⟨0, j, none⟩) lg).trans cw
      have hlt : w.heap.size < w3.heap.size := (Array.getElem?_eq_some_iff.1 hx3).1
      have lg3 : 0 < w3.heap.size := Nat.lt_trans lg hlt
      have j6 : (j : Int) < 6 := by omega
      have j7 : j < 6 := by omega
      clear hx3 cw
      go_wp2_with fail
      go_region_held3 (fun w' => w'.cell? ⟨w.heap.size, 0, none⟩ = some (.int .i64 j) ∧ w'.cell? ⟨w.heap.size, 1, none⟩ = some (.int .i64 a) ∧ w'.cell? ⟨w.heap.size, 2, none⟩ = some (.int .i64 b) ∧ w'.cell? ⟨0, j, none⟩ = some (.string t0)) (first | (with_reducible exact s4) | go_keep) (first
        | (go_at_call 17; with_reducible refine (IA _ hB3.drew).mono ?_; rintro e w4 ⟨rfl, q, os, hw4⟩
           have hb4 : Below w3.drew.heap.size w3.drew w4 := by rw [hw4]; exact Lib.below_grow _ _ (Nat.le_refl _) q os
           clear hw4
           have hB4 : Below w.heap.size w w4 := hB3.drew.trans (hb4.mono hB3.size)
           have x0 := (hb4.cell (p := ⟨w.heap.size, 0, none⟩) hlt).trans c0
           have x1 := (hb4.cell (p := ⟨w.heap.size, 1, none⟩) hlt).trans c1
           have x2 := (hb4.cell (p := ⟨w.heap.size, 2, none⟩) hlt).trans c2
           have x3 := (hb4.cell (p := ⟨0, j, none⟩) lg3).trans cw3
           have s4 := And.intro x0 (And.intro x1 (And.intro x2 x3))))
      all_goals
        by_cases g1 : j = 1
        · subst g1
          go_wp2_with fail
          refine (IB _ hB4).mono ?_
          rintro e w5 ⟨rfl, q, os, hw5⟩
          have hb5 : Below w4.heap.size w4 w5 := by rw [hw5]; exact Lib.below_grow _ _ (Nat.le_refl _) q os
          have hB5 : Below w.heap.size w w5 := hB4.trans (hb5.mono hB4.size)
          clear hB4 hb5 hw5
          go_wp2_with fail
          go_ret2
          exact ⟨by rw [HE.out.1, HE.out.2.1 (Or.inl rfl)]; rfl, hB5⟩
        · by_cases g2 : j = 2
          · subst g2
            go_wp2_with fail
            refine (IB _ hB4).mono ?_
            rintro e w5 ⟨rfl, q, os, hw5⟩
            have hb5 : Below w4.heap.size w4 w5 := by rw [hw5]; exact Lib.below_grow _ _ (Nat.le_refl _) q os
            have hB5 : Below w.heap.size w w5 := hB4.trans (hb5.mono hB4.size)
            clear hB4 hb5 hw5
            go_wp2_with fail
            go_ret2
            exact ⟨by rw [HE.out.1, HE.out.2.1 (Or.inr rfl)]; rfl, hB5⟩
          · have HN : Hid (¬ ((j : Int) = 1 ∨ (j : Int) = 2)) := by unfold Hid; omega
            have e1 : ((j : Int) == 1) = false := by rw [beq_eq_false_iff_ne]; omega
            have e2 : ((j : Int) == 2) = false := by rw [beq_eq_false_iff_ne]; omega
            go_wp2_with fail
            go_ret2
            exact ⟨by rw [HE.out.1, HE.out.2.2 HN.out]; rfl, hB4⟩
    · have HF : Hid (dlB k a b = false) := by
        unfold Hid
        rw [Bool.eq_false_iff]
        intro h
        exact hab (dlB_iff.1 h).2
      have HS : Hid (dlS k a b = ⟨#[]⟩) := by unfold Hid dlS; rw [HF.out]; rfl
      clear hkk hn hdk IA IB
      by_cases h1 : a ≤ 999999999
      · have h2 : ¬ b ≤ 999999999 := fun h => hab ⟨h1, h⟩
        rw [show decide (a ≤ 999999999) = true from decide_eq_true h1] at SA
        rw [show decide (b ≤ 999999999) = false from decide_eq_false h2] at SB
        clear hab
        go_enter Tryd.func7, Tryd.ntmps7
        go_wp2_with fail
        refine (D _).mono ?_
        rintro e w1 ⟨rfl, hb1⟩
        have hB1 := hB.trans (hb1.mono hB.size)
        have hx1 := (hb1.block _ (Array.getElem?_eq_some_iff.1 hx).1).trans hx
        clear D hx hB hb1
        have c1 : w1.cell? ⟨w.heap.size, 1, none⟩ = some (.int .i64 a) := by rw [cell_of_row w1 _ 1 _ _ _ hx1]; rfl
        go_wp2_with fail
        refine (SA _ hB1).mono ?_
        rintro e w2 ⟨rfl, hb2⟩
        have hB2 := hB1.trans (hb2.mono hB1.size)
        have hx2 := (hb2.block _ (Array.getElem?_eq_some_iff.1 hx1).1).trans hx1
        clear SA hx1 hB1 hb2 c1
        have c2 : w2.cell? ⟨w.heap.size, 2, none⟩ = some (.int .i64 b) := by rw [cell_of_row w2 _ 2 _ _ _ hx2]; rfl
        go_wp2_with fail
        refine (SB _ hB2).mono ?_
        rintro e w3 ⟨rfl, hb3⟩
        have hB3 := hB2.trans (hb3.mono hB2.size)
        clear SB hx2 hB2 hb3 c2
        go_wp2_with fail
        go_ret2
        exact ⟨by rw [HF.out, HS.out]; rfl, hB3⟩
      · rw [show decide (a ≤ 999999999) = false from decide_eq_false h1] at SA
        clear hab SB
        go_enter Tryd.func7, Tryd.ntmps7
        go_wp2_with fail
        refine (D _).mono ?_
        rintro e w1 ⟨rfl, hb1⟩
        have hB1 := hB.trans (hb1.mono hB.size)
        have hx1 := (hb1.block _ (Array.getElem?_eq_some_iff.1 hx).1).trans hx
        clear D hx hB hb1
        have c1 : w1.cell? ⟨w.heap.size, 1, none⟩ = some (.int .i64 a) := by rw [cell_of_row w1 _ 1 _ _ _ hx1]; rfl
        go_wp2_with fail
        refine (SA _ hB1).mono ?_
        rintro e w2 ⟨rfl, hb2⟩
        have hB2 := hB1.trans (hb2.mono hB1.size)
        clear SA hx1 hB1 hb2 c1
        go_wp2_with fail
        go_ret2
        exact ⟨by rw [HF.out, HS.out]; rfl, hB2⟩
end Go.Proofs.YtkoiccocgejmcaaDoor
