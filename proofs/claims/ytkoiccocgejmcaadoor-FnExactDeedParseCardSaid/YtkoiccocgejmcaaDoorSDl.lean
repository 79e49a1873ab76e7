/-
  The contracts of spec.l17Word, l17Two and DeedLine. No condition but a kind from 0 to 5 for a word.
-/
import Derived.Test.YtkoiccocgejmcaaDoorDlM
import Derived.Test.YtkoiccocgejmcaaDoorDOk
import Derived.Test.YtkoiccocgejmcaaDoorSDig
import Derived.Deep.RegionHeld3
namespace Go.Proofs.YtkoiccocgejmcaaDoor
open Go.RowKit

theorem dok_dk (k a b : Int) : dokB k a b = dkB k a b := rfl

set_option maxHeartbeats 1600000 in
theorem sword17_any (k : Int) (w : World) (hk : 0 ≤ k ∧ k ≤ 5) :
    Calls Tryd.prog 12 #[.int .i64 k] w fun e w' => e = .returned (.string (tx (dwL k))) ∧ Below w.heap.size w w' := by
  have hB := (Below.refl w.heap.size w).alloc (Nat.le_refl _) (Obj.cells #[.string ⟨#[]⟩, .string ⟨#[115, 116, 101, 112]⟩, .string ⟨#[115, 104, 111, 119]⟩, .string ⟨#[103, 105, 118, 101]⟩, .string ⟨#[99, 111, 112, 121]⟩, .string ⟨#[108, 111, 115, 101]⟩] 9)
  obtain rfl | rfl | rfl | rfl | rfl | rfl : k = 0 ∨ k = 1 ∨ k = 2 ∨ k = 3 ∨ k = 4 ∨ k = 5 := by omega
  all_goals
    go_enter Tryd.func12, Tryd.ntmps12
    go_wp2
    go_ret
    exact ⟨rfl, hB⟩

set_option maxHeartbeats 400000 in
theorem stwo17_any (k : Int) (w : World) :
    Calls Tryd.prog 14 #[.int .i64 k] w fun e w' => e = .returned (.bool (decide (k = 1 ∨ k = 2))) ∧ w' = w := by
  by_cases h1 : k = 1
  · subst h1
    go_enter Tryd.func14, Tryd.ntmps14
    go_wp2
    go_ret
    exact ⟨rfl, rfl⟩
  · by_cases h2 : k = 2
    · subst h2
      go_enter Tryd.func14, Tryd.ntmps14
      go_wp2
      go_ret
      exact ⟨rfl, rfl⟩
    · have HD : Hid (decide (k = 1 ∨ k = 2) = false) := by unfold Hid; simp [h1, h2]
      go_enter Tryd.func14, Tryd.ntmps14
      go_wp2
      go_ret
      exact ⟨by rw [HD.out]; simp [h1, h2], rfl⟩

/-- The line that is answered, where there is one. -/
def dlS (k a b : Int) : ByteArray := if dlB k a b = true then tx (lineL k a b) else ⟨#[]⟩
theorem dl_len {k a b : Int} (h : dlB k a b = true) : (lineL k a b).length ≤ 100 := by
  obtain ⟨h1, h2, h3⟩ := dlB_iff.1 h
  obtain ⟨h4, h5⟩ := dkB_nonneg h1
  have l1 := (itoa_nine h4).2 h2
  have l2 := (itoa_nine h5).2 h3
  have l3 : (dwL k).length ≤ 4 := by unfold dwL; repeat' split
                                     all_goals simp
  unfold lineL
  split <;> simp <;> omega

set_option maxRecDepth 100000 in
set_option maxHeartbeats 3200000 in
theorem sdl_any (k a b : Int) (w : World) :
    Calls Tryd.prog 5 #[.agg #[.int .i64 k, .int .i64 a, .int .i64 b]] w fun e w' => e = .returned (.tuple #[.string (dlS k a b), .bool (dlB k a b)]) ∧ Below w.heap.size w w' := by
  have hB : Below w.heap.size w (w.alloc (Obj.cells #[.int .i64 k, .int .i64 a, .int .i64 b] 26)) := (Below.refl _ _).alloc (Nat.le_refl _) _
  have hx : (w.alloc (Obj.cells #[.int .i64 k, .int .i64 a, .int .i64 b] 26)).heap[w.heap.size]? = some (.cells #[.int .i64 k, .int .i64 a, .int .i64 b] 26 (0, 0)) := heap_alloc_new _ _
  have D := sdeedok_any k a b
  cases hdk : dokB k a b with
  | false =>
    have HF : Hid (dlB k a b = false) := by unfold Hid dlB; rw [← dok_dk, hdk]; rfl
    rw [hdk] at D
    go_enter Tryd.func5, Tryd.ntmps5
    go_wp2_with fail
    refine (D _).mono ?_
    rintro e w1 ⟨rfl, hb1⟩
    have hB1 := hB.trans (hb1.mono hB.size)
    clear D hx hB hb1 hdk
    go_wp2_with fail
    go_ret2
    refine ⟨?_, hB1⟩
    unfold dlS
    rw [HF.out]
    rfl
  | true =>
    rw [hdk] at D
    rw [dok_dk] at hdk
    have hn := dkB_nonneg hdk
    have hkk := dkB_kind hdk
    by_cases hab : a ≤ 999999999 ∧ b ≤ 999999999
    · obtain ⟨h1, h2⟩ := hab
      have HT : Hid (dlB k a b = true) := dlB_iff.2 ⟨hdk, h1, h2⟩
      have HLn := dl_len HT.out
      have l1 := (itoa_nine hn.1).2 h1
      have l2 := (itoa_nine hn.2).2 h2
      have l3 : (dwL k).length ≤ 4 := by unfold dwL; repeat' split
                                         all_goals simp
      have HS : Hid (dlS k a b = tx (lineL k a b)) := by unfold Hid dlS; rw [HT.out]; rfl
      have HLL : Hid (lineL k a b = dwL k ++ ([32] ++ (Lib.itoa a ++ (if k = 1 ∨ k = 2 then [32] ++ Lib.itoa b else [])))) := rfl
      have W := fun w => sword17_any k w (by omega)
      have T := fun w => stwo17_any k w
      have A := fun w => sdigits_any a w (by omega)
      have Bb := fun w => sdigits_any b w (by omega)
      have g1 : ¬ 999999999 < a := by omega
      have g2 : ¬ 999999999 < b := by omega
      have a1 : ∀ w : World, (Op.stringOp .add (tx (dwL k)) ⟨#[32]⟩).run Tryd.prog w = .ok (.string (tx (dwL k ++ [32]))) w := fun w => addS _ [32] w (by simp; omega)
      have a2 : ∀ w : World, (Op.stringOp .add (tx (dwL k ++ [32])) (tx (Lib.itoa a))).run Tryd.prog w = .ok (.string (tx (dwL k ++ [32] ++ Lib.itoa a))) w := fun w => addS _ _ w (by simp; omega)
      have a3 : ∀ w : World, (Op.stringOp .add (tx (dwL k ++ [32] ++ Lib.itoa a)) ⟨#[32]⟩).run Tryd.prog w = .ok (.string (tx (dwL k ++ [32] ++ Lib.itoa a ++ [32]))) w := fun w => addS _ [32] w (by simp; omega)
      have a4 : ∀ w : World, (Op.stringOp .add (tx (dwL k ++ [32] ++ Lib.itoa a ++ [32])) (tx (Lib.itoa b))).run Tryd.prog w = .ok (.string (tx (dwL k ++ [32] ++ Lib.itoa a ++ [32] ++ Lib.itoa b))) w := fun w => addS _ _ w (by simp; omega)
      have HE : Hid (dlB k a b = true ∧ (decide (k = 1 ∨ k = 2) = true → dlS k a b = tx (dwL k ++ [32] ++ Lib.itoa a ++ [32] ++ Lib.itoa b)) ∧ (decide (k = 1 ∨ k = 2) = false → dlS k a b = tx (dwL k ++ [32] ++ Lib.itoa a))) := by
        refine ⟨HT.out, fun h => ?_, fun h => ?_⟩
        · rw [HS.out, HLL.out, if_pos (of_decide_eq_true h)]; simp
        · rw [HS.out, HLL.out, if_neg (of_decide_eq_false h)]; simp
      clear HT HLn l1 l2 l3 HS HLL hdk hkk hn
      generalize tx (dwL k ++ [32] ++ Lib.itoa a ++ [32] ++ Lib.itoa b) = t4 at a4 HE
      generalize tx (dwL k ++ [32] ++ Lib.itoa a ++ [32]) = t3 at a3 a4
      generalize tx (dwL k ++ [32] ++ Lib.itoa a) = t2 at a2 a3 HE
      generalize tx (dwL k ++ [32]) = t1 at a1 a2
      go_enter Tryd.func5, Tryd.ntmps5
      go_wp2_with fail
      refine (D _).mono ?_
      rintro e w1 ⟨rfl, hb1⟩
      have hB1 := hB.trans (hb1.mono hB.size)
      have hx1 := (hb1.block _ (Array.getElem?_eq_some_iff.1 hx).1).trans hx
      clear D hx hB hb1
      have c0 : w1.cell? ⟨w.heap.size, 0, none⟩ = some (.int .i64 k) := by rw [cell_of_row w1 _ 0 _ _ _ hx1]; rfl
      have c1 : w1.cell? ⟨w.heap.size, 1, none⟩ = some (.int .i64 a) := by rw [cell_of_row w1 _ 1 _ _ _ hx1]; rfl
      have c2 : w1.cell? ⟨w.heap.size, 2, none⟩ = some (.int .i64 b) := by rw [cell_of_row w1 _ 2 _ _ _ hx1]; rfl
      have hlt : w.heap.size < w1.heap.size := (Array.getElem?_eq_some_iff.1 hx1).1
      clear hx1
      go_wp2_with fail
      go_region_held3 (fun w' => w'.cell? ⟨w.heap.size, 0, none⟩ = some (.int .i64 k) ∧ w'.cell? ⟨w.heap.size, 1, none⟩ = some (.int .i64 a) ∧ w'.cell? ⟨w.heap.size, 2, none⟩ = some (.int .i64 b)) (first | (with_reducible exact s3) | (with_reducible exact s2) | go_keep) (first
        | (go_at_call 12; with_reducible refine (W _).mono ?_; rintro e w2 ⟨rfl, hb2⟩
           have hB2 : Below w.heap.size w w2 := hB1.drew.trans (hb2.mono hB1.size)
           have l2 : w.heap.size < w2.heap.size := Nat.lt_of_lt_of_le hlt hb2.size
           have s2 : w2.cell? ⟨w.heap.size, 0, none⟩ = some (.int .i64 k) ∧ w2.cell? ⟨w.heap.size, 1, none⟩ = some (.int .i64 a) ∧ w2.cell? ⟨w.heap.size, 2, none⟩ = some (.int .i64 b) := ⟨(hb2.cell (p := ⟨w.heap.size, 0, none⟩) hlt).trans c0, (hb2.cell (p := ⟨w.heap.size, 1, none⟩) hlt).trans c1, (hb2.cell (p := ⟨w.heap.size, 2, none⟩) hlt).trans c2⟩
           obtain ⟨x0, x1, x2⟩ := s2
           have s2 := And.intro x0 (And.intro x1 x2))
        | (go_at_call 13; with_reducible refine (A _).mono ?_; rintro e w3 ⟨rfl, hb3⟩
           have hB3 : Below w.heap.size w w3 := hB2.trans (hb3.mono hB2.size)
           have s3 : w3.cell? ⟨w.heap.size, 0, none⟩ = some (.int .i64 k) ∧ w3.cell? ⟨w.heap.size, 1, none⟩ = some (.int .i64 a) ∧ w3.cell? ⟨w.heap.size, 2, none⟩ = some (.int .i64 b) := ⟨(hb3.cell (p := ⟨w.heap.size, 0, none⟩) l2).trans x0, (hb3.cell (p := ⟨w.heap.size, 1, none⟩) l2).trans x1, (hb3.cell (p := ⟨w.heap.size, 2, none⟩) l2).trans x2⟩
           obtain ⟨y0, y1, y2⟩ := s3
           have s3 := And.intro y0 (And.intro y1 y2)))
      all_goals
        go_wp2_with fail
        refine (T _).mono ?_
        rintro e w4 ⟨rfl, rfl⟩
        cases hd : decide (k = 1 ∨ k = 2) with
        | true =>
          go_wp2_with fail
          refine (Bb _).mono ?_
          rintro e w5 ⟨rfl, hb5⟩
          have hB5 : Below w.heap.size w w5 := hB3.trans (hb5.mono hB3.size)
          clear hB3 hb5
          go_wp2_with fail
          go_ret2
          exact ⟨by rw [HE.out.1, HE.out.2.1 hd]; rfl, hB5⟩
        | false =>
          go_wp2_with fail
          go_ret2
          exact ⟨by rw [HE.out.1, HE.out.2.2 hd]; rfl, hB3⟩
    · have HF : Hid (dlB k a b = false) := by
        unfold Hid
        rw [Bool.eq_false_iff]
        intro h
        exact hab (dlB_iff.1 h).2
      have HS : Hid (dlS k a b = ⟨#[]⟩) := by unfold Hid dlS; rw [HF.out]; rfl
      clear hkk hn hdk
      by_cases h1 : a ≤ 999999999
      · have h2 : ¬ b ≤ 999999999 := fun h => hab ⟨h1, h⟩
        clear hab
        have g1 : ¬ 999999999 < a := by omega
        have g2 : 999999999 < b := by omega
        go_enter Tryd.func5, Tryd.ntmps5
        go_wp2_with fail
        refine (D _).mono ?_
        rintro e w1 ⟨rfl, hb1⟩
        have hB1 := hB.trans (hb1.mono hB.size)
        have hx1 := (hb1.block _ (Array.getElem?_eq_some_iff.1 hx).1).trans hx
        clear D hx hB hb1
        have c1 : w1.cell? ⟨w.heap.size, 1, none⟩ = some (.int .i64 a) := by rw [cell_of_row w1 _ 1 _ _ _ hx1]; rfl
        have c2 : w1.cell? ⟨w.heap.size, 2, none⟩ = some (.int .i64 b) := by rw [cell_of_row w1 _ 2 _ _ _ hx1]; rfl
        go_wp2_with fail
        go_ret2
        exact ⟨by rw [HF.out, HS.out]; rfl, hB1⟩
      · clear hab
        have g1 : 999999999 < a := by omega
        go_enter Tryd.func5, Tryd.ntmps5
        go_wp2_with fail
        refine (D _).mono ?_
        rintro e w1 ⟨rfl, hb1⟩
        have hB1 := hB.trans (hb1.mono hB.size)
        have hx1 := (hb1.block _ (Array.getElem?_eq_some_iff.1 hx).1).trans hx
        clear D hx hB hb1
        have c1 : w1.cell? ⟨w.heap.size, 1, none⟩ = some (.int .i64 a) := by rw [cell_of_row w1 _ 1 _ _ _ hx1]; rfl
        go_wp2_with fail
        go_ret2
        exact ⟨by rw [HF.out, HS.out]; rfl, hB1⟩
end Go.Proofs.YtkoiccocgejmcaaDoor
