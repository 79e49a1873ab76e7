/-
  The contract of spec.l4DrawExpr: a text that is not blank. No condition beyond how deep it is.
-/
import Derived.Test.YtkchakcebdenjaaGreatSNum2M
import Derived.Test.YtkchakcebdenjaaGreatCpNeM
namespace Go.Proofs.YtkchakcebdenjaaGreat
open Go.RowKit
def Hd (s : ByteArray) : Prop := ∃ (c : UInt8) (r : List UInt8), s.data.toList = c :: r ∧ ¬ c = 32
theorem Hd.append {a : ByteArray} (h : Hd a) (b : ByteArray) : Hd (a ++ b) := by
  obtain ⟨c, r, e, hc⟩ := h
  exact ⟨c, r ++ b.data.toList, by simp [e], hc⟩
def eP9 : List ByteArray := [⟨#[49]⟩, ⟨#[120]⟩, ⟨#[121]⟩, ⟨#[45, 50]⟩, ⟨#[35, 116]⟩, ⟨#[40, 41]⟩, ⟨#[102]⟩, ⟨#[40, 113, 117, 111, 116, 101, 32, 97, 41]⟩, ⟨#[48]⟩]
def eP7 : List ByteArray := [⟨#[43]⟩, ⟨#[45]⟩, ⟨#[42]⟩, ⟨#[60]⟩, ⟨#[61]⟩, ⟨#[99, 111, 110, 115]⟩, ⟨#[101, 113, 63]⟩]
def eP6 : List ByteArray := [⟨#[99, 97, 114]⟩, ⟨#[99, 100, 114]⟩, ⟨#[110, 117, 108, 108, 63]⟩, ⟨#[112, 97, 105, 114, 63]⟩, ⟨#[110, 111, 116]⟩, ⟨#[99, 97, 108, 108, 99, 99]⟩]
theorem eP_hd : ∀ s ∈ eP9, s.size ≤ 10 ∧ Hd s := by
  intro s hs
  simp only [eP9, List.mem_cons, List.not_mem_nil, or_false] at hs
  rcases hs with rfl | rfl | rfl | rfl | rfl | rfl | rfl | rfl | rfl <;> exact ⟨by decide, _, _, rfl, by decide⟩
theorem eP7_size : ∀ s ∈ eP7, s.size ≤ 10 := by decide
theorem eP6_size : ∀ s ∈ eP6, s.size ≤ 10 := by decide
def eB : Nat → Nat
  | 0 => 10
  | d + 1 => 40 + 3 * eB d
theorem eB_mono {a b : Nat} (h : a ≤ b) : eB a ≤ eB b := by
  induction b with
  | zero => rw [show a = 0 by omega]; exact Nat.le_refl _
  | succ b ih =>
    by_cases e : a = b + 1
    · rw [e]; exact Nat.le_refl _
    · have := ih (by omega)
      simp only [eB]
      omega
theorem eB_le {d : Nat} (h : d ≤ 3) : eB d ≤ 1000 := by
  have : ∀ d, d ≤ 3 → eB d ≤ 1000 := by decide
  exact this d h
set_option maxRecDepth 100000 in
set_option maxHeartbeats 3200000 in
theorem dexpr_any (w0 : World) (v : Value) (zs : List Int) (P : Nat) (n : Nat) (hn3 : n ≤ 3) : ∀ (d : Int), d.toNat = n → -5 ≤ d → ∀ w, Cur w0 v zs w P →
    Calls Tryz.prog 78 #[.pointer (some ⟨P, 0, none⟩), .int .i64 d] w fun e w' => ∃ s : ByteArray, e = .returned (.string s) ∧ s.size ≤ eB n ∧ Hd s ∧ Cur w0 v zs w' P ∧ w.grownBy w' (some P) := by
  induction n using Nat.strongRecOn with
  | _ n ih =>
  intro d hd hd5 w c
  by_cases h0 : d ≤ 0
  · have hP := c.lt
    have hB1 : Below w.heap.size w (w.alloc (Obj.cells (eP9.map Value.string).toArray 9)) := (Below.refl _ _).alloc (Nat.le_refl _) _
    have hn0 : n = 0 := by omega
    go_enter Tryz.func78, Tryz.ntmps78
    go_wp2_with fail
    refine (picks_any w0 v zs _ P w.heap.size 9 eP9 (c.kept (hB1.mono (by omega))) (by omega) (by decide) (by decide) (fun i hi => strs_new w eP9 9 i hi)).mono ?_
    rintro e w2 ⟨s, hs, rfl, c2, g2⟩
    have hs10 := eP_hd s hs
    have g2' := draw_step hB1 g2
    clear hs
    go_wp2_with fail
    go_ret
    exact ⟨s, rfl, by rw [hn0]; exact hs10.1, hs10.2, c2, g2'⟩
  · obtain ⟨m, rfl⟩ : ∃ m, n = m + 1 := ⟨n - 1, by omega⟩
    have HI : Hid (∀ (d : Int), d.toNat = m → -5 ≤ d → ∀ w, Cur w0 v zs w P → Calls Tryz.prog 78 #[.pointer (some ⟨P, 0, none⟩), .int .i64 d] w fun e w' => ∃ s : ByteArray, e = .returned (.string s) ∧ s.size ≤ eB m ∧ Hd s ∧ Cur w0 v zs w' P ∧ w.grownBy w' (some P)) := ih m (by omega) (by omega)
    have HI2 : Hid (∀ w, Cur w0 v zs w P → Calls Tryz.prog 78 #[.pointer (some ⟨P, 0, none⟩), .int .i64 (d - 2)] w fun e w' => ∃ s : ByteArray, e = .returned (.string s) ∧ s.size ≤ eB m ∧ Hd s ∧ Cur w0 v zs w' P ∧ w.grownBy w' (some P)) := fun w c =>
      (ih (d - 2).toNat (by omega) (by omega) (d - 2) rfl (by omega) w c).mono fun e w' ⟨s, h1, h2, h3⟩ => ⟨s, h1, Nat.le_trans h2 (eB_mono (by omega)), h3⟩
    have hBm := eB_le (show m ≤ 3 by omega)
    have HB : Hid (eB (m + 1) = 40 + 3 * eB m) := rfl
    clear ih
    go_enter Tryz.func78, Tryz.ntmps78
    go_wp2_with fail
    refine (HI.out (d - 1) (by omega) (by omega) _ c).mono ?_
    rintro e w1 ⟨a, rfl, ha, hda, c1, g1⟩
    go_wp2_with fail
    refine (HI.out (d - 1) (by omega) (by omega) _ c1).mono ?_
    rintro e w2 ⟨b, rfl, hb, hdb, c2, g2⟩
    have g2' := grown_trans g1 g2
    go_wp2_with fail
    refine (below_any w0 v zs _ P 9 c2 (by omega)).mono ?_
    rintro e w3 ⟨r, rfl, hr0, hr1, c3, g3⟩
    have hr := hr1 (by omega)
    have g3' := grown_trans g2' g3
    generalize eB m = B at *
    clear hr1 g1 g2 g3 c1 c2 g2' c
    have hP := c3.lt
    rcases (by omega : r = 0 ∨ r = 1 ∨ r = 2 ∨ r = 3 ∨ r = 4 ∨ r = 5 ∨ r = 6 ∨ r = 7 ∨ r = 8) with rfl | rfl | rfl | rfl | rfl | rfl | rfl | rfl | rfl
    · have l0 : Hd (⟨#[40, 105, 102, 32]⟩ : ByteArray) := ⟨_, _, rfl, by decide⟩
      have y0 : ((⟨#[40, 105, 102, 32]⟩ : ByteArray)).size = 4 := rfl
      have y1 : ((⟨#[32]⟩ : ByteArray)).size = 1 := rfl
      have y2 : ((⟨#[41]⟩ : ByteArray)).size = 1 := rfl
      obtain ⟨t1, et1⟩ : ∃ t : ByteArray, Hid (t = (⟨#[40, 105, 102, 32]⟩ : ByteArray) ++ a) := ⟨_, rfl⟩
      have zt1 : t1.size = ((⟨#[40, 105, 102, 32]⟩ : ByteArray)).size + (a).size := by rw [et1.out, ByteArray.size_append]
      have ht1 : Hd t1 := by rw [et1.out]; exact l0.append _
      have ad1 : ∀ u : World, (Op.stringOp .add (⟨#[40, 105, 102, 32]⟩ : ByteArray) a).run Tryz.prog u = .ok (.string t1) u := fun u => by rw [et1.out]; exact addB _ _ u (by omega)
      obtain ⟨t2, et2⟩ : ∃ t : ByteArray, Hid (t = t1 ++ (⟨#[32]⟩ : ByteArray)) := ⟨_, rfl⟩
      have zt2 : t2.size = (t1).size + ((⟨#[32]⟩ : ByteArray)).size := by rw [et2.out, ByteArray.size_append]
      have ht2 : Hd t2 := by rw [et2.out]; exact ht1.append _
      have ad2 : ∀ u : World, (Op.stringOp .add t1 (⟨#[32]⟩ : ByteArray)).run Tryz.prog u = .ok (.string t2) u := fun u => by rw [et2.out]; exact addB _ _ u (by omega)
      obtain ⟨t3, et3⟩ : ∃ t : ByteArray, Hid (t = t2 ++ b) := ⟨_, rfl⟩
      have zt3 : t3.size = (t2).size + (b).size := by rw [et3.out, ByteArray.size_append]
      have ht3 : Hd t3 := by rw [et3.out]; exact ht2.append _
      have ad3 : ∀ u : World, (Op.stringOp .add t2 b).run Tryz.prog u = .ok (.string t3) u := fun u => by rw [et3.out]; exact addB _ _ u (by omega)
      obtain ⟨t4, et4⟩ : ∃ t : ByteArray, Hid (t = t3 ++ (⟨#[32]⟩ : ByteArray)) := ⟨_, rfl⟩
      have zt4 : t4.size = (t3).size + ((⟨#[32]⟩ : ByteArray)).size := by rw [et4.out, ByteArray.size_append]
      have ht4 : Hd t4 := by rw [et4.out]; exact ht3.append _
      have ad4 : ∀ u : World, (Op.stringOp .add t3 (⟨#[32]⟩ : ByteArray)).run Tryz.prog u = .ok (.string t4) u := fun u => by rw [et4.out]; exact addB _ _ u (by omega)
      go_wp2_with fail
      refine (HI2.out _ c3).mono ?_
      rintro e w4 ⟨q, rfl, hq10, _, c4, g4⟩
      have g4' := grown_trans g3' g4
      obtain ⟨t5, et5⟩ : ∃ t : ByteArray, Hid (t = t4 ++ q) := ⟨_, rfl⟩
      have zt5 : t5.size = (t4).size + (q).size := by rw [et5.out, ByteArray.size_append]
      have ht5 : Hd t5 := by rw [et5.out]; exact ht4.append _
      have ad5 : ∀ u : World, (Op.stringOp .add t4 q).run Tryz.prog u = .ok (.string t5) u := fun u => by rw [et5.out]; exact addB _ _ u (by omega)
      obtain ⟨t6, et6⟩ : ∃ t : ByteArray, Hid (t = t5 ++ (⟨#[41]⟩ : ByteArray)) := ⟨_, rfl⟩
      have zt6 : t6.size = (t5).size + ((⟨#[41]⟩ : ByteArray)).size := by rw [et6.out, ByteArray.size_append]
      have ht6 : Hd t6 := by rw [et6.out]; exact ht5.append _
      have ad6 : ∀ u : World, (Op.stringOp .add t5 (⟨#[41]⟩ : ByteArray)).run Tryz.prog u = .ok (.string t6) u := fun u => by rw [et6.out]; exact addB _ _ u (by omega)
      go_wp2_with fail
      go_ret
      exact ⟨t6, rfl, by rw [HB.out]; omega, ht6, c4, g4'⟩
    · have l0 : Hd (⟨#[40, 102, 110, 32, 40, 120, 32, 121, 41, 32]⟩ : ByteArray) := ⟨_, _, rfl, by decide⟩
      have y0 : ((⟨#[40, 102, 110, 32, 40, 120, 32, 121, 41, 32]⟩ : ByteArray)).size = 10 := rfl
      have y1 : ((⟨#[41]⟩ : ByteArray)).size = 1 := rfl
      obtain ⟨t1, et1⟩ : ∃ t : ByteArray, Hid (t = (⟨#[40, 102, 110, 32, 40, 120, 32, 121, 41, 32]⟩ : ByteArray) ++ a) := ⟨_, rfl⟩
      have zt1 : t1.size = ((⟨#[40, 102, 110, 32, 40, 120, 32, 121, 41, 32]⟩ : ByteArray)).size + (a).size := by rw [et1.out, ByteArray.size_append]
      have ht1 : Hd t1 := by rw [et1.out]; exact l0.append _
      have ad1 : ∀ u : World, (Op.stringOp .add (⟨#[40, 102, 110, 32, 40, 120, 32, 121, 41, 32]⟩ : ByteArray) a).run Tryz.prog u = .ok (.string t1) u := fun u => by rw [et1.out]; exact addB _ _ u (by omega)
      obtain ⟨t2, et2⟩ : ∃ t : ByteArray, Hid (t = t1 ++ (⟨#[41]⟩ : ByteArray)) := ⟨_, rfl⟩
      have zt2 : t2.size = (t1).size + ((⟨#[41]⟩ : ByteArray)).size := by rw [et2.out, ByteArray.size_append]
      have ht2 : Hd t2 := by rw [et2.out]; exact ht1.append _
      have ad2 : ∀ u : World, (Op.stringOp .add t1 (⟨#[41]⟩ : ByteArray)).run Tryz.prog u = .ok (.string t2) u := fun u => by rw [et2.out]; exact addB _ _ u (by omega)
      have c4 := c3
      have g4' := g3'
      go_wp2_with fail
      go_ret
      exact ⟨t2, rfl, by rw [HB.out]; omega, ht2, c4, g4'⟩
    · have l0 : Hd (⟨#[40, 108, 101, 116, 32, 120, 32]⟩ : ByteArray) := ⟨_, _, rfl, by decide⟩
      have y0 : ((⟨#[40, 108, 101, 116, 32, 120, 32]⟩ : ByteArray)).size = 7 := rfl
      have y1 : ((⟨#[32]⟩ : ByteArray)).size = 1 := rfl
      have y2 : ((⟨#[41]⟩ : ByteArray)).size = 1 := rfl
      obtain ⟨t1, et1⟩ : ∃ t : ByteArray, Hid (t = (⟨#[40, 108, 101, 116, 32, 120, 32]⟩ : ByteArray) ++ a) := ⟨_, rfl⟩
      have zt1 : t1.size = ((⟨#[40, 108, 101, 116, 32, 120, 32]⟩ : ByteArray)).size + (a).size := by rw [et1.out, ByteArray.size_append]
      have ht1 : Hd t1 := by rw [et1.out]; exact l0.append _
      have ad1 : ∀ u : World, (Op.stringOp .add (⟨#[40, 108, 101, 116, 32, 120, 32]⟩ : ByteArray) a).run Tryz.prog u = .ok (.string t1) u := fun u => by rw [et1.out]; exact addB _ _ u (by omega)
      obtain ⟨t2, et2⟩ : ∃ t : ByteArray, Hid (t = t1 ++ (⟨#[32]⟩ : ByteArray)) := ⟨_, rfl⟩
      have zt2 : t2.size = (t1).size + ((⟨#[32]⟩ : ByteArray)).size := by rw [et2.out, ByteArray.size_append]
      have ht2 : Hd t2 := by rw [et2.out]; exact ht1.append _
      have ad2 : ∀ u : World, (Op.stringOp .add t1 (⟨#[32]⟩ : ByteArray)).run Tryz.prog u = .ok (.string t2) u := fun u => by rw [et2.out]; exact addB _ _ u (by omega)
      obtain ⟨t3, et3⟩ : ∃ t : ByteArray, Hid (t = t2 ++ b) := ⟨_, rfl⟩
      have zt3 : t3.size = (t2).size + (b).size := by rw [et3.out, ByteArray.size_append]
      have ht3 : Hd t3 := by rw [et3.out]; exact ht2.append _
      have ad3 : ∀ u : World, (Op.stringOp .add t2 b).run Tryz.prog u = .ok (.string t3) u := fun u => by rw [et3.out]; exact addB _ _ u (by omega)
      obtain ⟨t4, et4⟩ : ∃ t : ByteArray, Hid (t = t3 ++ (⟨#[41]⟩ : ByteArray)) := ⟨_, rfl⟩
      have zt4 : t4.size = (t3).size + ((⟨#[41]⟩ : ByteArray)).size := by rw [et4.out, ByteArray.size_append]
      have ht4 : Hd t4 := by rw [et4.out]; exact ht3.append _
      have ad4 : ∀ u : World, (Op.stringOp .add t3 (⟨#[41]⟩ : ByteArray)).run Tryz.prog u = .ok (.string t4) u := fun u => by rw [et4.out]; exact addB _ _ u (by omega)
      have c4 := c3
      have g4' := g3'
      go_wp2_with fail
      go_ret
      exact ⟨t4, rfl, by rw [HB.out]; omega, ht4, c4, g4'⟩
    · have l0 : Hd (⟨#[40, 100, 111, 32]⟩ : ByteArray) := ⟨_, _, rfl, by decide⟩
      have y0 : ((⟨#[40, 100, 111, 32]⟩ : ByteArray)).size = 4 := rfl
      have y1 : ((⟨#[32]⟩ : ByteArray)).size = 1 := rfl
      have y2 : ((⟨#[41]⟩ : ByteArray)).size = 1 := rfl
      obtain ⟨t1, et1⟩ : ∃ t : ByteArray, Hid (t = (⟨#[40, 100, 111, 32]⟩ : ByteArray) ++ a) := ⟨_, rfl⟩
      have zt1 : t1.size = ((⟨#[40, 100, 111, 32]⟩ : ByteArray)).size + (a).size := by rw [et1.out, ByteArray.size_append]
      have ht1 : Hd t1 := by rw [et1.out]; exact l0.append _
      have ad1 : ∀ u : World, (Op.stringOp .add (⟨#[40, 100, 111, 32]⟩ : ByteArray) a).run Tryz.prog u = .ok (.string t1) u := fun u => by rw [et1.out]; exact addB _ _ u (by omega)
      obtain ⟨t2, et2⟩ : ∃ t : ByteArray, Hid (t = t1 ++ (⟨#[32]⟩ : ByteArray)) := ⟨_, rfl⟩
      have zt2 : t2.size = (t1).size + ((⟨#[32]⟩ : ByteArray)).size := by rw [et2.out, ByteArray.size_append]
      have ht2 : Hd t2 := by rw [et2.out]; exact ht1.append _
      have ad2 : ∀ u : World, (Op.stringOp .add t1 (⟨#[32]⟩ : ByteArray)).run Tryz.prog u = .ok (.string t2) u := fun u => by rw [et2.out]; exact addB _ _ u (by omega)
      obtain ⟨t3, et3⟩ : ∃ t : ByteArray, Hid (t = t2 ++ b) := ⟨_, rfl⟩
      have zt3 : t3.size = (t2).size + (b).size := by rw [et3.out, ByteArray.size_append]
      have ht3 : Hd t3 := by rw [et3.out]; exact ht2.append _
      have ad3 : ∀ u : World, (Op.stringOp .add t2 b).run Tryz.prog u = .ok (.string t3) u := fun u => by rw [et3.out]; exact addB _ _ u (by omega)
      obtain ⟨t4, et4⟩ : ∃ t : ByteArray, Hid (t = t3 ++ (⟨#[41]⟩ : ByteArray)) := ⟨_, rfl⟩
      have zt4 : t4.size = (t3).size + ((⟨#[41]⟩ : ByteArray)).size := by rw [et4.out, ByteArray.size_append]
      have ht4 : Hd t4 := by rw [et4.out]; exact ht3.append _
      have ad4 : ∀ u : World, (Op.stringOp .add t3 (⟨#[41]⟩ : ByteArray)).run Tryz.prog u = .ok (.string t4) u := fun u => by rw [et4.out]; exact addB _ _ u (by omega)
      have c4 := c3
      have g4' := g3'
      go_wp2_with fail
      go_ret
      exact ⟨t4, rfl, by rw [HB.out]; omega, ht4, c4, g4'⟩
    · have l0 : Hd (⟨#[40, 112, 114, 105, 110, 116, 32]⟩ : ByteArray) := ⟨_, _, rfl, by decide⟩
      have y0 : ((⟨#[40, 112, 114, 105, 110, 116, 32]⟩ : ByteArray)).size = 7 := rfl
      have y1 : ((⟨#[41]⟩ : ByteArray)).size = 1 := rfl
      obtain ⟨t1, et1⟩ : ∃ t : ByteArray, Hid (t = (⟨#[40, 112, 114, 105, 110, 116, 32]⟩ : ByteArray) ++ a) := ⟨_, rfl⟩
      have zt1 : t1.size = ((⟨#[40, 112, 114, 105, 110, 116, 32]⟩ : ByteArray)).size + (a).size := by rw [et1.out, ByteArray.size_append]
      have ht1 : Hd t1 := by rw [et1.out]; exact l0.append _
      have ad1 : ∀ u : World, (Op.stringOp .add (⟨#[40, 112, 114, 105, 110, 116, 32]⟩ : ByteArray) a).run Tryz.prog u = .ok (.string t1) u := fun u => by rw [et1.out]; exact addB _ _ u (by omega)
      obtain ⟨t2, et2⟩ : ∃ t : ByteArray, Hid (t = t1 ++ (⟨#[41]⟩ : ByteArray)) := ⟨_, rfl⟩
      have zt2 : t2.size = (t1).size + ((⟨#[41]⟩ : ByteArray)).size := by rw [et2.out, ByteArray.size_append]
      have ht2 : Hd t2 := by rw [et2.out]; exact ht1.append _
      have ad2 : ∀ u : World, (Op.stringOp .add t1 (⟨#[41]⟩ : ByteArray)).run Tryz.prog u = .ok (.string t2) u := fun u => by rw [et2.out]; exact addB _ _ u (by omega)
      have c4 := c3
      have g4' := g3'
      go_wp2_with fail
      go_ret
      exact ⟨t2, rfl, by rw [HB.out]; omega, ht2, c4, g4'⟩
    · have l0 : Hd (⟨#[40, 40, 102, 110, 32, 40, 121, 41, 32]⟩ : ByteArray) := ⟨_, _, rfl, by decide⟩
      have y0 : ((⟨#[40, 40, 102, 110, 32, 40, 121, 41, 32]⟩ : ByteArray)).size = 9 := rfl
      have y1 : ((⟨#[41]⟩ : ByteArray)).size = 1 := rfl
      have y2 : ((⟨#[41, 32]⟩ : ByteArray)).size = 2 := rfl
      obtain ⟨t1, et1⟩ : ∃ t : ByteArray, Hid (t = (⟨#[40, 40, 102, 110, 32, 40, 121, 41, 32]⟩ : ByteArray) ++ a) := ⟨_, rfl⟩
      have zt1 : t1.size = ((⟨#[40, 40, 102, 110, 32, 40, 121, 41, 32]⟩ : ByteArray)).size + (a).size := by rw [et1.out, ByteArray.size_append]
      have ht1 : Hd t1 := by rw [et1.out]; exact l0.append _
      have ad1 : ∀ u : World, (Op.stringOp .add (⟨#[40, 40, 102, 110, 32, 40, 121, 41, 32]⟩ : ByteArray) a).run Tryz.prog u = .ok (.string t1) u := fun u => by rw [et1.out]; exact addB _ _ u (by omega)
      obtain ⟨t2, et2⟩ : ∃ t : ByteArray, Hid (t = t1 ++ (⟨#[41, 32]⟩ : ByteArray)) := ⟨_, rfl⟩
      have zt2 : t2.size = (t1).size + ((⟨#[41, 32]⟩ : ByteArray)).size := by rw [et2.out, ByteArray.size_append]
      have ht2 : Hd t2 := by rw [et2.out]; exact ht1.append _
      have ad2 : ∀ u : World, (Op.stringOp .add t1 (⟨#[41, 32]⟩ : ByteArray)).run Tryz.prog u = .ok (.string t2) u := fun u => by rw [et2.out]; exact addB _ _ u (by omega)
      obtain ⟨t3, et3⟩ : ∃ t : ByteArray, Hid (t = t2 ++ b) := ⟨_, rfl⟩
      have zt3 : t3.size = (t2).size + (b).size := by rw [et3.out, ByteArray.size_append]
      have ht3 : Hd t3 := by rw [et3.out]; exact ht2.append _
      have ad3 : ∀ u : World, (Op.stringOp .add t2 b).run Tryz.prog u = .ok (.string t3) u := fun u => by rw [et3.out]; exact addB _ _ u (by omega)
      obtain ⟨t4, et4⟩ : ∃ t : ByteArray, Hid (t = t3 ++ (⟨#[41]⟩ : ByteArray)) := ⟨_, rfl⟩
      have zt4 : t4.size = (t3).size + ((⟨#[41]⟩ : ByteArray)).size := by rw [et4.out, ByteArray.size_append]
      have ht4 : Hd t4 := by rw [et4.out]; exact ht3.append _
      have ad4 : ∀ u : World, (Op.stringOp .add t3 (⟨#[41]⟩ : ByteArray)).run Tryz.prog u = .ok (.string t4) u := fun u => by rw [et4.out]; exact addB _ _ u (by omega)
      have c4 := c3
      have g4' := g3'
      go_wp2_with fail
      go_ret
      exact ⟨t4, rfl, by rw [HB.out]; omega, ht4, c4, g4'⟩
    · have l0 : Hd (⟨#[40]⟩ : ByteArray) := ⟨_, _, rfl, by decide⟩
      have y0 : ((⟨#[40]⟩ : ByteArray)).size = 1 := rfl
      have y1 : ((⟨#[32]⟩ : ByteArray)).size = 1 := rfl
      have y2 : ((⟨#[41]⟩ : ByteArray)).size = 1 := rfl
      have hB1 : Below w3.heap.size w3 (w3.alloc (Obj.cells (eP7.map Value.string).toArray 9)) := (Below.refl _ _).alloc (Nat.le_refl _) _
      go_wp2_with fail
      refine (picks_any w0 v zs _ P w3.heap.size 7 eP7 (c3.kept (hB1.mono (by omega))) (by omega) (by decide) (by decide) (fun i hi => strs_new w3 eP7 9 i hi)).mono ?_
      rintro e w4 ⟨q, hq, rfl, c4, g4⟩
      have hq10 := eP7_size q hq
      have g4' := grown_trans g3' (draw_step hB1 g4)
      clear hq hB1 g4
      obtain ⟨t1, et1⟩ : ∃ t : ByteArray, Hid (t = (⟨#[40]⟩ : ByteArray) ++ q) := ⟨_, rfl⟩
      have zt1 : t1.size = ((⟨#[40]⟩ : ByteArray)).size + (q).size := by rw [et1.out, ByteArray.size_append]
      have ht1 : Hd t1 := by rw [et1.out]; exact l0.append _
      have ad1 : ∀ u : World, (Op.stringOp .add (⟨#[40]⟩ : ByteArray) q).run Tryz.prog u = .ok (.string t1) u := fun u => by rw [et1.out]; exact addB _ _ u (by omega)
      obtain ⟨t2, et2⟩ : ∃ t : ByteArray, Hid (t = t1 ++ (⟨#[32]⟩ : ByteArray)) := ⟨_, rfl⟩
      have zt2 : t2.size = (t1).size + ((⟨#[32]⟩ : ByteArray)).size := by rw [et2.out, ByteArray.size_append]
      have ht2 : Hd t2 := by rw [et2.out]; exact ht1.append _
      have ad2 : ∀ u : World, (Op.stringOp .add t1 (⟨#[32]⟩ : ByteArray)).run Tryz.prog u = .ok (.string t2) u := fun u => by rw [et2.out]; exact addB _ _ u (by omega)
      obtain ⟨t3, et3⟩ : ∃ t : ByteArray, Hid (t = t2 ++ a) := ⟨_, rfl⟩
      have zt3 : t3.size = (t2).size + (a).size := by rw [et3.out, ByteArray.size_append]
      have ht3 : Hd t3 := by rw [et3.out]; exact ht2.append _
      have ad3 : ∀ u : World, (Op.stringOp .add t2 a).run Tryz.prog u = .ok (.string t3) u := fun u => by rw [et3.out]; exact addB _ _ u (by omega)
      obtain ⟨t4, et4⟩ : ∃ t : ByteArray, Hid (t = t3 ++ (⟨#[32]⟩ : ByteArray)) := ⟨_, rfl⟩
      have zt4 : t4.size = (t3).size + ((⟨#[32]⟩ : ByteArray)).size := by rw [et4.out, ByteArray.size_append]
      have ht4 : Hd t4 := by rw [et4.out]; exact ht3.append _
      have ad4 : ∀ u : World, (Op.stringOp .add t3 (⟨#[32]⟩ : ByteArray)).run Tryz.prog u = .ok (.string t4) u := fun u => by rw [et4.out]; exact addB _ _ u (by omega)
      obtain ⟨t5, et5⟩ : ∃ t : ByteArray, Hid (t = t4 ++ b) := ⟨_, rfl⟩
      have zt5 : t5.size = (t4).size + (b).size := by rw [et5.out, ByteArray.size_append]
      have ht5 : Hd t5 := by rw [et5.out]; exact ht4.append _
      have ad5 : ∀ u : World, (Op.stringOp .add t4 b).run Tryz.prog u = .ok (.string t5) u := fun u => by rw [et5.out]; exact addB _ _ u (by omega)
      obtain ⟨t6, et6⟩ : ∃ t : ByteArray, Hid (t = t5 ++ (⟨#[41]⟩ : ByteArray)) := ⟨_, rfl⟩
      have zt6 : t6.size = (t5).size + ((⟨#[41]⟩ : ByteArray)).size := by rw [et6.out, ByteArray.size_append]
      have ht6 : Hd t6 := by rw [et6.out]; exact ht5.append _
      have ad6 : ∀ u : World, (Op.stringOp .add t5 (⟨#[41]⟩ : ByteArray)).run Tryz.prog u = .ok (.string t6) u := fun u => by rw [et6.out]; exact addB _ _ u (by omega)
      go_wp2_with fail
      go_ret
      exact ⟨t6, rfl, by rw [HB.out]; omega, ht6, c4, g4'⟩
    · have l0 : Hd (⟨#[40]⟩ : ByteArray) := ⟨_, _, rfl, by decide⟩
      have y0 : ((⟨#[40]⟩ : ByteArray)).size = 1 := rfl
      have y1 : ((⟨#[32]⟩ : ByteArray)).size = 1 := rfl
      have y2 : ((⟨#[41]⟩ : ByteArray)).size = 1 := rfl
      have hB1 : Below w3.heap.size w3 (w3.alloc (Obj.cells (eP6.map Value.string).toArray 9)) := (Below.refl _ _).alloc (Nat.le_refl _) _
      go_wp2_with fail
      refine (picks_any w0 v zs _ P w3.heap.size 6 eP6 (c3.kept (hB1.mono (by omega))) (by omega) (by decide) (by decide) (fun i hi => strs_new w3 eP6 9 i hi)).mono ?_
      rintro e w4 ⟨q, hq, rfl, c4, g4⟩
      have hq10 := eP6_size q hq
      have g4' := grown_trans g3' (draw_step hB1 g4)
      clear hq hB1 g4
      obtain ⟨t1, et1⟩ : ∃ t : ByteArray, Hid (t = (⟨#[40]⟩ : ByteArray) ++ q) := ⟨_, rfl⟩
      have zt1 : t1.size = ((⟨#[40]⟩ : ByteArray)).size + (q).size := by rw [et1.out, ByteArray.size_append]
      have ht1 : Hd t1 := by rw [et1.out]; exact l0.append _
      have ad1 : ∀ u : World, (Op.stringOp .add (⟨#[40]⟩ : ByteArray) q).run Tryz.prog u = .ok (.string t1) u := fun u => by rw [et1.out]; exact addB _ _ u (by omega)
      obtain ⟨t2, et2⟩ : ∃ t : ByteArray, Hid (t = t1 ++ (⟨#[32]⟩ : ByteArray)) := ⟨_, rfl⟩
      have zt2 : t2.size = (t1).size + ((⟨#[32]⟩ : ByteArray)).size := by rw [et2.out, ByteArray.size_append]
      have ht2 : Hd t2 := by rw [et2.out]; exact ht1.append _
      have ad2 : ∀ u : World, (Op.stringOp .add t1 (⟨#[32]⟩ : ByteArray)).run Tryz.prog u = .ok (.string t2) u := fun u => by rw [et2.out]; exact addB _ _ u (by omega)
      obtain ⟨t3, et3⟩ : ∃ t : ByteArray, Hid (t = t2 ++ a) := ⟨_, rfl⟩
      have zt3 : t3.size = (t2).size + (a).size := by rw [et3.out, ByteArray.size_append]
      have ht3 : Hd t3 := by rw [et3.out]; exact ht2.append _
      have ad3 : ∀ u : World, (Op.stringOp .add t2 a).run Tryz.prog u = .ok (.string t3) u := fun u => by rw [et3.out]; exact addB _ _ u (by omega)
      obtain ⟨t4, et4⟩ : ∃ t : ByteArray, Hid (t = t3 ++ (⟨#[41]⟩ : ByteArray)) := ⟨_, rfl⟩
      have zt4 : t4.size = (t3).size + ((⟨#[41]⟩ : ByteArray)).size := by rw [et4.out, ByteArray.size_append]
      have ht4 : Hd t4 := by rw [et4.out]; exact ht3.append _
      have ad4 : ∀ u : World, (Op.stringOp .add t3 (⟨#[41]⟩ : ByteArray)).run Tryz.prog u = .ok (.string t4) u := fun u => by rw [et4.out]; exact addB _ _ u (by omega)
      go_wp2_with fail
      go_ret
      exact ⟨t4, rfl, by rw [HB.out]; omega, ht4, c4, g4'⟩
    · go_wp2_with fail
      go_ret
      exact ⟨a, rfl, by rw [HB.out]; omega, hda, c3, g3'⟩
end Go.Proofs.YtkchakcebdenjaaGreat
