/-
  The contract of spec.l3Digits: a number's digits are those of strconv.Itoa. No condition beyond its size.
-/
import Derived.Test.YtkoiccocgejmcaaDoorTxt
import Derived.Test.YtkoiccocgejmcaaDoorBs
import Derived.Deep.LoopGhost
namespace Go.Proofs.YtkoiccocgejmcaaDoor
open Go.RowKit

/-- A text of bytes. -/
def tx (l : List UInt8) : ByteArray := ⟨l.toArray⟩
theorem tx_list (l : List UInt8) : (tx l).data.toList = l := by simp [tx]
theorem tx_size (l : List UInt8) : (tx l).size = l.length := by simp [tx, ByteArray.size]
theorem tx_append (a b : List UInt8) : tx a ++ tx b = tx (a ++ b) := by
  apply ByteArray.ext
  simp [tx, ByteArray.data_append]
theorem retS {a b : ByteArray} (h : a = b) : Ending.returned (.string a) = .returned (.string b) := by rw [h]
theorem addS (a b : List UInt8) (w : World) (h : a.length + b.length ≤ 1000000) : (Op.stringOp .add (tx a) (tx b)).run Tryd.prog w = .ok (.string (tx (a ++ b))) w := by
  rw [run_string_add_sum w _ _ (by rw [tx_size, tx_size]; omega), tx_append]

theorem digit_tx (j : Nat) : strOfNums [48 + (j : Int) % 10] = tx [UInt8.ofNat (48 + j % 10)] := by
  have e : (48 + (j : Int) % 10).toNat = 48 + j % 10 := by omega
  apply ByteArray.ext
  simp [strOfNums, tx, e]
theorem mtGo_dec : ∀ (f k : Nat) (l : List UInt8), 0 < k → k ≤ f → mtGo f k (tx l) = tx (Lib.decDigits k ++ l) := by
  intro f
  induction f with
  | zero => intro k l h0 h; omega
  | succ f ih =>
    intro k l h0 h
    rw [mtGo, if_neg (by omega), digit_tx, tx_append, Lib.decDigits]
    by_cases h10 : k < 10
    · rw [dif_pos h10, show k / 10 = 0 by omega, mtGo_end, show k % 10 = k by omega]
    · rw [dif_neg h10, ih (k / 10) _ (by omega) (by omega)]
      simp

set_option maxHeartbeats 800000 in
theorem sdigits_pos (n : Nat) (w : World) (hn : n ≤ 4611686018427387904) :
    Calls Tryd.prog 13 #[.int .i64 n] w fun e w' => e = .returned (.string (tx (Lib.decDigits n))) ∧ Below w.heap.size w w' := by
  by_cases h0 : n = 0
  · subst h0
    have HD : Hid (tx (Lib.decDigits 0) = ⟨#[48]⟩) := by unfold Hid; rw [Lib.decDigits]; rfl
    go_enter Tryd.func13, Tryd.ntmps13
    go_wp2
    go_ret
    exact ⟨by rw [HD.out]; rfl, Below.refl _ _⟩
  · have HM : Hid (tx (Lib.decDigits n) = mtGo n n ⟨#[]⟩) := by
      unfold Hid
      have := mtGo_dec n n [] (by omega) (Nat.le_refl _)
      rw [List.append_nil] at this
      exact this.symm
    have hne : ((n : Int) == 0) = false := by simp; omega
    have hnl : decide ((n : Int) < 0) = false := by simp
    go_enter Tryd.func13, Tryd.ntmps13
    go_wp2_with fail
    go_loopg [0, 3] n (fun j q s wr => ∃ (f : Nat) (t : ByteArray), q = .int .i64 j ∧ s = .string t ∧ j ≤ f ∧ t.size + j ≤ n ∧ mtGo n n ⟨#[]⟩ = mtGo f j t ∧ Below w.heap.size w wr)
    case atStart => exact ⟨n, ⟨#[]⟩, rfl, rfl, by omega, by show 0 + n ≤ n; omega, rfl, Below.refl _ _⟩
    case round =>
      obtain ⟨f, t, rfl, rfl, hjf, hjn, HG', hb⟩ := hrel
      have HG : Hid (mtGo n n ⟨#[]⟩ = mtGo f gk t) := HG'
      clear HG'
      by_cases hj : 0 < gk
      · have hd := digit_size (48 + (gk : Int) % 10)
        have hadd : ∀ w : World, (Op.stringOp .add (strOfNums [48 + (gk : Int) % 10]) t).run Tryd.prog w = .ok (.string (strOfNums [48 + (gk : Int) % 10] ++ t)) w := fun w => run_string_add_sum w _ _ (by rw [hd]; omega)
        go_wp2_with (refine wpList_bytes_text _ rfl _ 46 9 5 rfl Tryd.underlying46 Tryd.underlying9 Tryd.underlying5 (some ⟨wr.heap.size, 0, none⟩) 1 1 [48 + (gk : Int) % 10] rfl rfl ?_ ?_)
        · intro _
          refine ⟨_, 0, rfl, fun i hi => ?_⟩
          have hi0 : i = 0 := by omega
          subst hi0
          simp
        · have hB := hb.alloc hb.size (Obj.cells #[Value.int .u8 (48 + (gk : Int) % 10)] 5)
          go_roundg (gk / 10)
          case measure => omega
          case rel =>
            refine ⟨f - 1, _, by rw [Int.natCast_ediv]; rfl, rfl, by omega, ?_, ?_, hB⟩
            · rw [ByteArray.size_append, digit_size]; omega
            · rw [HG.out, mtGo_step f gk t hj hjf]
      · have hj0 : gk = 0 := by omega
        subst hj0
        go_wp2_with fail
        go_ret
        refine ⟨?_, hb⟩
        rw [HM.out, HG.out, mtGo_end]
        rfl

set_option maxHeartbeats 800000 in
theorem sdigits_any (n : Int) (w : World) (hn : -1000000000 ≤ n ∧ n ≤ 1000000000) :
    Calls Tryd.prog 13 #[.int .i64 n] w fun e w' => e = .returned (.string (tx (Lib.itoa n))) ∧ Below w.heap.size w w' := by
  by_cases h0 : n < 0
  · have HI : Hid (Lib.itoa n = [45] ++ Lib.decDigits n.natAbs) := by unfold Hid Lib.itoa; rw [if_pos h0]; rfl
    have hlen := dec_len 9 n.natAbs (by omega)
    have hadd : ∀ w : World, (Op.stringOp .add ⟨#[45]⟩ (tx (Lib.decDigits n.natAbs))).run Tryd.prog w = .ok (.string (tx ([45] ++ Lib.decDigits n.natAbs))) w := fun w => addS [45] _ w (by simp; omega)
    have hm := sdigits_pos n.natAbs w (by omega)
    rw [show ((n.natAbs : Nat) : Int) = -n by omega] at hm
    clear hlen
    generalize Lib.decDigits n.natAbs = dd at *
    go_enter Tryd.func13, Tryd.ntmps13
    go_wp2_with fail
    refine hm.mono ?_
    rintro e w1 ⟨rfl, hb1⟩
    go_wp2_with fail
    go_ret
    exact ⟨retS (by rw [HI.out]; rfl), hb1⟩
  · obtain ⟨m, rfl⟩ := Int.eq_ofNat_of_zero_le (show 0 ≤ n by omega)
    have HI : Hid (Lib.itoa (m : Int) = Lib.decDigits m) := by unfold Hid Lib.itoa; rw [if_neg h0]; rfl
    rw [HI.out]
    exact sdigits_pos m w (by omega)
end Go.Proofs.YtkoiccocgejmcaaDoor
