/-
  The contracts of spec.l3Digit, l3WordByte, l3Num and l3Word. No condition beyond a text's length.
-/
import Derived.Test.YtkoiccocgejmcaaDoorWNum
import Derived.Test.YtkoiccocgejmcaaDoorSDig
import Derived.Test.YtkoiccocgejmcaaDoorName
import Derived.Test.YtkoiccocgejmcaaDoorGrow
namespace Go.Proofs.YtkoiccocgejmcaaDoor
open Go.RowKit

def digB (b : Int) : Bool := decide (48 ≤ b) && decide (b ≤ 57)
/-- A byte of a word. -/
def wb (b : Int) : Bool := nb b || digB b || b == 35

set_option maxHeartbeats 400000 in
theorem sdigit_any (b : Int) (w : World) : Calls Tryd.prog 29 #[.int .u8 b] w fun e w' => e = .returned (.bool (digB b)) ∧ w' = w := by
  go_enter Tryd.func29, Tryd.ntmps29
  go_wp2
  all_goals
    go_ret
    refine ⟨retB ?_, rfl⟩
    unfold digB
    first | (simp [*]; done) | (simp [*]; omega)

set_option maxHeartbeats 800000 in
theorem sdigits_wide (n : Int) (w : World) (hn : -99999999999 ≤ n ∧ n ≤ 99999999999) :
    Calls Tryd.prog 13 #[.int .i64 n] w fun e w' => e = .returned (.string (tx (Lib.itoa n))) ∧ Below w.heap.size w w' := by
  by_cases h0 : n < 0
  · have HI : Hid (Lib.itoa n = [45] ++ Lib.decDigits n.natAbs) := by unfold Hid Lib.itoa; rw [if_pos h0]; rfl
    have hlen := dec_len 11 n.natAbs (by omega)
    have hadd : ∀ w : World, (Op.stringOp .add ⟨#[45]⟩ (tx (Lib.decDigits n.natAbs))).run Tryd.prog w = .ok (.string (tx ([45] ++ Lib.decDigits n.natAbs))) w := fun w => addS [45] _ w (by simp; omega)
    have hm := sdigits_pos n.natAbs w (by omega)
    rw [show ((n.natAbs : Nat) : Int) = -n by omega] at hm
    clear hlen
    generalize Lib.decDigits n.natAbs = dd at *
    go_enter Tryd.func13, Tryd.ntmps13
    go_wp2_with fail
    refine hm.mono ?_
    rintro e w1 ⟨rfl, hb1⟩
    go_wp2_with fail
    go_ret
    exact ⟨retS (by rw [HI.out]; rfl), hb1⟩
  · obtain ⟨m, rfl⟩ := Int.eq_ofNat_of_zero_le (show 0 ≤ n by omega)
    have HI : Hid (Lib.itoa (m : Int) = Lib.decDigits m) := by unfold Hid Lib.itoa; rw [if_neg h0]; rfl
    rw [HI.out]
    exact sdigits_pos m w (by omega)

theorem get_list (s : ByteArray) (k : Nat) (h : k < s.size) : s.data.toList[k]? = some s[k] := by
  have h' : k < s.data.size := h
  rw [Array.getElem?_toList, Array.getElem?_eq_getElem h']
  rfl
theorem dval_take (l : List UInt8) (k : Nat) (c : UInt8) (h : l[k]? = some c) : dval (l.take (k + 1)) 0 = 10 * dval (l.take k) 0 + (c.toNat - 48) := by
  obtain ⟨hl, he⟩ := List.getElem?_eq_some_iff.1 h
  rw [List.take_succ_eq_append_getElem hl, dval_append, he]
  rfl
end Go.Proofs.YtkoiccocgejmcaaDoor
