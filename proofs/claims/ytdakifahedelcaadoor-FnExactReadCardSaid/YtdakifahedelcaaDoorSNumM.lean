/-
  Texts that stood by themselves, laid into one.
-/
import Derived.Test.YtdakifahedelcaaDoorTxtM
import Derived.Test.YtdakifahedelcaaDoorBsM
import Derived.Deep.LoopGhost
import Derived.Test.YtdakifahedelcaaDoorShapeM
import Derived.Test.YtdakifahedelcaaDoorMark2M
/-
  Which texts are numbers, and what a word means: plain mathematics. Nothing of the program; no condition.
-/
namespace Go.Proofs.YtdakifahedelcaaDoor
open Go.RowKit

/-- The number that digits tell, behind a. -/
def dval : List UInt8 → Nat → Nat
  | [], a => a
  | c :: l, a => dval l (10 * a + (c.toNat - 48))
theorem dval_append (l m : List UInt8) (a : Nat) : dval (l ++ m) a = dval m (dval l a) := by
  induction l generalizing a with
  | nil => rfl
  | cons c l ih => exact ih _
def isDig (c : UInt8) : Bool := decide (48 ≤ c.toNat) && decide (c.toNat ≤ 57)
theorem dig_toNat {d : Nat} (h : d < 10) : (UInt8.ofNat (48 + d)).toNat = 48 + d := by
  rw [UInt8.toNat_ofNat']
  omega
theorem dval_dec (n : Nat) : dval (Lib.decDigits n) 0 = n := by
  induction n using Nat.strongRecOn with
  | _ n ih =>
    rw [Lib.decDigits]
    split
    · rename_i h
      simp only [dval]
      rw [dig_toNat h]
      omega
    · rename_i h
      rw [dval_append, ih (n / 10) (by omega)]
      simp only [dval]
      rw [dig_toNat (by omega)]
      omega
theorem dec_dig (n : Nat) : ∀ c ∈ Lib.decDigits n, isDig c = true := by
  induction n using Nat.strongRecOn with
  | _ n ih =>
    rw [Lib.decDigits]
    split
    · rename_i h
      intro c hc
      rw [List.mem_singleton] at hc
      subst hc
      simp only [isDig, dig_toNat h, Bool.and_eq_true, decide_eq_true_eq]
      omega
    · rename_i h
      intro c hc
      rw [List.mem_append, List.mem_singleton] at hc
      rcases hc with hc | rfl
      · exact ih (n / 10) (by omega) c hc
      · simp only [isDig, dig_toNat (show n % 10 < 10 by omega), Bool.and_eq_true, decide_eq_true_eq]
        omega
theorem dec_ne (n : Nat) : Lib.decDigits n ≠ [] := by
  rw [Lib.decDigits]
  split <;> simp
theorem dval_lt (l : List UInt8) : ∀ a, (∀ c ∈ l, isDig c = true) → dval l a < (a + 1) * 10 ^ l.length := by
  induction l with
  | nil => intro a _; simp [dval]
  | cons c l ih =>
    intro a h
    have hc := h c (by simp)
    simp only [isDig, Bool.and_eq_true, decide_eq_true_eq] at hc
    have := ih (10 * a + (c.toNat - 48)) (fun d hd => h d (by simp [hd]))
    simp only [dval, List.length_cons, Nat.pow_succ]
    refine Nat.lt_of_lt_of_le this ?_
    have h2 : 10 * a + (c.toNat - 48) + 1 ≤ (a + 1) * 10 := by omega
    calc (10 * a + (c.toNat - 48) + 1) * 10 ^ l.length ≤ (a + 1) * 10 * 10 ^ l.length := Nat.mul_le_mul_right _ h2
      _ = (a + 1) * (10 ^ l.length * 10) := by rw [Nat.mul_assoc, Nat.mul_comm 10 (10 ^ l.length)]

/-- The digits of a text behind its sign. -/
def body : List UInt8 → List UInt8
  | c :: d :: r => if c = 45 then d :: r else c :: d :: r
  | l => l
theorem dec_head {n : Nat} {c : UInt8} {r : List UInt8} (h : Lib.decDigits n = c :: r) : ¬ c = 45 := by
  intro e
  have := dec_dig n c (by rw [h]; simp)
  subst e
  simp [isDig] at this
theorem body_neg (n : Nat) : body (45 :: Lib.decDigits n) = Lib.decDigits n := by
  cases h : Lib.decDigits n with
  | nil => exact absurd h (dec_ne n)
  | cons d r => simp [body]
theorem body_pos (n : Nat) : body (Lib.decDigits n) = Lib.decDigits n := by
  cases h : Lib.decDigits n with
  | nil => exact absurd h (dec_ne n)
  | cons d r =>
    cases r with
    | nil => rfl
    | cons d' r' => simp [body, dec_head h]
/-- What a text's digits tell, with its sign. -/
def tval (l : List UInt8) : Int := if (body l).length = l.length then (dval (body l) 0 : Nat) else -((dval (body l) 0 : Nat) : Int)
theorem tval_itoa (x : Int) : tval (Lib.itoa x) = x := by
  unfold tval Lib.itoa
  split
  · rename_i h
    rw [body_neg, dval_dec, if_neg (by simp)]
    omega
  · rename_i h
    rw [body_pos, if_pos rfl, dval_dec]
    omega
theorem itoa_body (x : Int) (h : -1000000000 ≤ x ∧ x ≤ 1000000000) : (∀ c ∈ body (Lib.itoa x), isDig c = true) ∧ body (Lib.itoa x) ≠ [] ∧ (body (Lib.itoa x)).length ≤ 10 := by
  unfold Lib.itoa
  split
  · rw [body_neg]
    exact ⟨dec_dig _, dec_ne _, dec_len 9 _ (by omega)⟩
  · rw [body_pos]
    exact ⟨dec_dig _, dec_ne _, dec_len 9 _ (by omega)⟩

/-- The text is a number. -/
def numB (l : List UInt8) : Bool := decide (-1000000000 ≤ tval l) && decide (tval l ≤ 1000000000) && (Lib.itoa (tval l) == l)
theorem numB_iff (l : List UInt8) : numB l = true ↔ ∃ x : Int, (-1000000000 ≤ x ∧ x ≤ 1000000000) ∧ Lib.itoa x = l := by
  unfold numB
  simp only [Bool.and_eq_true, decide_eq_true_eq, beq_iff_eq]
  constructor
  · rintro ⟨h, e⟩; exact ⟨tval l, h, e⟩
  · rintro ⟨x, h, rfl⟩
    rw [tval_itoa]
    exact ⟨h, rfl⟩
theorem numB_body {l : List UInt8} (h : numB l = true) : (∀ c ∈ body l, isDig c = true) ∧ body l ≠ [] ∧ (body l).length ≤ 10 := by
  obtain ⟨x, hx, rfl⟩ := (numB_iff l).1 h
  exact itoa_body x hx
end Go.Proofs.YtdakifahedelcaaDoor

/-
  The contract of spec.l3Digits: a number's digits are those of strconv.Itoa. No condition beyond its size.
-/
namespace Go.Proofs.YtdakifahedelcaaDoor
open Go.RowKit

/-- A text of bytes. -/
def tx (l : List UInt8) : ByteArray := ⟨l.toArray⟩
theorem tx_list (l : List UInt8) : (tx l).data.toList = l := by simp [tx]
theorem tx_size (l : List UInt8) : (tx l).size = l.length := by simp [tx, ByteArray.size]
theorem tx_append (a b : List UInt8) : tx a ++ tx b = tx (a ++ b) := by
  apply ByteArray.ext
  simp [tx, ByteArray.data_append]
theorem retS {a b : ByteArray} (h : a = b) : Ending.returned (.string a) = .returned (.string b) := by rw [h]
theorem addS (a b : List UInt8) (w : World) (h : a.length + b.length ≤ 1000000) : (Op.stringOp .add (tx a) (tx b)).run Tryd.prog w = .ok (.string (tx (a ++ b))) w := by
  rw [run_string_add_sum w _ _ (by rw [tx_size, tx_size]; omega), tx_append]

theorem digit_tx (j : Nat) : strOfNums [48 + (j : Int) % 10] = tx [UInt8.ofNat (48 + j % 10)] := by
  have e : (48 + (j : Int) % 10).toNat = 48 + j % 10 := by omega
  apply ByteArray.ext
  simp [strOfNums, tx, e]
theorem mtGo_dec : ∀ (f k : Nat) (l : List UInt8), 0 < k → k ≤ f → mtGo f k (tx l) = tx (Lib.decDigits k ++ l) := by
  intro f
  induction f with
  | zero => intro k l h0 h; omega
  | succ f ih =>
    intro k l h0 h
    rw [mtGo, if_neg (by omega), digit_tx, tx_append, Lib.decDigits]
    by_cases h10 : k < 10
    · rw [dif_pos h10, show k / 10 = 0 by omega, mtGo_end, show k % 10 = k by omega]
    · rw [dif_neg h10, ih (k / 10) _ (by omega) (by omega)]
      simp

set_option maxHeartbeats 800000 in
theorem sdigits_pos (n : Nat) (w : World) (hn : n ≤ 4611686018427387904) :
    Calls Tryd.prog 78 #[.int .i64 n] w fun e w' => e = .returned (.string (tx (Lib.decDigits n))) ∧ Below w.heap.size w w' := by
  by_cases h0 : n = 0
  · subst h0
    have HD : Hid (tx (Lib.decDigits 0) = ⟨#[48]⟩) := by unfold Hid; rw [Lib.decDigits]; rfl
    go_enter Tryd.func78, Tryd.ntmps78
    go_wp2
    go_ret
    exact ⟨by rw [HD.out]; rfl, Below.refl _ _⟩
  · have HM : Hid (tx (Lib.decDigits n) = mtGo n n ⟨#[]⟩) := by
      unfold Hid
      have := mtGo_dec n n [] (by omega) (Nat.le_refl _)
      rw [List.append_nil] at this
      exact this.symm
    have hne : ((n : Int) == 0) = false := by simp; omega
    have hnl : decide ((n : Int) < 0) = false := by simp
    go_enter Tryd.func78, Tryd.ntmps78
    go_wp2_with fail
    go_loopg [0, 3] n (fun j q s wr => ∃ (f : Nat) (t : ByteArray), q = .int .i64 j ∧ s = .string t ∧ j ≤ f ∧ t.size + j ≤ n ∧ mtGo n n ⟨#[]⟩ = mtGo f j t ∧ Below w.heap.size w wr)
    case atStart => exact ⟨n, ⟨#[]⟩, rfl, rfl, by omega, by show 0 + n ≤ n; omega, rfl, Below.refl _ _⟩
    case round =>
      obtain ⟨f, t, rfl, rfl, hjf, hjn, HG', hb⟩ := hrel
      have HG : Hid (mtGo n n ⟨#[]⟩ = mtGo f gk t) := HG'
      clear HG'
      by_cases hj : 0 < gk
      · have hd := digit_size (48 + (gk : Int) % 10)
        have hadd : ∀ w : World, (Op.stringOp .add (strOfNums [48 + (gk : Int) % 10]) t).run Tryd.prog w = .ok (.string (strOfNums [48 + (gk : Int) % 10] ++ t)) w := fun w => run_string_add_sum w _ _ (by rw [hd]; omega)
        go_wp2_with (refine wpList_bytes_text _ rfl _ 22 9 5 rfl Tryd.underlying22 Tryd.underlying9 Tryd.underlying5 (some ⟨wr.heap.size, 0, none⟩) 1 1 [48 + (gk : Int) % 10] rfl rfl ?_ ?_)
        · intro _
          refine ⟨_, 0, rfl, fun i hi => ?_⟩
          have hi0 : i = 0 := by omega
          subst hi0
          simp
        · have hB := hb.alloc hb.size (Obj.cells #[Value.int .u8 (48 + (gk : Int) % 10)] 5)
          go_roundg (gk / 10)
          case measure => omega
          case rel =>
            refine ⟨f - 1, _, by rw [Int.natCast_ediv]; rfl, rfl, by omega, ?_, ?_, hB⟩
            · rw [ByteArray.size_append, digit_size]; omega
            · rw [HG.out, mtGo_step f gk t hj hjf]
      · have hj0 : gk = 0 := by omega
        subst hj0
        go_wp2_with fail
        go_ret
        refine ⟨?_, hb⟩
        rw [HM.out, HG.out, mtGo_end]
        rfl

set_option maxHeartbeats 800000 in
theorem sdigits_any (n : Int) (w : World) (hn : -1000000000 ≤ n ∧ n ≤ 1000000000) :
    Calls Tryd.prog 78 #[.int .i64 n] w fun e w' => e = .returned (.string (tx (Lib.itoa n))) ∧ Below w.heap.size w w' := by
  by_cases h0 : n < 0
  · have HI : Hid (Lib.itoa n = [45] ++ Lib.decDigits n.natAbs) := by unfold Hid Lib.itoa; rw [if_pos h0]; rfl
    have hlen := dec_len 9 n.natAbs (by omega)
    have hadd : ∀ w : World, (Op.stringOp .add ⟨#[45]⟩ (tx (Lib.decDigits n.natAbs))).run Tryd.prog w = .ok (.string (tx ([45] ++ Lib.decDigits n.natAbs))) w := fun w => addS [45] _ w (by simp; omega)
    have hm := sdigits_pos n.natAbs w (by omega)
    rw [show ((n.natAbs : Nat) : Int) = -n by omega] at hm
    clear hlen
    generalize Lib.decDigits n.natAbs = dd at *
    go_enter Tryd.func78, Tryd.ntmps78
    go_wp2_with fail
    refine hm.mono ?_
    rintro e w1 ⟨rfl, hb1⟩
    go_wp2_with fail
    go_ret
    exact ⟨retS (by rw [HI.out]; rfl), hb1⟩
  · obtain ⟨m, rfl⟩ := Int.eq_ofNat_of_zero_le (show 0 ≤ n by omega)
    have HI : Hid (Lib.itoa (m : Int) = Lib.decDigits m) := by unfold Hid Lib.itoa; rw [if_neg h0]; rfl
    rw [HI.out]
    exact sdigits_pos m w (by omega)
end Go.Proofs.YtdakifahedelcaaDoor

/-
  The contracts of spec.l3Digit, l3WordByte, l3Num and l3Word. No condition beyond a text's length.
-/
namespace Go.Proofs.YtdakifahedelcaaDoor
open Go.RowKit

def digB (b : Int) : Bool := decide (48 ≤ b) && decide (b ≤ 57)
/-- A byte of a word. -/
def wb (b : Int) : Bool := nb b || digB b || b == 35

set_option maxHeartbeats 400000 in
theorem sdigit_any (b : Int) (w : World) : Calls Tryd.prog 73 #[.int .u8 b] w fun e w' => e = .returned (.bool (digB b)) ∧ w' = w := by
  go_enter Tryd.func73, Tryd.ntmps73
  go_wp2
  all_goals
    go_ret
    refine ⟨retB ?_, rfl⟩
    unfold digB
    first | (simp [*]; done) | (simp [*]; omega)

set_option maxHeartbeats 400000 in
theorem swordbyte_any (b : Int) (w : World) : Calls Tryd.prog 49 #[.int .u8 b] w fun e w' => e = .returned (.bool (wb b)) ∧ w' = w := by
  go_enter Tryd.func49, Tryd.ntmps49
  go_wp2_with fail
  refine (snb_any b _).mono ?_
  rintro e w1 ⟨rfl, rfl⟩
  cases h : nb b with
  | true =>
    go_wp2_with fail
    go_ret
    exact ⟨retB (by simp [wb, h]), rfl⟩
  | false =>
    go_wp2_with fail
    refine (sdigit_any b _).mono ?_
    rintro e w1 ⟨rfl, rfl⟩
    cases h2 : digB b with
    | true =>
      go_wp2_with fail
      go_ret
      exact ⟨retB (by simp [wb, h, h2]), rfl⟩
    | false =>
      go_wp2_with fail
      go_ret
      exact ⟨retB (by simp [wb, h, h2]), rfl⟩

set_option maxHeartbeats 800000 in
theorem sdigits_wide (n : Int) (w : World) (hn : -99999999999 ≤ n ∧ n ≤ 99999999999) :
    Calls Tryd.prog 78 #[.int .i64 n] w fun e w' => e = .returned (.string (tx (Lib.itoa n))) ∧ Below w.heap.size w w' := by
  by_cases h0 : n < 0
  · have HI : Hid (Lib.itoa n = [45] ++ Lib.decDigits n.natAbs) := by unfold Hid Lib.itoa; rw [if_pos h0]; rfl
    have hlen := dec_len 11 n.natAbs (by omega)
    have hadd : ∀ w : World, (Op.stringOp .add ⟨#[45]⟩ (tx (Lib.decDigits n.natAbs))).run Tryd.prog w = .ok (.string (tx ([45] ++ Lib.decDigits n.natAbs))) w := fun w => addS [45] _ w (by simp; omega)
    have hm := sdigits_pos n.natAbs w (by omega)
    rw [show ((n.natAbs : Nat) : Int) = -n by omega] at hm
    clear hlen
    generalize Lib.decDigits n.natAbs = dd at *
    go_enter Tryd.func78, Tryd.ntmps78
    go_wp2_with fail
    refine hm.mono ?_
    rintro e w1 ⟨rfl, hb1⟩
    go_wp2_with fail
    go_ret
    exact ⟨retS (by rw [HI.out]; rfl), hb1⟩
  · obtain ⟨m, rfl⟩ := Int.eq_ofNat_of_zero_le (show 0 ≤ n by omega)
    have HI : Hid (Lib.itoa (m : Int) = Lib.decDigits m) := by unfold Hid Lib.itoa; rw [if_neg h0]; rfl
    rw [HI.out]
    exact sdigits_pos m w (by omega)

theorem get_list (s : ByteArray) (k : Nat) (h : k < s.size) : s.data.toList[k]? = some s[k] := by
  have h' : k < s.data.size := h
  rw [Array.getElem?_toList, Array.getElem?_eq_getElem h']
  rfl
theorem dval_take (l : List UInt8) (k : Nat) (c : UInt8) (h : l[k]? = some c) : dval (l.take (k + 1)) 0 = 10 * dval (l.take k) 0 + (c.toNat - 48) := by
  obtain ⟨hl, he⟩ := List.getElem?_eq_some_iff.1 h
  rw [List.take_succ_eq_append_getElem hl, dval_append, he]
  rfl
end Go.Proofs.YtdakifahedelcaaDoor
