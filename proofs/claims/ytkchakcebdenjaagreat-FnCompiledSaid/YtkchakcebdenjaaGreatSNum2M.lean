/-
  Texts that stood by themselves, laid into one.
-/
import Derived.Test.YtkchakcebdenjaaGreatTxtM
import Derived.Test.YtkchakcebdenjaaGreatBsM
import Derived.Deep.LoopGhost
import Derived.Test.YtkchakcebdenjaaGreatDraw6M
import Derived.Test.YtkchakcebdenjaaGreatShapeM
import Derived.Test.YtkchakcebdenjaaGreatStore2M
import Derived.Deep.CutRange
import Derived.Deep.DeepCutAuto
import Derived.Deep.RegionHeld
/-
  The contract of spec.l3Digits: a number's digits are those of strconv.Itoa. No condition beyond its size.
-/
namespace Go.Proofs.YtkchakcebdenjaaGreat
open Go.RowKit
def tx (l : List UInt8) : ByteArray := ⟨l.toArray⟩
theorem tx_list (l : List UInt8) : (tx l).data.toList = l := by simp [tx]
theorem tx_size (l : List UInt8) : (tx l).size = l.length := by simp [tx, ByteArray.size]
theorem tx_append (a b : List UInt8) : tx a ++ tx b = tx (a ++ b) := by
  apply ByteArray.ext
  simp [tx, ByteArray.data_append]
theorem retS {a b : ByteArray} (h : a = b) : Ending.returned (.string a) = .returned (.string b) := by rw [h]
theorem addS (a b : List UInt8) (w : World) (h : a.length + b.length ≤ 1000000) : (Op.stringOp .add (tx a) (tx b)).run Tryz.prog w = .ok (.string (tx (a ++ b))) w := by
  rw [run_string_add_sum w _ _ (by rw [tx_size, tx_size]; omega), tx_append]
theorem digit_tx (j : Nat) : strOfNums [48 + (j : Int) % 10] = tx [UInt8.ofNat (48 + j % 10)] := by
  have e : (48 + (j : Int) % 10).toNat = 48 + j % 10 := by omega
  apply ByteArray.ext
  simp [strOfNums, tx, e]
theorem mtGo_dec : ∀ (f k : Nat) (l : List UInt8), 0 < k → k ≤ f → mtGo f k (tx l) = tx (Lib.decDigits k ++ l) := by
  intro f
  induction f with
  | zero => intro k l h0 h; omega
  | succ f ih =>
    intro k l h0 h
    rw [mtGo, if_neg (by omega), digit_tx, tx_append, Lib.decDigits]
    by_cases h10 : k < 10
    · rw [dif_pos h10, show k / 10 = 0 by omega, mtGo_end, show k % 10 = k by omega]
    · rw [dif_neg h10, ih (k / 10) _ (by omega) (by omega)]
      simp
set_option maxHeartbeats 800000 in
theorem sdigits_pos (n : Nat) (w : World) (hn : n ≤ 4611686018427387904) :
    Calls Tryz.prog 121 #[.int .i64 n] w fun e w' => e = .returned (.string (tx (Lib.decDigits n))) ∧ Below w.heap.size w w' := by
  by_cases h0 : n = 0
  · subst h0
    have HD : Hid (tx (Lib.decDigits 0) = ⟨#[48]⟩) := by unfold Hid; rw [Lib.decDigits]; rfl
    go_enter Tryz.func121, Tryz.ntmps121
    go_wp2
    go_ret
    exact ⟨by rw [HD.out]; rfl, Below.refl _ _⟩
  · have HM : Hid (tx (Lib.decDigits n) = mtGo n n ⟨#[]⟩) := by
      unfold Hid
      have := mtGo_dec n n [] (by omega) (Nat.le_refl _)
      rw [List.append_nil] at this
      exact this.symm
    have hne : ((n : Int) == 0) = false := by simp; omega
    have hnl : decide ((n : Int) < 0) = false := by simp
    go_enter Tryz.func121, Tryz.ntmps121
    go_wp2_with fail
    go_loopg [0, 3] n (fun j q s wr => ∃ (f : Nat) (t : ByteArray), q = .int .i64 j ∧ s = .string t ∧ j ≤ f ∧ t.size + j ≤ n ∧ mtGo n n ⟨#[]⟩ = mtGo f j t ∧ Below w.heap.size w wr)
    case atStart => exact ⟨n, ⟨#[]⟩, rfl, rfl, by omega, by show 0 + n ≤ n; omega, rfl, Below.refl _ _⟩
    case round =>
      obtain ⟨f, t, rfl, rfl, hjf, hjn, HG', hb⟩ := hrel
      have HG : Hid (mtGo n n ⟨#[]⟩ = mtGo f gk t) := HG'
      clear HG'
      by_cases hj : 0 < gk
      · have hd := digit_size (48 + (gk : Int) % 10)
        have hadd : ∀ w : World, (Op.stringOp .add (strOfNums [48 + (gk : Int) % 10]) t).run Tryz.prog w = .ok (.string (strOfNums [48 + (gk : Int) % 10] ++ t)) w := fun w => run_string_add_sum w _ _ (by rw [hd]; omega)
        go_wp2_with (refine wpList_bytes_text _ rfl _ 45 9 5 rfl Tryz.underlying45 Tryz.underlying9 Tryz.underlying5 (some ⟨wr.heap.size, 0, none⟩) 1 1 [48 + (gk : Int) % 10] rfl rfl ?_ ?_)
        · intro _
          refine ⟨_, 0, rfl, fun i hi => ?_⟩
          have hi0 : i = 0 := by omega
          subst hi0
          simp
        · have hB := hb.alloc hb.size (Obj.cells #[Value.int .u8 (48 + (gk : Int) % 10)] 5)
          go_roundg (gk / 10)
          case measure => omega
          case rel =>
            refine ⟨f - 1, _, by rw [Int.natCast_ediv]; rfl, rfl, by omega, ?_, ?_, hB⟩
            · rw [ByteArray.size_append, digit_size]; omega
            · rw [HG.out, mtGo_step f gk t hj hjf]
      · have hj0 : gk = 0 := by omega
        subst hj0
        go_wp2_with fail
        go_ret
        refine ⟨?_, hb⟩
        rw [HM.out, HG.out, mtGo_end]
        rfl
end Go.Proofs.YtkchakcebdenjaaGreat
/-
  The contract of spec.l3DrawText: a text as a value may be written. No condition beyond how deep it is.
-/
namespace Go.Proofs.YtkchakcebdenjaaGreat
open Go.RowKit
theorem addB (a b : ByteArray) (w : World) (h : a.size + b.size ≤ 1000000) : (Op.stringOp .add a b).run Tryz.prog w = .ok (.string (a ++ b)) w := by
  have e := addS a.data.toList b.data.toList w (by simpa using h)
  have t : ∀ c : ByteArray, tx c.data.toList = c := fun c => by apply ByteArray.ext; simp [tx]
  rw [t, t] at e
  rw [e]
  congr 2
def picks13 : List ByteArray := [⟨#[97]⟩, ⟨#[98, 99]⟩, ⟨#[49, 50]⟩, ⟨#[45, 51]⟩, ⟨#[48]⟩, ⟨#[35, 116]⟩, ⟨#[35, 102]⟩, ⟨#[40, 41]⟩, ⟨#[43]⟩, ⟨#[105, 102]⟩, ⟨#[120]⟩, ⟨#[110, 117, 108, 108, 63]⟩, ⟨#[49, 48, 48, 48, 48, 48, 48, 48, 48, 48]⟩]
def picksB : List ByteArray := [⟨#[32]⟩, ⟨#[32]⟩, ⟨#[32, 32]⟩]
def tB : Nat → Nat
  | 0 => 10
  | d + 1 => 12 + 4 * (tB d + 2)
end Go.Proofs.YtkchakcebdenjaaGreat
/-
  Which texts are numbers, and what a word means: plain mathematics. Nothing of the program; no condition.
-/
namespace Go.Proofs.YtkchakcebdenjaaGreat
open Go.RowKit
def dval : List UInt8 → Nat → Nat
  | [], a => a
  | c :: l, a => dval l (10 * a + (c.toNat - 48))
theorem dval_append (l m : List UInt8) (a : Nat) : dval (l ++ m) a = dval m (dval l a) := by
  induction l generalizing a with
  | nil => rfl
  | cons c l ih => exact ih _
def isDig (c : UInt8) : Bool := decide (48 ≤ c.toNat) && decide (c.toNat ≤ 57)
theorem dig_toNat {d : Nat} (h : d < 10) : (UInt8.ofNat (48 + d)).toNat = 48 + d := by
  rw [UInt8.toNat_ofNat']
  omega
theorem dval_dec (n : Nat) : dval (Lib.decDigits n) 0 = n := by
  induction n using Nat.strongRecOn with
  | _ n ih =>
    rw [Lib.decDigits]
    split
    · rename_i h
      simp only [dval]
      rw [dig_toNat h]
      omega
    · rename_i h
      rw [dval_append, ih (n / 10) (by omega)]
      simp only [dval]
      rw [dig_toNat (by omega)]
      omega
theorem dec_dig (n : Nat) : ∀ c ∈ Lib.decDigits n, isDig c = true := by
  induction n using Nat.strongRecOn with
  | _ n ih =>
    rw [Lib.decDigits]
    split
    · rename_i h
      intro c hc
      rw [List.mem_singleton] at hc
      subst hc
      simp only [isDig, dig_toNat h, Bool.and_eq_true, decide_eq_true_eq]
      omega
    · rename_i h
      intro c hc
      rw [List.mem_append, List.mem_singleton] at hc
      rcases hc with hc | rfl
      · exact ih (n / 10) (by omega) c hc
      · simp only [isDig, dig_toNat (show n % 10 < 10 by omega), Bool.and_eq_true, decide_eq_true_eq]
        omega
theorem dec_ne (n : Nat) : Lib.decDigits n ≠ [] := by
  rw [Lib.decDigits]
  split <;> simp
theorem dval_lt (l : List UInt8) : ∀ a, (∀ c ∈ l, isDig c = true) → dval l a < (a + 1) * 10 ^ l.length := by
  induction l with
  | nil => intro a _; simp [dval]
  | cons c l ih =>
    intro a h
    have hc := h c (by simp)
    simp only [isDig, Bool.and_eq_true, decide_eq_true_eq] at hc
    have := ih (10 * a + (c.toNat - 48)) (fun d hd => h d (by simp [hd]))
    simp only [dval, List.length_cons, Nat.pow_succ]
    refine Nat.lt_of_lt_of_le this ?_
    have h2 : 10 * a + (c.toNat - 48) + 1 ≤ (a + 1) * 10 := by omega
    calc (10 * a + (c.toNat - 48) + 1) * 10 ^ l.length ≤ (a + 1) * 10 * 10 ^ l.length := Nat.mul_le_mul_right _ h2
      _ = (a + 1) * (10 ^ l.length * 10) := by rw [Nat.mul_assoc, Nat.mul_comm 10 (10 ^ l.length)]
def body : List UInt8 → List UInt8
  | c :: d :: r => if c = 45 then d :: r else c :: d :: r
  | l => l
theorem dec_head {n : Nat} {c : UInt8} {r : List UInt8} (h : Lib.decDigits n = c :: r) : ¬ c = 45 := by
  intro e
  have := dec_dig n c (by rw [h]; simp)
  subst e
  simp [isDig] at this
theorem body_neg (n : Nat) : body (45 :: Lib.decDigits n) = Lib.decDigits n := by
  cases h : Lib.decDigits n with
  | nil => exact absurd h (dec_ne n)
  | cons d r => simp [body]
theorem body_pos (n : Nat) : body (Lib.decDigits n) = Lib.decDigits n := by
  cases h : Lib.decDigits n with
  | nil => exact absurd h (dec_ne n)
  | cons d r =>
    cases r with
    | nil => rfl
    | cons d' r' => simp [body, dec_head h]
def tval (l : List UInt8) : Int := if (body l).length = l.length then (dval (body l) 0 : Nat) else -((dval (body l) 0 : Nat) : Int)
theorem tval_itoa (x : Int) : tval (Lib.itoa x) = x := by
  unfold tval Lib.itoa
  split
  · rename_i h
    rw [body_neg, dval_dec, if_neg (by simp)]
    omega
  · rename_i h
    rw [body_pos, if_pos rfl, dval_dec]
    omega
theorem itoa_body (x : Int) (h : -1000000000 ≤ x ∧ x ≤ 1000000000) : (∀ c ∈ body (Lib.itoa x), isDig c = true) ∧ body (Lib.itoa x) ≠ [] ∧ (body (Lib.itoa x)).length ≤ 10 := by
  unfold Lib.itoa
  split
  · rw [body_neg]
    exact ⟨dec_dig _, dec_ne _, dec_len 9 _ (by omega)⟩
  · rw [body_pos]
    exact ⟨dec_dig _, dec_ne _, dec_len 9 _ (by omega)⟩
def numB (l : List UInt8) : Bool := decide (-1000000000 ≤ tval l) && decide (tval l ≤ 1000000000) && (Lib.itoa (tval l) == l)
theorem numB_iff (l : List UInt8) : numB l = true ↔ ∃ x : Int, (-1000000000 ≤ x ∧ x ≤ 1000000000) ∧ Lib.itoa x = l := by
  unfold numB
  simp only [Bool.and_eq_true, decide_eq_true_eq, beq_iff_eq]
  constructor
  · rintro ⟨h, e⟩; exact ⟨tval l, h, e⟩
  · rintro ⟨x, h, rfl⟩
    rw [tval_itoa]
    exact ⟨h, rfl⟩
theorem numB_body {l : List UInt8} (h : numB l = true) : (∀ c ∈ body l, isDig c = true) ∧ body l ≠ [] ∧ (body l).length ≤ 10 := by
  obtain ⟨x, hx, rfl⟩ := (numB_iff l).1 h
  exact itoa_body x hx
end Go.Proofs.YtkchakcebdenjaaGreat
/-
  The contracts of spec.l3Digit, l3WordByte, l3Num and l3Word. No condition beyond a text's length.
-/
namespace Go.Proofs.YtkchakcebdenjaaGreat
open Go.RowKit
def digB (b : Int) : Bool := decide (48 ≤ b) && decide (b ≤ 57)
def wb (b : Int) : Bool := nb b || digB b || b == 35
set_option maxHeartbeats 400000 in
theorem sdigit_any (b : Int) (w : World) : Calls Tryz.prog 103 #[.int .u8 b] w fun e w' => e = .returned (.bool (digB b)) ∧ w' = w := by
  go_enter Tryz.func103, Tryz.ntmps103
  go_wp2
  all_goals
    go_ret
    refine ⟨retB ?_, rfl⟩
    unfold digB
    first | (simp [*]; done) | (simp [*]; omega)
set_option maxHeartbeats 400000 in
theorem swordbyte_any (b : Int) (w : World) : Calls Tryz.prog 81 #[.int .u8 b] w fun e w' => e = .returned (.bool (wb b)) ∧ w' = w := by
  go_enter Tryz.func81, Tryz.ntmps81
  go_wp2_with fail
  refine (snb_any b _).mono ?_
  rintro e w1 ⟨rfl, rfl⟩
  cases h : nb b with
  | true =>
    go_wp2_with fail
    go_ret
    exact ⟨retB (by simp [wb, h]), rfl⟩
  | false =>
    go_wp2_with fail
    refine (sdigit_any b _).mono ?_
    rintro e w1 ⟨rfl, rfl⟩
    cases h2 : digB b with
    | true =>
      go_wp2_with fail
      go_ret
      exact ⟨retB (by simp [wb, h, h2]), rfl⟩
    | false =>
      go_wp2_with fail
      go_ret
      exact ⟨retB (by simp [wb, h, h2]), rfl⟩
set_option maxHeartbeats 800000 in
theorem sdigits_wide (n : Int) (w : World) (hn : -99999999999 ≤ n ∧ n ≤ 99999999999) :
    Calls Tryz.prog 121 #[.int .i64 n] w fun e w' => e = .returned (.string (tx (Lib.itoa n))) ∧ Below w.heap.size w w' := by
  by_cases h0 : n < 0
  · have HI : Hid (Lib.itoa n = [45] ++ Lib.decDigits n.natAbs) := by unfold Hid Lib.itoa; rw [if_pos h0]; rfl
    have hlen := dec_len 11 n.natAbs (by omega)
    have hadd : ∀ w : World, (Op.stringOp .add ⟨#[45]⟩ (tx (Lib.decDigits n.natAbs))).run Tryz.prog w = .ok (.string (tx ([45] ++ Lib.decDigits n.natAbs))) w := fun w => addS [45] _ w (by simp; omega)
    have hm := sdigits_pos n.natAbs w (by omega)
    rw [show ((n.natAbs : Nat) : Int) = -n by omega] at hm
    clear hlen
    generalize Lib.decDigits n.natAbs = dd at *
    go_enter Tryz.func121, Tryz.ntmps121
    go_wp2_with fail
    refine hm.mono ?_
    rintro e w1 ⟨rfl, hb1⟩
    go_wp2_with fail
    go_ret
    exact ⟨retS (by rw [HI.out]; rfl), hb1⟩
  · obtain ⟨m, rfl⟩ := Int.eq_ofNat_of_zero_le (show 0 ≤ n by omega)
    have HI : Hid (Lib.itoa (m : Int) = Lib.decDigits m) := by unfold Hid Lib.itoa; rw [if_neg h0]; rfl
    rw [HI.out]
    exact sdigits_pos m w (by omega)
theorem get_list (s : ByteArray) (k : Nat) (h : k < s.size) : s.data.toList[k]? = some s[k] := by
  have h' : k < s.data.size := h
  rw [Array.getElem?_toList, Array.getElem?_eq_getElem h']
  rfl
theorem dval_take (l : List UInt8) (k : Nat) (c : UInt8) (h : l[k]? = some c) : dval (l.take (k + 1)) 0 = 10 * dval (l.take k) 0 + (c.toNat - 48) := by
  obtain ⟨hl, he⟩ := List.getElem?_eq_some_iff.1 h
  rw [List.take_succ_eq_append_getElem hl, dval_append, he]
  rfl
end Go.Proofs.YtkchakcebdenjaaGreat
/-
  The contract of spec.l3Num. No condition beyond the text's length.
-/
namespace Go.Proofs.YtkchakcebdenjaaGreat
open Go.RowKit
theorem body_sign {l : List UInt8} (h : 1 < l.length) (h0 : l[0]? = some 45) : body l = l.drop 1 := by
  match l, h with
  | c :: d :: r, _ =>
    simp at h0
    subst h0
    rfl
theorem body_plain {l : List UInt8} (h : ¬ (1 < l.length ∧ l[0]? = some 45)) : body l = l := by
  match l with
  | [] => rfl
  | [c] => rfl
  | c :: d :: r =>
    simp at h
    simp [body, h]
theorem ext_drop (s : ByteArray) : (s.extract 1 s.size).data.toList = s.data.toList.drop 1 := by
  rw [ByteArray.data_extract, Array.toList_extract]
  simp [List.extract]
  rw [show s.size = s.data.toList.length by rw [Array.length_toList]; rfl]
  rw [List.take_of_length_le (by simp)]
set_option maxRecDepth 100000 in
set_option maxHeartbeats 1600000 in
theorem snum_any (s : ByteArray) (w : World) (hs : s.size ≤ maxLen) :
    Calls Tryz.prog 104 #[.string s] w fun e w' => ∃ x : Int, e = .returned (.tuple #[.int .i64 x, .bool (numB s.data.toList)]) ∧ (numB s.data.toList = true → x = tval s.data.toList) ∧ Below w.heap.size w w' := by
  unfold maxLen at hs
  have hll : s.data.toList.length = s.size := by rw [Array.length_toList]; rfl
  have HLL : Hid (s.data.toList.length = s.size) := hll
  go_enter Tryz.func104, Tryz.ntmps104
  go_upto_region 2 with fail
  go_cut [15] from 7 (fun s15 wx => wx = w ∧ ∃ bb : Bool, s15 = .bool bb ∧ (bb = true → 1 < s.size) ∧ Hid (bb = true → body s.data.toList = s.data.toList.drop 1) ∧ Hid (bb = false → body s.data.toList = s.data.toList))
  case first =>
    by_cases h1 : 1 < s.size
    · have h1' : (1 : Int) < s.size := by omega
      by_cases h45 : s[0].toNat = 45
      · have HB : Hid (body s.data.toList = s.data.toList.drop 1) := body_sign (by omega) (by rw [get_list s 0 (by omega)]; congr 1; exact UInt8.toNat_inj.1 h45)
        go_wp2_with fail
        go_meet
        case rel => exact ⟨rfl, true, rfl, fun _ => h1, fun _ => HB.out, fun h => by cases h⟩
      · have HB : Hid (body s.data.toList = s.data.toList) := body_plain (fun h => h45 (by
          have := h.2
          rw [get_list s 0 (by omega)] at this
          simp only [Option.some.injEq] at this
          rw [this]
          rfl))
        have h45' : ((s[0].toNat : Int) == 45) = false := by simp; omega
        go_wp2_with fail
        go_meet
        case rel => exact ⟨rfl, false, rfl, (fun h => by cases h), (fun h => by cases h), fun _ => HB.out⟩
    · have HB : Hid (body s.data.toList = s.data.toList) := body_plain (fun h => by have := h.1; omega)
      have h1' : ¬ (1 : Int) < s.size := by omega
      go_wp2_with fail
      go_meet
      case rel => exact ⟨rfl, false, rfl, (fun h => by cases h), (fun h => by cases h), fun _ => HB.out⟩
  case rest =>
    obtain ⟨rfl, bb, rfl, hb1, HT, HF⟩ := hcut
    go_upto_if 15 with fail
    go_cut [4] from 7 (fun s4 wx => wx = wc ∧ ∃ t : ByteArray, s4 = .string t ∧ t.size ≤ s.size ∧ Hid (t.data.toList = body s.data.toList))
    case first =>
      cases bb with
      | true =>
        have h1 := hb1 rfl
        have h1' : (1 : Int) ≤ s.size := by omega
        have HE : Hid ((s.extract 1 s.size).data.toList = body s.data.toList) := by unfold Hid; rw [HT.out rfl]; exact ext_drop s
        have hez : (s.extract 1 s.size).size ≤ s.size := by rw [ByteArray.size_extract]; omega
        go_wp2_with fail
        go_meet
        case rel => exact ⟨rfl, _, rfl, hez, HE⟩
      | false =>
        have HE : Hid (s.data.toList = body s.data.toList) := (HF.out rfl).symm
        go_wp2_with fail
        go_meet
        case rel => exact ⟨rfl, s, rfl, Nat.le_refl _, HE⟩
    case rest =>
      obtain ⟨rfl, t, rfl, hts, HE⟩ := hcut
      obtain ⟨w1, hw1⟩ : ∃ w1, w1 = wc := ⟨_, rfl⟩
      subst hw1
      have HTZ : Hid (t.size = (body s.data.toList).length) := by
        unfold Hid
        rw [← HE.out, Array.length_toList]
        rfl
      clear hb1 HT HF hll
      by_cases h10 : t.size ≤ 10
      · by_cases h0 : t.size = 0
        · have HN : Hid (numB s.data.toList = false) := by
            unfold Hid
            rw [Bool.eq_false_iff]
            intro h
            have := (numB_body h).2.1
            rw [← List.length_pos_iff, ← HTZ.out] at this
            omega
          have h0' : ((t.size : Int) == 0) = true := by rw [h0]; rfl
          have h10' : ¬ (10 : Int) < t.size := by omega
          go_wp2_with fail
          go_ret2
          exact ⟨0, by rw [HN.out]; rfl, fun h => by (rw [HN.out] at h; cases h), Below.refl _ _⟩
        · have h0' : ((t.size : Int) == 0) = false := by rw [beq_eq_false_iff_ne]; omega
          have h10' : ¬ (10 : Int) < t.size := by omega
          go_wp2_with fail
          go_loopg [5, 6] t.size (fun g x i wr => wr = w1 ∧ ∃ k : Nat, k ≤ t.size ∧ g = t.size - k ∧ i = .int .i64 k ∧ (∃ d : Nat, x = .int .i64 d ∧ d ≤ 9999999999 ∧ (k < 10 → d ≤ 999999999) ∧ d = dval ((body s.data.toList).take k) 0) ∧ ∀ c ∈ (body s.data.toList).take k, isDig c = true)
          case atStart => exact ⟨rfl, 0, by omega, by omega, rfl, ⟨0, rfl, by omega, (fun _ => by omega), rfl⟩, by simp⟩
          case round =>
            obtain ⟨rfl, k, hk, hgk, rfl, ⟨d, rfl, hd1, hd2, hd⟩, hall⟩ := hrel
            have HD : Hid (d = dval ((body s.data.toList).take k) 0) := hd
            have HA : Hid (∀ c ∈ (body s.data.toList).take k, isDig c = true) := hall
            clear hd hall
            by_cases hlt : k < t.size
            · have hkt : ((k : Int) < (t.size : Int)) := by omega
              have HG : Hid ((body s.data.toList)[k]? = some t[k]) := by unfold Hid; rw [← HE.out]; exact get_list t k hlt
              go_wp2_with fail
              refine (sdigit_any _ _).mono ?_
              rintro e w2 ⟨rfl, rfl⟩
              cases hdg : digB (t[k].toNat) with
              | true =>
                have hdn := hdg
                simp only [digB, Bool.and_eq_true, decide_eq_true_eq] at hdn
                have HA' : Hid (∀ c ∈ (body s.data.toList).take (k + 1), isDig c = true) := by
                  unfold Hid
                  obtain ⟨hl', he'⟩ := List.getElem?_eq_some_iff.1 HG.out
                  rw [List.take_succ_eq_append_getElem hl', he']
                  intro c hc
                  rw [List.mem_append, List.mem_singleton] at hc
                  rcases hc with hc | rfl
                  · exact HA.out c hc
                  · simp only [isDig, Bool.and_eq_true, decide_eq_true_eq]
                    omega
                have HD' : Hid (10 * d + (t[k].toNat - 48) = dval ((body s.data.toList).take (k + 1)) 0) := by unfold Hid; rw [dval_take _ k _ HG.out, ← HD.out]
                have hb1 : 10 * d + (t[k].toNat - 48) ≤ 9999999999 := by have := hd2 (by omega); omega
                have hb2 : k + 1 < 10 → 10 * d + (t[k].toNat - 48) ≤ 999999999 := fun h => by
                  rw [HD'.out]
                  have h1 := dval_lt _ 0 HA'.out
                  have h2 : (List.take (k + 1) (body s.data.toList)).length ≤ 9 := by rw [List.length_take]; omega
                  have h3 := Nat.pow_le_pow_right (show 0 < 10 by omega) h2
                  omega
                have HI : Hid ((10 * (d : Int) + (t[k].toNat : Int) - 48) = ((10 * d + (t[k].toNat - 48) : Nat) : Int)) := by unfold Hid; omega
                go_wp2_with fail
                go_roundg (t.size - (k + 1))
                case measure => omega
                case rel => exact ⟨rfl, k + 1, by omega, rfl, by go_num, ⟨10 * d + (t[k].toNat - 48), by rw [← HI.out], hb1, hb2, HD'.out⟩, HA'.out⟩
              | false =>
                have HN : Hid (numB s.data.toList = false) := by
                  unfold Hid
                  rw [Bool.eq_false_iff]
                  intro h
                  have h1 := (numB_body h).1 _ (List.mem_of_getElem? HG.out)
                  simp only [isDig, Bool.and_eq_true, decide_eq_true_eq] at h1
                  rw [Bool.eq_false_iff] at hdg
                  apply hdg
                  simp only [digB, Bool.and_eq_true, decide_eq_true_eq]
                  omega
                go_wp2_with fail
                go_ret2
                exact ⟨0, by rw [HN.out]; rfl, fun h => by (rw [HN.out] at h; cases h), Below.refl _ _⟩
            · have HDV : Hid (dval (body s.data.toList) 0 = d) := by
                unfold Hid
                rw [HD.out, List.take_of_length_le (by rw [← HTZ.out]; omega)]
              by_cases hsz : t.size = s.size
              · have hszn : ((t.size : Int) != (s.size : Int)) = false := by rw [hsz]; simp
                have HX : Hid (tval s.data.toList = (d : Int)) := by
                  unfold Hid tval
                  rw [HDV.out, if_pos (by rw [← HTZ.out, HLL.out]; omega)]
                have hxr : -99999999999 ≤ ((d : Int) : Int) ∧ ((d : Int) : Int) ≤ 99999999999 := by omega
                have HE1 : Hid (((tx (Lib.itoa ((d : Int)))).toList == s.toList) = (Lib.itoa ((d : Int)) == s.data.toList)) := by unfold Hid; rw [ByteArray.toList_eq, ByteArray.toList_eq, tx_list]
                have HNB : Hid (numB s.data.toList = (decide (-1000000000 ≤ ((d : Int) : Int)) && decide (((d : Int) : Int) ≤ 1000000000) && (Lib.itoa ((d : Int)) == s.data.toList))) := by unfold Hid numB; rw [HX.out]
                go_wp2_with fail
                refine (sdigits_wide _ _ hxr).mono ?_
                rintro e w2 ⟨rfl, hb2⟩
                cases hbb : ((tx (Lib.itoa ((d : Int)))).toList == s.toList) with
                | true =>
                  have HE2 : Hid ((Lib.itoa ((d : Int)) == s.data.toList) = true) := HE1.out.symm.trans hbb
                  clear HE1
                  go_wp2_with fail
                  refine (lin_any _ _ _ _).mono ?_
                  rintro e w3 ⟨rfl, rfl⟩
                  go_wp2_with fail
                  go_ret2
                  exact ⟨_, by rw [HNB.out, HE2.out, Bool.and_true]; rfl, (fun _ => HX.out.symm), hb2⟩
                | false =>
                  have HE2 : Hid ((Lib.itoa ((d : Int)) == s.data.toList) = false) := HE1.out.symm.trans hbb
                  clear HE1
                  go_wp2_with fail
                  go_ret2
                  exact ⟨_, by rw [HNB.out, HE2.out, Bool.and_false]; rfl, (fun _ => HX.out.symm), hb2⟩
              · have hszn : ((t.size : Int) != (s.size : Int)) = true := by simp; omega
                have HX : Hid (tval s.data.toList = -(d : Int)) := by
                  unfold Hid tval
                  rw [HDV.out, if_neg (by rw [← HTZ.out, HLL.out]; omega)]
                have hxr : -99999999999 ≤ (-(d : Int) : Int) ∧ (-(d : Int) : Int) ≤ 99999999999 := by omega
                have HE1 : Hid (((tx (Lib.itoa (-(d : Int)))).toList == s.toList) = (Lib.itoa (-(d : Int)) == s.data.toList)) := by unfold Hid; rw [ByteArray.toList_eq, ByteArray.toList_eq, tx_list]
                have HNB : Hid (numB s.data.toList = (decide (-1000000000 ≤ (-(d : Int) : Int)) && decide ((-(d : Int) : Int) ≤ 1000000000) && (Lib.itoa (-(d : Int)) == s.data.toList))) := by unfold Hid numB; rw [HX.out]
                have HQ : Hid ((decide (-1000000000 ≤ (-(d : Int) : Int)) && decide ((-(d : Int) : Int) ≤ 1000000000)) = decide ((d : Int) ≤ 1000000000)) := by unfold Hid; rw [Bool.eq_iff_iff, Bool.and_eq_true, decide_eq_true_iff, decide_eq_true_iff, decide_eq_true_iff]; omega
                go_wp2_with fail
                refine (sdigits_wide _ _ hxr).mono ?_
                rintro e w2 ⟨rfl, hb2⟩
                cases hbb : ((tx (Lib.itoa (-(d : Int)))).toList == s.toList) with
                | true =>
                  have HE2 : Hid ((Lib.itoa (-(d : Int)) == s.data.toList) = true) := HE1.out.symm.trans hbb
                  clear HE1
                  go_wp2_with fail
                  refine (lin_any _ _ _ _).mono ?_
                  rintro e w3 ⟨rfl, rfl⟩
                  go_wp2_with fail
                  go_ret2
                  exact ⟨_, by rw [HNB.out, HE2.out, Bool.and_true, HQ.out]; rfl, (fun _ => HX.out.symm), hb2⟩
                | false =>
                  have HE2 : Hid ((Lib.itoa (-(d : Int)) == s.data.toList) = false) := HE1.out.symm.trans hbb
                  clear HE1
                  go_wp2_with fail
                  go_ret2
                  exact ⟨_, by rw [HNB.out, HE2.out, Bool.and_false]; rfl, (fun _ => HX.out.symm), hb2⟩
      · have HN : Hid (numB s.data.toList = false) := by
          unfold Hid
          rw [Bool.eq_false_iff]
          intro h
          have := (numB_body h).2.2
          rw [← HTZ.out] at this
          omega
        have h10' : (10 : Int) < t.size := by omega
        go_wp2_with fail
        go_ret2
        exact ⟨0, by rw [HN.out]; rfl, fun h => by (rw [HN.out] at h; cases h), Below.refl _ _⟩
end Go.Proofs.YtkchakcebdenjaaGreat
