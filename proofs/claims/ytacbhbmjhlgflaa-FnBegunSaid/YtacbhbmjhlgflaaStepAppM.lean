/-
  Texts that stood by themselves, laid into one.
-/
import Derived.Test.YtacbhbmjhlgflaaSCp11M
import Derived.Test.YtacbhbmjhlgflaaShapeM
import Derived.Test.YtacbhbmjhlgflaaSMakeM
import Derived.Deep.LoopGhost
import Derived.Deep.CutRange
import Derived.Deep.DeepCutAuto
import Derived.Deep.RegionHeld
import Derived.Test.YtacbhbmjhlgflaaMkListM
import Derived.Test.YtacbhbmjhlgflaaSClsM
import Derived.WalkSmall
import Derived.Test.YtacbhbmjhlgflaaWithM
/-
  Which texts are numbers, and what a word means: plain mathematics. Nothing of the program; no condition.
-/
namespace Go.Proofs.Ytacbhbmjhlgflaa
open Go.RowKit

/-- The number that digits tell, behind a. -/
def dval : List UInt8 → Nat → Nat
  | [], a => a
  | c :: l, a => dval l (10 * a + (c.toNat - 48))
theorem dval_append (l m : List UInt8) (a : Nat) : dval (l ++ m) a = dval m (dval l a) := by
  induction l generalizing a with
  | nil => rfl
  | cons c l ih => exact ih _
def isDig (c : UInt8) : Bool := decide (48 ≤ c.toNat) && decide (c.toNat ≤ 57)
theorem dig_toNat {d : Nat} (h : d < 10) : (UInt8.ofNat (48 + d)).toNat = 48 + d := by
  rw [UInt8.toNat_ofNat']
  omega
theorem dval_dec (n : Nat) : dval (Lib.decDigits n) 0 = n := by
  induction n using Nat.strongRecOn with
  | _ n ih =>
    rw [Lib.decDigits]
    split
    · rename_i h
      simp only [dval]
      rw [dig_toNat h]
      omega
    · rename_i h
      rw [dval_append, ih (n / 10) (by omega)]
      simp only [dval]
      rw [dig_toNat (by omega)]
      omega
theorem dec_dig (n : Nat) : ∀ c ∈ Lib.decDigits n, isDig c = true := by
  induction n using Nat.strongRecOn with
  | _ n ih =>
    rw [Lib.decDigits]
    split
    · rename_i h
      intro c hc
      rw [List.mem_singleton] at hc
      subst hc
      simp only [isDig, dig_toNat h, Bool.and_eq_true, decide_eq_true_eq]
      omega
    · rename_i h
      intro c hc
      rw [List.mem_append, List.mem_singleton] at hc
      rcases hc with hc | rfl
      · exact ih (n / 10) (by omega) c hc
      · simp only [isDig, dig_toNat (show n % 10 < 10 by omega), Bool.and_eq_true, decide_eq_true_eq]
        omega
theorem dec_ne (n : Nat) : Lib.decDigits n ≠ [] := by
  rw [Lib.decDigits]
  split <;> simp
theorem dval_lt (l : List UInt8) : ∀ a, (∀ c ∈ l, isDig c = true) → dval l a < (a + 1) * 10 ^ l.length := by
  induction l with
  | nil => intro a _; simp [dval]
  | cons c l ih =>
    intro a h
    have hc := h c (by simp)
    simp only [isDig, Bool.and_eq_true, decide_eq_true_eq] at hc
    have := ih (10 * a + (c.toNat - 48)) (fun d hd => h d (by simp [hd]))
    simp only [dval, List.length_cons, Nat.pow_succ]
    refine Nat.lt_of_lt_of_le this ?_
    have h2 : 10 * a + (c.toNat - 48) + 1 ≤ (a + 1) * 10 := by omega
    calc (10 * a + (c.toNat - 48) + 1) * 10 ^ l.length ≤ (a + 1) * 10 * 10 ^ l.length := Nat.mul_le_mul_right _ h2
      _ = (a + 1) * (10 ^ l.length * 10) := by rw [Nat.mul_assoc, Nat.mul_comm 10 (10 ^ l.length)]

/-- The digits of a text behind its sign. -/
def body : List UInt8 → List UInt8
  | c :: d :: r => if c = 45 then d :: r else c :: d :: r
  | l => l
theorem dec_head {n : Nat} {c : UInt8} {r : List UInt8} (h : Lib.decDigits n = c :: r) : ¬ c = 45 := by
  intro e
  have := dec_dig n c (by rw [h]; simp)
  subst e
  simp [isDig] at this
theorem body_neg (n : Nat) : body (45 :: Lib.decDigits n) = Lib.decDigits n := by
  cases h : Lib.decDigits n with
  | nil => exact absurd h (dec_ne n)
  | cons d r => simp [body]
theorem body_pos (n : Nat) : body (Lib.decDigits n) = Lib.decDigits n := by
  cases h : Lib.decDigits n with
  | nil => exact absurd h (dec_ne n)
  | cons d r =>
    cases r with
    | nil => rfl
    | cons d' r' => simp [body, dec_head h]
/-- What a text's digits tell, with its sign. -/
def tval (l : List UInt8) : Int := if (body l).length = l.length then (dval (body l) 0 : Nat) else -((dval (body l) 0 : Nat) : Int)
theorem tval_itoa (x : Int) : tval (Lib.itoa x) = x := by
  unfold tval Lib.itoa
  split
  · rename_i h
    rw [body_neg, dval_dec, if_neg (by simp)]
    omega
  · rename_i h
    rw [body_pos, if_pos rfl, dval_dec]
    omega
theorem itoa_body (x : Int) (h : -1000000000 ≤ x ∧ x ≤ 1000000000) : (∀ c ∈ body (Lib.itoa x), isDig c = true) ∧ body (Lib.itoa x) ≠ [] ∧ (body (Lib.itoa x)).length ≤ 10 := by
  unfold Lib.itoa
  split
  · rw [body_neg]
    exact ⟨dec_dig _, dec_ne _, dec_len 9 _ (by omega)⟩
  · rw [body_pos]
    exact ⟨dec_dig _, dec_ne _, dec_len 9 _ (by omega)⟩

/-- The text is a number. -/
def numB (l : List UInt8) : Bool := decide (-1000000000 ≤ tval l) && decide (tval l ≤ 1000000000) && (Lib.itoa (tval l) == l)
theorem numB_iff (l : List UInt8) : numB l = true ↔ ∃ x : Int, (-1000000000 ≤ x ∧ x ≤ 1000000000) ∧ Lib.itoa x = l := by
  unfold numB
  simp only [Bool.and_eq_true, decide_eq_true_eq, beq_iff_eq]
  constructor
  · rintro ⟨h, e⟩; exact ⟨tval l, h, e⟩
  · rintro ⟨x, h, rfl⟩
    rw [tval_itoa]
    exact ⟨h, rfl⟩
theorem numB_body {l : List UInt8} (h : numB l = true) : (∀ c ∈ body l, isDig c = true) ∧ body l ≠ [] ∧ (body l).length ≤ 10 := by
  obtain ⟨x, hx, rfl⟩ := (numB_iff l).1 h
  exact itoa_body x hx
end Go.Proofs.Ytacbhbmjhlgflaa

/-
  The contracts of spec.l3Digit, l3WordByte, l3Num and l3Word. No condition beyond a text's length.
-/
namespace Go.Proofs.Ytacbhbmjhlgflaa
open Go.RowKit

def digB (b : Int) : Bool := decide (48 ≤ b) && decide (b ≤ 57)
/-- A byte of a word. -/
def wb (b : Int) : Bool := nb b || digB b || b == 35

set_option maxHeartbeats 400000 in
theorem sdigit_any (b : Int) (w : World) : Calls Try.prog 118 #[.int .u8 b] w fun e w' => e = .returned (.bool (digB b)) ∧ w' = w := by
  go_enter Try.func118, Try.ntmps118
  go_wp2
  all_goals
    go_ret
    refine ⟨retB ?_, rfl⟩
    unfold digB
    first | (simp [*]; done) | (simp [*]; omega)

set_option maxHeartbeats 400000 in
theorem swordbyte_any (b : Int) (w : World) : Calls Try.prog 112 #[.int .u8 b] w fun e w' => e = .returned (.bool (wb b)) ∧ w' = w := by
  go_enter Try.func112, Try.ntmps112
  go_wp2_with fail
  refine (snb_any b _).mono ?_
  rintro e w1 ⟨rfl, rfl⟩
  cases h : nb b with
  | true =>
    go_wp2_with fail
    go_ret
    exact ⟨retB (by simp [wb, h]), rfl⟩
  | false =>
    go_wp2_with fail
    refine (sdigit_any b _).mono ?_
    rintro e w1 ⟨rfl, rfl⟩
    cases h2 : digB b with
    | true =>
      go_wp2_with fail
      go_ret
      exact ⟨retB (by simp [wb, h, h2]), rfl⟩
    | false =>
      go_wp2_with fail
      go_ret
      exact ⟨retB (by simp [wb, h, h2]), rfl⟩

set_option maxHeartbeats 800000 in
theorem sdigits_wide (n : Int) (w : World) (hn : -99999999999 ≤ n ∧ n ≤ 99999999999) :
    Calls Try.prog 124 #[.int .i64 n] w fun e w' => e = .returned (.string (tx (Lib.itoa n))) ∧ Below w.heap.size w w' := by
  by_cases h0 : n < 0
  · have HI : Hid (Lib.itoa n = [45] ++ Lib.decDigits n.natAbs) := by unfold Hid Lib.itoa; rw [if_pos h0]; rfl
    have hlen := dec_len 11 n.natAbs (by omega)
    have hadd : ∀ w : World, (Op.stringOp .add ⟨#[45]⟩ (tx (Lib.decDigits n.natAbs))).run Try.prog w = .ok (.string (tx ([45] ++ Lib.decDigits n.natAbs))) w := fun w => addS [45] _ w (by simp; omega)
    have hm := sdigits_pos n.natAbs w (by omega)
    rw [show ((n.natAbs : Nat) : Int) = -n by omega] at hm
    clear hlen
    generalize Lib.decDigits n.natAbs = dd at *
    go_enter Try.func124, Try.ntmps124
    go_wp2_with fail
    refine hm.mono ?_
    rintro e w1 ⟨rfl, hb1⟩
    go_wp2_with fail
    go_ret
    exact ⟨retS (by rw [HI.out]; rfl), hb1⟩
  · obtain ⟨m, rfl⟩ := Int.eq_ofNat_of_zero_le (show 0 ≤ n by omega)
    have HI : Hid (Lib.itoa (m : Int) = Lib.decDigits m) := by unfold Hid Lib.itoa; rw [if_neg h0]; rfl
    rw [HI.out]
    exact sdigits_pos m w (by omega)

theorem get_list (s : ByteArray) (k : Nat) (h : k < s.size) : s.data.toList[k]? = some s[k] := by
  have h' : k < s.data.size := h
  rw [Array.getElem?_toList, Array.getElem?_eq_getElem h']
  rfl
theorem dval_take (l : List UInt8) (k : Nat) (c : UInt8) (h : l[k]? = some c) : dval (l.take (k + 1)) 0 = 10 * dval (l.take k) 0 + (c.toNat - 48) := by
  obtain ⟨hl, he⟩ := List.getElem?_eq_some_iff.1 h
  rw [List.take_succ_eq_append_getElem hl, dval_append, he]
  rfl
end Go.Proofs.Ytacbhbmjhlgflaa

/-
  The contract of spec.l3Num. No condition beyond the text's length.
-/
namespace Go.Proofs.Ytacbhbmjhlgflaa
open Go.RowKit

theorem body_sign {l : List UInt8} (h : 1 < l.length) (h0 : l[0]? = some 45) : body l = l.drop 1 := by
  match l, h with
  | c :: d :: r, _ =>
    simp at h0
    subst h0
    rfl
theorem body_plain {l : List UInt8} (h : ¬ (1 < l.length ∧ l[0]? = some 45)) : body l = l := by
  match l with
  | [] => rfl
  | [c] => rfl
  | c :: d :: r =>
    simp at h
    simp [body, h]
theorem body_len (l : List UInt8) : (body l).length ≤ l.length := by
  match l with
  | [] => simp [body]
  | [c] => simp [body]
  | c :: d :: r => simp only [body]; split <;> simp

theorem ext_drop (s : ByteArray) : (s.extract 1 s.size).data.toList = s.data.toList.drop 1 := by
  rw [ByteArray.data_extract, Array.toList_extract]
  simp [List.extract]
  rw [show s.size = s.data.toList.length by rw [Array.length_toList]; rfl]
  rw [List.take_of_length_le (by simp)]

set_option maxRecDepth 100000 in
set_option maxHeartbeats 1600000 in
theorem snum_any (s : ByteArray) (w : World) (hs : s.size ≤ maxLen) :
    Calls Try.prog 119 #[.string s] w fun e w' => ∃ x : Int, e = .returned (.tuple #[.int .i64 x, .bool (numB s.data.toList)]) ∧ (numB s.data.toList = true → x = tval s.data.toList) ∧ Below w.heap.size w w' := by
  unfold maxLen at hs
  have hll : s.data.toList.length = s.size := by rw [Array.length_toList]; rfl
  have HLL : Hid (s.data.toList.length = s.size) := hll
  go_enter Try.func119, Try.ntmps119
  go_upto_region 2 with fail
  go_cut [15] from 7 (fun s15 wx => wx = w ∧ ∃ bb : Bool, s15 = .bool bb ∧ (bb = true → 1 < s.size) ∧ Hid (bb = true → body s.data.toList = s.data.toList.drop 1) ∧ Hid (bb = false → body s.data.toList = s.data.toList))
  case first =>
    by_cases h1 : 1 < s.size
    · have h1' : (1 : Int) < s.size := by omega
      by_cases h45 : s[0].toNat = 45
      · have HB : Hid (body s.data.toList = s.data.toList.drop 1) := body_sign (by omega) (by rw [get_list s 0 (by omega)]; congr 1; exact UInt8.toNat_inj.1 h45)
        go_wp2_with fail
        go_meet
        case rel => exact ⟨rfl, true, rfl, fun _ => h1, fun _ => HB.out, fun h => by cases h⟩
      · have HB : Hid (body s.data.toList = s.data.toList) := body_plain (fun h => h45 (by
          have := h.2
          rw [get_list s 0 (by omega)] at this
          simp only [Option.some.injEq] at this
          rw [this]
          rfl))
        have h45' : ((s[0].toNat : Int) == 45) = false := by simp; omega
        go_wp2_with fail
        go_meet
        case rel => exact ⟨rfl, false, rfl, (fun h => by cases h), (fun h => by cases h), fun _ => HB.out⟩
    · have HB : Hid (body s.data.toList = s.data.toList) := body_plain (fun h => by have := h.1; omega)
      have h1' : ¬ (1 : Int) < s.size := by omega
      go_wp2_with fail
      go_meet
      case rel => exact ⟨rfl, false, rfl, (fun h => by cases h), (fun h => by cases h), fun _ => HB.out⟩
  case rest =>
    obtain ⟨rfl, bb, rfl, hb1, HT, HF⟩ := hcut
    go_upto_if 15 with fail
    go_cut [4] from 7 (fun s4 wx => wx = wc ∧ ∃ t : ByteArray, s4 = .string t ∧ t.size ≤ s.size ∧ Hid (t.data.toList = body s.data.toList))
    case first =>
      cases bb with
      | true =>
        have h1 := hb1 rfl
        have h1' : (1 : Int) ≤ s.size := by omega
        have HE : Hid ((s.extract 1 s.size).data.toList = body s.data.toList) := by unfold Hid; rw [HT.out rfl]; exact ext_drop s
        have hez : (s.extract 1 s.size).size ≤ s.size := by rw [ByteArray.size_extract]; omega
        go_wp2_with fail
        go_meet
        case rel => exact ⟨rfl, _, rfl, hez, HE⟩
      | false =>
        have HE : Hid (s.data.toList = body s.data.toList) := (HF.out rfl).symm
        go_wp2_with fail
        go_meet
        case rel => exact ⟨rfl, s, rfl, Nat.le_refl _, HE⟩
    case rest =>
      obtain ⟨rfl, t, rfl, hts, HE⟩ := hcut
      obtain ⟨w1, hw1⟩ : ∃ w1, w1 = wc := ⟨_, rfl⟩
      subst hw1
      have HTZ : Hid (t.size = (body s.data.toList).length) := by
        unfold Hid
        rw [← HE.out, Array.length_toList]
        rfl
      clear hb1 HT HF hll
      by_cases h10 : t.size ≤ 10
      · by_cases h0 : t.size = 0
        · have HN : Hid (numB s.data.toList = false) := by
            unfold Hid
            rw [Bool.eq_false_iff]
            intro h
            have := (numB_body h).2.1
            rw [← List.length_pos_iff, ← HTZ.out] at this
            omega
          have h0' : ((t.size : Int) == 0) = true := by rw [h0]; rfl
          have h10' : ¬ (10 : Int) < t.size := by omega
          go_wp2_with fail
          go_ret2
          exact ⟨0, by rw [HN.out]; rfl, fun h => by (rw [HN.out] at h; cases h), Below.refl _ _⟩
        · have h0' : ((t.size : Int) == 0) = false := by rw [beq_eq_false_iff_ne]; omega
          have h10' : ¬ (10 : Int) < t.size := by omega
          go_wp2_with fail
          go_loopg [5, 6] t.size (fun g x i wr => wr = w1 ∧ ∃ k : Nat, k ≤ t.size ∧ g = t.size - k ∧ i = .int .i64 k ∧ (∃ d : Nat, x = .int .i64 d ∧ d ≤ 9999999999 ∧ (k < 10 → d ≤ 999999999) ∧ d = dval ((body s.data.toList).take k) 0) ∧ ∀ c ∈ (body s.data.toList).take k, isDig c = true)
          case atStart => exact ⟨rfl, 0, by omega, by omega, rfl, ⟨0, rfl, by omega, (fun _ => by omega), rfl⟩, by simp⟩
          case round =>
            obtain ⟨rfl, k, hk, hgk, rfl, ⟨d, rfl, hd1, hd2, hd⟩, hall⟩ := hrel
            have HD : Hid (d = dval ((body s.data.toList).take k) 0) := hd
            have HA : Hid (∀ c ∈ (body s.data.toList).take k, isDig c = true) := hall
            clear hd hall
            by_cases hlt : k < t.size
            · have hkt : ((k : Int) < (t.size : Int)) := by omega
              have HG : Hid ((body s.data.toList)[k]? = some t[k]) := by unfold Hid; rw [← HE.out]; exact get_list t k hlt
              go_wp2_with fail
              refine (sdigit_any _ _).mono ?_
              rintro e w2 ⟨rfl, rfl⟩
              cases hdg : digB (t[k].toNat) with
              | true =>
                have hdn := hdg
                simp only [digB, Bool.and_eq_true, decide_eq_true_eq] at hdn
                have HA' : Hid (∀ c ∈ (body s.data.toList).take (k + 1), isDig c = true) := by
                  unfold Hid
                  obtain ⟨hl', he'⟩ := List.getElem?_eq_some_iff.1 HG.out
                  rw [List.take_succ_eq_append_getElem hl', he']
                  intro c hc
                  rw [List.mem_append, List.mem_singleton] at hc
                  rcases hc with hc | rfl
                  · exact HA.out c hc
                  · simp only [isDig, Bool.and_eq_true, decide_eq_true_eq]
                    omega
                have HD' : Hid (10 * d + (t[k].toNat - 48) = dval ((body s.data.toList).take (k + 1)) 0) := by unfold Hid; rw [dval_take _ k _ HG.out, ← HD.out]
                have hb1 : 10 * d + (t[k].toNat - 48) ≤ 9999999999 := by have := hd2 (by omega); omega
                have hb2 : k + 1 < 10 → 10 * d + (t[k].toNat - 48) ≤ 999999999 := fun h => by
                  rw [HD'.out]
                  have h1 := dval_lt _ 0 HA'.out
                  have h2 : (List.take (k + 1) (body s.data.toList)).length ≤ 9 := by rw [List.length_take]; omega
                  have h3 := Nat.pow_le_pow_right (show 0 < 10 by omega) h2
                  omega
                have HI : Hid ((10 * (d : Int) + (t[k].toNat : Int) - 48) = ((10 * d + (t[k].toNat - 48) : Nat) : Int)) := by unfold Hid; omega
                go_wp2_with fail
                go_roundg (t.size - (k + 1))
                case measure => omega
                case rel => exact ⟨rfl, k + 1, by omega, rfl, by go_num, ⟨10 * d + (t[k].toNat - 48), by rw [← HI.out], hb1, hb2, HD'.out⟩, HA'.out⟩
              | false =>
                have HN : Hid (numB s.data.toList = false) := by
                  unfold Hid
                  rw [Bool.eq_false_iff]
                  intro h
                  have h1 := (numB_body h).1 _ (List.mem_of_getElem? HG.out)
                  simp only [isDig, Bool.and_eq_true, decide_eq_true_eq] at h1
                  rw [Bool.eq_false_iff] at hdg
                  apply hdg
                  simp only [digB, Bool.and_eq_true, decide_eq_true_eq]
                  omega
                go_wp2_with fail
                go_ret2
                exact ⟨0, by rw [HN.out]; rfl, fun h => by (rw [HN.out] at h; cases h), Below.refl _ _⟩
            · have HDV : Hid (dval (body s.data.toList) 0 = d) := by
                unfold Hid
                rw [HD.out, List.take_of_length_le (by rw [← HTZ.out]; omega)]
              by_cases hsz : t.size = s.size
              · have hszn : ((t.size : Int) != (s.size : Int)) = false := by rw [hsz]; simp
                have HX : Hid (tval s.data.toList = (d : Int)) := by
                  unfold Hid tval
                  rw [HDV.out, if_pos (by rw [← HTZ.out, HLL.out]; omega)]
                have hxr : -99999999999 ≤ ((d : Int) : Int) ∧ ((d : Int) : Int) ≤ 99999999999 := by omega
                have HE1 : Hid (((tx (Lib.itoa ((d : Int)))).toList == s.toList) = (Lib.itoa ((d : Int)) == s.data.toList)) := by unfold Hid; rw [ByteArray.toList_eq, ByteArray.toList_eq, tx_list]
                have HNB : Hid (numB s.data.toList = (decide (-1000000000 ≤ ((d : Int) : Int)) && decide (((d : Int) : Int) ≤ 1000000000) && (Lib.itoa ((d : Int)) == s.data.toList))) := by unfold Hid numB; rw [HX.out]
                go_wp2_with fail
                refine (sdigits_wide _ _ hxr).mono ?_
                rintro e w2 ⟨rfl, hb2⟩
                cases hbb : ((tx (Lib.itoa ((d : Int)))).toList == s.toList) with
                | true =>
                  have HE2 : Hid ((Lib.itoa ((d : Int)) == s.data.toList) = true) := HE1.out.symm.trans hbb
                  clear HE1
                  go_wp2_with fail
                  refine (lin_any _ _ _ _).mono ?_
                  rintro e w3 ⟨rfl, rfl⟩
                  go_wp2_with fail
                  go_ret2
                  exact ⟨_, by rw [HNB.out, HE2.out, Bool.and_true]; rfl, (fun _ => HX.out.symm), hb2⟩
                | false =>
                  have HE2 : Hid ((Lib.itoa ((d : Int)) == s.data.toList) = false) := HE1.out.symm.trans hbb
                  clear HE1
                  go_wp2_with fail
                  go_ret2
                  exact ⟨_, by rw [HNB.out, HE2.out, Bool.and_false]; rfl, (fun _ => HX.out.symm), hb2⟩
              · have hszn : ((t.size : Int) != (s.size : Int)) = true := by simp; omega
                have HX : Hid (tval s.data.toList = -(d : Int)) := by
                  unfold Hid tval
                  rw [HDV.out, if_neg (by rw [← HTZ.out, HLL.out]; omega)]
                have hxr : -99999999999 ≤ (-(d : Int) : Int) ∧ (-(d : Int) : Int) ≤ 99999999999 := by omega
                have HE1 : Hid (((tx (Lib.itoa (-(d : Int)))).toList == s.toList) = (Lib.itoa (-(d : Int)) == s.data.toList)) := by unfold Hid; rw [ByteArray.toList_eq, ByteArray.toList_eq, tx_list]
                have HNB : Hid (numB s.data.toList = (decide (-1000000000 ≤ (-(d : Int) : Int)) && decide ((-(d : Int) : Int) ≤ 1000000000) && (Lib.itoa (-(d : Int)) == s.data.toList))) := by unfold Hid numB; rw [HX.out]
                have HQ : Hid ((decide (-1000000000 ≤ (-(d : Int) : Int)) && decide ((-(d : Int) : Int) ≤ 1000000000)) = decide ((d : Int) ≤ 1000000000)) := by unfold Hid; rw [Bool.eq_iff_iff, Bool.and_eq_true, decide_eq_true_iff, decide_eq_true_iff, decide_eq_true_iff]; omega
                go_wp2_with fail
                refine (sdigits_wide _ _ hxr).mono ?_
                rintro e w2 ⟨rfl, hb2⟩
                cases hbb : ((tx (Lib.itoa (-(d : Int)))).toList == s.toList) with
                | true =>
                  have HE2 : Hid ((Lib.itoa (-(d : Int)) == s.data.toList) = true) := HE1.out.symm.trans hbb
                  clear HE1
                  go_wp2_with fail
                  refine (lin_any _ _ _ _).mono ?_
                  rintro e w3 ⟨rfl, rfl⟩
                  go_wp2_with fail
                  go_ret2
                  exact ⟨_, by rw [HNB.out, HE2.out, Bool.and_true, HQ.out]; rfl, (fun _ => HX.out.symm), hb2⟩
                | false =>
                  have HE2 : Hid ((Lib.itoa (-(d : Int)) == s.data.toList) = false) := HE1.out.symm.trans hbb
                  clear HE1
                  go_wp2_with fail
                  go_ret2
                  exact ⟨_, by rw [HNB.out, HE2.out, Bool.and_false]; rfl, (fun _ => HX.out.symm), hb2⟩
      · have HN : Hid (numB s.data.toList = false) := by
          unfold Hid
          rw [Bool.eq_false_iff]
          intro h
          have := (numB_body h).2.2
          rw [← HTZ.out] at this
          omega
        have h10' : (10 : Int) < t.size := by omega
        go_wp2_with fail
        go_ret2
        exact ⟨0, by rw [HN.out]; rfl, fun h => by (rw [HN.out] at h; cases h), Below.refl _ _⟩
end Go.Proofs.Ytacbhbmjhlgflaa

/-
  What a word stands for, and the contract of spec.l3Word. No condition beyond the text's length.
-/
namespace Go.Proofs.Ytacbhbmjhlgflaa
open Go.RowKit

def isT (s : ByteArray) : Bool := s.data.toList == [35, 116]
def isF (s : ByteArray) : Bool := s.data.toList == [35, 102]
def wordNd (s : ByteArray) : Nd :=
  if isT s then ⟨2, 1, ByteArray.empty, 0, 0⟩ else if isF s then ⟨2, 0, ByteArray.empty, 0, 0⟩
  else if numB s.data.toList then ⟨3, tval s.data.toList, ByteArray.empty, 0, 0⟩ else ⟨4, 0, s, 0, 0⟩
def wordOk (s : ByteArray) : Bool := isT s || isF s || numB s.data.toList || nameB s

set_option maxRecDepth 100000 in
set_option maxHeartbeats 1600000 in
theorem sword_any (s : ByteArray) (w : World) (hs : s.size ≤ maxLen) :
    Calls Try.prog 113 #[.string s] w fun e w' => e = .returned (.tuple #[ndV (wordNd s), .bool (wordOk s)]) ∧ Below w.heap.size w w' := by
  have HT : Hid ((s.toList == ([35, 116] : List UInt8)) = isT s) := by unfold Hid isT; rw [ByteArray.toList_eq]
  have HF : Hid ((s.toList == ([35, 102] : List UInt8)) = isF s) := by unfold Hid isF; rw [ByteArray.toList_eq]
  have hB0 : Below w.heap.size w (w.alloc (ndO zeroN)) := (Below.refl _ _).alloc (Nat.le_refl _) _
  have hb0 : (w.alloc (ndO zeroN)).heap[w.heap.size]? = some (ndO zeroN) := heap_alloc_new _ _
  go_enter Try.func113, Try.ntmps113
  cases h1 : (s.toList == ([35, 116] : List UInt8)) with
  | true =>
    have HW : Hid (wordNd s = ⟨2, 1, ByteArray.empty, 0, 0⟩ ∧ wordOk s = true) := by
      have h2 := HT.out.symm.trans h1
      unfold Hid wordNd wordOk
      rw [h2]
      exact ⟨rfl, rfl⟩
    clear HT HF
    go_wp2_with fail
    exact bodyPost_ret (results_row_tmp rfl _ _ w.heap.size 63 _ (0, 0) _ rfl (heap_alloc_new _ _) Try.underlying63 rfl Try.sizeN) rfl ⟨by rw [HW.out.1, HW.out.2]; rfl, (Below.refl _ _).alloc (Nat.le_refl _) _⟩
  | false =>
    have HT2 : Hid (isT s = false) := HT.out.symm.trans h1
    clear HT
    cases h2 : (s.toList == ([35, 102] : List UInt8)) with
    | true =>
      have HW : Hid (wordNd s = ⟨2, 0, ByteArray.empty, 0, 0⟩ ∧ wordOk s = true) := by
        have h2 := HF.out.symm.trans h2
        unfold Hid wordNd wordOk
        rw [HT2.out, h2]
        exact ⟨rfl, rfl⟩
      clear HF
      go_wp2_with fail
      exact bodyPost_ret (results_row_tmp rfl _ _ w.heap.size 63 _ (0, 0) _ rfl (heap_alloc_new _ _) Try.underlying63 rfl Try.sizeN) rfl ⟨by rw [HW.out.1, HW.out.2]; rfl, (Below.refl _ _).alloc (Nat.le_refl _) _⟩
    | false =>
      have HF2 : Hid (isF s = false) := HF.out.symm.trans h2
      clear HF
      go_wp2_with fail
      refine (snum_any s _ hs).mono ?_
      rintro e w1 ⟨x, rfl, hx, hb1⟩
      have hq1 := (hb1.block _ (by simp)).trans hb0
      have hB1 := hB0.trans (hb1.mono hB0.size)
      clear hb0 hB0 hb1
      cases hn : numB s.data.toList with
      | true =>
        have HW : Hid (wordNd s = ⟨3, x, ByteArray.empty, 0, 0⟩ ∧ wordOk s = true) := by
          unfold Hid wordNd wordOk
          rw [HT2.out, HF2.out, hn, hx hn]
          exact ⟨rfl, rfl⟩
        clear hx
        go_wp2_with (refine wpList_store_nd rfl _ _ rfl w.heap.size (⟨3, x, ByteArray.empty, 0, 0⟩) rfl rfl zeroN hq1 ?_)
        intro w5 h5 b5 hs5
        go_wp2_with fail
        exact bodyPost_ret (results_row_tmp rfl _ _ w.heap.size 63 _ (0, 0) _ rfl h5 Try.underlying63 rfl Try.sizeN) rfl ⟨by rw [HW.out.1, HW.out.2]; rfl, hB1.trans b5⟩
      | false =>
        have HW : Hid (wordNd s = ⟨4, 0, s, 0, 0⟩ ∧ wordOk s = nameB s) := by
          unfold Hid wordNd wordOk
          rw [HT2.out, HF2.out, hn]
          exact ⟨rfl, rfl⟩
        clear hx
        go_wp2_with fail
        refine (sname_any s _ hs).mono ?_
        rintro e w2 ⟨rfl, rfl⟩
        go_wp2_with (refine wpList_store_nd rfl _ _ rfl w.heap.size (⟨4, 0, s, 0, 0⟩) rfl rfl zeroN hq1 ?_)
        intro w5 h5 b5 hs5
        go_wp2_with fail
        exact bodyPost_ret (results_row_tmp rfl _ _ w.heap.size 63 _ (0, 0) _ rfl h5 Try.underlying63 rfl Try.sizeN) rfl ⟨by rw [HW.out.1, HW.out.2]; rfl, hB1.trans b5⟩
end Go.Proofs.Ytacbhbmjhlgflaa

/-
  How a text is read, byte by byte: plain mathematics. Nothing of the program; no condition.
-/
namespace Go.Proofs.Ytacbhbmjhlgflaa
open Go.RowKit

/-- What is read so far: the nodes; the lists that are open, the innermost by itself. -/
structure RS where
  ns : List Nd
  lo : List (Int × List Int)
  a : Int
  vs : List Int
inductive RdR where
  | bad (how place : Int)
  | ok (s : RS)
def RdR.andThen : RdR → (RS → RdR) → RdR
  | .bad h p, _ => .bad h p
  | .ok s, f => f s
def RS.put (s : RS) (ys : List Nd) : RS := ⟨s.ns ++ ys, s.lo, s.a, s.vs ++ [((s.ns.length + ys.length - 1 : Nat) : Int)]⟩
def rdWord (t : ByteArray) (f i : Nat) (s : RS) : RdR := if wordOk (t.extract f i) then .ok (s.put [wordNd (t.extract f i)]) else .bad 3 f
/-- The list that is closed goes into the one around it. -/
def rdClose (i : Nat) (s : RS) : RdR := match s.lo.getLast? with
  | none => .bad 5 i
  | some p => .ok ((⟨s.ns, s.lo.dropLast, p.1, p.2⟩ : RS).put (more s.vs s.ns.length 0))
def rdMark (b : Int) (i : Nat) (s : RS) : RdR :=
  if b = 32 then .ok s else if b = 40 then .ok ⟨s.ns, s.lo ++ [(s.a, s.vs)], i, []⟩
  else if b = 41 then rdClose i s else .bad 2 i
/-- The rest of the text from i on, where a word began at f. -/
def rd (t : ByteArray) (f i : Nat) (s : RS) : RdR :=
  if h : i < t.size then
    if wb (t[i].toNat : Int) then rd t f (i + 1) s
    else (if f < i then rdWord t f i s else .ok s).andThen fun s1 => (rdMark (t[i].toNat : Int) i s1).andThen fun s2 => rd t (i + 1) (i + 1) s2
  else if f < i then rdWord t f i s else .ok s
termination_by t.size - i

theorem rd_in {t : ByteArray} {f i : Nat} {s : RS} (h : i < t.size) (hw : wb (t[i].toNat : Int) = true) : rd t f i s = rd t f (i + 1) s := by
  rw [rd, dif_pos h, if_pos hw]
theorem rd_mark {t : ByteArray} {i : Nat} {s : RS} (h : i < t.size) (hw : wb (t[i].toNat : Int) = false) : rd t i i s = (rdMark (t[i].toNat : Int) i s).andThen fun s2 => rd t (i + 1) (i + 1) s2 := by
  rw [rd, dif_pos h, if_neg (by rw [hw]; decide), if_neg (by omega)]
  rfl
theorem rd_done (t : ByteArray) (s : RS) : rd t t.size t.size s = .ok s := by
  rw [rd, dif_neg (by omega), if_neg (by omega)]
theorem rd_end {t : ByteArray} {f i : Nat} {s : RS} (hf : f < i) (hi : i ≤ t.size) (hw : ∀ h : i < t.size, wb (t[i].toNat : Int) = false) : rd t f i s = (rdWord t f i s).andThen fun s1 => rd t i i s1 := by
  by_cases h : i < t.size
  · rw [rd, dif_pos h, if_neg (by rw [hw h]; decide), if_pos hf]
    congr 1
    funext s1
    rw [rd_mark h (hw h)]
  · have e : i = t.size := by omega
    subst e
    rw [rd, dif_neg h, if_pos hf]
    cases rdWord t f t.size s with
    | bad a b => rfl
    | ok s1 => exact (rd_done t s1).symm
theorem rd_skip {t : ByteArray} {f : Nat} {s : RS} (j : Nat) : ∀ i, i ≤ j → j ≤ t.size → (∀ k (h : k < t.size), i ≤ k → k < j → wb (t[k].toNat : Int) = true) → rd t f i s = rd t f j s := by
  intro i hij
  induction h : j - i generalizing i with
  | zero => intro _ _; rw [show i = j by omega]
  | succ n ih =>
    intro hj hk
    rw [rd_in (by omega) (hk i (by omega) (Nat.le_refl _) (by omega))]
    exact ih (i + 1) (by omega) (by omega) hj (fun k h h1 h2 => hk k h (by omega) h2)

/-- How much there may be behind i bytes. -/
structure Fits (n i : Nat) (s : RS) : Prop where
  ns : s.ns.length ≤ n + 401 * i
  lo : s.lo.length ≤ i
  vs : s.vs.length ≤ i
  all : ∀ p ∈ s.lo, p.2.length ≤ i
  txt : ∀ x ∈ s.ns, x.s.size ≤ maxLen
theorem Fits.mono {n i j : Nat} {s : RS} (h : Fits n i s) (hij : i ≤ j) : Fits n j s :=
  ⟨by have := h.ns; omega, by have := h.lo; omega, by have := h.vs; omega, fun p hp => by have := h.all p hp; omega, h.txt⟩
theorem Fits.word {n i : Nat} {s : RS} (h : Fits n i s) (x : Nd) (hx : x.s.size ≤ maxLen) : Fits n (i + 1) (s.put [x]) := by
  refine ⟨?_, ?_, ?_, ?_, ?_⟩
  · have := h.ns; simp [RS.put]; omega
  · have := h.lo; simp [RS.put]; omega
  · have := h.vs; simp [RS.put]; omega
  · intro p hp; have := h.all p hp; omega
  · intro y hy
    rcases List.mem_append.1 hy with hy | hy
    · exact h.txt y hy
    · rw [List.mem_singleton] at hy; subst hy; exact hx
theorem Fits.mark {n i : Nat} {s s2 : RS} {b : Int} {p : Nat} (h : Fits n i s) (hi : i ≤ 400) (e : rdMark b p s = .ok s2) : Fits n (i + 1) s2 := by
  unfold rdMark at e
  split at e
  · cases e; exact h.mono (by omega)
  split at e
  · cases e
    refine ⟨by have := h.ns; simp only; omega, by have := h.lo; simp; omega, by simp, fun q hq => ?_, h.txt⟩
    simp only [List.mem_append, List.mem_singleton] at hq
    rcases hq with hq | rfl
    · have := h.all q hq; omega
    · have := h.vs; simp only; omega
  split at e
  · unfold rdClose at e
    split at e
    · cases e
    · rename_i q hq
      cases e
      have hm := List.mem_of_getLast? hq
      have h1 := h.all q hm
      refine ⟨?_, ?_, ?_, ?_, ?_⟩
      · have := h.ns; have := h.vs; simp [RS.put, more_length]; omega
      · have := h.lo; simp [RS.put]; omega
      · simp [RS.put]; omega
      · intro r hr
        have := h.all r (List.dropLast_subset _ hr)
        omega
      · intro y hy
        rcases List.mem_append.1 hy with hy | hy
        · exact h.txt y hy
        · exact more_ok _ _ _ y hy
  · cases e
end Go.Proofs.Ytacbhbmjhlgflaa

/-
  Contract of spec's l2List: a list behind the pool that a pointer leads to.
-/
namespace Go.Proofs.Ytacbhbmjhlgflaa
open Go.RowKit

set_option maxRecDepth 100000 in
set_option maxHeartbeats 1600000 in
theorem slist_any (b base : Nat) (v vl : Value) (xs : List Nd) (zs : List Int) (w : World) (hb : w.heap[b]? = some (.cells #[v] 33 (0, 0))) (ho : w.ownsRow base 63 5 v xs.length (ncs xs)) (L : IRow w vl zs)
    (hL : ∀ g o cap, vl = .slice (some ⟨g, o, none⟩) zs.length cap → zs ≠ [] → g < base) (hm : xs.length ≤ 1048576) (hzl : zs.length ≤ 1048576) (hbb : base ≤ b) :
    Calls Try.prog 111 #[.pointer (some ⟨b, 0, none⟩), vl] w fun e w' =>
      ∃ v', e = .returned (.int .i64 ((xs.length + zs.length : Nat) : Int)) ∧ w'.heap[b]? = some (.cells #[v'] 33 (0, 0)) ∧ w'.ownsRow base 63 5 v' (xs ++ more zs xs.length 0).length (ncs (xs ++ more zs xs.length 0)) ∧ Below base w w' := by
  obtain ⟨ao, cap, rfl⟩ := own_form ho
  obtain ⟨al, cl, rfl, hcl, hlm, hcell⟩ := L
  go_enter Try.func111, Try.ntmps111
  go_wp2_with fail
  refine (sadd_any b base ao cap xs nilN w hb ho (by omega) hbb).mono ?_
  rintro e w1 ⟨v1, rfl, hb1, ho1, hB1⟩
  clear hb ho
  go_wp2_with fail
  go_loopw [5, 6] (fun l i wr => ∃ (m : Nat) (v' : Value), m ≤ zs.length ∧ i = .int .i64 ((m : Int) - 1) ∧ l = .int .i64 ((xs.length + (zs.length - m) : Nat) : Int) ∧ wr.heap[b]? = some (.cells #[v'] 33 (0, 0)) ∧ wr.ownsRow base 63 5 v' (xs ++ more zs xs.length m).length (ncs (xs ++ more zs xs.length m)) ∧ Below base w wr) (fun _ i _ => (intOf i + 1).toNat)
  case atStart =>
    have : more zs xs.length zs.length = [nilN] := by simp [more, pairsR]
    exact ⟨zs.length, v1, Nat.le_refl _, rfl, by simp, hb1, by rw [this]; exact ho1, hB1⟩
  case round =>
    clear hb1 ho1 hB1
    obtain ⟨m, v', hmz, rfl, rfl, hbr, hor, hBr⟩ := hrel
    by_cases hpos : 0 < m
    · obtain ⟨m, rfl⟩ : ∃ m', m = m' + 1 := ⟨m - 1, by omega⟩
      obtain ⟨g, o, rfl, hg, hcell⟩ := hcell (by intro e; subst e; simp at hmz)
      have hgb : g < base := hL g o cl rfl (by intro e; subst e; simp at hmz)
      have c0 := (hBr.cell (p := ⟨g, o + m, none⟩) hgb).trans (hcell m (by omega))
      have HM := more_step zs xs.length m (by omega)
      have hzm : zs.getD m 0 = zs[m] := by simp [List.getD, show m < zs.length by omega]
      rw [hzm] at c0
      have hml := more_length zs xs.length (m + 1)
      have hlast : Hid (xs.length + (zs.length - (m + 1)) + 1 = xs.length + (zs.length - m)) := by unfold Hid; omega
      have hlen : Hid ((xs ++ more zs xs.length (m + 1)).length = xs.length + (zs.length - (m + 1)) + 1) := by unfold Hid; rw [List.length_append, hml]; omega
      have hll : xs.length + (zs.length - (m + 1)) ≤ 2097151 := by omega
      generalize xs.length + (zs.length - (m + 1)) = last at HM hlast hll hlen ⊢
      have HM' : Hid (xs ++ more zs xs.length m = (xs ++ more zs xs.length (m + 1)) ++ [pairN zs[m] last]) := by unfold Hid; rw [HM, List.append_assoc]
      clear HM hml hzm hcell
      generalize xs ++ more zs xs.length (m + 1) = LL at hor HM' hlen
      obtain ⟨aor, capr, rfl⟩ := own_form hor
      go_wp2_with fail
      refine (sadd_any b base aor capr LL (pairN zs[m] last) wr hbr hor (by have := hlen.out; omega) hbb).mono ?_
      rintro e w2 ⟨v2, rfl, hb2, ho2, hB2⟩
      have hB3 := hBr.trans hB2
      clear hbr hor hBr hB2 c0
      have ho3 : w2.ownsRow base 63 5 v2 (xs ++ more zs xs.length m).length (ncs (xs ++ more zs xs.length m)) := by rw [HM'.out]; exact ho2
      clear ho2
      rw [hlen.out]
      go_wp2
      go_roundw
      case rel => exact ⟨m, v2, by omega, by go_num, by rw [← hlast.out]; simp, hb2, ho3, hB3⟩
      case measure => (simp [intOf] <;> omega)
    · have hm0 : m = 0 := by omega
      subst hm0
      clear hcell
      go_wp2
      go_ret
      exact ⟨_, rfl, hbr, hor, hBr⟩
end Go.Proofs.Ytacbhbmjhlgflaa

/-
  Contracts of spec's l2Add and l2List once more: where the list is a row of the call's own.
-/
namespace Go.Proofs.Ytacbhbmjhlgflaa
open Go.RowKit

set_option maxHeartbeats 1600000 in
theorem sadd_more (b base : Nat) (ao : Option Addr) (cap : Nat) (xs : List Nd) (x : Nd) (w : World) (hb : w.heap[b]? = some (.cells #[.slice ao xs.length cap] 33 (0, 0))) (ho : w.ownsRow base 63 5 (.slice ao xs.length cap) xs.length (ncs xs))
    (hm : xs.length ≤ 2097152) (hbb : base ≤ b) :
    Calls Try.prog 32 #[.pointer (some ⟨b, 0, none⟩), .agg #[.int .i64 x.k, .int .i64 x.n, .string x.s, .int .i64 x.a, .int .i64 x.b]] w fun e w' =>
      ∃ v', e = .returned (.int .i64 xs.length) ∧ w'.heap[b]? = some (.cells #[v'] 33 (0, 0)) ∧ w'.ownsRow base 63 5 v' (xs ++ [x]).length (ncs (xs ++ [x])) ∧ Below base w w' ∧ (∀ k, k < w.heap.size → k ≠ b → (Value.slice ao xs.length cap).ownBlock ≠ some k → w'.heap[k]? = w.heap[k]?) := by
  obtain ⟨i0, hi, hz0, hz1, hz2⟩ := info_parts Try.infoN
  have hlt : b < w.heap.size := (Array.getElem?_eq_some_iff.1 hb).1
  have hcb : w.cell? ⟨b, 0, none⟩ = some (.slice ao xs.length cap) := by rw [cell_of_row w b 0 _ _ _ hb]; rfl
  have hne : b ≠ w.heap.size := by omega
  go_enter Try.func32, Try.ntmps32
  go_wp2_with fail
  go_region_law (refine step_append_lies _ rfl _ _ 31 rfl base 63 i0 _ 5 48 Try.underlying31 hi hz0 hz1 hz2 rfl (by decide) _ _ _ rfl ((ho.alloc _).alloc _) ⟨w.heap.size + 1, 0, none⟩ 1 1 (ncs [x]) rfl rfl (World.news_of_block (cs := #[.int .i64 x.k, .int .i64 x.n, .string x.s, .int .i64 x.a, .int .i64 x.b]) (t := 63) (fr := (0, 0)) (heap_alloc2_new w _ _)) (ncs_one _) (by omega) (by unfold maxLen; omega) (by omega) (by simp; omega) (w.heap.size + 2) (by simp) ?_; intro g capg w1 hown hgrow hat hgl; have hb1 : w1.heap[b]? = some (.cells #[.slice ao xs.length cap] 33 (0, 0)) := (hgrow.block b (by simp; omega) (fun e => own_ne ho hb (by decide) e.symm)).trans ((heap_alloc_old _ _ (by simp; omega)).trans ((heap_alloc_old _ _ hlt).trans hb)); have kb1 : w1.cell? ⟨b, 0, none⟩ = some (.slice ao xs.length cap) := cell_of_row w1 b 0 _ _ _ hb1; have fb1 : w1.frozen? ⟨b, 0, none⟩ = false := frozen_of_row w1 b 0 _ _ hb1)
  all_goals
    have hown2 : w1.ownsRow base 63 5 (.slice (some ⟨g, 0, none⟩) (xs.length + 1) capg) (xs ++ [x]).length (ncs (xs ++ [x])) := by
      rw [ncs_append, List.length_append]
      exact hown
    have hs0 : base ≤ w.heap.size := by omega
    have hB1 : Below base w w1 := (((Below.refl base w).alloc hs0 _).drew.alloc (by simp; omega) _).grown hgrow (by simp; omega) (fun k hk => (ho.lt k hk).1)
    have hB2 := hB1.setCell (p := ⟨b, 0, none⟩) hbb (.slice (some ⟨g, 0, none⟩) (xs.length + 1) capg)
    have ho2 := ownsRow_setCell_other hown2 (a := ⟨b, 0, none⟩) (own_ne hown2 hb1 (by decide)) (.slice (some ⟨g, 0, none⟩) (xs.length + 1) capg)
    have hb2 := heap_setCell_same w1 b 0 _ _ (.slice (some ⟨g, 0, none⟩) (xs.length + 1) capg) hb1
    have hk2 : ∀ k, k < w.heap.size → k ≠ b → (Value.slice ao xs.length cap).ownBlock ≠ some k → (w1.setCell ⟨b, 0, none⟩ (.slice (some ⟨g, 0, none⟩) (xs.length + 1) capg)).heap[k]? = w.heap[k]? := fun k hk hkb hko => by
      rw [heap_setCell_other w1 ⟨b, 0, none⟩ k _ (fun e => hkb e), hgrow.block k (by simp; omega) (fun e => hko e.symm)]
      exact (heap_alloc_old _ _ (by simp; omega)).trans (heap_alloc_old _ _ hk)
    clear hown hgrow hat hcb hb
    go_wp2
    go_ret
    exact ⟨_, by simp, hb2, ho2, hB2, hk2⟩

theorem own_same {w w' : World} {B k n : Nat} {e : TypeId} {v : Value} {l : List Value} (h : w.ownsRow B e k v n l) (hb : ∀ j, v.ownBlock = some j → w'.heap[j]? = w.heap[j]?) : w'.ownsRow B e k v n l := by
  refine ⟨h.1, ?_⟩
  rcases h.2 with ⟨rfl, h0⟩ | ⟨g, cap, cur, rfl, hB, hg, hr⟩
  · exact Or.inl ⟨rfl, h0⟩
  · exact Or.inr ⟨g, cap, cur, rfl, hB, (hb g rfl).trans hg, hr⟩

set_option maxRecDepth 100000 in
set_option maxHeartbeats 1600000 in
theorem slist_more (b base : Nat) (v vl : Value) (xs : List Nd) (zs : List Int) (w : World) (hb : w.heap[b]? = some (.cells #[v] 33 (0, 0))) (ho : w.ownsRow base 63 5 v xs.length (ncs xs)) (L : w.ownsRow base 3 1 vl zs.length (iv zs))
    (hm : xs.length ≤ 1048576) (hzl : zs.length ≤ 1048576) (hbb : base ≤ b) :
    Calls Try.prog 111 #[.pointer (some ⟨b, 0, none⟩), vl] w fun e w' =>
      ∃ v', e = .returned (.int .i64 ((xs.length + zs.length : Nat) : Int)) ∧ w'.heap[b]? = some (.cells #[v'] 33 (0, 0)) ∧ w'.ownsRow base 63 5 v' (xs ++ more zs xs.length 0).length (ncs (xs ++ more zs xs.length 0)) ∧ Below base w w' := by
  obtain ⟨ao, cap, rfl⟩ := own_form ho
  obtain ⟨al, cl, rfl⟩ := own_form L
  have keep : ∀ (w1 w2 : World) (V : Value) (n : Nat) (l : List Value), w1.heap[b]? = some (.cells #[V] 33 (0, 0)) → w1.ownsRow base 63 5 V n l → w1.ownsRow base 3 1 (.slice al zs.length cl) zs.length (iv zs) → (∀ k, k < w1.heap.size → k ≠ b → V.ownBlock ≠ some k → w2.heap[k]? = w1.heap[k]?) → w2.ownsRow base 3 1 (.slice al zs.length cl) zs.length (iv zs) := by
    intro w1 w2 V n l hb1 ho1 hL1 hk
    refine own_same hL1 (fun j hj => hk j (hL1.lt j hj).2 ?_ ?_)
    · intro e; subst e; exact own_ne hL1 hb1 (by decide) hj
    · intro e
      rcases own_apart hL1 ho1 (by decide) with h | h
      · rw [hj] at h; cases h
      · exact h (hj.trans e.symm)
  go_enter Try.func111, Try.ntmps111
  go_wp2_with fail
  refine (sadd_more b base ao cap xs nilN w hb ho (by omega) hbb).mono ?_
  rintro e w1 ⟨v1, rfl, hb1, ho1, hB1, hk1⟩
  have L1 := keep w w1 _ _ _ hb ho L hk1
  clear hb ho L hk1
  go_wp2_with fail
  go_loopw [5, 6] (fun l i wr => ∃ (m : Nat) (v' : Value), m ≤ zs.length ∧ i = .int .i64 ((m : Int) - 1) ∧ l = .int .i64 ((xs.length + (zs.length - m) : Nat) : Int) ∧ wr.heap[b]? = some (.cells #[v'] 33 (0, 0)) ∧ wr.ownsRow base 63 5 v' (xs ++ more zs xs.length m).length (ncs (xs ++ more zs xs.length m)) ∧ wr.ownsRow base 3 1 (.slice al zs.length cl) zs.length (iv zs) ∧ Below base w wr) (fun _ i _ => (intOf i + 1).toNat)
  case atStart =>
    have : more zs xs.length zs.length = [nilN] := by simp [more, pairsR]
    exact ⟨zs.length, v1, Nat.le_refl _, rfl, by simp, hb1, by rw [this]; exact ho1, L1, hB1⟩
  case round =>
    clear hb1 ho1 hB1 L1
    obtain ⟨m, v', hmz, rfl, rfl, hbr, hor, Lr, hBr⟩ := hrel
    by_cases hpos : 0 < m
    · obtain ⟨m, rfl⟩ : ∃ m', m = m' + 1 := ⟨m - 1, by omega⟩
      rcases Lr.2 with ⟨e1, h0⟩ | ⟨g, capB, cur, e1, hBb, _⟩
      · omega
      simp only [Value.slice.injEq, true_and] at e1
      obtain ⟨rfl, rfl⟩ := e1
      have c0 := Lr.cellAt m (by omega)
      rw [iv_get _ _ (by omega)] at c0
      have HM := more_step zs xs.length m (by omega)
      have hzm : zs.getD m 0 = zs[m] := by simp [List.getD, show m < zs.length by omega]
      rw [hzm] at c0
      have hml := more_length zs xs.length (m + 1)
      have hlast : Hid (xs.length + (zs.length - (m + 1)) + 1 = xs.length + (zs.length - m)) := by unfold Hid; omega
      have hlen : Hid ((xs ++ more zs xs.length (m + 1)).length = xs.length + (zs.length - (m + 1)) + 1) := by unfold Hid; rw [List.length_append, hml]; omega
      have hll : xs.length + (zs.length - (m + 1)) ≤ 2097151 := by omega
      generalize xs.length + (zs.length - (m + 1)) = last at HM hlast hll hlen ⊢
      have HM' : Hid (xs ++ more zs xs.length m = (xs ++ more zs xs.length (m + 1)) ++ [pairN zs[m] last]) := by unfold Hid; rw [HM, List.append_assoc]
      clear HM hml hzm
      generalize xs ++ more zs xs.length (m + 1) = LL at hor HM' hlen
      obtain ⟨aor, capr, rfl⟩ := own_form hor
      go_wp2_with fail
      refine (sadd_more b base aor capr LL (pairN zs[m] last) wr hbr hor (by have := hlen.out; omega) hbb).mono ?_
      rintro e w2 ⟨v2, rfl, hb2, ho2, hB2, hk2⟩
      have L2 := keep wr w2 _ _ _ hbr hor Lr hk2
      have hB3 := hBr.trans hB2
      clear hbr hor hBr hB2 c0 hk2 Lr
      have ho3 : w2.ownsRow base 63 5 v2 (xs ++ more zs xs.length m).length (ncs (xs ++ more zs xs.length m)) := by rw [HM'.out]; exact ho2
      clear ho2
      rw [hlen.out]
      go_wp2
      go_roundw
      case rel => exact ⟨m, v2, by omega, by go_num, by rw [← hlast.out]; simp, hb2, ho3, L2, hB3⟩
      case measure => (simp [intOf] <;> omega)
    · have hm0 : m = 0 := by omega
      subst hm0
      go_wp2
      go_ret
      exact ⟨_, rfl, hbr, hor, hBr⟩
end Go.Proofs.Ytacbhbmjhlgflaa

/-
  Contracts of spec's l2Add and l2List with their frame: all stays but the pool's block and its row.
-/
namespace Go.Proofs.Ytacbhbmjhlgflaa
open Go.RowKit

/-- All stays but block b and the row of v; the row of v' is that row or a new one. -/
structure Bx (b base : Nat) (v : Value) (w w' : World) (v' : Value) : Prop where
  below : Below base w w'
  keep : ∀ k, k < w.heap.size → k ≠ b → v.ownBlock ≠ some k → w'.heap[k]? = w.heap[k]?
  row : ∀ g, v'.ownBlock = some g → v.ownBlock = some g ∨ w.heap.size ≤ g
theorem Bx.trans {b base : Nat} {v v1 v2 : Value} {w w1 w2 : World} (h : Bx b base v w w1 v1) (h' : Bx b base v1 w1 w2 v2) : Bx b base v w w2 v2 := by
  have hs := h.below.size
  refine ⟨h.below.trans h'.below, fun k hk hb hv => ?_, fun g hg => ?_⟩
  · refine (h'.keep k (by omega) hb ?_).trans (h.keep k hk hb hv)
    intro e
    rcases h.row k e with q | q
    · exact hv q
    · omega
  · rcases h'.row g hg with q | q
    · exact h.row g q
    · exact .inr (by omega)

set_option maxHeartbeats 1600000 in
theorem sadd_fr (b base : Nat) (ao : Option Addr) (cap : Nat) (xs : List Nd) (x : Nd) (w : World) (hb : w.heap[b]? = some (.cells #[.slice ao xs.length cap] 33 (0, 0))) (ho : w.ownsRow base 63 5 (.slice ao xs.length cap) xs.length (ncs xs))
    (hm : xs.length ≤ 2097152) (hbb : base ≤ b) :
    Calls Try.prog 32 #[.pointer (some ⟨b, 0, none⟩), .agg #[.int .i64 x.k, .int .i64 x.n, .string x.s, .int .i64 x.a, .int .i64 x.b]] w fun e w' =>
      ∃ v', e = .returned (.int .i64 xs.length) ∧ w'.heap[b]? = some (.cells #[v'] 33 (0, 0)) ∧ w'.ownsRow base 63 5 v' (xs ++ [x]).length (ncs (xs ++ [x])) ∧ Bx b base (.slice ao xs.length cap) w w' v' := by
  obtain ⟨i0, hi, hz0, hz1, hz2⟩ := info_parts Try.infoN
  have hlt : b < w.heap.size := (Array.getElem?_eq_some_iff.1 hb).1
  have hcb : w.cell? ⟨b, 0, none⟩ = some (.slice ao xs.length cap) := by rw [cell_of_row w b 0 _ _ _ hb]; rfl
  have hne : b ≠ w.heap.size := by omega
  go_enter Try.func32, Try.ntmps32
  go_wp2_with fail
  go_region_law (refine step_append_lies _ rfl _ _ 31 rfl base 63 i0 _ 5 48 Try.underlying31 hi hz0 hz1 hz2 rfl (by decide) _ _ _ rfl ((ho.alloc _).alloc _) ⟨w.heap.size + 1, 0, none⟩ 1 1 (ncs [x]) rfl rfl (World.news_of_block (cs := #[.int .i64 x.k, .int .i64 x.n, .string x.s, .int .i64 x.a, .int .i64 x.b]) (t := 63) (fr := (0, 0)) (heap_alloc2_new w _ _)) (ncs_one _) (by omega) (by unfold maxLen; omega) (by omega) (by simp; omega) (w.heap.size + 2) (by simp) ?_; intro g capg w1 hown hgrow hat hgl; have hb1 : w1.heap[b]? = some (.cells #[.slice ao xs.length cap] 33 (0, 0)) := (hgrow.block b (by simp; omega) (fun e => own_ne ho hb (by decide) e.symm)).trans ((heap_alloc_old _ _ (by simp; omega)).trans ((heap_alloc_old _ _ hlt).trans hb)); have kb1 : w1.cell? ⟨b, 0, none⟩ = some (.slice ao xs.length cap) := cell_of_row w1 b 0 _ _ _ hb1; have fb1 : w1.frozen? ⟨b, 0, none⟩ = false := frozen_of_row w1 b 0 _ _ hb1)
  all_goals
    have hown2 : w1.ownsRow base 63 5 (.slice (some ⟨g, 0, none⟩) (xs.length + 1) capg) (xs ++ [x]).length (ncs (xs ++ [x])) := by
      rw [ncs_append, List.length_append]
      exact hown
    have hs0 : base ≤ w.heap.size := by omega
    have hB1 : Below base w w1 := (((Below.refl base w).alloc hs0 _).drew.alloc (by simp; omega) _).grown hgrow (by simp; omega) (fun k hk => (ho.lt k hk).1)
    have hB2 := hB1.setCell (p := ⟨b, 0, none⟩) hbb (.slice (some ⟨g, 0, none⟩) (xs.length + 1) capg)
    have ho2 := ownsRow_setCell_other hown2 (a := ⟨b, 0, none⟩) (own_ne hown2 hb1 (by decide)) (.slice (some ⟨g, 0, none⟩) (xs.length + 1) capg)
    have hb2 := heap_setCell_same w1 b 0 _ _ (.slice (some ⟨g, 0, none⟩) (xs.length + 1) capg) hb1
    have hk2 : ∀ k, k < w.heap.size → k ≠ b → (Value.slice ao xs.length cap).ownBlock ≠ some k → (w1.setCell ⟨b, 0, none⟩ (.slice (some ⟨g, 0, none⟩) (xs.length + 1) capg)).heap[k]? = w.heap[k]? := fun k hk hkb hko => by
      rw [heap_setCell_other w1 ⟨b, 0, none⟩ k _ (fun e => hkb e), hgrow.block k (by simp; omega) (fun e => hko e.symm)]
      exact (heap_alloc_old _ _ (by simp; omega)).trans (heap_alloc_old _ _ hk)
    have hr2 : ∀ q, (Value.slice (some ⟨g, 0, none⟩) (xs.length + 1) capg).ownBlock = some q → (Value.slice ao xs.length cap).ownBlock = some q ∨ w.heap.size ≤ q := fun q hq => by
      simp only [Value.ownBlock, Option.some.injEq] at hq
      subst hq
      rcases hat with e | e
      · exact .inl e
      · exact .inr (by omega)
    clear hown hgrow hat hcb hb
    go_wp2
    go_ret
    exact ⟨_, by simp, hb2, ho2, hB2, hk2, hr2⟩

set_option maxRecDepth 100000 in
set_option maxHeartbeats 1600000 in
theorem slist_fr (b base : Nat) (v vl : Value) (xs : List Nd) (zs : List Int) (w : World) (hb : w.heap[b]? = some (.cells #[v] 33 (0, 0))) (ho : w.ownsRow base 63 5 v xs.length (ncs xs)) (L : w.ownsRow base 3 1 vl zs.length (iv zs))
    (hm : xs.length ≤ 1048576) (hzl : zs.length ≤ 1048576) (hbb : base ≤ b) :
    Calls Try.prog 111 #[.pointer (some ⟨b, 0, none⟩), vl] w fun e w' =>
      ∃ v', e = .returned (.int .i64 ((xs.length + zs.length : Nat) : Int)) ∧ w'.heap[b]? = some (.cells #[v'] 33 (0, 0)) ∧ w'.ownsRow base 63 5 v' (xs ++ more zs xs.length 0).length (ncs (xs ++ more zs xs.length 0)) ∧ Bx b base v w w' v' := by
  obtain ⟨ao, cap, rfl⟩ := own_form ho
  obtain ⟨al, cl, rfl⟩ := own_form L
  have keep : ∀ (w1 w2 : World) (V : Value) (n : Nat) (l : List Value), w1.heap[b]? = some (.cells #[V] 33 (0, 0)) → w1.ownsRow base 63 5 V n l → w1.ownsRow base 3 1 (.slice al zs.length cl) zs.length (iv zs) → (∀ k, k < w1.heap.size → k ≠ b → V.ownBlock ≠ some k → w2.heap[k]? = w1.heap[k]?) → w2.ownsRow base 3 1 (.slice al zs.length cl) zs.length (iv zs) := by
    intro w1 w2 V n l hb1 ho1 hL1 hk
    refine own_same hL1 (fun j hj => hk j (hL1.lt j hj).2 ?_ ?_)
    · intro e; subst e; exact own_ne hL1 hb1 (by decide) hj
    · intro e
      rcases own_apart hL1 ho1 (by decide) with h | h
      · rw [hj] at h; cases h
      · exact h (hj.trans e.symm)
  go_enter Try.func111, Try.ntmps111
  go_wp2_with fail
  refine (sadd_fr b base ao cap xs nilN w hb ho (by omega) hbb).mono ?_
  rintro e w1 ⟨v1, rfl, hb1, ho1, hB1⟩
  have L1 := keep w w1 _ _ _ hb ho L hB1.keep
  clear hb ho L
  go_wp2_with fail
  go_loopw [5, 6] (fun l i wr => ∃ (m : Nat) (v' : Value), m ≤ zs.length ∧ i = .int .i64 ((m : Int) - 1) ∧ l = .int .i64 ((xs.length + (zs.length - m) : Nat) : Int) ∧ wr.heap[b]? = some (.cells #[v'] 33 (0, 0)) ∧ wr.ownsRow base 63 5 v' (xs ++ more zs xs.length m).length (ncs (xs ++ more zs xs.length m)) ∧ wr.ownsRow base 3 1 (.slice al zs.length cl) zs.length (iv zs) ∧ Bx b base (.slice ao xs.length cap) w wr v') (fun _ i _ => (intOf i + 1).toNat)
  case atStart =>
    have : more zs xs.length zs.length = [nilN] := by simp [more, pairsR]
    exact ⟨zs.length, v1, Nat.le_refl _, rfl, by simp, hb1, by rw [this]; exact ho1, L1, hB1⟩
  case round =>
    clear hb1 ho1 hB1 L1
    obtain ⟨m, v', hmz, rfl, rfl, hbr, hor, Lr, hBr⟩ := hrel
    by_cases hpos : 0 < m
    · obtain ⟨m, rfl⟩ : ∃ m', m = m' + 1 := ⟨m - 1, by omega⟩
      rcases Lr.2 with ⟨e1, h0⟩ | ⟨g, capB, cur, e1, hBb, _⟩
      · omega
      simp only [Value.slice.injEq, true_and] at e1
      obtain ⟨rfl, rfl⟩ := e1
      have c0 := Lr.cellAt m (by omega)
      rw [iv_get _ _ (by omega)] at c0
      have HM := more_step zs xs.length m (by omega)
      have hzm : zs.getD m 0 = zs[m] := by simp [List.getD, show m < zs.length by omega]
      rw [hzm] at c0
      have hml := more_length zs xs.length (m + 1)
      have hlast : Hid (xs.length + (zs.length - (m + 1)) + 1 = xs.length + (zs.length - m)) := by unfold Hid; omega
      have hlen : Hid ((xs ++ more zs xs.length (m + 1)).length = xs.length + (zs.length - (m + 1)) + 1) := by unfold Hid; rw [List.length_append, hml]; omega
      have hll : xs.length + (zs.length - (m + 1)) ≤ 2097151 := by omega
      generalize xs.length + (zs.length - (m + 1)) = last at HM hlast hll hlen ⊢
      have HM' : Hid (xs ++ more zs xs.length m = (xs ++ more zs xs.length (m + 1)) ++ [pairN zs[m] last]) := by unfold Hid; rw [HM, List.append_assoc]
      clear HM hml hzm
      generalize xs ++ more zs xs.length (m + 1) = LL at hor HM' hlen
      obtain ⟨aor, capr, rfl⟩ := own_form hor
      go_wp2_with fail
      refine (sadd_fr b base aor capr LL (pairN zs[m] last) wr hbr hor (by have := hlen.out; omega) hbb).mono ?_
      rintro e w2 ⟨v2, rfl, hb2, ho2, hB2⟩
      have L2 := keep wr w2 _ _ _ hbr hor Lr hB2.keep
      have hB3 := hBr.trans hB2
      clear hbr hor hBr hB2 c0 Lr
      have ho3 : w2.ownsRow base 63 5 v2 (xs ++ more zs xs.length m).length (ncs (xs ++ more zs xs.length m)) := by rw [HM'.out]; exact ho2
      clear ho2
      rw [hlen.out]
      go_wp2
      go_roundw
      case rel => exact ⟨m, v2, by omega, by go_num, by rw [← hlast.out]; simp, hb2, ho3, L2, hB3⟩
      case measure => (simp [intOf] <;> omega)
    · have hm0 : m = 0 := by omega
      subst hm0
      go_wp2
      go_ret
      exact ⟨_, rfl, hbr, hor, hBr⟩
end Go.Proofs.Ytacbhbmjhlgflaa

/-
  The memory of the lists that are open while spec.Read reads: a row of records, each with a row of numbers of its own. No condition.
-/
namespace Go.Proofs.Ytacbhbmjhlgflaa
open Go.RowKit

abbrev Rec := Int × Value × List Int
def stC (st : List Rec) : List Value := st.flatMap fun e => [.int .i64 e.1, e.2.1]
theorem stC_len (st : List Rec) : (stC st).length = st.length * 2 := by
  induction st with
  | nil => rfl
  | cons e st ih => simp only [stC, List.flatMap_cons, List.length_append, List.length_cons] at ih ⊢; rw [ih]; simp; omega
theorem stC_append (a b : List Rec) : stC (a ++ b) = stC a ++ stC b := by simp [stC]
theorem stC_at (lo : List Rec) (e : Rec) (hi : List Rec) : (stC (lo ++ e :: hi))[lo.length * 2]? = some (.int .i64 e.1) ∧ (stC (lo ++ e :: hi))[lo.length * 2 + 1]? = some e.2.1 := by
  rw [stC_append]
  constructor
  · rw [List.getElem?_append_right (by rw [stC_len]; omega), stC_len, Nat.sub_self]; rfl
  · rw [List.getElem?_append_right (by rw [stC_len]; omega), stC_len, show lo.length * 2 + 1 - lo.length * 2 = 1 by omega]; rfl
theorem stC_set (lo : List Rec) (a : Int) (v v' : Value) (zs zs' : List Int) : (stC (lo ++ [(a, v, zs)])).set (lo.length * 2 + 1) v' = stC (lo ++ [(a, v', zs')]) := by
  rw [stC_append, stC_append, List.set_append_right _ _ (by rw [stC_len]; omega), stC_len, show lo.length * 2 + 1 - lo.length * 2 = 1 by omega]
  rfl

structure Stk (base : Nat) (w : World) (v : Value) (st : List Rec) : Prop where
  recs : w.ownsRow base 151 2 v st.length (stC st)
  own : ∀ e ∈ st, w.ownsRow base 3 1 e.2.1 e.2.2.length (iv e.2.2)
  apart : st.Pairwise fun a b => ∀ k, a.2.1.ownBlock = some k → b.2.1.ownBlock ≠ some k

/-- It stays where its blocks stay. -/
theorem Stk.same {base : Nat} {w w' : World} {v : Value} {st : List Rec} (h : Stk base w v st) (hk : ∀ j : Nat, (∃ cs, w.heap[j]? = some (Obj.cells cs 151 (0, 0))) ∨ (∃ cs, w.heap[j]? = some (Obj.cells cs 3 (0, 0))) → w'.heap[j]? = w.heap[j]?) : Stk base w' v st := by
  have blk : ∀ {e : TypeId} {k n : Nat} {u : Value} {l : List Value}, w.ownsRow base e k u n l → ∀ j, u.ownBlock = some j → ∃ cs, w.heap[j]? = some (Obj.cells cs e (0, 0)) := by
    intro e k n u l ho j hj
    rcases ho.2 with ⟨rfl, _⟩ | ⟨g, cap, cur, rfl, _, hg, _⟩
    · cases hj
    · simp only [Value.ownBlock, Option.some.injEq] at hj
      subst hj
      exact ⟨cur, hg⟩
  exact ⟨own_same h.recs fun j hj => hk j (.inl (blk h.recs j hj)), fun e he => own_same (h.own e he) fun j hj => hk j (.inr (blk (h.own e he) j hj)), h.apart⟩
theorem Stk.below {base : Nat} {w w' : World} {v : Value} {st : List Rec} (h : Stk base w v st) (hb : Below w.heap.size w w') : Stk base w' v st :=
  h.same fun j hj => hb.block j (by rcases hj with ⟨_, q⟩ | ⟨_, q⟩ <;> exact (Array.getElem?_eq_some_iff.1 q).1)
/-- It stays where the pool alone is turned. -/
theorem Stk.pool {base b : Nat} {w w' : World} {v V V' : Value} {st : List Rec} {n : Nat} {l : List Value} (h : Stk base w v st) (hb : w.heap[b]? = some (.cells #[V] 33 (0, 0))) (ho : w.ownsRow base 63 5 V n l) (hx : Bx b base V w w' V') : Stk base w' v st := by
  refine h.same fun j hj => ?_
  have hlt : j < w.heap.size := by rcases hj with ⟨_, q⟩ | ⟨_, q⟩ <;> exact (Array.getElem?_eq_some_iff.1 q).1
  refine hx.keep j hlt ?_ ?_
  · intro e
    subst e
    rcases hj with ⟨_, q⟩ | ⟨_, q⟩ <;> (rw [hb] at q; cases q)
  · rcases hj with ⟨_, q⟩ | ⟨_, q⟩ <;> exact own_ne ho q (by decide)
/-- A list is opened. -/
theorem Stk.push {base : Nat} {w w' : World} {v v' : Value} {st : List Rec} (a : Int) (h : Stk base w v st) (ho : w'.ownsRow base 151 2 v' (st.length + 1) (stC st ++ [.int .i64 a, .slice none 0 0])) (hg : w.grownBy w' v.ownBlock) : Stk base w' v' (st ++ [(a, .slice none 0 0, [])]) := by
  refine ⟨?_, ?_, ?_⟩
  · rw [stC_append, List.length_append]
    exact ho
  · intro e he
    rcases List.mem_append.1 he with he | he
    · exact (h.own e he).kept hg (own_apart (h.own e he) h.recs (by decide))
    · rw [List.mem_singleton] at he
      subst he
      exact ⟨rfl, .inl ⟨rfl, rfl⟩⟩
  · rw [List.pairwise_append]
    refine ⟨h.apart, List.pairwise_singleton _ _, ?_⟩
    intro x hx y hy k hk
    rw [List.mem_singleton] at hy
    subst hy
    simp [Value.ownBlock]
/-- A list is closed. -/
theorem Stk.pop {base : Nat} {w : World} {g cap : Nat} {st : List Rec} {e : Rec} (h : Stk base w (.slice (some ⟨g, 0, none⟩) (st.length + 1) cap) (st ++ [e])) : Stk base w (.slice (some ⟨g, 0, none⟩) st.length cap) st := by
  refine ⟨?_, fun x hx => h.own x (List.mem_append_left _ hx), (List.pairwise_append.1 h.apart).1⟩
  have h1 := h.recs
  rw [stC_append, List.length_append] at h1
  exact ownsRow_pop (stC_len st) h1
/-- The innermost list gets one more value: its row first, then the record. -/
theorem Stk.more {base : Nat} {w w1 : World} {g n cap : Nat} {lo : List Rec} {a : Int} {lv lv' : Value} {zs : List Int} {z : Int} (h : Stk base w (.slice (some ⟨g, 0, none⟩) n cap) (lo ++ [(a, lv, zs)]))
    (ho : w1.ownsRow base 3 1 lv' (zs.length + 1) (iv zs ++ [.int .i64 z])) (hg : w.grownBy w1 lv.ownBlock) (hat : ∀ q, lv'.ownBlock = some q → lv.ownBlock = some q ∨ w.heap.size ≤ q) :
    Stk base (w1.setCell ⟨g, lo.length * 2 + 1, none⟩ lv') (.slice (some ⟨g, 0, none⟩) n cap) (lo ++ [(a, lv', zs ++ [z])]) := by
  have hown := h.own (a, lv, zs) (by simp)
  have hn : n = lo.length + 1 := by
    have h1 := h.recs
    rcases h1.2 with ⟨e, _⟩ | ⟨g', c', cur, e, _⟩
    · cases e
    · simp only [Value.slice.injEq] at e
      rw [e.2.1]
      simp
  have hr1 := h.recs.kept hg (own_apart h.recs hown (by decide))
  have hrl : (lo ++ [(a, lv, zs)]).length = n := by rw [hn]; simp
  rw [hrl] at hr1
  have hr2 := (hr1.stored (lo.length * 2 + 1) lv').1
  rw [stC_set lo a lv lv' zs (zs ++ [z])] at hr2
  have hgb : ∀ (e : Rec), e ∈ lo ++ [(a, lv, zs)] → e.2.1.ownBlock ≠ some g := by
    intro e he q
    rcases own_apart (h.own e he) h.recs (by decide) with k | k
    · rw [q] at k; cases k
    · exact k q
  have hlv' : lv'.ownBlock ≠ some g := by
    intro q
    rcases own_apart ho hr1 (by decide) with k | k
    · rw [q] at k; cases k
    · exact k q
  refine ⟨?_, ?_, ?_⟩
  · rw [show (lo ++ [(a, lv', zs ++ [z])]).length = n by rw [hn]; simp]
    exact hr2
  · intro e he
    rcases List.mem_append.1 he with he | he
    · have he' : e ∈ lo ++ [(a, lv, zs)] := List.mem_append_left _ he
      refine ownsRow_setCell_other ((h.own e he').kept hg ?_) (hgb e he') _
      cases hq : e.2.1.ownBlock with
      | none => exact .inl rfl
      | some k =>
        right
        intro q
        exact (List.pairwise_append.1 h.apart).2.2 e he (a, lv, zs) (by simp) k hq q.symm
    · rw [List.mem_singleton] at he
      subst he
      have := ownsRow_setCell_other ho (a := ⟨g, lo.length * 2 + 1, none⟩) hlv' lv'
      simp only [List.length_append, List.length_singleton, iv_append]
      exact this
  · rw [List.pairwise_append]
    refine ⟨(List.pairwise_append.1 h.apart).1, List.pairwise_singleton _ _, ?_⟩
    intro x hx y hy k hk
    rw [List.mem_singleton] at hy
    subst hy
    intro q
    rcases hat k q with r | r
    · exact (List.pairwise_append.1 h.apart).2.2 x hx (a, lv, zs) (by simp) k hk r
    · have := ((h.own x (List.mem_append_left _ hx)).lt k hk).2
      omega
end Go.Proofs.Ytacbhbmjhlgflaa

/-
  'append' as a step of a region that draws. Nothing of the program; no condition.
-/
namespace Go.Proofs.Ytacbhbmjhlgflaa
open Go.RowKit

/-- 'append' onto a row of the call's own, whatever is appended, as a step of a region that draws. -/
theorem step_append_own_any {P : Program} (w : World) {ops : Array Oper} {o : Oper} {a : Act} {K : Act → World → Prop} {Q : Exit → Act → World → Prop} {E : Prop}
    (hg : o.guard = none) (s x : Operand) (t : TypeId) (hop : o.op = Op.call { callee := Callee.builtin Builtin.append, args := #[s, x], argTypes := #[t, t] })
    (base : Nat) (e : TypeId) (i : TypeInfo) (z : Value) (size bytes : Nat) (h1 : P.underlying t = some (.slice e)) (h2 : P.info? e = some i) (h3 : i.zero = some z) (h4 : i.size = size) (h5 : i.bytes = bytes) (h6 : z.cells.size = size) (h7 : 0 < size)
    (v : Value) (k : Nat) (xs : List Value) (hs : a.eval s = v) (hown : w.ownsRow base e size v k xs) (ao : Option Addr) (m c : Nat) (news : List Value) (hx : a.eval x = .slice ao m c) (hn : news.length = m * size)
    (hnone : ao = none → m = 0 ∧ c = 0) (hc : ∀ ad, ao = some ad → ∀ j u, news[j]? = some u → w.cell? (ad.add j) = some u) (h1c : ∀ u ∈ news, u.oneCell' = true) (b1 : k + m ≤ maxLen) (b2 : (k + m) * bytes ≤ 140737488355328) (b3 : base ≤ w.heap.size)
    (hK : ∀ v' w', w'.ownsRow base e size v' (k + m) (xs ++ news) → w.grownBy w' v.ownBlock → K (a.put o.dst v') w') :
    if Region.wanted o (yielded ops a.tmps) = true then Oper.wp P o a w K Q else E := by
  have hw : Region.wanted o (yielded ops a.tmps) = true := by simp [Region.wanted, hg]
  rw [if_pos hw]
  cases ao with
  | some ad => exact wp_append_own w s x t hop base e i z size bytes h1 h2 h3 h4 h5 h6 h7 v k xs hs hown ad m c news hx hn (hc ad rfl) h1c b1 b2 b3 (fun v' w' h1 h2 _ => hK v' w' h1 h2)
  | none =>
    obtain ⟨rfl, rfl⟩ := hnone rfl
    have hnews : news = [] := List.eq_nil_of_length_eq_zero (by simpa using hn)
    subst hnews
    have hrun := run_append_owned_none (P := P) w base t o.type e i size h1 h2 _ k xs hown
    unfold Oper.wp execOp
    simp only [hop, resolve, invoke, builtin, Sem.run_bind, Sem.run_pure, Result.andThen_ok, List.map_toArray, List.map_cons, List.map_nil, hs, hx, hrun]
    exact hK v w (by simpa using hown) (World.grownBy.refl _ _)
end Go.Proofs.Ytacbhbmjhlgflaa
