/-
  The contract of spec.l3Num. No condition beyond the text's length.
-/
import Derived.Test.YtkoiccocgejmcaaDoorSNum
import Derived.Deep.LoopGhost
import Derived.Deep.CutRange
import Derived.Deep.DeepCutAuto
import Derived.Deep.RegionHeld
namespace Go.Proofs.YtkoiccocgejmcaaDoor
open Go.RowKit

theorem body_sign {l : List UInt8} (h : 1 < l.length) (h0 : l[0]? = some 45) : body l = l.drop 1 := by
  match l, h with
  | c :: d :: r, _ =>
    simp at h0
    subst h0
    rfl
theorem body_plain {l : List UInt8} (h : ¬ (1 < l.length ∧ l[0]? = some 45)) : body l = l := by
  match l with
  | [] => rfl
  | [c] => rfl
  | c :: d :: r =>
    simp at h
    simp [body, h]
theorem body_len (l : List UInt8) : (body l).length ≤ l.length := by
  match l with
  | [] => simp [body]
  | [c] => simp [body]
  | c :: d :: r => simp only [body]; split <;> simp

theorem ext_drop (s : ByteArray) : (s.extract 1 s.size).data.toList = s.data.toList.drop 1 := by
  rw [ByteArray.data_extract, Array.toList_extract]
  simp [List.extract]
  rw [show s.size = s.data.toList.length by rw [Array.length_toList]; rfl]
  rw [List.take_of_length_le (by simp)]

set_option maxRecDepth 100000 in
set_option maxHeartbeats 1600000 in
theorem snum_any (s : ByteArray) (w : World) (hs : s.size ≤ maxLen) :
    Calls Tryd.prog 23 #[.string s] w fun e w' => ∃ x : Int, e = .returned (.tuple #[.int .i64 x, .bool (numB s.data.toList)]) ∧ (numB s.data.toList = true → x = tval s.data.toList) ∧ Below w.heap.size w w' := by
  unfold maxLen at hs
  have hll : s.data.toList.length = s.size := by rw [Array.length_toList]; rfl
  have HLL : Hid (s.data.toList.length = s.size) := hll
  go_enter Tryd.func23, Tryd.ntmps23
  go_upto_region 2 with fail
  go_cut [15] from 7 (fun s15 wx => wx = w ∧ ∃ bb : Bool, s15 = .bool bb ∧ (bb = true → 1 < s.size) ∧ Hid (bb = true → body s.data.toList = s.data.toList.drop 1) ∧ Hid (bb = false → body s.data.toList = s.data.toList))
  case first =>
    by_cases h1 : 1 < s.size
    · have h1' : (1 : Int) < s.size := by omega
      by_cases h45 : s[0].toNat = 45
      · have HB : Hid (body s.data.toList = s.data.toList.drop 1) := body_sign (by omega) (by rw [get_list s 0 (by omega)]; congr 1; exact UInt8.toNat_inj.1 h45)
        go_wp2_with fail
        go_meet
        case rel => exact ⟨rfl, true, rfl, fun _ => h1, fun _ => HB.out, fun h => by cases h⟩
      · have HB : Hid (body s.data.toList = s.data.toList) := body_plain (fun h => h45 (by
          have := h.2
          rw [get_list s 0 (by omega)] at this
          simp only [Option.some.injEq] at this
          rw [this]
          rfl))
        have h45' : ((s[0].toNat : Int) == 45) = false := by simp; omega
        go_wp2_with fail
        go_meet
        case rel => exact ⟨rfl, false, rfl, (fun h => by cases h), (fun h => by cases h), fun _ => HB.out⟩
    · have HB : Hid (body s.data.toList = s.data.toList) := body_plain (fun h => by have := h.1; omega)
      have h1' : ¬ (1 : Int) < s.size := by omega
      go_wp2_with fail
      go_meet
      case rel => exact ⟨rfl, false, rfl, (fun h => by cases h), (fun h => by cases h), fun _ => HB.out⟩
  case rest =>
    obtain ⟨rfl, bb, rfl, hb1, HT, HF⟩ := hcut
    go_upto_if 15 with fail
    go_cut [4] from 7 (fun s4 wx => wx = wc ∧ ∃ t : ByteArray, s4 = .string t ∧ t.size ≤ s.size ∧ Hid (t.data.toList = body s.data.toList))
    case first =>
      cases bb with
      | true =>
        have h1 := hb1 rfl
        have h1' : (1 : Int) ≤ s.size := by omega
        have HE : Hid ((s.extract 1 s.size).data.toList = body s.data.toList) := by unfold Hid; rw [HT.out rfl]; exact ext_drop s
        have hez : (s.extract 1 s.size).size ≤ s.size := by rw [ByteArray.size_extract]; omega
        go_wp2_with fail
        go_meet
        case rel => exact ⟨rfl, _, rfl, hez, HE⟩
      | false =>
        have HE : Hid (s.data.toList = body s.data.toList) := (HF.out rfl).symm
        go_wp2_with fail
        go_meet
        case rel => exact ⟨rfl, s, rfl, Nat.le_refl _, HE⟩
    case rest =>
      obtain ⟨rfl, t, rfl, hts, HE⟩ := hcut
      obtain ⟨w1, hw1⟩ : ∃ w1, w1 = wc := ⟨_, rfl⟩
      subst hw1
      have HTZ : Hid (t.size = (body s.data.toList).length) := by
        unfold Hid
        rw [← HE.out, Array.length_toList]
        rfl
      clear hb1 HT HF hll
      by_cases h10 : t.size ≤ 10
      · by_cases h0 : t.size = 0
        · have HN : Hid (numB s.data.toList = false) := by
            unfold Hid
            rw [Bool.eq_false_iff]
            intro h
            have := (numB_body h).2.1
            rw [← List.length_pos_iff, ← HTZ.out] at this
            omega
          have h0' : ((t.size : Int) == 0) = true := by rw [h0]; rfl
          have h10' : ¬ (10 : Int) < t.size := by omega
          go_wp2_with fail
          go_ret2
          exact ⟨0, by rw [HN.out]; rfl, fun h => by (rw [HN.out] at h; cases h), Below.refl _ _⟩
        · have h0' : ((t.size : Int) == 0) = false := by rw [beq_eq_false_iff_ne]; omega
          have h10' : ¬ (10 : Int) < t.size := by omega
          go_wp2_with fail
          go_loopg [5, 6] t.size (fun g x i wr => wr = w1 ∧ ∃ k : Nat, k ≤ t.size ∧ g = t.size - k ∧ i = .int .i64 k ∧ (∃ d : Nat, x = .int .i64 d ∧ d ≤ 9999999999 ∧ (k < 10 → d ≤ 999999999) ∧ d = dval ((body s.data.toList).take k) 0) ∧ ∀ c ∈ (body s.data.toList).take k, isDig c = true)
          case atStart => exact ⟨rfl, 0, by omega, by omega, rfl, ⟨0, rfl, by omega, (fun _ => by omega), rfl⟩, by simp⟩
          case round =>
            obtain ⟨rfl, k, hk, hgk, rfl, ⟨d, rfl, hd1, hd2, hd⟩, hall⟩ := hrel
            have HD : Hid (d = dval ((body s.data.toList).take k) 0) := hd
            have HA : Hid (∀ c ∈ (body s.data.toList).take k, isDig c = true) := hall
            clear hd hall
            by_cases hlt : k < t.size
            · have hkt : ((k : Int) < (t.size : Int)) := by omega
              have HG : Hid ((body s.data.toList)[k]? = some t[k]) := by unfold Hid; rw [← HE.out]; exact get_list t k hlt
              go_wp2_with fail
              refine (sdigit_any _ _).mono ?_
              rintro e w2 ⟨rfl, rfl⟩
              cases hdg : digB (t[k].toNat) with
              | true =>
                have hdn := hdg
                simp only [digB, Bool.and_eq_true, decide_eq_true_eq] at hdn
                have HA' : Hid (∀ c ∈ (body s.data.toList).take (k + 1), isDig c = true) := by
                  unfold Hid
                  obtain ⟨hl', he'⟩ := List.getElem?_eq_some_iff.1 HG.out
                  rw [List.take_succ_eq_append_getElem hl', he']
                  intro c hc
                  rw [List.mem_append, List.mem_singleton] at hc
                  rcases hc with hc | rfl
                  · exact HA.out c hc
                  · simp only [isDig, Bool.and_eq_true, decide_eq_true_eq]
                    omega
                have HD' : Hid (10 * d + (t[k].toNat - 48) = dval ((body s.data.toList).take (k + 1)) 0) := by unfold Hid; rw [dval_take _ k _ HG.out, ← HD.out]
                have hb1 : 10 * d + (t[k].toNat - 48) ≤ 9999999999 := by have := hd2 (by omega); omega
                have hb2 : k + 1 < 10 → 10 * d + (t[k].toNat - 48) ≤ 999999999 := fun h => by
                  rw [HD'.out]
                  have h1 := dval_lt _ 0 HA'.out
                  have h2 : (List.take (k + 1) (body s.data.toList)).length ≤ 9 := by rw [List.length_take]; omega
                  have h3 := Nat.pow_le_pow_right (show 0 < 10 by omega) h2
                  omega
                have HI : Hid ((10 * (d : Int) + (t[k].toNat : Int) - 48) = ((10 * d + (t[k].toNat - 48) : Nat) : Int)) := by unfold Hid; omega
                go_wp2_with fail
                go_roundg (t.size - (k + 1))
                case measure => omega
                case rel => exact ⟨rfl, k + 1, by omega, rfl, by go_num, ⟨10 * d + (t[k].toNat - 48), by rw [← HI.out], hb1, hb2, HD'.out⟩, HA'.out⟩
              | false =>
                have HN : Hid (numB s.data.toList = false) := by
                  unfold Hid
                  rw [Bool.eq_false_iff]
                  intro h
                  have h1 := (numB_body h).1 _ (List.mem_of_getElem? HG.out)
                  simp only [isDig, Bool.and_eq_true, decide_eq_true_eq] at h1
                  rw [Bool.eq_false_iff] at hdg
                  apply hdg
                  simp only [digB, Bool.and_eq_true, decide_eq_true_eq]
                  omega
                go_wp2_with fail
                go_ret2
                exact ⟨0, by rw [HN.out]; rfl, fun h => by (rw [HN.out] at h; cases h), Below.refl _ _⟩
            · have HDV : Hid (dval (body s.data.toList) 0 = d) := by
                unfold Hid
                rw [HD.out, List.take_of_length_le (by rw [← HTZ.out]; omega)]
              by_cases hsz : t.size = s.size
              · have hszn : ((t.size : Int) != (s.size : Int)) = false := by rw [hsz]; simp
                have HX : Hid (tval s.data.toList = (d : Int)) := by
                  unfold Hid tval
                  rw [HDV.out, if_pos (by rw [← HTZ.out, HLL.out]; omega)]
                have hxr : -99999999999 ≤ ((d : Int) : Int) ∧ ((d : Int) : Int) ≤ 99999999999 := by omega
                have HE1 : Hid (((tx (Lib.itoa ((d : Int)))).toList == s.toList) = (Lib.itoa ((d : Int)) == s.data.toList)) := by unfold Hid; rw [ByteArray.toList_eq, ByteArray.toList_eq, tx_list]
                have HNB : Hid (numB s.data.toList = (decide (-1000000000 ≤ ((d : Int) : Int)) && decide (((d : Int) : Int) ≤ 1000000000) && (Lib.itoa ((d : Int)) == s.data.toList))) := by unfold Hid numB; rw [HX.out]
                go_wp2_with fail
                refine (sdigits_wide _ _ hxr).mono ?_
                rintro e w2 ⟨rfl, hb2⟩
                cases hbb : ((tx (Lib.itoa ((d : Int)))).toList == s.toList) with
                | true =>
                  have HE2 : Hid ((Lib.itoa ((d : Int)) == s.data.toList) = true) := HE1.out.symm.trans hbb
                  clear HE1
                  go_wp2_with fail
                  refine (lin_any _ _ _ _).mono ?_
                  rintro e w3 ⟨rfl, rfl⟩
                  go_wp2_with fail
                  go_ret2
                  exact ⟨_, by rw [HNB.out, HE2.out, Bool.and_true]; rfl, (fun _ => HX.out.symm), hb2⟩
                | false =>
                  have HE2 : Hid ((Lib.itoa ((d : Int)) == s.data.toList) = false) := HE1.out.symm.trans hbb
                  clear HE1
                  go_wp2_with fail
                  go_ret2
                  exact ⟨_, by rw [HNB.out, HE2.out, Bool.and_false]; rfl, (fun _ => HX.out.symm), hb2⟩
              · have hszn : ((t.size : Int) != (s.size : Int)) = true := by simp; omega
                have HX : Hid (tval s.data.toList = -(d : Int)) := by
                  unfold Hid tval
                  rw [HDV.out, if_neg (by rw [← HTZ.out, HLL.out]; omega)]
                have hxr : -99999999999 ≤ (-(d : Int) : Int) ∧ (-(d : Int) : Int) ≤ 99999999999 := by omega
                have HE1 : Hid (((tx (Lib.itoa (-(d : Int)))).toList == s.toList) = (Lib.itoa (-(d : Int)) == s.data.toList)) := by unfold Hid; rw [ByteArray.toList_eq, ByteArray.toList_eq, tx_list]
                have HNB : Hid (numB s.data.toList = (decide (-1000000000 ≤ (-(d : Int) : Int)) && decide ((-(d : Int) : Int) ≤ 1000000000) && (Lib.itoa (-(d : Int)) == s.data.toList))) := by unfold Hid numB; rw [HX.out]
                have HQ : Hid ((decide (-1000000000 ≤ (-(d : Int) : Int)) && decide ((-(d : Int) : Int) ≤ 1000000000)) = decide ((d : Int) ≤ 1000000000)) := by unfold Hid; rw [Bool.eq_iff_iff, Bool.and_eq_true, decide_eq_true_iff, decide_eq_true_iff, decide_eq_true_iff]; omega
                go_wp2_with fail
                refine (sdigits_wide _ _ hxr).mono ?_
                rintro e w2 ⟨rfl, hb2⟩
                cases hbb : ((tx (Lib.itoa (-(d : Int)))).toList == s.toList) with
                | true =>
                  have HE2 : Hid ((Lib.itoa (-(d : Int)) == s.data.toList) = true) := HE1.out.symm.trans hbb
                  clear HE1
                  go_wp2_with fail
                  refine (lin_any _ _ _ _).mono ?_
                  rintro e w3 ⟨rfl, rfl⟩
                  go_wp2_with fail
                  go_ret2
                  exact ⟨_, by rw [HNB.out, HE2.out, Bool.and_true, HQ.out]; rfl, (fun _ => HX.out.symm), hb2⟩
                | false =>
                  have HE2 : Hid ((Lib.itoa (-(d : Int)) == s.data.toList) = false) := HE1.out.symm.trans hbb
                  clear HE1
                  go_wp2_with fail
                  go_ret2
                  exact ⟨_, by rw [HNB.out, HE2.out, Bool.and_false]; rfl, (fun _ => HX.out.symm), hb2⟩
      · have HN : Hid (numB s.data.toList = false) := by
          unfold Hid
          rw [Bool.eq_false_iff]
          intro h
          have := (numB_body h).2.2
          rw [← HTZ.out] at this
          omega
        have h10' : (10 : Int) < t.size := by omega
        go_wp2_with fail
        go_ret2
        exact ⟨0, by rw [HN.out]; rfl, fun h => by (rw [HN.out] at h; cases h), Below.refl _ _⟩
end Go.Proofs.YtkoiccocgejmcaaDoor
