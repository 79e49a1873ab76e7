/-
  Texts that stood by themselves, laid into one.
-/
import Derived.Test.YtdakifahedelcaaDoorSNumM
import Derived.Deep.LoopGhost
import Derived.Deep.CutRange
import Derived.Deep.DeepCutAuto
import Derived.Deep.RegionHeld
import Derived.Test.YtdakifahedelcaaDoorMark2M
import Derived.OpenShut
/-
  The contract of spec.l3Num. No condition beyond the text's length.
-/
namespace Go.Proofs.YtdakifahedelcaaDoor
open Go.RowKit

theorem body_sign {l : List UInt8} (h : 1 < l.length) (h0 : l[0]? = some 45) : body l = l.drop 1 := by
  match l, h with
  | c :: d :: r, _ =>
    simp at h0
    subst h0
    rfl
theorem body_plain {l : List UInt8} (h : ¬ (1 < l.length ∧ l[0]? = some 45)) : body l = l := by
  match l with
  | [] => rfl
  | [c] => rfl
  | c :: d :: r =>
    simp at h
    simp [body, h]
theorem body_len (l : List UInt8) : (body l).length ≤ l.length := by
  match l with
  | [] => simp [body]
  | [c] => simp [body]
  | c :: d :: r => simp only [body]; split <;> simp

theorem ext_drop (s : ByteArray) : (s.extract 1 s.size).data.toList = s.data.toList.drop 1 := by
  rw [ByteArray.data_extract, Array.toList_extract]
  simp [List.extract]
  rw [show s.size = s.data.toList.length by rw [Array.length_toList]; rfl]
  rw [List.take_of_length_le (by simp)]

set_option maxRecDepth 100000 in
set_option maxHeartbeats 1600000 in
theorem snum_any (s : ByteArray) (w : World) (hs : s.size ≤ maxLen) :
    Calls Tryd.prog 74 #[.string s] w fun e w' => ∃ x : Int, e = .returned (.tuple #[.int .i64 x, .bool (numB s.data.toList)]) ∧ (numB s.data.toList = true → x = tval s.data.toList) ∧ Below w.heap.size w w' := by
  unfold maxLen at hs
  have hll : s.data.toList.length = s.size := by rw [Array.length_toList]; rfl
  have HLL : Hid (s.data.toList.length = s.size) := hll
  go_enter Tryd.func74, Tryd.ntmps74
  go_upto_region 2 with fail
  go_cut [15] from 7 (fun s15 wx => wx = w ∧ ∃ bb : Bool, s15 = .bool bb ∧ (bb = true → 1 < s.size) ∧ Hid (bb = true → body s.data.toList = s.data.toList.drop 1) ∧ Hid (bb = false → body s.data.toList = s.data.toList))
  case first =>
    by_cases h1 : 1 < s.size
    · have h1' : (1 : Int) < s.size := by omega
      by_cases h45 : s[0].toNat = 45
      · have HB : Hid (body s.data.toList = s.data.toList.drop 1) := body_sign (by omega) (by rw [get_list s 0 (by omega)]; congr 1; exact UInt8.toNat_inj.1 h45)
        go_wp2_with fail
        go_meet
        case rel => exact ⟨rfl, true, rfl, fun _ => h1, fun _ => HB.out, fun h => by cases h⟩
      · have HB : Hid (body s.data.toList = s.data.toList) := body_plain (fun h => h45 (by
          have := h.2
          rw [get_list s 0 (by omega)] at this
          simp only [Option.some.injEq] at this
          rw [this]
          rfl))
        have h45' : ((s[0].toNat : Int) == 45) = false := by simp; omega
        go_wp2_with fail
        go_meet
        case rel => exact ⟨rfl, false, rfl, (fun h => by cases h), (fun h => by cases h), fun _ => HB.out⟩
    · have HB : Hid (body s.data.toList = s.data.toList) := body_plain (fun h => by have := h.1; omega)
      have h1' : ¬ (1 : Int) < s.size := by omega
      go_wp2_with fail
      go_meet
      case rel => exact ⟨rfl, false, rfl, (fun h => by cases h), (fun h => by cases h), fun _ => HB.out⟩
  case rest =>
    obtain ⟨rfl, bb, rfl, hb1, HT, HF⟩ := hcut
    go_upto_if 15 with fail
    go_cut [4] from 7 (fun s4 wx => wx = wc ∧ ∃ t : ByteArray, s4 = .string t ∧ t.size ≤ s.size ∧ Hid (t.data.toList = body s.data.toList))
    case first =>
      cases bb with
      | true =>
        have h1 := hb1 rfl
        have h1' : (1 : Int) ≤ s.size := by omega
        have HE : Hid ((s.extract 1 s.size).data.toList = body s.data.toList) := by unfold Hid; rw [HT.out rfl]; exact ext_drop s
        have hez : (s.extract 1 s.size).size ≤ s.size := by rw [ByteArray.size_extract]; omega
        go_wp2_with fail
        go_meet
        case rel => exact ⟨rfl, _, rfl, hez, HE⟩
      | false =>
        have HE : Hid (s.data.toList = body s.data.toList) := (HF.out rfl).symm
        go_wp2_with fail
        go_meet
        case rel => exact ⟨rfl, s, rfl, Nat.le_refl _, HE⟩
    case rest =>
      obtain ⟨rfl, t, rfl, hts, HE⟩ := hcut
      obtain ⟨w1, hw1⟩ : ∃ w1, w1 = wc := ⟨_, rfl⟩
      subst hw1
      have HTZ : Hid (t.size = (body s.data.toList).length) := by
        unfold Hid
        rw [← HE.out, Array.length_toList]
        rfl
      clear hb1 HT HF hll
      by_cases h10 : t.size ≤ 10
      · by_cases h0 : t.size = 0
        · have HN : Hid (numB s.data.toList = false) := by
            unfold Hid
            rw [Bool.eq_false_iff]
            intro h
            have := (numB_body h).2.1
            rw [← List.length_pos_iff, ← HTZ.out] at this
            omega
          have h0' : ((t.size : Int) == 0) = true := by rw [h0]; rfl
          have h10' : ¬ (10 : Int) < t.size := by omega
          go_wp2_with fail
          go_ret2
          exact ⟨0, by rw [HN.out]; rfl, fun h => by (rw [HN.out] at h; cases h), Below.refl _ _⟩
        · have h0' : ((t.size : Int) == 0) = false := by rw [beq_eq_false_iff_ne]; omega
          have h10' : ¬ (10 : Int) < t.size := by omega
          go_wp2_with fail
          go_loopg [5, 6] t.size (fun g x i wr => wr = w1 ∧ ∃ k : Nat, k ≤ t.size ∧ g = t.size - k ∧ i = .int .i64 k ∧ (∃ d : Nat, x = .int .i64 d ∧ d ≤ 9999999999 ∧ (k < 10 → d ≤ 999999999) ∧ d = dval ((body s.data.toList).take k) 0) ∧ ∀ c ∈ (body s.data.toList).take k, isDig c = true)
          case atStart => exact ⟨rfl, 0, by omega, by omega, rfl, ⟨0, rfl, by omega, (fun _ => by omega), rfl⟩, by simp⟩
          case round =>
            obtain ⟨rfl, k, hk, hgk, rfl, ⟨d, rfl, hd1, hd2, hd⟩, hall⟩ := hrel
            have HD : Hid (d = dval ((body s.data.toList).take k) 0) := hd
            have HA : Hid (∀ c ∈ (body s.data.toList).take k, isDig c = true) := hall
            clear hd hall
            by_cases hlt : k < t.size
            · have hkt : ((k : Int) < (t.size : Int)) := by omega
              have HG : Hid ((body s.data.toList)[k]? = some t[k]) := by unfold Hid; rw [← HE.out]; exact get_list t k hlt
              go_wp2_with fail
              refine (sdigit_any _ _).mono ?_
              rintro e w2 ⟨rfl, rfl⟩
              cases hdg : digB (t[k].toNat) with
              | true =>
                have hdn := hdg
                simp only [digB, Bool.and_eq_true, decide_eq_true_eq] at hdn
                have HA' : Hid (∀ c ∈ (body s.data.toList).take (k + 1), isDig c = true) := by
                  unfold Hid
                  obtain ⟨hl', he'⟩ := List.getElem?_eq_some_iff.1 HG.out
                  rw [List.take_succ_eq_append_getElem hl', he']
                  intro c hc
                  rw [List.mem_append, List.mem_singleton] at hc
                  rcases hc with hc | rfl
                  · exact HA.out c hc
                  · simp only [isDig, Bool.and_eq_true, decide_eq_true_eq]
                    omega
                have HD' : Hid (10 * d + (t[k].toNat - 48) = dval ((body s.data.toList).take (k + 1)) 0) := by unfold Hid; rw [dval_take _ k _ HG.out, ← HD.out]
                have hb1 : 10 * d + (t[k].toNat - 48) ≤ 9999999999 := by have := hd2 (by omega); omega
                have hb2 : k + 1 < 10 → 10 * d + (t[k].toNat - 48) ≤ 999999999 := fun h => by
                  rw [HD'.out]
                  have h1 := dval_lt _ 0 HA'.out
                  have h2 : (List.take (k + 1) (body s.data.toList)).length ≤ 9 := by rw [List.length_take]; omega
                  have h3 := Nat.pow_le_pow_right (show 0 < 10 by omega) h2
                  omega
                have HI : Hid ((10 * (d : Int) + (t[k].toNat : Int) - 48) = ((10 * d + (t[k].toNat - 48) : Nat) : Int)) := by unfold Hid; omega
                go_wp2_with fail
                go_roundg (t.size - (k + 1))
                case measure => omega
                case rel => exact ⟨rfl, k + 1, by omega, rfl, by go_num, ⟨10 * d + (t[k].toNat - 48), by rw [← HI.out], hb1, hb2, HD'.out⟩, HA'.out⟩
              | false =>
                have HN : Hid (numB s.data.toList = false) := by
                  unfold Hid
                  rw [Bool.eq_false_iff]
                  intro h
                  have h1 := (numB_body h).1 _ (List.mem_of_getElem? HG.out)
                  simp only [isDig, Bool.and_eq_true, decide_eq_true_eq] at h1
                  rw [Bool.eq_false_iff] at hdg
                  apply hdg
                  simp only [digB, Bool.and_eq_true, decide_eq_true_eq]
                  omega
                go_wp2_with fail
                go_ret2
                exact ⟨0, by rw [HN.out]; rfl, fun h => by (rw [HN.out] at h; cases h), Below.refl _ _⟩
            · have HDV : Hid (dval (body s.data.toList) 0 = d) := by
                unfold Hid
                rw [HD.out, List.take_of_length_le (by rw [← HTZ.out]; omega)]
              by_cases hsz : t.size = s.size
              · have hszn : ((t.size : Int) != (s.size : Int)) = false := by rw [hsz]; simp
                have HX : Hid (tval s.data.toList = (d : Int)) := by
                  unfold Hid tval
                  rw [HDV.out, if_pos (by rw [← HTZ.out, HLL.out]; omega)]
                have hxr : -99999999999 ≤ ((d : Int) : Int) ∧ ((d : Int) : Int) ≤ 99999999999 := by omega
                have HE1 : Hid (((tx (Lib.itoa ((d : Int)))).toList == s.toList) = (Lib.itoa ((d : Int)) == s.data.toList)) := by unfold Hid; rw [ByteArray.toList_eq, ByteArray.toList_eq, tx_list]
                have HNB : Hid (numB s.data.toList = (decide (-1000000000 ≤ ((d : Int) : Int)) && decide (((d : Int) : Int) ≤ 1000000000) && (Lib.itoa ((d : Int)) == s.data.toList))) := by unfold Hid numB; rw [HX.out]
                go_wp2_with fail
                refine (sdigits_wide _ _ hxr).mono ?_
                rintro e w2 ⟨rfl, hb2⟩
                cases hbb : ((tx (Lib.itoa ((d : Int)))).toList == s.toList) with
                | true =>
                  have HE2 : Hid ((Lib.itoa ((d : Int)) == s.data.toList) = true) := HE1.out.symm.trans hbb
                  clear HE1
                  go_wp2_with fail
                  refine (lin_any _ _ _ _).mono ?_
                  rintro e w3 ⟨rfl, rfl⟩
                  go_wp2_with fail
                  go_ret2
                  exact ⟨_, by rw [HNB.out, HE2.out, Bool.and_true]; rfl, (fun _ => HX.out.symm), hb2⟩
                | false =>
                  have HE2 : Hid ((Lib.itoa ((d : Int)) == s.data.toList) = false) := HE1.out.symm.trans hbb
                  clear HE1
                  go_wp2_with fail
                  go_ret2
                  exact ⟨_, by rw [HNB.out, HE2.out, Bool.and_false]; rfl, (fun _ => HX.out.symm), hb2⟩
              · have hszn : ((t.size : Int) != (s.size : Int)) = true := by simp; omega
                have HX : Hid (tval s.data.toList = -(d : Int)) := by
                  unfold Hid tval
                  rw [HDV.out, if_neg (by rw [← HTZ.out, HLL.out]; omega)]
                have hxr : -99999999999 ≤ (-(d : Int) : Int) ∧ (-(d : Int) : Int) ≤ 99999999999 := by omega
                have HE1 : Hid (((tx (Lib.itoa (-(d : Int)))).toList == s.toList) = (Lib.itoa (-(d : Int)) == s.data.toList)) := by unfold Hid; rw [ByteArray.toList_eq, ByteArray.toList_eq, tx_list]
                have HNB : Hid (numB s.data.toList = (decide (-1000000000 ≤ (-(d : Int) : Int)) && decide ((-(d : Int) : Int) ≤ 1000000000) && (Lib.itoa (-(d : Int)) == s.data.toList))) := by unfold Hid numB; rw [HX.out]
                have HQ : Hid ((decide (-1000000000 ≤ (-(d : Int) : Int)) && decide ((-(d : Int) : Int) ≤ 1000000000)) = decide ((d : Int) ≤ 1000000000)) := by unfold Hid; rw [Bool.eq_iff_iff, Bool.and_eq_true, decide_eq_true_iff, decide_eq_true_iff, decide_eq_true_iff]; omega
                go_wp2_with fail
                refine (sdigits_wide _ _ hxr).mono ?_
                rintro e w2 ⟨rfl, hb2⟩
                cases hbb : ((tx (Lib.itoa (-(d : Int)))).toList == s.toList) with
                | true =>
                  have HE2 : Hid ((Lib.itoa (-(d : Int)) == s.data.toList) = true) := HE1.out.symm.trans hbb
                  clear HE1
                  go_wp2_with fail
                  refine (lin_any _ _ _ _).mono ?_
                  rintro e w3 ⟨rfl, rfl⟩
                  go_wp2_with fail
                  go_ret2
                  exact ⟨_, by rw [HNB.out, HE2.out, Bool.and_true, HQ.out]; rfl, (fun _ => HX.out.symm), hb2⟩
                | false =>
                  have HE2 : Hid ((Lib.itoa (-(d : Int)) == s.data.toList) = false) := HE1.out.symm.trans hbb
                  clear HE1
                  go_wp2_with fail
                  go_ret2
                  exact ⟨_, by rw [HNB.out, HE2.out, Bool.and_false]; rfl, (fun _ => HX.out.symm), hb2⟩
      · have HN : Hid (numB s.data.toList = false) := by
          unfold Hid
          rw [Bool.eq_false_iff]
          intro h
          have := (numB_body h).2.2
          rw [← HTZ.out] at this
          omega
        have h10' : (10 : Int) < t.size := by omega
        go_wp2_with fail
        go_ret2
        exact ⟨0, by rw [HN.out]; rfl, fun h => by (rw [HN.out] at h; cases h), Below.refl _ _⟩
end Go.Proofs.YtdakifahedelcaaDoor

/-
  Contracts of the draws' own cursor: l1New makes one; l1Byte gives a number from 0 to 255 and turns nothing but the cursor.
-/
namespace Go.Proofs.YtdakifahedelcaaDoor
open Go.RowKit

theorem and255 (x : Int) : 0 ≤ bits .and .i64 x 255 ∧ bits .and .i64 x 255 ≤ 255 := by
  have e : (BitVec.ofInt IntKind.i64.bits 255).toNat = 255 := by decide
  have hle : ((BitVec.ofInt IntKind.i64.bits x) &&& (BitVec.ofInt IntKind.i64.bits 255)).toNat ≤ 255 := by
    rw [BitVec.toNat_and, e]; exact Nat.and_le_right
  have h : bits .and .i64 x 255 = IntKind.i64.wrap (((BitVec.ofInt IntKind.i64.bits x) &&& (BitVec.ofInt IntKind.i64.bits 255)).toNat : Int) := rfl
  rw [h, IntKind.wrap_i64]
  omega
theorem and30 (x : Int) : 0 ≤ bits .and .i64 x 1073741823 ∧ bits .and .i64 x 1073741823 ≤ 1073741823 := by
  have e : (BitVec.ofInt IntKind.i64.bits 1073741823).toNat = 1073741823 := by decide
  have hle : ((BitVec.ofInt IntKind.i64.bits x) &&& (BitVec.ofInt IntKind.i64.bits 1073741823)).toNat ≤ 1073741823 := by
    rw [BitVec.toNat_and, e]; exact Nat.and_le_right
  have h : bits .and .i64 x 1073741823 = IntKind.i64.wrap (((BitVec.ofInt IntKind.i64.bits x) &&& (BitVec.ofInt IntKind.i64.bits 1073741823)).toNat : Int) := rfl
  rw [h, IntKind.wrap_i64]
  omega

theorem wrap64_bounds (x : Int) : -9223372036854775808 ≤ wrap64 x ∧ wrap64 x ≤ 9223372036854775807 := by
  unfold wrap64; omega

/-- A cursor at block P over a slice that reads as zs in w0: nothing of w0 has turned, and the cursor's place is within zs. -/
def Cur (w0 : World) (v : Value) (zs : List Int) (w : World) (P : Nat) : Prop :=
  Row w0 v zs ∧ Below w0.heap.size w0 w ∧ w0.heap.size ≤ P ∧ ∃ (i : Nat) (h : Int), i ≤ zs.length ∧ -9223372036854775808 ≤ h ∧ h ≤ 9223372036854775807 ∧ w.heap[P]? = some (.cells #[v, .int .i64 i, .int .i64 h] 101 (0, 0))

theorem Cur.lt {w0 : World} {v : Value} {zs : List Int} {w : World} {P : Nat} (c : Cur w0 v zs w P) : P < w.heap.size := by
  obtain ⟨_, _, _, i, h, _, _, _, hh⟩ := c
  exact (Array.getElem?_eq_some_iff.1 hh).1
/-- What leaves the cursor's block alone leaves the cursor. -/
theorem Cur.kept {w0 : World} {v : Value} {zs : List Int} {w w' : World} {P : Nat} (c : Cur w0 v zs w P) (hb : Below (P + 1) w w') : Cur w0 v zs w' P := by
  obtain ⟨R, B, hP, i, h, hi, h1, h2, hh⟩ := c
  exact ⟨R, B.trans (hb.mono (by omega)), hP, i, h, hi, h1, h2, (hb.block P (by omega)).trans hh⟩

theorem Cur.turned {w0 : World} {v : Value} {zs : List Int} {w w' : World} {P : Nat} (R : Row w0 v zs) (B : Below w0.heap.size w0 w) (hP : w0.heap.size ≤ P) (hg : w.grownBy w' (some P)) (hsz : w0.heap.size ≤ w.heap.size) {i : Nat} {h : Int} (hi : i ≤ zs.length) (h1 : -9223372036854775808 ≤ h) (h2 : h ≤ 9223372036854775807)
    (hh : w'.heap[P]? = some (.cells #[v, .int .i64 i, .int .i64 h] 101 (0, 0))) : Cur w0 v zs w' P :=
  ⟨R, B.grown hg hsz (fun k hk => by simp at hk; omega), hP, i, h, hi, h1, h2, hh⟩
theorem grown_drewN {w w' : World} {row : Option Nat} (h : w.grownBy w' row) (n : Nat) : w.grownBy (w'.drewN n) row := ⟨h.os, h.tape, h.output, h.size, h.block⟩

set_option maxHeartbeats 800000 in
theorem byte_any (w0 : World) (v : Value) (zs : List Int) (w : World) (P : Nat) (c : Cur w0 v zs w P) :
    Calls Tryd.prog 62 #[.pointer (some ⟨P, 0, none⟩)] w fun e w' => ∃ x : Int, e = .returned (.int .i64 x) ∧ 0 ≤ x ∧ x ≤ 255 ∧ Cur w0 v zs w' P ∧ w.grownBy w' (some P) := by
  obtain ⟨R, B, hP, i, h, hi, h1, h2, hh⟩ := c
  have R' := R
  obtain ⟨ao, cap, rfl, hcap, hm, hz, hcell⟩ := R'
  have c0 : w.cell? ⟨P, 0, none⟩ = some (.slice ao zs.length cap) := by rw [cell_of_row w P 0 _ 101 (0, 0) hh]; rfl
  have c1 : w.cell? ⟨P, 1, none⟩ = some (.int .i64 i) := by rw [cell_of_row w P 1 _ 101 (0, 0) hh]; rfl
  have c2 : w.cell? ⟨P, 2, none⟩ = some (.int .i64 h) := by rw [cell_of_row w P 2 _ 101 (0, 0) hh]; rfl
  have f1 := frozen_of_row w P 1 _ 101 hh
  have f2 := frozen_of_row w P 2 _ 101 hh
  by_cases hlt : i < zs.length
  · obtain ⟨g, o, rfl, hg, hcell⟩ := hcell (by intro e; subst e; simp at hlt)
    have hc0 : w.cell? ⟨g, o + i, none⟩ = some (.int .u8 (zs.getD i 0)) := (B.cell (p := ⟨g, o + i, none⟩) hg).trans (hcell i hlt)
    have hzb := hz zs[i] (List.getElem_mem _)
    have hgP : g ≠ P := by omega
    clear hcell hz
    go_enter Tryd.func62, Tryd.ntmps62
    go_wp2
    have hwb := wrap64_bounds (wrap64 (h * 6364136223846793005) + 1442695040888963407)
    generalize wrap64 (wrap64 (h * 6364136223846793005) + 1442695040888963407) = h3 at hwb ⊢
    go_quiet (fail)
    have hx := and255 (bits BinOp.xor IntKind.i64 (h3 / 8589934592) (h3 / 35184372088832))
    generalize bits BinOp.and IntKind.i64 (bits BinOp.xor IntKind.i64 (h3 / 8589934592) (h3 / 35184372088832)) 255 = x at hx ⊢
    go_wp2
    go_quiet (fail)
    go_wp2
    go_quiet (fail)
    have hx2 := and255 (x + zs[i])
    generalize bits BinOp.and IntKind.i64 (x + zs[i]) 255 = x2 at hx2 ⊢
    go_wp2
    go_ret
    have hg2 : w.grownBy (w.setCell ⟨P, 2, none⟩ (.int .i64 h3)) (some P) := grown_set w P 2 _
    have hh2 := heap_setCell_same w P 2 _ 101 (.int .i64 h3) hh
    have hh3 := heap_setCell_same (w.setCell ⟨P, 2, none⟩ (.int .i64 h3)) P 1 _ 101 (.int .i64 ((i : Int) + 1)) hh2
    refine ⟨x2, rfl, hx2.1, hx2.2, Cur.turned R B hP ?_ B.size (i := i + 1) (h := h3) (by omega) hwb.1 hwb.2 hh3, ?_⟩
    all_goals exact grown_trans (grown_drewN hg2 _) (grown_set _ P 1 _)
  · clear hcell hz
    go_enter Tryd.func62, Tryd.ntmps62
    go_wp2
    have hwb := wrap64_bounds (wrap64 (h * 6364136223846793005) + 1442695040888963407)
    generalize wrap64 (wrap64 (h * 6364136223846793005) + 1442695040888963407) = h3 at hwb ⊢
    go_quiet (fail)
    have hx := and255 (bits BinOp.xor IntKind.i64 (h3 / 8589934592) (h3 / 35184372088832))
    generalize bits BinOp.and IntKind.i64 (bits BinOp.xor IntKind.i64 (h3 / 8589934592) (h3 / 35184372088832)) 255 = x at hx ⊢
    go_wp2
    go_quiet (fail)
    go_wp2
    go_ret
    have hg2 : w.grownBy (w.setCell ⟨P, 2, none⟩ (.int .i64 h3)) (some P) := grown_set w P 2 _
    have hh2 := heap_setCell_same w P 2 _ 101 (.int .i64 h3) hh
    exact ⟨x, rfl, hx.1, hx.2, Cur.turned R B hP (grown_drewN (grown_drewN hg2 _) _) B.size (i := i) (h := h3) hi hwb.1 hwb.2 hh2, grown_drewN (grown_drewN hg2 _) _⟩

end Go.Proofs.YtdakifahedelcaaDoor

/-
  Contracts of the draws' own helpers: l1New, l1Below, l1Size: a cursor; a number below another one; a size.
-/
namespace Go.Proofs.YtdakifahedelcaaDoor
open Go.RowKit

set_option maxRecDepth 100000 in
set_option maxHeartbeats 800000 in
theorem new_any (v : Value) (zs : List Int) (w : World) (R : Row w v zs) (hl : zs.length ≤ 1048576) :
    Calls Tryd.prog 28 #[v] w fun e w' => e = .returned (.pointer (some ⟨w.heap.size, 0, none⟩)) ∧ Cur w v zs w' w.heap.size ∧ Below w.heap.size w w' := by
  have R' := R
  obtain ⟨ao, cap, rfl, hcap, hm, hz, hcell⟩ := R'
  go_enter Tryd.func28, Tryd.ntmps28
  go_wp2
  go_loop [3, 4] (fun h i => ∃ (k : Nat) (q : Int), k ≤ zs.length ∧ i = .int .i64 k ∧ h = .int .i64 q ∧ 0 ≤ q ∧ q ≤ 1073741823) (fun _ i => zs.length - (intOf i).toNat)
  case atStart => exact ⟨0, 17000 + (zs.length : Int), by omega, rfl, rfl, by omega, by omega⟩
  case round =>
    obtain ⟨k, q, hk, rfl, rfl, hq0, hq1⟩ := hrel
    by_cases hlt : k < zs.length
    · by_cases h4 : k < 4000
      · obtain ⟨g, o, hao, hg, hcell2⟩ := hcell (by intro e; subst e; simp at hlt)
        subst hao
        have hc := hcell2 k hlt
        have hzb := hz zs[k] (List.getElem_mem _)
        clear hcell hcell2 hz R
        go_wp2
        have ha := and30 (q * 131 + zs[k] + 7)
        go_round
        case rel => exact ⟨k + 1, _, by omega, by go_num, rfl, ha.1, ha.2⟩
        case measure => simp [intOf]; omega
      · clear hcell hz
        go_wp2
        go_ret
        refine ⟨rfl, ⟨R, (Below.refl _ _).alloc (Nat.le_refl _) _, Nat.le_refl _, 0, q, by omega, by omega, by omega, heap_alloc_new w _⟩, (Below.refl _ _).alloc (Nat.le_refl _) _⟩
    · clear hcell hz
      go_wp2
      go_ret
      refine ⟨rfl, ⟨R, (Below.refl _ _).alloc (Nat.le_refl _) _, Nat.le_refl _, 0, q, by omega, by omega, by omega, heap_alloc_new w _⟩, (Below.refl _ _).alloc (Nat.le_refl _) _⟩

set_option maxHeartbeats 800000 in
theorem below_any (w0 : World) (v : Value) (zs : List Int) (w : World) (P : Nat) (n : Int) (c : Cur w0 v zs w P) (hn : n ≤ 9223372036854775807) :
    Calls Tryd.prog 32 #[.pointer (some ⟨P, 0, none⟩), .int .i64 n] w fun e w' => ∃ x : Int, e = .returned (.int .i64 x) ∧ 0 ≤ x ∧ (1 ≤ n → x < n) ∧ Cur w0 v zs w' P ∧ w.grownBy w' (some P) := by
  by_cases h0 : n ≤ 0
  · go_enter Tryd.func32, Tryd.ntmps32
    go_wp2
    go_ret
    exact ⟨0, rfl, by omega, by omega, c, World.grownBy.refl _ _⟩
  · by_cases h1 : n ≤ 256
    · go_enter Tryd.func32, Tryd.ntmps32
      go_wp2_with fail
      refine (byte_any w0 v zs w P c).mono ?_
      rintro e w1 ⟨x, rfl, hx0, hx1, c1, g1⟩
      go_wp2_with fail
      go_ret
      exact ⟨_, rfl, Int.emod_nonneg _ (by omega), fun _ => Int.emod_lt_of_pos _ (by omega), c1, g1⟩
    · go_enter Tryd.func32, Tryd.ntmps32
      go_wp2_with fail
      refine (byte_any w0 v zs w P c).mono ?_
      rintro e w1 ⟨x, rfl, hx0, hx1, c1, g1⟩
      go_wp2_with fail
      refine (byte_any w0 v zs w1 P c1).mono ?_
      rintro e w2 ⟨y, rfl, hy0, hy1, c2, g2⟩
      go_wp2_with fail
      refine (byte_any w0 v zs w2 P c2).mono ?_
      rintro e w3 ⟨z, rfl, hz0, hz1, c3, g3⟩
      go_wp2_with fail
      refine (byte_any w0 v zs w3 P c3).mono ?_
      rintro e w4 ⟨u, rfl, hu0, hu1, c4, g4⟩
      go_wp2_with fail
      go_ret
      exact ⟨_, rfl, Int.emod_nonneg _ (by omega), fun _ => Int.emod_lt_of_pos _ (by omega), c4, grown_trans (grown_trans (grown_trans g1 g2) g3) g4⟩

end Go.Proofs.YtdakifahedelcaaDoor
