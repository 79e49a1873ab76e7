/-
  The law FnDropped, walked: at every argument it returns true.
-/
import Derived.Test.YtdlbgdckkjhbdaaDLs2
import Derived.Test.YtdlbgdckkjhbdaaLsLaw
import Derived.Test.YtdlbgdckkjhbdaaLsGiveI
import Derived.Test.YtdlbgdckkjhbdaaLsGiveS
import Derived.Deep.RegionHeld
namespace Go.Proofs.Ytdlbgdckkjhbdaa
open Go.RowKit

set_option maxRecDepth 100000 in
set_option maxHeartbeats 400000 in
theorem fdropped_big (ao : Option Addr) (len cap : Nat) (w : World) (hl : 1048576 < len) (hm : len ≤ 9223372036854775807) :
    Calls Try.prog 4 #[.slice ao len cap] w fun e w' => e = .returned (.bool true) ∧ Below w.heap.size w w' := by
  go_enter Try.func4, Try.ntmps4
  go_wp2_with (go_at_call 9; go_in)
  go_ret
  exact ⟨rfl, Below.refl _ _⟩

set_option maxRecDepth 100000 in
set_option maxHeartbeats 12800000 in
theorem fdropped_small (ao : Option Addr) (cap : Nat) (zs : List Int) (w : World) (R : Row w (.slice ao zs.length cap) zs) (hl : zs.length ≤ 1048576) :
    Calls Try.prog 4 #[.slice ao zs.length cap] w fun e w' => e = .returned (.bool true) ∧ Below w.heap.size w w' := by
  go_enter Try.func4, Try.ntmps4
  go_wp2_with (go_at_call 9; go_in)
  refine (dleasedrop_any _ zs w R hl).mono ?_
  rintro e w1 ⟨u1, L, n, rfl, D1⟩
  have hB1 := D1.bel
  have hL := D1.len
  have RL := LsRow.of_own D1.own (by omega)
  obtain ⟨a1, c1, rfl⟩ := own_form D1.own
  clear D1
  have ID := fun (v : Value) (w : World) (R : LsRow w v L) => ileasedrop_any v L n w R
  have SD := fun (v : Value) (w : World) (R : LsRow w v L) => sleasedrop_any v L n w R
  have IK1 := fun (v : Value) (w : World) (i : Int) (R : LsRow w v L) => ikept_any v L i n w R
  have HK : Hid (∀ (k : Nat) (x : Ls), (dpL L n)[k]? = some x → n ≤ x.u ∧ (lsB (dpL L n) && ktB (dpL L n) x.i n) = true ∧ (lsB L && ktB L x.i n) = true) := fun k x h => dp_kept h
  have hQl := dpL_len L n
  have IK2 := fun (v : Value) (w : World) (i : Int) (R : LsRow w v (dpL L n)) => ikept_any v (dpL L n) i n w R
  generalize dpL L n = Q at *
  go_wp2_with fail
  refine (ID _ _ RL).mono ?_
  rintro e w2 ⟨u2, rfl, o2, hb2⟩
  have hB2 := hB1.trans (hb2.mono hB1.size)
  replace RL := RL.below hb2
  obtain ⟨a2, c2, rfl⟩ := own_form o2
  have RQ := LsRow.of_own o2 (by omega)
  clear o2 hb2 hB1 ID
  have hqq : ((Q.length : Int) != (Q.length : Int)) = false := by simp
  go_wp2_with fail
  refine (SD _ _ RL).mono ?_
  rintro e w3 ⟨u3, rfl, o3, hb3⟩
  obtain ⟨a3, c3, rfl⟩ := own_form o3
  have hB3 := hB2.trans (hb3.mono hB2.size)
  replace RL := RL.below hb3
  replace RQ := RQ.below hb3
  clear o3 hb3 hB2 SD
  go_wp2_with fail
  go_loopw [6] (fun i wr => ∃ j : Nat, j ≤ Q.length ∧ i = .int .i64 j ∧ Below w3.heap.size w3 wr) (fun i _ => Q.length - (intOf i).toNat)
  case atStart => exact ⟨0, by omega, rfl, Below.refl _ _⟩
  case round =>
    obtain ⟨j, hj, rfl, hb⟩ := hrel
    have hB := hB3.trans (hb.mono hB3.size)
    replace RL := RL.below hb
    replace RQ := RQ.below hb
    have hbw := hb
    clear hB3 hb
    by_cases hlt : j < Q.length
    · have hlt' : (j : Int) < (Q.length : Int) := by omega
      obtain ⟨x, hx⟩ : ∃ x, Q[j]? = some x := ⟨Q[j], by simp [hlt]⟩
      obtain ⟨k1, k2, k3⟩ := HK.out j x hx
      have K1 := fun (v : Value) (w : World) (R : LsRow w v L) => IK1 v w x.i R
      have K2 := fun (v : Value) (w : World) (R : LsRow w v Q) => IK2 v w x.i R
      rw [k2] at K2
      rw [k3] at K1
      have hn' : ¬ x.u < n := by omega
      have RQ0 := RQ
      obtain ⟨a', cap', e', _, _, hcell⟩ := RQ
      simp only [Value.slice.injEq, true_and] at e'
      obtain ⟨rfl, rfl⟩ := e'
      obtain ⟨g, o, rfl, hg, hcell⟩ := hcell (by intro e; subst e; simp at hlt)
      have HX := hcell j x hx
      obtain ⟨d0, d1, d2⟩ := HX
      clear hcell HK IK1 IK2 hx
      go_wp2_with fail
      refine (K2 _ _ RQ0).mono ?_
      rintro e w4 ⟨rfl, hb4⟩
      have e0 := (hb4.cell (p := ⟨g, o + j * 3, none⟩) hg).trans d0
      clear d0 d1 d2
      go_wp2_with fail
      refine (K1 _ _ (RL.below hb4)).mono ?_
      rintro e w5 ⟨rfl, hb5⟩
      have hB5 : Below wr.heap.size wr w5 := hb4.trans (hb5.mono hb4.size)
      clear hb4 hb5 e0
      go_wp2
      go_roundw
      case rel => exact ⟨j + 1, by omega, by go_num, hbw.trans (hB5.mono hbw.size)⟩
      case measure => simp [intOf]; omega
    · have hlt' : ¬ (j : Int) < (Q.length : Int) := by omega
      clear RL RQ HK IK1 IK2 hqq hlt
      go_wp2_with fail
      refine (dkept_any _ zs _ (R.below hB) hl).mono ?_
      rintro e w4 ⟨u4, L4, i4, n4, rfl, D4⟩
      have R4 := LsRow.of_own D4.own (by have := D4.len; omega)
      have hL4 := D4.len
      obtain ⟨a4, c4, rfl⟩ := own_form D4.own
      have hB4 := hB.trans (D4.bel.mono hB.size)
      clear hB D4
      go_wp2_with fail
      refine (dleasegive_any _ zs _ (R.below hB4) hl).mono ?_
      rintro e w5 ⟨u5, L5, i5, q5, n5, rfl, D5⟩
      have R5 := LsRow.of_own D5.own (by have := D5.len; omega)
      have hL5 := D5.len
      obtain ⟨a5, c5, rfl⟩ := own_form D5.own
      have hB5 := hB4.trans (D5.bel.mono hB4.size)
      replace R4 := R4.below D5.bel
      clear hB4 D5
      have IG := fun (v : Value) (w : World) (R : LsRow w v L5) => ileasegive_any v L5 i5 q5 n5 w R
      have SG := fun (v : Value) (w : World) (R : LsRow w v L5) => sleasegive_any v L5 i5 q5 n5 w R
      have IK := fun (v : Value) (w : World) (R : LsRow w v L4) => ikept_any v L4 i4 n4 w R
      have SK := fun (v : Value) (w : World) (R : LsRow w v L4) => skept_any v L4 i4 n4 w R
      unfold GvAns at IG SG
      generalize gvB L5 i5 q5 n5 = b5 at *
      generalize gvL L5 i5 q5 n5 = Q5 at *
      generalize (lsB L4 && ktB L4 i4 n4) = b4 at *
      go_wp2_with fail
      refine (IG _ _ R5).mono ?_
      rintro e w6 ⟨u6, rfl, o6, hb6⟩
      obtain ⟨a6, c6, rfl⟩ := own_form o6
      have hB6 := hB5.trans (hb6.mono hB5.size)
      replace R4 := R4.below hb6
      replace R5 := R5.below hb6
      clear o6 hb6 hB5 IG
      go_wp2_with fail
      refine (SG _ _ R5).mono ?_
      rintro e w7 ⟨u7, rfl, o7, hb7⟩
      obtain ⟨a7, c7, rfl⟩ := own_form o7
      have hB7 := hB6.trans (hb7.mono hB6.size)
      replace R4 := R4.below hb7
      clear o7 hb7 hB6 SG R5
      go_wp2_with fail
      refine (dgripgood_any _ zs _ (R.below hB7) hl).mono ?_
      rintro e w8 ⟨gi, gu, gn, rfl, hb8⟩
      have hB8 := hB7.trans (hb8.mono hB7.size)
      replace R4 := R4.below hb8
      clear hb8 hB7 R
      have hb9 : Below w8.heap.size w8 (w8.alloc (Obj.cells #[.int .i64 gi, .int .i64 gu] 28)) := (Below.refl _ _).alloc (Nat.le_refl _) _
      have hx9 := heap_alloc_new w8 (Obj.cells #[.int .i64 gi, .int .i64 gu] 28)
      replace R4 := R4.below hb9
      have hB9 := hB8.trans (hb9.mono hB8.size)
      clear hb9 hB8
      have GG := fun w => igripgood_any gi gu gn w
      have bb4 : (b4 == b4) = true := by simp
      have bb5 : (b5 == b5) = true := by simp
      go_wp2_with fail
      generalize w8.heap.size = b at *
      generalize w8.alloc (Obj.cells #[.int .i64 gi, .int .i64 gu] 28) = w9 at *
      have hlb : b < w9.heap.size := (Array.getElem?_eq_some_iff.1 hx9).1
      have sS : w9.cell? ⟨b, 0, none⟩ = some (.int .i64 gi) ∧ w9.cell? ⟨b, 1, none⟩ = some (.int .i64 gu) := ⟨cell_of_row w9 _ 0 _ _ _ hx9, cell_of_row w9 _ 1 _ _ _ hx9⟩
      obtain ⟨r, hr⟩ : ∃ r, decide (gn ≤ gu) = r := ⟨_, rfl⟩
      rw [hr] at GG
      have rr : (r == r) = true := by simp
      by_cases hgn : gn ≤ gu
      · have hrt : r = true := by rw [← hr]; simpa using hgn
        subst hrt
        clear hr rr
        go_region_held (fun w' => w'.cell? ⟨b, 0, none⟩ = some (.int .i64 gi) ∧ w'.cell? ⟨b, 1, none⟩ = some (.int .i64 gu)) (first | exact s12 | exact s11 | exact s10 | go_keep) (first
          | (go_at_call 16; refine (IK _ _ ?_).mono ?_; exact R4.below (Below.refl _ _).drew; rintro e w10 ⟨rfl, hb10⟩; have h10 : Below w9.heap.size w9 w10 := (Below.refl _ _).drew.trans hb10; have s10 : w10.cell? ⟨b, 0, none⟩ = some (.int .i64 gi) ∧ w10.cell? ⟨b, 1, none⟩ = some (.int .i64 gu) := ⟨(h10.cell (p := ⟨b, 0, none⟩) hlb).trans sS.1, (h10.cell (p := ⟨b, 1, none⟩) hlb).trans sS.2⟩)
          | (go_at_call 25; refine (SK _ _ ?_).mono ?_; exact R4.below h10; rintro e w11 ⟨rfl, hb11⟩; have h11 : Below w9.heap.size w9 w11 := h10.trans (hb11.mono h10.size); have s11 : w11.cell? ⟨b, 0, none⟩ = some (.int .i64 gi) ∧ w11.cell? ⟨b, 1, none⟩ = some (.int .i64 gu) := ⟨(h11.cell (p := ⟨b, 0, none⟩) hlb).trans sS.1, (h11.cell (p := ⟨b, 1, none⟩) hlb).trans sS.2⟩)
          | (go_at_call 15; refine (GG _).mono ?_; rintro e w12 ⟨rfl, hb12⟩; have h12 : Below w9.heap.size w9 w12 := h11.trans (hb12.mono h11.size); have s12 : w12.cell? ⟨b, 0, none⟩ = some (.int .i64 gi) ∧ w12.cell? ⟨b, 1, none⟩ = some (.int .i64 gu) := ⟨(h12.cell (p := ⟨b, 0, none⟩) hlb).trans sS.1, (h12.cell (p := ⟨b, 1, none⟩) hlb).trans sS.2⟩))
        all_goals
          have hB12 := hB9.trans (h12.mono hB9.size)
          clear s10 s11 s12 h10 h11 h12 hb10 hb11 hb12
          go_wp2
          go_ret
          exact ⟨rfl, hB12⟩
      · have hrt : r = false := by rw [← hr]; simpa using hgn
        have hgn2 : gu < gn := by omega
        subst hrt
        clear hr rr
        go_region_held (fun w' => w'.cell? ⟨b, 0, none⟩ = some (.int .i64 gi) ∧ w'.cell? ⟨b, 1, none⟩ = some (.int .i64 gu)) (first | exact s12 | exact s11 | exact s10 | go_keep) (first
          | (go_at_call 16; refine (IK _ _ ?_).mono ?_; exact R4.below (Below.refl _ _).drew; rintro e w10 ⟨rfl, hb10⟩; have h10 : Below w9.heap.size w9 w10 := (Below.refl _ _).drew.trans hb10; have s10 : w10.cell? ⟨b, 0, none⟩ = some (.int .i64 gi) ∧ w10.cell? ⟨b, 1, none⟩ = some (.int .i64 gu) := ⟨(h10.cell (p := ⟨b, 0, none⟩) hlb).trans sS.1, (h10.cell (p := ⟨b, 1, none⟩) hlb).trans sS.2⟩)
          | (go_at_call 25; refine (SK _ _ ?_).mono ?_; exact R4.below h10; rintro e w11 ⟨rfl, hb11⟩; have h11 : Below w9.heap.size w9 w11 := h10.trans (hb11.mono h10.size); have s11 : w11.cell? ⟨b, 0, none⟩ = some (.int .i64 gi) ∧ w11.cell? ⟨b, 1, none⟩ = some (.int .i64 gu) := ⟨(h11.cell (p := ⟨b, 0, none⟩) hlb).trans sS.1, (h11.cell (p := ⟨b, 1, none⟩) hlb).trans sS.2⟩)
          | (go_at_call 15; refine (GG _).mono ?_; rintro e w12 ⟨rfl, hb12⟩; have h12 : Below w9.heap.size w9 w12 := h11.trans (hb12.mono h11.size); have s12 : w12.cell? ⟨b, 0, none⟩ = some (.int .i64 gi) ∧ w12.cell? ⟨b, 1, none⟩ = some (.int .i64 gu) := ⟨(h12.cell (p := ⟨b, 0, none⟩) hlb).trans sS.1, (h12.cell (p := ⟨b, 1, none⟩) hlb).trans sS.2⟩))
        all_goals
          have hB12 := hB9.trans (h12.mono hB9.size)
          clear s10 s11 s12 h10 h11 h12 hb10 hb11 hb12
          go_wp2
          go_ret
          refine ⟨?_, hB12⟩
          have hd : decide (gn ≤ gu) = false := by simp; omega
          show Ending.returned (.bool (!decide (gn ≤ gu))) = _
          rw [hd]
          rfl
end Go.Proofs.Ytdlbgdckkjhbdaa
