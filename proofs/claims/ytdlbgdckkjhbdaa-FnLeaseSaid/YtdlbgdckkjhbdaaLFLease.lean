/-
  The law FnLease, walked: at every argument it returns true.
-/
import Derived.Test.YtdlbgdckkjhbdaaDLs2
import Derived.Test.YtdlbgdckkjhbdaaLsAskI
import Derived.Test.YtdlbgdckkjhbdaaLsLaw2
import Derived.Test.YtdlbgdckkjhbdaaLsGiveI
import Derived.Test.YtdlbgdckkjhbdaaLsDrop
namespace Go.Proofs.Ytdlbgdckkjhbdaa
open Go.RowKit

set_option maxRecDepth 100000 in
set_option maxHeartbeats 400000 in
theorem flease_big (ao : Option Addr) (len cap : Nat) (w : World) (hl : 1048576 < len) (hm : len ≤ 9223372036854775807) :
    Calls Try.prog 3 #[.slice ao len cap] w fun e w' => e = .returned (.bool true) ∧ Below w.heap.size w w' := by
  go_enter Try.func3, Try.ntmps3
  go_wp2_with (go_at_call 9; go_in)
  go_ret
  exact ⟨rfl, Below.refl _ _⟩

set_option maxRecDepth 100000 in
set_option maxHeartbeats 12800000 in
theorem flease_small (ao : Option Addr) (cap : Nat) (zs : List Int) (w : World) (R : Row w (.slice ao zs.length cap) zs) (hl : zs.length ≤ 1048576) :
    Calls Try.prog 3 #[.slice ao zs.length cap] w fun e w' => e = .returned (.bool true) ∧ Below w.heap.size w w' := by
  go_enter Try.func3, Try.ntmps3
  go_wp2_with (go_at_call 9; go_in)
  refine (dleaseask_any _ zs w R hl).mono ?_
  rintro e w1 ⟨u1, L, i, q, n, rfl, D1⟩
  have hB1 := D1.bel
  have hL := D1.len
  have RL := LsRow.of_own D1.own (by omega)
  obtain ⟨a1, c1, rfl⟩ := own_form D1.own
  clear D1 R
  have IA := fun (v : Value) (w : World) (R : LsRow w v L) => ileaseask_any v L i q n w R
  have SA := fun (v : Value) (w : World) (R : LsRow w v L) => sleaseask_any v L i q n w R
  have IO := fun (v : Value) (w : World) (R : LsRow w v L) => ileasesok_any v L w R
  have SO := fun (v : Value) (w : World) (R : LsRow w v L) => sleasesok_any v L w R
  have hYl := akL_len L i q n
  have HP : Hid (akB L i q n = true → 0 ≤ n ∧ n ≤ 1000000000 ∧ lsB (akL L i q n) = true ∧ akI L i q n = i ∧ akU L i q n = n + 17) := fun h => by
    obtain ⟨h1, h2, _, h4, h5, h6⟩ := ak_parts h
    exact ⟨h1, h2, h4, h5, h6⟩
  have HKP : Hid (akB L i q n = true → ∀ t : Int, t ≤ n + 20 → (lsB (akL L i q n) && ktB (akL L i q n) i t) = true ∧ (lsB (dpL (akL L i q n) t) && ktB (dpL (akL L i q n) t) i t) = true) := fun h t ht => ak_kept h ht
  have HBK : Hid (akB L i q n = true → gvB (akL L i q n) i q n = true ∧ (gvL (akL L i q n) i q n).length + 1 = (akL L i q n).length ∧ gvB (gvL (akL L i q n) i q n) i q n = false) := fun h => ak_back h
  have HN : Hid (akB L i q n = false → (akL L i q n).length = L.length ∨ (akL L i q n).length = 0) := fun h => by
    unfold akL
    rw [if_neg (by rw [h]; simp)]
    split
    · exact Or.inl rfl
    · exact Or.inr rfl
  unfold AkAns at IA SA
  generalize akL L i q n = Y at *
  generalize akI L i q n = gi at *
  generalize akU L i q n = gu at *
  generalize akB L i q n = bb at *
  generalize lsB L = bl at *
  have bbb : (bb != bb) = false := by simp
  have lbb : (bl != bl) = false := by simp
  go_wp2_with fail
  refine (IA _ _ RL).mono ?_
  rintro e w2 ⟨u2, rfl, o2, hb2⟩
  obtain ⟨a2, c2, rfl⟩ := own_form o2
  have RY := LsRow.of_own o2 (by omega)
  have hba : Below w2.heap.size w2 (w2.alloc (Obj.cells #[.int .i64 gi, .int .i64 gu] 28)) := (Below.refl _ _).alloc (Nat.le_refl _) _
  have hx2 := heap_alloc_new w2 (Obj.cells #[.int .i64 gi, .int .i64 gu] 28)
  have hbb : Below w1.heap.size w1 (w2.alloc (Obj.cells #[.int .i64 gi, .int .i64 gu] 28)) := hb2.trans (hba.mono hb2.size)
  replace RL := RL.below hbb
  replace RY := RY.below hba
  have hB2 := hB1.trans (hbb.mono hB1.size)
  clear o2 hb2 hba hbb hB1 IA
  go_wp2_with fail
  refine (SA _ _ RL).mono ?_
  rintro e w3 ⟨u3, rfl, o3, hb3⟩
  obtain ⟨a3, c3, rfl⟩ := own_form o3
  have hba : Below w3.heap.size w3 (w3.alloc (Obj.cells #[.int .i64 gi, .int .i64 gu] 28)) := (Below.refl _ _).alloc (Nat.le_refl _) _
  have hx3' := heap_alloc_new w3 (Obj.cells #[.int .i64 gi, .int .i64 gu] 28)
  have hbb : Below (w2.alloc (Obj.cells #[.int .i64 gi, .int .i64 gu] 28)).heap.size (w2.alloc (Obj.cells #[.int .i64 gi, .int .i64 gu] 28)) (w3.alloc (Obj.cells #[.int .i64 gi, .int .i64 gu] 28)) := hb3.trans (hba.mono hb3.size)
  replace RL := RL.below hbb
  replace RY := RY.below hbb
  have hx3 := (hbb.block _ (by simp)).trans hx2
  have hB3 := hB2.trans (hbb.mono hB2.size)
  have hl2 : w2.heap.size < w3.heap.size := by have := hb3.size; simp at this; omega
  clear o3 hb3 hba hbb hB2 SA hx2
  have d0 : (w3.alloc (Obj.cells #[.int .i64 gi, .int .i64 gu] 28)).cell? ⟨w2.heap.size, 0, none⟩ = some (.int .i64 gi) := cell_of_row _ _ 0 _ _ _ hx3
  have d1 : (w3.alloc (Obj.cells #[.int .i64 gi, .int .i64 gu] 28)).cell? ⟨w2.heap.size, 1, none⟩ = some (.int .i64 gu) := cell_of_row _ _ 1 _ _ _ hx3
  have gg1 : (gi != gi) = false := by simp
  have gg2 : (gu != gu) = false := by simp
  go_wp2_with fail
  refine (IO _ _ RL).mono ?_
  rintro e w4 ⟨rfl, hb4⟩
  replace RL := RL.below hb4
  replace RY := RY.below hb4
  have hx4 := (hb4.block _ (Array.getElem?_eq_some_iff.1 hx3).1).trans hx3
  have hB4 := hB3.trans (hb4.mono hB3.size)
  clear hb4 hB3 hx3 hx3' d0 d1 IO gg1 gg2
  go_wp2_with fail
  refine (SO _ _ RL).mono ?_
  rintro e w5 ⟨rfl, hb5⟩
  replace RL := RL.below hb5
  replace RY := RY.below hb5
  have hx5 := (hb5.block _ (Array.getElem?_eq_some_iff.1 hx4).1).trans hx4
  have hB5 := hB4.trans (hb5.mono hB4.size)
  clear hb5 hB4 hx4 SO
  generalize w2.heap.size = gb at *
  cases bb with
  | false =>
    have hN := HN.out rfl
    clear HN HP HKP HBK RL RY
    by_cases hq : (Y.length : Int) = (L.length : Int)
    · have hq1 : ((Y.length : Int) == (L.length : Int)) = true := by simpa using hq
      have HQ : Hid ((Y.length : Int) = (L.length : Int)) := hq
      clear hN hq
      go_wp2
      go_ret
      exact ⟨rfl, hB5⟩
    · have hq1 : ((Y.length : Int) == (L.length : Int)) = false := by simpa using hq
      have hq2 : ((Y.length : Int) == 0) = true := by
        rcases hN with h | h
        · exact absurd (by omega) hq
        · simp [h]
      clear hN hq
      go_wp2
      go_ret
      exact ⟨rfl, hB5⟩
  | true =>
    obtain ⟨hn0, hn1, hY, hgi, hgu⟩ := HP.out rfl
    subst hgi
    subst hgu
    have HKP2 : Hid (∀ t : Int, t ≤ n + 20 → (lsB Y && ktB Y gi t) = true ∧ (lsB (dpL Y t) && ktB (dpL Y t) gi t) = true) := HKP.out rfl
    have HBK2 : Hid (gvB Y gi q n = true ∧ (gvL Y gi q n).length + 1 = Y.length ∧ gvB (gvL Y gi q n) gi q n = false) := HBK.out rfl
    have HY : Hid (lsB Y = true) := hY
    clear HN HP HKP HBK RL hY
    have hY21 : Y.length ≤ 22 := by omega
    have hgl : gb < w5.heap.size := (Array.getElem?_eq_some_iff.1 hx5).1
    go_wp2_with fail
    go_loopw [13] (fun s13 wr => ∃ k : Nat, k ≤ 7 ∧ s13 = .int .i64 ((k : Int) - 3) ∧ Below w5.heap.size w5 wr) (fun s13 _ => (4 - intOf s13).toNat)
    case atStart => exact ⟨0, by omega, rfl, Below.refl _ _⟩
    case round =>
      obtain ⟨k, hk, rfl, hbr⟩ := hrel
      by_cases hk7 : k < 7
      · have hk7' : (k : Int) - 3 ≤ 3 := by omega
        go_wp2_with fail
        go_loopw [14] (fun s14 wx => ∃ m : Nat, m ≤ 23 ∧ s14 = .int .i64 (n + (m : Int)) ∧ Below w5.heap.size w5 wx) (fun s14 _ => (n + 23 - intOf s14).toNat)
        case atStart => exact ⟨0, by omega, by simp, hbr⟩
        case round =>
          clear hbr
          obtain ⟨m, hm, rfl, hbx⟩ := hrel
          replace RY := RY.below hbx
          have hxx := (hbx.block _ hgl).trans hx5
          have W1 : IntKind.i64.wrap (n + 20) = n + 20 := by rw [IntKind.wrap_i64]; omega
          have W2 : n + 20 + 2 = n + 22 := by omega
          have W3 : IntKind.i64.wrap (n + 22) = n + 22 := by rw [IntKind.wrap_i64]; omega
          have W4 : IntKind.i64.wrap (n + (m : Int) + 1) = n + (m : Int) + 1 := by rw [IntKind.wrap_i64]; omega
          have W5 : IntKind.i64.wrap (n + (m : Int) + ((k : Int) - 3)) = n + (m : Int) + ((k : Int) - 3) := by rw [IntKind.wrap_i64]; omega
          have HT : Hid (n + (m : Int) ≤ n + 17 → n + (m : Int) + ((k : Int) - 3) ≤ n + 20) := fun h => by omega
          by_cases hm23 : m < 23
          · have hm23' : n + (m : Int) ≤ n + 22 := by omega
            obtain ⟨T, hT⟩ : ∃ T : Int, n + (m : Int) + ((k : Int) - 3) = T := ⟨_, rfl⟩
            have HTT : Hid (n + (m : Int) + ((k : Int) - 3) = T) := hT
            rw [hT] at W5
            have hHT : n + (m : Int) ≤ n + 17 → T ≤ n + 20 := fun h => by rw [← hT]; exact HT.out h
            have GG := fun w => igripgood_any gi (n + 17) (n + (m : Int)) w
            have hBx := hbx
            go_wp2_with (refine wpList_load_row rfl 28 _ rfl gb rfl 28 #[.int .i64 gi, .int .i64 (n + 17)] (0, 0) _ hxx Try.underlying28 rfl Try.sizeGrip ?_)
            refine (GG _).mono ?_
            rintro e w6 ⟨rfl, hb6⟩
            replace RY := RY.below hb6
            replace hBx := hBx.trans (hb6.mono hBx.size)
            clear hb6 hxx hbx GG
            by_cases hg : n + (m : Int) ≤ n + 17
            · rw [decide_eq_true hg]
              have hT20 := hHT hg
              obtain ⟨k1, k2⟩ := HKP2.out T hT20
              have K1 := fun (v : Value) (w : World) (R : LsRow w v Y) => ikept_any v Y gi T w R
              have K2 := fun (v : Value) (w : World) (R : LsRow w v (dpL Y T)) => ikept_any v (dpL Y T) gi T w R
              have ID := fun (v : Value) (w : World) (R : LsRow w v Y) => ileasedrop_any v Y T w R
              have hdl := dpL_len Y T
              rw [k1] at K1
              rw [k2] at K2
              generalize dpL Y T = Z at *
              clear k1 k2
              go_wp2_with fail
              with_reducible refine (K1 _ _ RY).mono ?_
              rintro e w7 ⟨rfl, hb7⟩
              replace RY := RY.below hb7
              replace hBx := hBx.trans (hb7.mono hBx.size)
              clear hb7 K1
              go_wp2_with fail
              with_reducible refine (ID _ _ RY).mono ?_
              rintro e w8 ⟨u8, rfl, o8, hb8⟩
              obtain ⟨a8, c8, rfl⟩ := own_form o8
              have RZ := LsRow.of_own o8 (by omega)
              replace hBx := hBx.trans (hb8.mono hBx.size)
              clear hb8 o8 ID
              go_wp2_with fail
              with_reducible refine (K2 _ _ RZ).mono ?_
              rintro e w9 ⟨rfl, hb9⟩
              replace hBx := hBx.trans (hb9.mono hBx.size)
              clear hb9 RZ K2 RY HT HTT hHT
              go_wp2
              go_roundw
              case rel => exact ⟨m + 1, by omega, by go_num, hBx⟩
              case measure => simp [intOf]; omega
            · rw [decide_eq_false hg]
              clear RY HT HTT hHT hT
              go_wp2
              go_roundw
              case rel => exact ⟨m + 1, by omega, by go_num, hBx⟩
              case measure => simp [intOf]; omega
          · have hm23' : ¬ n + (m : Int) ≤ n + 22 := by omega
            have W6 : IntKind.i64.wrap ((k : Int) - 3 + 1) = (k : Int) - 3 + 1 := by rw [IntKind.wrap_i64]; omega
            clear HT
            go_wp2
            go_roundw
            case rel => exact ⟨k + 1, by omega, by go_num, hbx⟩
            case measure => simp [intOf]; omega
      · have hk7' : ¬ (k : Int) - 3 ≤ 3 := by omega
        obtain ⟨g1, g2, g3⟩ := HBK2.out
        have IG := fun (v : Value) (w : World) (R : LsRow w v Y) => ileasegive_any v Y gi q n w R
        have IG2 := fun (v : Value) (w : World) (R : LsRow w v (gvL Y gi q n)) => ileasegive_any v (gvL Y gi q n) gi q n w R
        have IO := fun (v : Value) (w : World) (R : LsRow w v Y) => ileasesok_any v Y w R
        unfold GvAns at IG IG2
        rw [g1] at IG
        rw [g3] at IG2
        rw [HY.out] at IO
        have hZ2 := gvL_len (gvL Y gi q n) gi q n
        generalize gvL (gvL Y gi q n) gi q n = Z2 at *
        generalize gvL Y gi q n = Z at *
        have HZL : Hid (Z.length + 1 = Y.length) := g2
        have hZl : Z.length ≤ 22 := by omega
        have hz1 : (Y.length : Int) - 1 = (Z.length : Int) := by omega
        have hz2 : IntKind.i64.wrap ((Y.length : Int) - 1) = (Z.length : Int) := by rw [hz1, IntKind.wrap_i64]; omega
        have hzz : ((Z.length : Int) == (Z.length : Int)) = true := by simp
        clear g1 g2 g3 HKP2 HBK2 hx5 hgl
        replace RY := RY.below hbr
        have hB6 := hB5.trans (hbr.mono hB5.size)
        clear hbr hB5
        go_wp2_with fail
        refine (IG _ _ RY).mono ?_
        rintro e w6 ⟨u6, rfl, o6, hb6⟩
        obtain ⟨a6, c6, rfl⟩ := own_form o6
        have RZ := LsRow.of_own o6 (by omega)
        replace RY := RY.below hb6
        have hB7 := hB6.trans (hb6.mono hB6.size)
        clear hb6 o6 IG hB6
        go_wp2_with fail
        refine (IG2 _ _ RZ).mono ?_
        rintro e w7 ⟨u7, rfl, o7, hb7⟩
        obtain ⟨a7, c7, rfl⟩ := own_form o7
        replace RY := RY.below hb7
        have hB8 := hB7.trans (hb7.mono hB7.size)
        clear hb7 o7 IG2 hB7 RZ
        go_wp2_with fail
        refine (IO _ _ RY).mono ?_
        rintro e w8 ⟨rfl, hb8⟩
        have hB9 := hB8.trans (hb8.mono hB8.size)
        clear hb8 hB8 RY IO
        go_wp2
        go_ret
        exact ⟨rfl, hB9⟩
end Go.Proofs.Ytdlbgdckkjhbdaa
