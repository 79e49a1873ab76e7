/-
  Contracts of isNameByte, l2NameByte and the two NameOk: each tells whether a text is a name.
-/
import Derived.Test.YtmnmljmbicepjaaNd
namespace Go.Proofs.Ytmnmljmbicepjaa
open Go.RowKit

set_option maxHeartbeats 400000 in
theorem inb_any (b : Int) (w : World) : Calls Try.prog 85 #[.int .u8 b] w fun e w' => e = .returned (.bool (nb b)) ∧ w' = w := by
  go_enter Try.func85, Try.ntmps85
  go_wp2
  all_goals go_ret
  all_goals (refine ⟨retB ?_, rfl⟩; rw [Bool.eq_iff_iff]; simp [nb, *]; try omega)

set_option maxHeartbeats 400000 in
theorem snb_any (b : Int) (w : World) : Calls Try.prog 70 #[.int .u8 b] w fun e w' => e = .returned (.bool (nb b)) ∧ w' = w := by
  go_enter Try.func70, Try.ntmps70
  go_wp2
  all_goals go_ret
  all_goals (refine ⟨retB ?_, rfl⟩; rw [Bool.eq_iff_iff]; simp [nb, *]; try omega)

set_option maxHeartbeats 400000 in
theorem lin_any (x l h : Int) (w : World) : Calls Try.prog 52 #[.int .i64 x, .int .i64 l, .int .i64 h] w fun e w' => e = .returned (.bool (decide (l ≤ x) && decide (x ≤ h))) ∧ w' = w := by
  go_enter Try.func52, Try.ntmps52
  go_wp2
  all_goals go_ret
  all_goals (refine ⟨retB ?_, rfl⟩; rw [Bool.eq_iff_iff]; simp [*]; try omega)

set_option maxHeartbeats 400000 in
theorem iname_any (s : ByteArray) (w : World) (_ : s.size ≤ maxLen) : Calls Try.prog 72 #[.string s] w fun e w' => e = .returned (.bool (nameB s)) ∧ w' = w := by
  by_cases h0 : 1 ≤ s.size ∧ s.size ≤ 12
  · go_enter Try.func72, Try.ntmps72
    go_wp2
    go_loop [3] (fun i => ∃ k : Nat, k ≤ s.size ∧ i = .int .i64 k ∧ Hid (∀ j (hj : j < s.size), j < k → nb (s[j].toNat) = true)) (fun i => s.size - (intOf i).toNat)
    case atStart => exact ⟨0, by omega, rfl, fun j hj hk => by omega⟩
    case round =>
      obtain ⟨k, hk, rfl, H⟩ := hrel
      by_cases hlt : k < s.size
      · go_wp2_with fail
        refine (inb_any _ _).mono ?_
        rintro e w1 ⟨rfl, rfl⟩
        by_cases hn : nb (s[k].toNat) = true
        · rw [hn]
          go_wp2
          go_round
          case rel =>
            refine ⟨k + 1, by omega, by go_num, fun j hj hk => ?_⟩
            by_cases e : j = k
            · subst e; exact hn
            · exact H.out j hj (by omega)
          case measure => simp [intOf]; omega
        · have hn' : nb (s[k].toNat) = false := by simpa using hn
          have HN : Hid (nameB s = false) := nameB_not k hlt hn'
          rw [hn']
          go_wp2
          go_ret
          exact ⟨by rw [HN.out]; rfl, rfl⟩
      · have HN : Hid (nameB s = true) := nameB_all h0.1 h0.2 fun j hj => H.out j hj (by omega)
        go_wp2
        go_ret
        exact ⟨by rw [HN.out]; rfl, rfl⟩
  · have HN : Hid (nameB s = false) := nameB_size h0
    go_enter Try.func72, Try.ntmps72
    go_wp2
    all_goals go_ret
    all_goals first | exact ⟨by rw [HN.out]; rfl, rfl⟩ | (exfalso; omega)

set_option maxHeartbeats 400000 in
theorem sname_any (s : ByteArray) (w : World) (hs : s.size ≤ maxLen) : Calls Try.prog 51 #[.string s] w fun e w' => e = .returned (.bool (nameB s)) ∧ w' = w := by
  unfold maxLen at hs
  go_enter Try.func51, Try.ntmps51
  go_wp2
  go_loop [3] (fun i => ∃ k : Nat, k ≤ s.size ∧ i = .int .i64 k ∧ Hid (∀ j (hj : j < s.size), j < k → nb (s[j].toNat) = true)) (fun i => s.size - (intOf i).toNat)
  case atStart => exact ⟨0, by omega, rfl, fun j hj hk => by omega⟩
  case round =>
    obtain ⟨k, hk, rfl, H⟩ := hrel
    by_cases hlt : k < s.size
    · go_wp2_with fail
      refine (snb_any _ _).mono ?_
      rintro e w1 ⟨rfl, rfl⟩
      by_cases hn : nb (s[k].toNat) = true
      · rw [hn]
        go_wp2
        go_round
        case rel =>
          refine ⟨k + 1, by omega, by go_num, fun j hj hk => ?_⟩
          by_cases e : j = k
          · subst e; exact hn
          · exact H.out j hj (by omega)
        case measure => simp [intOf]; omega
      · have hn' : nb (s[k].toNat) = false := by simpa using hn
        have HN : Hid (nameB s = false) := nameB_not k hlt hn'
        rw [hn']
        go_wp2
        go_ret
        exact ⟨by rw [HN.out]; rfl, rfl⟩
    · have HA : Hid (∀ j (hj : j < s.size), nb (s[j].toNat) = true) := fun j hj => H.out j hj (by omega)
      go_wp2_with fail
      refine (lin_any _ _ _ _).mono ?_
      rintro e w1 ⟨rfl, rfl⟩
      go_wp2
      go_ret
      refine ⟨retB ?_, rfl⟩
      by_cases h0 : 1 ≤ s.size ∧ s.size ≤ 12
      · rw [nameB_all h0.1 h0.2 HA.out]
        simp; omega
      · rw [nameB_size h0]
        simp; omega
end Go.Proofs.Ytmnmljmbicepjaa
