/-
  Contract of spec.GetNum, for every slice of bytes within the form's reach and every place.
-/
import Derived.Test.YtpkpednemkagiaaDec
namespace Go.Proofs.Ytpkpednemkagiaa
open Go.RowKit

theorem unit_step (k : Nat) (h : k + 1 < 9) : wrap64 (lim k * 128) = lim (k + 1) := by
  have h1 := lim_pos k
  have h2 := lim_eight (show k ≤ 8 by omega)
  have h3 := lim_seven (show k ≤ 7 by omega)
  rw [IntWalk.wrap64_in _ ⟨by omega, by omega⟩]
  simp only [lim]
  omega

set_option maxHeartbeats 800000 in
theorem sget_any (v : Value) (zs : List Int) (a : Int) (w : World) (h : Row w v zs) (hlo : -9223372036854775808 ≤ a) (hhi : a ≤ 9223372036854775807) :
    Calls Try.prog 31 #[v, .int .i64 a] w fun e w' => e = .returned (gV (gN zs a)) ∧ w' = w := by
  obtain ⟨ao, cap, rfl, hcap, hm, hz, hcell⟩ := h
  by_cases hneg : a < 0
  · rw [gN_neg zs a hneg]
    go_enter Try.func31, Try.ntmps31
    go_wp2
    go_ret3
    exact ⟨rfl, rfl⟩
  by_cases hout : (zs.length : Int) ≤ a
  · obtain ⟨n, rfl⟩ := Int.eq_ofNat_of_zero_le (show 0 ≤ a by omega)
    rw [gN_none zs n ((Sc.start zs n).out (Or.inr (by omega)))]
    go_enter Try.func31, Try.ntmps31
    go_wp2
    go_ret3
    exact ⟨rfl, rfl⟩
  obtain ⟨n, rfl⟩ := Int.eq_ofNat_of_zero_le (show 0 ≤ a by omega)
  obtain ⟨g, o, rfl, hg, hcell⟩ := hcell (by intro e; subst e; simp at hout)
  have hn : n < zs.length := by omega
  clear hneg hout hlo hhi
  go_enter Try.func31, Try.ntmps31
  go_wp2
  go_loop [7, 8, 9] (fun x u i => ∃ (k : Nat) (U : Int) (acc : List Int), k ≤ 9 ∧ n + k ≤ zs.length ∧ i = .int .i64 k ∧ u = .int .i64 U ∧ x = .int .i64 (val acc) ∧ Hid (k < 9 → U = lim k) ∧ Hid (Sc zs n k acc)) (fun _ _ i => 9 - (intOf i).toNat)
  case atStart => exact ⟨0, 1, [], by omega, by omega, rfl, rfl, rfl, fun _ => rfl, Sc.start zs n⟩
  case round =>
    obtain ⟨k, U, acc, hk, hkl, rfl, rfl, rfl, HU, HS⟩ := hrel
    by_cases h9 : k < 9
    · by_cases hlt : n + k < zs.length
      · have hc := hcell (n + k) hlt
        have hU := HU.out h9
        have hvb := val_bounds acc
        rw [HS.out.1] at hvb
        subst hU
        clear HU
        have hml := mul_lim zs[n + k] k
        have hl8 := lim_eight (show k ≤ 8 by omega)
        have hb := hz zs[n + k] (List.getElem_mem _)
        clear hcell hz
        by_cases hb128 : zs[n + k] < 128
        · have hlast := HS.out.last h9 hlt hb128
          have hal := HS.out.1
          by_cases hz0 : zs[n + k] = 0
          · by_cases hk0 : 0 < k
            · have Hv : Hid (gN zs (n : Int) = (0, 0, false)) := gN_zero zs n acc (by rw [hlast, hz0]) (by omega)
              clear hlast hal
              go_wp2
              go_ret3
              exact ⟨by rw [Hv.out]; rfl, rfl⟩
            · have Hv : Hid (gN zs (n : Int) = (val acc, (n : Int) + k + 1, true)) := by
                have := gN_some zs n acc zs[n + k] hlast (by omega)
                rw [hal, hz0] at this
                simpa [Hid] using this
              clear hlast hal
              go_wp2
              go_ret3
              exact ⟨by rw [Hv.out]; rfl, rfl⟩
          · have Hv : Hid (gN zs (n : Int) = (val acc + zs[n + k] % 128 * lim k, (n : Int) + k + 1, true)) := by
              have := gN_some zs n acc zs[n + k] hlast (by omega)
              rw [hal] at this; exact this
            clear hlast hal
            go_wp2
            go_ret3
            exact ⟨by rw [Hv.out]; rfl, rfl⟩
        · go_wp2
          refine ⟨⟨_, _, _, _, _, _, ⟨k + 1, by omega, by omega, ?ra, wrap64 (lim k * 128), ?rb, acc ++ [zs[n + k]], ?rc, ?rd, HS.out.more h9 hlt (by omega)⟩, rfl, rfl, rfl, rfl, rfl, rfl⟩, by simp [intOf]; omega⟩
          case ra => go_num
          case rb => rfl
          case rc => rw [val_snoc, HS.out.1]
          case rd => exact fun h => unit_step k h
      · have Hv : Hid (gN zs (n : Int) = (0, 0, false)) := gN_none zs n (HS.out.out (Or.inr (by omega)))
        go_wp2
        go_ret3
        exact ⟨by rw [Hv.out]; rfl, rfl⟩
    · have Hv : Hid (gN zs (n : Int) = (0, 0, false)) := gN_none zs n (HS.out.out (Or.inl (by omega)))
      go_wp2
      go_ret3
      exact ⟨by rw [Hv.out]; rfl, rfl⟩

end Go.Proofs.Ytpkpednemkagiaa
