/-
  Texts that stood by themselves, laid into one.
-/
import Derived.Test.YtpkpednemkagiaaDecM
import Derived.Test.YtpkpednemkagiaaMlMM
import Derived.Test.YtpkpednemkagiaaDraw2M
import Derived.Deep.RegionHeld3
import Derived.Test.YtpkpednemkagiaaGTextM
/-
  Contract of spec.GetNum, for every slice of bytes within the form's reach and every place.
-/
namespace Go.Proofs.Ytpkpednemkagiaa
open Go.RowKit

theorem unit_step (k : Nat) (h : k + 1 < 9) : wrap64 (lim k * 128) = lim (k + 1) := by
  have h1 := lim_pos k
  have h2 := lim_eight (show k ≤ 8 by omega)
  have h3 := lim_seven (show k ≤ 7 by omega)
  rw [IntWalk.wrap64_in _ ⟨by omega, by omega⟩]
  simp only [lim]
  omega

set_option maxHeartbeats 800000 in
theorem sget_any (v : Value) (zs : List Int) (a : Int) (w : World) (h : Row w v zs) (hlo : -9223372036854775808 ≤ a) (hhi : a ≤ 9223372036854775807) :
    Calls Try.prog 31 #[v, .int .i64 a] w fun e w' => e = .returned (gV (gN zs a)) ∧ w' = w := by
  obtain ⟨ao, cap, rfl, hcap, hm, hz, hcell⟩ := h
  by_cases hneg : a < 0
  · rw [gN_neg zs a hneg]
    go_enter Try.func31, Try.ntmps31
    go_wp2
    go_ret3
    exact ⟨rfl, rfl⟩
  by_cases hout : (zs.length : Int) ≤ a
  · obtain ⟨n, rfl⟩ := Int.eq_ofNat_of_zero_le (show 0 ≤ a by omega)
    rw [gN_none zs n ((Sc.start zs n).out (Or.inr (by omega)))]
    go_enter Try.func31, Try.ntmps31
    go_wp2
    go_ret3
    exact ⟨rfl, rfl⟩
  obtain ⟨n, rfl⟩ := Int.eq_ofNat_of_zero_le (show 0 ≤ a by omega)
  obtain ⟨g, o, rfl, hg, hcell⟩ := hcell (by intro e; subst e; simp at hout)
  have hn : n < zs.length := by omega
  clear hneg hout hlo hhi
  go_enter Try.func31, Try.ntmps31
  go_wp2
  go_loop [7, 8, 9] (fun x u i => ∃ (k : Nat) (U : Int) (acc : List Int), k ≤ 9 ∧ n + k ≤ zs.length ∧ i = .int .i64 k ∧ u = .int .i64 U ∧ x = .int .i64 (val acc) ∧ Hid (k < 9 → U = lim k) ∧ Hid (Sc zs n k acc)) (fun _ _ i => 9 - (intOf i).toNat)
  case atStart => exact ⟨0, 1, [], by omega, by omega, rfl, rfl, rfl, fun _ => rfl, Sc.start zs n⟩
  case round =>
    obtain ⟨k, U, acc, hk, hkl, rfl, rfl, rfl, HU, HS⟩ := hrel
    by_cases h9 : k < 9
    · by_cases hlt : n + k < zs.length
      · have hc := hcell (n + k) hlt
        have hU := HU.out h9
        have hvb := val_bounds acc
        rw [HS.out.1] at hvb
        subst hU
        clear HU
        have hml := mul_lim zs[n + k] k
        have hl8 := lim_eight (show k ≤ 8 by omega)
        have hb := hz zs[n + k] (List.getElem_mem _)
        clear hcell hz
        by_cases hb128 : zs[n + k] < 128
        · have hlast := HS.out.last h9 hlt hb128
          have hal := HS.out.1
          by_cases hz0 : zs[n + k] = 0
          · by_cases hk0 : 0 < k
            · have Hv : Hid (gN zs (n : Int) = (0, 0, false)) := gN_zero zs n acc (by rw [hlast, hz0]) (by omega)
              clear hlast hal
              go_wp2
              go_ret3
              exact ⟨by rw [Hv.out]; rfl, rfl⟩
            · have Hv : Hid (gN zs (n : Int) = (val acc, (n : Int) + k + 1, true)) := by
                have := gN_some zs n acc zs[n + k] hlast (by omega)
                rw [hal, hz0] at this
                simpa [Hid] using this
              clear hlast hal
              go_wp2
              go_ret3
              exact ⟨by rw [Hv.out]; rfl, rfl⟩
          · have Hv : Hid (gN zs (n : Int) = (val acc + zs[n + k] % 128 * lim k, (n : Int) + k + 1, true)) := by
              have := gN_some zs n acc zs[n + k] hlast (by omega)
              rw [hal] at this; exact this
            clear hlast hal
            go_wp2
            go_ret3
            exact ⟨by rw [Hv.out]; rfl, rfl⟩
        · go_wp2
          refine ⟨⟨_, _, _, _, _, _, ⟨k + 1, by omega, by omega, ?ra, wrap64 (lim k * 128), ?rb, acc ++ [zs[n + k]], ?rc, ?rd, HS.out.more h9 hlt (by omega)⟩, rfl, rfl, rfl, rfl, rfl, rfl⟩, by simp [intOf]; omega⟩
          case ra => go_num
          case rb => rfl
          case rc => rw [val_snoc, HS.out.1]
          case rd => exact fun h => unit_step k h
      · have Hv : Hid (gN zs (n : Int) = (0, 0, false)) := gN_none zs n (HS.out.out (Or.inr (by omega)))
        go_wp2
        go_ret3
        exact ⟨by rw [Hv.out]; rfl, rfl⟩
    · have Hv : Hid (gN zs (n : Int) = (0, 0, false)) := gN_none zs n (HS.out.out (Or.inl (by omega)))
      go_wp2
      go_ret3
      exact ⟨by rw [Hv.out]; rfl, rfl⟩

end Go.Proofs.Ytpkpednemkagiaa

/-
  The contract of spec.l8Num: one number more is read, or something is wrong. No condition.
-/
namespace Go.Proofs.Ytpkpednemkagiaa
open Go.RowKit

/-- What a reader's variable holds: the bytes, where it is, and whether all was right so far. -/
def C8 (w : World) (b : Nat) (v : Value) (at_ : Int) (ok : Bool) : Prop := w.heap[b]? = some (.cells #[v, .int .i64 at_, .bool ok] 34 (0, 0))

set_option maxRecDepth 100000 in
set_option maxHeartbeats 3200000 in
theorem s8num_any (b : Nat) (v : Value) (zs : List Int) (at_ : Int) (ok : Bool) (w : World) (R : Row w v zs) (h : C8 w b v at_ ok) (hlo : -9223372036854775808 ≤ at_) (hhi : at_ ≤ 9223372036854775807) :
    Calls Try.prog 13 #[.pointer (some ⟨b, 0, none⟩)] w fun e w' => e = .returned (.int .i64 (num8 zs at_ ok).1) ∧ C8 w' b v (num8 zs at_ ok).2.1 (num8 zs at_ ok).2.2 ∧ w.grownBy w' (some b) := by
  have R' := R
  obtain ⟨ao, cap, rfl, _⟩ := R'
  unfold C8 at h
  have c0 : w.cell? ⟨b, 0, none⟩ = some (.slice ao zs.length cap) := cell_of_row _ _ 0 _ _ _ h
  have c1 : w.cell? ⟨b, 1, none⟩ = some (.int .i64 at_) := cell_of_row _ _ 1 _ _ _ h
  have c2 : w.cell? ⟨b, 2, none⟩ = some (.bool ok) := cell_of_row _ _ 2 _ _ _ h
  have f1 : w.frozen? ⟨b, 1, none⟩ = false := frozen_of_row _ _ 1 _ _ h
  have f2 : w.frozen? ⟨b, 2, none⟩ = false := frozen_of_row _ _ 2 _ _ h
  obtain ⟨g, hg⟩ : ∃ g, Hid (gN zs at_ = g) := ⟨_, rfl⟩
  obtain ⟨gx, gn, gk⟩ := g
  have HG : ∀ W : World, Row W (.slice ao zs.length cap) zs → Calls Try.prog 31 #[.slice ao zs.length cap, .int .i64 at_] W fun e w' => e = .returned (.tuple #[.int .i64 gx, .int .i64 gn, .bool gk]) ∧ w' = W := fun W RW => by
    have := sget_any _ zs at_ W RW hlo hhi
    rw [hg.out] at this
    exact this
  have HN : Hid (num8 zs at_ ok = if ok && gk then (gx, gn, true) else (0, at_, false)) := by unfold Hid num8; rw [hg.out]
  have hd : ∀ m, Below w.heap.size w (w.drewN m) := fun m => ⟨rfl, rfl, rfl, Nat.le_refl _, fun _ _ => rfl⟩
  go_enter Try.func13, Try.ntmps13
  go_wp2_with fail
  go_quiet (first | (go_at_call 31; refine Calls.quiet_of_same (HG _ R)))
  all_goals
    have lt := (Array.getElem?_eq_some_iff.1 h).1
    have h2 := ((hd nq).block _ lt).trans h
    have g2 : w.grownBy (w.drewN nq) (some b) := ⟨rfl, rfl, rfl, Nat.le_refl _, fun _ _ _ => rfl⟩
    clear c0 c1 c2 f1 f2 hd HG
    generalize w.drewN nq = w2 at *
    have c1 : w2.cell? ⟨b, 1, none⟩ = some (.int .i64 at_) := cell_of_row _ _ 1 _ _ _ h2
    have c2 : w2.cell? ⟨b, 2, none⟩ = some (.bool ok) := cell_of_row _ _ 2 _ _ _ h2
    have f1 : w2.frozen? ⟨b, 1, none⟩ = false := frozen_of_row _ _ 1 _ _ h2
    have f2 : w2.frozen? ⟨b, 2, none⟩ = false := frozen_of_row _ _ 2 _ _ h2
    cases gk with
    | false =>
      have HN2 : Hid (num8 zs at_ ok = (0, at_, false)) := by unfold Hid; rw [HN.out, Bool.and_false]; rfl
      clear HN hg
      go_wp2
      go_ret
      rw [HN2.out]
      exact ⟨rfl, heap_setCell_same w2 b 2 _ _ (.bool false) h2, grown_trans g2 (grown_set w2 b 2 _)⟩
    | true =>
      cases ok with
      | false =>
        have HN2 : Hid (num8 zs at_ false = (0, at_, false)) := HN.out
        clear HN hg
        go_wp2
        go_ret
        rw [HN2.out]
        exact ⟨rfl, heap_setCell_same w2 b 2 _ _ (.bool false) h2, grown_trans g2 (grown_set w2 b 2 _)⟩
      | true =>
        have HN2 : Hid (num8 zs at_ true = (gx, gn, true)) := HN.out
        clear HN hg
        go_wp2
        go_ret
        rw [HN2.out]
        exact ⟨rfl, heap_setCell_same w2 b 1 _ _ (.int .i64 gn) h2, grown_trans g2 (grown_set w2 b 1 _)⟩
end Go.Proofs.Ytpkpednemkagiaa

/-
  Contract of spec.GetText, for every slice of bytes within the form's reach and every place.
-/
namespace Go.Proofs.Ytpkpednemkagiaa
open Go.RowKit

set_option maxRecDepth 100000 in
set_option maxHeartbeats 800000 in
theorem sgtext_any (v : Value) (zs : List Int) (a : Int) (w : World) (R : Row w v zs) (hlo : -9223372036854775808 ≤ a) (hhi : a ≤ 9223372036854775807) :
    Calls Try.prog 32 #[v, .int .i64 a] w fun e w' => e = .returned (tV (gT zs a)) ∧ w' = w := by
  have R' := R
  obtain ⟨ao, cap, rfl, hcap, hm, hz, hcell⟩ := R'
  clear hz
  go_enter Try.func32, Try.ntmps32
  go_wp2_with fail
  refine (sget_any _ zs a w R hlo hhi).mono ?_
  rintro e w1 ⟨rfl, rfl⟩
  generalize hg : gN zs a = r
  obtain ⟨n, next, ok⟩ := r
  have HG : Hid (gN zs a = (n, next, ok)) := hg
  clear hg hlo hhi R
  cases ok with
  | false =>
    have HT : Hid (gT zs a = (⟨#[]⟩, 0, false)) := gT_no zs a n next false HG.out (Or.inl rfl)
    go_wp2_with fail
    go_ret3
    exact ⟨by rw [HT.out]; rfl, rfl⟩
  | true =>
    obtain ⟨h1, h2, h3, h4⟩ := gN_ok zs a n next HG.out
    obtain ⟨n, rfl⟩ := Int.eq_ofNat_of_zero_le h1
    obtain ⟨next, rfl⟩ := Int.eq_ofNat_of_zero_le h3
    by_cases hout : (zs.length : Int) - next < n
    · have HT : Hid (gT zs a = (⟨#[]⟩, 0, false)) := gT_no zs a _ _ true HG.out (Or.inr hout)
      go_wp2_with fail
      go_ret3
      exact ⟨by rw [HT.out]; rfl, rfl⟩
    · have HT : Hid (gT zs a = (strOfNums ((zs.drop next).take n), (next : Int) + n, true)) := gT_yes zs a n next HG.out (by omega)
      have hle : next + n ≤ zs.length := by omega
      go_wp2_with (refine wpList_bytes_string _ rfl _ 25 9 5 rfl Try.underlying25 Try.underlying9 Try.underlying5 _ _ _ ((zs.drop next).take n) rfl (by rw [cut_length zs next n hle]; omega) (by rw [Nat.add_sub_cancel_left]; simpa using cut_cells hcell next n hle hcap) ?_)
      all_goals go_ret3
      all_goals exact ⟨by rw [HT.out]; rfl, rfl⟩

end Go.Proofs.Ytpkpednemkagiaa

/-
  The contract of spec.l12ReadText: one text more is read, or something is wrong. No condition but bounds.
-/
namespace Go.Proofs.Ytpkpednemkagiaa
open Go.RowKit

set_option maxRecDepth 100000 in
set_option maxHeartbeats 3200000 in
theorem s12rt_any (b : Nat) (v : Value) (zs : List Int) (at_ : Int) (ok : Bool) (w : World) (R : Row w v zs) (h : C8 w b v at_ ok) (hlo : -9223372036854775808 ≤ at_) (hhi : at_ ≤ 9223372036854775807) :
    Calls Try.prog 14 #[.pointer (some ⟨b, 0, none⟩)] w fun e w' => e = .returned (.string (txt8 zs at_ ok).1) ∧ C8 w' b v (txt8 zs at_ ok).2.1 (txt8 zs at_ ok).2.2 ∧ w.grownBy w' (some b) := by
  have R' := R
  obtain ⟨ao, cap, rfl, _⟩ := R'
  unfold C8 at h
  have c0 : w.cell? ⟨b, 0, none⟩ = some (.slice ao zs.length cap) := cell_of_row _ _ 0 _ _ _ h
  have c1 : w.cell? ⟨b, 1, none⟩ = some (.int .i64 at_) := cell_of_row _ _ 1 _ _ _ h
  have c2 : w.cell? ⟨b, 2, none⟩ = some (.bool ok) := cell_of_row _ _ 2 _ _ _ h
  have f1 : w.frozen? ⟨b, 1, none⟩ = false := frozen_of_row _ _ 1 _ _ h
  have f2 : w.frozen? ⟨b, 2, none⟩ = false := frozen_of_row _ _ 2 _ _ h
  obtain ⟨g, hg⟩ : ∃ g, Hid (gT zs at_ = g) := ⟨_, rfl⟩
  obtain ⟨gx, gn, gk⟩ := g
  have HG : ∀ W : World, Row W (.slice ao zs.length cap) zs → Calls Try.prog 32 #[.slice ao zs.length cap, .int .i64 at_] W fun e w' => e = .returned (.tuple #[.string gx, .int .i64 gn, .bool gk]) ∧ w' = W := fun W RW => by
    have := sgtext_any _ zs at_ W RW hlo hhi
    rw [hg.out] at this
    exact this
  have HN : Hid (txt8 zs at_ ok = if ok && gk then (gx, gn, true) else (⟨#[]⟩, at_, false)) := by unfold Hid txt8; rw [hg.out]
  have hd : ∀ m, Below w.heap.size w (w.drewN m) := fun m => ⟨rfl, rfl, rfl, Nat.le_refl _, fun _ _ => rfl⟩
  go_enter Try.func14, Try.ntmps14
  go_wp2_with fail
  go_quiet (first | (go_at_call 32; refine Calls.quiet_of_same (HG _ R)))
  all_goals
    have lt := (Array.getElem?_eq_some_iff.1 h).1
    have h2 := ((hd nq).block _ lt).trans h
    have g2 : w.grownBy (w.drewN nq) (some b) := ⟨rfl, rfl, rfl, Nat.le_refl _, fun _ _ _ => rfl⟩
    clear c0 c1 c2 f1 f2 hd HG
    generalize w.drewN nq = w2 at *
    have c1 : w2.cell? ⟨b, 1, none⟩ = some (.int .i64 at_) := cell_of_row _ _ 1 _ _ _ h2
    have c2 : w2.cell? ⟨b, 2, none⟩ = some (.bool ok) := cell_of_row _ _ 2 _ _ _ h2
    have f1 : w2.frozen? ⟨b, 1, none⟩ = false := frozen_of_row _ _ 1 _ _ h2
    have f2 : w2.frozen? ⟨b, 2, none⟩ = false := frozen_of_row _ _ 2 _ _ h2
    cases gk with
    | false =>
      have HN2 : Hid (txt8 zs at_ ok = (⟨#[]⟩, at_, false)) := by unfold Hid; rw [HN.out, Bool.and_false]; rfl
      clear HN hg
      go_wp2
      go_ret
      rw [HN2.out]
      exact ⟨rfl, heap_setCell_same w2 b 2 _ _ (.bool false) h2, grown_trans g2 (grown_set w2 b 2 _)⟩
    | true =>
      cases ok with
      | false =>
        have HN2 : Hid (txt8 zs at_ false = (⟨#[]⟩, at_, false)) := HN.out
        clear HN hg
        go_wp2
        go_ret
        rw [HN2.out]
        exact ⟨rfl, heap_setCell_same w2 b 2 _ _ (.bool false) h2, grown_trans g2 (grown_set w2 b 2 _)⟩
      | true =>
        have HN2 : Hid (txt8 zs at_ true = (gx, gn, true)) := HN.out
        clear HN hg
        go_wp2
        go_ret
        rw [HN2.out]
        exact ⟨rfl, heap_setCell_same w2 b 1 _ _ (.int .i64 gn) h2, grown_trans g2 (grown_set w2 b 1 _)⟩
end Go.Proofs.Ytpkpednemkagiaa
