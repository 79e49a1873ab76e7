/-
  Contract of spec.GetText, for every slice of bytes within the form's reach and every place.
-/
import Derived.Test.YtpkpednemkagiaaGText
import Derived.Test.YtpkpednemkagiaaSGet
namespace Go.Proofs.Ytpkpednemkagiaa
open Go.RowKit

set_option maxRecDepth 100000 in
set_option maxHeartbeats 800000 in
theorem sgtext_any (v : Value) (zs : List Int) (a : Int) (w : World) (R : Row w v zs) (hlo : -9223372036854775808 ≤ a) (hhi : a ≤ 9223372036854775807) :
    Calls Try.prog 32 #[v, .int .i64 a] w fun e w' => e = .returned (tV (gT zs a)) ∧ w' = w := by
  have R' := R
  obtain ⟨ao, cap, rfl, hcap, hm, hz, hcell⟩ := R'
  clear hz
  go_enter Try.func32, Try.ntmps32
  go_wp2_with fail
  refine (sget_any _ zs a w R hlo hhi).mono ?_
  rintro e w1 ⟨rfl, rfl⟩
  generalize hg : gN zs a = r
  obtain ⟨n, next, ok⟩ := r
  have HG : Hid (gN zs a = (n, next, ok)) := hg
  clear hg hlo hhi R
  cases ok with
  | false =>
    have HT : Hid (gT zs a = (⟨#[]⟩, 0, false)) := gT_no zs a n next false HG.out (Or.inl rfl)
    go_wp2_with fail
    go_ret3
    exact ⟨by rw [HT.out]; rfl, rfl⟩
  | true =>
    obtain ⟨h1, h2, h3, h4⟩ := gN_ok zs a n next HG.out
    obtain ⟨n, rfl⟩ := Int.eq_ofNat_of_zero_le h1
    obtain ⟨next, rfl⟩ := Int.eq_ofNat_of_zero_le h3
    by_cases hout : (zs.length : Int) - next < n
    · have HT : Hid (gT zs a = (⟨#[]⟩, 0, false)) := gT_no zs a _ _ true HG.out (Or.inr hout)
      go_wp2_with fail
      go_ret3
      exact ⟨by rw [HT.out]; rfl, rfl⟩
    · have HT : Hid (gT zs a = (strOfNums ((zs.drop next).take n), (next : Int) + n, true)) := gT_yes zs a n next HG.out (by omega)
      have hle : next + n ≤ zs.length := by omega
      go_wp2_with (refine wpList_bytes_string _ rfl _ 25 9 5 rfl Try.underlying25 Try.underlying9 Try.underlying5 _ _ _ ((zs.drop next).take n) rfl (by rw [cut_length zs next n hle]; omega) (by rw [Nat.add_sub_cancel_left]; simpa using cut_cells hcell next n hle hcap) ?_)
      all_goals go_ret3
      all_goals exact ⟨by rw [HT.out]; rfl, rfl⟩

end Go.Proofs.Ytpkpednemkagiaa
