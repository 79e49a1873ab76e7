/-
  Contract of impl.GetNum, for every slice of bytes within the form's reach and every place.
-/
import Derived.Test.YtpkpednemkagiaaNum
namespace Go.Proofs.Ytpkpednemkagiaa
open Go.RowKit

/-- (impl.reader).num at a slice that reads as zs, whatever the place. -/
theorem num_any (v : Value) (zs : List Int) (P : Nat) (a : Int) (w0 w : World) (R : Row w0 v zs) (hb : Below w0.heap.size w0 w) (hP : w0.heap.size ≤ P) (h : One w P a) :
    Calls Try.prog 18 #[.agg #[v, .pointer (some ⟨P, 0, none⟩)]] w fun e w' =>
      e = .returned (.tuple #[.int .i64 (gN zs a).1, .bool (gN zs a).2.2]) ∧ (∃ q, One w' P q ∧ ((gN zs a).2.2 = true → q = (gN zs a).2.1)) ∧ w.grownBy w' (some P) := by
  obtain ⟨ao, cap, rfl, hcap, hm, hz, hcell⟩ := R
  by_cases hout : a < 0 ∨ (zs.length : Int) ≤ a
  · have hg : gN zs a = (0, 0, false) := by
      by_cases ha : a < 0
      · exact gN_neg zs a ha
      · obtain ⟨n, rfl⟩ := Int.eq_ofNat_of_zero_le (show 0 ≤ a by omega)
        exact gN_none zs n ((Sc.start zs n).out (Or.inr (by omega)))
    rw [hg]
    refine (num_out _ zs P a w ⟨ao, cap, rfl⟩ h hm hout).mono ?_
    rintro e w' ⟨rfl, ⟨q, hq⟩, hgr⟩
    exact ⟨rfl, ⟨q, hq, by intro h; cases h⟩, hgr⟩
  · obtain ⟨n, rfl⟩ := Int.eq_ofNat_of_zero_le (show 0 ≤ a by omega)
    obtain ⟨g, o, rfl, hg, hcell⟩ := hcell (by intro e; subst e; simp at hout)
    exact num_in zs P n g o cap w h hm (by omega) hz (fun i hi => (hb.cell (p := ⟨g, o + i, none⟩) hg).trans (hcell i hi)) (Nat.lt_of_lt_of_le hg hb.size) (by omega)

theorem gN_false (zs : List Int) (a : Int) (h : (gN zs a).2.2 = false) : gN zs a = (0, 0, false) := by
  unfold gN at h ⊢
  by_cases h0 : a < 0
  · simp [h0]
  · simp only [h0, if_false] at h ⊢
    cases hs : scan 9 (zs.drop a.toNat) with
    | none => rfl
    | some bs =>
      simp only [hs] at h ⊢
      by_cases h1 : 1 < bs.length ∧ bs.getLast? = some 0
      · rw [if_pos h1]
      · rw [if_neg h1] at h; simp at h

end Go.Proofs.Ytpkpednemkagiaa
