/-
  What a slice of texts that came in reads as. Nothing of the program; no condition.
-/
import Derived.Test.YtllfojddaobpmaaStrs
import Derived.Test.YtllfojddaobpmaaArg2
namespace Go.Proofs.Ytllfojddaobpmaa
open Go.ChangeShapes Go.WideShapes Go.ChangeAt Go.RowKit Go.Deep

section
variable {H : Type} {enc : TypeId × Value → H} {w : World} {base : Nat} {spare : Nat → Bool} {held : Bool}

set_option maxRecDepth 100000 in
/-- A slice of texts that came in reads as a list. -/
theorem open_strs {fuel : Nat} {v' : Value} {y0 : DataW H × List MemPlace} (h0 : DataW.trod enc Try.prog w base spare held fuel 70 [v'] = some y0) :
    ∃ xs, StRow w v' xs := by
  have i5 : Try.prog.cellsOf 9 = 1 := by kernel_rfl
  rcases open_slice Try.underlying70 h0 with ⟨hcs, _⟩ | ⟨a, len, cap, m, n, D, Pl, hcs, _, hl, hm, hmm, _, hx⟩
  · simp at hcs
    subst hcs
    exact ⟨[], none, 0, rfl, by simp, by simp, by simp, fun h => absurd rfl h⟩
  · simp at hcs
    subst hcs
    have hlm : len ≤ m := by rw [hmm]; split <;> omega
    rw [i5] at hx
    have each : ∀ i, i < m → ∃ s : ByteArray, s.size ≤ maxLen ∧ w.cell? (a.add i) = some (.string s) := by
      intro i hi
      obtain ⟨cs', h1, h2⟩ := hx i hi
      obtain ⟨_, hlen, hcell⟩ := World.cells?_some h1
      obtain ⟨u, rfl⟩ : ∃ u, cs' = [u] := by
        match cs', hlen with
        | [u], _ => exact ⟨u, rfl⟩
      obtain ⟨s, e, _, hs⟩ := DataW.trod_string Try.underlying9 h2
      simp only [List.cons.injEq, and_true] at e
      subst e
      have := hcell 0 (by omega)
      rw [add_add] at this
      simp only [Nat.mul_one, Nat.add_zero] at this
      exact ⟨s, hs, by rw [this]; rfl⟩
    obtain ⟨q, hq⟩ := choose_lt each
    refine ⟨(List.range len).map q, some a, cap, ?_, ?_, ?_, ?_, ?_⟩
    · simp
    · exact ⟨by simp; omega, fun h => by cases h⟩
    · unfold maxLen at hm; simp; omega
    · intro x hx'
      simp at hx'
      obtain ⟨i, hi, rfl⟩ := hx'
      exact (hq i (by omega)).1
    · intro hne
      have hpos : 0 < len := by
        rcases Nat.eq_zero_or_pos len with h0 | h0
        · subst h0; simp at hne
        · exact h0
      obtain ⟨b, off, spot⟩ := a
      have hc := (hq 0 (by omega)).2
      have hspot : spot = none := by simpa [Addr.add] using World.cell?_spot hc
      subst hspot
      have hb := World.block_lt_of_cell? _ _ hc
      refine ⟨b, off, rfl, by simpa [Addr.add_lit] using hb, fun i x hi => ?_⟩
      have hil : i < len := by
        have := (List.getElem?_eq_some_iff.1 hi).1
        simpa using this
      have hxe : x = q i := by
        rw [List.getElem?_map, List.getElem?_range hil] at hi
        simpa using hi.symm
      subst hxe
      have := (hq i (by omega)).2
      rwa [Addr.add_lit] at this
end
end Go.Proofs.Ytllfojddaobpmaa
