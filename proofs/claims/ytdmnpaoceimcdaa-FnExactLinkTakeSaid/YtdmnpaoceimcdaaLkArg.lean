/-
  What a link that came in reads as: its numbers, texts and pieces. Nothing of the program; no condition.
-/
import Derived.Test.YtdmnpaoceimcdaaPcArg
import Derived.Test.YtdmnpaoceimcdaaLink
namespace Go.Proofs.Ytdmnpaoceimcdaa
open Go.ChangeShapes Go.WideShapes Go.ChangeAt Go.RowKit Go.Deep

section
variable {H : Type} {enc : TypeId × Value → H} {w : World} {base : Nat} {spare : Nat → Bool} {held : Bool}

set_option maxRecDepth 100000 in
/-- A slice of texts that came in reads as a list. -/
theorem open_strs {fuel : Nat} {v' : Value} {y0 : DataW H × List MemPlace} (h0 : DataW.trod enc Try.prog w base spare held fuel 24 [v'] = some y0) :
    ∃ xs, StRow w v' xs := by
  have i5 : Try.prog.cellsOf 9 = 1 := by kernel_rfl
  rcases open_slice Try.underlying24 h0 with ⟨hcs, _⟩ | ⟨a, len, cap, m, n, D, Pl, hcs, _, hl, hm, hmm, _, hx⟩
  · simp at hcs
    subst hcs
    exact ⟨[], none, 0, rfl, by simp, by simp, by simp, fun h => absurd rfl h⟩
  · simp at hcs
    subst hcs
    have hlm : len ≤ m := by rw [hmm]; split <;> omega
    rw [i5] at hx
    have each : ∀ i, i < m → ∃ s : ByteArray, s.size ≤ maxLen ∧ w.cell? (a.add i) = some (.string s) := by
      intro i hi
      obtain ⟨cs', h1, h2⟩ := hx i hi
      obtain ⟨_, hlen, hcell⟩ := World.cells?_some h1
      obtain ⟨u, rfl⟩ : ∃ u, cs' = [u] := by
        match cs', hlen with
        | [u], _ => exact ⟨u, rfl⟩
      obtain ⟨s, e, _, hs⟩ := DataW.trod_string Try.underlying9 h2
      simp only [List.cons.injEq, and_true] at e
      subst e
      have := hcell 0 (by omega)
      rw [add_add] at this
      simp only [Nat.mul_one, Nat.add_zero] at this
      exact ⟨s, hs, by rw [this]; rfl⟩
    obtain ⟨q, hq⟩ := choose_lt each
    refine ⟨(List.range len).map q, some a, cap, ?_, ?_, ?_, ?_, ?_⟩
    · simp
    · exact ⟨by simp; omega, fun h => by cases h⟩
    · unfold maxLen at hm; simp; omega
    · intro x hx'
      simp at hx'
      obtain ⟨i, hi, rfl⟩ := hx'
      exact (hq i (by omega)).1
    · intro hne
      have hpos : 0 < len := by
        rcases Nat.eq_zero_or_pos len with h0 | h0
        · subst h0; simp at hne
        · exact h0
      obtain ⟨b, off, spot⟩ := a
      have hc := (hq 0 (by omega)).2
      have hspot : spot = none := by simpa [Addr.add] using World.cell?_spot hc
      subst hspot
      have hb := World.block_lt_of_cell? _ _ hc
      refine ⟨b, off, rfl, by simpa [Addr.add_lit] using hb, fun i x hi => ?_⟩
      have hil : i < len := by
        have := (List.getElem?_eq_some_iff.1 hi).1
        simpa using this
      have hxe : x = q i := by
        rw [List.getElem?_map, List.getElem?_range hil] at hi
        simpa using hi.symm
      subst hxe
      have := (hq i (by omega)).2
      rwa [Addr.add_lit] at this

set_option maxRecDepth 100000 in
/-- A link that came in. -/
theorem open_link {v : Value} {d : DataW H} {p : List MemPlace} (hv : Value.okWide Try.prog w .any base 44 v) (h : DataW.Trod enc Try.prog w 0 (fun _ => true) true 44 v d p) :
    ∃ v1 v2, ∃ l : Lk, v = .agg #[.int .i64 l.sent, .int .i64 l.acked, v1, .int .i64 l.got, v2] ∧ StRow w v1 l.q ∧ PcRow w v2 l.h := by
  obtain ⟨cs, rfl, hsz⟩ := okWide_struct Try.underlying44 hv
  rw [show Try.prog.cellsOf 44 = 5 by kernel_rfl] at hsz
  obtain ⟨fuel, hf⟩ := h
  obtain ⟨v0, v1, v2, v3, v4, rfl⟩ : ∃ v0 v1 v2 v3 v4, cs = #[v0, v1, v2, v3, v4] := by
    obtain ⟨l⟩ := cs
    match l, hsz with
    | [v0, v1, v2, v3, v4], _ => exact ⟨v0, v1, v2, v3, v4, rfl⟩
  obtain ⟨xs, n, _, _, hl, hlen, hff⟩ := DataW.trod_struct Try.underlying44 hf
  have g0 := hff 0 _ rfl
  have g1 := hff 1 _ rfl
  have g2 := hff 2 _ rfl
  have g3 := hff 3 _ rfl
  have g4 := hff 4 _ rfl
  have i0 : Try.prog.cellsOf 3 = 1 := by kernel_rfl
  have i1 : Try.prog.cellsOf 24 = 1 := by kernel_rfl
  have i2 : Try.prog.cellsOf 42 = 1 := by kernel_rfl
  match xs, hlen with
  | [y0, y1, y2, y3, y4], _ =>
    simp [Value.cells, i0, i1, i2] at g0 g1 g2 g3 g4
    obtain ⟨m0, e0, _⟩ := DataW.trod_int Try.underlying3 g0
    obtain ⟨m1, e1, _⟩ := DataW.trod_int Try.underlying3 g1
    obtain ⟨m3, e3, _⟩ := DataW.trod_int Try.underlying3 g3
    obtain ⟨ss, R1⟩ := open_strs g2
    obtain ⟨ps, R2⟩ := open_pcs g4
    simp only [List.cons.injEq, and_true] at e0 e1 e3
    subst e0 e1 e3
    exact ⟨v2, v4, ⟨m0, m1, ss, m3, ps⟩, rfl, R1, R2⟩
end
end Go.Proofs.Ytdmnpaoceimcdaa
