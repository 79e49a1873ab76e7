/-
  What a code that came in reads as: three slices. Nothing of the program; no condition.
-/
import Derived.Test.YtacbhbmjhlgflaaDfArgM
namespace Go.Proofs.Ytacbhbmjhlgflaa
open Go.ChangeShapes Go.WideShapes Go.ChangeAt Go.RowKit Go.Deep

section
variable {H : Type} {enc : TypeId × Value → H} {w : World} {base : Nat} {spare : Nat → Bool} {held : Bool}

set_option maxRecDepth 100000 in
/-- A code that came in. -/
theorem open_code {v : Value} {d : DataW H} {p : List MemPlace} (hv : Value.okWide Try.prog w .any base 28 v) (h : DataW.Trod enc Try.prog w 0 (fun _ => true) true 28 v d p) :
    ∃ v1 v2 v3 ns is ds, v = .agg #[v1, v2, v3] ∧ NRow w v1 ns ∧ InRow w v2 is ∧ DfRow w v3 ds := by
  obtain ⟨cs, rfl, hsz⟩ := okWide_struct Try.underlying28 hv
  rw [show Try.prog.cellsOf 28 = 3 by kernel_rfl] at hsz
  obtain ⟨fuel, hf⟩ := h
  obtain ⟨v1, v2, v3, rfl⟩ : ∃ v1 v2 v3, cs = #[v1, v2, v3] := by
    obtain ⟨l⟩ := cs
    match l, hsz with
    | [v1, v2, v3], _ => exact ⟨v1, v2, v3, rfl⟩
  obtain ⟨xs, n, _, _, hl, hlen, hff⟩ := DataW.trod_struct Try.underlying28 hf
  have g0 := hff 0 _ rfl
  have g1 := hff 1 _ rfl
  have g2 := hff 2 _ rfl
  have i0 : Try.prog.cellsOf 24 = 1 := by kernel_rfl
  have i1 : Try.prog.cellsOf 25 = 1 := by kernel_rfl
  have i2 : Try.prog.cellsOf 26 = 1 := by kernel_rfl
  match xs, hlen with
  | [y0, y1, y2], _ =>
    simp [Value.cells, i0, i1, i2] at g0 g1 g2
    obtain ⟨is, R2⟩ := open_ins g1
    obtain ⟨ds, R3⟩ := open_dfs g2
    obtain ⟨z0, n', _, _, h0⟩ := trod_struct1 Try.underlying24 g0
    have i3 : Try.prog.cellsOf 22 = 1 := by kernel_rfl
    simp [i3] at h0
    obtain ⟨ns, R1⟩ := open_nds h0
    exact ⟨v1, v2, v3, ns, is, ds, rfl, R1, R2, R3⟩
end
end Go.Proofs.Ytacbhbmjhlgflaa
