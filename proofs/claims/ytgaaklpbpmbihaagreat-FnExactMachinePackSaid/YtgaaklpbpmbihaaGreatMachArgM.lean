/-
  What a machine that came in reads as: a slice of nodes and seven numbers. Nothing of the program; no condition.
-/
import Derived.Test.YtgaaklpbpmbihaaGreatCodeArgM
import Derived.Test.YtgaaklpbpmbihaaGreatIWireM
namespace Go.Proofs.YtgaaklpbpmbihaaGreat
open Go.ChangeShapes Go.WideShapes Go.ChangeAt Go.RowKit Go.Deep

section
variable {H : Type} {enc : TypeId × Value → H} {w : World} {base : Nat} {spare : Nat → Bool} {held : Bool}

set_option maxRecDepth 100000 in
set_option maxHeartbeats 1600000 in
/-- A machine that came in. -/
theorem open_mach {v : Value} {d : DataW H} {p : List MemPlace} (hv : Value.okWide Tryz.prog w .any base 30 v) (h : DataW.Trod enc Tryz.prog w 0 (fun _ => true) true 30 v d p) :
    ∃ v' xs, ∃ m : Mc, v = .agg #[v', .int .i64 m.p, .int .i64 m.s, .int .i64 m.e, .int .i64 m.d, .int .i64 m.t, .int .i64 m.q, .int .i64 m.r] ∧ NRow w v' xs := by
  obtain ⟨cs, rfl, hsz⟩ := okWide_struct Tryz.underlying30 hv
  rw [show Tryz.prog.cellsOf 30 = 8 by kernel_rfl] at hsz
  obtain ⟨fuel, hf⟩ := h
  obtain ⟨v0, v1, v2, v3, v4, v5, v6, v7, rfl⟩ : ∃ v0 v1 v2 v3 v4 v5 v6 v7, cs = #[v0, v1, v2, v3, v4, v5, v6, v7] := by
    obtain ⟨l⟩ := cs
    match l, hsz with
    | [v0, v1, v2, v3, v4, v5, v6, v7], _ => exact ⟨v0, v1, v2, v3, v4, v5, v6, v7, rfl⟩
  obtain ⟨xs, n, _, _, hl, hlen, hff⟩ := DataW.trod_struct Tryz.underlying30 hf
  have g0 := hff 0 _ rfl
  have g1 := hff 1 _ rfl
  have g2 := hff 2 _ rfl
  have g3 := hff 3 _ rfl
  have g4 := hff 4 _ rfl
  have g5 := hff 5 _ rfl
  have g6 := hff 6 _ rfl
  have g7 := hff 7 _ rfl
  have i0 : Tryz.prog.cellsOf 24 = 1 := by kernel_rfl
  have i1 : Tryz.prog.cellsOf 3 = 1 := by kernel_rfl
  match xs, hlen with
  | [y0, y1, y2, y3, y4, y5, y6, y7], _ =>
    simp [Value.cells, i0, i1] at g0 g1 g2 g3 g4 g5 g6 g7
    obtain ⟨m1, e1, _⟩ := DataW.trod_int Tryz.underlying3 g1
    obtain ⟨m2, e2, _⟩ := DataW.trod_int Tryz.underlying3 g2
    obtain ⟨m3, e3, _⟩ := DataW.trod_int Tryz.underlying3 g3
    obtain ⟨m4, e4, _⟩ := DataW.trod_int Tryz.underlying3 g4
    obtain ⟨m5, e5, _⟩ := DataW.trod_int Tryz.underlying3 g5
    obtain ⟨m6, e6, _⟩ := DataW.trod_int Tryz.underlying3 g6
    obtain ⟨m7, e7, _⟩ := DataW.trod_int Tryz.underlying3 g7
    simp only [List.cons.injEq, and_true] at e1 e2 e3 e4 e5 e6 e7
    subst e1 e2 e3 e4 e5 e6 e7
    obtain ⟨z0, n', _, _, h0⟩ := trod_struct1 Tryz.underlying24 g0
    have i3 : Tryz.prog.cellsOf 22 = 1 := by kernel_rfl
    simp [i3] at h0
    obtain ⟨ns, R1⟩ := open_nds h0
    exact ⟨v0, ns, ⟨m1, m2, m3, m4, m5, m6, m7⟩, rfl, R1⟩
end
end Go.Proofs.YtgaaklpbpmbihaaGreat
