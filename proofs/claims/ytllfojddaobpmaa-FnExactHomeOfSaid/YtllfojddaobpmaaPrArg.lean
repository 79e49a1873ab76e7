/-
  What a process that came in reads as: its number, a machine, and two rows of texts. Nothing of the program; no condition.
-/
import Derived.Test.YtllfojddaobpmaaNdsArg
import Derived.Test.YtllfojddaobpmaaMcT
import Derived.Test.YtllfojddaobpmaaStArg
namespace Go.Proofs.Ytllfojddaobpmaa
open Go.ChangeShapes Go.WideShapes Go.ChangeAt Go.RowKit Go.Deep

section
variable {H : Type} {enc : TypeId × Value → H} {w : World} {base : Nat} {spare : Nat → Bool} {held : Bool}

set_option maxRecDepth 100000 in
set_option maxHeartbeats 1600000 in
/-- A machine's cells that came in. -/
theorem open_machC {fuel : Nat} {v0 v1 v2 v3 v4 v5 v6 v7 : Value} {x : DataW H × List MemPlace} (hf : DataW.trod enc Try.prog w base spare held fuel 95 [v0, v1, v2, v3, v4, v5, v6, v7] = some x) :
    ∃ xs, ∃ m : Mc, v1 = .int .i64 m.p ∧ v2 = .int .i64 m.s ∧ v3 = .int .i64 m.e ∧ v4 = .int .i64 m.d ∧ v5 = .int .i64 m.t ∧ v6 = .int .i64 m.q ∧ v7 = .int .i64 m.r ∧ NRow w v0 xs := by
  obtain ⟨xs, n, _, _, hl, hlen, hff⟩ := DataW.trod_struct Try.underlying95 hf
  have g0 := hff 0 _ rfl
  have g1 := hff 1 _ rfl
  have g2 := hff 2 _ rfl
  have g3 := hff 3 _ rfl
  have g4 := hff 4 _ rfl
  have g5 := hff 5 _ rfl
  have g6 := hff 6 _ rfl
  have g7 := hff 7 _ rfl
  have i0 : Try.prog.cellsOf 28 = 1 := by kernel_rfl
  have i1 : Try.prog.cellsOf 3 = 1 := by kernel_rfl
  match xs, hlen with
  | [y0, y1, y2, y3, y4, y5, y6, y7], _ =>
    simp [i0, i1] at g0 g1 g2 g3 g4 g5 g6 g7
    obtain ⟨m1, e1, _⟩ := DataW.trod_int Try.underlying3 g1
    obtain ⟨m2, e2, _⟩ := DataW.trod_int Try.underlying3 g2
    obtain ⟨m3, e3, _⟩ := DataW.trod_int Try.underlying3 g3
    obtain ⟨m4, e4, _⟩ := DataW.trod_int Try.underlying3 g4
    obtain ⟨m5, e5, _⟩ := DataW.trod_int Try.underlying3 g5
    obtain ⟨m6, e6, _⟩ := DataW.trod_int Try.underlying3 g6
    obtain ⟨m7, e7, _⟩ := DataW.trod_int Try.underlying3 g7
    simp only [List.cons.injEq, and_true] at e1 e2 e3 e4 e5 e6 e7
    subst e1 e2 e3 e4 e5 e6 e7
    obtain ⟨z0, n', _, _, h0⟩ := trod_struct1 Try.underlying28 g0
    have i3 : Try.prog.cellsOf 26 = 1 := by kernel_rfl
    simp [i3] at h0
    obtain ⟨ns, R1⟩ := open_nds h0
    exact ⟨ns, ⟨m1, m2, m3, m4, m5, m6, m7⟩, rfl, rfl, rfl, rfl, rfl, rfl, rfl, R1⟩

set_option maxRecDepth 100000 in
set_option maxHeartbeats 1600000 in
/-- A process that came in. -/
theorem open_proc {v : Value} {d : DataW H} {p : List MemPlace} (hv : Value.okWide Try.prog w .any base 97 v) (h : DataW.Trod enc Try.prog w 0 (fun _ => true) true 97 v d p) :
    ∃ i v' vb vo xs, ∃ m : Mc, ∃ bx ox, v = .agg #[.int .i64 i, v', .int .i64 m.p, .int .i64 m.s, .int .i64 m.e, .int .i64 m.d, .int .i64 m.t, .int .i64 m.q, .int .i64 m.r, vb, vo] ∧ NRow w v' xs ∧ StRow w vb bx ∧ StRow w vo ox := by
  obtain ⟨cs, rfl, hsz⟩ := okWide_struct Try.underlying97 hv
  rw [show Try.prog.cellsOf 97 = 11 by kernel_rfl] at hsz
  obtain ⟨fuel, hf⟩ := h
  obtain ⟨v0, v1, v2, v3, v4, v5, v6, v7, v8, v9, v10, rfl⟩ : ∃ v0 v1 v2 v3 v4 v5 v6 v7 v8 v9 v10, cs = #[v0, v1, v2, v3, v4, v5, v6, v7, v8, v9, v10] := by
    obtain ⟨l⟩ := cs
    match l, hsz with
    | [v0, v1, v2, v3, v4, v5, v6, v7, v8, v9, v10], _ => exact ⟨v0, v1, v2, v3, v4, v5, v6, v7, v8, v9, v10, rfl⟩
  obtain ⟨xs, n, _, _, hl, hlen, hff⟩ := DataW.trod_struct Try.underlying97 hf
  have g0 := hff 0 _ rfl
  have g1 := hff 1 _ rfl
  have g2 := hff 2 _ rfl
  have g3 := hff 3 _ rfl
  have i0 : Try.prog.cellsOf 95 = 8 := by kernel_rfl
  have i1 : Try.prog.cellsOf 3 = 1 := by kernel_rfl
  have i2 : Try.prog.cellsOf 70 = 1 := by kernel_rfl
  match xs, hlen with
  | [y0, y1, y2, y3], _ =>
    simp [Value.cells, i0, i1, i2] at g0 g1 g2 g3
    obtain ⟨m1, e1, _⟩ := DataW.trod_int Try.underlying3 g0
    simp only [List.cons.injEq, and_true] at e1
    subst e1
    obtain ⟨xs, m, rfl, rfl, rfl, rfl, rfl, rfl, rfl, R⟩ := open_machC g1
    obtain ⟨bx, Rb⟩ := open_strs g2
    obtain ⟨ox, Ro⟩ := open_strs g3
    exact ⟨m1, v1, v9, v10, xs, m, bx, ox, rfl, R, Rb, Ro⟩
end
end Go.Proofs.Ytllfojddaobpmaa
