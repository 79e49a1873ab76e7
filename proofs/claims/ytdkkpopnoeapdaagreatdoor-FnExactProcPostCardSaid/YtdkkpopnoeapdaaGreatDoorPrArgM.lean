/-
  Texts that stood by themselves, laid into one.
-/
import Derived.Test.YtdkkpopnoeapdaaGreatDoorDfArgM
import Derived.Test.YtdkkpopnoeapdaaGreatDoorSubM
import Derived.Test.YtdkkpopnoeapdaaGreatDoorShapeM
/-
  What a code that came in reads as: three slices. Nothing of the program; no condition.
-/
namespace Go.Proofs.YtdkkpopnoeapdaaGreatDoor
open Go.ChangeShapes Go.WideShapes Go.ChangeAt Go.RowKit Go.Deep

section
variable {H : Type} {enc : TypeId × Value → H} {w : World} {base : Nat} {spare : Nat → Bool} {held : Bool}

set_option maxRecDepth 100000 in
/-- A code that came in. -/
theorem open_code {v : Value} {d : DataW H} {p : List MemPlace} (hv : Value.okWide Tryz.prog w .any base 28 v) (h : DataW.Trod enc Tryz.prog w 0 (fun _ => true) true 28 v d p) :
    ∃ v1 v2 v3 ns is ds, v = .agg #[v1, v2, v3] ∧ NRow w v1 ns ∧ InRow w v2 is ∧ DfRow w v3 ds := by
  obtain ⟨cs, rfl, hsz⟩ := okWide_struct Tryz.underlying28 hv
  rw [show Tryz.prog.cellsOf 28 = 3 by kernel_rfl] at hsz
  obtain ⟨fuel, hf⟩ := h
  obtain ⟨v1, v2, v3, rfl⟩ : ∃ v1 v2 v3, cs = #[v1, v2, v3] := by
    obtain ⟨l⟩ := cs
    match l, hsz with
    | [v1, v2, v3], _ => exact ⟨v1, v2, v3, rfl⟩
  obtain ⟨xs, n, _, _, hl, hlen, hff⟩ := DataW.trod_struct Tryz.underlying28 hf
  have g0 := hff 0 _ rfl
  have g1 := hff 1 _ rfl
  have g2 := hff 2 _ rfl
  have i0 : Tryz.prog.cellsOf 24 = 1 := by kernel_rfl
  have i1 : Tryz.prog.cellsOf 25 = 1 := by kernel_rfl
  have i2 : Tryz.prog.cellsOf 26 = 1 := by kernel_rfl
  match xs, hlen with
  | [y0, y1, y2], _ =>
    simp [Value.cells, i0, i1, i2] at g0 g1 g2
    obtain ⟨is, R2⟩ := open_ins g1
    obtain ⟨ds, R3⟩ := open_dfs g2
    obtain ⟨z0, n', _, _, h0⟩ := trod_struct1 Tryz.underlying24 g0
    have i3 : Tryz.prog.cellsOf 22 = 1 := by kernel_rfl
    simp [i3] at h0
    obtain ⟨ns, R1⟩ := open_nds h0
    exact ⟨v1, v2, v3, ns, is, ds, rfl, R1, R2, R3⟩
end
end Go.Proofs.YtdkkpopnoeapdaaGreatDoor

/-
  What a slice of texts that came in reads as. Nothing of the program; no condition.
-/
namespace Go.Proofs.YtdkkpopnoeapdaaGreatDoor
open Go.ChangeShapes Go.WideShapes Go.ChangeAt Go.RowKit Go.Deep

section
variable {H : Type} {enc : TypeId × Value → H} {w : World} {base : Nat} {spare : Nat → Bool} {held : Bool}

set_option maxRecDepth 100000 in
/-- A slice of texts that came in reads as a list. -/
theorem open_strs {fuel : Nat} {v' : Value} {y0 : DataW H × List MemPlace} (h0 : DataW.trod enc Tryz.prog w base spare held fuel 31 [v'] = some y0) :
    ∃ xs, StRow w v' xs := by
  have i5 : Tryz.prog.cellsOf 9 = 1 := by kernel_rfl
  rcases open_slice Tryz.underlying31 h0 with ⟨hcs, _⟩ | ⟨a, len, cap, m, n, D, Pl, hcs, _, hl, hm, hmm, _, hx⟩
  · simp at hcs
    subst hcs
    exact ⟨[], none, 0, rfl, by simp, by simp, by simp, fun h => absurd rfl h⟩
  · simp at hcs
    subst hcs
    have hlm : len ≤ m := by rw [hmm]; split <;> omega
    rw [i5] at hx
    have each : ∀ i, i < m → ∃ s : ByteArray, s.size ≤ maxLen ∧ w.cell? (a.add i) = some (.string s) := by
      intro i hi
      obtain ⟨cs', h1, h2⟩ := hx i hi
      obtain ⟨_, hlen, hcell⟩ := World.cells?_some h1
      obtain ⟨u, rfl⟩ : ∃ u, cs' = [u] := by
        match cs', hlen with
        | [u], _ => exact ⟨u, rfl⟩
      obtain ⟨s, e, _, hs⟩ := DataW.trod_string Tryz.underlying9 h2
      simp only [List.cons.injEq, and_true] at e
      subst e
      have := hcell 0 (by omega)
      rw [add_add] at this
      simp only [Nat.mul_one, Nat.add_zero] at this
      exact ⟨s, hs, by rw [this]; rfl⟩
    obtain ⟨q, hq⟩ := choose_lt each
    refine ⟨(List.range len).map q, some a, cap, ?_, ?_, ?_, ?_, ?_⟩
    · simp
    · exact ⟨by simp; omega, fun h => by cases h⟩
    · unfold maxLen at hm; simp; omega
    · intro x hx'
      simp at hx'
      obtain ⟨i, hi, rfl⟩ := hx'
      exact (hq i (by omega)).1
    · intro hne
      have hpos : 0 < len := by
        rcases Nat.eq_zero_or_pos len with h0 | h0
        · subst h0; simp at hne
        · exact h0
      obtain ⟨b, off, spot⟩ := a
      have hc := (hq 0 (by omega)).2
      have hspot : spot = none := by simpa [Addr.add] using World.cell?_spot hc
      subst hspot
      have hb := World.block_lt_of_cell? _ _ hc
      refine ⟨b, off, rfl, by simpa [Addr.add_lit] using hb, fun i x hi => ?_⟩
      have hil : i < len := by
        have := (List.getElem?_eq_some_iff.1 hi).1
        simpa using this
      have hxe : x = q i := by
        rw [List.getElem?_map, List.getElem?_range hil] at hi
        simpa using hi.symm
      subst hxe
      have := (hq i (by omega)).2
      rwa [Addr.add_lit] at this
end
end Go.Proofs.YtdkkpopnoeapdaaGreatDoor

/-
  What a process that came in reads as: its number, a machine, and two rows of texts. Nothing of the program; no condition.
-/
namespace Go.Proofs.YtdkkpopnoeapdaaGreatDoor
open Go.ChangeShapes Go.WideShapes Go.ChangeAt Go.RowKit Go.Deep

section
variable {H : Type} {enc : TypeId × Value → H} {w : World} {base : Nat} {spare : Nat → Bool} {held : Bool}

set_option maxRecDepth 100000 in
set_option maxHeartbeats 1600000 in
/-- A machine's cells that came in. -/
theorem open_machC {fuel : Nat} {v0 v1 v2 v3 v4 v5 v6 v7 : Value} {x : DataW H × List MemPlace} (hf : DataW.trod enc Tryz.prog w base spare held fuel 30 [v0, v1, v2, v3, v4, v5, v6, v7] = some x) :
    ∃ xs, ∃ m : Mc, v1 = .int .i64 m.p ∧ v2 = .int .i64 m.s ∧ v3 = .int .i64 m.e ∧ v4 = .int .i64 m.d ∧ v5 = .int .i64 m.t ∧ v6 = .int .i64 m.q ∧ v7 = .int .i64 m.r ∧ NRow w v0 xs := by
  obtain ⟨xs, n, _, _, hl, hlen, hff⟩ := DataW.trod_struct Tryz.underlying30 hf
  have g0 := hff 0 _ rfl
  have g1 := hff 1 _ rfl
  have g2 := hff 2 _ rfl
  have g3 := hff 3 _ rfl
  have g4 := hff 4 _ rfl
  have g5 := hff 5 _ rfl
  have g6 := hff 6 _ rfl
  have g7 := hff 7 _ rfl
  have i0 : Tryz.prog.cellsOf 24 = 1 := by kernel_rfl
  have i1 : Tryz.prog.cellsOf 3 = 1 := by kernel_rfl
  match xs, hlen with
  | [y0, y1, y2, y3, y4, y5, y6, y7], _ =>
    simp [i0, i1] at g0 g1 g2 g3 g4 g5 g6 g7
    obtain ⟨m1, e1, _⟩ := DataW.trod_int Tryz.underlying3 g1
    obtain ⟨m2, e2, _⟩ := DataW.trod_int Tryz.underlying3 g2
    obtain ⟨m3, e3, _⟩ := DataW.trod_int Tryz.underlying3 g3
    obtain ⟨m4, e4, _⟩ := DataW.trod_int Tryz.underlying3 g4
    obtain ⟨m5, e5, _⟩ := DataW.trod_int Tryz.underlying3 g5
    obtain ⟨m6, e6, _⟩ := DataW.trod_int Tryz.underlying3 g6
    obtain ⟨m7, e7, _⟩ := DataW.trod_int Tryz.underlying3 g7
    simp only [List.cons.injEq, and_true] at e1 e2 e3 e4 e5 e6 e7
    subst e1 e2 e3 e4 e5 e6 e7
    obtain ⟨z0, n', _, _, h0⟩ := trod_struct1 Tryz.underlying24 g0
    have i3 : Tryz.prog.cellsOf 22 = 1 := by kernel_rfl
    simp [i3] at h0
    obtain ⟨ns, R1⟩ := open_nds h0
    exact ⟨ns, ⟨m1, m2, m3, m4, m5, m6, m7⟩, rfl, rfl, rfl, rfl, rfl, rfl, rfl, R1⟩

set_option maxRecDepth 100000 in
set_option maxHeartbeats 1600000 in
/-- A process that came in. -/
theorem open_proc {v : Value} {d : DataW H} {p : List MemPlace} (hv : Value.okWide Tryz.prog w .any base 33 v) (h : DataW.Trod enc Tryz.prog w 0 (fun _ => true) true 33 v d p) :
    ∃ i v' vb vo xs, ∃ m : Mc, ∃ bx ox, v = .agg #[.int .i64 i, v', .int .i64 m.p, .int .i64 m.s, .int .i64 m.e, .int .i64 m.d, .int .i64 m.t, .int .i64 m.q, .int .i64 m.r, vb, vo] ∧ NRow w v' xs ∧ StRow w vb bx ∧ StRow w vo ox := by
  obtain ⟨cs, rfl, hsz⟩ := okWide_struct Tryz.underlying33 hv
  rw [show Tryz.prog.cellsOf 33 = 11 by kernel_rfl] at hsz
  obtain ⟨fuel, hf⟩ := h
  obtain ⟨v0, v1, v2, v3, v4, v5, v6, v7, v8, v9, v10, rfl⟩ : ∃ v0 v1 v2 v3 v4 v5 v6 v7 v8 v9 v10, cs = #[v0, v1, v2, v3, v4, v5, v6, v7, v8, v9, v10] := by
    obtain ⟨l⟩ := cs
    match l, hsz with
    | [v0, v1, v2, v3, v4, v5, v6, v7, v8, v9, v10], _ => exact ⟨v0, v1, v2, v3, v4, v5, v6, v7, v8, v9, v10, rfl⟩
  obtain ⟨xs, n, _, _, hl, hlen, hff⟩ := DataW.trod_struct Tryz.underlying33 hf
  have g0 := hff 0 _ rfl
  have g1 := hff 1 _ rfl
  have g2 := hff 2 _ rfl
  have g3 := hff 3 _ rfl
  have i0 : Tryz.prog.cellsOf 30 = 8 := by kernel_rfl
  have i1 : Tryz.prog.cellsOf 3 = 1 := by kernel_rfl
  have i2 : Tryz.prog.cellsOf 31 = 1 := by kernel_rfl
  match xs, hlen with
  | [y0, y1, y2, y3], _ =>
    simp [Value.cells, i0, i1, i2] at g0 g1 g2 g3
    obtain ⟨m1, e1, _⟩ := DataW.trod_int Tryz.underlying3 g0
    simp only [List.cons.injEq, and_true] at e1
    subst e1
    obtain ⟨xs, m, rfl, rfl, rfl, rfl, rfl, rfl, rfl, R⟩ := open_machC g1
    obtain ⟨bx, Rb⟩ := open_strs g2
    obtain ⟨ox, Ro⟩ := open_strs g3
    exact ⟨m1, v1, v9, v10, xs, m, bx, ox, rfl, R, Rb, Ro⟩
end
end Go.Proofs.YtdkkpopnoeapdaaGreatDoor
