/-
  What a pool and a node that came in read as. Nothing of the program; no condition.
-/
import Derived.Test.YtkchakcebdenjaaGreatShapeM
import Derived.ProofKit
import Derived.OpenShut
import Derived.ShutString
import Derived.ChangeOld
import Derived.Below
import Derived.Deep.Slices
import Derived.ChangeSame
namespace Go.Proofs.YtkchakcebdenjaaGreat
open Go.ChangeShapes Go.WideShapes Go.ChangeAt Go.RowKit Go.Deep
theorem ownKnob_none2 : ownKnob Tryz.prog.godebug = none := by kernel_rfl
theorem laidOut_true2 : laidOutB Tryz.prog = true := by kernel_rfl
section
variable {H : Type} {enc : TypeId × Value → H} {w : World} {base : Nat} {spare : Nat → Bool} {held : Bool}
set_option maxRecDepth 100000 in
theorem node_cells {fuel : Nat} {cs : List Value} {x : DataW H × List MemPlace} (h : DataW.trod enc Tryz.prog w base spare held fuel 98 cs = some x) :
    ∃ nd : Nd, cs = nd.cs ∧ nd.s.size ≤ maxLen := by
  obtain ⟨xs, n, _, _, hl, hlen, hf⟩ := DataW.trod_struct Tryz.underlying98 h
  rw [show Tryz.prog.cellsOf 98 = 5 by kernel_rfl] at hl
  match cs, hl with
  | [v0, v1, v2, v3, v4], _ =>
    have g0 := hf 0 _ rfl
    have g1 := hf 1 _ rfl
    have g2 := hf 2 _ rfl
    have g3 := hf 3 _ rfl
    have g4 := hf 4 _ rfl
    have i1 : Tryz.prog.cellsOf 3 = 1 := by kernel_rfl
    have i2 : Tryz.prog.cellsOf 9 = 1 := by kernel_rfl
    match xs, hlen with
    | [y0, y1, y2, y3, y4], _ =>
      simp [i1, i2] at g0 g1 g2 g3 g4
      obtain ⟨k, e0, _⟩ := DataW.trod_int Tryz.underlying3 g0
      obtain ⟨m, e1, _⟩ := DataW.trod_int Tryz.underlying3 g1
      obtain ⟨s, e2, _, hs⟩ := DataW.trod_string Tryz.underlying9 g2
      obtain ⟨a, e3, _⟩ := DataW.trod_int Tryz.underlying3 g3
      obtain ⟨b, e4, _⟩ := DataW.trod_int Tryz.underlying3 g4
      simp only [List.cons.injEq, and_true] at e0 e1 e2 e3 e4
      subst e0 e1 e2 e3 e4
      exact ⟨⟨k, m, s, a, b⟩, rfl, hs⟩
set_option maxRecDepth 100000 in
theorem open_pool {v : Value} {d : DataW H} {p : List MemPlace} (hv : Value.okWide Tryz.prog w .any base 24 v) (h : DataW.Trod enc Tryz.prog w 0 (fun _ => true) true 24 v d p) :
    ∃ v' xs, v = .agg #[v'] ∧ NRow w v' xs := by
  obtain ⟨cs, rfl, hsz⟩ := okWide_struct Tryz.underlying24 hv
  rw [show Tryz.prog.cellsOf 24 = 1 by kernel_rfl] at hsz
  obtain ⟨fuel, hf⟩ := h
  obtain ⟨y0, n, _, _, h0⟩ := trod_struct1 Tryz.underlying24 hf
  obtain ⟨v', rfl⟩ : ∃ v', cs = #[v'] := by
    obtain ⟨l⟩ := cs
    match l, hsz with
    | [v'], _ => exact ⟨v', rfl⟩
  · have i1 : Tryz.prog.cellsOf 22 = 1 := by kernel_rfl
    have i5 : Tryz.prog.cellsOf 98 = 5 := by kernel_rfl
    simp [Value.cells, i1] at h0
    rcases open_slice Tryz.underlying22 h0 with ⟨hcs, _⟩ | ⟨a, len, cap, m, n, D, Pl, hcs, _, hl, hm, hmm, _, hx⟩
    · simp at hcs
      subst hcs
      exact ⟨_, [], rfl, none, 0, rfl, by simp, by simp, by simp, fun h => absurd rfl h⟩
    · simp at hcs
      subst hcs
      simp at hmm
      subst hmm
      rw [i5] at hx
      have each : ∀ i, i < m → ∃ nd : Nd, nd.s.size ≤ maxLen ∧ ∀ j, j < 5 → w.cell? (a.add (i * 5 + j)) = nd.cs[j]? := by
        intro i hi
        obtain ⟨cs', h1, h2⟩ := hx i hi
        obtain ⟨nd, rfl, hs⟩ := node_cells h2
        obtain ⟨_, hlen, hcell⟩ := World.cells?_some h1
        refine ⟨nd, hs, fun j hj => ?_⟩
        have := hcell j (by omega)
        rw [add_add] at this
        rw [this]
      haveI : Inhabited Nd := ⟨⟨0, 0, ByteArray.empty, 0, 0⟩⟩
      obtain ⟨q, hq⟩ := choose_lt each
      refine ⟨_, (List.range len).map q, rfl, some a, m, ?_, ?_, ?_, ?_, ?_⟩
      · simp
      · exact ⟨by simpa using hl, fun h => by cases h⟩
      · unfold maxLen at hm; simp; omega
      · intro x hx'
        simp at hx'
        obtain ⟨i, hi, rfl⟩ := hx'
        exact (hq i (by omega)).1
      · intro hne
        have hpos : 0 < len := by
          rcases Nat.eq_zero_or_pos len with h0 | h0
          · subst h0; simp at hne
          · exact h0
        obtain ⟨b, off, spot⟩ := a
        have hc := (hq 0 (by omega)).2 0 (by omega)
        simp only [Nd.cs, List.getElem?_cons_zero] at hc
        have hspot : spot = none := by simpa [Addr.add] using World.cell?_spot hc
        subst hspot
        have hb := World.block_lt_of_cell? _ _ hc
        refine ⟨b, off, rfl, by simpa [Addr.add_lit] using hb, fun i x hi => ?_⟩
        have hil : i < len := by
          have := (List.getElem?_eq_some_iff.1 hi).1
          simpa using this
        have hxe : x = q i := by
          rw [List.getElem?_map, List.getElem?_range hil] at hi
          simpa using hi.symm
        subst hxe
        have e : ∀ j, j < 5 → w.cell? ⟨b, off + i * 5 + j, none⟩ = (q i).cs[j]? := fun j hj => by
          have := (hq i (by omega)).2 j hj
          rw [Addr.add_lit] at this
          rw [← this, Nat.add_assoc]
        exact ⟨e 0 (by omega), e 1 (by omega), e 2 (by omega), e 3 (by omega), e 4 (by omega)⟩
end
end Go.Proofs.YtkchakcebdenjaaGreat
