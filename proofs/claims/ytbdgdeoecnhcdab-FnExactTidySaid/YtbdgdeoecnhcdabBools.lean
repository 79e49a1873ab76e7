/-
  Slices of bools: how one reads, and the contracts of the laws' own helpers eqBoolS, markBoolS, heldBoolS.
-/
import Derived.Test.YtbdgdeoecnhcdabInts
namespace Go.Proofs.Ytbdgdeoecnhcdab
open Go.RowKit

/-- Bools as cells. -/
def vb (zs : List Bool) : List Value := zs.map .bool
theorem vb_length (zs : List Bool) : (vb zs).length = zs.length := by simp [vb]
theorem vb_get (zs : List Bool) (i : Nat) (h : i < zs.length) : (vb zs)[i]? = some (.bool (zs.getD i false)) := by simp [vb, List.getD, h]
theorem vb_set (zs : List Bool) (i : Nat) (z : Bool) : (vb zs).set i (.bool z) = vb (zs.set i z) := by simp [vb, List.map_set]

/-- The slice value v reads in w as the bools zs. -/
def BRow (w : World) (v : Value) (zs : List Bool) : Prop :=
  ∃ ao cap, v = .slice ao zs.length cap ∧ (zs.length ≤ cap ∧ (ao = none → cap = 0)) ∧ zs.length ≤ 9223372036854775807 ∧ (zs ≠ [] → ∃ g o, ao = some ⟨g, o, none⟩ ∧ g < w.heap.size ∧ ∀ i, i < zs.length → w.cell? ⟨g, o + i, none⟩ = some (.bool (zs.getD i false)))
theorem BRow.below {w w' : World} {v : Value} {zs : List Bool} (h : BRow w v zs) (hb : Below w.heap.size w w') : BRow w' v zs := by
  obtain ⟨ao, cap, rfl, hc, hm, hcell⟩ := h
  refine ⟨ao, cap, rfl, hc, hm, fun hne => ?_⟩
  obtain ⟨g, o, rfl, hg, hcell⟩ := hcell hne
  exact ⟨g, o, rfl, Nat.lt_of_lt_of_le hg hb.size, fun i hi => (hb.cell (p := ⟨g, o + i, none⟩) hg).trans (hcell i hi)⟩
theorem BRow.of_own {w : World} {base : Nat} {v : Value} {zs : List Bool} (h : w.ownsRow base 4 1 v zs.length (vb zs)) (hm : zs.length ≤ 9223372036854775807) : BRow w v zs := by
  rcases h.2 with ⟨rfl, h0⟩ | ⟨g, cap, cur, rfl, hb, hg, hnc, hcm, hcs, htake⟩
  · have : zs = [] := List.eq_nil_of_length_eq_zero h0
    subst this
    exact ⟨none, 0, rfl, by simp, by simp, fun h => absurd rfl h⟩
  · refine ⟨_, cap, rfl, ⟨hnc, fun h => by cases h⟩, hm, fun _ => ⟨g, 0, rfl, (Array.getElem?_eq_some_iff.1 hg).1, fun i hi => ?_⟩⟩
    have := h.cellAt i (by omega)
    rw [Nat.zero_add, this, vb_get zs i hi]

theorem own_none0 (W : World) (t : TypeId) (k B : Nat) (h : B ≤ W.heap.size) : (W.alloc (Obj.cells #[] t)).ownsRow B t k (.slice (some ⟨W.heap.size, 0, none⟩) 0 0) 0 [] :=
  own_mono (World.ownsRow_made W #[] 0 (Nat.le_refl _) (by simp) (by simp)) h

theorem bne_same (b : Bool) : (b != b) = false := by cases b <;> rfl

/-- What markBoolS writes at the number k. -/
def mk3 (k : Int) : Bool := k % 3 == 0
/-- What lies in a slice of bools behind markBoolS from k on, when i of them are written and zs stood there. -/
def bmarked (k : Int) (zs : List Bool) (i : Nat) : List Bool := (List.range i).map (fun (j : Nat) => mk3 (k + (j : Int))) ++ zs.drop i
theorem bmarked_zero (k : Int) (zs : List Bool) : bmarked k zs 0 = zs := by simp [bmarked]
theorem bmarked_length (k : Int) (zs : List Bool) (i : Nat) (h : i ≤ zs.length) : (bmarked k zs i).length = zs.length := by simp [bmarked]; omega
theorem bmarked_set (k : Int) (zs : List Bool) (i : Nat) (h : i < zs.length) : (bmarked k zs i).set i (mk3 (k + (i : Int))) = bmarked k zs (i + 1) := by
  unfold bmarked
  rw [List.range_succ, List.map_append, List.set_append_right _ _ (by simp), List.drop_eq_getElem_cons h, List.append_assoc]
  have e : i - (List.map (fun (j : Nat) => mk3 (k + (j : Int))) (List.range i)).length = 0 := by simp
  rw [e]
  rfl
theorem bmarked_get (k : Int) (zs : List Bool) (i : Nat) (h : i < zs.length) : (bmarked k zs zs.length).getD i false = mk3 (k + (i : Int)) := by
  simp [bmarked, List.getD, h]

end Go.Proofs.Ytbdgdeoecnhcdab
