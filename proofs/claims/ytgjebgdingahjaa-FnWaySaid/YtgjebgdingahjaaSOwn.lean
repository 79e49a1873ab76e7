/-
  A part of a row of texts that the call owns, and how it is marked. No condition.
-/
import Derived.Test.YtgjebgdingahjaaStrs
import Derived.Test.YtgjebgdingahjaaStore2
namespace Go.Proofs.Ytgjebgdingahjaa
open Go.RowKit

/-- A slice of texts that lies in a row of one's own, maybe behind others there. -/
def SOwn (w : World) (base : Nat) (v : Value) (xs : List ByteArray) : Prop :=
  ∃ ao cap, v = .slice ao xs.length cap ∧ (xs.length ≤ cap ∧ (ao = none → cap = 0)) ∧
    (xs = [] ∨ ∃ g CAP N pre post, ao = some ⟨g, pre.length, none⟩ ∧ pre.length + xs.length + post.length = N ∧ w.ownsRow base 9 1 (.slice (some ⟨g, 0, none⟩) N CAP) N (stv (pre ++ (xs ++ post))))
theorem SOwn.form {w : World} {base : Nat} {v : Value} {xs : List ByteArray} (h : SOwn w base v xs) : ∃ ao cap, v = .slice ao xs.length cap := by
  obtain ⟨ao, cap, rfl, _⟩ := h
  exact ⟨ao, cap, rfl⟩
theorem SOwn.of_own {w : World} {base : Nat} {v : Value} {xs : List ByteArray} (h : w.ownsRow base 9 1 v xs.length (stv xs)) : SOwn w base v xs := by
  have h' := h
  rcases h.2 with ⟨rfl, h0⟩ | ⟨g, cap, cur, rfl, hb, hg, hnc, hcm, hcs, htake⟩
  · have : xs = [] := List.eq_nil_of_length_eq_zero h0
    subst this
    exact ⟨none, 0, rfl, by simp, Or.inl rfl⟩
  · exact ⟨_, cap, rfl, ⟨hnc, fun h => by cases h⟩, Or.inr ⟨g, cap, xs.length, [], [], rfl, by simp, by simpa using h'⟩⟩
theorem SOwn.row {w : World} {base : Nat} {v : Value} {xs : List ByteArray} (h : SOwn w base v xs) (hm : xs.length ≤ 9223372036854775807) (hz : ∀ x ∈ xs, x.size ≤ maxLen) : StRow w v xs := by
  obtain ⟨ao, cap, rfl, hc, h⟩ := h
  refine ⟨ao, cap, rfl, hc, hm, hz, fun hne => ?_⟩
  rcases h with h | ⟨g, CAP, N, pre, post, rfl, hN, ho⟩
  · exact absurd h hne
  · refine ⟨g, pre.length, rfl, (ho.lt g rfl).2, fun i x hi => ?_⟩
    have hil : i < xs.length := (List.getElem?_eq_some_iff.1 hi).1
    have := ho.cellAt (pre.length + i) (by omega)
    rw [this]
    apply stv_get
    rw [List.getElem?_append_right (by omega), show pre.length + i - pre.length = i by omega, List.getElem?_append_left hil]
    exact hi
theorem SOwn.below {w w' : World} {base : Nat} {v : Value} {xs : List ByteArray} (h : SOwn w base v xs) (hb : Below w.heap.size w w') : SOwn w' base v xs := by
  obtain ⟨ao, cap, rfl, hc, h⟩ := h
  refine ⟨ao, cap, rfl, hc, ?_⟩
  rcases h with h | ⟨g, CAP, N, pre, post, rfl, hN, ho⟩
  · exact Or.inl h
  · exact Or.inr ⟨g, CAP, N, pre, post, rfl, hN, own_below ho hb⟩
theorem SOwn.alloc {w : World} {base : Nat} {v : Value} {xs : List ByteArray} (h : SOwn w base v xs) (o : Obj) : SOwn (w.alloc o) base v xs := h.below ((Below.refl _ _).alloc (Nat.le_refl _) _)
/-- Where it is not empty, its block is one of texts, from base on. -/
theorem SOwn.blk {w : World} {base : Nat} {v : Value} {xs : List ByteArray} (h : SOwn w base v xs) (hne : xs ≠ []) : ∃ g cs, v.ownBlock = some g ∧ base ≤ g ∧ w.heap[g]? = some (.cells cs 9 (0, 0)) := by
  obtain ⟨ao, cap, rfl, hc, h⟩ := h
  rcases h with h | ⟨g, CAP, N, pre, post, rfl, hN, ho⟩
  · exact absurd h hne
  · rcases ho.2 with ⟨e, _⟩ | ⟨g', cap', cur, e, hb, hg, _⟩
    · cases e
    · cases e
      exact ⟨_, cur, rfl, hb, hg⟩
theorem SOwn.kept {w w' : World} {base : Nat} {v : Value} {xs : List ByteArray} {o : Option Nat} (h : SOwn w base v xs) (hg : w.grownBy w' o) (hne : xs = [] ∨ ∀ g, v.ownBlock = some g → o ≠ some g) : SOwn w' base v xs := by
  obtain ⟨ao, cap, rfl, hc, h⟩ := h
  refine ⟨ao, cap, rfl, hc, ?_⟩
  rcases h with h | ⟨g, CAP, N, pre, post, rfl, hN, ho⟩
  · exact Or.inl h
  · rcases hne with hne | hne
    · exact Or.inl hne
    · refine Or.inr ⟨g, CAP, N, pre, post, rfl, hN, ho.kept hg (Or.inr fun e => hne g rfl ?_)⟩
      simpa [Value.ownBlock] using e.symm

end Go.Proofs.Ytgjebgdingahjaa
