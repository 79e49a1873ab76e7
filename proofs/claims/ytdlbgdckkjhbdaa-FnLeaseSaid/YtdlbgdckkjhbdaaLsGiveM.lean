/-
  What LeaseGive answers. No condition.
-/
import Derived.Test.YtdlbgdckkjhbdaaLsOkI
import Derived.Test.YtdlbgdckkjhbdaaLsOkS
import Derived.Test.YtdlbgdckkjhbdaaLsOut
import Derived.Test.YtdlbgdckkjhbdaaVarS
import Derived.Test.YtdlbgdckkjhbdaaWith
import Derived.Test.YtdlbgdckkjhbdaaStepApp
import Derived.Test.YtdlbgdckkjhbdaaStore2
namespace Go.Proofs.Ytdlbgdckkjhbdaa
open Go.RowKit

/-- The lease of both. -/
def gvX (xs : List Ls) (i q : Int) : Option Ls := if 0 ≤ lsIdx xs i q 0 then xs[(lsIdx xs i q 0).toNat]? else none
/-- It is given back. -/
def gvB (xs : List Ls) (i q n : Int) : Bool := lsB xs && (match gvX xs i q with | some x => decide (n ≤ x.u) | none => false)
/-- The list that comes. -/
def gvL (xs : List Ls) (i q n : Int) : List Ls := if gvB xs i q n = true then xs.eraseIdx (lsIdx xs i q 0).toNat else if lsB xs = true then xs else []
theorem gv_bad {xs : List Ls} {i q n : Int} (h1 : lsB xs = false) : gvB xs i q n = false ∧ gvL xs i q n = [] := by
  have hb : gvB xs i q n = false := by unfold gvB; rw [h1]; rfl
  exact ⟨hb, by unfold gvL; rw [if_neg (by rw [hb]; simp), if_neg (by rw [h1]; simp)]⟩
theorem gv_none {xs : List Ls} {i q n : Int} (h1 : lsB xs = true) (h : ¬ 0 ≤ lsIdx xs i q 0) : gvB xs i q n = false ∧ gvL xs i q n = xs := by
  have hb : gvB xs i q n = false := by unfold gvB gvX; rw [if_neg h]; simp
  exact ⟨hb, by unfold gvL; rw [if_neg (by rw [hb]; simp), if_pos h1]⟩
theorem gv_over {xs : List Ls} {i q n : Int} {k : Nat} {x : Ls} (h1 : lsB xs = true) (h : lsIdx xs i q 0 = (k : Int)) (hx : xs[k]? = some x) (hn : ¬ n ≤ x.u) : gvB xs i q n = false ∧ gvL xs i q n = xs := by
  have hb : gvB xs i q n = false := by
    unfold gvB gvX
    rw [h, if_pos (by omega), Int.toNat_natCast, hx]
    simp; omega
  exact ⟨hb, by unfold gvL; rw [if_neg (by rw [hb]; simp), if_pos h1]⟩
theorem gv_yes {xs : List Ls} {i q n : Int} {k : Nat} {x : Ls} (h1 : lsB xs = true) (h : lsIdx xs i q 0 = (k : Int)) (hx : xs[k]? = some x) (hn : n ≤ x.u) : gvB xs i q n = true ∧ gvL xs i q n = xs.eraseIdx k := by
  have hb : gvB xs i q n = true := by
    unfold gvB gvX
    rw [h, if_pos (by omega), Int.toNat_natCast, hx, h1]
    simp; omega
  exact ⟨hb, by unfold gvL; rw [if_pos hb, h, Int.toNat_natCast]⟩
theorem gvL_len (xs : List Ls) (i q n : Int) : (gvL xs i q n).length ≤ xs.length := by
  unfold gvL
  split
  · rw [List.length_eraseIdx]; split <;> omega
  · split
    · omega
    · simp

/-- What LeaseGive answers, in memory. -/
def GvAns (xs : List Ls) (i q n : Int) (w : World) (e : Ending) (w' : World) : Prop :=
  ∃ u, e = .returned (.tuple #[u, .bool (gvB xs i q n)]) ∧ w'.ownsRow w.heap.size 40 3 u (gvL xs i q n).length (lscs (gvL xs i q n)) ∧ Below w.heap.size w w'
theorem GvAns.of {xs : List Ls} {i q n : Int} {w w' : World} {u : Value} {L : List Ls} {b : Bool} (h : gvB xs i q n = b ∧ gvL xs i q n = L) (ho : w'.ownsRow w.heap.size 40 3 u L.length (lscs L)) (hb : Below w.heap.size w w') :
    GvAns xs i q n w (.returned (.tuple #[u, .bool b])) w' := by
  obtain ⟨rfl, rfl⟩ := h
  exact ⟨u, rfl, ho, hb⟩
theorem gv_at {xs : List Ls} {i q : Int} {k : Nat} (h : lsIdx xs i q 0 = (k : Int)) : ∃ x, xs[k]? = some x := by
  have := (lsIdx_lt xs i q).2
  exact ⟨xs[k]'(by omega), List.getElem?_eq_getElem (by omega)⟩
theorem own_take {w : World} {B g n k j cap : Nat} {t : TypeId} {L : List Value} (h : w.ownsRow B t k (.slice (some ⟨g, 0, none⟩) n cap) n L) (hj : j ≤ n) : w.ownsRow B t k (.slice (some ⟨g, 0, none⟩) j cap) j (L.take (j * k)) := by
  have hjk : j * k ≤ n * k := Nat.mul_le_mul_right k hj
  rcases h.2 with ⟨e, _⟩ | ⟨g', cap', cur, e, hB, hg, hnc, hcm, hcs, htake⟩
  · cases e
  · simp only [Value.slice.injEq, Option.some.injEq, Addr.mk.injEq, and_true, true_and] at e
    obtain ⟨rfl, rfl⟩ := e
    refine ⟨by rw [List.length_take, h.1]; omega, Or.inr ⟨g, cap, cur, rfl, hB, hg, by omega, hcm, hcs, ?_⟩⟩
    rw [← htake, List.take_take, Nat.min_eq_left hjk]
theorem lscs_take (xs : List Ls) (j : Nat) (h : j ≤ xs.length) : (lscs xs).take (j * 3) = lscs (xs.take j) := by
  have e : lscs xs = lscs (xs.take j) ++ lscs (xs.drop j) := by rw [← lscs_append, List.take_append_drop]
  have hl : (lscs (xs.take j)).length = j * 3 := by rw [lscs_length]; simp; omega
  rw [e, ← hl, List.take_left]
end Go.Proofs.Ytdlbgdckkjhbdaa
