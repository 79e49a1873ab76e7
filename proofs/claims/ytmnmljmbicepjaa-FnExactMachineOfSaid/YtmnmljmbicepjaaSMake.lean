/-
  Contract of spec.Make.
-/
import Derived.Test.YtmnmljmbicepjaaMake
import Derived.OneCell
namespace Go.Proofs.Ytmnmljmbicepjaa
open Go.RowKit

theorem own_ne {w : World} {B : Nat} {e t : TypeId} {k : Nat} {v : Value} {n j : Nat} {xs : List Value} {c : Array Value} {fr : Nat × Nat} (h : w.ownsRow B e k v n xs) (hj : w.heap[j]? = some (.cells c t fr)) (hte : t ≠ e) : v.ownBlock ≠ some j := by
  rcases h.2 with ⟨rfl, _⟩ | ⟨g, cap, cur, rfl, hB, hg, _⟩
  · simp [Value.ownBlock]
  · intro e'
    simp only [Value.ownBlock, Option.some.injEq] at e'
    subst e'
    rw [hg] at hj
    cases hj
    exact hte rfl

end Go.Proofs.Ytmnmljmbicepjaa
