/-
  A slice of leases of one's own, and where its row lies. No condition.
-/
import Derived.Test.YtdlbgdckkjhbdaaLsMark
namespace Go.Proofs.Ytdlbgdckkjhbdaa
open Go.RowKit

/-- A slice of leases of one's own, whose row lies between lo and hi. -/
def VarS (w : World) (lo hi : Nat) (v : Value) (xs : List Ls) : Prop := w.ownsRow lo 40 3 v xs.length (lscs xs) ∧ (∀ k, v.ownBlock = some k → k < hi) ∧ hi ≤ w.heap.size
theorem VarS.new {w : World} {lo : Nat} {v : Value} {xs : List Ls} (h : w.ownsRow lo 40 3 v xs.length (lscs xs)) : VarS w lo w.heap.size v xs := ⟨h, fun k hk => (h.lt k hk).2, Nat.le_refl _⟩
theorem VarS.below {w w' : World} {lo hi : Nat} {v : Value} {xs : List Ls} (h : VarS w lo hi v xs) (hb : Below w.heap.size w w') : VarS w' lo hi v xs := ⟨own_below h.1 hb, h.2.1, Nat.le_trans h.2.2 hb.size⟩
theorem VarS.row {w : World} {lo hi : Nat} {v : Value} {xs : List Ls} (h : VarS w lo hi v xs) (hm : xs.length ≤ 4194304) : LsRow w v xs := LsRow.of_own h.1 (by omega)
theorem VarS.kept {w w' : World} {lo hi lo' hi' : Nat} {v v' : Value} {xs xs' : List Ls} (V : VarS w lo hi v xs) (V' : VarS w lo' hi' v' xs') (hg : w.grownBy w' v'.ownBlock) (hd : hi ≤ lo' ∨ hi' ≤ lo) : VarS w' lo hi v xs := by
  refine ⟨V.1.kept hg ?_, V.2.1, Nat.le_trans V.2.2 hg.size⟩
  cases hv : v.ownBlock with
  | none => exact Or.inl rfl
  | some k =>
    refine Or.inr fun e => ?_
    have k1 := V.2.1 k hv
    have k2 := (V.1.lt k hv).1
    have k3 := V'.2.1 k e.symm
    have k4 := (V'.1.lt k e.symm).1
    omega
/-- The same slice, marked from 1 on. -/
theorem VarS.marked {w w' : World} {lo hi : Nat} {v : Value} {xs : List Ls} (V : VarS w lo hi v xs) (h : w'.ownsRow lo 40 3 v xs.length (lscs (lmarked 1 xs xs.length))) (hg : w.grownBy w' v.ownBlock) : VarS w' lo hi v (lmarked 1 xs xs.length) :=
  ⟨by rw [lmarked_length _ _ _ (Nat.le_refl _)]; exact h, V.2.1, Nat.le_trans V.2.2 hg.size⟩
end Go.Proofs.Ytdlbgdckkjhbdaa
