/-
  The law FnExactListOf, walked: at every argument the law returns true.
-/
import Derived.Test.YtbdgdeoecnhcdabLMake
import Derived.Test.YtbdgdeoecnhcdabListOf
import Derived.Test.YtbdgdeoecnhcdabInts
namespace Go.Proofs.Ytbdgdeoecnhcdab
open Go.RowKit

/-- A slice of ints of the call's own, its row between lo and hi. -/
def OwnI (w : World) (lo hi : Nat) (v : Value) (zs : List Int) : Prop := w.ownsRow lo 3 1 v zs.length (iv zs) ∧ (∀ k, v.ownBlock = some k → k < hi)
theorem OwnI.mk' {w : World} {lo : Nat} {v : Value} {zs : List Int} (h : w.ownsRow lo 3 1 v zs.length (iv zs)) : OwnI w lo w.heap.size v zs := ⟨h, fun k hk => (h.lt k hk).2⟩
theorem OwnI.below {w w' : World} {lo hi : Nat} {v : Value} {zs : List Int} (h : OwnI w lo hi v zs) (hb : Below w.heap.size w w') : OwnI w' lo hi v zs := ⟨own_below h.1 hb, h.2⟩
theorem OwnI.row {w : World} {lo hi : Nat} {v : Value} {zs : List Int} (h : OwnI w lo hi v zs) (hm : zs.length ≤ 4194304) : IRow w v zs := IRow.of_own h.1 (by omega)
theorem own_two {w : World} {B B' : Nat} {e e' : TypeId} {k k' : Nat} {v v' : Value} {n n' : Nat} {xs xs' : List Value} (h : w.ownsRow B e k v n xs) (h' : w.ownsRow B' e' k' v' n' xs') (hne : e ≠ e') : v.ownBlock = none ∨ v.ownBlock ≠ v'.ownBlock := by
  rcases h.2 with ⟨rfl, _⟩ | ⟨g, cap, cur, rfl, hB, hg, _⟩
  · exact Or.inl rfl
  · exact Or.inr fun e => own_ne h' hg hne e.symm
theorem OwnI.keptN {w w' : World} {lo hi lo' hi' b' : Nat} {v v' : Value} {zs : List Int} {xs' : List Nd} (h : OwnI w lo hi v zs) (V : Var w b' lo' hi' v' xs') (hg : w.grownBy w' v'.ownBlock) : OwnI w' lo hi v zs :=
  ⟨h.1.kept hg (own_two h.1 V.2.1 (by decide)), h.2⟩
theorem OwnI.kept {w w' : World} {lo hi lo' hi' : Nat} {v v' : Value} {zs zs' : List Int} (h : OwnI w lo hi v zs) (h' : OwnI w lo' hi' v' zs') (hg : w.grownBy w' v'.ownBlock) (hd : hi ≤ lo' ∨ hi' ≤ lo) : OwnI w' lo hi v zs := by
  refine ⟨h.1.kept hg ?_, h.2⟩
  cases hv : v.ownBlock with
  | none => exact Or.inl rfl
  | some k =>
    refine Or.inr fun e => ?_
    have k1 := h.2 k hv
    have k2 := (h.1.lt k hv).1
    have k3 := h'.2 k e.symm
    have k4 := (h'.1.lt k e.symm).1
    omega
theorem OwnI.block {w w' : World} {lo hi : Nat} {v : Value} {zs : List Int} (h : OwnI w lo hi v zs) (hg : w.grownBy w' v.ownBlock) {j : Nat} {c : Array Value} {t : TypeId} (hj : w.heap[j]? = some (.cells c t (0, 0))) (hte : t ≠ 3) : w'.heap[j]? = some (.cells c t (0, 0)) :=
  (hg.block j (Array.getElem?_eq_some_iff.1 hj).1 (fun e => own_ne h.1 hj hte e.symm)).trans hj
theorem below_markI {w w' w0 : World} {B lo hi : Nat} {v : Value} {zs : List Int} (h0 : Below B w0 w) (h : OwnI w lo hi v zs) (hg : w.grownBy w' v.ownBlock) (hlo : B ≤ lo) (hB : B ≤ w.heap.size) : Below B w0 w' :=
  h0.grown hg hB (fun k hk => Nat.le_trans hlo (h.1.lt k hk).1)
theorem chain_len (xs : List Nd) (f j : Nat) (acc l : List Int) (h : chain xs f j acc = some l) : l.length ≤ acc.length + f := by
  induction f generalizing j acc with
  | zero => simp [chain] at h
  | succ f ih =>
    simp only [chain] at h
    split at h
    · cases h
    · split at h
      · have := ih _ _ h
        simp at this
        omega
      · split at h
        · cases h; omega
        · cases h
theorem listR_len (xs : List Nd) (a : Int) : (listR xs a).1.length ≤ xs.length := by
  unfold listR
  cases h : (poolB xs && hasI xs a) with
  | false => simp
  | true =>
    simp only [Bool.and_eq_true, hasI, decide_eq_true_eq] at h
    rw [if_pos rfl]
    unfold chainR
    split
    · rename_i l hl
      have := chain_len xs _ _ _ _ hl
      show l.length ≤ xs.length
      simp only [List.length_nil] at this
      omega
    · simp

end Go.Proofs.Ytbdgdeoecnhcdab
