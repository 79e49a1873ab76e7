/-
  The law FnSize, walked: at every argument it returns true.
-/
import Derived.Test.YtlnfhcfdcocepaaDraw11
namespace Go.Proofs.Ytlnfhcfdcocepaa
open Go.RowKit

theorem sizeR_bounds (xs : List Nd) (a : Int) : 0 ≤ sizeR xs a ∧ sizeR xs a ≤ 1000000000 := by
  unfold sizeR
  split
  · exact getD_mem_bounds _ _ (sizesTo_bounds xs xs.length)
  · omega
theorem sizeR_step (xs : List Nd) (a : Nat) (x : Nd) (hp : poolB xs = true) (hx : xs[a]? = some x) :
    sizeR xs a = min (1 + (if hasA x.k then sizeR xs x.a else 0) + (if hasB x.k then sizeR xs x.b else 0)) 1000000000 := by
  have hl : a < xs.length := (List.getElem?_eq_some_iff.1 hx).1
  have hnb := poolB_at hp hx
  have e : sizeR xs a = szN (sizesTo xs a) x := by
    unfold sizeR
    rw [hp, show hasI xs a = true by unfold hasI; simp [hl], Bool.and_self, if_pos rfl, Int.toNat_natCast, sizesTo_prefix xs (a + 1) a (by omega) (by omega), sizesTo_succ xs a x hx]
    have := sizesTo_length xs a (by omega)
    simp only [List.getD_eq_getElem?_getD]
    rw [List.getElem?_append_right (by omega), this]
    simp
  rw [e]
  unfold szN szA szB
  have part : ∀ q : Int, 0 ≤ q → q < a → sizeR xs q = (sizesTo xs a).getD q.toNat 0 := fun q h0 h1 => by
    obtain ⟨m, rfl⟩ := Int.eq_ofNat_of_zero_le h0
    unfold sizeR
    rw [hp, show hasI xs (m : Nat) = true by unfold hasI; simp; omega, Bool.and_self, if_pos rfl, Int.toNat_natCast, sizesTo_prefix xs a m (by omega) (by omega)]
  cases hA : hasA x.k with
  | false =>
    cases hB : hasB x.k with
    | false => rfl
    | true => have := nodeB_B hnb hB; rw [part x.b this.1 this.2]; rfl
  | true =>
    have h1 := nodeB_A hnb hA
    rw [part x.a h1.1 h1.2]
    cases hB : hasB x.k with
    | false => rfl
    | true => have := nodeB_B hnb hB; rw [part x.b this.1 this.2]

end Go.Proofs.Ytlnfhcfdcocepaa
