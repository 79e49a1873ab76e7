/-
  What is moved: plain mathematics. The nodes that are told, in their order, behind a others, with their parts where these are then. No condition.
-/
import Derived.Test.YtbdgdeoecnhcdabRcMath
import Derived.Test.YtbdgdeoecnhcdabCls
namespace Go.Proofs.Ytbdgdeoecnhcdab
open Go.RowKit

/-- The nodes that bs tells, each with its place, from the place k on. -/
def its : List Nd → List Bool → Nat → List (Nat × Nd)
  | [], _, _ => []
  | x :: r, bs, k => if bs.getD k false then (k, x) :: its r bs (k + 1) else its r bs (k + 1)
/-- One more node: what there is then, and where each is. -/
def mvS (a : Nat) (s : List Nd × List Int) (p : Nat × Nd) : List Nd × List Int := (s.1 ++ [nrm s.2 p.2], s.2.set p.1 ((a + s.1.length : Nat) : Int))
def mvF (a n : Nat) (l : List (Nat × Nd)) : List Nd × List Int := l.foldl (mvS a) ([], List.replicate n 0)
/-- All nodes that bs tells. -/
def mvAll (a : Nat) (xs : List Nd) (bs : List Bool) : List Nd × List Int := mvF a xs.length (its xs bs 0)
def mvN (a : Nat) (xs : List Nd) (rs : List Int) : List Nd := (mvAll a xs (reachL xs rs)).1
def mvR (a : Nat) (xs : List Nd) (rs qs : List Int) : List Int := qs.map (fun r => (mvAll a xs (reachL xs rs)).2.getD r.toNat 0)
theorem mvF_snoc (a n : Nat) (l : List (Nat × Nd)) (p : Nat × Nd) : mvF a n (l ++ [p]) = mvS a (mvF a n l) p := by simp [mvF]
theorem fold_len (a : Nat) (l : List (Nat × Nd)) (s : List Nd × List Int) : (l.foldl (mvS a) s).1.length = s.1.length + l.length ∧ (l.foldl (mvS a) s).2.length = s.2.length := by
  induction l generalizing s with
  | nil => simp
  | cons p l ih =>
    rw [List.foldl_cons]
    obtain ⟨h1, h2⟩ := ih (mvS a s p)
    rw [h1, h2]
    simp [mvS]
    omega
theorem mvF_len (a n : Nat) (l : List (Nat × Nd)) : (mvF a n l).1.length = l.length ∧ (mvF a n l).2.length = n := by
  obtain ⟨h1, h2⟩ := fold_len a l ([], List.replicate n 0)
  exact ⟨by unfold mvF; rw [h1]; simp, by unfold mvF; rw [h2]; simp⟩
theorem its_at (xs : List Nd) (bs : List Bool) (k : Nat) (x : Nd) (h : xs[k]? = some x) : its (xs.drop k) bs k = if bs.getD k false then (k, x) :: its (xs.drop (k + 1)) bs (k + 1) else its (xs.drop (k + 1)) bs (k + 1) := by
  obtain ⟨hl, he⟩ := List.getElem?_eq_some_iff.1 h
  rw [List.drop_eq_getElem_cons hl, its, he]
theorem its_end (xs : List Nd) (bs : List Bool) : its (xs.drop xs.length) bs xs.length = [] := by rw [List.drop_length]; rfl
theorem its_len (xs : List Nd) (bs : List Bool) (k : Nat) : (its xs bs k).length ≤ xs.length := by
  induction xs generalizing k with
  | nil => simp [its]
  | cons x xs ih =>
    have := ih (k + 1)
    simp only [its]
    split <;> simp <;> omega
theorem mvN_len (a : Nat) (xs : List Nd) (rs : List Int) : (mvN a xs rs).length ≤ xs.length := by
  unfold mvN mvAll
  rw [(mvF_len _ _ _).1]
  exact its_len _ _ _
theorem nrm_set (l : List Int) (i : Nat) (z : Int) (x : Nd) (hA : hasA x.k = true → x.a.toNat ≠ i) (hB : hasB x.k = true → x.b.toNat ≠ i) : nrm (l.set i z) x = nrm l x := by
  unfold nrm
  simp only [Nd.mk.injEq, true_and]
  constructor
  · split
    · rename_i h; simp only [List.getD_eq_getElem?_getD]; rw [List.getElem?_set, if_neg (fun e => hA h e.symm)]
    · rfl
  · split
    · rename_i h; simp only [List.getD_eq_getElem?_getD]; rw [List.getElem?_set, if_neg (fun e => hB h e.symm)]
    · rfl
end Go.Proofs.Ytbdgdeoecnhcdab
