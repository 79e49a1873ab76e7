/-
  Contract of spec's l2Classes: for each node the first one that is alike.
-/
import Derived.Test.YtmnmljmbicepjaaFirsts
import Derived.Test.YtmnmljmbicepjaaSSize
import Derived.Test.YtmnmljmbicepjaaSMake
import Derived.Deep.CutBlock
import Derived.Deep.CutRange
namespace Go.Proofs.Ytmnmljmbicepjaa
open Go.RowKit Go.Maps

theorem idx_at (ks : List Nd) (y : Nd) (j : Nat) (h0 : ∀ t, t < j → ks[t]? ≠ some y) (hj : ks[j]? = some y) : idx ks y = j := by
  induction ks generalizing j with
  | nil => simp at hj
  | cons k ks ih =>
    cases j with
    | zero => simp at hj; simp [idx, hj]
    | succ j =>
      have hk : ¬ k = y := by have := h0 0 (by omega); simpa using this
      simp only [idx, if_neg hk]
      rw [ih j (fun t ht => by have := h0 (t + 1) (by omega); simpa using this) (by simpa using hj)]
theorem idx_end (ks : List Nd) (y : Nd) (h0 : ∀ t, t < ks.length → ks[t]? ≠ some y) : idx ks y = ks.length := by
  apply idx_none
  intro hm
  obtain ⟨t, ht, e⟩ := List.mem_iff_getElem.1 hm
  exact h0 t ht (by rw [List.getElem?_eq_getElem ht, e])
theorem own_apart {w : World} {B B' : Nat} {e e' : TypeId} {k k' : Nat} {v v' : Value} {n n' : Nat} {xs xs' : List Value} (h : w.ownsRow B e k v n xs) (h' : w.ownsRow B' e' k' v' n' xs') (hne : e ≠ e') : v.ownBlock = none ∨ v.ownBlock ≠ v'.ownBlock := by
  rcases h.2 with ⟨rfl, _⟩ | ⟨g, cap, cur, rfl, hB, hg, _⟩
  · exact Or.inl rfl
  · exact Or.inr fun e => own_ne h' hg hne e.symm
theorem node_eql (y : Nd) (w : World) : (binOp .eql 60 (.agg #[.int .i64 y.k, .int .i64 y.n, .string y.s, .int .i64 y.a, .int .i64 y.b]) (.agg #[.int .i64 y.k, .int .i64 y.n, .string y.s, .int .i64 y.a, .int .i64 y.b])).run Try.prog w = .ok (.bool true) w := by
  simp [go_sem]
theorem node_neql (z y : Nd) (h : z ≠ y) (w : World) : (binOp .eql 60 (.agg #[.int .i64 z.k, .int .i64 z.n, .string z.s, .int .i64 z.a, .int .i64 z.b]) (.agg #[.int .i64 y.k, .int .i64 y.n, .string y.s, .int .i64 y.a, .int .i64 y.b])).run Try.prog w = .ok (.bool false) w := by
  obtain ⟨k, n, s, a, b⟩ := z
  obtain ⟨k', n', s', a', b'⟩ := y
  have hs : s.toList = s'.toList → s = s' := by
    rw [ByteArray.toList_eq, ByteArray.toList_eq]
    intro e
    obtain ⟨⟨x⟩⟩ := s
    obtain ⟨⟨x'⟩⟩ := s'
    simp only at e
    rw [e]
  simp [go_sem]
  intro h1 h2 h3 h4 h5
  exact h (by rw [h1, h2, hs h3, h4, h5])

theorem own_empty (W : World) (t : TypeId) (k B : Nat) (h : B ≤ W.heap.size) : (W.alloc (Obj.cells #[] t)).ownsRow B t k (.slice (some ⟨W.heap.size, 0, none⟩) 0 0) 0 [] :=
  own_mono (World.ownsRow_made W #[] 0 (Nat.le_refl _) (by simp) (by simp)) h

/-- A node's block. -/
def nblk (y : Nd) : Obj := .cells #[.int .i64 y.k, .int .i64 y.n, .string y.s, .int .i64 y.a, .int .i64 y.b] 60 (0, 0)

end Go.Proofs.Ytmnmljmbicepjaa
