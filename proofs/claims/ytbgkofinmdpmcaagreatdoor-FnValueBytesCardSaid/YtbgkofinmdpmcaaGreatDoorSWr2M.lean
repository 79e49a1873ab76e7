/-
  Texts that stood by themselves, laid into one.
-/
import Derived.Test.YtbgkofinmdpmcaaGreatDoorWordM
import Derived.Test.YtbgkofinmdpmcaaGreatDoorTo2M
import Derived.Test.YtbgkofinmdpmcaaGreatDoorSizeIM
import Derived.Deep.LoopGhost
/-
  The contract of spec.l3Write: a value behind a text, as long as that is not too long. No condition beyond the pool's being right.
-/
namespace Go.Proofs.YtbgkofinmdpmcaaGreatDoor
open Go.RowKit

theorem pool_name {xs : List Nd} (hp : poolB xs = true) {i : Nat} {x : Nd} (hx : xs[i]? = some x) : x.s.size ≤ 12 := by
  have h := pool_at hp hx
  simp only [nodeB, Bool.and_eq_true] at h
  obtain ⟨_, ⟨hs, _⟩, _⟩ := h
  unfold nameFB at hs
  split at hs
  · simp only [nameB, Bool.and_eq_true, decide_eq_true_eq] at hs
    exact hs.1.2
  · have h0 : x.s.toList = [] := by simpa using hs
    have h1 : x.s.data.toList.length = x.s.size := by rw [Array.length_toList]; rfl
    rw [ByteArray.toList_eq] at h0
    rw [h0] at h1
    simp at h1
    omega

/-- What l3Write makes of the text l and a value that is written m, in the end r; at most so many bytes. -/
def Wrote (l m r : List UInt8) (top : Nat) : Prop :=
  (400 < l.length → r = l) ∧ (l.length ≤ 400 → r.length ≤ top ∧ (l.length + m.length ≤ 400 → r = l ++ m) ∧ (400 < l.length + m.length → 400 < r.length))

theorem wrote_put {l m : List UInt8} {top : Nat} (h : l.length ≤ 400) (hm : l.length + m.length ≤ top) : Wrote l m (l ++ m) top :=
  ⟨fun h' => by omega, fun _ => ⟨by simp; omega, fun _ => rfl, fun h' => by simp; omega⟩⟩
theorem wrote_skip {l m : List UInt8} {top : Nat} (h : 400 < l.length) : Wrote l m l top := ⟨fun _ => rfl, fun h' => by omega⟩
theorem tx_of (s : ByteArray) : s = tx s.data.toList := by apply ByteArray.ext; simp [tx]

end Go.Proofs.YtbgkofinmdpmcaaGreatDoor

/-
  spec.l3Write at a pair, and the contract of spec.Write. No condition.
-/
namespace Go.Proofs.YtbgkofinmdpmcaaGreatDoor
open Go.RowKit

/-- The text r so far, of a value that is written m behind l, where t is still to come (and a bracket). -/
def St (l m t r : List UInt8) (top : Nat) : Prop :=
  r.length ≤ top ∧ ((r.length ≤ 400 ∧ r ++ t ++ [41] = l ++ m) ∨ (400 < r.length ∧ 400 < l.length + m.length))
theorem st_init {xs : List Nd} {v ia ib : Nat} {l r : List UInt8} (hT : fullT xs v = [40] ++ fullT xs ia ++ restT xs ib ++ [41]) (hW : Wrote (l ++ [40]) (fullT xs ia) r (1504 + 4 * ia)) (hl : l.length ≤ 400) (hv : ia < v) : St l (fullT xs v) (restT xs ib) r (1500 + 4 * v) := by
  have hlen : (fullT xs v).length = 2 + (fullT xs ia).length + (restT xs ib).length := by rw [hT]; simp; omega
  by_cases h : 400 < (l ++ [40]).length
  · have e := hW.1 h
    subst e
    simp at h
    exact ⟨by simp; omega, Or.inr ⟨by simp; omega, by omega⟩⟩
  · obtain ⟨h1, h2, h3⟩ := hW.2 (by omega)
    by_cases h4 : (l ++ [40]).length + (fullT xs ia).length ≤ 400
    · have e := h2 h4
      subst e
      simp at h4
      exact ⟨by simp; omega, Or.inl ⟨by simp; omega, by rw [hT]; simp⟩⟩
    · have := h3 (by omega)
      simp at h4
      exact ⟨by omega, Or.inr ⟨this, by omega⟩⟩
theorem st_step {xs : List Nd} {jb ka kb v : Nat} {l m r r' : List UInt8} (hR : restT xs jb = [32] ++ fullT xs ka ++ restT xs kb) (hS : St l m (restT xs jb) r (1500 + 4 * v)) (hr : r.length ≤ 400) (hW : Wrote (r ++ [32]) (fullT xs ka) r' (1504 + 4 * ka)) (hv : ka < v) : St l m (restT xs kb) r' (1500 + 4 * v) := by
  rcases hS.2 with ⟨_, he⟩ | ⟨h, _⟩
  · have hlen := congrArg List.length he
    rw [hR] at hlen he
    simp at hlen
    by_cases h : 400 < (r ++ [32]).length
    · have e := hW.1 h
      subst e
      simp at h
      exact ⟨by simp; omega, Or.inr ⟨by simp; omega, by omega⟩⟩
    · obtain ⟨h1, h2, h3⟩ := hW.2 (by omega)
      by_cases h4 : (r ++ [32]).length + (fullT xs ka).length ≤ 400
      · have e := h2 h4
        subst e
        simp at h4
        exact ⟨by simp; omega, Or.inl ⟨by simp; omega, by rw [← he]; simp⟩⟩
      · have := h3 (by omega)
        simp at h4
        exact ⟨by omega, Or.inr ⟨this, by omega⟩⟩
  · omega
/-- At the end: the bracket. -/
theorem st_end {l m r : List UInt8} {v : Nat} (hl : l.length ≤ 400) (hS : St l m [] r (1503 + 4 * v)) : Wrote l m (r ++ [41]) (1504 + 4 * v) := by
  refine ⟨fun h => by omega, fun _ => ⟨by have := hS.1; simp; omega, fun h => ?_, fun h => ?_⟩⟩
  · rcases hS.2 with ⟨_, he⟩ | ⟨_, h'⟩
    · rw [← he]; simp
    · omega
  · rcases hS.2 with ⟨_, he⟩ | ⟨h', _⟩
    · have := congrArg List.length he
      simp at this ⊢
      omega
    · simp; omega
/-- What ends with no KNil. -/
theorem st_word {l m z r r' : List UInt8} {v b : Nat} (hS : St l m ([32, 46, 32] ++ z) r (1500 + 4 * v)) (hW : Wrote (r ++ [32, 46, 32]) z r' (1504 + 4 * b)) (hb : b < v) : St l m [] r' (1503 + 4 * v) := by
  have h0 := hS.1
  rcases hS.2 with ⟨hr, he⟩ | ⟨h, ht⟩
  · have hlen := congrArg List.length he
    simp at hlen
    by_cases h : 400 < (r ++ [32, 46, 32]).length
    · have e := hW.1 h
      subst e
      simp at h
      exact ⟨by simp; omega, Or.inr ⟨by simp; omega, by omega⟩⟩
    · obtain ⟨h1, h2, h3⟩ := hW.2 (by omega)
      by_cases h4 : (r ++ [32, 46, 32]).length + z.length ≤ 400
      · have e := h2 h4
        subst e
        simp at h4
        exact ⟨by simp; omega, Or.inl ⟨by simp; omega, by rw [← he]; simp⟩⟩
      · have := h3 (by omega)
        simp at h4
        exact ⟨by omega, Or.inr ⟨this, by omega⟩⟩
  · have e := hW.1 (by simp; omega)
    subst e
    exact ⟨by simp; omega, Or.inr ⟨by simp; omega, ht⟩⟩
/-- Too long already. -/
theorem st_over {l m t z r r' : List UInt8} {v b : Nat} (hS : St l m t r (1500 + 4 * v)) (hr : 400 < r.length) (hW : Wrote (r ++ [32, 46, 32]) z r' (1504 + 4 * b)) : St l m [] r' (1503 + 4 * v) := by
  have h0 := hS.1
  have e := hW.1 (by simp; omega)
  subst e
  rcases hS.2 with ⟨h, _⟩ | ⟨_, ht⟩
  · omega
  · exact ⟨by simp; omega, Or.inr ⟨by simp; omega, ht⟩⟩
theorem set1 (w : World) (q i : Nat) (u : Value) : w.grownBy (w.setCell ⟨q, i, none⟩ u) (some q) :=
  ⟨rfl, rfl, rfl, by simp, fun k _ hk => heap_setCell_other w ⟨q, i, none⟩ k u (fun e => hk (by rw [e]))⟩
theorem set5 (w : World) (q : Nat) (t : TypeId) (a0 a1 a2 a3 a4 u0 u1 u2 u3 u4 : Value) (h : w.heap[q]? = some (.cells #[a0, a1, a2, a3, a4] t (0, 0))) :
    (((((w.setCell ⟨q, 0, none⟩ u0).setCell ⟨q, 1, none⟩ u1).setCell ⟨q, 2, none⟩ u2).setCell ⟨q, 3, none⟩ u3).setCell ⟨q, 4, none⟩ u4).heap[q]? = some (.cells #[u0, u1, u2, u3, u4] t (0, 0)) ∧
      w.grownBy (((((w.setCell ⟨q, 0, none⟩ u0).setCell ⟨q, 1, none⟩ u1).setCell ⟨q, 2, none⟩ u2).setCell ⟨q, 3, none⟩ u3).setCell ⟨q, 4, none⟩ u4) (some q) := by
  have h0 : (w.setCell ⟨q, 0, none⟩ u0).heap[q]? = some (.cells #[u0, a1, a2, a3, a4] t (0, 0)) := heap_setCell_same w q 0 _ _ u0 h
  have g0 : w.grownBy (w.setCell ⟨q, 0, none⟩ u0) (some q) := set1 w q 0 u0
  have g1 := set1 (w.setCell ⟨q, 0, none⟩ u0) q 1 u1
  generalize w.setCell ⟨q, 0, none⟩ u0 = w1 at *
  have h1 : (w1.setCell ⟨q, 1, none⟩ u1).heap[q]? = some (.cells #[u0, u1, a2, a3, a4] t (0, 0)) := heap_setCell_same w1 q 1 _ _ u1 h0
  have g2 := set1 (w1.setCell ⟨q, 1, none⟩ u1) q 2 u2
  generalize w1.setCell ⟨q, 1, none⟩ u1 = w2 at *
  have h2 : (w2.setCell ⟨q, 2, none⟩ u2).heap[q]? = some (.cells #[u0, u1, u2, a3, a4] t (0, 0)) := heap_setCell_same w2 q 2 _ _ u2 h1
  have g3 := set1 (w2.setCell ⟨q, 2, none⟩ u2) q 3 u3
  generalize w2.setCell ⟨q, 2, none⟩ u2 = w3 at *
  have h3 : (w3.setCell ⟨q, 3, none⟩ u3).heap[q]? = some (.cells #[u0, u1, u2, u3, a4] t (0, 0)) := heap_setCell_same w3 q 3 _ _ u3 h2
  have g4 := set1 (w3.setCell ⟨q, 3, none⟩ u3) q 4 u4
  generalize w3.setCell ⟨q, 3, none⟩ u3 = w4 at *
  have h4 : (w4.setCell ⟨q, 4, none⟩ u4).heap[q]? = some (.cells #[u0, u1, u2, u3, u4] t (0, 0)) := heap_setCell_same w4 q 4 _ _ u4 h3
  generalize w4.setCell ⟨q, 4, none⟩ u4 = w5 at *
  have gg := (((g0.trans g1).trans g2).trans g3).trans g4
  exact ⟨h4, gg.os, gg.tape, gg.output, gg.size, gg.block⟩

/-- What Write tells. -/
def writeR (xs : List Nd) (v : Int) : List UInt8 := if poolB xs && hasI xs v then (if (fullT xs v.toNat).length ≤ 400 then fullT xs v.toNat else []) else []
end Go.Proofs.YtbgkofinmdpmcaaGreatDoor
