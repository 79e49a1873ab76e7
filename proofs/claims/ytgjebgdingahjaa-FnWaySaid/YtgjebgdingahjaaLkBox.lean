/-
  Boxes of links, and what is sent: what both LinkSend come to. No condition.
-/
import Derived.Test.YtgjebgdingahjaaLkOkS
import Derived.Test.YtgjebgdingahjaaLkCopy
namespace Go.Proofs.Ytgjebgdingahjaa
open Go.RowKit

theorem two_bx (w : World) (A Z : Obj) : Below w.heap.size w ((w.alloc A).alloc Z) ∧ ((w.alloc A).alloc Z).heap[w.heap.size]? = some A ∧ ((w.alloc A).alloc Z).heap[w.heap.size + 1]? = some Z :=
  ⟨((Below.refl _ _).alloc (Nat.le_refl _) _).alloc (by simp) _, (heap_alloc_old _ _ (by simp)).trans (heap_alloc_new _ _), heap_alloc2_new _ _ _⟩
/-- A row stays where a block of another type is turned. -/
theorem own_box {w w' : World} {B k n g : Nat} {e t : TypeId} {v : Value} {l : List Value} {c : Array Value} (h : w.ownsRow B e k v n l) (hg : w.heap[g]? = some (.cells c t (0, 0))) (hte : t ≠ e) (hb : ∀ j, j ≠ g → w'.heap[j]? = w.heap[j]?) : w'.ownsRow B e k v n l := by
  refine ⟨h.1, ?_⟩
  have hne := own_ne h hg hte
  rcases h.2 with ⟨rfl, h0⟩ | ⟨gg, cap, cur, rfl, hB, hgg, hr⟩
  · exact Or.inl ⟨rfl, h0⟩
  · exact Or.inr ⟨gg, cap, cur, rfl, hB, (hb gg (fun e => hne (by rw [e]; rfl))).trans hgg, hr⟩
theorem heldB_len (e z : Int) (h : List Pc) (hb : heldB e z h = true) (hz : z ≤ e) : (h.length : Int) ≤ e - z := by
  induction h generalizing z with
  | nil => simp; omega
  | cons p ps ih =>
    simp only [heldB, Bool.and_eq_true, decide_eq_true_eq] at hb
    have := ih p.n hb.2.2 (by omega)
    simp only [List.length_cons]
    omega
theorem linkB_heldlen {l : Lk} (h : linkB l = true) : l.h.length ≤ 4 := by
  have hn := linkB_nums h
  rw [linkB_held hn] at h
  have := heldB_len _ _ _ h (by unfold lend; split <;> omega)
  unfold lend at this
  split at this <;> omega

def zeroLk : Lk := ⟨0, 0, [], 0, []⟩
/-- The link with one more payload. -/
def sendL (l : Lk) (s : ByteArray) : Lk := ⟨l.sent + 1, l.acked, l.q ++ [s], l.got, l.h⟩
/-- What LinkSend answers. -/
def sendR (l : Lk) (s : ByteArray) : Lk × Bool := if linkB l = true then (if linkB (sendL l s) = true then (sendL l s, true) else (l, false)) else (zeroLk, false)
theorem sendR_bad {l : Lk} {s : ByteArray} (h : linkB l = false) : sendR l s = (zeroLk, false) := by unfold sendR; rw [h]; rfl
theorem sendR_no {l : Lk} {s : ByteArray} (h : linkB l = true) (h2 : linkB (sendL l s) = false) : sendR l s = (l, false) := by unfold sendR; rw [h, h2]; rfl
theorem sendR_yes {l : Lk} {s : ByteArray} (h : linkB l = true) (h2 : linkB (sendL l s) = true) : sendR l s = (sendL l s, true) := by unfold sendR; rw [h, h2]; rfl
theorem sendR_len (l : Lk) (s : ByteArray) : (sendR l s).1.q.length ≤ l.q.length + 1 ∧ (sendR l s).1.h.length ≤ l.h.length := by
  unfold sendR
  split
  · split
    · simp [sendL]
    · simp
  · simp [zeroLk]
theorem sendR_ok (l : Lk) (s : ByteArray) (hq : ∀ x ∈ l.q, x.size ≤ maxLen) (hh : ∀ x ∈ l.h, x.s.size ≤ maxLen) (hs : s.size ≤ maxLen) : (∀ x ∈ (sendR l s).1.q, x.size ≤ maxLen) ∧ ∀ x ∈ (sendR l s).1.h, x.s.size ≤ maxLen := by
  unfold sendR
  split
  · split
    · refine ⟨fun x hx => ?_, hh⟩
      simp only [sendL, List.mem_append, List.mem_singleton] at hx
      rcases hx with hx | rfl
      · exact hq x hx
      · exact hs
    · exact ⟨hq, hh⟩
  · exact ⟨fun x hx => by simp [zeroLk] at hx, fun x hx => by simp [zeroLk] at hx⟩
/-- What is answered: a link in memory of its own, and whether it was done. -/
def LkAns (w w' : World) (e : Ending) (r : Lk × Bool) : Prop :=
  ∃ u1 u2, e = .returned (.tuple #[.agg #[.int .i64 r.1.sent, .int .i64 r.1.acked, u1, .int .i64 r.1.got, u2], .bool r.2]) ∧ SOwn w' w.heap.size u1 r.1.q ∧ w'.ownsRow w.heap.size 36 2 u2 r.1.h.length (pccs r.1.h) ∧ Below w.heap.size w w'
theorem StRow.lit1 (w : World) (s : ByteArray) (hs : s.size ≤ maxLen) : StRow (w.alloc (.cells #[.string s] 9)) (.slice (some ⟨w.heap.size, 0, none⟩) 1 1) [s] := by
  refine ⟨_, 1, rfl, ⟨by simp, fun h => by cases h⟩, by simp, by simpa using hs, fun _ => ⟨_, 0, rfl, by simp, fun i x hi => ?_⟩⟩
  have hi0 : i = 0 := by have := (List.getElem?_eq_some_iff.1 hi).1; simpa using this
  subst hi0
  simp only [List.getElem?_cons_zero, Option.some.injEq] at hi
  subst hi
  rw [cell_of_row _ _ 0 _ _ _ (heap_alloc_new w _)]
  rfl
end Go.Proofs.Ytgjebgdingahjaa
