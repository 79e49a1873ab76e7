/-
  What both LinkShow come to. Nothing of the program; no condition.
-/
import Derived.Test.YtgjebgdingahjaaLkBox
namespace Go.Proofs.Ytgjebgdingahjaa
open Go.RowKit

/-- The first n of q, with their numbers from a on. -/
def showP (a : Int) (q : List ByteArray) (n : Nat) : List Pc := (q.take n).zipIdx.map fun x => ⟨a + (x.2 : Int), x.1⟩
theorem showP_zero (a : Int) (q : List ByteArray) : showP a q 0 = [] := by simp [showP]
theorem showP_succ (a : Int) (q : List ByteArray) (j : Nat) (s : ByteArray) (h : q[j]? = some s) : showP a q (j + 1) = showP a q j ++ [⟨a + (j : Int), s⟩] := by
  obtain ⟨hl, rfl⟩ := List.getElem?_eq_some_iff.1 h
  unfold showP
  rw [List.take_succ_eq_append_getElem hl, List.zipIdx_append, List.map_append]
  have e : (List.take j q).length = j := by rw [List.length_take]; omega
  simp [e]
theorem showP_length (a : Int) (q : List ByteArray) (n : Nat) (h : n ≤ q.length) : (showP a q n).length = n := by
  simp [showP]; omega
theorem showP_ok (a : Int) (q : List ByteArray) (n : Nat) (hq : ∀ x ∈ q, x.size ≤ maxLen) : ∀ x ∈ showP a q n, x.s.size ≤ maxLen := by
  intro x hx
  simp only [showP, List.mem_map] at hx
  obtain ⟨⟨s, i⟩, hs, rfl⟩ := hx
  exact hq s (List.mem_of_mem_take (List.fst_mem_of_mem_zipIdx hs))
/-- What LinkShow answers. -/
def showR (l : Lk) : List Pc := if linkB l = true then showP l.acked l.q (if 4 ≤ l.q.length then 4 else l.q.length) else []
theorem showR_bad {l : Lk} (h : linkB l = false) : showR l = [] := by unfold showR; rw [h]; rfl
theorem showR_four {l : Lk} (h : linkB l = true) (h4 : 4 ≤ l.q.length) : showR l = showP l.acked l.q 4 := by unfold showR; rw [if_pos h, if_pos h4]
theorem showR_few {l : Lk} (h : linkB l = true) (h4 : ¬ 4 ≤ l.q.length) : showR l = showP l.acked l.q l.q.length := by unfold showR; rw [if_pos h, if_neg h4]
theorem showR_len (l : Lk) : (showR l).length ≤ 4 := by
  unfold showR
  split
  · split
    · rw [showP_length _ _ _ (by omega)]; omega
    · rw [showP_length _ _ _ (by omega)]; omega
  · simp
theorem showR_ok (l : Lk) (hq : ∀ x ∈ l.q, x.size ≤ maxLen) : ∀ x ∈ showR l, x.s.size ≤ maxLen := by
  unfold showR
  split
  · exact showP_ok _ _ _ hq
  · simp
theorem PcRow.lit1 (w : World) (x : Pc) (hs : x.s.size ≤ maxLen) : PcRow (w.alloc (.cells #[.int .i64 x.n, .string x.s] 36)) (.slice (some ⟨w.heap.size, 0, none⟩) 1 1) [x] := by
  refine ⟨_, 1, rfl, ⟨by simp, fun h => by cases h⟩, by simp, by simpa using hs, fun _ => ⟨_, 0, rfl, by simp, fun i y hi => ?_⟩⟩
  have hi0 : i = 0 := by have := (List.getElem?_eq_some_iff.1 hi).1; simpa using this
  subst hi0
  simp only [List.getElem?_cons_zero, Option.some.injEq] at hi
  subst hi
  exact ⟨by rw [cell_of_row _ _ 0 _ _ _ (heap_alloc_new w _)]; rfl, by rw [cell_of_row _ _ 1 _ _ _ (heap_alloc_new w _)]; rfl⟩
end Go.Proofs.Ytgjebgdingahjaa
