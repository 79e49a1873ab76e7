/-
  How nodes are written as bytes: plain mathematics. Nothing of the program; no condition.
-/
import Derived.Test.YtpkpednemkagiaaSb
import Derived.Test.YtpkpednemkagiaaSizeI
namespace Go.Proofs.Ytpkpednemkagiaa
open Go.RowKit

/-- What is written of a node behind its kind. -/
def wireB (x : Nd) : List Int :=
  if x.k = 2 ∨ x.k = 8 ∨ x.k = 9 then encI x.n else if x.k = 3 then encI (x.n + 1000000000) else if x.k = 4 then pt x.s
  else if x.k = 5 then encI x.a ++ encI x.b else if x.k = 6 then encI x.n ++ encI x.a else if x.k = 7 then encI x.a else []
def wireN (x : Nd) : List Int := encI x.k ++ wireB x
def wireL (xs : List Nd) : List Int := encI xs.length ++ xs.flatMap wireN

/-- A node within bounds. -/
def NdOk (x : Nd) : Prop := (1 ≤ x.k ∧ x.k ≤ 9) ∧ (-1000000000 ≤ x.n ∧ x.n ≤ 1000000000) ∧ x.s.size ≤ 12 ∧ (x.a ≤ 3000 ∧ x.b ≤ 3000)
theorem ndok_of {x : Nd} {i : Int} (h : nodeB x i = true) (hle : i ≤ 3000) : NdOk x := by
  have hlo : -1000000000 ≤ lo x.k := by unfold lo; split <;> decide
  have hhi : hi x.k ≤ 1000000000 := by
    unfold hi
    split
    · decide
    · split
      · decide
      · split <;> decide
  simp only [nodeB, Bool.and_eq_true, decide_eq_true_eq] at h
  obtain ⟨⟨⟨⟨h1, h2⟩, h3⟩, h4⟩, ⟨h5, h6⟩, h7⟩ := h
  refine ⟨⟨h1, h2⟩, ⟨by omega, by omega⟩, ?_, ?_, ?_⟩
  · unfold nameFB at h5
    split at h5
    · simp only [nameB, Bool.and_eq_true, decide_eq_true_eq] at h5
      exact h5.1.2
    · have e : x.s.toList = [] := by simpa using h5
      rw [ByteArray.toList_eq] at e
      have : x.s.size = 0 := by
        rw [show x.s.size = x.s.data.toList.length by rw [Array.length_toList]; rfl, e]; rfl
      omega
  · unfold partB at h6
    split at h6
    · simp only [Bool.and_eq_true, decide_eq_true_eq] at h6; omega
    · have : x.a = 0 := by simpa using h6
      omega
  · unfold partB at h7
    split at h7
    · simp only [Bool.and_eq_true, decide_eq_true_eq] at h7; omega
    · have : x.b = 0 := by simpa using h7
      omega
theorem pool_ndok {xs : List Nd} (h : poolB xs = true) : ∀ x ∈ xs, NdOk x := by
  intro x hx
  obtain ⟨i, hi⟩ := List.getElem?_of_mem hx
  have hl : i < xs.length := (List.getElem?_eq_some_iff.1 hi).1
  have hm : xs.length ≤ 3000 := by simp only [poolB, Bool.and_eq_true, decide_eq_true_eq] at h; exact h.1
  exact ndok_of (poolB_at h hi) (by omega)

theorem wireB_len (x : Nd) (h : x.s.size ≤ 12) : (wireB x).length ≤ 21 := by
  have e := encI_length
  unfold wireB
  split
  · have := e x.n; omega
  · split
    · have := e (x.n + 1000000000); omega
    · split
      · rw [pt_length]; have := e x.s.size; omega
      · split
        · rw [List.length_append]; have := e x.a; have := e x.b; omega
        · split
          · rw [List.length_append]; have := e x.n; have := e x.a; omega
          · split
            · have := e x.a; omega
            · simp
theorem wireN_len (x : Nd) (h : x.s.size ≤ 12) : (wireN x).length ≤ 30 := by
  have := wireB_len x h
  have := encI_length x.k
  unfold wireN
  rw [List.length_append]
  omega
theorem wires_len (xs : List Nd) (h : ∀ x ∈ xs, NdOk x) : (xs.flatMap wireN).length ≤ 30 * xs.length := by
  induction xs with
  | nil => simp
  | cons x xs ih =>
    have h1 := wireN_len x (h x List.mem_cons_self).2.2.1
    have h2 := ih (fun y hy => h y (List.mem_cons_of_mem _ hy))
    rw [List.flatMap_cons, List.length_append, List.length_cons]
    omega
theorem wireB_wf (x : Nd) : ∀ z ∈ wireB x, 0 ≤ z ∧ z ≤ 255 := by
  intro z hz
  unfold wireB at hz
  split at hz
  · exact encI_wf _ z hz
  · split at hz
    · exact encI_wf _ z hz
    · split at hz
      · exact pt_wf _ z hz
      · split at hz
        · rcases List.mem_append.1 hz with h | h <;> exact encI_wf _ z h
        · split at hz
          · rcases List.mem_append.1 hz with h | h <;> exact encI_wf _ z h
          · split at hz
            · exact encI_wf _ z hz
            · simp at hz
theorem wires_wf (xs : List Nd) : ∀ z ∈ xs.flatMap wireN, 0 ≤ z ∧ z ≤ 255 := by
  intro z hz
  obtain ⟨x, _, h⟩ := List.mem_flatMap.1 hz
  unfold wireN at h
  rcases List.mem_append.1 h with h | h
  · exact encI_wf _ z h
  · exact wireB_wf x z h
theorem wireL_wf (xs : List Nd) : ∀ z ∈ wireL xs, 0 ≤ z ∧ z ≤ 255 := by
  intro z hz
  unfold wireL at hz
  rcases List.mem_append.1 hz with h | h
  · exact encI_wf _ z h
  · exact wires_wf xs z h
theorem wires_take (xs : List Nd) (k : Nat) (x : Nd) (h : xs[k]? = some x) : (xs.take (k + 1)).flatMap wireN = (xs.take k).flatMap wireN ++ wireN x := by
  rw [List.take_add_one, h]; simp
end Go.Proofs.Ytpkpednemkagiaa
