/-
  How a text is read, byte by byte: plain mathematics. Nothing of the program; no condition.
-/
import Derived.Test.YtdakifahedelcaaDoorSWordM
import Derived.Test.YtdakifahedelcaaDoorSMkListM
namespace Go.Proofs.YtdakifahedelcaaDoor
open Go.RowKit

/-- What is read so far: the nodes; the lists that are open, the innermost by itself. -/
structure RS where
  ns : List Nd
  lo : List (Int × List Int)
  a : Int
  vs : List Int
inductive RdR where
  | bad (how place : Int)
  | ok (s : RS)
def RdR.andThen : RdR → (RS → RdR) → RdR
  | .bad h p, _ => .bad h p
  | .ok s, f => f s
def RS.put (s : RS) (ys : List Nd) : RS := ⟨s.ns ++ ys, s.lo, s.a, s.vs ++ [((s.ns.length + ys.length - 1 : Nat) : Int)]⟩
def rdWord (t : ByteArray) (f i : Nat) (s : RS) : RdR := if wordOk (t.extract f i) then .ok (s.put [wordNd (t.extract f i)]) else .bad 3 f
/-- The list that is closed goes into the one around it. -/
def rdClose (i : Nat) (s : RS) : RdR := match s.lo.getLast? with
  | none => .bad 5 i
  | some p => .ok ((⟨s.ns, s.lo.dropLast, p.1, p.2⟩ : RS).put (more s.vs s.ns.length 0))
def rdMark (b : Int) (i : Nat) (s : RS) : RdR :=
  if b = 32 then .ok s else if b = 40 then .ok ⟨s.ns, s.lo ++ [(s.a, s.vs)], i, []⟩
  else if b = 41 then rdClose i s else .bad 2 i
/-- The rest of the text from i on, where a word began at f. -/
def rd (t : ByteArray) (f i : Nat) (s : RS) : RdR :=
  if h : i < t.size then
    if wb (t[i].toNat : Int) then rd t f (i + 1) s
    else (if f < i then rdWord t f i s else .ok s).andThen fun s1 => (rdMark (t[i].toNat : Int) i s1).andThen fun s2 => rd t (i + 1) (i + 1) s2
  else if f < i then rdWord t f i s else .ok s
termination_by t.size - i

theorem rd_in {t : ByteArray} {f i : Nat} {s : RS} (h : i < t.size) (hw : wb (t[i].toNat : Int) = true) : rd t f i s = rd t f (i + 1) s := by
  rw [rd, dif_pos h, if_pos hw]
theorem rd_mark {t : ByteArray} {i : Nat} {s : RS} (h : i < t.size) (hw : wb (t[i].toNat : Int) = false) : rd t i i s = (rdMark (t[i].toNat : Int) i s).andThen fun s2 => rd t (i + 1) (i + 1) s2 := by
  rw [rd, dif_pos h, if_neg (by rw [hw]; decide), if_neg (by omega)]
  rfl
theorem rd_done (t : ByteArray) (s : RS) : rd t t.size t.size s = .ok s := by
  rw [rd, dif_neg (by omega), if_neg (by omega)]
theorem rd_end {t : ByteArray} {f i : Nat} {s : RS} (hf : f < i) (hi : i ≤ t.size) (hw : ∀ h : i < t.size, wb (t[i].toNat : Int) = false) : rd t f i s = (rdWord t f i s).andThen fun s1 => rd t i i s1 := by
  by_cases h : i < t.size
  · rw [rd, dif_pos h, if_neg (by rw [hw h]; decide), if_pos hf]
    congr 1
    funext s1
    rw [rd_mark h (hw h)]
  · have e : i = t.size := by omega
    subst e
    rw [rd, dif_neg h, if_pos hf]
    cases rdWord t f t.size s with
    | bad a b => rfl
    | ok s1 => exact (rd_done t s1).symm
theorem rd_skip {t : ByteArray} {f : Nat} {s : RS} (j : Nat) : ∀ i, i ≤ j → j ≤ t.size → (∀ k (h : k < t.size), i ≤ k → k < j → wb (t[k].toNat : Int) = true) → rd t f i s = rd t f j s := by
  intro i hij
  induction h : j - i generalizing i with
  | zero => intro _ _; rw [show i = j by omega]
  | succ n ih =>
    intro hj hk
    rw [rd_in (by omega) (hk i (by omega) (Nat.le_refl _) (by omega))]
    exact ih (i + 1) (by omega) (by omega) hj (fun k h h1 h2 => hk k h (by omega) h2)

/-- How much there may be behind i bytes. -/
structure Fits (n i : Nat) (s : RS) : Prop where
  ns : s.ns.length ≤ n + 401 * i
  lo : s.lo.length ≤ i
  vs : s.vs.length ≤ i
  all : ∀ p ∈ s.lo, p.2.length ≤ i
  txt : ∀ x ∈ s.ns, x.s.size ≤ maxLen
theorem Fits.mono {n i j : Nat} {s : RS} (h : Fits n i s) (hij : i ≤ j) : Fits n j s :=
  ⟨by have := h.ns; omega, by have := h.lo; omega, by have := h.vs; omega, fun p hp => by have := h.all p hp; omega, h.txt⟩
theorem Fits.word {n i : Nat} {s : RS} (h : Fits n i s) (x : Nd) (hx : x.s.size ≤ maxLen) : Fits n (i + 1) (s.put [x]) := by
  refine ⟨?_, ?_, ?_, ?_, ?_⟩
  · have := h.ns; simp [RS.put]; omega
  · have := h.lo; simp [RS.put]; omega
  · have := h.vs; simp [RS.put]; omega
  · intro p hp; have := h.all p hp; omega
  · intro y hy
    rcases List.mem_append.1 hy with hy | hy
    · exact h.txt y hy
    · rw [List.mem_singleton] at hy; subst hy; exact hx
theorem Fits.mark {n i : Nat} {s s2 : RS} {b : Int} {p : Nat} (h : Fits n i s) (hi : i ≤ 400) (e : rdMark b p s = .ok s2) : Fits n (i + 1) s2 := by
  unfold rdMark at e
  split at e
  · cases e; exact h.mono (by omega)
  split at e
  · cases e
    refine ⟨by have := h.ns; simp only; omega, by have := h.lo; simp; omega, by simp, fun q hq => ?_, h.txt⟩
    simp only [List.mem_append, List.mem_singleton] at hq
    rcases hq with hq | rfl
    · have := h.all q hq; omega
    · have := h.vs; simp only; omega
  split at e
  · unfold rdClose at e
    split at e
    · cases e
    · rename_i q hq
      cases e
      have hm := List.mem_of_getLast? hq
      have h1 := h.all q hm
      refine ⟨?_, ?_, ?_, ?_, ?_⟩
      · have := h.ns; have := h.vs; simp [RS.put, more_length]; omega
      · have := h.lo; simp [RS.put]; omega
      · simp [RS.put]; omega
      · intro r hr
        have := h.all r (List.dropLast_subset _ hr)
        omega
      · intro y hy
        rcases List.mem_append.1 hy with hy | hy
        · exact h.txt y hy
        · exact more_ok _ _ _ y hy
  · cases e
end Go.Proofs.YtdakifahedelcaaDoor
