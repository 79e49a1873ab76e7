/-
  Texts that stood by themselves, laid into one.
-/
import Derived.Test.YtkchakcebdenjaaGreatCpSM
import Derived.Test.YtkchakcebdenjaaGreatPrRegM
import Derived.Test.YtkchakcebdenjaaGreatMkXM
/-
  The law FnExactCompile, walked: at every argument it returns true.
-/
namespace Go.Proofs.YtkchakcebdenjaaGreat
open Go.RowKit
abbrev Cd := List Nd × List In × List Df
structure VarC (w : World) (b lo hi : Nat) (v1 v2 v3 : Value) (c : Cd) : Prop where
  blk : w.heap[b]? = some (.cells #[v1, v2, v3] 33 (0, 0))
  o1 : w.ownsRow lo 92 5 v1 c.1.length (ncs c.1)
  o2 : w.ownsRow lo 53 4 v2 c.2.1.length (incs c.2.1)
  o3 : w.ownsRow lo 51 3 v3 c.2.2.length (dfcs c.2.2)
  r1 : ∀ g, v1.ownBlock = some g → g < hi
  r2 : ∀ g, v2.ownBlock = some g → g < hi
  r3 : ∀ g, v3.ownBlock = some g → g < hi
  hib : hi ≤ b
section
variable {w w' : World} {b lo hi : Nat} {v1 v2 v3 : Value} {c : Cd}
theorem VarC.lt (h : VarC w b lo hi v1 v2 v3 c) : b < w.heap.size := (Array.getElem?_eq_some_iff.1 h.blk).1
theorem VarC.below (h : VarC w b lo hi v1 v2 v3 c) (hb : Below w.heap.size w w') : VarC w' b lo hi v1 v2 v3 c :=
  ⟨(hb.block _ h.lt).trans h.blk, own_below h.o1 hb, own_below h.o2 hb, own_below h.o3 hb, h.r1, h.r2, h.r3, h.hib⟩
theorem VarC.new {w2 w5 w0 : World} (h02 : Below w0.heap.size w0 w2) (h25 : Below w2.heap.size w2 w5) (o1 : w5.ownsRow w2.heap.size 92 5 v1 c.1.length (ncs c.1)) (o2 : w5.ownsRow w2.heap.size 53 4 v2 c.2.1.length (incs c.2.1)) (o3 : w5.ownsRow w2.heap.size 51 3 v3 c.2.2.length (dfcs c.2.2)) :
    VarC (w5.alloc (.cells #[v1, v2, v3] 33)) w5.heap.size w2.heap.size w5.heap.size v1 v2 v3 c ∧ Below w0.heap.size w0 (w5.alloc (.cells #[v1, v2, v3] 33)) ∧ Below w2.heap.size w2 (w5.alloc (.cells #[v1, v2, v3] 33)) := by
  have hb : Below w5.heap.size w5 (w5.alloc (.cells #[v1, v2, v3] 33)) := (Below.refl _ _).alloc (Nat.le_refl _) _
  have h5 := h25.trans (hb.mono h25.size)
  exact ⟨⟨heap_alloc_new _ _, own_below o1 hb, own_below o2 hb, own_below o3 hb, fun g e => (o1.lt g e).2, fun g e => (o2.lt g e).2, fun g e => (o3.lt g e).2, Nat.le_refl _⟩, h02.trans (h5.mono h02.size), h5⟩
end
theorem Tryz.sizeCd3 : (Tryz.prog.info? 33).map (·.size) = some 3 := by kernel_rfl
end Go.Proofs.YtkchakcebdenjaaGreat
/-
  What a program that is compiled is like: a definition a value, their places ascending, each at an instruction: plain mathematics. Nothing of the program; no condition.
-/
namespace Go.Proofs.YtkchakcebdenjaaGreat
open Go.RowKit
def Asc (s : CS) : Prop := (∀ i a b, s.defs[i]? = some a → s.defs[i + 1]? = some b → a.p < b.p) ∧ ∀ a ∈ s.defs, a.p < (s.list.length : Int)
theorem cdefine_asc {e : Ex} (h : KeepD e) (hm : Mono e) (name : ByteArray) (names : List ByteArray) (body : List Int) (s : CS) (hs : Asc s) (h0 : (cdefine e name names body s).how = 0) :
    Asc (cdefine e name names body s) ∧ (cdefine e name names body s).defs.length = s.defs.length + 1 := by
  unfold cdefine at h0 ⊢
  split
  · rename_i hd
    rw [if_pos hd] at h0
    cases h0
  · rename_i hd
    rw [if_neg hd] at h0
    have hD : (cbody e body [names] { s with defs := s.defs ++ [⟨name, s.list.length, names.length⟩] }).defs = s.defs ++ [⟨name, s.list.length, names.length⟩] := h.seq _ _ _ _
    have hG := hm.seq [names] body true { s with defs := s.defs ++ [(⟨name, s.list.length, names.length⟩ : Df)] }
    have hlt : s.list.length < ((cbody e body [names] { s with defs := s.defs ++ [(⟨name, s.list.length, names.length⟩ : Df)] }).emit (ins 8 0 0)).list.length := by
      obtain ⟨g1, g2⟩ := Grow.emit _ _ h0
      obtain ⟨_, g3⟩ := hG g1
      have hp := place_lt (Grow.refl _) h0
      unfold CS.place at hp
      rw [if_pos g1] at hp
      have hp2 : ¬ (cbody e body [names] { s with defs := s.defs ++ [(⟨name, s.list.length, names.length⟩ : Df)] }).list.length = 400 := by
        intro h4
        unfold CS.emit at h0
        rw [if_pos g1, if_pos h4] at h0
        cases h0
      rw [if_neg hp2] at hp
      exact Nat.lt_of_le_of_lt g3 hp
    refine ⟨⟨fun i a b ha hb => ?_, fun a ha => ?_⟩, by rw [emit_defs, hD]; simp⟩
    · rw [emit_defs, hD] at ha hb
      by_cases hi : i + 1 < s.defs.length
      · rw [List.getElem?_append_left (by omega)] at ha
        rw [List.getElem?_append_left hi] at hb
        exact hs.1 i a b ha hb
      · have hb1 := (List.getElem?_eq_some_iff.1 hb).1
        simp at hb1
        have hie : i + 1 = s.defs.length := by omega
        rw [List.getElem?_append_left (by omega)] at ha
        rw [List.getElem?_append_right (by omega), hie, Nat.sub_self] at hb
        simp at hb
        subst hb
        exact hs.2 a (List.mem_of_getElem? ha)
    · rw [emit_defs, hD] at ha
      rcases List.mem_append.1 ha with h1 | h1
      · have := hs.2 a h1
        omega
      · rw [List.mem_singleton] at h1
        subst h1
        show (s.list.length : Int) < _
        omega
theorem ctop_asc (xs : List Nd) (v : Int) (s : CS) (hs : Asc s) (h0 : (ctop xs v s).how = 0) : Asc (ctop xs v s) ∧ (ctop xs v s).defs.length = s.defs.length + 1 := by
  unfold ctop at h0 ⊢
  dsimp only at h0 ⊢
  split
  · rename_i hc
    rw [if_pos hc] at h0
    split
    · rename_i hc2
      rw [if_pos hc2] at h0
      split
      · rename_i hc3
        rw [if_pos hc3] at h0
        exact cdefine_asc (cexp_keepD xs _) (cexp_mono xs _) _ _ _ _ hs h0
      · rename_i hc3
        rw [if_neg hc3] at h0
        exact absurd h0 hc3
    · rename_i hc2
      rw [if_neg hc2] at h0
      cases h0
  · rename_i hc
    rw [if_neg hc] at h0
    exact cdefine_asc (cexp_keepD xs _) (cexp_mono xs _) _ _ _ _ hs h0
theorem ctops_asc (xs : List Nd) : ∀ (l : List Int) (i : Nat) (s : CS), Asc s → s.how = 0 →
    ((ctops xs l i s).1.how = 0 → Asc (ctops xs l i s).1 ∧ (ctops xs l i s).1.defs.length = s.defs.length + l.length) ∧ ((ctops xs l i s).1.how ≠ 0 → (ctops xs l i s).2 < i + l.length)
  | [], i, s, hs, h0 => ⟨fun _ => ⟨hs, rfl⟩, fun h => absurd h0 h⟩
  | v :: l, i, s, hs, h0 => by
    rw [ctops]
    split
    · rename_i h1
      obtain ⟨a1, a2⟩ := ctop_asc xs v s hs h1
      obtain ⟨q1, q2⟩ := ctops_asc xs l (i + 1) (ctop xs v s) a1 h1
      refine ⟨fun h => ?_, fun h => ?_⟩
      · obtain ⟨r1, r2⟩ := q1 h
        exact ⟨r1, by rw [r2, a2, List.length_cons]; omega⟩
      · have := q2 h
        rw [List.length_cons]
        omega
    · rename_i h1
      exact ⟨fun h => absurd h h1, fun _ => by rw [List.length_cons]; show i < _; omega⟩
structure CompQ (xs : List Nd) (l : List Int) (r : (List Nd × List In × List Df) × Int × Int) : Prop where
  bad : r.2.1 ≠ 0 → r.1.2.1 = [] ∧ r.1.2.2 = [] ∧ 0 ≤ r.2.2 ∧ (r.2.2 < l.length ∨ r.2.2 = 0)
  ok : r.2.1 = 0 → codeB r.1.1 r.1.2.1 r.1.2.2 = true ∧ r.2.2 = l.length ∧ r.1.2.2.length = l.length ∧ ∀ i a b, r.1.2.2[i]? = some a → r.1.2.2[i + 1]? = some b → a.p < b.p
theorem compR_q (xs : List Nd) (l : List Int) : CompQ xs l (compR xs l) := by
  have h3 : CompQ xs l (([], [], []), 3, 0) := ⟨fun _ => ⟨rfl, rfl, by simp, Or.inr rfl⟩, fun h => by cases h⟩
  obtain ⟨q1, q2⟩ := ctops_asc xs l 0 ⟨[], [], 0⟩ ⟨by simp, by simp⟩ rfl
  unfold compR
  split
  · split
    · rename_i h0
      obtain ⟨r1, r2⟩ := q1 h0
      split
      · rename_i hc
        exact ⟨fun h => absurd rfl h, fun _ => ⟨hc, rfl, by simpa using r2, r1.1⟩⟩
      · exact h3
    · rename_i h0
      have := q2 h0
      split
      · exact h3
      · exact ⟨fun _ => ⟨rfl, rfl, by simp, Or.inl (by simp; omega)⟩, fun h => absurd h h0⟩
  · exact h3
end Go.Proofs.YtkchakcebdenjaaGreat
