/-
  What both LinkTake come to. Nothing of the program; no condition.
-/
import Derived.Test.YtgjebgdingahjaaLkBox
import Derived.Deep.AppendLies
namespace Go.Proofs.Ytgjebgdingahjaa
open Go.RowKit

/-- A piece held at its place, if none of its number is. -/
def holdL (x : Pc) : List Pc → List Pc
  | [] => [x]
  | p :: ps => if p.n < x.n then p :: holdL x ps else if p.n = x.n then p :: ps else x :: p :: ps
/-- What follows from g on, of what is held: the texts, how far, and what is held still. -/
def upGo (g : Int) : List Pc → List ByteArray × Int × List Pc
  | [] => ([], g, [])
  | p :: ps => if p.n = g then (p.s :: (upGo (g + 1) ps).1, (upGo (g + 1) ps).2.1, (upGo (g + 1) ps).2.2) else ([], g, p :: ps)
/-- What LinkTake answers. -/
def takeR (l : Lk) (x : Pc) : Lk × List ByteArray :=
  if linkB l = true then
    if l.got ≤ x.n ∧ x.n ≤ lend l - 1 then
      if l.got < x.n then (⟨l.sent, l.acked, l.q, l.got, holdL x l.h⟩, [])
      else (⟨l.sent, l.acked, l.q, (upGo (l.got + 1) l.h).2.1, (upGo (l.got + 1) l.h).2.2⟩, x.s :: (upGo (l.got + 1) l.h).1)
    else (l, [])
  else (zeroLk, [])
theorem takeR_bad {l : Lk} {x : Pc} (h : linkB l = false) : takeR l x = (zeroLk, []) := by unfold takeR; rw [h]; rfl
theorem takeR_out {l : Lk} {x : Pc} (h : linkB l = true) (h2 : ¬ (l.got ≤ x.n ∧ x.n ≤ lend l - 1)) : takeR l x = (l, []) := by unfold takeR; rw [if_pos h, if_neg h2]
theorem takeR_hold {l : Lk} {x : Pc} (h : linkB l = true) (h2 : l.got ≤ x.n ∧ x.n ≤ lend l - 1) (h3 : l.got < x.n) : takeR l x = (⟨l.sent, l.acked, l.q, l.got, holdL x l.h⟩, []) := by unfold takeR; rw [if_pos h, if_pos h2, if_pos h3]
theorem takeR_up {l : Lk} {x : Pc} (h : linkB l = true) (h2 : l.got ≤ x.n ∧ x.n ≤ lend l - 1) (h3 : ¬ l.got < x.n) : takeR l x = (⟨l.sent, l.acked, l.q, (upGo (l.got + 1) l.h).2.1, (upGo (l.got + 1) l.h).2.2⟩, x.s :: (upGo (l.got + 1) l.h).1) := by unfold takeR; rw [if_pos h, if_pos h2, if_neg h3]
theorem holdL_len (x : Pc) (h : List Pc) : (holdL x h).length ≤ h.length + 1 := by
  induction h with
  | nil => simp [holdL]
  | cons p ps ih =>
    simp only [holdL]
    split
    · simp only [List.length_cons]; omega
    · split <;> simp
theorem upGo_len (g : Int) (h : List Pc) : (upGo g h).1.length ≤ h.length ∧ (upGo g h).2.2.length ≤ h.length := by
  induction h generalizing g with
  | nil => simp [upGo]
  | cons p ps ih =>
    have := ih (g + 1)
    simp only [upGo]
    split
    · simp only [List.length_cons]; omega
    · simp
theorem holdL_mem (x : Pc) (h : List Pc) : ∀ y ∈ holdL x h, y = x ∨ y ∈ h := by
  induction h with
  | nil => simp [holdL]
  | cons p ps ih =>
    intro y hy
    simp only [holdL] at hy
    split at hy
    · rcases List.mem_cons.1 hy with rfl | hy
      · exact Or.inr List.mem_cons_self
      · rcases ih y hy with h | h
        · exact Or.inl h
        · exact Or.inr (List.mem_cons_of_mem _ h)
    · split at hy
      · exact Or.inr hy
      · rcases List.mem_cons.1 hy with rfl | hy
        · exact Or.inl rfl
        · exact Or.inr hy
theorem upGo_mem (g : Int) (h : List Pc) : (∀ s ∈ (upGo g h).1, ∃ y ∈ h, y.s = s) ∧ ∀ y ∈ (upGo g h).2.2, y ∈ h := by
  induction h generalizing g with
  | nil => simp [upGo]
  | cons p ps ih =>
    obtain ⟨i1, i2⟩ := ih (g + 1)
    simp only [upGo]
    split
    · refine ⟨fun s hs => ?_, fun y hy => List.mem_cons_of_mem _ (i2 y hy)⟩
      rcases List.mem_cons.1 hs with rfl | hs
      · exact ⟨p, List.mem_cons_self, rfl⟩
      · obtain ⟨y, hy, e⟩ := i1 s hs
        exact ⟨y, List.mem_cons_of_mem _ hy, e⟩
    · exact ⟨fun s hs => by simp at hs, fun y hy => hy⟩
theorem takeR_len (l : Lk) (x : Pc) : (takeR l x).1.q.length ≤ l.q.length ∧ (takeR l x).1.h.length ≤ l.h.length + 1 ∧ (takeR l x).2.length ≤ l.h.length + 1 := by
  have h1 := holdL_len x l.h
  have h2 := upGo_len (l.got + 1) l.h
  unfold takeR
  split
  · split
    · split
      · simp only [List.length_nil]; omega
      · simp only [List.length_cons]; omega
    · simp
  · simp [zeroLk]
theorem takeR_ok (l : Lk) (x : Pc) (hq : ∀ y ∈ l.q, y.size ≤ maxLen) (hh : ∀ y ∈ l.h, y.s.size ≤ maxLen) (hx : x.s.size ≤ maxLen) : (∀ y ∈ (takeR l x).1.q, y.size ≤ maxLen) ∧ (∀ y ∈ (takeR l x).1.h, y.s.size ≤ maxLen) ∧ ∀ y ∈ (takeR l x).2, y.size ≤ maxLen := by
  obtain ⟨u1, u2⟩ := upGo_mem (l.got + 1) l.h
  unfold takeR
  split
  · split
    · split
      · refine ⟨hq, fun y hy => ?_, fun y hy => by simp at hy⟩
        rcases holdL_mem x l.h y hy with rfl | hy
        · exact hx
        · exact hh y hy
      · refine ⟨hq, fun y hy => hh y (u2 y hy), fun y hy => ?_⟩
        rcases List.mem_cons.1 hy with rfl | hy
        · exact hx
        · obtain ⟨z, hz, rfl⟩ := u1 y hy
          exact hh z hz
    · exact ⟨hq, hh, fun y hy => by simp at hy⟩
  · exact ⟨fun y hy => by simp [zeroLk] at hy, fun y hy => by simp [zeroLk] at hy, fun y hy => by simp at hy⟩
/-- What is answered: a link and texts, each in memory of its own. -/
def TkAns (w w' : World) (e : Ending) (r : Lk × List ByteArray) : Prop :=
  ∃ u1 u2 u3, e = .returned (.tuple #[.agg #[.int .i64 r.1.sent, .int .i64 r.1.acked, u1, .int .i64 r.1.got, u2], u3]) ∧ w'.ownsRow w.heap.size 9 1 u1 r.1.q.length (stv r.1.q) ∧ w'.ownsRow w.heap.size 36 2 u2 r.1.h.length (pccs r.1.h) ∧ w'.ownsRow w.heap.size 9 1 u3 r.2.length (stv r.2) ∧ (∀ g, u3.ownBlock = some g → u1.ownBlock ≠ some g) ∧ Below w.heap.size w w'

/-- A slice that reads as pieces, in a block of pieces. -/
def PHeld (w : World) (v : Value) (hs : List Pc) : Prop :=
  ∃ ao c, v = .slice ao hs.length c ∧ (hs.length ≤ c ∧ (ao = none → c = 0)) ∧ (hs ≠ [] → ∃ g o cur, ao = some ⟨g, o, none⟩ ∧ w.heap[g]? = some (.cells cur 36 (0, 0)) ∧ ∀ i x, hs[i]? = some x → PcAt w g (o + i * 2) x)
theorem PHeld.of_own {w : World} {base : Nat} {v : Value} {xs : List Pc} (h : w.ownsRow base 36 2 v xs.length (pccs xs)) (hz : ∀ x ∈ xs, x.s.size ≤ maxLen) (hm : xs.length ≤ 9223372036854775807) : PHeld w v xs := by
  obtain ⟨ao, cap, rfl, hc, _, _, hcell⟩ := PcRow.of_own h hm hz
  refine ⟨ao, cap, rfl, hc, fun hne => ?_⟩
  obtain ⟨g, o, rfl, hg, hcell⟩ := hcell hne
  rcases h.2 with ⟨e, _⟩ | ⟨g', cap', cur, e, _, hg', _⟩
  · cases e
  · cases e
    exact ⟨g, 0, cur, rfl, hg', hcell⟩
theorem PHeld.keep {w w' : World} {v : Value} {hs : List Pc} (h : PHeld w v hs) (hk : ∀ (k : Nat) (cs : Array Value), w.heap[k]? = some (.cells cs 36 (0, 0)) → w'.heap[k]? = some (.cells cs 36 (0, 0))) : PHeld w' v hs := by
  obtain ⟨ao, c, rfl, hc, h⟩ := h
  refine ⟨ao, c, rfl, hc, fun hne => ?_⟩
  obtain ⟨g, o, cur, rfl, hg, hcell⟩ := h hne
  have hg' := hk g cur hg
  refine ⟨g, o, cur, rfl, hg', fun i x hi => ?_⟩
  have e : ∀ a, w'.cell? ⟨g, a, none⟩ = w.cell? ⟨g, a, none⟩ := fun a => by rw [cell_of_row w' g a _ _ _ hg', cell_of_row w g a _ _ _ hg]
  obtain ⟨c0, c1⟩ := hcell i x hi
  exact ⟨(e _).trans c0, (e _).trans c1⟩
theorem PHeld.row {w : World} {v : Value} {hs : List Pc} (h : PHeld w v hs) (hm : hs.length ≤ 9223372036854775807) (hz : ∀ x ∈ hs, x.s.size ≤ maxLen) : PcRow w v hs := by
  obtain ⟨ao, c, rfl, hc, h⟩ := h
  refine ⟨ao, c, rfl, hc, hm, hz, fun hne => ?_⟩
  obtain ⟨g, o, cur, rfl, hg, hcell⟩ := h hne
  exact ⟨g, o, rfl, (Array.getElem?_eq_some_iff.1 hg).1, hcell⟩
theorem PHeld.tail {w : World} {g o c : Nat} {x : Pc} {hs : List Pc} {cur : Array Value} (hg : w.heap[g]? = some (.cells cur 36 (0, 0))) (hcell : ∀ i y, (x :: hs)[i]? = some y → PcAt w g (o + i * 2) y) (hc : hs.length + 1 ≤ c) (v : Value) (hv : 1 < c ∧ v = .slice (some ⟨g, o + 2, none⟩) hs.length (c - 1) ∨ c = 1 ∧ v = .slice (some ⟨g, o, none⟩) 0 0) : PHeld w v hs := by
  rcases hv with ⟨hc1, rfl⟩ | ⟨rfl, rfl⟩
  · refine ⟨_, c - 1, rfl, ⟨by omega, fun h => by cases h⟩, fun _ => ⟨g, o + 2, cur, rfl, hg, fun i y hi => ?_⟩⟩
    have := hcell (i + 1) y (by simpa using hi)
    rwa [show o + (i + 1) * 2 = o + 2 + i * 2 by omega] at this
  · have : hs = [] := List.eq_nil_of_length_eq_zero (by omega)
    subst this
    exact ⟨_, 0, rfl, ⟨by simp, fun h => by cases h⟩, fun h => absurd rfl h⟩
end Go.Proofs.Ytgjebgdingahjaa
