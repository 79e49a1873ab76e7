/-
  Contracts of the laws' own helpers markPieceS, heldPieceS: what is marked in a slice of the call's own is found there.
-/
import Derived.Test.YtgjebgdingahjaaPc
import Derived.Test.YtgjebgdingahjaaMark2
namespace Go.Proofs.Ytgjebgdingahjaa
open Go.RowKit

theorem PcRow.sz {w : World} {v : Value} {xs : List Pc} (R : PcRow w v xs) : ∀ x ∈ xs, x.s.size ≤ maxLen := by obtain ⟨_, _, _, _, _, hz, _⟩ := R; exact hz
theorem PcRow.le {w : World} {v : Value} {xs : List Pc} (R : PcRow w v xs) : xs.length ≤ 9223372036854775807 := by obtain ⟨_, _, _, _, h, _⟩ := R; exact h
theorem PcRow.nilcap {w : World} {ao : Option Addr} {n cap : Nat} {xs : List Pc} (h : PcRow w (.slice ao n cap) xs) : ao = none → n = 0 ∧ cap = 0 := by
  obtain ⟨ao', cap', e, ⟨h1, h2⟩, _⟩ := h
  simp only [Value.slice.injEq] at e
  obtain ⟨rfl, rfl, rfl⟩ := e
  intro h
  have := h2 h
  omega
theorem PcRow.cells {w : World} {ao : Option Addr} {n cap : Nat} {xs : List Pc} (h : PcRow w (.slice ao n cap) xs) : ∀ ad, ao = some ad → ∀ j u, (pccs xs)[j]? = some u → w.cell? (ad.add j) = some u := by
  obtain ⟨ao', cap', e, _, _, _, hc⟩ := h
  simp only [Value.slice.injEq] at e
  obtain ⟨rfl, rfl, rfl⟩ := e
  intro ad had j u hu
  have hj : j < xs.length * 2 := by have := (List.getElem?_eq_some_iff.1 hu).1; rwa [pccs_length] at this
  have hq : j / 2 < xs.length := by omega
  obtain ⟨g, o, e, _, hcell⟩ := hc (by intro e; subst e; simp at hq)
  rw [had] at e
  cases e
  have hx : xs[j / 2]? = some xs[j / 2] := List.getElem?_eq_getElem hq
  obtain ⟨c0, c1⟩ := hcell (j / 2) _ hx
  have hg := pccs_get xs (j / 2) _ hx (j % 2) (by omega)
  rw [show j / 2 * 2 + j % 2 = j by omega, hu] at hg
  have h2 : j % 2 = 0 ∨ j % 2 = 1 := by omega
  rcases h2 with h2 | h2
  · rw [h2] at hg
    simp only [Pc.cs, List.getElem?_cons_zero, Option.some.injEq] at hg
    subst hg
    have : o + j = o + j / 2 * 2 := by omega
    rw [Addr.add_lit, this]
    exact c0
  · rw [h2] at hg
    simp only [Pc.cs, List.getElem?_cons_succ, List.getElem?_cons_zero, Option.some.injEq] at hg
    subst hg
    have : o + j = o + j / 2 * 2 + 1 := by omega
    rw [Addr.add_lit, this]
    exact c1

/-- The piece that is laid from the number k on. -/
def pmk (k : Int) : Pc := ⟨k, mt (k + 1)⟩
/-- What lies in a slice of pieces behind markPieceS from k on, when i of them are written and xs stood there. -/
def pmarked (k : Int) (xs : List Pc) (i : Nat) : List Pc := (List.range i).map (fun (j : Nat) => pmk (k + 2 * (j : Int))) ++ xs.drop i
theorem pmarked_zero (k : Int) (xs : List Pc) : pmarked k xs 0 = xs := by simp [pmarked]
theorem pmarked_length (k : Int) (xs : List Pc) (i : Nat) (h : i ≤ xs.length) : (pmarked k xs i).length = xs.length := by simp [pmarked]; omega
theorem pmarked_at (k : Int) (xs : List Pc) (i : Nat) (h : i < xs.length) : (pmarked k xs i)[i]? = some xs[i] := by
  unfold pmarked
  rw [List.getElem?_append_right (by simp)]
  simp [h]
theorem pmarked_set (k : Int) (xs : List Pc) (i : Nat) (h : i < xs.length) : (pmarked k xs i).set i (pmk (k + 2 * (i : Int))) = pmarked k xs (i + 1) := by
  unfold pmarked
  rw [List.range_succ, List.map_append, List.set_append_right _ _ (by simp), List.drop_eq_getElem_cons h, List.append_assoc]
  have e : i - (List.map (fun (j : Nat) => pmk (k + 2 * (j : Int))) (List.range i)).length = 0 := by simp
  rw [e]
  rfl
theorem pmarked_get (k : Int) (xs : List Pc) (i : Nat) (h : i < xs.length) : (pmarked k xs xs.length)[i]? = some (pmk (k + 2 * (i : Int))) := by
  simp [pmarked, h]
theorem pmarked_ok (k : Int) (L : List Pc) (hk : k ≤ 2305843009213693952) (hl : L.length ≤ 4194304) : ∀ y ∈ pmarked k L L.length, y.s.size ≤ maxLen := by
  intro y hy
  simp only [pmarked, List.drop_length, List.append_nil, List.mem_map, List.mem_range] at hy
  obtain ⟨j, hj, rfl⟩ := hy
  exact mt_size _ (by omega)

end Go.Proofs.Ytgjebgdingahjaa
