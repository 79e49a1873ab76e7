/-
  What both LinkAck come to. Nothing of the program; no condition.
-/
import Derived.Test.YtgjebgdingahjaaLkBox
namespace Go.Proofs.Ytgjebgdingahjaa
open Go.RowKit

/-- The link of which no were told of. -/
def ackL (l : Lk) (no : Int) : Lk := ⟨l.sent, no, l.q.drop (no - l.acked).toNat, l.got, l.h⟩
/-- What LinkAck answers. -/
def ackR (l : Lk) (no : Int) : Lk × Bool := if linkB l = true then (if l.acked < no ∧ no ≤ l.got then (ackL l no, true) else (l, false)) else (zeroLk, false)
theorem ackR_bad {l : Lk} {no : Int} (h : linkB l = false) : ackR l no = (zeroLk, false) := by unfold ackR; rw [h]; rfl
theorem ackR_no {l : Lk} {no : Int} (h : linkB l = true) (h2 : ¬ (l.acked < no ∧ no ≤ l.got)) : ackR l no = (l, false) := by unfold ackR; rw [if_pos h, if_neg h2]
theorem ackR_yes {l : Lk} {no : Int} (h : linkB l = true) (h2 : l.acked < no ∧ no ≤ l.got) : ackR l no = (ackL l no, true) := by unfold ackR; rw [if_pos h, if_pos h2]
theorem ackR_len (l : Lk) (no : Int) : (ackR l no).1.q.length ≤ l.q.length ∧ (ackR l no).1.h.length ≤ l.h.length := by
  unfold ackR
  split
  · split
    · simp [ackL]
    · simp
  · simp [zeroLk]
theorem ackR_ok (l : Lk) (no : Int) (hq : ∀ x ∈ l.q, x.size ≤ maxLen) (hh : ∀ x ∈ l.h, x.s.size ≤ maxLen) : (∀ x ∈ (ackR l no).1.q, x.size ≤ maxLen) ∧ ∀ x ∈ (ackR l no).1.h, x.s.size ≤ maxLen := by
  unfold ackR
  split
  · split
    · exact ⟨fun x hx => hq x (List.mem_of_mem_drop hx), hh⟩
    · exact ⟨hq, hh⟩
  · exact ⟨fun x hx => by simp [zeroLk] at hx, fun x hx => by simp [zeroLk] at hx⟩
/-- A row of one's own, from a place on. -/
theorem SOwn.drop {w : World} {base g n cap : Nat} {xs : List ByteArray} {k : Nat} (h : w.ownsRow base 9 1 (.slice (some ⟨g, 0, none⟩) n cap) n (stv xs)) (hn : xs.length = n) (hk : k ≤ n) (hc : n ≤ cap) (v : Value) (hv : k < cap ∧ v = .slice (some ⟨g, k, none⟩) (n - k) (cap - k) ∨ cap = k ∧ v = .slice (some ⟨g, 0, none⟩) 0 0) : SOwn w base v (xs.drop k) := by
  have hl : (xs.drop k).length = n - k := by rw [List.length_drop, hn]
  rcases hv with ⟨hlt, rfl⟩ | ⟨rfl, rfl⟩
  · refine ⟨_, cap - k, by rw [hl], ⟨by rw [hl]; omega, fun h => by cases h⟩, Or.inr ⟨g, cap, n, xs.take k, [], ?_, ?_, ?_⟩⟩
    · rw [List.length_take, Nat.min_eq_left (by omega)]
    · rw [hl, List.length_take, Nat.min_eq_left (by omega)]; simp; omega
    · rw [List.append_nil, List.take_append_drop]; exact h
  · have h0 : n = cap := by omega
    subst h0
    have : xs.drop n = [] := List.drop_eq_nil_of_le (by omega)
    rw [this]
    exact ⟨_, 0, rfl, ⟨by simp, fun h => by cases h⟩, Or.inl rfl⟩
theorem SOwn.box {w w' : World} {B B' g : Nat} {t : TypeId} {v : Value} {xs : List ByteArray} {c : Array Value} (h : SOwn w B v xs) (hg : w.heap[g]? = some (.cells c t (0, 0))) (hte : t ≠ 9) (hb : ∀ j, j ≠ g → w'.heap[j]? = w.heap[j]?) (hB : B' ≤ B) : SOwn w' B' v xs := by
  obtain ⟨ao, cap, rfl, hc, h⟩ := h
  refine ⟨ao, cap, rfl, hc, ?_⟩
  rcases h with h | ⟨g', CAP, N, pre, post, rfl, hN, ho⟩
  · exact Or.inl h
  · exact Or.inr ⟨g', CAP, N, pre, post, rfl, hN, own_mono (own_box ho hg hte hb) hB⟩
/-- A slice that reads as texts, from a place on. -/
theorem StRow.drop {w : World} {g o n cap k : Nat} {xs : List ByteArray} (h : StRow w (.slice (some ⟨g, o, none⟩) n cap) xs) (hn : xs.length = n) (hk : k ≤ n) (v : Value) (hv : k < cap ∧ v = .slice (some ⟨g, o + k, none⟩) (n - k) (cap - k) ∨ cap = k ∧ v = .slice (some ⟨g, o, none⟩) 0 0) : StRow w v (xs.drop k) := by
  have hl : (xs.drop k).length = n - k := by rw [List.length_drop, hn]
  obtain ⟨ao', cap', e, hc, hm, hz, hcell⟩ := h
  simp only [Value.slice.injEq] at e
  obtain ⟨rfl, e2, rfl⟩ := e
  have hz' : ∀ x ∈ xs.drop k, x.size ≤ maxLen := fun x hx => hz x (List.mem_of_mem_drop hx)
  rcases hv with ⟨hlt, rfl⟩ | ⟨rfl, rfl⟩
  · refine ⟨_, cap - k, by rw [hl], ⟨by rw [hl]; omega, fun h => by cases h⟩, by omega, hz', fun hne => ?_⟩
    have hne' : xs ≠ [] := fun e => hne (by rw [e]; simp)
    obtain ⟨g', o', e, hg, hcell⟩ := hcell hne'
    cases e
    refine ⟨g, o + k, rfl, hg, fun i x hi => ?_⟩
    rw [List.getElem?_drop] at hi
    rw [Nat.add_assoc]
    exact hcell (k + i) x hi
  · have h0 : xs.drop cap = [] := List.drop_eq_nil_of_le (by omega)
    rw [h0]
    exact ⟨_, 0, rfl, ⟨by simp, fun h => by cases h⟩, by simp, by simp, fun h => absurd rfl h⟩
end Go.Proofs.Ytgjebgdingahjaa
