/-
  What comes of payloads on a link over a bad net and over a good one: plain mathematics. Nothing of the program; no condition.
-/
import Derived.Test.YtgjebgdingahjaaTkMath
import Derived.Test.YtgjebgdingahjaaLkShowM
import Derived.Test.YtgjebgdingahjaaLkAckM
namespace Go.Proofs.Ytgjebgdingahjaa
open Go.RowKit

/-- A piece of what was handed in. -/
def Of (gave : List ByteArray) (x : Pc) : Prop := 0 ≤ x.n ∧ gave[x.n.toNat]? = some x.s
theorem Of.more {gave : List ByteArray} {x : Pc} (h : Of gave x) (s : List ByteArray) : Of (gave ++ s) x := by
  refine ⟨h.1, ?_⟩
  rw [List.getElem?_append_left (List.getElem?_eq_some_iff.1 h.2).1]
  exact h.2
/-- Where a link stands to what was handed in and up. -/
structure Way (gave took : List ByteArray) (l : Lk) : Prop where
  ok : linkB l = true
  sent : l.sent = gave.length
  q : l.q = gave.drop l.acked.toNat
  tk : took = gave.take l.got.toNat
  held : ∀ x ∈ l.h, Of gave x
theorem Way.zero : Way [] [] zeroLk := ⟨zeroLk_ok, rfl, rfl, rfl, by intro x hx; cases hx⟩
theorem Way.nums {gave took : List ByteArray} {l : Lk} (h : Way gave took l) : 0 ≤ l.acked ∧ l.acked ≤ l.got ∧ l.got ≤ gave.length ∧ l.q.length = gave.length - l.acked.toNat ∧ l.q.length ≤ 30 ∧ took.length = l.got.toNat := by
  obtain ⟨h1, h2, h3, h4, h5, h6⟩ := linkB_nums h.ok
  have e := h.sent
  refine ⟨h1, h2, by omega, ?_, h6, ?_⟩
  · rw [h.q]; simp
  · rw [h.tk, List.length_take]; omega
theorem Way.send {gave took : List ByteArray} {l : Lk} (h : Way gave took l) (s : ByteArray) (hs : (sendR l s).2 = true) : Way (gave ++ [s]) took (sendR l s).1 := by
  have hn := h.nums
  cases h2 : linkB (sendL l s) with
  | false => rw [sendR_no h.ok h2] at hs; cases hs
  | true =>
    rw [sendR_yes h.ok h2]
    refine ⟨h2, ?_, ?_, ?_, fun x hx => (h.held x hx).more _⟩
    · show l.sent + 1 = _
      rw [h.sent]; simp
    · show l.q ++ [s] = List.drop l.acked.toNat (gave ++ [s])
      rw [h.q, List.drop_append]
      congr 1
      have : l.acked.toNat - gave.length = 0 := by omega
      rw [this]; rfl
    · show took = List.take l.got.toNat _
      rw [h.tk, List.take_append]
      have : l.got.toNat - gave.length = 0 := by omega
      rw [this]; simp
theorem Way.same {gave took : List ByteArray} {l : Lk} (h : Way gave took l) (s : ByteArray) (hs : (sendR l s).2 = false) : (sendR l s).1 = l := by
  cases h2 : linkB (sendL l s) with
  | false => rw [sendR_no h.ok h2]
  | true => rw [sendR_yes h.ok h2] at hs; cases hs
theorem showP_at {a : Int} {q : List ByteArray} {n i : Nat} {x : Pc} (hx : (showP a q n)[i]? = some x) : x.n = a + i ∧ q[i]? = some x.s ∧ i < n := by
  unfold showP at hx
  rw [List.getElem?_map, List.getElem?_zipIdx] at hx
  cases hq : (q.take n)[i]? with
  | none => rw [hq] at hx; cases hx
  | some s =>
    rw [hq] at hx
    simp at hx
    subst hx
    have hi : i < (q.take n).length := (List.getElem?_eq_some_iff.1 hq).1
    rw [List.length_take] at hi
    refine ⟨rfl, ?_, by omega⟩
    rw [List.getElem?_take, if_pos (by omega)] at hq
    exact hq
/-- How many are shown. -/
def shown (l : Lk) : Nat := if 4 ≤ l.q.length then 4 else l.q.length
theorem Way.show {gave took : List ByteArray} {l : Lk} (h : Way gave took l) {i : Nat} {x : Pc} (hx : (showR l)[i]? = some x) : Of gave x ∧ x.n = l.acked + i ∧ i < shown l := by
  have hn := h.nums
  unfold showR at hx
  rw [if_pos h.ok] at hx
  obtain ⟨e1, e2, e3⟩ := showP_at hx
  refine ⟨⟨by omega, ?_⟩, e1, e3⟩
  rw [h.q, List.getElem?_drop] at e2
  have : x.n.toNat = l.acked.toNat + i := by omega
  rw [this]
  exact e2
theorem show_len {gave took : List ByteArray} {l : Lk} (h : Way gave took l) : (showR l).length = shown l := by
  unfold showR shown
  rw [if_pos h.ok]
  split
  · exact showP_length _ _ _ (by omega)
  · exact showP_length _ _ _ (by omega)
/-- What stands behind one another in the window follows what was handed in. -/
theorem upGo_of {gave : List ByteArray} : ∀ (h : List Pc) (g : Int), 0 ≤ g → (∀ x ∈ h, Of gave x) → (upGo g h).1 = (gave.drop g.toNat).take (upGo g h).1.length ∧ (upGo g h).2.1 = g + (upGo g h).1.length
  | [], g, hg, _ => by simp [upGo]
  | x :: h, g, hg, ho => by
    unfold upGo
    split
    · rename_i hx
      obtain ⟨h1, h2⟩ := upGo_of h (g + 1) (by omega) (fun y hy => ho y (List.mem_cons_of_mem _ hy))
      have hox := ho x (List.mem_cons_self ..)
      have hxg : x.n = g := by first | exact hx | simpa using hx
      have e : (gave.drop g.toNat) = x.s :: gave.drop (g + 1).toNat := by
        have hlt := (List.getElem?_eq_some_iff.1 hox.2).1
        rw [hxg] at hlt
        rw [List.drop_eq_getElem_cons hlt]
        have e2 := hox.2
        rw [hxg, List.getElem?_eq_getElem hlt] at e2
        have e3 : gave[g.toNat] = x.s := by simpa using e2
        rw [e3, show (g + 1).toNat = g.toNat + 1 by omega]
      simp only [List.length_cons]
      refine ⟨?_, by rw [h2]; omega⟩
      rw [e, List.take_succ_cons, ← h1]
    · simp
theorem Way.take {gave took : List ByteArray} {l : Lk} (h : Way gave took l) {x : Pc} (hx : Of gave x) : Way gave (took ++ (takeR l x).2) (takeR l x).1 := by
  have hn := h.nums
  by_cases h2 : l.got ≤ x.n ∧ x.n ≤ lend l - 1
  · by_cases h3 : l.got < x.n
    · have hl := takeR_lb x h.ok
      rw [takeR_hold h.ok h2 h3] at hl ⊢
      refine ⟨hl, h.sent, h.q, by simpa using h.tk, fun y hy => ?_⟩
      rcases holdL_mem x l.h y hy with rfl | hy
      · exact hx
      · exact h.held y hy
    · have hl := takeR_lb x h.ok
      rw [takeR_up h.ok h2 h3] at hl ⊢
      have hxg : x.n = l.got := by omega
      obtain ⟨u1, u2⟩ := upGo_of l.h (l.got + 1) (by omega) h.held
      refine ⟨hl, h.sent, h.q, ?_, fun y hy => h.held y ((upGo_mem (l.got + 1) l.h).2 y hy)⟩
      show took ++ (x.s :: (upGo (l.got + 1) l.h).1) = List.take (upGo (l.got + 1) l.h).2.1.toNat gave
      have hlt := (List.getElem?_eq_some_iff.1 hx.2).1
      rw [hxg] at hlt
      have e2 := hx.2
      rw [hxg, List.getElem?_eq_getElem hlt] at e2
      have e3 : x.s = gave[l.got.toNat] := by simpa using e2.symm
      have en : (upGo (l.got + 1) l.h).2.1.toNat = l.got.toNat + (1 + (upGo (l.got + 1) l.h).1.length) := by rw [u2]; omega
      rw [en, List.take_add, ← h.tk]
      congr 1
      rw [List.drop_eq_getElem_cons hlt, Nat.add_comm 1, List.take_succ_cons, ← e3]
      congr 1
      rw [show (l.got + 1).toNat = l.got.toNat + 1 by omega] at u1
      exact u1
  · rw [takeR_out h.ok h2]
    exact ⟨h.ok, h.sent, h.q, by simpa using h.tk, h.held⟩
theorem take_keeps {l : Lk} (h : linkB l = true) (x : Pc) : (takeR l x).1.acked = l.acked ∧ (takeR l x).1.sent = l.sent ∧ (takeR l x).1.q = l.q := by
  by_cases h2 : l.got ≤ x.n ∧ x.n ≤ lend l - 1
  · by_cases h3 : l.got < x.n
    · rw [takeR_hold h h2 h3]; exact ⟨rfl, rfl, rfl⟩
    · rw [takeR_up h h2 h3]; exact ⟨rfl, rfl, rfl⟩
  · rw [takeR_out h h2]; exact ⟨rfl, rfl, rfl⟩
theorem Way.ack {gave took : List ByteArray} {l : Lk} (h : Way gave took l) (no : Int) : Way gave took (ackR l no).1 := by
  have hn := h.nums
  by_cases h2 : l.acked < no ∧ no ≤ l.got
  · have hl := ackR_lb no h.ok
    rw [ackR_yes h.ok h2] at hl ⊢
    refine ⟨hl, h.sent, ?_, h.tk, h.held⟩
    show l.q.drop (no - l.acked).toNat = gave.drop no.toNat
    rw [h.q, List.drop_drop]
    congr 1
    omega
  · rw [ackR_no h.ok h2]; exact h
/-- One piece more of those that are shown in their order: as far as that, all is handed up. -/
theorem Way.next {gave took : List ByteArray} {l : Lk} (h : Way gave took l) {x : Pc} (k : Nat) (hn : x.n = l.acked + k) (hg : l.acked + k ≤ l.got) (hk : k < l.q.length) : l.acked + (k + 1 : Nat) ≤ (takeR l x).1.got := by
  have hm := h.nums
  have hs := h.sent
  have eg := takeR_got x h.ok
  by_cases h3 : l.got = l.acked + k
  · have hlend : x.n ≤ lend l - 1 := by
      unfold lend
      split <;> omega
    rw [takeR_up h.ok ⟨by omega, hlend⟩ (by omega)] at eg ⊢
    have h2 := eg
    simp only [List.length_cons] at eg
    have : ((upGo (l.got + 1) l.h).1.length : Int) ≥ 0 := by omega
    simp only at eg ⊢
    omega
  · omega
/-- A round over a good net: what is left is less, by four at least, or nothing. -/
theorem Way.round {gave took : List ByteArray} {l : Lk} (h : Way gave took l) (a : Int) (n : Nat) (hg : a + (n : Int) ≤ l.got) (ha : l.acked = a) (hq : n ≤ l.q.length) : (ackR l l.got).1.q.length + n ≤ l.q.length := by
  have hm := h.nums
  by_cases h2 : l.acked < l.got ∧ l.got ≤ l.got
  · rw [ackR_yes h.ok h2]
    show (l.q.drop (l.got - l.acked).toNat).length + n ≤ l.q.length
    rw [List.length_drop]
    have := h.sent
    omega
  · rw [ackR_no h.ok h2]
    show l.q.length + n ≤ l.q.length
    omega
/-- Where nothing is left all came up. -/
theorem Way.done {gave took : List ByteArray} {l : Lk} (h : Way gave took l) (hq : l.q = []) : took = gave ∧ l.got = gave.length := by
  have hm := h.nums
  have hl : l.q.length = 0 := by rw [hq]; rfl
  have e : l.got = gave.length := by omega
  refine ⟨?_, e⟩
  rw [h.tk, e]
  simp
end Go.Proofs.Ytgjebgdingahjaa
