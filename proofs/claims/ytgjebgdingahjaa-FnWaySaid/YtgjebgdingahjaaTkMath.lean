/-
  What follows from takeR for a link that is right. Nothing of the program; no condition.
-/
import Derived.Test.YtgjebgdingahjaaLkMath
namespace Go.Proofs.Ytgjebgdingahjaa
open Go.RowKit

theorem takeR_got {l : Lk} (x : Pc) (h : linkB l = true) : (takeR l x).1.got = l.got + (takeR l x).2.length := by
  by_cases h2 : l.got ≤ x.n ∧ x.n ≤ lend l - 1
  · by_cases h3 : l.got < x.n
    · rw [takeR_hold h h2 h3]; simp
    · rw [takeR_up h h2 h3]
      have hn := linkB_nums h
      have hh := h
      rw [linkB_held hn] at hh
      have u := upGo_held (e := lend l) (g := l.got + 1) (h := l.h) (by rw [show l.got + 1 - 1 = l.got by omega]; exact hh) (by omega)
      simp only [List.length_cons]
      have := u.2.2.2
      omega
  · rw [takeR_out h h2]; simp
theorem takeR_first {l : Lk} (x : Pc) (hne : (takeR l x).2 ≠ []) : (takeR l x).2[0]? = some x.s ∧ x.n = l.got := by
  cases h : linkB l with
  | false => rw [takeR_bad h] at hne; exact absurd rfl hne
  | true =>
    by_cases h2 : l.got ≤ x.n ∧ x.n ≤ lend l - 1
    · by_cases h3 : l.got < x.n
      · rw [takeR_hold h h2 h3] at hne; exact absurd rfl hne
      · rw [takeR_up h h2 h3]; exact ⟨rfl, by omega⟩
    · rw [takeR_out h h2] at hne; exact absurd rfl hne
theorem takeR_again {l : Lk} (x : Pc) (hne : (takeR l x).2 ≠ []) : (takeR (takeR l x).1 x).2 = [] := by
  cases h : linkB l with
  | false => rw [takeR_bad h] at hne; exact absurd rfl hne
  | true =>
    have e := takeR_got x h
    have hx := (takeR_first x hne).2
    have hb := takeR_lb x h
    have hl : 0 < (takeR l x).2.length := List.length_pos_iff.2 hne
    rw [takeR_out hb (by omega)]
theorem takeR_zero {l : Lk} (x : Pc) (h : linkB l = false) : (takeR l x).2 = [] ∧ (takeR l x).1.sent = 0 := by rw [takeR_bad h]; exact ⟨rfl, rfl⟩
end Go.Proofs.Ytgjebgdingahjaa
