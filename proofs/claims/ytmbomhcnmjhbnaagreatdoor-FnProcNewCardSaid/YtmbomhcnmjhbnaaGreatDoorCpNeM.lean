/-
  What is compiled of something is something; what is read of a text that is not blank is something: plain mathematics. Nothing of the program; no condition.
-/
import Derived.Test.YtmbomhcnmjhbnaaGreatDoorSNumM
import Derived.Test.YtmbomhcnmjhbnaaGreatDoorSReadM
namespace Go.Proofs.YtmbomhcnmjhbnaaGreatDoor
open Go.RowKit

theorem emit_lt (s : CS) (x : In) : (s.emit x).how = 0 → s.how = 0 ∧ s.list.length < (s.emit x).list.length := by
  unfold CS.emit
  split
  · rename_i h
    split
    · intro e; cases e
    · intro _; exact ⟨h, by simp⟩
  · rename_i h; intro e; exact absurd e h
theorem cdefine_lt (e : Ex) (hm : Mono e) (name : ByteArray) (names : List ByteArray) (body : List Int) (s : CS) : (cdefine e name names body s).how = 0 → s.how = 0 ∧ s.list.length < (cdefine e name names body s).list.length := by
  unfold cdefine
  split
  · intro h; cases h
  · intro h
    obtain ⟨h1, h2⟩ := emit_lt _ _ h
    obtain ⟨h3, h4⟩ := hm.seq [names] body true _ h1
    unfold cbody at h2 ⊢
    exact ⟨h3, Nat.lt_of_le_of_lt h4 h2⟩
theorem ctop_lt (xs : List Nd) (v : Int) (s : CS) : (ctop xs v s).how = 0 → s.how = 0 ∧ s.list.length < (ctop xs v s).list.length := by
  have hm := cexp_mono xs xs.length
  unfold ctop
  dsimp only
  split
  · split
    · split
      · exact cdefine_lt _ hm _ _ _ _
      · rename_i hn; intro h; exact absurd h hn
    · intro h; cases h
  · exact cdefine_lt _ hm _ _ _ _
theorem ctops_le (xs : List Nd) : ∀ (l : List Int) (i : Nat) (s : CS), (ctops xs l i s).1.how = 0 → s.list.length ≤ (ctops xs l i s).1.list.length := by
  intro l
  induction l with
  | nil => intro i s _; exact Nat.le_refl _
  | cons v l ih =>
    intro i s h
    rw [ctops] at h ⊢
    split at h
    · rename_i h0
      rw [if_pos h0]
      exact Nat.le_trans (Nat.le_of_lt (ctop_lt xs v s h0).2) (ih _ _ h)
    · rename_i h0; exact absurd h h0
theorem ctops_ne (xs : List Nd) (v : Int) (l : List Int) (i : Nat) (s : CS) (h : (ctops xs (v :: l) i s).1.how = 0) : 0 < (ctops xs (v :: l) i s).1.list.length := by
  rw [ctops] at h ⊢
  split at h
  · rename_i h0
    rw [if_pos h0]
    exact Nat.lt_of_lt_of_le (Nat.lt_of_le_of_lt (Nat.zero_le _) (ctop_lt xs v s h0).2) (ctops_le xs l _ _ h)
  · rename_i h0; exact absurd h h0

/-- A word that is read, where there is one. -/
def wordQ (t : ByteArray) (a : Int) (s : RS) : RdR := if t.size = 0 then .ok s else if wordOk t then .ok (s.put [wordNd t]) else .bad 3 a
theorem rd_word2 {t : ByteArray} {f i : Nat} {s : RS} (hf : f ≤ i) (hi : i ≤ t.size) : (if f < i then rdWord t f i s else .ok s) = wordQ (t.extract f i) f s := by
  unfold wordQ rdWord
  have hs : (t.extract f i).size = i - f := by rw [ByteArray.size_extract]; omega
  by_cases h : f < i
  · rw [if_pos h, if_neg (show ¬ (t.extract f i).size = 0 by omega)]
  · rw [if_neg h, if_pos (show (t.extract f i).size = 0 by omega)]
theorem rd_stop2 {t : ByteArray} {f : Nat} {s : RS} (hf : f ≤ t.size) : rd t f t.size s = wordQ (t.extract f t.size) f s := by
  rw [rd, dif_neg (by omega), rd_word2 hf (Nat.le_refl _)]
theorem rd_at2 {t : ByteArray} {f i : Nat} {s : RS} (h : i < t.size) (hw : wb (t[i].toNat : Int) = false) (hf : f ≤ i) : rd t f i s = (wordQ (t.extract f i) f s).andThen fun s1 => (rdMark (t[i].toNat : Int) i s1).andThen fun s2 => rd t (i + 1) (i + 1) s2 := by
  rw [rd, dif_pos h, if_neg (by rw [hw]; decide), rd_word2 hf (by omega)]
theorem wordQ_bad {t : ByteArray} {a : Int} {s : RS} {h p : Int} (e : wordQ t a s = .bad h p) : h ≠ 0 := by
  unfold wordQ at e
  split at e
  · cases e
  split at e
  · cases e
  · cases e; decide
theorem mark_bad {b : Int} {i : Nat} {s : RS} {h p : Int} (e : rdMark b i s = .bad h p) : h ≠ 0 := by
  unfold rdMark at e
  split at e
  · cases e
  split at e
  · cases e
  split at e
  · unfold rdClose at e
    split at e
    · cases e; decide
    · cases e
  · cases e; decide
theorem rd_bad {t : ByteArray} (f i : Nat) (s : RS) {h p : Int} (hf : f ≤ i) (hi : i ≤ t.size) (e : rd t f i s = .bad h p) : h ≠ 0 := by
  induction hk : t.size - i generalizing f i s with
  | zero =>
    have hie : i = t.size := by omega
    subst hie
    rw [rd_stop2 hf] at e
    exact wordQ_bad e
  | succ k ih =>
    have hlt : i < t.size := by omega
    cases hw : wb (t[i].toNat : Int) with
    | true =>
      rw [rd_in hlt hw] at e
      exact ih f (i + 1) s (by omega) (by omega) e (by omega)
    | false =>
      rw [rd_at2 hlt hw hf] at e
      cases h1 : wordQ (t.extract f i) f s with
      | bad a b => rw [h1] at e; cases e; exact wordQ_bad h1
      | ok s1 =>
        rw [h1] at e
        change ((rdMark (t[i].toNat : Int) i s1).andThen fun s2 => rd t (i + 1) (i + 1) s2) = _ at e
        cases h2 : rdMark (t[i].toNat : Int) i s1 with
        | bad a b => rw [h2] at e; cases e; exact mark_bad h2
        | ok s2 =>
          rw [h2] at e
          exact ih (i + 1) (i + 1) s2 (Nat.le_refl _) (by omega) e (by omega)
def Some_ (s : RS) : Prop := s.lo ≠ [] ∨ s.vs ≠ []
theorem some_put (s : RS) (ys : List Nd) : Some_ (s.put ys) := .inr (by simp [RS.put])
theorem some_word {s s1 : RS} {t : ByteArray} {a : Int} (e : wordQ t a s = .ok s1) (h : Some_ s ∨ ¬ t.size = 0) : Some_ s1 := by
  unfold wordQ at e
  split at e
  · rename_i h0
    cases e
    rcases h with h | h
    · exact h
    · exact absurd h0 h
  split at e
  · cases e; exact some_put _ _
  · cases e
theorem some_mark {s s2 : RS} {b : Int} {i : Nat} (e : rdMark b i s = .ok s2) (h : Some_ s ∨ ¬ b = 32) : Some_ s2 := by
  unfold rdMark at e
  split at e
  · rename_i hb
    cases e
    rcases h with h | h
    · exact h
    · exact absurd hb h
  split at e
  · cases e; exact .inl (by simp)
  split at e
  · unfold rdClose at e
    split at e
    · cases e
    · cases e; exact some_put _ _
  · cases e
/-- A text that is not blank. -/
def NotBlank (t : ByteArray) (i : Nat) : Prop := ∃ (j : Nat) (h : j < t.size), i ≤ j ∧ ¬ (t[j].toNat : Int) = 32
theorem rd_some {t : ByteArray} (f i : Nat) (s s' : RS) (hf : f ≤ i) (hi : i ≤ t.size) (h : f < i ∨ Some_ s ∨ NotBlank t i) (e : rd t f i s = .ok s') : Some_ s' := by
  induction hk : t.size - i generalizing f i s with
  | zero =>
    have hie : i = t.size := by omega
    subst hie
    rw [rd_stop2 hf] at e
    refine some_word e ?_
    rcases h with h | h | ⟨j, hj, h1, _⟩
    · exact .inr (by rw [ByteArray.size_extract]; omega)
    · exact .inl h
    · omega
  | succ k ih =>
    have hlt : i < t.size := by omega
    cases hw : wb (t[i].toNat : Int) with
    | true =>
      rw [rd_in hlt hw] at e
      exact ih f (i + 1) s (by omega) (by omega) (.inl (by omega)) e (by omega)
    | false =>
      rw [rd_at2 hlt hw hf] at e
      cases h1 : wordQ (t.extract f i) f s with
      | bad a b => rw [h1] at e; cases e
      | ok s1 =>
        rw [h1] at e
        change ((rdMark (t[i].toNat : Int) i s1).andThen fun s2 => rd t (i + 1) (i + 1) s2) = _ at e
        cases h2 : rdMark (t[i].toNat : Int) i s1 with
        | bad a b => rw [h2] at e; cases e
        | ok s2 =>
          rw [h2] at e
          refine ih (i + 1) (i + 1) s2 (Nat.le_refl _) (by omega) ?_ e (by omega)
          right
          by_cases hb : (t[i].toNat : Int) = 32
          · rcases h with h | h | ⟨j, hj, hij, hn⟩
            · exact .inl (some_mark h2 (.inl (some_word h1 (.inr (by rw [ByteArray.size_extract]; omega)))))
            · exact .inl (some_mark h2 (.inl (some_word h1 (.inl h))))
            · refine .inr ⟨j, hj, ?_, hn⟩
              rcases Nat.lt_or_ge i j with hx | hx
              · exact hx
              · have : j = i := by omega
                subst this
                exact absurd hb hn
          · exact .inl (some_mark h2 (.inr hb))
/-- What is read of a text that is not blank is something. -/
theorem readR_some (xs : List Nd) (t : ByteArray) (hn : NotBlank t 0) (h : (readR xs t).2.2.1 = 0) : (readR xs t).2.1 ≠ [] := by
  unfold readR at h ⊢
  split at h
  · rename_i hp
    rw [if_pos hp]
    split at h
    · rename_i h4
      rw [if_pos h4]
      cases hr : rd t 0 0 ⟨xs, [], 0, []⟩ with
      | bad a b =>
        rw [hr] at h
        exact absurd h (rd_bad 0 0 _ (Nat.le_refl _) (Nat.zero_le _) hr)
      | ok s =>
        rw [hr] at h
        have hs := rd_some 0 0 _ s (Nat.le_refl _) (Nat.zero_le _) (.inr (.inr hn)) hr
        dsimp only at h ⊢
        split at h
        · rename_i hlo
          rw [if_pos hlo]
          split at h
          · rename_i hq
            rw [if_pos hq]
            rcases hs with hs | hs
            · exact absurd hlo hs
            · exact hs
          · cases h
        · cases h
    · cases h
  · cases h
end Go.Proofs.YtmbomhcnmjhbnaaGreatDoor
