/-
  Texts that stood by themselves, laid into one.
-/
import Derived.Test.YtkchakcebdenjaaGreatCpNeM
import Derived.Test.YtkchakcebdenjaaGreatDraw8M
import Derived.Test.YtkchakcebdenjaaGreatSCp12M
/-
  What the text "(print 1)" is read as and compiled to: plain mathematics. Nothing of the program; no condition.
-/
namespace Go.Proofs.YtkchakcebdenjaaGreat
open Go.RowKit
def tF : ByteArray := ⟨#[40, 112, 114, 105, 110, 116, 32, 49, 41]⟩
def xsF : List Nd := [⟨4, 0, ⟨#[112, 114, 105, 110, 116]⟩, 0, 0⟩, ⟨3, 1, ByteArray.empty, 0, 0⟩, ⟨1, 0, ByteArray.empty, 0, 0⟩, ⟨5, 0, ByteArray.empty, 1, 2⟩, ⟨5, 0, ByteArray.empty, 0, 3⟩]
end Go.Proofs.YtkchakcebdenjaaGreat
/-
  The contract of spec.l4DrawRight: code that is right, and not empty, in rows of the call's own; nothing else is turned but the cursor. No condition.
-/
namespace Go.Proofs.YtkchakcebdenjaaGreat
open Go.RowKit
theorem Fits.wordQ {n f i : Nat} {s s1 : RS} {t : ByteArray} {a : Int} (F : Fits n f s) (hf : f ≤ i) (ht : t.size ≤ 1048576) (hs : t.size = 0 ∨ f < i) (e : Go.Proofs.YtkchakcebdenjaaGreat.wordQ t a s = .ok s1) : Fits n i s1 := by
  unfold Go.Proofs.YtkchakcebdenjaaGreat.wordQ at e
  split at e
  · cases e; exact F.mono hf
  split at e
  · cases e
    rename_i h0 _
    refine (F.word _ ?_).mono (by omega)
    exact Nat.le_trans (wordNd_size t) (by unfold maxLen; omega)
  · cases e
theorem rd_fits4 {t : ByteArray} (n f i : Nat) (s s' : RS) (h4 : t.size ≤ 400) (hf : f ≤ i) (hi : i ≤ t.size) (h : Fits n f s) (e : rd t f i s = .ok s') : Fits n t.size s' := by
  induction hk : t.size - i generalizing f i s with
  | zero =>
    have hie : i = t.size := by omega
    subst hie
    rw [rd_stop2 hf] at e
    exact h.wordQ hf (by rw [ByteArray.size_extract]; omega) (by rw [ByteArray.size_extract]; omega) e
  | succ k ih =>
    have hlt : i < t.size := by omega
    cases hw : wb (t[i].toNat : Int) with
    | true =>
      rw [rd_in hlt hw] at e
      exact ih f (i + 1) s (by omega) (by omega) h e (by omega)
    | false =>
      rw [rd_at2 hlt hw hf] at e
      cases h1 : wordQ (t.extract f i) f s with
      | bad a b => rw [h1] at e; cases e
      | ok s1 =>
        rw [h1] at e
        change ((rdMark (t[i].toNat : Int) i s1).andThen fun s2 => rd t (i + 1) (i + 1) s2) = _ at e
        cases h2 : rdMark (t[i].toNat : Int) i s1 with
        | bad a b => rw [h2] at e; cases e
        | ok s2 =>
          rw [h2] at e
          have F1 : Fits n i s1 := h.wordQ hf (by rw [ByteArray.size_extract]; omega) (by rw [ByteArray.size_extract]; omega) h1
          exact ih (i + 1) (i + 1) s2 (Nat.le_refl _) (by omega) (F1.mark (by omega) h2) e (by omega)
theorem readR_len (t : ByteArray) : (readR [] t).2.1.length ≤ 400 := by
  unfold readR
  split
  · split
    · rename_i h4
      cases hr : rd t 0 0 ⟨[], [], 0, []⟩ with
      | bad h p => simp
      | ok s =>
        have F := rd_fits4 0 0 0 _ s h4 (Nat.le_refl _) (Nat.zero_le _) ⟨by simp, by simp, by simp, by simp, by simp⟩ hr
        have f2 := F.vs
        simp only
        split
        · split
          · simp only; omega
          · simp
        · simp
    · simp
  · simp
theorem readR_pool (t : ByteArray) : poolB (readR [] t).1 = true := by
  unfold readR
  split
  · split
    · cases hr : rd t 0 0 ⟨[], [], 0, []⟩ with
      | bad h p => rfl
      | ok s =>
        simp only
        split
        · split
          · assumption
          · rfl
        · rfl
    · rfl
  · rfl
def Own3 (w : World) (B : Nat) (v1 v2 v3 : Value) (ns : List Nd) (is : List In) (ds : List Df) : Prop :=
  w.ownsRow B 92 5 v1 ns.length (ncs ns) ∧ w.ownsRow B 53 4 v2 is.length (incs is) ∧ w.ownsRow B 51 3 v3 ds.length (dfcs ds)
end Go.Proofs.YtkchakcebdenjaaGreat
