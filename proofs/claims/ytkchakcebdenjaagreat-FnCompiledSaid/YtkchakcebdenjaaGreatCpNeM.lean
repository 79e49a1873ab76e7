/-
  What is compiled of something is something; what is read of a text that is not blank is something: plain mathematics. Nothing of the program; no condition.
-/
import Derived.Test.YtkchakcebdenjaaGreatIc8M
import Derived.Test.YtkchakcebdenjaaGreatSReadM
namespace Go.Proofs.YtkchakcebdenjaaGreat
open Go.RowKit
def wordQ (t : ByteArray) (a : Int) (s : RS) : RdR := if t.size = 0 then .ok s else if wordOk t then .ok (s.put [wordNd t]) else .bad 3 a
theorem rd_word2 {t : ByteArray} {f i : Nat} {s : RS} (hf : f ≤ i) (hi : i ≤ t.size) : (if f < i then rdWord t f i s else .ok s) = wordQ (t.extract f i) f s := by
  unfold wordQ rdWord
  have hs : (t.extract f i).size = i - f := by rw [ByteArray.size_extract]; omega
  by_cases h : f < i
  · rw [if_pos h, if_neg (show ¬ (t.extract f i).size = 0 by omega)]
  · rw [if_neg h, if_pos (show (t.extract f i).size = 0 by omega)]
theorem rd_stop2 {t : ByteArray} {f : Nat} {s : RS} (hf : f ≤ t.size) : rd t f t.size s = wordQ (t.extract f t.size) f s := by
  rw [rd, dif_neg (by omega), rd_word2 hf (Nat.le_refl _)]
theorem rd_at2 {t : ByteArray} {f i : Nat} {s : RS} (h : i < t.size) (hw : wb (t[i].toNat : Int) = false) (hf : f ≤ i) : rd t f i s = (wordQ (t.extract f i) f s).andThen fun s1 => (rdMark (t[i].toNat : Int) i s1).andThen fun s2 => rd t (i + 1) (i + 1) s2 := by
  rw [rd, dif_pos h, if_neg (by rw [hw]; decide), rd_word2 hf (by omega)]
def Some_ (s : RS) : Prop := s.lo ≠ [] ∨ s.vs ≠ []
def NotBlank (t : ByteArray) (i : Nat) : Prop := ∃ (j : Nat) (h : j < t.size), i ≤ j ∧ ¬ (t[j].toNat : Int) = 32
end Go.Proofs.YtkchakcebdenjaaGreat
