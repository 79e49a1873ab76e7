/-
  A list that is made of values is read as these: plain mathematics. Nothing of the program; no condition.
-/
import Derived.Test.YtgmijnkdcdgejaaMkList
import Derived.Test.YtgmijnkdcdgejaaListOf
namespace Go.Proofs.Ytgmijnkdcdgejaa
open Go.RowKit

theorem nodesB_snoc' (xs : List Nd) (x : Nd) (i : Nat) : nodesB (xs ++ [x]) i = (nodesB xs i && nodeB x ((i + xs.length : Nat) : Int)) := by
  induction xs generalizing i with
  | nil => simp [nodesB]
  | cons y ys ih =>
    simp only [List.cons_append, nodesB, ih, Bool.and_assoc, List.length_cons]
    rw [show i + 1 + ys.length = i + (ys.length + 1) by omega]
theorem poolB_snoc' {xs : List Nd} {x : Nd} (h : poolB xs = true) (hx : nodeB x xs.length = true) (hl : xs.length < 3000) : poolB (xs ++ [x]) = true := by
  unfold poolB at h ⊢
  simp only [Bool.and_eq_true, decide_eq_true_eq] at h
  rw [nodesB_snoc', h.2, Nat.zero_add, hx]
  simp; omega
theorem nilN_ok (n : Nat) : nodeB nilN n = true := by simp [nodeB, nilN, nameFB, partB, lo, hi, hasS, hasA, hasB]
theorem pairN_ok (z : Int) (last : Nat) (at_ : Nat) (h0 : 0 ≤ z) (h1 : z < at_) (h2 : last < at_) : nodeB (pairN z last) at_ = true := by
  simp [nodeB, pairN, nameFB, partB, lo, hi, hasS, hasA, hasB, h0, h1, h2]
theorem pool_more (xs : List Nd) (zs : List Int) (hp : poolB xs = true) (hl : xs.length + 1 + zs.length ≤ 3000) (ha : allI xs zs = true) (d : Nat) (hd : d ≤ zs.length) : poolB (xs ++ more zs xs.length (zs.length - d)) = true := by
  induction d with
  | zero =>
    rw [show more zs xs.length (zs.length - 0) = [nilN] by simp [more, pairsR]]
    exact poolB_snoc' hp (nilN_ok _) (by omega)
  | succ d ih =>
    have hm : zs.length - (d + 1) < zs.length := by omega
    rw [more_step zs xs.length (zs.length - (d + 1)) hm, show zs.length - (d + 1) + 1 = zs.length - d by omega, ← List.append_assoc]
    have hlen : (xs ++ more zs xs.length (zs.length - d)).length = xs.length + d + 1 := by rw [List.length_append, more_length]; omega
    refine poolB_snoc' (ih (by omega)) ?_ (by rw [hlen]; omega)
    have hz := List.all_eq_true.1 ha zs[zs.length - (d + 1)] (List.getElem_mem _)
    simp only [hasI, Bool.and_eq_true, decide_eq_true_eq] at hz
    rw [hlen]
    exact pairN_ok _ _ _ hz.1 (by omega) (by omega)
theorem more_ext (zs : List Int) (n : Nat) (d : Nat) (hd : d ≤ zs.length) : ∃ t, more zs n 0 = more zs n (zs.length - d) ++ t := by
  induction hk : zs.length - d generalizing d with
  | zero => exact ⟨[], by simp⟩
  | succ k ih =>
    obtain ⟨t, ht⟩ := ih (d + 1) (by omega) (by omega)
    rw [ht, more_step zs n k (by omega)]
    exact ⟨_, List.append_assoc _ _ _⟩
theorem chain_more (xs : List Nd) (zs : List Int) (d : Nat) (hd : d ≤ zs.length) (f : Nat) (acc : List Int) (hf : xs.length + d < f) :
    chain (xs ++ more zs xs.length 0) f (xs.length + d) acc = some (acc ++ zs.drop (zs.length - d)) := by
  induction d generalizing f acc with
  | zero =>
    obtain ⟨t, ht⟩ := more_ext zs xs.length 0 (by omega)
    rw [chain_nil _ f (xs.length + 0) acc nilN ?_ rfl hf]
    · simp
    · rw [ht, show more zs xs.length (zs.length - 0) = [nilN] by simp [more, pairsR]]
      simp
  | succ d ih =>
    have hm : zs.length - (d + 1) < zs.length := by omega
    obtain ⟨t, ht⟩ := more_ext zs xs.length (d + 1) hd
    have hx : (xs ++ more zs xs.length 0)[xs.length + (d + 1)]? = some (pairN zs[zs.length - (d + 1)] (xs.length + (zs.length - (zs.length - (d + 1) + 1)))) := by
      rw [ht, more_step zs xs.length (zs.length - (d + 1)) hm]
      have hl := more_length zs xs.length (zs.length - (d + 1) + 1)
      rw [List.getElem?_append_right (by omega), List.append_assoc, List.getElem?_append_right (by omega), List.getElem?_append_left (by simp; omega)]
      rw [show xs.length + (d + 1) - xs.length - (more zs xs.length (zs.length - (d + 1) + 1)).length = 0 by omega]
      rfl
    rw [chain_pair _ f _ acc _ hx rfl (by omega)]
    have hb : ((pairN zs[zs.length - (d + 1)] (xs.length + (zs.length - (zs.length - (d + 1) + 1)))).b).toNat = xs.length + d := by
      show (((xs.length + (zs.length - (zs.length - (d + 1) + 1)) : Nat) : Int)).toNat = _
      rw [Int.toNat_natCast]; omega
    rw [hb, ih (by omega) (f - 1) _ (by omega)]
    have : zs.drop (zs.length - (d + 1)) = zs[zs.length - (d + 1)] :: zs.drop (zs.length - d) := by
      rw [List.drop_eq_getElem_cons hm, show zs.length - (d + 1) + 1 = zs.length - d by omega]
    rw [this, List.append_assoc]
    rfl
theorem lists_back (xs : List Nd) (zs : List Int) (hp : poolB xs = true) (hok : mlOk xs zs = true) : poolB (xs ++ more zs xs.length 0) = true ∧ listR (xs ++ more zs xs.length 0) ((xs.length + zs.length : Nat) : Int) = (zs, true) := by
  simp only [mlOk, Bool.and_eq_true, decide_eq_true_eq] at hok
  have h1 := pool_more xs zs hp hok.1 hok.2 zs.length (Nat.le_refl _)
  rw [Nat.sub_self] at h1
  refine ⟨h1, ?_⟩
  have hml := more_length zs xs.length 0
  have hi : hasI (xs ++ more zs xs.length 0) ((xs.length + zs.length : Nat) : Int) = true := by
    unfold hasI
    rw [List.length_append, hml]
    simp
    omega
  unfold listR chainR
  rw [h1, hi, Bool.and_self, if_pos rfl, Int.toNat_natCast, chain_more xs zs zs.length (Nat.le_refl _) _ [] (by omega)]
  simp
theorem chain_len' (xs : List Nd) (f j : Nat) (acc l : List Int) (h : chain xs f j acc = some l) : l.length ≤ acc.length + f := by
  induction f generalizing j acc with
  | zero => simp [chain] at h
  | succ f ih =>
    simp only [chain] at h
    split at h
    · cases h
    · split at h
      · have := ih _ _ h
        simp at this
        omega
      · split at h
        · cases h; omega
        · cases h
theorem listR_len' (xs : List Nd) (a : Int) : (listR xs a).1.length ≤ xs.length := by
  unfold listR
  cases h : (poolB xs && hasI xs a) with
  | false => simp
  | true =>
    simp only [Bool.and_eq_true, hasI, decide_eq_true_eq] at h
    rw [if_pos rfl]
    unfold chainR
    split
    · rename_i l hl
      have := chain_len' xs _ _ _ _ hl
      show l.length ≤ xs.length
      simp only [List.length_nil] at this
      omega
    · simp

end Go.Proofs.Ytgmijnkdcdgejaa
