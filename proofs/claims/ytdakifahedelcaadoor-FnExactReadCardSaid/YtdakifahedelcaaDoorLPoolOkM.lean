/-
  Texts that stood by themselves, laid into one.
-/
import Derived.Test.YtdakifahedelcaaDoorBackM
import Derived.Test.YtdakifahedelcaaDoorBsM
import Derived.Test.YtdakifahedelcaaDoorWithM
/-
  What is read makes a right pool: plain mathematics. Nothing of the program; no condition.
-/
namespace Go.Proofs.YtdakifahedelcaaDoor
open Go.RowKit

def inR (n : Nat) (zs : List Int) : Prop := ∀ z ∈ zs, 0 ≤ z ∧ z < n
structure Good (s : RS) : Prop where
  ns : nodesB s.ns 0 = true
  vs : inR s.ns.length s.vs
  lo : ∀ p ∈ s.lo, inR s.ns.length p.2
theorem inR.mono {n m : Nat} {zs : List Int} (h : inR n zs) (hm : n ≤ m) : inR m zs := fun z hz => by have := h z hz; omega
theorem nodesB_snoc {xs : List Nd} {x : Nd} (h : nodesB xs 0 = true) (hx : nodeB x xs.length = true) : nodesB (xs ++ [x]) 0 = true := by
  rw [nodesB_snoc', h, Nat.zero_add, hx]; rfl
theorem nodes_more (xs : List Nd) (zs : List Int) (hp : nodesB xs 0 = true) (ha : inR xs.length zs) (d : Nat) (hd : d ≤ zs.length) : nodesB (xs ++ more zs xs.length (zs.length - d)) 0 = true := by
  induction d with
  | zero =>
    rw [show more zs xs.length (zs.length - 0) = [nilN] by simp [more, pairsR]]
    exact nodesB_snoc hp (nilN_ok _)
  | succ d ih =>
    have hm : zs.length - (d + 1) < zs.length := by omega
    rw [more_step zs xs.length (zs.length - (d + 1)) hm, show zs.length - (d + 1) + 1 = zs.length - d by omega, ← List.append_assoc]
    have hlen : (xs ++ more zs xs.length (zs.length - d)).length = xs.length + d + 1 := by rw [List.length_append, more_length]; omega
    refine nodesB_snoc (ih (by omega)) ?_
    have hz := ha zs[zs.length - (d + 1)] (List.getElem_mem _)
    rw [hlen]
    exact pairN_ok _ _ _ hz.1 (by omega) (by omega)
theorem Good.put {s : RS} (h : Good s) (ys : List Nd) (hy : 0 < ys.length) (hn : nodesB (s.ns ++ ys) 0 = true) : Good (s.put ys) := by
  have hl : (s.put ys).ns.length = s.ns.length + ys.length := by simp [RS.put]
  refine ⟨hn, ?_, fun p hp => ?_⟩
  · intro z hz
    rw [hl]
    rcases List.mem_append.1 hz with hz | hz
    · have := h.vs z hz; omega
    · rw [List.mem_singleton] at hz; omega
  · rw [hl]
    exact (h.lo p hp).mono (by omega)
theorem numB_range {l : List UInt8} (h : numB l = true) : -1000000000 ≤ tval l ∧ tval l ≤ 1000000000 := by
  simp only [numB, Bool.and_eq_true, decide_eq_true_eq] at h
  exact h.1
theorem wordNd_ok {t : ByteArray} (h : wordOk t = true) (n : Nat) : nodeB (wordNd t) n = true := by
  unfold wordNd
  unfold wordOk at h
  by_cases h1 : isT t = true
  · rw [if_pos h1]; simp [nodeB, nameFB, partB, lo, hi, hasS, hasA, hasB]
  rw [if_neg h1]
  by_cases h2 : isF t = true
  · rw [if_pos h2]; simp [nodeB, nameFB, partB, lo, hi, hasS, hasA, hasB]
  rw [if_neg h2]
  by_cases h3 : numB t.data.toList = true
  · rw [if_pos h3]
    have := numB_range h3
    simp [nodeB, nameFB, partB, lo, hi, hasS, hasA, hasB]
    omega
  rw [if_neg h3]
  have h4 : nameB t = true := by simpa [h1, h2, h3] using h
  simp [nodeB, nameFB, partB, lo, hi, hasS, hasA, hasB, h4]
theorem Good.wordR {s s1 : RS} {t : ByteArray} {a : Int} (h : Good s) (e : wordR t a s = .ok s1) : Good s1 := by
  unfold Go.Proofs.YtdakifahedelcaaDoor.wordR at e
  split at e
  · cases e; exact h
  split at e
  · rename_i hok
    cases e
    exact h.put [wordNd t] (by simp) (nodesB_snoc h.ns (wordNd_ok hok _))
  · cases e
theorem Good.mark {s s2 : RS} {b : Int} {i : Nat} (h : Good s) (e : rdMark b i s = .ok s2) : Good s2 := by
  unfold rdMark at e
  split at e
  · cases e; exact h
  split at e
  · cases e
    refine ⟨h.ns, fun z hz => by simp at hz, fun p hp => ?_⟩
    rcases List.mem_append.1 hp with hp | hp
    · exact h.lo p hp
    · rw [List.mem_singleton] at hp
      subst hp
      exact h.vs
  split at e
  · unfold rdClose at e
    split at e
    · cases e
    · rename_i q hq
      cases e
      have hm := List.mem_of_getLast? hq
      have h0 : Good ⟨s.ns, s.lo.dropLast, q.1, q.2⟩ := ⟨h.ns, h.lo q hm, fun p hp => h.lo p (List.dropLast_subset _ hp)⟩
      refine h0.put _ (by rw [more_length]; omega) ?_
      have := nodes_more s.ns s.vs h.ns h.vs s.vs.length (Nat.le_refl _)
      rwa [Nat.sub_self] at this
  · cases e
theorem rd_good {t : ByteArray} (f i : Nat) (s s' : RS) (hf : f ≤ i) (hi : i ≤ t.size) (h : Good s) (e : rd t f i s = .ok s') : Good s' := by
  induction hk : t.size - i generalizing f i s with
  | zero =>
    have hie : i = t.size := by omega
    subst hie
    rw [rd_stop hf] at e
    exact h.wordR e
  | succ k ih =>
    have hlt : i < t.size := by omega
    cases hw : wb (t[i].toNat : Int) with
    | true =>
      rw [rd_in hlt hw] at e
      exact ih f (i + 1) s (by omega) (by omega) h e (by omega)
    | false =>
      rw [rd_at hlt hw hf] at e
      cases h1 : wordR (t.extract f i) f s with
      | bad a b => rw [h1] at e; cases e
      | ok s1 =>
        rw [h1] at e
        change ((rdMark (t[i].toNat : Int) i s1).andThen fun s2 => rd t (i + 1) (i + 1) s2) = _ at e
        cases h2 : rdMark (t[i].toNat : Int) i s1 with
        | bad a b => rw [h2] at e; cases e
        | ok s2 =>
          rw [h2] at e
          exact ih (i + 1) (i + 1) s2 (Nat.le_refl _) (by omega) ((h.wordR h1).mark h2) e (by omega)
/-- Both sides read alike. -/
theorem readR_of {xs : List Nd} (t : ByteArray) (hp : poolB xs = true) : readR xs t = (match readE xs t with
    | .bad h p => (xs, [], h, p)
    | .ok s => (s.ns, s.vs, 0, (t.size : Int))) := by
  have hn : nodesB xs 0 = true := by simp only [poolB, Bool.and_eq_true] at hp; exact hp.2
  unfold readR readE
  rw [if_pos hp]
  by_cases h4 : t.size ≤ 400
  · rw [if_pos h4, if_pos h4]
    cases hr : rd t 0 0 ⟨xs, [], 0, []⟩ with
    | bad h p => rfl
    | ok s =>
      have hg := rd_good 0 0 _ s (Nat.le_refl _) (Nat.zero_le _) ⟨hn, fun z hz => by simp at hz, fun p hp => by simp at hp⟩ hr
      show (if s.lo = [] then _ else _) = (match (if s.lo = [] then _ else _ : RdR) with | .bad h p => _ | .ok s => _)
      by_cases hlo : s.lo = []
      · rw [if_pos hlo, if_pos hlo]
        by_cases h3 : s.ns.length ≤ 3000
        · rw [if_pos h3, if_pos (by unfold poolB; rw [hg.ns]; simpa using h3)]
        · rw [if_neg h3, if_neg (by unfold poolB; rw [hg.ns]; simpa using h3)]
      · rw [if_neg hlo, if_neg hlo]
  · rw [if_neg h4, if_neg h4]
end Go.Proofs.YtdakifahedelcaaDoor

/-
  The laws FnExactPoolOk and FnExactNameOk, walked: at every argument the law returns true.
-/
namespace Go.Proofs.YtdakifahedelcaaDoor
open Go.RowKit

theorem NRow.small {w : World} {v : Value} {xs : List Nd} (R : NRow w v xs) : ∃ ao cap, v = .slice ao xs.length cap := by
  obtain ⟨ao, cap, rfl, _⟩ := R
  exact ⟨ao, cap, rfl⟩

end Go.Proofs.YtdakifahedelcaaDoor
