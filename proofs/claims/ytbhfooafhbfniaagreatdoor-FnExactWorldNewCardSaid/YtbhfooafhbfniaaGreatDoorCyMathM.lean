/-
  Texts that stood by themselves, laid into one.
-/
import Derived.Test.YtbhfooafhbfniaaGreatDoorShapeM
import Derived.Test.YtbhfooafhbfniaaGreatDoorBsM
import Derived.Maps.OwnSet
import Derived.DeepKeys4
/-
  What is reached: plain mathematics. From behind: what hangs on a node stands behind it. No condition.
-/
namespace Go.Proofs.YtbhfooafhbfniaaGreatDoor
open Go.RowKit
def setB (bs : List Bool) (i : Int) : List Bool := bs.set i.toNat true
def rootsB (n : Nat) (rs : List Int) : List Bool := rs.foldl setB (List.replicate n false)
def hungStep (x : Nd) (b : Bool) (bs : List Bool) : List Bool :=
  if b && hasB x.k then setB (if b && hasA x.k then setB bs x.a else bs) x.b else (if b && hasA x.k then setB bs x.a else bs)
def down (xs : List Nd) : Nat → List Bool → List Bool
  | 0, bs => bs
  | k + 1, bs => down xs k (hungStep (xs.getD k ⟨0, 0, ByteArray.empty, 0, 0⟩) (bs.getD k false) bs)
def reachL (xs : List Nd) (rs : List Int) : List Bool := down xs xs.length (rootsB xs.length rs)
theorem setB_length (bs : List Bool) (i : Int) : (setB bs i).length = bs.length := by simp [setB]
theorem foldB_length (rs : List Int) (bs : List Bool) : (rs.foldl setB bs).length = bs.length := by
  induction rs generalizing bs with
  | nil => rfl
  | cons r rs ih => rw [List.foldl_cons, ih, setB_length]
theorem rootsB_length (n : Nat) (rs : List Int) : (rootsB n rs).length = n := by unfold rootsB; rw [foldB_length]; simp
theorem hungStep_length (x : Nd) (b : Bool) (bs : List Bool) : (hungStep x b bs).length = bs.length := by
  unfold hungStep
  split <;> (split <;> simp [setB_length])
theorem down_length (xs : List Nd) (k : Nat) (bs : List Bool) : (down xs k bs).length = bs.length := by
  induction k generalizing bs with
  | zero => rfl
  | succ k ih => simp only [down]; rw [ih, hungStep_length]
theorem reachL_length (xs : List Nd) (rs : List Int) : (reachL xs rs).length = xs.length := by unfold reachL; rw [down_length, rootsB_length]
theorem fold_drop (rs : List Int) (bs : List Bool) (k : Nat) (h : k < rs.length) : (rs.drop k).foldl setB bs = (rs.drop (k + 1)).foldl setB (setB bs (rs.getD k 0)) := by
  rw [List.drop_eq_getElem_cons h, List.foldl_cons, List.getD_eq_getElem?_getD, List.getElem?_eq_getElem h]
  rfl
theorem down_at (xs : List Nd) (bs : List Bool) (k : Nat) (x : Nd) (h : xs[k]? = some x) : down xs (k + 1) bs = down xs k (hungStep x (bs.getD k false) bs) := by
  simp only [down, List.getD_eq_getElem?_getD, h, Option.getD_some]
end Go.Proofs.YtbhfooafhbfniaaGreatDoor
/-
  A node as a key of a map. Nothing of the program; no condition.
-/
namespace Go.Proofs.YtbhfooafhbfniaaGreatDoor
open Go.RowKit Go.Maps
theorem laidOut_true3 : laidOutB Tryz.prog = true := by kernel_rfl
theorem Tryz.keyed : Keyed Tryz.prog 130 := Keyed.of_law (deep_law_laid laidOut_true3 (m := 8) (by decide) (of_decide_eq_true (by kernel_rfl)) (by kernel_rfl) (by kernel_rfl))
end Go.Proofs.YtbhfooafhbfniaaGreatDoor
/-
  For each node the first one that is alike: plain mathematics, and what a map from nodes to these numbers holds. Nothing of the program; no condition.
-/
namespace Go.Proofs.YtbhfooafhbfniaaGreatDoor
open Go.RowKit Go.Maps
def nrm (fs : List Int) (x : Nd) : Nd := ⟨x.k, x.n, x.s, if hasA x.k then fs.getD x.a.toNat 0 else x.a, if hasB x.k then fs.getD x.b.toNat 0 else x.b⟩
open Classical in
noncomputable def idx : List Nd → Nd → Nat
  | [], _ => 0
  | k :: ks, y => if k = y then 0 else idx ks y + 1
noncomputable def cls : List Nd → List Nd → List Int → List Nd × List Int
  | [], ks, fs => (ks, fs)
  | x :: xs, ks, fs => cls xs (ks ++ [nrm fs x]) (fs ++ [((idx ks (nrm fs x) : Nat) : Int)])
noncomputable def keysTo (xs : List Nd) (k : Nat) : List Nd := (cls (xs.take k) [] []).1
noncomputable def firstsTo (xs : List Nd) (k : Nat) : List Int := (cls (xs.take k) [] []).2
theorem idx_append (ks : List Nd) (z y : Nd) (h : y ∈ ks) : idx (ks ++ [z]) y = idx ks y := by
  induction ks with
  | nil => simp at h
  | cons k ks ih =>
    simp only [List.cons_append, idx]
    split
    · rfl
    · rename_i hne
      rw [ih (by simp only [List.mem_cons] at h; rcases h with rfl | h; exact absurd rfl hne; exact h)]
theorem idx_snoc (ks : List Nd) (y : Nd) (h : y ∉ ks) : idx (ks ++ [y]) y = ks.length := by
  induction ks with
  | nil => simp [idx]
  | cons k ks ih =>
    simp only [List.mem_cons, not_or] at h
    have hne : ¬ k = y := fun e => h.1 e.symm
    simp only [List.cons_append, idx, if_neg hne, ih h.2, List.length_cons]
def nkey (y : Nd) : Value := .agg #[.int .i64 y.k, .int .i64 y.n, .string y.s, .int .i64 y.a, .int .i64 y.b]
theorem nkey_inj {x y : Nd} (h : nkey x = nkey y) : x = y := by
  obtain ⟨k, n, s, a, b⟩ := x
  obtain ⟨k', n', s', a', b'⟩ := y
  simp [nkey] at h
  obtain ⟨rfl, rfl, rfl, rfl, rfl⟩ := h
  rfl
def Holds {H : Type} (D : DataW H) (ks : List Nd) : Prop :=
  ∀ y kl, keyOf Tryz.prog 130 (nkey y) = some kl → (y ∈ ks → Maps.has D kl = true ∧ D.atKey kl (.lit (.int .i64 0)) = .lit (.int .i64 (idx ks y))) ∧ (y ∉ ks → Maps.has D kl = false)
theorem Holds.start {H : Type} : Holds (H := H) (.map []) [] := fun _ _ _ => ⟨fun h => by simp at h, fun _ => rfl⟩
theorem Holds.again {H : Type} {D : DataW H} {ks : List Nd} (h : Holds D ks) (z : Nd) (hz : z ∈ ks) : Holds D (ks ++ [z]) := by
  intro y kl hy
  obtain ⟨h1, h2⟩ := h y kl hy
  refine ⟨fun hm => ?_, fun hm => h2 (fun e => hm (by simp [e]))⟩
  have hm' : y ∈ ks := by
    simp only [List.mem_append, List.mem_singleton] at hm
    rcases hm with hm | rfl
    · exact hm
    · exact hz
  rw [idx_append ks z y hm']
  exact h1 hm'
theorem Holds.put {H : Type} {D : DataW H} {ks : List Nd} (h : Holds D ks) (hD : IsMap D) (z : Nd) (hz : z ∉ ks) (kl : Lit) (hk : keyOf Tryz.prog 130 (nkey z) = some kl) :
    Holds (D.put kl (.lit (.int .i64 ks.length))) (ks ++ [z]) := by
  intro y kl' hy
  by_cases e : y = z
  · subst e
    rw [hk] at hy
    cases hy
    refine ⟨fun _ => ⟨has_put_same hD (Tryz.keyed.key hk) _, ?_⟩, fun hm => absurd (by simp) hm⟩
    rw [atKey_put_same hD (Tryz.keyed.key hk), idx_snoc ks y hz]
  · have hne : kl' ≠ kl := by
      intro e'
      subst e'
      exact e (nkey_inj (Tryz.keyed.inj hy hk))
    obtain ⟨h1, h2⟩ := h y kl' hy
    refine ⟨fun hm => ?_, fun hm => ?_⟩
    · have hm' : y ∈ ks := by
        simp only [List.mem_append, List.mem_singleton] at hm
        rcases hm with hm | hm
        · exact hm
        · exact absurd hm e
      rw [has_put_other hne, atKey_put_other hne, idx_append ks z y hm']
      exact h1 hm'
    · rw [has_put_other hne]
      exact h2 (fun e' => hm (by simp [e']))
end Go.Proofs.YtbhfooafhbfniaaGreatDoor
/-
  What is moved: plain mathematics. The nodes that are told, in their order, behind a others, with their parts where these are then. No condition.
-/
namespace Go.Proofs.YtbhfooafhbfniaaGreatDoor
open Go.RowKit
def its : List Nd → List Bool → Nat → List (Nat × Nd)
  | [], _, _ => []
  | x :: r, bs, k => if bs.getD k false then (k, x) :: its r bs (k + 1) else its r bs (k + 1)
def mvS (a : Nat) (s : List Nd × List Int) (p : Nat × Nd) : List Nd × List Int := (s.1 ++ [nrm s.2 p.2], s.2.set p.1 ((a + s.1.length : Nat) : Int))
def mvF (a n : Nat) (l : List (Nat × Nd)) : List Nd × List Int := l.foldl (mvS a) ([], List.replicate n 0)
def mvAll (a : Nat) (xs : List Nd) (bs : List Bool) : List Nd × List Int := mvF a xs.length (its xs bs 0)
def mvN (a : Nat) (xs : List Nd) (rs : List Int) : List Nd := (mvAll a xs (reachL xs rs)).1
def mvR (a : Nat) (xs : List Nd) (rs qs : List Int) : List Int := qs.map (fun r => (mvAll a xs (reachL xs rs)).2.getD r.toNat 0)
theorem mvF_snoc (a n : Nat) (l : List (Nat × Nd)) (p : Nat × Nd) : mvF a n (l ++ [p]) = mvS a (mvF a n l) p := by simp [mvF]
theorem fold_len (a : Nat) (l : List (Nat × Nd)) (s : List Nd × List Int) : (l.foldl (mvS a) s).1.length = s.1.length + l.length ∧ (l.foldl (mvS a) s).2.length = s.2.length := by
  induction l generalizing s with
  | nil => simp
  | cons p l ih =>
    rw [List.foldl_cons]
    obtain ⟨h1, h2⟩ := ih (mvS a s p)
    rw [h1, h2]
    simp [mvS]
    omega
theorem mvF_len (a n : Nat) (l : List (Nat × Nd)) : (mvF a n l).1.length = l.length ∧ (mvF a n l).2.length = n := by
  obtain ⟨h1, h2⟩ := fold_len a l ([], List.replicate n 0)
  exact ⟨by unfold mvF; rw [h1]; simp, by unfold mvF; rw [h2]; simp⟩
theorem its_at (xs : List Nd) (bs : List Bool) (k : Nat) (x : Nd) (h : xs[k]? = some x) : its (xs.drop k) bs k = if bs.getD k false then (k, x) :: its (xs.drop (k + 1)) bs (k + 1) else its (xs.drop (k + 1)) bs (k + 1) := by
  obtain ⟨hl, he⟩ := List.getElem?_eq_some_iff.1 h
  rw [List.drop_eq_getElem_cons hl, its, he]
theorem its_end (xs : List Nd) (bs : List Bool) : its (xs.drop xs.length) bs xs.length = [] := by rw [List.drop_length]; rfl
theorem its_len (xs : List Nd) (bs : List Bool) (k : Nat) : (its xs bs k).length ≤ xs.length := by
  induction xs generalizing k with
  | nil => simp [its]
  | cons x xs ih =>
    have := ih (k + 1)
    simp only [its]
    split <;> simp <;> omega
theorem mvN_len (a : Nat) (xs : List Nd) (rs : List Int) : (mvN a xs rs).length ≤ xs.length := by
  unfold mvN mvAll
  rw [(mvF_len _ _ _).1]
  exact its_len _ _ _
theorem nrm_set (l : List Int) (i : Nat) (z : Int) (x : Nd) (hA : hasA x.k = true → x.a.toNat ≠ i) (hB : hasB x.k = true → x.b.toNat ≠ i) : nrm (l.set i z) x = nrm l x := by
  unfold nrm
  simp only [Nd.mk.injEq, true_and]
  constructor
  · split
    · rename_i h; simp only [List.getD_eq_getElem?_getD]; rw [List.getElem?_set, if_neg (fun e => hA h e.symm)]
    · rfl
  · split
    · rename_i h; simp only [List.getD_eq_getElem?_getD]; rw [List.getElem?_set, if_neg (fun e => hB h e.symm)]
    · rfl
end Go.Proofs.YtbhfooafhbfniaaGreatDoor
/-
  What is reached: all roots are, and all that a reached node has. Condition: the pool is right.
-/
namespace Go.Proofs.YtbhfooafhbfniaaGreatDoor
open Go.RowKit
theorem getD_set_true (bs : List Bool) (i j : Nat) (h : bs.getD j false = true) : (bs.set i true).getD j false = true := by
  simp only [List.getD_eq_getElem?_getD] at h ⊢
  rw [List.getElem?_set]
  split
  · split
    · rfl
    · rename_i e hl; subst e; rw [List.getElem?_eq_none (by omega)] at h; exact h
  · exact h
theorem getD_set_same (bs : List Bool) (i : Nat) (h : i < bs.length) : (bs.set i true).getD i false = true := by
  simp only [List.getD_eq_getElem?_getD]
  rw [List.getElem?_set, if_pos rfl, if_pos h]
  rfl
theorem getD_set_other (bs : List Bool) (i j : Nat) (h : i ≠ j) : (bs.set i true).getD j false = bs.getD j false := by
  simp only [List.getD_eq_getElem?_getD]
  rw [List.getElem?_set, if_neg h]
theorem setB_mono (bs : List Bool) (i : Int) (j : Nat) (h : bs.getD j false = true) : (setB bs i).getD j false = true := getD_set_true bs _ j h
theorem step_mono (x : Nd) (b : Bool) (bs : List Bool) (j : Nat) (h : bs.getD j false = true) : (hungStep x b bs).getD j false = true := by
  unfold hungStep
  split
  · apply setB_mono
    split
    · exact setB_mono bs _ j h
    · exact h
  · split
    · exact setB_mono bs _ j h
    · exact h
theorem down_mono (xs : List Nd) (k : Nat) (bs : List Bool) (j : Nat) (h : bs.getD j false = true) : (down xs k bs).getD j false = true := by
  induction k generalizing bs with
  | zero => exact h
  | succ k ih => exact ih _ (step_mono _ _ bs j h)
theorem step_keep (x : Nd) (k : Nat) (b : Bool) (bs : List Bool) (j : Nat) (hn : nodeB x k = true) (hj : k ≤ j) : (hungStep x b bs).getD j false = bs.getD j false := by
  have ha : hasA x.k = true → x.a.toNat ≠ j := fun h => by have := nodeB_A hn h; omega
  have hb : hasB x.k = true → x.b.toNat ≠ j := fun h => by have := nodeB_B hn h; omega
  unfold hungStep setB
  split
  · rename_i h1
    rw [Bool.and_eq_true] at h1
    rw [getD_set_other _ _ _ (hb h1.2)]
    split
    · rename_i h2
      rw [Bool.and_eq_true] at h2
      rw [getD_set_other _ _ _ (ha h2.2)]
    · rfl
  · split
    · rename_i h2
      rw [Bool.and_eq_true] at h2
      rw [getD_set_other _ _ _ (ha h2.2)]
    · rfl
theorem down_keep (xs : List Nd) (k : Nat) (bs : List Bool) (j : Nat) (hk : k ≤ xs.length) (hp : ∀ (i : Nat) (x : Nd), xs[i]? = some x → nodeB x i = true) (hj : k ≤ j) : (down xs k bs).getD j false = bs.getD j false := by
  induction k generalizing bs with
  | zero => rfl
  | succ k ih =>
    have hx : xs[k]? = some xs[k] := List.getElem?_eq_getElem (by omega)
    rw [down_at xs bs k _ hx, ih _ (by omega) (by omega), step_keep _ k _ _ _ (hp k _ hx) (by omega)]
theorem down_parts (xs : List Nd) (k : Nat) (bs : List Bool) (hk : k ≤ xs.length) (hl : bs.length = xs.length) (hp : ∀ (i : Nat) (x : Nd), xs[i]? = some x → nodeB x i = true) (i : Nat) (hi : i < k) (x : Nd) (hx : xs[i]? = some x) (ht : (down xs k bs).getD i false = true) :
    (hasA x.k = true → (down xs k bs).getD x.a.toNat false = true) ∧ (hasB x.k = true → (down xs k bs).getD x.b.toNat false = true) := by
  induction k generalizing bs with
  | zero => omega
  | succ k ih =>
    have hxk : xs[k]? = some xs[k] := List.getElem?_eq_getElem (by omega)
    rw [down_at xs bs k _ hxk] at ht ⊢
    by_cases hik : i < k
    · exact ih _ (by omega) (by rw [hungStep_length]; exact hl) hik ht
    · have hie : i = k := by omega
      subst hie
      rw [hx] at hxk
      injection hxk with hxk
      rw [← hxk] at ht ⊢
      have hn := hp i x hx
      rw [down_keep xs i _ i (by omega) hp (Nat.le_refl _), step_keep x i _ _ i hn (Nat.le_refl _)] at ht
      rw [ht]
      constructor
      · intro hA
        have hr := nodeB_A hn hA
        apply down_mono
        unfold hungStep
        rw [hA]
        split
        · exact setB_mono _ _ _ (getD_set_same _ _ (by omega))
        · exact getD_set_same _ _ (by omega)
      · intro hB
        have hr := nodeB_B hn hB
        apply down_mono
        unfold hungStep
        rw [hB]
        simp only [Bool.and_self, if_true]
        refine getD_set_same _ _ ?_
        split <;> (try rw [setB_length]) <;> omega
theorem reach_parts (xs : List Nd) (rs : List Int) (hp : ∀ (i : Nat) (x : Nd), xs[i]? = some x → nodeB x i = true) (i : Nat) (x : Nd) (hx : xs[i]? = some x) (ht : (reachL xs rs).getD i false = true) :
    (hasA x.k = true → (reachL xs rs).getD x.a.toNat false = true) ∧ (hasB x.k = true → (reachL xs rs).getD x.b.toNat false = true) :=
  down_parts xs xs.length _ (Nat.le_refl _) (rootsB_length _ _) hp i (List.getElem?_eq_some_iff.1 hx).1 x hx ht
end Go.Proofs.YtbhfooafhbfniaaGreatDoor
/-
  What is copied: plain mathematics. What stands behind a value v it does not hang on. Condition: the pool is right.
-/
namespace Go.Proofs.YtbhfooafhbfniaaGreatDoor
open Go.RowKit
theorem its_append (l1 l2 : List Nd) (bs : List Bool) (k : Nat) : its (l1 ++ l2) bs k = its l1 bs k ++ its l2 bs (k + l1.length) := by
  induction l1 generalizing k with
  | nil => simp [its]
  | cons x l ih =>
    simp only [List.cons_append, its, List.length_cons]
    rw [ih, show k + 1 + l.length = k + (l.length + 1) by omega]
    split <;> simp
def Alm (s t : List Nd × List Int) : Prop := s.1 = t.1 ∧ ∀ j, s.2.getD j 0 = t.2.getD j 0
def cyOk (ps xs : List Nd) (v : Int) : Bool := poolB xs && hasI xs v && decide (ps.length + (mvN ps.length xs [v]).length ≤ 3000)
def cyL (ps xs : List Nd) (v : Int) : List Nd := if poolB ps then (if cyOk ps xs v then ps ++ mvN ps.length xs [v] else ps) else []
def cyI (ps xs : List Nd) (v : Int) : Int := if poolB ps then (if cyOk ps xs v then (mvAll ps.length xs (reachL xs [v])).2.getD v.toNat 0 else -1) else -1
end Go.Proofs.YtbhfooafhbfniaaGreatDoor
