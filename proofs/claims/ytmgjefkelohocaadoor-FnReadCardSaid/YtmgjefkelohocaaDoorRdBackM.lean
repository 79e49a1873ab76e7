/-
  What is read is written, and read again as the same: plain mathematics. Nothing of the program; no condition.
-/
import Derived.Test.YtmgjefkelohocaaDoorDWriteM
import Derived.Test.YtmgjefkelohocaaDoorWScanM
namespace Go.Proofs.YtmgjefkelohocaaDoor
open Go.RowKit

/-- What can be read: words, and lists of such. (true: it is a list.) -/
inductive Rdb (xs : List Nd) : Bool → Nat → Prop
  | word {v : Nat} {t : ByteArray} : xs[v]? = some (wordNd t) → wordOk t = true → Rdb xs false v
  | nil {v : Nat} {b : Bool} : xs[v]? = some nilN → Rdb xs b v
  | pair {v : Nat} {b : Bool} {a c : Nat} : xs[v]? = some (pairN a c) → Rdb xs false a → Rdb xs true c → Rdb xs b v
def Ext (xs ys : List Nd) : Prop := ∀ (i : Nat) (x : Nd), xs[i]? = some x → ys[i]? = some x
theorem Ext.append (xs ys : List Nd) : Ext xs (xs ++ ys) := fun i x h => by
  rw [List.getElem?_append_left (List.getElem?_eq_some_iff.1 h).1]
  exact h
theorem Ext.trans {xs ys zs : List Nd} (h : Ext xs ys) (k : Ext ys zs) : Ext xs zs := fun i x e => k i x (h i x e)
theorem Rdb.mono {xs ys : List Nd} (hm : Ext xs ys) {b : Bool} {v : Nat} (h : Rdb xs b v) : Rdb ys b v := by
  induction h with
  | word h ht => exact .word (hm _ _ h) ht
  | nil h => exact .nil (hm _ _ h)
  | pair h _ _ ha hc => exact .pair (hm _ _ h) ha hc
theorem Rdb.any {xs : List Nd} {b : Bool} {v : Nat} (h : Rdb xs true v) : Rdb xs b v := by
  cases h with
  | nil h => exact .nil h
  | pair h ha hc => exact .pair h ha hc
theorem more_cons (z : Int) (r : List Int) (n : Nat) : more (z :: r) n 0 = more r n 0 ++ [pairN z (n + r.length)] := by
  unfold more
  rw [List.drop_zero, List.drop_zero, List.reverse_cons, pairsR_snoc]
  simp
/-- All values are such. -/
def AllR (xs : List Nd) (zs : List Int) : Prop := ∀ z ∈ zs, ∃ n : Nat, z = n ∧ Rdb xs false n
theorem AllR.mono {xs ys : List Nd} {zs : List Int} (h : AllR xs zs) (hm : Ext xs ys) : AllR ys zs := fun z hz => by
  obtain ⟨n, e, hr⟩ := h z hz
  exact ⟨n, e, hr.mono hm⟩
theorem more_at (xs : List Nd) (zs : List Int) (ys : List Nd) (y : Nd) (h : ys = more zs xs.length 0) : (xs ++ ys ++ [y])[xs.length + zs.length + 1]? = some y := by
  subst h
  have hl := more_length zs xs.length 0
  rw [List.getElem?_append_right (by rw [List.length_append, hl]; omega), List.length_append, hl]
  rw [show xs.length + zs.length + 1 - (xs.length + (zs.length - 0 + 1)) = 0 by omega]
  rfl
theorem more_rdb (xs : List Nd) (zs : List Int) (h : AllR xs zs) : Rdb (xs ++ more zs xs.length 0) true (xs.length + zs.length) := by
  induction zs with
  | nil => exact .nil (by rw [List.getElem?_append_right (by simp)]; simp [more])
  | cons z r ih =>
    have hr := ih (fun y hy => h y (by simp [hy]))
    obtain ⟨n, rfl, hn⟩ := h z (by simp)
    rw [more_cons, ← List.append_assoc]
    refine .pair (a := n) (c := xs.length + r.length) ?_ ((hn.mono (Ext.append _ _)).mono (Ext.append _ _)) (hr.mono (Ext.append _ _))
    exact more_at xs r _ _ rfl
structure RG (s : RS) : Prop where
  vs : AllR s.ns s.vs
  lo : ∀ p ∈ s.lo, AllR s.ns p.2
theorem RG.put {s : RS} (h : RG s) (ys : List Nd) (hy : Rdb (s.ns ++ ys) false (s.ns.length + ys.length - 1)) : RG (s.put ys) := by
  refine ⟨fun z hz => ?_, fun p hp => (h.lo p hp).mono (Ext.append _ _)⟩
  rcases List.mem_append.1 hz with hz | hz
  · exact (h.vs.mono (Ext.append _ _)) z hz
  · rw [List.mem_singleton] at hz
    exact ⟨_, hz, hy⟩
theorem RG.wordR {s s1 : RS} {t : ByteArray} {a : Int} (h : RG s) (e : wordR t a s = .ok s1) : RG s1 := by
  unfold Go.Proofs.YtmgjefkelohocaaDoor.wordR at e
  split at e
  · cases e; exact h
  split at e
  · rename_i hok
    cases e
    refine h.put [wordNd t] (.word (t := t) ?_ hok)
    rw [List.getElem?_append_right (by simp)]
    simp
  · cases e
theorem RG.mark {s s2 : RS} {b : Int} {i : Nat} (h : RG s) (e : rdMark b i s = .ok s2) : RG s2 := by
  unfold rdMark at e
  split at e
  · cases e; exact h
  split at e
  · cases e
    refine ⟨fun z hz => by simp at hz, fun p hp => ?_⟩
    rcases List.mem_append.1 hp with hp | hp
    · exact h.lo p hp
    · rw [List.mem_singleton] at hp
      subst hp
      exact h.vs
  split at e
  · unfold rdClose at e
    split at e
    · cases e
    · rename_i q hq
      cases e
      have hm := List.mem_of_getLast? hq
      have h0 : RG ⟨s.ns, s.lo.dropLast, q.1, q.2⟩ := ⟨h.lo q hm, fun p hp => h.lo p (List.dropLast_subset _ hp)⟩
      refine h0.put _ ?_
      have := more_rdb s.ns s.vs h.vs
      rw [more_length]
      rw [show (⟨s.ns, s.lo.dropLast, q.1, q.2⟩ : RS).ns.length + (s.vs.length - 0 + 1) - 1 = s.ns.length + s.vs.length by simp]
      exact this.any
  · cases e
/-- Where a mistake may be. -/
structure PG (m : Nat) (s : RS) : Prop where
  a : 0 ≤ s.a ∧ s.a ≤ m
  lo : ∀ p ∈ s.lo, 0 ≤ p.1 ∧ p.1 ≤ m
def PgR (m : Nat) : RdR → Prop
  | .bad h p => h ≠ 0 ∧ 0 ≤ p ∧ p ≤ m
  | .ok s => PG m s
theorem PG.wordR {m : Nat} {s : RS} {t : ByteArray} {a : Int} (h : PG m s) (ha : 0 ≤ a ∧ a ≤ m) : PgR m (wordR t a s) := by
  unfold Go.Proofs.YtmgjefkelohocaaDoor.wordR
  split
  · exact h
  split
  · exact (show PG m _ from ⟨h.a, h.lo⟩)
  · exact ⟨by decide, ha⟩
theorem PG.mark {m : Nat} {s : RS} {b : Int} {i : Nat} (h : PG m s) (hi : i ≤ m) : PgR m (rdMark b i s) := by
  unfold rdMark
  split
  · exact h
  split
  · refine (show PG m _ from ⟨⟨by simp, by simpa using hi⟩, fun p hp => ?_⟩)
    rcases List.mem_append.1 hp with hp | hp
    · exact h.lo p hp
    · rw [List.mem_singleton] at hp
      subst hp
      exact h.a
  split
  · unfold rdClose
    cases hq : s.lo.getLast? with
    | none => exact ⟨by decide, by simp, by simpa using hi⟩
    | some q =>
      have hm := List.mem_of_getLast? hq
      exact (show PG m _ from ⟨h.lo q hm, fun p hp => h.lo p (List.dropLast_subset _ hp)⟩)
  · exact ⟨by decide, by simp, by simpa using hi⟩
theorem rd_all {t : ByteArray} (f i : Nat) (s : RS) (hf : f ≤ i) (hi : i ≤ t.size) (h : RG s) (k : PG t.size s) : (match rd t f i s with | .bad h p => h ≠ 0 ∧ 0 ≤ p ∧ p ≤ t.size | .ok s1 => RG s1 ∧ PG t.size s1) := by
  induction hk : t.size - i generalizing f i s with
  | zero =>
    have hie : i = t.size := by omega
    subst hie
    rw [rd_stop hf]
    have k1 := k.wordR (t := t.extract f t.size) (a := f) (by omega)
    cases h1 : wordR (t.extract f t.size) f s with
    | bad a b => rw [h1] at k1; exact k1
    | ok s1 => rw [h1] at k1; exact ⟨h.wordR h1, k1⟩
  | succ n ih =>
    have hlt : i < t.size := by omega
    cases hw : wb (t[i].toNat : Int) with
    | true =>
      rw [rd_in hlt hw]
      exact ih f (i + 1) s (by omega) (by omega) h k (by omega)
    | false =>
      rw [rd_at hlt hw hf]
      have k1 := k.wordR (t := t.extract f i) (a := f) (by omega)
      cases h1 : wordR (t.extract f i) f s with
      | bad a b => rw [h1] at k1; exact k1
      | ok s1 =>
        rw [h1] at k1
        have k2 := PG.mark (b := (t[i].toNat : Int)) k1 (show i ≤ t.size by omega)
        show (match ((rdMark (t[i].toNat : Int) i s1).andThen fun s2 => rd t (i + 1) (i + 1) s2) with | .bad _ p => _ | .ok s1 => _)
        cases h2 : rdMark (t[i].toNat : Int) i s1 with
        | bad a b => rw [h2] at k2; exact k2
        | ok s2 =>
          rw [h2] at k2
          exact ih (i + 1) (i + 1) s2 (Nat.le_refl _) (by omega) ((h.wordR h1).mark h2) k2 (by omega)

/-- Two nodes that are alike. -/
inductive Alk (zs : List Nd) : Nat → Nat → Prop
  | same {a b : Nat} {x : Nd} : zs[a]? = some x → zs[b]? = some x → hasA x.k = false → hasB x.k = false → Alk zs a b
  | pair {a b a1 b1 a2 b2 : Nat} : zs[a]? = some (pairN a1 a2) → zs[b]? = some (pairN b1 b2) → Alk zs a1 b1 → Alk zs a2 b2 → Alk zs a b
theorem Alk.mono {xs ys : List Nd} (hm : Ext xs ys) {a b : Nat} (h : Alk xs a b) : Alk ys a b := by
  induction h with
  | same h1 h2 h3 h4 => exact .same (hm _ _ h1) (hm _ _ h2) h3 h4
  | pair h1 h2 _ _ i1 i2 => exact .pair (hm _ _ h1) (hm _ _ h2) i1 i2
theorem fst_of_key (xs : List Nd) (a b : Nat) (x y : Nd) (hx : xs[a]? = some x) (hy : xs[b]? = some y) (h : nrm (firstsTo xs a) x = nrm (firstsTo xs b) y) : fst xs a = fst xs b := by
  have main : ∀ (a b : Nat) (x y : Nd), xs[a]? = some x → xs[b]? = some y → nrm (firstsTo xs a) x = nrm (firstsTo xs b) y → a ≤ b → fst xs a = fst xs b := by
    intro a b x y hx hy h hab
    have hbl := (List.getElem?_eq_some_iff.1 hy).1
    have hal := (List.getElem?_eq_some_iff.1 hx).1
    have hks := keysTo_succ xs a x hx
    rw [firsts_at xs a x hx, firsts_at xs b y hy, ← h]
    congr 1
    generalize nrm (firstsTo xs a) x = K at h hks ⊢
    by_cases e : a = b
    · rw [e]
    have h1 : K ∈ keysTo xs (a + 1) ∧ idx (keysTo xs (a + 1)) K = idx (keysTo xs a) K := by
      rw [hks]
      by_cases hm : K ∈ keysTo xs a
      · exact ⟨List.mem_append_left _ hm, idx_append _ _ _ hm⟩
      · exact ⟨by simp, (idx_snoc _ _ hm).trans (idx_none _ _ hm).symm⟩
    have step : ∀ d, a + 1 + d ≤ b → K ∈ keysTo xs (a + 1 + d) ∧ idx (keysTo xs (a + 1 + d)) K = idx (keysTo xs a) K := by
      intro d
      induction d with
      | zero => intro _; exact h1
      | succ d ih =>
        intro hd
        obtain ⟨m, e⟩ := ih (by omega)
        have hx' : xs[a + 1 + d]? = some xs[a + 1 + d] := List.getElem?_eq_getElem (by omega)
        rw [show a + 1 + (d + 1) = a + 1 + d + 1 by omega, keysTo_succ xs _ _ hx']
        exact ⟨List.mem_append_left _ m, by rw [idx_append _ _ _ m, e]⟩
    have := (step (b - (a + 1)) (by omega)).2
    rw [show a + 1 + (b - (a + 1)) = b by omega] at this
    exact this.symm
  rcases Nat.le_total a b with hab | hab
  · exact main a b x y hx hy h hab
  · exact (main b a y x hy hx h.symm hab).symm
theorem alk_fst {zs : List Nd} (hp : poolB zs = true) {a b : Nat} (h : Alk zs a b) : fst zs a = fst zs b := by
  induction h with
  | same h1 h2 h3 h4 =>
    refine fst_of_key _ _ _ _ _ h1 h2 ?_
    simp [nrm, h3, h4]
  | pair h1 h2 _ _ i1 i2 =>
    rename_i a b a1 b1 a2 b2 _ _
    have la := (List.getElem?_eq_some_iff.1 h1).1
    have lb := (List.getElem?_eq_some_iff.1 h2).1
    obtain ⟨p, q, e1, e2, l1, l2⟩ := pool_pair hp h1 rfl
    obtain ⟨p', q', e1', e2', l1', l2'⟩ := pool_pair hp h2 rfl
    simp only [pairN, Int.natCast_inj] at e1 e2 e1' e2'
    subst e1 e2 e1' e2'
    refine fst_of_key _ _ _ _ _ h1 h2 ?_
    simp only [nrm, pairN, hasA, hasB, Nd.mk.injEq, true_and, Int.toNat_natCast]
    simp only [true_or, decide_true, if_true]
    exact ⟨by rw [part_first zs a a1 (by omega) l1, part_first zs b b1 (by omega) l1', i1], by rw [part_first zs a a2 (by omega) l2, part_first zs b b2 (by omega) l2', i2]⟩
/-- A list, and values that are alike to its. -/
inductive LAlk (zs : List Nd) : Nat → List Int → Prop
  | nil {v : Nat} : zs[v]? = some nilN → LAlk zs v []
  | cons {v a c n : Nat} {vs : List Int} : zs[v]? = some (pairN a c) → Alk zs a n → LAlk zs c vs → LAlk zs v ((n : Int) :: vs)
theorem LAlk.mono {xs ys : List Nd} (hm : Ext xs ys) {a : Nat} {vs : List Int} (h : LAlk xs a vs) : LAlk ys a vs := by
  induction h with
  | nil h => exact .nil (hm _ _ h)
  | cons h1 h2 _ i => exact .cons (hm _ _ h1) (h2.mono hm) i
theorem LAlk.made {zs : List Nd} {v : Nat} {vs : List Int} (h : LAlk zs v vs) : Alk (zs ++ more vs zs.length 0) v (zs.length + vs.length) := by
  induction h with
  | nil h => exact .same (x := nilN) (Ext.append _ _ _ _ h) (by rw [List.getElem?_append_right (by simp)]; simp [more]) rfl rfl
  | cons h1 h2 _ i =>
    rename_i v a c n vs _
    rw [more_cons, ← List.append_assoc]
    exact .pair (Ext.append _ _ _ _ (Ext.append _ _ _ _ h1)) (more_at zs vs _ _ rfl) ((h2.mono (Ext.append _ _)).mono (Ext.append _ _)) (i.mono (Ext.append _ _))
end Go.Proofs.YtmgjefkelohocaaDoor
