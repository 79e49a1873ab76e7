/-
  Texts that stood by themselves, laid into one.
-/
import Derived.Test.YtaojlmoppbknbaaGreatDoorClsM
import Derived.Test.YtaojlmoppbknbaaGreatDoorMcTM
import Derived.Test.YtaojlmoppbknbaaGreatDoorSMakeM
/-
  What is moved: plain mathematics. The nodes that are told, in their order, behind a others, with their parts where these are then. No condition.
-/
namespace Go.Proofs.YtaojlmoppbknbaaGreatDoor
open Go.RowKit

/-- The nodes that bs tells, each with its place, from the place k on. -/
def its : List Nd → List Bool → Nat → List (Nat × Nd)
  | [], _, _ => []
  | x :: r, bs, k => if bs.getD k false then (k, x) :: its r bs (k + 1) else its r bs (k + 1)
/-- One more node: what there is then, and where each is. -/
def mvS (a : Nat) (s : List Nd × List Int) (p : Nat × Nd) : List Nd × List Int := (s.1 ++ [nrm s.2 p.2], s.2.set p.1 ((a + s.1.length : Nat) : Int))
def mvF (a n : Nat) (l : List (Nat × Nd)) : List Nd × List Int := l.foldl (mvS a) ([], List.replicate n 0)
/-- All nodes that bs tells. -/
def mvAll (a : Nat) (xs : List Nd) (bs : List Bool) : List Nd × List Int := mvF a xs.length (its xs bs 0)
def mvN (a : Nat) (xs : List Nd) (rs : List Int) : List Nd := (mvAll a xs (reachL xs rs)).1
def mvR (a : Nat) (xs : List Nd) (rs qs : List Int) : List Int := qs.map (fun r => (mvAll a xs (reachL xs rs)).2.getD r.toNat 0)
theorem mvF_snoc (a n : Nat) (l : List (Nat × Nd)) (p : Nat × Nd) : mvF a n (l ++ [p]) = mvS a (mvF a n l) p := by simp [mvF]
theorem fold_len (a : Nat) (l : List (Nat × Nd)) (s : List Nd × List Int) : (l.foldl (mvS a) s).1.length = s.1.length + l.length ∧ (l.foldl (mvS a) s).2.length = s.2.length := by
  induction l generalizing s with
  | nil => simp
  | cons p l ih =>
    rw [List.foldl_cons]
    obtain ⟨h1, h2⟩ := ih (mvS a s p)
    rw [h1, h2]
    simp [mvS]
    omega
theorem mvF_len (a n : Nat) (l : List (Nat × Nd)) : (mvF a n l).1.length = l.length ∧ (mvF a n l).2.length = n := by
  obtain ⟨h1, h2⟩ := fold_len a l ([], List.replicate n 0)
  exact ⟨by unfold mvF; rw [h1]; simp, by unfold mvF; rw [h2]; simp⟩
theorem its_at (xs : List Nd) (bs : List Bool) (k : Nat) (x : Nd) (h : xs[k]? = some x) : its (xs.drop k) bs k = if bs.getD k false then (k, x) :: its (xs.drop (k + 1)) bs (k + 1) else its (xs.drop (k + 1)) bs (k + 1) := by
  obtain ⟨hl, he⟩ := List.getElem?_eq_some_iff.1 h
  rw [List.drop_eq_getElem_cons hl, its, he]
theorem its_end (xs : List Nd) (bs : List Bool) : its (xs.drop xs.length) bs xs.length = [] := by rw [List.drop_length]; rfl
theorem its_len (xs : List Nd) (bs : List Bool) (k : Nat) : (its xs bs k).length ≤ xs.length := by
  induction xs generalizing k with
  | nil => simp [its]
  | cons x xs ih =>
    have := ih (k + 1)
    simp only [its]
    split <;> simp <;> omega
theorem mvN_len (a : Nat) (xs : List Nd) (rs : List Int) : (mvN a xs rs).length ≤ xs.length := by
  unfold mvN mvAll
  rw [(mvF_len _ _ _).1]
  exact its_len _ _ _
theorem nrm_set (l : List Int) (i : Nat) (z : Int) (x : Nd) (hA : hasA x.k = true → x.a.toNat ≠ i) (hB : hasB x.k = true → x.b.toNat ≠ i) : nrm (l.set i z) x = nrm l x := by
  unfold nrm
  simp only [Nd.mk.injEq, true_and]
  constructor
  · split
    · rename_i h; simp only [List.getD_eq_getElem?_getD]; rw [List.getElem?_set, if_neg (fun e => hA h e.symm)]
    · rfl
  · split
    · rename_i h; simp only [List.getD_eq_getElem?_getD]; rw [List.getElem?_set, if_neg (fun e => hB h e.symm)]
    · rfl
end Go.Proofs.YtaojlmoppbknbaaGreatDoor

/-
  What is copied: plain mathematics. What stands behind a value v it does not hang on. Condition: the pool is right.
-/
namespace Go.Proofs.YtaojlmoppbknbaaGreatDoor
open Go.RowKit

theorem nodesB_take (xs : List Nd) (i m : Nat) (h : nodesB xs i = true) : nodesB (xs.take m) i = true := by
  induction xs generalizing i m with
  | nil => simp [nodesB]
  | cons x xs ih =>
    cases m with
    | zero => simp [nodesB]
    | succ m =>
      simp only [nodesB, List.take_succ_cons, Bool.and_eq_true] at h ⊢
      exact ⟨h.1, ih (i + 1) m h.2⟩
theorem poolB_take {xs : List Nd} (h : poolB xs = true) (m : Nat) : poolB (xs.take m) = true := by
  simp only [poolB, Bool.and_eq_true, decide_eq_true_eq] at h ⊢
  exact ⟨by simp; omega, nodesB_take xs 0 m h.2⟩
theorem step_false (x : Nd) (bs : List Bool) : hungStep x false bs = bs := by simp [hungStep]
theorem down_above (xs : List Nd) (n m : Nat) (bs : List Bool) (hm : m ≤ n) (hf : ∀ j, m ≤ j → bs.getD j false = false) : down xs n bs = down xs m bs := by
  induction n with
  | zero => have : m = 0 := by omega
            subst this; rfl
  | succ n ih =>
    by_cases h : m = n + 1
    · subst h; rfl
    · simp only [down]
      rw [hf n (by omega), step_false]
      exact ih (by omega)
theorem getD_take {α : Type} (l : List α) (m i : Nat) (d : α) (h : i < m) : (l.take m).getD i d = l.getD i d := by
  simp only [List.getD_eq_getElem?_getD, List.getElem?_take, if_pos h]
theorem setB_take (bs : List Bool) (m : Nat) (i : Int) : setB (bs.take m) i = (setB bs i).take m := by unfold setB; rw [List.take_set]
theorem step_take (x : Nd) (b : Bool) (bs : List Bool) (m : Nat) : hungStep x b (bs.take m) = (hungStep x b bs).take m := by
  unfold hungStep
  split <;> (split <;> simp [setB_take])
theorem down_take (xs : List Nd) (m k : Nat) (bs : List Bool) (h : k ≤ m) : down (xs.take m) k (bs.take m) = (down xs k bs).take m := by
  induction k generalizing bs with
  | zero => rfl
  | succ k ih =>
    simp only [down]
    rw [getD_take _ _ _ _ (by omega), getD_take _ _ _ _ (by omega), step_take, ih _ (by omega)]
theorem roots_one (n v : Nat) : rootsB n [(v : Int)] = (List.replicate n false).set v true := by simp [rootsB, setB]
theorem roots_above (n v j : Nat) (h : v + 1 ≤ j) : (rootsB n [(v : Int)]).getD j false = false := by
  rw [roots_one]
  simp only [List.getD_eq_getElem?_getD]
  rw [List.getElem?_set_ne (by omega)]
  simp only [List.getElem?_replicate]
  split <;> rfl
theorem reach_take (xs : List Nd) (v : Nat) (h : v < xs.length) : reachL (xs.take (v + 1)) [(v : Int)] = (reachL xs [(v : Int)]).take (v + 1) := by
  have hl : (xs.take (v + 1)).length = v + 1 := by simp; omega
  unfold reachL
  rw [hl, down_above xs xs.length (v + 1) _ (by omega) (fun j hj => roots_above xs.length v j hj), ← down_take xs (v + 1) (v + 1) _ (Nat.le_refl _)]
  congr 1
  rw [roots_one, roots_one, List.take_set, List.take_replicate]
  congr 2
  omega
theorem reach_above (xs : List Nd) (v j : Nat) (h : v < xs.length) (hp : ∀ (i : Nat) (x : Nd), xs[i]? = some x → nodeB x i = true) (hj : v + 1 ≤ j) : (reachL xs [(v : Int)]).getD j false = false := by
  unfold reachL
  rw [down_above xs xs.length (v + 1) _ (by omega) (fun j hj => roots_above xs.length v j hj), down_keep xs (v + 1) _ j (by omega) hp hj, roots_above _ _ _ hj]
theorem its_append (l1 l2 : List Nd) (bs : List Bool) (k : Nat) : its (l1 ++ l2) bs k = its l1 bs k ++ its l2 bs (k + l1.length) := by
  induction l1 generalizing k with
  | nil => simp [its]
  | cons x l ih =>
    simp only [List.cons_append, its, List.length_cons]
    rw [ih, show k + 1 + l.length = k + (l.length + 1) by omega]
    split <;> simp
theorem its_none (l : List Nd) (bs : List Bool) (k : Nat) (h : ∀ j, k ≤ j → bs.getD j false = false) : its l bs k = [] := by
  induction l generalizing k with
  | nil => rfl
  | cons x l ih =>
    simp only [its]
    rw [h k (Nat.le_refl _)]
    exact ih (k + 1) (fun j hj => h j (by omega))
theorem its_congr (l : List Nd) (bs cs : List Bool) (k : Nat) (h : ∀ j, k ≤ j → j < k + l.length → bs.getD j false = cs.getD j false) : its l bs k = its l cs k := by
  induction l generalizing k with
  | nil => rfl
  | cons x l ih =>
    simp only [its]
    rw [h k (Nat.le_refl _) (by simp), ih (k + 1) (fun j h1 h2 => h j (by omega) (by simp; omega))]
theorem its_lt (l : List Nd) (bs : List Bool) (k : Nat) : ∀ p ∈ its l bs k, p.1 < k + l.length := by
  induction l generalizing k with
  | nil => simp [its]
  | cons x l ih =>
    intro p hp
    simp only [its] at hp
    simp only [List.length_cons]
    split at hp
    · rcases List.mem_cons.1 hp with rfl | hp
      · simp
      · have := ih (k + 1) p hp; omega
    · have := ih (k + 1) p hp; omega
theorem its_cut (xs : List Nd) (v : Nat) (h : v < xs.length) (hp : ∀ (i : Nat) (x : Nd), xs[i]? = some x → nodeB x i = true) : its xs (reachL xs [(v : Int)]) 0 = its (xs.take (v + 1)) (reachL (xs.take (v + 1)) [(v : Int)]) 0 := by
  have e : its xs (reachL xs [(v : Int)]) 0 = its (xs.take (v + 1) ++ xs.drop (v + 1)) (reachL xs [(v : Int)]) 0 := by rw [List.take_append_drop]
  rw [e, its_append, its_none (xs.drop (v + 1)) _ _ (fun j hj => reach_above xs v j h hp (by simp at hj; omega)), List.append_nil, reach_take xs v h]
  exact its_congr _ _ _ 0 (fun j _ hj => by rw [getD_take _ _ _ _ (by simp at hj; omega)])
/-- Two states alike but for how many places there are. -/
def Alm (s t : List Nd × List Int) : Prop := s.1 = t.1 ∧ ∀ j, s.2.getD j 0 = t.2.getD j 0
theorem alm_step (a : Nat) (s t : List Nd × List Int) (p : Nat × Nd) (h : Alm s t) (hs : p.1 < s.2.length) (ht : p.1 < t.2.length) : Alm (mvS a s p) (mvS a t p) := by
  obtain ⟨h1, h2⟩ := h
  refine ⟨?_, fun j => ?_⟩
  · simp only [mvS, h1]
    congr 2
    unfold nrm
    rw [h2, h2]
  · simp only [mvS, h1, List.getD_eq_getElem?_getD, List.getElem?_set]
    have := h2 j
    simp only [List.getD_eq_getElem?_getD] at this
    split
    · rename_i e; subst e; simp
    · exact this
theorem alm_fold (a : Nat) (l : List (Nat × Nd)) (s t : List Nd × List Int) (h : Alm s t) (hs : ∀ p ∈ l, p.1 < s.2.length) (ht : ∀ p ∈ l, p.1 < t.2.length) : Alm (l.foldl (mvS a) s) (l.foldl (mvS a) t) := by
  induction l generalizing s t with
  | nil => exact h
  | cons p l ih =>
    rw [List.foldl_cons, List.foldl_cons]
    refine ih _ _ (alm_step a s t p h (hs p List.mem_cons_self) (ht p List.mem_cons_self)) (fun q hq => ?_) (fun q hq => ?_)
    · simpa [mvS] using hs q (List.mem_cons_of_mem _ hq)
    · simpa [mvS] using ht q (List.mem_cons_of_mem _ hq)
theorem getD_rep (n j : Nat) : (List.replicate n (0 : Int)).getD j 0 = 0 := by
  simp only [List.getD_eq_getElem?_getD, List.getElem?_replicate]
  split <;> rfl
theorem mv_cut (a : Nat) (xs : List Nd) (v : Nat) (h : v < xs.length) (hp : ∀ (i : Nat) (x : Nd), xs[i]? = some x → nodeB x i = true) :
    mvN a (xs.take (v + 1)) [(v : Int)] = mvN a xs [(v : Int)] ∧ (mvAll a (xs.take (v + 1)) (reachL (xs.take (v + 1)) [(v : Int)])).2.getD v 0 = (mvAll a xs (reachL xs [(v : Int)])).2.getD v 0 := by
  have hl : (xs.take (v + 1)).length = v + 1 := by simp; omega
  have hlt := its_lt (xs.take (v + 1)) (reachL (xs.take (v + 1)) [(v : Int)]) 0
  rw [hl, Nat.zero_add] at hlt
  have := alm_fold a (its (xs.take (v + 1)) (reachL (xs.take (v + 1)) [(v : Int)]) 0) ([], List.replicate (v + 1) 0) ([], List.replicate xs.length 0) ⟨rfl, fun j => by rw [getD_rep, getD_rep]⟩ (fun p hp' => by simpa using hlt p hp') (fun p hp' => by have := hlt p hp'; simp; omega)
  unfold mvN mvAll mvF
  rw [hl, its_cut xs v h hp]
  exact ⟨this.1, this.2 v⟩
theorem its_some (xs : List Nd) (v : Nat) (h : v < xs.length) : its xs (reachL xs [(v : Int)]) 0 ≠ [] := by
  have hr := reach_root xs [(v : Int)] v (by simp) (by omega) (by omega)
  rw [Int.toNat_natCast] at hr
  intro e
  have e2 : its (xs.take v ++ xs.drop v) (reachL xs [(v : Int)]) 0 = [] := by rw [List.take_append_drop]; exact e
  rw [its_append, List.append_eq_nil_iff, List.length_take, show 0 + min v xs.length = v by omega, its_at xs _ v _ (List.getElem?_eq_getElem h), hr] at e2
  simp at e2

/-- What Copy leaves, and where the value is then. -/
def cyOk (ps xs : List Nd) (v : Int) : Bool := poolB xs && hasI xs v && decide (ps.length + (mvN ps.length xs [v]).length ≤ 3000)
def cyL (ps xs : List Nd) (v : Int) : List Nd := if poolB ps then (if cyOk ps xs v then ps ++ mvN ps.length xs [v] else ps) else []
def cyI (ps xs : List Nd) (v : Int) : Int := if poolB ps then (if cyOk ps xs v then (mvAll ps.length xs (reachL xs [v])).2.getD v.toNat 0 else -1) else -1
end Go.Proofs.YtaojlmoppbknbaaGreatDoor

/-
  Slices of bools: how one reads, and the contracts of the laws' own helpers eqBoolS, markBoolS, heldBoolS.
-/
namespace Go.Proofs.YtaojlmoppbknbaaGreatDoor
open Go.RowKit

/-- Bools as cells. -/
def vb (zs : List Bool) : List Value := zs.map .bool
theorem vb_length (zs : List Bool) : (vb zs).length = zs.length := by simp [vb]
theorem vb_get (zs : List Bool) (i : Nat) (h : i < zs.length) : (vb zs)[i]? = some (.bool (zs.getD i false)) := by simp [vb, List.getD, h]
theorem vb_set (zs : List Bool) (i : Nat) (z : Bool) : (vb zs).set i (.bool z) = vb (zs.set i z) := by simp [vb, List.map_set]

/-- The slice value v reads in w as the bools zs. -/
def BRow (w : World) (v : Value) (zs : List Bool) : Prop :=
  ∃ ao cap, v = .slice ao zs.length cap ∧ (zs.length ≤ cap ∧ (ao = none → cap = 0)) ∧ zs.length ≤ 9223372036854775807 ∧ (zs ≠ [] → ∃ g o, ao = some ⟨g, o, none⟩ ∧ g < w.heap.size ∧ ∀ i, i < zs.length → w.cell? ⟨g, o + i, none⟩ = some (.bool (zs.getD i false)))
theorem BRow.below {w w' : World} {v : Value} {zs : List Bool} (h : BRow w v zs) (hb : Below w.heap.size w w') : BRow w' v zs := by
  obtain ⟨ao, cap, rfl, hc, hm, hcell⟩ := h
  refine ⟨ao, cap, rfl, hc, hm, fun hne => ?_⟩
  obtain ⟨g, o, rfl, hg, hcell⟩ := hcell hne
  exact ⟨g, o, rfl, Nat.lt_of_lt_of_le hg hb.size, fun i hi => (hb.cell (p := ⟨g, o + i, none⟩) hg).trans (hcell i hi)⟩
theorem BRow.of_own {w : World} {base : Nat} {v : Value} {zs : List Bool} (h : w.ownsRow base 4 1 v zs.length (vb zs)) (hm : zs.length ≤ 9223372036854775807) : BRow w v zs := by
  rcases h.2 with ⟨rfl, h0⟩ | ⟨g, cap, cur, rfl, hb, hg, hnc, hcm, hcs, htake⟩
  · have : zs = [] := List.eq_nil_of_length_eq_zero h0
    subst this
    exact ⟨none, 0, rfl, by simp, by simp, fun h => absurd rfl h⟩
  · refine ⟨_, cap, rfl, ⟨hnc, fun h => by cases h⟩, hm, fun _ => ⟨g, 0, rfl, (Array.getElem?_eq_some_iff.1 hg).1, fun i hi => ?_⟩⟩
    have := h.cellAt i (by omega)
    rw [Nat.zero_add, this, vb_get zs i hi]

theorem own_none0 (W : World) (t : TypeId) (k B : Nat) (h : B ≤ W.heap.size) : (W.alloc (Obj.cells #[] t)).ownsRow B t k (.slice (some ⟨W.heap.size, 0, none⟩) 0 0) 0 [] :=
  own_mono (World.ownsRow_made W #[] 0 (Nat.le_refl _) (by simp) (by simp)) h

theorem bne_same (b : Bool) : (b != b) = false := by cases b <;> rfl

/-- What markBoolS writes at the number k. -/
def mk3 (k : Int) : Bool := k % 3 == 0
/-- What lies in a slice of bools behind markBoolS from k on, when i of them are written and zs stood there. -/
def bmarked (k : Int) (zs : List Bool) (i : Nat) : List Bool := (List.range i).map (fun (j : Nat) => mk3 (k + (j : Int))) ++ zs.drop i
theorem bmarked_zero (k : Int) (zs : List Bool) : bmarked k zs 0 = zs := by simp [bmarked]
theorem bmarked_length (k : Int) (zs : List Bool) (i : Nat) (h : i ≤ zs.length) : (bmarked k zs i).length = zs.length := by simp [bmarked]; omega
theorem bmarked_set (k : Int) (zs : List Bool) (i : Nat) (h : i < zs.length) : (bmarked k zs i).set i (mk3 (k + (i : Int))) = bmarked k zs (i + 1) := by
  unfold bmarked
  rw [List.range_succ, List.map_append, List.set_append_right _ _ (by simp), List.drop_eq_getElem_cons h, List.append_assoc]
  have e : i - (List.map (fun (j : Nat) => mk3 (k + (j : Int))) (List.range i)).length = 0 := by simp
  rw [e]
  rfl
theorem bmarked_get (k : Int) (zs : List Bool) (i : Nat) (h : i < zs.length) : (bmarked k zs zs.length).getD i false = mk3 (k + (i : Int)) := by
  simp [bmarked, List.getD, h]

end Go.Proofs.YtaojlmoppbknbaaGreatDoor

/-
  What MakeList makes, and the contracts of impl's hasAll and MakeList.
-/
namespace Go.Proofs.YtaojlmoppbknbaaGreatDoor
open Go.RowKit

def nilN : Nd := ⟨1, 0, ByteArray.empty, 0, 0⟩
def pairN (z : Int) (last : Nat) : Nd := ⟨5, 0, ByteArray.empty, z, last⟩
/-- The pairs of the values, the last one first, from the node 'last' on. -/
def pairsR : List Int → Nat → List Nd
  | [], _ => []
  | z :: r, last => pairN z last :: pairsR r (last + 1)
theorem pairsR_snoc (r : List Int) (z : Int) (last : Nat) : pairsR (r ++ [z]) last = pairsR r last ++ [pairN z (last + r.length)] := by
  induction r generalizing last with
  | nil => rfl
  | cons y r ih => simp only [List.cons_append, pairsR, ih, List.length_cons]; rw [show last + 1 + r.length = last + (r.length + 1) by omega]
theorem pairsR_length (r : List Int) (last : Nat) : (pairsR r last).length = r.length := by
  induction r generalizing last with
  | nil => rfl
  | cons y r ih => simp [pairsR, ih]
theorem pairsR_ok (r : List Int) (last : Nat) : ∀ x ∈ pairsR r last, x.s.size ≤ maxLen := by
  induction r generalizing last with
  | nil => simp [pairsR]
  | cons y r ih =>
    intro x hx
    simp only [pairsR, List.mem_cons] at hx
    rcases hx with rfl | hx
    · simp [pairN]
    · exact ih _ x hx
/-- The list so far, when the values from m on stand. -/
def more (zs : List Int) (n m : Nat) : List Nd := nilN :: pairsR (zs.drop m).reverse n
theorem more_length (zs : List Int) (n m : Nat) : (more zs n m).length = zs.length - m + 1 := by simp [more, pairsR_length]
theorem more_ok (zs : List Int) (n m : Nat) : ∀ x ∈ more zs n m, x.s.size ≤ maxLen := by
  intro x hx
  simp only [more, List.mem_cons] at hx
  rcases hx with rfl | hx
  · simp [nilN]
  · exact pairsR_ok _ _ x hx
theorem more_step (zs : List Int) (n m : Nat) (h : m < zs.length) : more zs n m = more zs n (m + 1) ++ [pairN zs[m] (n + (zs.length - (m + 1)))] := by
  unfold more
  rw [List.drop_eq_getElem_cons h, List.reverse_cons, pairsR_snoc]
  simp

def allI (xs : List Nd) (zs : List Int) : Bool := zs.all (hasI xs)
/-- What MakeList leaves, and the number that it tells. -/
def mlOk (xs : List Nd) (zs : List Int) : Bool := decide (xs.length + 1 + zs.length ≤ 3000) && allI xs zs
def mlL (xs : List Nd) (zs : List Int) : List Nd := if poolB xs = true then (if mlOk xs zs = true then xs ++ more zs xs.length 0 else xs) else []
def mlI (xs : List Nd) (zs : List Int) : Int := if poolB xs = true then (if mlOk xs zs = true then ((xs.length + zs.length : Nat) : Int) else -1) else -1

theorem all_drop (p : Int → Bool) (zs : List Int) (k : Nat) (h : k < zs.length) : (zs.drop k).all p = (p (zs.getD k 0) && (zs.drop (k + 1)).all p) := by
  rw [List.drop_eq_getElem_cons h, List.all_cons, List.getD_eq_getElem?_getD, List.getElem?_eq_getElem h]
  rfl

set_option maxHeartbeats 800000 in
theorem hasall_any (v vl : Value) (xs : List Nd) (zs : List Int) (w : World) (R : NRow w v xs) (L : IRow w vl zs) :
    Calls Tryz.prog 74 #[.agg #[v], vl] w fun e w' => e = .returned (.bool (allI xs zs)) ∧ Below w.heap.size w w' := by
  have R' := R
  obtain ⟨ao, cap, rfl, _⟩ := R'
  obtain ⟨al, cl, rfl, hcl, hlm, hcell⟩ := L
  go_enter Tryz.func74, Tryz.ntmps74
  go_wp2_with fail
  go_loopw [9] (fun i wr => ∃ k : Nat, k ≤ zs.length ∧ i = .int .i64 k ∧ Hid (allI xs zs = (zs.drop k).all (hasI xs)) ∧ wr.cell? ⟨w.heap.size, 0, none⟩ = some (.slice ao xs.length cap) ∧ w.heap.size < wr.heap.size ∧ Below w.heap.size w wr) (fun i _ => zs.length - (intOf i).toNat)
  case atStart => exact ⟨0, by omega, rfl, by simp [Hid, allI], by simp, by simp, (Below.refl _ _).alloc (Nat.le_refl _) _⟩
  case round =>
    obtain ⟨k, hk, rfl, HA, hbox, hbl, hb⟩ := hrel
    by_cases hlt : k < zs.length
    · obtain ⟨g, o, rfl, hg, hcell⟩ := hcell (by intro e; subst e; simp at hlt)
      have c0 := (hb.cell (p := ⟨g, o + k, none⟩) hg).trans (hcell k hlt)
      have HS : Hid (allI xs zs = (hasI xs (zs.getD k 0) && (zs.drop (k + 1)).all (hasI xs))) := by unfold Hid; rw [HA.out, all_drop _ _ _ hlt]
      clear hcell HA
      generalize zs.getD k 0 = z at c0 HS
      go_wp2_with fail
      refine (has_any _ xs _ _ (R.below hb)).mono ?_
      rintro e w2 ⟨rfl, hb2⟩
      have hB2 := hb.trans (hb2.mono hb.size)
      have hbox2 := (hb2.cell (p := ⟨w.heap.size, 0, none⟩) hbl).trans hbox
      have hbl2 := Nat.lt_of_lt_of_le hbl hb2.size
      clear c0 hb2 hbox hb
      generalize hA : hasI xs z = bA at HS ⊢
      clear hA
      cases bA with
      | false =>
        go_wp2
        go_ret
        exact ⟨by rw [HS.out]; rfl, hB2⟩
      | true =>
        go_wp2
        go_roundw
        case rel => exact ⟨k + 1, by omega, by go_num, by rw [HS.out]; rfl, hbox2, hbl2, hB2⟩
        case measure => simp [intOf]; omega
    · have e : k = zs.length := by omega
      subst e
      have HT : Hid (allI xs zs = true) := by unfold Hid; rw [HA.out, List.drop_length]; rfl
      clear HA
      go_wp2
      go_ret
      exact ⟨by rw [HT.out]; rfl, hb⟩

theorem own_nil1 (w : World) (base : Nat) (hb : base ≤ w.heap.size) :
    (w.alloc (Obj.cells #[.int .i64 1, .int .i64 0, .string ⟨#[]⟩, .int .i64 0, .int .i64 0] 86)).ownsRow base 86 5 (.slice (some ⟨w.heap.size, 0, none⟩) 1 1) 1 (ncs [nilN]) :=
  own_lit1 w nilN base hb
theorem NRow.pair1 (w : World) (z : Int) (last : Nat) : NRow (w.alloc (Obj.cells #[.int .i64 5, .int .i64 0, .string ⟨#[]⟩, .int .i64 z, .int .i64 last] 86)) (.slice (some ⟨w.heap.size, 0, none⟩) 1 1) [pairN z last] :=
  NRow.lit1 w (pairN z last) (by simp [pairN])

theorem wrap_two (a b : Int) (h0 : 0 ≤ a) (h1 : a ≤ 1000000) (h2 : 0 ≤ b) (h3 : b ≤ 1000000) : IntKind.i64.wrap (IntKind.i64.wrap (a + b) - 1) = a + b - 1 := by
  rw [IntKind.wrap_i64, IntKind.wrap_i64]; omega

end Go.Proofs.YtaojlmoppbknbaaGreatDoor
