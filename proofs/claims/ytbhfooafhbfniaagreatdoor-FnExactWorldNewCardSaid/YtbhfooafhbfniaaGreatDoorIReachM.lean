/-
  Texts that stood by themselves, laid into one.
-/
import Derived.Test.YtbhfooafhbfniaaGreatDoorCyMathM
import Derived.Test.YtbhfooafhbfniaaGreatDoorMkListM
import Derived.Test.YtbhfooafhbfniaaGreatDoorSR8M
import Derived.Test.YtbhfooafhbfniaaGreatDoorShapeM
import Derived.Test.YtbhfooafhbfniaaGreatDoorBsM
/-
  What is moved is right, and where it was told: plain mathematics. Nothing of the program; no condition.
-/
namespace Go.Proofs.YtbhfooafhbfniaaGreatDoor
open Go.RowKit
def ClosedB (xs : List Nd) (bs : List Bool) : Prop := ∀ (i : Nat) (x : Nd), xs[i]? = some x → bs.getD i false = true → (hasA x.k = true → bs.getD x.a.toNat false = true) ∧ (hasB x.k = true → bs.getD x.b.toNat false = true)
structure MvInv (a : Nat) (xs : List Nd) (bs : List Bool) (k : Nat) (s : List Nd × List Int) : Prop where
  len : s.2.length = xs.length
  at_ : ∀ (i : Nat) (x : Nd), i < k → xs[i]? = some x → bs.getD i false = true → ∃ p : Nat, s.2.getD i 0 = ((a + p : Nat) : Int) ∧ p ≤ i ∧ s.1[p]? = some (nrm s.2 x)
  ok : ∀ (j : Nat) (y : Nd), s.1[j]? = some y → nodeB y ((a + j : Nat) : Int) = true
  from_ : ∀ j, j < s.1.length → ∃ i, i < k ∧ bs.getD i false = true ∧ s.2.getD i 0 = ((a + j : Nat) : Int)
  cnt : s.1.length ≤ k
theorem getD_setI (l : List Int) (i j : Nat) (z : Int) (h : i ≠ j) : (l.set i z).getD j 0 = l.getD j 0 := by
  simp only [List.getD_eq_getElem?_getD]; rw [List.getElem?_set, if_neg h]
theorem getD_setI_same (l : List Int) (i : Nat) (z : Int) (h : i < l.length) : (l.set i z).getD i 0 = z := by
  simp only [List.getD_eq_getElem?_getD]; rw [List.getElem?_set]; simp [h]
theorem nodeB_nrm {x : Nd} {i : Int} {fs : List Int} {q : Int} (hn : nodeB x i = true) (hA : hasA x.k = true → 0 ≤ fs.getD x.a.toNat 0 ∧ fs.getD x.a.toNat 0 < q) (hB : hasB x.k = true → 0 ≤ fs.getD x.b.toNat 0 ∧ fs.getD x.b.toNat 0 < q) : nodeB (nrm fs x) q = true := by
  obtain ⟨xk, xn, xs, xa, xb⟩ := x
  simp only [nodeB, nrm, Bool.and_eq_true] at hn hA hB ⊢
  obtain ⟨h1, ⟨h2, h3⟩, h4⟩ := hn
  refine ⟨h1, ⟨h2, ?_⟩, ?_⟩
  · cases hh : hasA xk with
    | false => rw [hh] at h3; simpa [partB] using h3
    | true => simpa [partB] using hA hh
  · cases hh : hasB xk with
    | false => rw [hh] at h4; simpa [partB] using h4
    | true => simpa [partB] using hB hh
theorem its_takeS (xs : List Nd) (bs : List Bool) (k : Nat) (x : Nd) (h : xs[k]? = some x) : its (xs.take (k + 1)) bs 0 = its (xs.take k) bs 0 ++ (if bs.getD k false then [(k, x)] else []) := by
  have hl := (List.getElem?_eq_some_iff.1 h).1
  rw [List.take_add_one, h, Option.toList_some, its_append]
  congr 1
  rw [List.length_take, Nat.min_eq_left (by omega), Nat.zero_add]
  simp [its]
theorem mv_inv (a : Nat) (xs : List Nd) (bs : List Bool) (hp : ∀ (i : Nat) (x : Nd), xs[i]? = some x → nodeB x i = true) (hc : ClosedB xs bs) (k : Nat) (hk : k ≤ xs.length) : MvInv a xs bs k (mvF a xs.length (its (xs.take k) bs 0)) := by
  induction k with
  | zero =>
    refine ⟨(mvF_len _ _ _).2, fun i x h => absurd h (by omega), fun j y h => ?_, fun j h => ?_, ?_⟩
    · simp [its, mvF] at h
    · simp [its, mvF] at h
    · simp [its, mvF]
  | succ k ih =>
    have I := ih (by omega)
    obtain ⟨x, hx⟩ : ∃ x, xs[k]? = some x := ⟨xs[k], by simp⟩
    rw [its_takeS xs bs k x hx]
    cases hb : bs.getD k false with
    | false =>
      simp only [Bool.false_eq_true, if_false, List.append_nil]
      refine ⟨I.len, fun i y hi hy ht => ?_, I.ok, fun j hj => ?_, by have := I.cnt; omega⟩
      · rcases Nat.lt_or_ge i k with h | h
        · exact I.at_ i y h hy ht
        · have : i = k := by omega
          subst this
          rw [hb] at ht; cases ht
      · obtain ⟨i, h1, h2, h3⟩ := I.from_ j hj
        exact ⟨i, by omega, h2, h3⟩
    | true =>
      simp only [if_true]
      rw [mvF_snoc]
      generalize mvF a xs.length (its (xs.take k) bs 0) = s at I
      have hn := hp k x hx
      obtain ⟨cA, cB⟩ := hc k x hx hb
      have hlk : k < s.2.length := by rw [I.len]; omega
      have up : ∀ (i : Nat) (y : Nd), i ≤ k → xs[i]? = some y → nrm (s.2.set k ((a + s.1.length : Nat) : Int)) y = nrm s.2 y := fun i y hi hy => by
        have hy' := hp i y hy
        refine nrm_set _ _ _ _ (fun h => ?_) (fun h => ?_)
        · have := nodeB_A hy' h; omega
        · have := nodeB_B hy' h; omega
      have pA : hasA x.k = true → ∃ p : Nat, s.2.getD x.a.toNat 0 = ((a + p : Nat) : Int) ∧ p < s.1.length := fun h => by
        have h1 := nodeB_A hn h
        obtain ⟨z, hz⟩ : ∃ z, xs[x.a.toNat]? = some z := ⟨xs[x.a.toNat]'(by omega), by simp⟩
        obtain ⟨p, e1, e2, e3⟩ := I.at_ x.a.toNat z (by omega) hz (cA h)
        exact ⟨p, e1, (List.getElem?_eq_some_iff.1 e3).1⟩
      have pB : hasB x.k = true → ∃ p : Nat, s.2.getD x.b.toNat 0 = ((a + p : Nat) : Int) ∧ p < s.1.length := fun h => by
        have h1 := nodeB_B hn h
        obtain ⟨z, hz⟩ : ∃ z, xs[x.b.toNat]? = some z := ⟨xs[x.b.toNat]'(by omega), by simp⟩
        obtain ⟨p, e1, e2, e3⟩ := I.at_ x.b.toNat z (by omega) hz (cB h)
        exact ⟨p, e1, (List.getElem?_eq_some_iff.1 e3).1⟩
      refine ⟨by simp [mvS, I.len], fun i y hi hy ht => ?_, fun j y hj => ?_, fun j hj => ?_, by have := I.cnt; simp [mvS]; omega⟩
      · rcases Nat.lt_or_ge i k with h | h
        · obtain ⟨p, e1, e2, e3⟩ := I.at_ i y h hy ht
          have hpl := (List.getElem?_eq_some_iff.1 e3).1
          refine ⟨p, ?_, e2, ?_⟩
          · simp only [mvS]; rw [getD_setI _ _ _ _ (by omega)]; exact e1
          · simp only [mvS]; rw [List.getElem?_append_left hpl, up i y (by omega) hy]; exact e3
        · have : i = k := by omega
          subst this
          rw [hx] at hy; cases hy
          refine ⟨s.1.length, ?_, I.cnt, ?_⟩
          · simp only [mvS]; rw [getD_setI_same _ _ _ hlk]
          · simp only [mvS]; rw [List.getElem?_append_right (Nat.le_refl _), up i x (Nat.le_refl _) hx]; simp
      · simp only [mvS] at hj
        rcases Nat.lt_or_ge j s.1.length with h | h
        · rw [List.getElem?_append_left h] at hj; exact I.ok j y hj
        · rw [List.getElem?_append_right h] at hj
          have hj' := (List.getElem?_eq_some_iff.1 hj).1
          simp at hj'
          have : j = s.1.length := by omega
          subst this
          simp at hj
          subst hj
          refine nodeB_nrm hn (fun h => ?_) (fun h => ?_)
          · obtain ⟨p, e1, e2⟩ := pA h; rw [e1]; omega
          · obtain ⟨p, e1, e2⟩ := pB h; rw [e1]; omega
      · simp only [mvS, List.length_append, List.length_singleton] at hj
        rcases Nat.lt_or_ge j s.1.length with h | h
        · obtain ⟨i, h1, h2, h3⟩ := I.from_ j h
          exact ⟨i, by omega, h2, by simp only [mvS]; rw [getD_setI _ _ _ _ (by omega)]; exact h3⟩
        · have : j = s.1.length := by omega
          subst this
          exact ⟨k, by omega, hb, by simp only [mvS]; rw [getD_setI_same _ _ _ hlk]⟩
theorem mv_all (a : Nat) (xs : List Nd) (bs : List Bool) (hp : ∀ (i : Nat) (x : Nd), xs[i]? = some x → nodeB x i = true) (hc : ClosedB xs bs) : MvInv a xs bs xs.length (mvAll a xs bs) := by
  have := mv_inv a xs bs hp hc xs.length (Nat.le_refl _)
  rw [List.take_length] at this
  exact this
theorem reach_closed (xs : List Nd) (rs : List Int) (hp : ∀ (i : Nat) (x : Nd), xs[i]? = some x → nodeB x i = true) : ClosedB xs (reachL xs rs) := fun i x hx ht => reach_parts xs rs hp i x hx ht
theorem mv_id (xs : List Nd) (bs : List Bool) (hp : ∀ (i : Nat) (x : Nd), xs[i]? = some x → nodeB x i = true) (hb : ∀ i, i < xs.length → bs.getD i false = true) (k : Nat) (hk : k ≤ xs.length) :
    (mvF 0 xs.length (its (xs.take k) bs 0)).1 = xs.take k ∧ ∀ i, i < k → (mvF 0 xs.length (its (xs.take k) bs 0)).2.getD i 0 = (i : Int) := by
  induction k with
  | zero => exact ⟨by simp [its, mvF], fun i h => absurd h (by omega)⟩
  | succ k ih =>
    obtain ⟨h1, h2⟩ := ih (by omega)
    have hlen := (mvF_len 0 xs.length (its (xs.take k) bs 0)).2
    obtain ⟨x, hx⟩ : ∃ x, xs[k]? = some x := ⟨xs[k], by simp⟩
    rw [its_takeS xs bs k x hx, hb k (by omega), if_pos rfl, mvF_snoc]
    generalize mvF 0 xs.length (its (xs.take k) bs 0) = s at h1 h2 hlen
    have hn := hp k x hx
    have e : nrm s.2 x = x := by
      obtain ⟨xk, xn, xs', xa, xb⟩ := x
      simp only [nrm, Nd.mk.injEq, true_and]
      constructor
      · split
        · rename_i h
          have := nodeB_A hn h
          dsimp only at this
          rw [h2 xa.toNat (by omega)]; omega
        · rfl
      · split
        · rename_i h
          have := nodeB_B hn h
          dsimp only at this
          rw [h2 xb.toNat (by omega)]; omega
        · rfl
    have hl : s.1.length = k := by rw [h1]; simp; omega
    refine ⟨?_, fun i hi => ?_⟩
    · simp only [mvS]
      rw [e, h1, List.take_add_one, hx, Option.toList_some]
    · simp only [mvS]
      rcases Nat.lt_or_ge i k with h | h
      · rw [getD_setI _ _ _ _ (by omega)]; exact h2 i h
      · have : i = k := by omega
        subst this
        rw [getD_setI_same _ _ _ (by omega), hl]; simp
end Go.Proofs.YtbhfooafhbfniaaGreatDoor
/-
  Why something is reached, and where it is then: plain mathematics. Nothing of the program; no condition.
-/
namespace Go.Proofs.YtbhfooafhbfniaaGreatDoor
open Go.RowKit
def At8 (xs : List Nd) (rs : List Int) (a : Nat) (i j : Nat) : Prop := i < xs.length ∧ (reachL xs rs).getD i false = true ∧ (mvAll a xs (reachL xs rs)).2.getD i 0 = (j : Int)
theorem keep_same (xs : List Nd) (rs : List Int) (hp : poolB xs = true) (hr : allI xs rs = true) (hb : ∀ i, i < xs.length → (reachL xs rs).getD i false = true) : mvN 0 xs rs = xs ∧ mvR 0 xs rs rs = rs := by
  have I := mv_id xs (reachL xs rs) (fun _ _ h => poolB_at hp h) hb xs.length (Nat.le_refl _)
  rw [List.take_length] at I
  refine ⟨I.1, ?_⟩
  unfold mvR
  have : ∀ r ∈ rs, (mvAll 0 xs (reachL xs rs)).2.getD r.toNat 0 = r := fun r h => by
    have hh : hasI xs r = true := by
      unfold allI at hr
      exact List.all_eq_true.1 hr r h
    simp only [hasI, Bool.and_eq_true, decide_eq_true_eq] at hh
    have := I.2 r.toNat (by omega)
    unfold mvAll
    rw [this]
    omega
  rw [List.map_congr_left (g := id) (fun r h => this r h)]
  exact List.map_id rs
end Go.Proofs.YtbhfooafhbfniaaGreatDoor
/-
  When what is read of bytes is a value: plain mathematics. Both ways of asking whether nothing else is there come to the same. No condition.
-/
namespace Go.Proofs.YtbhfooafhbfniaaGreatDoor
open Go.RowKit
theorem its_full (xs : List Nd) (bs : List Bool) (k : Nat) (h : (its xs bs k).length = xs.length) : ∀ i, i < xs.length → bs.getD (k + i) false = true := by
  induction xs generalizing k with
  | nil => intro i hi; simp at hi
  | cons x xs ih =>
    have hle := its_len xs bs (k + 1)
    simp only [its] at h
    split at h
    · rename_i hb
      simp only [List.length_cons, Nat.add_right_cancel_iff] at h
      intro i hi
      cases i with
      | zero => exact hb
      | succ i => rw [show k + (i + 1) = k + 1 + i by omega]; exact ih (k + 1) h i (by simpa using hi)
    · simp at h; omega
def allR (xs : List Nd) (rs : List Int) : Bool := !(reachL xs rs).contains false
theorem allR_iff (xs : List Nd) (rs : List Int) : allR xs rs = true ↔ ∀ i, i < xs.length → (reachL xs rs).getD i false = true := by
  unfold allR
  rw [Bool.not_eq_true', ← Bool.not_eq_true, List.contains_iff_mem]
  constructor
  · intro h i hi
    rw [List.getD_eq_getElem?_getD, List.getElem?_eq_getElem (by rw [reachL_length]; exact hi)]
    cases hb : (reachL xs rs)[i]'(by rw [reachL_length]; exact hi) with
    | true => rfl
    | false => exact absurd (by rw [← hb]; exact List.getElem_mem _) h
  · intro h hm
    obtain ⟨i, hi, he⟩ := List.getElem_of_mem hm
    have := h i (by rw [← reachL_length xs rs]; exact hi)
    rw [List.getD_eq_getElem?_getD, List.getElem?_eq_getElem hi, he] at this
    cases this
theorem again_iff (xs : List Nd) (rs : List Int) (hp : poolB xs = true) (hr : allI xs rs = true) : wireL (mvN 0 xs rs) = wireL xs ↔ allR xs rs = true := by
  rw [allR_iff]
  have hl := poolB_len hp
  constructor
  · intro h
    have hm := mvN_len 0 xs rs
    have e : ((mvN 0 xs rs).length : Int) = (xs.length : Int) := encI_head (by omega) (by omega) (by omega) (by omega) h
    have e2 : (its xs (reachL xs rs) 0).length = xs.length := by
      have : (mvN 0 xs rs).length = (its xs (reachL xs rs) 0).length := (mvF_len _ _ _).1
      omega
    intro i hi
    have := its_full xs (reachL xs rs) 0 e2 i hi
    rwa [Nat.zero_add] at this
  · intro h
    rw [(keep_same xs rs hp hr h).1]
def vrR (zs : List Int) : Option (List Nd) :=
  (rdP zs 0).bind fun q => if q.2 = zs.length ∧ q.1 ≠ [] ∧ allR q.1 [(q.1.length : Int) - 1] = true then some q.1 else none
theorem last_in {xs : List Nd} (h : xs ≠ []) : allI xs [(xs.length : Int) - 1] = true := by
  have := List.length_pos_iff.2 h
  simp [allI, hasI]
  omega
theorem vrR_spec (zs : List Int) (hz : ∀ z ∈ zs, 0 ≤ z ∧ z ≤ 255) (xs : List Nd) : vrR zs = some xs ↔ (sOk zs 0 true = true ∧ (sP zs 0 true).1 = xs) ∧ xs ≠ [] ∧ wireL (mvN 0 xs [(xs.length : Int) - 1]) = zs := by
  rw [sP_rdP]
  unfold vrR
  rw [Option.bind_eq_some_iff]
  constructor
  · rintro ⟨⟨ys, b⟩, h1, h2⟩
    split at h2
    · rename_i hc
      cases h2
      obtain ⟨c1, c2, c3⟩ := hc
      simp only at c1 c2 c3
      subst c1
      obtain ⟨hp, hw⟩ := rdP_wire hz h1
      exact ⟨h1, c2, ((again_iff ys _ hp (last_in c2)).2 c3).trans hw⟩
    · cases h2
  · rintro ⟨h1, h2, h3⟩
    obtain ⟨hp, hw⟩ := rdP_wire hz h1
    refine ⟨_, h1, ?_⟩
    rw [if_pos ⟨rfl, h2, (again_iff xs _ hp (last_in h2)).1 (h3.trans hw.symm)⟩]
end Go.Proofs.YtbhfooafhbfniaaGreatDoor
/-
  Slices of bools: how one reads, and the contracts of the laws' own helpers eqBoolS, markBoolS, heldBoolS.
-/
namespace Go.Proofs.YtbhfooafhbfniaaGreatDoor
open Go.RowKit
def vb (zs : List Bool) : List Value := zs.map .bool
theorem vb_get (zs : List Bool) (i : Nat) (h : i < zs.length) : (vb zs)[i]? = some (.bool (zs.getD i false)) := by simp [vb, List.getD, h]
theorem vb_set (zs : List Bool) (i : Nat) (z : Bool) : (vb zs).set i (.bool z) = vb (zs.set i z) := by simp [vb, List.map_set]
def BRow (w : World) (v : Value) (zs : List Bool) : Prop :=
  ∃ ao cap, v = .slice ao zs.length cap ∧ (zs.length ≤ cap ∧ (ao = none → cap = 0)) ∧ zs.length ≤ 9223372036854775807 ∧ (zs ≠ [] → ∃ g o, ao = some ⟨g, o, none⟩ ∧ g < w.heap.size ∧ ∀ i, i < zs.length → w.cell? ⟨g, o + i, none⟩ = some (.bool (zs.getD i false)))
theorem BRow.below {w w' : World} {v : Value} {zs : List Bool} (h : BRow w v zs) (hb : Below w.heap.size w w') : BRow w' v zs := by
  obtain ⟨ao, cap, rfl, hc, hm, hcell⟩ := h
  refine ⟨ao, cap, rfl, hc, hm, fun hne => ?_⟩
  obtain ⟨g, o, rfl, hg, hcell⟩ := hcell hne
  exact ⟨g, o, rfl, Nat.lt_of_lt_of_le hg hb.size, fun i hi => (hb.cell (p := ⟨g, o + i, none⟩) hg).trans (hcell i hi)⟩
theorem BRow.of_own {w : World} {base : Nat} {v : Value} {zs : List Bool} (h : w.ownsRow base 4 1 v zs.length (vb zs)) (hm : zs.length ≤ 9223372036854775807) : BRow w v zs := by
  rcases h.2 with ⟨rfl, h0⟩ | ⟨g, cap, cur, rfl, hb, hg, hnc, hcm, hcs, htake⟩
  · have : zs = [] := List.eq_nil_of_length_eq_zero h0
    subst this
    exact ⟨none, 0, rfl, by simp, by simp, fun h => absurd rfl h⟩
  · refine ⟨_, cap, rfl, ⟨hnc, fun h => by cases h⟩, hm, fun _ => ⟨g, 0, rfl, (Array.getElem?_eq_some_iff.1 hg).1, fun i hi => ?_⟩⟩
    have := h.cellAt i (by omega)
    rw [Nat.zero_add, this, vb_get zs i hi]
def mk3 (k : Int) : Bool := k % 3 == 0
def bmarked (k : Int) (zs : List Bool) (i : Nat) : List Bool := (List.range i).map (fun (j : Nat) => mk3 (k + (j : Int))) ++ zs.drop i
end Go.Proofs.YtbhfooafhbfniaaGreatDoor
/-
  Contract of impl's withParts: a node with its parts where they are told to be. Conditions: the node's kind is one, its parts are told of.
-/
namespace Go.Proofs.YtbhfooafhbfniaaGreatDoor
open Go.RowKit
end Go.Proofs.YtbhfooafhbfniaaGreatDoor
/-
  Contracts of impl's hungOn and Reach. Conditions of hungOn: the pool is right, and all roots are nodes of it.
-/
namespace Go.Proofs.YtbhfooafhbfniaaGreatDoor
open Go.RowKit
theorem Tryz.infoBl : (Tryz.prog.info? 4).map (fun i => (i.zero, i.size, i.bytes)) = some (some (.bool false), 1, 1) := by kernel_rfl
theorem vb_made (n : Nat) : vb (List.replicate n false) = (madeCells #[Value.bool false] n).toList := by rw [toList_madeCells_one]; simp [vb]
theorem allI_at {xs : List Nd} {rs : List Int} (h : allI xs rs = true) (k : Nat) (hk : k < rs.length) : 0 ≤ rs.getD k 0 ∧ rs.getD k 0 < xs.length := by
  unfold allI at h
  rw [List.all_eq_true] at h
  have := h (rs.getD k 0) (by rw [List.getD_eq_getElem?_getD, List.getElem?_eq_getElem hk]; exact List.getElem_mem _)
  simpa [hasI] using this
set_option maxRecDepth 100000 in
set_option maxHeartbeats 1600000 in
theorem hungon_any (ao : Option Addr) (cap : Nat) (vl : Value) (xs : List Nd) (rs : List Int) (w : World) (R : NRow w (.slice ao xs.length cap) xs) (L : IRow w vl rs) (hp : poolB xs = true) (hr : allI xs rs = true) :
    Calls Tryz.prog 153 #[.agg #[.slice ao xs.length cap], vl] w fun e w' => ∃ v', e = .returned v' ∧ w'.ownsRow w.heap.size 4 1 v' xs.length (vb (reachL xs rs)) ∧ Below w.heap.size w w' := by
  have hlen := poolB_len hp
  have hB0 : Below w.heap.size w (w.alloc (Obj.cells #[.slice ao xs.length cap] 32)) := (Below.refl _ _).alloc (Nat.le_refl _) _
  have hbx := heap_alloc_new w (Obj.cells #[.slice ao xs.length cap] 32)
  have R0 := R.below hB0
  have L0 := L.below hB0
  clear R L
  have hs0 : (w.alloc (Obj.cells #[.slice ao xs.length cap] 32)).heap.size = w.heap.size + 1 := by simp
  obtain ⟨i0, hi, hz0, hz1, hz2⟩ := info_parts Tryz.infoBl
  have hbytes : i0.bytes * xs.length ≤ 281474976710656 := by rw [hz2]; omega
  have hmax : xs.length ≤ maxLen := by unfold maxLen; omega
  go_enter Tryz.func153, Tryz.ntmps153
  go_wp2_with (at_make; refine wpList_make_full _ rfl _ _ 185 rfl (w.heap.size + 1) 4 i0 (.bool false) 1 Tryz.underlying185 hi hz0 hz1 _ _ _ _ xs.length rfl rfl rfl rfl hbytes hmax (by simp) ?_)
  intro w1 hown hgrow
  generalize w.alloc (Obj.cells #[.slice ao xs.length cap] 32) = w0 at *
  have hB1 : Below (w.heap.size + 1) w0 w1 := (Below.refl _ _).grown hgrow (by omega) (by intro k hk; cases hk)
  clear hgrow hbytes hmax
  obtain ⟨al, cl, rfl, hcl, _, hlc⟩ := L0
  go_wp2_with fail
  go_loopw [18] (fun i wr => ∃ (k : Nat) (bs : List Bool), k ≤ rs.length ∧ i = .int .i64 k ∧ bs.length = xs.length ∧ Hid ((rs.drop k).foldl setB bs = rootsB xs.length rs) ∧ wr.ownsRow (w.heap.size + 1) 4 1 (.slice (some ⟨w.heap.size + 1, 0, none⟩) xs.length xs.length) xs.length (vb bs) ∧ Below (w.heap.size + 1) w0 wr) (fun i _ => rs.length - (intOf i).toNat)
  case atStart => exact ⟨0, List.replicate xs.length false, by omega, rfl, by simp, rfl, by rw [vb_made]; exact hown, hB1⟩
  case round =>
    clear hown hB1
    obtain ⟨k, bs, hk, rfl, hbl, HF, hown, hB⟩ := hrel
    by_cases hlt : k < rs.length
    · obtain ⟨g, o, rfl, hg, hlc⟩ := hlc (by intro e; subst e; simp at hlt)
      have ez := (hB.cell (p := ⟨g, o + k, none⟩) (by simp; omega)).trans (hlc k hlt)
      obtain ⟨h1, h2⟩ := allI_at hr k hlt
      have HF2 : Hid ((rs.drop (k + 1)).foldl setB (setB bs (rs.getD k 0)) = rootsB xs.length rs) := (fold_drop rs bs k hlt).symm.trans HF.out
      generalize rs.getD k 0 = z at ez h1 h2 HF2
      obtain ⟨nz, rfl⟩ := Int.eq_ofNat_of_zero_le h1
      have ec := hown.cellAt nz (by omega)
      rw [vb_get _ _ (by omega)] at ec
      have ef := hown.frozenAt nz
      have hs := (hown.stored nz (.bool true)).1
      rw [vb_set] at hs
      clear hlc hr HF
      go_wp2
      go_roundw
      case rel => exact ⟨k + 1, setB bs nz, by omega, by go_num, by rw [setB_length, hbl], HF2, hs, hB.setCell (p := ⟨w.heap.size + 1, nz, none⟩) (Nat.le_refl _) _⟩
      case measure => simp [intOf]; omega
    · have hkx : k = rs.length := by omega
      subst hkx
      have HR : Hid (down xs xs.length bs = reachL xs rs) := by
        have := HF.out
        rw [List.drop_length, List.foldl_nil] at this
        rw [this]
        rfl
      clear HF hk hlt hlc hr
      have ep := (hB.cell (p := ⟨w.heap.size, 0, none⟩) (by simp)).trans ((cell_of_row w0 _ 0 _ _ _ hbx).trans rfl)
      have hBw : w.heap.size + 1 < wr.heap.size := (hown.lt _ rfl).2
      go_wp2_with fail
      go_loopw [8] (fun i wq => ∃ (k : Nat) (cs : List Bool), k ≤ xs.length ∧ i = .int .i64 ((k : Int) - 1) ∧ cs.length = xs.length ∧ Hid (down xs k cs = reachL xs rs) ∧ wq.ownsRow (w.heap.size + 1) 4 1 (.slice (some ⟨w.heap.size + 1, 0, none⟩) xs.length xs.length) xs.length (vb cs) ∧ Below (w.heap.size + 1) w0 wq) (fun i _ => (intOf i + 1).toNat)
      case atStart => exact ⟨xs.length, bs, Nat.le_refl _, rfl, hbl, HR, hown, hB⟩
      case round =>
        clear hown hB HR hbl ep hBw
        clear bs
        obtain ⟨k, bs, hk, rfl, hbl, HR, hown, hB⟩ := hrel
        have ep := (hB.cell (p := ⟨w.heap.size, 0, none⟩) (by simp)).trans ((cell_of_row w0 _ 0 _ _ _ hbx).trans rfl)
        have hBw : w.heap.size + 1 < wr.heap.size := (hown.lt _ rfl).2
        rcases Nat.eq_zero_or_pos k with rfl | hpos
        · have HQ : Hid (bs = reachL xs rs) := HR
          clear HR
          go_wp2
          go_ret
          rw [HQ.out] at hown
          exact ⟨_, rfl, own_mono hown (by omega), hB0.trans (hB.mono (by omega))⟩
        · obtain ⟨j, rfl⟩ : ∃ j, k = j + 1 := ⟨k - 1, by omega⟩
          rw [show ((j + 1 : Nat) : Int) - 1 = (j : Int) by omega]
          obtain ⟨ao', cap', e', _, _, hz, hcell⟩ := R0
          simp only [Value.slice.injEq, true_and] at e'
          obtain ⟨rfl, rfl⟩ := e'
          obtain ⟨g, o, rfl, hg, hcell⟩ := hcell (by intro e; subst e; simp at hk)
          obtain ⟨x, hx⟩ : ∃ x, xs[j]? = some x := ⟨xs[j], by simp⟩
          obtain ⟨c0, c1, c2, c3, c4⟩ := (hcell j x hx).below hB (by rw [hs0] at hg; exact hg)
          have hnb := poolB_at hp hx
          have hkd := nodeB_kind hnb
          have HD : Hid (down xs j (hungStep x (bs.getD j false) bs) = reachL xs rs) := (down_at xs bs j x hx).symm.trans HR.out
          have hA : hasA x.k = true → 0 ≤ x.a ∧ x.a < (j : Int) := fun h => nodeB_A hnb h
          have hBb : hasB x.k = true → 0 ≤ x.b ∧ x.b < (j : Int) := fun h => nodeB_B hnb h
          clear hcell hx HR hnb
          go_wp2_with fail
          refine (shapeof_any x.k _).mono ?_
          rintro e w4 ⟨rfl, hb4⟩
          rw [shapeV, if_pos hkd]
          have hbox := (hb4.block wr.heap.size (by simp)).trans (heap_alloc_new _ _)
          have d3 := cell_of_row w4 _ 3 _ _ _ hbox
          have d4 := cell_of_row w4 _ 4 _ _ _ hbox
          simp only [List.getElem?_toArray, List.getElem?_cons_succ, List.getElem?_cons_zero] at d3 d4
          have hB4' : Below wr.heap.size wr w4 := ((Below.refl wr.heap.size wr).alloc (Nat.le_refl _) _).trans (hb4.mono (by simp))
          have hown4 := own_below hown hB4'
          have hB4 := hB.trans (hB4'.mono (by omega))
          have hw4 : wr.heap.size < w4.heap.size := (Array.getElem?_eq_some_iff.1 hbox).1
          have hw4' : w.heap.size + 1 < w4.heap.size := by omega
          have hne4 : w.heap.size + 1 ≠ wr.heap.size := by omega
          have e0 := hown4.cellAt j (by omega)
          rw [vb_get _ _ (by omega)] at e0
          clear c0 c1 c2 c3 c4 hbox hb4 hB4' hown hB ep
          have hrl : ∀ z, (hungStep x z bs).length = xs.length := fun z => (hungStep_length x z bs).trans hbl
          cases hb : bs.getD j false with
          | false =>
            rw [hb] at e0 HD
            have hl2 := hrl false
            have HE : Hid (hungStep x false bs = bs) := by unfold Hid hungStep; simp
            clear hA hBb hrl hb
            go_wp2
            refine ⟨⟨j, bs, by omega, by go_num, hbl, by rw [HE.out] at HD; exact HD, hown4.alloc _, hB4.alloc (by omega) _⟩, by simp [intOf]⟩
          | true =>
            rw [hb] at e0 HD
            have hl2 := hrl true
            clear hrl hb
            cases hAk : hasA x.k with
            | false =>
              have hBk : hasB x.k = false := by
                unfold hasA at hAk; unfold hasB
                simp only [decide_eq_false_iff_not] at hAk ⊢
                omega
              have HE : Hid (hungStep x true bs = bs) := by unfold Hid hungStep; rw [hAk, hBk]; simp
              rw [hBk]
              clear hA hBb
              go_wp2
              refine ⟨⟨j, bs, by omega, by go_num, hbl, by rw [HE.out] at HD; exact HD, hown4.alloc _, hB4.alloc (by omega) _⟩, by simp [intOf]⟩
            | true =>
              obtain ⟨ha1, ha2⟩ := hA hAk
              obtain ⟨na, hna⟩ := Int.eq_ofNat_of_zero_le ha1
              rw [hna] at d3 ha2
              have e1 := hown4.cellAt na (by omega)
              rw [vb_get _ _ (by omega)] at e1
              have f1 := hown4.frozenAt na
              have hs1 := (hown4.stored na (.bool true)).1
              rw [vb_set] at hs1
              have hnj : na ≠ j := by omega
              have hB5 := hB4.setCell (p := ⟨w.heap.size + 1, na, none⟩) (Nat.le_refl _) (.bool true)
              cases hBk : hasB x.k with
              | false =>
                have HE : Hid (hungStep x true bs = bs.set na true) := by unfold Hid hungStep setB; rw [hAk, hBk, hna]; simp
                clear hA hBb
                go_wp2
                refine ⟨⟨j, bs.set na true, by omega, by go_num, by simpa using hbl, by rw [HE.out] at HD; exact HD, hs1.alloc _, hB5.alloc (by simp; omega) _⟩, by simp [intOf]⟩
              | true =>
                obtain ⟨hb1, hb2⟩ := hBb hBk
                obtain ⟨nb', hnb'⟩ := Int.eq_ofNat_of_zero_le hb1
                rw [hnb'] at d4 hb2
                have HE : Hid (hungStep x true bs = (bs.set na true).set nb' true) := by unfold Hid hungStep setB; rw [hAk, hBk, hna, hnb']; simp
                have e2 := hs1.cellAt nb' (by omega)
                rw [vb_get _ _ (by simp; omega)] at e2
                have f2 := hs1.frozenAt nb'
                have hs2 := (hs1.stored nb' (.bool true)).1
                rw [vb_set] at hs2
                have hB6 := hB5.setCell (p := ⟨w.heap.size + 1, nb', none⟩) (Nat.le_refl _) (.bool true)
                clear hA hBb
                go_wp2
                refine ⟨⟨j, (bs.set na true).set nb' true, by omega, by go_num, by simpa using hbl, by rw [HE.out] at HD; exact HD, hs2.alloc _, hB6.alloc (by simp; omega) _⟩, by simp [intOf]⟩
def reachR (xs : List Nd) (rs : List Int) : List Bool := if poolB xs && allI xs rs then reachL xs rs else []
end Go.Proofs.YtbhfooafhbfniaaGreatDoor
