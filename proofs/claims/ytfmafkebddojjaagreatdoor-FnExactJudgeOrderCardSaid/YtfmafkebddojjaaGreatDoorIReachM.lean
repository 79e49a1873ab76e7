/-
  Texts that stood by themselves, laid into one.
-/
import Derived.Test.YtfmafkebddojjaaGreatDoorMcTM
import Derived.Maps.OwnSet
import Derived.DeepKeys4
import Derived.Test.YtfmafkebddojjaaGreatDoorSR8M
import Derived.Test.YtfmafkebddojjaaGreatDoorSubM
import Derived.Test.YtfmafkebddojjaaGreatDoorSbM
/-
  What is reached: plain mathematics. From behind: what hangs on a node stands behind it. No condition.
-/
namespace Go.Proofs.YtfmafkebddojjaaGreatDoor
open Go.RowKit
def setB (bs : List Bool) (i : Int) : List Bool := bs.set i.toNat true
def Zde (n : Nat) (rs : List Int) : List Bool := rs.foldl setB (List.replicate n false)
def Zan (x : Nd) (b : Bool) (bs : List Bool) : List Bool :=
 if b && hasB x.k then setB (if b && hasA x.k then setB bs x.a else bs) x.b else (if b && hasA x.k then setB bs x.a else bs)
def down (xs : List Nd) : Nat -> List Bool -> List Bool
 | 0, bs => bs
 | k + 1, bs => down xs k (Zan (xs.getD k ⟨0, 0, ByteArray.empty, 0, 0⟩) (bs.getD k false) bs)
def Zat (xs : List Nd) (rs : List Int) : List Bool := down xs xs.length (Zde xs.length rs)
theorem Zbk (bs : List Bool) (i : Int) : (setB bs i).length = bs.length := by simp [setB]
theorem Ze3 (rs : List Int) (bs : List Bool) : (rs.foldl setB bs).length = bs.length := by
 induction rs generalizing bs with
 | nil => rfl
 | cons r rs ih => rw [List.foldl_cons, ih, Zbk]
theorem Zcb (n : Nat) (rs : List Int) : (Zde n rs).length = n := by unfold Zde; rw [Ze3]; simp
theorem Zbo (x : Nd) (b : Bool) (bs : List Bool) : (Zan x b bs).length = bs.length := by
 unfold Zan
 split <;> (split <;> simp [Zbk])
theorem Zfn (xs : List Nd) (k : Nat) (bs : List Bool) : (down xs k bs).length = bs.length := by
 induction k generalizing bs with
 | zero => rfl
 | succ k ih => simp only [down]; rw [ih, Zbo]
theorem Za3 (xs : List Nd) (rs : List Int) : (Zat xs rs).length = xs.length := by unfold Zat; rw [Zfn, Zcb]
theorem Zes (rs : List Int) (bs : List Bool) (k : Nat) (h : k < rs.length) : (rs.drop k).foldl setB bs = (rs.drop (k + 1)).foldl setB (setB bs (rs.getD k 0)) := by
 rw [List.drop_eq_getElem_cons h, List.foldl_cons, List.getD_eq_getElem?_getD, List.getElem?_eq_getElem h]
 rfl
theorem Zeh (xs : List Nd) (bs : List Bool) (k : Nat) (x : Nd) (h : xs[k]? = some x) : down xs (k + 1) bs = down xs k (Zan x (bs.getD k false) bs) := by
 simp only [down, List.getD_eq_getElem?_getD, h, Option.getD_some]
end Go.Proofs.YtfmafkebddojjaaGreatDoor
namespace Go.Proofs.YtfmafkebddojjaaGreatDoor
open Go.RowKit Go.Maps
theorem Zef : laidOutB Tryz.prog = true := by kernel_rfl
theorem Tryz.keyed : Keyed Tryz.prog 210 := Keyed.of_law (deep_law_laid Zef (m := 8) (by decide) (of_decide_eq_true (by kernel_rfl)) (by kernel_rfl) (by kernel_rfl))
def nrm (fs : List Int) (x : Nd) : Nd := ⟨x.k, x.n, x.s, if hasA x.k then fs.getD x.a.toNat 0 else x.a, if hasB x.k then fs.getD x.b.toNat 0 else x.b⟩
open Classical in
noncomputable def idx : List Nd -> Nd -> Nat
 | [], _ => 0
 | k :: ks, y => if k = y then 0 else idx ks y + 1
noncomputable def cls : List Nd -> List Nd -> List Int -> List Nd × List Int
 | [], ks, fs => (ks, fs)
 | x :: xs, ks, fs => cls xs (ks ++ [nrm fs x]) (fs ++ [((idx ks (nrm fs x) : Nat) : Int)])
noncomputable def ZkQ (xs : List Nd) (k : Nat) : List Nd := (cls (xs.take k) [] []).1
noncomputable def ZkC (xs : List Nd) (k : Nat) : List Int := (cls (xs.take k) [] []).2
theorem Zdx (ks : List Nd) (z y : Nd) (h : y ∈ ks) : idx (ks ++ [z]) y = idx ks y := by
 induction ks with
 | nil => simp at h
 | cons k ks ih =>
  simp only [List.cons_append, idx]
  split
  ·rfl
  ·rename_i hne
   rw [ih (by simp only [List.mem_cons] at h; rcases h with rfl | h; exact absurd rfl hne; exact h)]
theorem ZiI (ks : List Nd) (y : Nd) (h : y ∉ ks) : idx (ks ++ [y]) y = ks.length := by
 induction ks with
 | nil => simp [idx]
 | cons k ks ih =>
  simp only [List.mem_cons, not_or] at h
  have hne : ¬ k = y := fun e => h.1 e.symm
  simp only [List.cons_append, idx, if_neg hne, ih h.2, List.length_cons]
def nkey (y : Nd) : Value := .agg #[.int .i64 y.k, .int .i64 y.n, .string y.s, .int .i64 y.a, .int .i64 y.b]
theorem ZiQ {x y : Nd} (h : nkey x = nkey y) : x = y := by
 obtain ⟨k, n, s, a, b⟩ := x
 obtain ⟨k', n', s', a', b'⟩ := y
 simp [nkey] at h
 obtain ⟨rfl, rfl, rfl, rfl, rfl⟩ := h
 rfl
def Holds {H : Type} (D : DataW H) (ks : List Nd) : Prop :=
 ∀ y kl, keyOf Tryz.prog 210 (nkey y) = some kl -> (y ∈ ks -> Maps.has D kl = true /\ D.atKey kl (.lit (.int .i64 0)) = .lit (.int .i64 (idx ks y))) /\ (y ∉ ks -> Maps.has D kl = false)
theorem Holds.start {H : Type} : Holds (H := H) (.map []) [] := fun _ _ _ => ⟨fun h => by simp at h, fun _ => rfl⟩
theorem Holds.again {H : Type} {D : DataW H} {ks : List Nd} (h : Holds D ks) (z : Nd) (hz : z ∈ ks) : Holds D (ks ++ [z]) := by
 intro y kl hy
 obtain ⟨h1, h2⟩ := h y kl hy
 refine ⟨fun hm => ?_, fun hm => h2 (fun e => hm (by simp [e]))⟩
 have hm' : y ∈ ks := by
  simp only [List.mem_append, List.mem_singleton] at hm
  rcases hm with hm | rfl
  ·exact hm
  ·exact hz
 rw [Zdx ks z y hm']
 exact h1 hm'
theorem Holds.put {H : Type} {D : DataW H} {ks : List Nd} (h : Holds D ks) (hD : IsMap D) (z : Nd) (hz : z ∉ ks) (kl : Lit) (hk : keyOf Tryz.prog 210 (nkey z) = some kl) :
  Holds (D.put kl (.lit (.int .i64 ks.length))) (ks ++ [z]) := by
 intro y kl' hy
 by_cases e : y = z
 ·subst e
  rw [hk] at hy
  cases hy
  refine ⟨fun _ => ⟨has_put_same hD (Tryz.keyed.key hk) _, ?_⟩, fun hm => absurd (by simp) hm⟩
  rw [atKey_put_same hD (Tryz.keyed.key hk), ZiI ks y hz]
 ·have hne : kl' ≠ kl := by
   intro e'
   subst e'
   exact e (ZiQ (Tryz.keyed.inj hy hk))
  obtain ⟨h1, h2⟩ := h y kl' hy
  refine ⟨fun hm => ?_, fun hm => ?_⟩
  ·have hm' : y ∈ ks := by
    simp only [List.mem_append, List.mem_singleton] at hm
    rcases hm with hm | hm
    ·exact hm
    ·exact absurd hm e
   rw [has_put_other hne, atKey_put_other hne, Zdx ks z y hm']
   exact h1 hm'
  ·rw [has_put_other hne]
   exact h2 (fun e' => hm (by simp [e']))
end Go.Proofs.YtfmafkebddojjaaGreatDoor
namespace Go.Proofs.YtfmafkebddojjaaGreatDoor
open Go.RowKit
def its : List Nd -> List Bool -> Nat -> List (Nat × Nd)
 | [], _, _ => []
 | x :: r, bs, k => if bs.getD k false then (k, x) :: its r bs (k + 1) else its r bs (k + 1)
def mvS (a : Nat) (s : List Nd × List Int) (p : Nat × Nd) : List Nd × List Int := (s.1 ++ [nrm s.2 p.2], s.2.set p.1 ((a + s.1.length : Nat) : Int))
def mvF (a n : Nat) (l : List (Nat × Nd)) : List Nd × List Int := l.foldl (mvS a) ([], List.replicate n 0)
def Zbt (a : Nat) (xs : List Nd) (bs : List Bool) : List Nd × List Int := mvF a xs.length (its xs bs 0)
def mvN (a : Nat) (xs : List Nd) (rs : List Int) : List Nd := (Zbt a xs (Zat xs rs)).1
def mvR (a : Nat) (xs : List Nd) (rs qs : List Int) : List Int := qs.map (fun r => (Zbt a xs (Zat xs rs)).2.getD r.toNat 0)
theorem Zgc (a n : Nat) (l : List (Nat × Nd)) (p : Nat × Nd) : mvF a n (l ++ [p]) = mvS a (mvF a n l) p := by simp [mvF]
theorem Zi4 (a : Nat) (l : List (Nat × Nd)) (s : List Nd × List Int) : (l.foldl (mvS a) s).1.length = s.1.length + l.length /\ (l.foldl (mvS a) s).2.length = s.2.length := by
 induction l generalizing s with
 | nil => simp
 | cons p l ih =>
  rw [List.foldl_cons]
  obtain ⟨h1, h2⟩ := ih (mvS a s p)
  rw [h1, h2]
  simp [mvS]
  omega
theorem ZcX (a n : Nat) (l : List (Nat × Nd)) : (mvF a n l).1.length = l.length /\ (mvF a n l).2.length = n := by
 obtain ⟨h1, h2⟩ := Zi4 a l ([], List.replicate n 0)
 exact ⟨by unfold mvF; rw [h1]; simp, by unfold mvF; rw [h2]; simp⟩
theorem Zkt (xs : List Nd) (bs : List Bool) (k : Nat) (x : Nd) (h : xs[k]? = some x) : its (xs.drop k) bs k = if bs.getD k false then (k, x) :: its (xs.drop (k + 1)) bs (k + 1) else its (xs.drop (k + 1)) bs (k + 1) := by
 obtain ⟨hl, he⟩ := List.getElem?_eq_some_iff.1 h
 rw [List.drop_eq_getElem_cons hl, its, he]
theorem ZjQ (xs : List Nd) (bs : List Bool) : its (xs.drop xs.length) bs xs.length = [] := by rw [List.drop_length]; rfl
theorem ZhI (xs : List Nd) (bs : List Bool) (k : Nat) : (its xs bs k).length <= xs.length := by
 induction xs generalizing k with
 | nil => simp [its]
 | cons x xs ih =>
  have := ih (k + 1)
  simp only [its]
  split <;> simp <;> omega
theorem Zh2 (a : Nat) (xs : List Nd) (rs : List Int) : (mvN a xs rs).length <= xs.length := by
 unfold mvN Zbt
 rw [(ZcX _ _ _).1]
 exact ZhI _ _ _
theorem ZjW (l : List Int) (i : Nat) (z : Int) (x : Nd) (hA : hasA x.k = true -> x.a.toNat ≠ i) (hB : hasB x.k = true -> x.b.toNat ≠ i) : nrm (l.set i z) x = nrm l x := by
 unfold nrm
 simp only [Nd.mk.injEq, true_and]
 constructor
 ·split
  ·rename_i h; simp only [List.getD_eq_getElem?_getD]; rw [List.getElem?_set, if_neg (fun e => hA h e.symm)]
  ·rfl
 ·split
  ·rename_i h; simp only [List.getD_eq_getElem?_getD]; rw [List.getElem?_set, if_neg (fun e => hB h e.symm)]
  ·rfl
theorem ZdX (bs : List Bool) (i j : Nat) (h : bs.getD j false = true) : (bs.set i true).getD j false = true := by
 simp only [List.getD_eq_getElem?_getD] at h ⊢
 rw [List.getElem?_set]
 split
 ·split
  ·rfl
  ·rename_i e hl; subst e; rw [List.getElem?_eq_none (by omega)] at h; exact h
 ·exact h
theorem ZbA (bs : List Bool) (i : Nat) (h : i < bs.length) : (bs.set i true).getD i false = true := by
 simp only [List.getD_eq_getElem?_getD]
 rw [List.getElem?_set, if_pos rfl, if_pos h]
 rfl
theorem Zbv (bs : List Bool) (i j : Nat) (h : i ≠ j) : (bs.set i true).getD j false = bs.getD j false := by
 simp only [List.getD_eq_getElem?_getD]
 rw [List.getElem?_set, if_neg h]
theorem Zch (bs : List Bool) (i : Int) (j : Nat) (h : bs.getD j false = true) : (setB bs i).getD j false = true := ZdX bs _ j h
theorem Zio (x : Nd) (b : Bool) (bs : List Bool) (j : Nat) (h : bs.getD j false = true) : (Zan x b bs).getD j false = true := by
 unfold Zan
 split
 ·apply Zch
  split
  ·exact Zch bs _ j h
  ·exact h
 ·split
  ·exact Zch bs _ j h
  ·exact h
theorem Ze7 (xs : List Nd) (k : Nat) (bs : List Bool) (j : Nat) (h : bs.getD j false = true) : (down xs k bs).getD j false = true := by
 induction k generalizing bs with
 | zero => exact h
 | succ k ih => exact ih _ (Zio _ _ bs j h)
theorem Ze8 (x : Nd) (k : Nat) (b : Bool) (bs : List Bool) (j : Nat) (hn : Zav x k = true) (hj : k <= j) : (Zan x b bs).getD j false = bs.getD j false := by
 have ha : hasA x.k = true -> x.a.toNat ≠ j := fun h => by have := ZbM hn h; omega
 have hb : hasB x.k = true -> x.b.toNat ≠ j := fun h => by have := ZbQ hn h; omega
 unfold Zan setB
 split
 ·rename_i h1
  rw [Bool.and_eq_true] at h1
  rw [Zbv _ _ _ (hb h1.2)]
  split
  ·rename_i h2
   rw [Bool.and_eq_true] at h2
   rw [Zbv _ _ _ (ha h2.2)]
  ·rfl
 ·split
  ·rename_i h2
   rw [Bool.and_eq_true] at h2
   rw [Zbv _ _ _ (ha h2.2)]
  ·rfl
theorem Zir (xs : List Nd) (k : Nat) (bs : List Bool) (j : Nat) (hk : k <= xs.length) (hp : ∀ (i : Nat) (x : Nd), xs[i]? = some x -> Zav x i = true) (hj : k <= j) : (down xs k bs).getD j false = bs.getD j false := by
 induction k generalizing bs with
 | zero => rfl
 | succ k ih =>
  have hx : xs[k]? = some xs[k] := List.getElem?_eq_getElem (by omega)
  rw [Zeh xs bs k _ hx, ih _ (by omega) (by omega), Ze8 _ k _ _ _ (hp k _ hx) (by omega)]
theorem Zhg (xs : List Nd) (k : Nat) (bs : List Bool) (hk : k <= xs.length) (hl : bs.length = xs.length) (hp : ∀ (i : Nat) (x : Nd), xs[i]? = some x -> Zav x i = true) (i : Nat) (hi : i < k) (x : Nd) (hx : xs[i]? = some x) (ht : (down xs k bs).getD i false = true) :
  (hasA x.k = true -> (down xs k bs).getD x.a.toNat false = true) /\ (hasB x.k = true -> (down xs k bs).getD x.b.toNat false = true) := by
 induction k generalizing bs with
 | zero => omega
 | succ k ih =>
  have hxk : xs[k]? = some xs[k] := List.getElem?_eq_getElem (by omega)
  rw [Zeh xs bs k _ hxk] at ht ⊢
  by_cases hik : i < k
  ·exact ih _ (by omega) (by rw [Zbo]; exact hl) hik ht
  ·have hie : i = k := by omega
   subst hie
   rw [hx] at hxk
   injection hxk with hxk
   rw [<- hxk] at ht ⊢
   have hn := hp i x hx
   rw [Zir xs i _ i (by omega) hp (Nat.le_refl _), Ze8 x i _ _ i hn (Nat.le_refl _)] at ht
   rw [ht]
   constructor
   ·intro hA
    have hr := ZbM hn hA
    apply Ze7
    unfold Zan
    rw [hA]
    split
    ·exact Zch _ _ _ (ZbA _ _ (by omega))
    ·exact ZbA _ _ (by omega)
   ·intro hB
    have hr := ZbQ hn hB
    apply Ze7
    unfold Zan
    rw [hB]
    simp only [Bool.and_self, if_true]
    refine ZbA _ _ ?_
    split <;> (try rw [Zbk]) <;> omega
theorem ZfM (xs : List Nd) (rs : List Int) (hp : ∀ (i : Nat) (x : Nd), xs[i]? = some x -> Zav x i = true) (i : Nat) (x : Nd) (hx : xs[i]? = some x) (ht : (Zat xs rs).getD i false = true) :
  (hasA x.k = true -> (Zat xs rs).getD x.a.toNat false = true) /\ (hasB x.k = true -> (Zat xs rs).getD x.b.toNat false = true) :=
 Zhg xs xs.length _ (Nat.le_refl _) (Zcb _ _) hp i (List.getElem?_eq_some_iff.1 hx).1 x hx ht
theorem ZgY (l1 l2 : List Nd) (bs : List Bool) (k : Nat) : its (l1 ++ l2) bs k = its l1 bs k ++ its l2 bs (k + l1.length) := by
 induction l1 generalizing k with
 | nil => simp [its]
 | cons x l ih =>
  simp only [List.cons_append, its, List.length_cons]
  rw [ih, show k + 1 + l.length = k + (l.length + 1) by omega]
  split <;> simp
def Alm (s t : List Nd × List Int) : Prop := s.1 = t.1 /\ ∀ j, s.2.getD j 0 = t.2.getD j 0
def cyOk (ps xs : List Nd) (v : Int) : Bool := Zaq xs && hasI xs v && decide (ps.length + (mvN ps.length xs [v]).length <= 3000)
def cyL (ps xs : List Nd) (v : Int) : List Nd := if Zaq ps then (if cyOk ps xs v then ps ++ mvN ps.length xs [v] else ps) else []
def cyI (ps xs : List Nd) (v : Int) : Int := if Zaq ps then (if cyOk ps xs v then (Zbt ps.length xs (Zat xs [v])).2.getD v.toNat 0 else -1) else -1
def Zfp (xs : List Nd) (bs : List Bool) : Prop := ∀ (i : Nat) (x : Nd), xs[i]? = some x -> bs.getD i false = true -> (hasA x.k = true -> bs.getD x.a.toNat false = true) /\ (hasB x.k = true -> bs.getD x.b.toNat false = true)
structure MvInv (a : Nat) (xs : List Nd) (bs : List Bool) (k : Nat) (s : List Nd × List Int) : Prop where
 len : s.2.length = xs.length
 at_ : ∀ (i : Nat) (x : Nd), i < k -> xs[i]? = some x -> bs.getD i false = true -> ∃ p : Nat, s.2.getD i 0 = ((a + p : Nat) : Int) /\ p <= i /\ s.1[p]? = some (nrm s.2 x)
 ok : ∀ (j : Nat) (y : Nd), s.1[j]? = some y -> Zav y ((a + j : Nat) : Int) = true
 from_ : ∀ j, j < s.1.length -> ∃ i, i < k /\ bs.getD i false = true /\ s.2.getD i 0 = ((a + j : Nat) : Int)
 cnt : s.1.length <= k
theorem Zdb (l : List Int) (i j : Nat) (z : Int) (h : i ≠ j) : (l.set i z).getD j 0 = l.getD j 0 := by
 simp only [List.getD_eq_getElem?_getD]; rw [List.getElem?_set, if_neg h]
theorem Zbu (l : List Int) (i : Nat) (z : Int) (h : i < l.length) : (l.set i z).getD i 0 = z := by
 simp only [List.getD_eq_getElem?_getD]; rw [List.getElem?_set]; simp [h]
theorem ZhO {x : Nd} {i : Int} {fs : List Int} {q : Int} (hn : Zav x i = true) (hA : hasA x.k = true -> 0 <= fs.getD x.a.toNat 0 /\ fs.getD x.a.toNat 0 < q) (hB : hasB x.k = true -> 0 <= fs.getD x.b.toNat 0 /\ fs.getD x.b.toNat 0 < q) : Zav (nrm fs x) q = true := by
 obtain ⟨xk, xn, xs, xa, xb⟩ := x
 simp only [Zav, nrm, Bool.and_eq_true] at hn hA hB ⊢
 obtain ⟨h1, ⟨h2, h3⟩, h4⟩ := hn
 refine ⟨h1, ⟨h2, ?_⟩, ?_⟩
 ·cases hh : hasA xk with
  | false => rw [hh] at h3; simpa [Zbe] using h3
  | true => simpa [Zbe] using hA hh
 ·cases hh : hasB xk with
  | false => rw [hh] at h4; simpa [Zbe] using h4
  | true => simpa [Zbe] using hB hh
theorem ZeH (xs : List Nd) (bs : List Bool) (k : Nat) (x : Nd) (h : xs[k]? = some x) : its (xs.take (k + 1)) bs 0 = its (xs.take k) bs 0 ++ (if bs.getD k false then [(k, x)] else []) := by
 have hl := (List.getElem?_eq_some_iff.1 h).1
 rw [List.take_add_one, h, Option.toList_some, ZgY]
 congr 1
 rw [List.length_take, Nat.min_eq_left (by omega), Nat.zero_add]
 simp [its]
theorem Zkh (a : Nat) (xs : List Nd) (bs : List Bool) (hp : ∀ (i : Nat) (x : Nd), xs[i]? = some x -> Zav x i = true) (hc : Zfp xs bs) (k : Nat) (hk : k <= xs.length) : MvInv a xs bs k (mvF a xs.length (its (xs.take k) bs 0)) := by
 induction k with
 | zero =>
  refine ⟨(ZcX _ _ _).2, fun i x h => absurd h (by omega), fun j y h => ?_, fun j h => ?_, ?_⟩
  ·simp [its, mvF] at h
  ·simp [its, mvF] at h
  ·simp [its, mvF]
 | succ k ih =>
  have I := ih (by omega)
  obtain ⟨x, hx⟩ : ∃ x, xs[k]? = some x := ⟨xs[k], by simp⟩
  rw [ZeH xs bs k x hx]
  cases hb : bs.getD k false with
  | false =>
   simp only [Bool.false_eq_true, if_false, List.append_nil]
   refine ⟨I.len, fun i y hi hy ht => ?_, I.ok, fun j hj => ?_, by have := I.cnt; omega⟩
   ·rcases Nat.lt_or_ge i k with h | h
    ·exact I.at_ i y h hy ht
    ·have : i = k := by omega
     subst this
     rw [hb] at ht; cases ht
   ·obtain ⟨i, h1, h2, h3⟩ := I.from_ j hj
    exact ⟨i, by omega, h2, h3⟩
  | true =>
   simp only [if_true]
   rw [Zgc]
   generalize mvF a xs.length (its (xs.take k) bs 0) = s at I
   have hn := hp k x hx
   obtain ⟨cA, cB⟩ := hc k x hx hb
   have hlk : k < s.2.length := by rw [I.len]; omega
   have up : ∀ (i : Nat) (y : Nd), i <= k -> xs[i]? = some y -> nrm (s.2.set k ((a + s.1.length : Nat) : Int)) y = nrm s.2 y := fun i y hi hy => by
    have hy' := hp i y hy
    refine ZjW _ _ _ _ (fun h => ?_) (fun h => ?_)
    ·have := ZbM hy' h; omega
    ·have := ZbQ hy' h; omega
   have pA : hasA x.k = true -> ∃ p : Nat, s.2.getD x.a.toNat 0 = ((a + p : Nat) : Int) /\ p < s.1.length := fun h => by
    have h1 := ZbM hn h
    obtain ⟨z, hz⟩ : ∃ z, xs[x.a.toNat]? = some z := ⟨xs[x.a.toNat]'(by omega), by simp⟩
    obtain ⟨p, e1, e2, e3⟩ := I.at_ x.a.toNat z (by omega) hz (cA h)
    exact ⟨p, e1, (List.getElem?_eq_some_iff.1 e3).1⟩
   have pB : hasB x.k = true -> ∃ p : Nat, s.2.getD x.b.toNat 0 = ((a + p : Nat) : Int) /\ p < s.1.length := fun h => by
    have h1 := ZbQ hn h
    obtain ⟨z, hz⟩ : ∃ z, xs[x.b.toNat]? = some z := ⟨xs[x.b.toNat]'(by omega), by simp⟩
    obtain ⟨p, e1, e2, e3⟩ := I.at_ x.b.toNat z (by omega) hz (cB h)
    exact ⟨p, e1, (List.getElem?_eq_some_iff.1 e3).1⟩
   refine ⟨by simp [mvS, I.len], fun i y hi hy ht => ?_, fun j y hj => ?_, fun j hj => ?_, by have := I.cnt; simp [mvS]; omega⟩
   ·rcases Nat.lt_or_ge i k with h | h
    ·obtain ⟨p, e1, e2, e3⟩ := I.at_ i y h hy ht
     have hpl := (List.getElem?_eq_some_iff.1 e3).1
     refine ⟨p, ?_, e2, ?_⟩
     ·simp only [mvS]; rw [Zdb _ _ _ _ (by omega)]; exact e1
     ·simp only [mvS]; rw [List.getElem?_append_left hpl, up i y (by omega) hy]; exact e3
    ·have : i = k := by omega
     subst this
     rw [hx] at hy; cases hy
     refine ⟨s.1.length, ?_, I.cnt, ?_⟩
     ·simp only [mvS]; rw [Zbu _ _ _ hlk]
     ·simp only [mvS]; rw [List.getElem?_append_right (Nat.le_refl _), up i x (Nat.le_refl _) hx]; simp
   ·simp only [mvS] at hj
    rcases Nat.lt_or_ge j s.1.length with h | h
    ·rw [List.getElem?_append_left h] at hj; exact I.ok j y hj
    ·rw [List.getElem?_append_right h] at hj
     have hj' := (List.getElem?_eq_some_iff.1 hj).1
     simp at hj'
     have : j = s.1.length := by omega
     subst this
     simp at hj
     subst hj
     refine ZhO hn (fun h => ?_) (fun h => ?_)
     ·obtain ⟨p, e1, e2⟩ := pA h; rw [e1]; omega
     ·obtain ⟨p, e1, e2⟩ := pB h; rw [e1]; omega
   ·simp only [mvS, List.length_append, List.length_singleton] at hj
    rcases Nat.lt_or_ge j s.1.length with h | h
    ·obtain ⟨i, h1, h2, h3⟩ := I.from_ j h
     exact ⟨i, by omega, h2, by simp only [mvS]; rw [Zdb _ _ _ _ (by omega)]; exact h3⟩
    ·have : j = s.1.length := by omega
     subst this
     exact ⟨k, by omega, hb, by simp only [mvS]; rw [Zbu _ _ _ hlk]⟩
theorem Zkd (a : Nat) (xs : List Nd) (bs : List Bool) (hp : ∀ (i : Nat) (x : Nd), xs[i]? = some x -> Zav x i = true) (hc : Zfp xs bs) : MvInv a xs bs xs.length (Zbt a xs bs) := by
 have := Zkh a xs bs hp hc xs.length (Nat.le_refl _)
 rw [List.take_length] at this
 exact this
theorem ZeC (xs : List Nd) (rs : List Int) (hp : ∀ (i : Nat) (x : Nd), xs[i]? = some x -> Zav x i = true) : Zfp xs (Zat xs rs) := fun i x hx ht => ZfM xs rs hp i x hx ht
theorem ZkL (xs : List Nd) (bs : List Bool) (hp : ∀ (i : Nat) (x : Nd), xs[i]? = some x -> Zav x i = true) (hb : ∀ i, i < xs.length -> bs.getD i false = true) (k : Nat) (hk : k <= xs.length) :
  (mvF 0 xs.length (its (xs.take k) bs 0)).1 = xs.take k /\ ∀ i, i < k -> (mvF 0 xs.length (its (xs.take k) bs 0)).2.getD i 0 = (i : Int) := by
 induction k with
 | zero => exact ⟨by simp [its, mvF], fun i h => absurd h (by omega)⟩
 | succ k ih =>
  obtain ⟨h1, h2⟩ := ih (by omega)
  have hlen := (ZcX 0 xs.length (its (xs.take k) bs 0)).2
  obtain ⟨x, hx⟩ : ∃ x, xs[k]? = some x := ⟨xs[k], by simp⟩
  rw [ZeH xs bs k x hx, hb k (by omega), if_pos rfl, Zgc]
  generalize mvF 0 xs.length (its (xs.take k) bs 0) = s at h1 h2 hlen
  have hn := hp k x hx
  have e : nrm s.2 x = x := by
   obtain ⟨xk, xn, xs', xa, xb⟩ := x
   simp only [nrm, Nd.mk.injEq, true_and]
   constructor
   ·split
    ·rename_i h
     have := ZbM hn h
     dsimp only at this
     rw [h2 xa.toNat (by omega)]; omega
    ·rfl
   ·split
    ·rename_i h
     have := ZbQ hn h
     dsimp only at this
     rw [h2 xb.toNat (by omega)]; omega
    ·rfl
  have hl : s.1.length = k := by rw [h1]; simp; omega
  refine ⟨?_, fun i hi => ?_⟩
  ·simp only [mvS]
   rw [e, h1, List.take_add_one, hx, Option.toList_some]
  ·simp only [mvS]
   rcases Nat.lt_or_ge i k with h | h
   ·rw [Zdb _ _ _ _ (by omega)]; exact h2 i h
   ·have : i = k := by omega
    subst this
    rw [Zbu _ _ _ (by omega), hl]; simp
def At8 (xs : List Nd) (rs : List Int) (a : Nat) (i j : Nat) : Prop := i < xs.length /\ (Zat xs rs).getD i false = true /\ (Zbt a xs (Zat xs rs)).2.getD i 0 = (j : Int)
theorem Zh9 (xs : List Nd) (rs : List Int) (hp : Zaq xs = true) (hr : allI xs rs = true) (hb : ∀ i, i < xs.length -> (Zat xs rs).getD i false = true) : mvN 0 xs rs = xs /\ mvR 0 xs rs rs = rs := by
 have I := ZkL xs (Zat xs rs) (fun _ _ h => ZbF hp h) hb xs.length (Nat.le_refl _)
 rw [List.take_length] at I
 refine ⟨I.1, ?_⟩
 unfold mvR
 have : ∀ r ∈ rs, (Zbt 0 xs (Zat xs rs)).2.getD r.toNat 0 = r := fun r h => by
  have hh : hasI xs r = true := by
   unfold allI at hr
   exact List.all_eq_true.1 hr r h
  simp only [hasI, Bool.and_eq_true, decide_eq_true_eq] at hh
  have := I.2 r.toNat (by omega)
  unfold Zbt
  rw [this]
  omega
 rw [List.map_congr_left (g := id) (fun r h => this r h)]
 exact List.map_id rs
theorem Zjr (xs : List Nd) (bs : List Bool) (k : Nat) (h : (its xs bs k).length = xs.length) : ∀ i, i < xs.length -> bs.getD (k + i) false = true := by
 induction xs generalizing k with
 | nil => intro i hi; simp at hi
 | cons x xs ih =>
  have hle := ZhI xs bs (k + 1)
  simp only [its] at h
  split at h
  ·rename_i hb
   simp only [List.length_cons, Nat.add_right_cancel_iff] at h
   intro i hi
   cases i with
   | zero => exact hb
   | succ i => rw [show k + (i + 1) = k + 1 + i by omega]; exact ih (k + 1) h i (by simpa using hi)
  ·simp at h; omega
def allR (xs : List Nd) (rs : List Int) : Bool := !(Zat xs rs).contains false
theorem Zjv (xs : List Nd) (rs : List Int) : allR xs rs = true <-> ∀ i, i < xs.length -> (Zat xs rs).getD i false = true := by
 unfold allR
 rw [Bool.not_eq_true', <- Bool.not_eq_true, List.contains_iff_mem]
 constructor
 ·intro h i hi
  rw [List.getD_eq_getElem?_getD, List.getElem?_eq_getElem (by rw [Za3]; exact hi)]
  cases hb : (Zat xs rs)[i]'(by rw [Za3]; exact hi) with
  | true => rfl
  | false => exact absurd (by rw [<- hb]; exact List.getElem_mem _) h
 ·intro h hm
  obtain ⟨i, hi, he⟩ := List.getElem_of_mem hm
  have := h i (by rw [<- Za3 xs rs]; exact hi)
  rw [List.getD_eq_getElem?_getD, List.getElem?_eq_getElem hi, he] at this
  cases this
theorem ZeA (xs : List Nd) (rs : List Int) (hp : Zaq xs = true) (hr : allI xs rs = true) : Zb8 (mvN 0 xs rs) = Zb8 xs <-> allR xs rs = true := by
 rw [Zjv]
 have hl := Za0 hp
 constructor
 ·intro h
  have hm := Zh2 0 xs rs
  have e : ((mvN 0 xs rs).length : Int) = (xs.length : Int) := ZiD (by omega) (by omega) (by omega) (by omega) h
  have e2 : (its xs (Zat xs rs) 0).length = xs.length := by
   have : (mvN 0 xs rs).length = (its xs (Zat xs rs) 0).length := (ZcX _ _ _).1
   omega
  intro i hi
  have := Zjr xs (Zat xs rs) 0 e2 i hi
  rwa [Nat.zero_add] at this
 ·intro h
  rw [(Zh9 xs rs hp hr h).1]
def vrR (zs : List Int) : Option (List Nd) :=
 (rdP zs 0).bind fun q => if q.2 = zs.length /\ q.1 ≠ [] /\ allR q.1 [(q.1.length : Int) - 1] = true then some q.1 else none
theorem Zfl {xs : List Nd} (h : xs ≠ []) : allI xs [(xs.length : Int) - 1] = true := by
 have := List.length_pos_iff.2 h
 simp [allI, hasI]
 omega
theorem ZiR (zs : List Int) (hz : ∀ z ∈ zs, 0 <= z /\ z <= 255) (xs : List Nd) : vrR zs = some xs <-> (sOk zs 0 true = true /\ (sP zs 0 true).1 = xs) /\ xs ≠ [] /\ Zb8 (mvN 0 xs [(xs.length : Int) - 1]) = zs := by
 rw [Zki]
 unfold vrR
 rw [Option.bind_eq_some_iff]
 constructor
 ·rintro ⟨⟨ys, b⟩, h1, h2⟩
  split at h2
  ·rename_i hc
   cases h2
   obtain ⟨c1, c2, c3⟩ := hc
   simp only at c1 c2 c3
   subst c1
   obtain ⟨hp, hw⟩ := Zge hz h1
   exact ⟨h1, c2, ((ZeA ys _ hp (Zfl c2)).2 c3).trans hw⟩
  ·cases h2
 ·rintro ⟨h1, h2, h3⟩
  obtain ⟨hp, hw⟩ := Zge hz h1
  refine ⟨_, h1, ?_⟩
  rw [if_pos ⟨rfl, h2, (ZeA xs _ hp (Zfl h2)).1 (h3.trans hw.symm)⟩]
def vb (zs : List Bool) : List Value := zs.map .bool
theorem Zb3 (zs : List Bool) (i : Nat) (h : i < zs.length) : (vb zs)[i]? = some (.bool (zs.getD i false)) := by simp [vb, List.getD, h]
theorem ZdG (zs : List Bool) (i : Nat) (z : Bool) : (vb zs).set i (.bool z) = vb (zs.set i z) := by simp [vb, List.map_set]
def BRow (w : World) (v : Value) (zs : List Bool) : Prop :=
 ∃ ao cap, v = .slice ao zs.length cap /\ (zs.length <= cap /\ (ao = none -> cap = 0)) /\ zs.length <= 9223372036854775807 /\ (zs ≠ [] -> ∃ g o, ao = some ⟨g, o, none⟩ /\ g < w.heap.size /\ ∀ i, i < zs.length -> w.cell? ⟨g, o + i, none⟩ = some (.bool (zs.getD i false)))
theorem BRow.below {w w' : World} {v : Value} {zs : List Bool} (h : BRow w v zs) (hb : Below w.heap.size w w') : BRow w' v zs := by
 obtain ⟨ao, cap, rfl, hc, hm, hcell⟩ := h
 refine ⟨ao, cap, rfl, hc, hm, fun hne => ?_⟩
 obtain ⟨g, o, rfl, hg, hcell⟩ := hcell hne
 exact ⟨g, o, rfl, Nat.lt_of_lt_of_le hg hb.size, fun i hi => (hb.cell (p := ⟨g, o + i, none⟩) hg).trans (hcell i hi)⟩
theorem BRow.of_own {w : World} {base : Nat} {v : Value} {zs : List Bool} (h : w.ownsRow base 4 1 v zs.length (vb zs)) (hm : zs.length <= 9223372036854775807) : BRow w v zs := by
 rcases h.2 with ⟨rfl, h0⟩ | ⟨g, cap, cur, rfl, hb, hg, hnc, hcm, hcs, htake⟩
 ·have : zs = [] := List.eq_nil_of_length_eq_zero h0
  subst this
  exact ⟨none, 0, rfl, by simp, by simp, fun h => absurd rfl h⟩
 ·refine ⟨_, cap, rfl, ⟨hnc, fun h => by cases h⟩, hm, fun _ => ⟨g, 0, rfl, (bl hg), fun i hi => ?_⟩⟩
  have := h.cellAt i (by omega)
  rw [Nat.zero_add, this, Zb3 zs i hi]
def mk3 (k : Int) : Bool := k % 3 == 0
def ZkD (k : Int) (zs : List Bool) (i : Nat) : List Bool := (List.range i).map (fun (j : Nat) => mk3 (k + (j : Int))) ++ zs.drop i
theorem Zld : (Tryz.prog.info? 4).map (fun i => (i.zero, i.size, i.bytes)) = some (some (.bool false), 1, 1) := by kernel_rfl
theorem Zij (n : Nat) : vb (List.replicate n false) = (madeCells #[Value.bool false] n).toList := by rw [toList_madeCells_one]; simp [vb]
theorem ZfE {xs : List Nd} {rs : List Int} (h : allI xs rs = true) (k : Nat) (hk : k < rs.length) : 0 <= rs.getD k 0 /\ rs.getD k 0 < xs.length := by
 unfold allI at h
 rw [List.all_eq_true] at h
 have := h (rs.getD k 0) (by rw [List.getD_eq_getElem?_getD, List.getElem?_eq_getElem hk]; exact List.getElem_mem _)
 simpa [hasI] using this
set_option maxRecDepth 100000 in
set_option maxHeartbeats 1600000 in
theorem ZgS (ao : Option Addr) (cap : Nat) (vl : Value) (xs : List Nd) (rs : List Int) (w : World) (R : NRow w (.slice ao xs.length cap) xs) (L : IRow w vl rs) (hp : Zaq xs = true) (hr : allI xs rs = true) :
  Calls Tryz.prog 261 #[.agg #[.slice ao xs.length cap], vl] w fun e w' => ∃ v', e = .returned v' /\ w'.ownsRow w.heap.size 4 1 v' xs.length (vb (Zat xs rs)) /\ Below w.heap.size w w' := by
 have hlen := Za0 hp
 have hB0 : Below w.heap.size w (w.alloc (Obj.cells #[.slice ao xs.length cap] 40)) := (Below.refl _ _).alloc (Nat.le_refl _) _
 have hbx := heap_alloc_new w (Obj.cells #[.slice ao xs.length cap] 40)
 have R0 := R.below hB0
 have L0 := L.below hB0
 clear R L
 have hs0 : (w.alloc (Obj.cells #[.slice ao xs.length cap] 40)).heap.size = w.heap.size + 1 := by simp
 obtain ⟨i0, hi, hz0, hz1, hz2⟩ := info_parts Zld
 have hbytes : i0.bytes * xs.length <= 281474976710656 := by rw [hz2]; omega
 have hmax : xs.length <= maxLen := by unfold maxLen; omega
 go_enter Tryz.func261, Tryz.ntmps261
 go_wp2_with (at_make; refine wpList_make_full _ rfl _ _ 300 rfl (w.heap.size + 1) 4 i0 (.bool false) 1 Tryz.underlying300 hi hz0 hz1 _ _ _ _ xs.length rfl rfl rfl rfl hbytes hmax (by simp) ?_)
 intro w1 hown hgrow
 generalize w.alloc (Obj.cells #[.slice ao xs.length cap] 40) = w0 at *
 have hB1 : Below (w.heap.size + 1) w0 w1 := (Below.refl _ _).grown hgrow (by omega) (by intro k hk; cases hk)
 clear hgrow hbytes hmax
 obtain ⟨al, cl, rfl, hcl, _, hlc⟩ := L0
 go_wp2_with fail
 go_loopw [18] (fun i wr => ∃ (k : Nat) (bs : List Bool), k <= rs.length /\ i = .int .i64 k /\ bs.length = xs.length /\ Hid ((rs.drop k).foldl setB bs = Zde xs.length rs) /\ wr.ownsRow (w.heap.size + 1) 4 1 (.slice (some ⟨w.heap.size + 1, 0, none⟩) xs.length xs.length) xs.length (vb bs) /\ Below (w.heap.size + 1) w0 wr) (fun i _ => rs.length - (intOf i).toNat)
 case atStart => exact ⟨0, List.replicate xs.length false, by omega, rfl, by simp, rfl, by rw [Zij]; exact hown, hB1⟩
 case round =>
  clear hown hB1
  obtain ⟨k, bs, hk, rfl, hbl, HF, hown, hB⟩ := hrel
  by_cases hlt : k < rs.length
  ·obtain ⟨g, o, rfl, hg, hlc⟩ := hlc (by intro e; subst e; simp at hlt)
   have ez := (hB.cell (p := ⟨g, o + k, none⟩) (by simp; omega)).trans (hlc k hlt)
   obtain ⟨h1, h2⟩ := ZfE hr k hlt
   have HF2 : Hid ((rs.drop (k + 1)).foldl setB (setB bs (rs.getD k 0)) = Zde xs.length rs) := (Zes rs bs k hlt).symm.trans HF.out
   generalize rs.getD k 0 = z at ez h1 h2 HF2
   obtain ⟨nz, rfl⟩ := Int.eq_ofNat_of_zero_le h1
   have ec := hown.cellAt nz (by omega)
   rw [Zb3 _ _ (by omega)] at ec
   have ef := hown.frozenAt nz
   have hs := (hown.stored nz (.bool true)).1
   rw [ZdG] at hs
   clear hlc hr HF
   go_wp2
   go_roundw
   case rel => exact ⟨k + 1, setB bs nz, by omega, by go_num, by rw [Zbk, hbl], HF2, hs, hB.setCell (p := ⟨w.heap.size + 1, nz, none⟩) (Nat.le_refl _) _⟩
   case measure => simp [intOf]; omega
  ·have hkx : k = rs.length := by omega
   subst hkx
   have HR : Hid (down xs xs.length bs = Zat xs rs) := by
    have := HF.out
    rw [List.drop_length, List.foldl_nil] at this
    rw [this]
    rfl
   clear HF hk hlt hlc hr
   have ep := (hB.cell (p := ⟨w.heap.size, 0, none⟩) (by simp)).trans ((cell_of_row w0 _ 0 _ _ _ hbx).trans rfl)
   have hBw : w.heap.size + 1 < wr.heap.size := (hown.lt _ rfl).2
   go_wp2_with fail
   go_loopw [8] (fun i wq => ∃ (k : Nat) (cs : List Bool), k <= xs.length /\ i = .int .i64 ((k : Int) - 1) /\ cs.length = xs.length /\ Hid (down xs k cs = Zat xs rs) /\ wq.ownsRow (w.heap.size + 1) 4 1 (.slice (some ⟨w.heap.size + 1, 0, none⟩) xs.length xs.length) xs.length (vb cs) /\ Below (w.heap.size + 1) w0 wq) (fun i _ => (intOf i + 1).toNat)
   case atStart => exact ⟨xs.length, bs, Nat.le_refl _, rfl, hbl, HR, hown, hB⟩
   case round =>
    clear hown hB HR hbl ep hBw
    clear bs
    obtain ⟨k, bs, hk, rfl, hbl, HR, hown, hB⟩ := hrel
    have ep := (hB.cell (p := ⟨w.heap.size, 0, none⟩) (by simp)).trans ((cell_of_row w0 _ 0 _ _ _ hbx).trans rfl)
    have hBw : w.heap.size + 1 < wr.heap.size := (hown.lt _ rfl).2
    rcases Nat.eq_zero_or_pos k with rfl | hpos
    ·have HQ : Hid (bs = Zat xs rs) := HR
     clear HR
     go_wp2
     go_ret
     rw [HQ.out] at hown
     exact ⟨_, rfl, Zal hown (by omega), hB0.trans (hB.mono (by omega))⟩
    ·obtain ⟨j, rfl⟩ : ∃ j, k = j + 1 := ⟨k - 1, by omega⟩
     rw [show ((j + 1 : Nat) : Int) - 1 = (j : Int) by omega]
     obtain ⟨ao', cap', e', _, _, hz, hcell⟩ := R0
     simp only [Value.slice.injEq, true_and] at e'
     obtain ⟨rfl, rfl⟩ := e'
     obtain ⟨g, o, rfl, hg, hcell⟩ := hcell (by intro e; subst e; simp at hk)
     obtain ⟨x, hx⟩ : ∃ x, xs[j]? = some x := ⟨xs[j], by simp⟩
     obtain ⟨c0, c1, c2, c3, c4⟩ := (hcell j x hx).below hB (by rw [hs0] at hg; exact hg)
     have hnb := ZbF hp hx
     have hkd := ZgP hnb
     have HD : Hid (down xs j (Zan x (bs.getD j false) bs) = Zat xs rs) := (Zeh xs bs j x hx).symm.trans HR.out
     have hA : hasA x.k = true -> 0 <= x.a /\ x.a < (j : Int) := fun h => ZbM hnb h
     have hBb : hasB x.k = true -> 0 <= x.b /\ x.b < (j : Int) := fun h => ZbQ hnb h
     clear hcell hx HR hnb
     go_wp2_with fail
     refine (Zc2 x.k _).mono ?_
     rintro e w4 ⟨rfl, hb4⟩
     rw [Zel, if_pos hkd]
     have hbox := (hb4.block wr.heap.size (by simp)).trans (heap_alloc_new _ _)
     have d3 := cell_of_row w4 _ 3 _ _ _ hbox
     have d4 := cell_of_row w4 _ 4 _ _ _ hbox
     simp only [List.getElem?_toArray, List.getElem?_cons_succ, List.getElem?_cons_zero] at d3 d4
     have hB4' : Below wr.heap.size wr w4 := ((Below.refl wr.heap.size wr).alloc (Nat.le_refl _) _).trans (hb4.mono (by simp))
     have hown4 := Zad hown hB4'
     have hB4 := hB.trans (hB4'.mono (by omega))
     have hw4 : wr.heap.size < w4.heap.size := (bl hbox)
     have hw4' : w.heap.size + 1 < w4.heap.size := by omega
     have hne4 : w.heap.size + 1 ≠ wr.heap.size := by omega
     have e0 := hown4.cellAt j (by omega)
     rw [Zb3 _ _ (by omega)] at e0
     clear c0 c1 c2 c3 c4 hbox hb4 hB4' hown hB ep
     have hrl : ∀ z, (Zan x z bs).length = xs.length := fun z => (Zbo x z bs).trans hbl
     cases hb : bs.getD j false with
     | false =>
      rw [hb] at e0 HD
      have hl2 := hrl false
      have HE : Hid (Zan x false bs = bs) := by unfold Hid Zan; simp
      clear hA hBb hrl hb
      go_wp2
      refine ⟨⟨j, bs, by omega, by go_num, hbl, by rw [HE.out] at HD; exact HD, hown4.alloc _, hB4.alloc (by omega) _⟩, by simp [intOf]⟩
     | true =>
      rw [hb] at e0 HD
      have hl2 := hrl true
      clear hrl hb
      cases hAk : hasA x.k with
      | false =>
       have hBk : hasB x.k = false := by
        unfold hasA at hAk; unfold hasB
        simp only [decide_eq_false_iff_not] at hAk ⊢
        omega
       have HE : Hid (Zan x true bs = bs) := by unfold Hid Zan; rw [hAk, hBk]; simp
       rw [hBk]
       clear hA hBb
       go_wp2
       refine ⟨⟨j, bs, by omega, by go_num, hbl, by rw [HE.out] at HD; exact HD, hown4.alloc _, hB4.alloc (by omega) _⟩, by simp [intOf]⟩
      | true =>
       obtain ⟨ha1, ha2⟩ := hA hAk
       obtain ⟨na, hna⟩ := Int.eq_ofNat_of_zero_le ha1
       rw [hna] at d3 ha2
       have e1 := hown4.cellAt na (by omega)
       rw [Zb3 _ _ (by omega)] at e1
       have f1 := hown4.frozenAt na
       have hs1 := (hown4.stored na (.bool true)).1
       rw [ZdG] at hs1
       have hnj : na ≠ j := by omega
       have hB5 := hB4.setCell (p := ⟨w.heap.size + 1, na, none⟩) (Nat.le_refl _) (.bool true)
       cases hBk : hasB x.k with
       | false =>
        have HE : Hid (Zan x true bs = bs.set na true) := by unfold Hid Zan setB; rw [hAk, hBk, hna]; simp
        clear hA hBb
        go_wp2
        refine ⟨⟨j, bs.set na true, by omega, by go_num, by simpa using hbl, by rw [HE.out] at HD; exact HD, hs1.alloc _, hB5.alloc (by simp; omega) _⟩, by simp [intOf]⟩
       | true =>
        obtain ⟨hb1, hb2⟩ := hBb hBk
        obtain ⟨nb', hnb'⟩ := Int.eq_ofNat_of_zero_le hb1
        rw [hnb'] at d4 hb2
        have HE : Hid (Zan x true bs = (bs.set na true).set nb' true) := by unfold Hid Zan setB; rw [hAk, hBk, hna, hnb']; simp
        have e2 := hs1.cellAt nb' (by omega)
        rw [Zb3 _ _ (by simp; omega)] at e2
        have f2 := hs1.frozenAt nb'
        have hs2 := (hs1.stored nb' (.bool true)).1
        rw [ZdG] at hs2
        have hB6 := hB5.setCell (p := ⟨w.heap.size + 1, nb', none⟩) (Nat.le_refl _) (.bool true)
        clear hA hBb
        go_wp2
        refine ⟨⟨j, (bs.set na true).set nb' true, by omega, by go_num, by simpa using hbl, by rw [HE.out] at HD; exact HD, hs2.alloc _, hB6.alloc (by simp; omega) _⟩, by simp [intOf]⟩
def ZkR (xs : List Nd) (rs : List Int) : List Bool := if Zaq xs && allI xs rs then Zat xs rs else []
end Go.Proofs.YtfmafkebddojjaaGreatDoor
