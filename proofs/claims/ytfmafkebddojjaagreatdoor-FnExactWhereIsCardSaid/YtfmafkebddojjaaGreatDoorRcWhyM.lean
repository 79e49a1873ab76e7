/-
  Texts that stood by themselves, laid into one.
-/
import Derived.Test.YtfmafkebddojjaaGreatDoorShapeM
import Derived.Test.YtfmafkebddojjaaGreatDoorMcTM
import Derived.Maps.OwnSet
import Derived.DeepKeys4
import Derived.Test.YtfmafkebddojjaaGreatDoorMach2M
/-
  What is reached: plain mathematics. From behind: what hangs on a node stands behind it. No condition.
-/
namespace Go.Proofs.YtfmafkebddojjaaGreatDoor
open Go.RowKit
def setB (bs : List Bool) (i : Int) : List Bool := bs.set i.toNat true
def ZcT (n : Nat) (rs : List Int) : List Bool := rs.foldl setB (List.replicate n false)
def Zar (x : Nd) (b : Bool) (bs : List Bool) : List Bool :=
 if b && hasB x.k then setB (if b && hasA x.k then setB bs x.a else bs) x.b else (if b && hasA x.k then setB bs x.a else bs)
def down (xs : List Nd) : Nat -> List Bool -> List Bool
 | 0, bs => bs
 | k + 1, bs => down xs k (Zar (xs.getD k ⟨0, 0, ByteArray.empty, 0, 0⟩) (bs.getD k false) bs)
def Zas (xs : List Nd) (rs : List Int) : List Bool := down xs xs.length (ZcT xs.length rs)
theorem Zbg (bs : List Bool) (i : Int) : (setB bs i).length = bs.length := by simp [setB]
theorem ZfL (rs : List Int) (bs : List Bool) : (rs.foldl setB bs).length = bs.length := by
 induction rs generalizing bs with
 | nil => rfl
 | cons r rs ih => rw [List.foldl_cons, ih, Zbg]
theorem ZcD (n : Nat) (rs : List Int) : (ZcT n rs).length = n := by unfold ZcT; rw [ZfL]; simp
theorem Zbs (x : Nd) (b : Bool) (bs : List Bool) : (Zar x b bs).length = bs.length := by
 unfold Zar
 split <;> (split <;> simp [Zbg])
theorem Zgo (xs : List Nd) (k : Nat) (bs : List Bool) : (down xs k bs).length = bs.length := by
 induction k generalizing bs with
 | zero => rfl
 | succ k ih => simp only [down]; rw [ih, Zbs]
theorem Za4 (xs : List Nd) (rs : List Int) : (Zas xs rs).length = xs.length := by unfold Zas; rw [Zgo, ZcD]
theorem Zfm (rs : List Int) (bs : List Bool) (k : Nat) (h : k < rs.length) : (rs.drop k).foldl setB bs = (rs.drop (k + 1)).foldl setB (setB bs (rs.getD k 0)) := by
 rw [List.drop_eq_getElem_cons h, List.foldl_cons, List.getD_eq_getElem?_getD, List.getElem?_eq_getElem h]
 rfl
theorem Zev (xs : List Nd) (bs : List Bool) (k : Nat) (x : Nd) (h : xs[k]? = some x) : down xs (k + 1) bs = down xs k (Zar x (bs.getD k false) bs) := by
 simp only [down, List.getD_eq_getElem?_getD, h, Option.getD_some]
end Go.Proofs.YtfmafkebddojjaaGreatDoor
namespace Go.Proofs.YtfmafkebddojjaaGreatDoor
open Go.RowKit Go.Maps
def nrm (fs : List Int) (x : Nd) : Nd := ⟨x.k, x.n, x.s, if hasA x.k then fs.getD x.a.toNat 0 else x.a, if hasB x.k then fs.getD x.b.toNat 0 else x.b⟩
open Classical in
noncomputable def idx : List Nd -> Nd -> Nat
 | [], _ => 0
 | k :: ks, y => if k = y then 0 else idx ks y + 1
noncomputable def cls : List Nd -> List Nd -> List Int -> List Nd × List Int
 | [], ks, fs => (ks, fs)
 | x :: xs, ks, fs => cls xs (ks ++ [nrm fs x]) (fs ++ [((idx ks (nrm fs x) : Nat) : Int)])
noncomputable def ZlU (xs : List Nd) (k : Nat) : List Nd := (cls (xs.take k) [] []).1
noncomputable def ZlD (xs : List Nd) (k : Nat) : List Int := (cls (xs.take k) [] []).2
def nkey (y : Nd) : Value := .agg #[.int .i64 y.k, .int .i64 y.n, .string y.s, .int .i64 y.a, .int .i64 y.b]
def Zl0 {H : Type} (D : DataW H) (ks : List Nd) : Prop :=
 ∀ y kl, keyOf Tryz.prog 210 (nkey y) = some kl -> (y ∈ ks -> Maps.has D kl = true /\ D.atKey kl (.lit (.int .i64 0)) = .lit (.int .i64 (idx ks y))) /\ (y ∉ ks -> Maps.has D kl = false)
end Go.Proofs.YtfmafkebddojjaaGreatDoor
namespace Go.Proofs.YtfmafkebddojjaaGreatDoor
open Go.RowKit
def its : List Nd -> List Bool -> Nat -> List (Nat × Nd)
 | [], _, _ => []
 | x :: r, bs, k => if bs.getD k false then (k, x) :: its r bs (k + 1) else its r bs (k + 1)
def mvS (a : Nat) (s : List Nd × List Int) (p : Nat × Nd) : List Nd × List Int := (s.1 ++ [nrm s.2 p.2], s.2.set p.1 ((a + s.1.length : Nat) : Int))
def mvF (a n : Nat) (l : List (Nat × Nd)) : List Nd × List Int := l.foldl (mvS a) ([], List.replicate n 0)
def Zbv (a : Nat) (xs : List Nd) (bs : List Bool) : List Nd × List Int := mvF a xs.length (its xs bs 0)
def mvN (a : Nat) (xs : List Nd) (rs : List Int) : List Nd := (Zbv a xs (Zas xs rs)).1
def mvR (a : Nat) (xs : List Nd) (rs qs : List Int) : List Int := qs.map (fun r => (Zbv a xs (Zas xs rs)).2.getD r.toNat 0)
theorem Zg2 (a n : Nat) (l : List (Nat × Nd)) (p : Nat × Nd) : mvF a n (l ++ [p]) = mvS a (mvF a n l) p := by simp [mvF]
theorem Zkz (a : Nat) (l : List (Nat × Nd)) (s : List Nd × List Int) : (l.foldl (mvS a) s).1.length = s.1.length + l.length /\ (l.foldl (mvS a) s).2.length = s.2.length := by
 induction l generalizing s with
 | nil => simp
 | cons p l ih =>
  rw [List.foldl_cons]
  obtain ⟨h1, h2⟩ := ih (mvS a s p)
  rw [h1, h2]
  simp [mvS]
  omega
theorem Zdm (a n : Nat) (l : List (Nat × Nd)) : (mvF a n l).1.length = l.length /\ (mvF a n l).2.length = n := by
 obtain ⟨h1, h2⟩ := Zkz a l ([], List.replicate n 0)
 exact ⟨by unfold mvF; rw [h1]; simp, by unfold mvF; rw [h2]; simp⟩
theorem Zlv (xs : List Nd) (bs : List Bool) (k : Nat) (x : Nd) (h : xs[k]? = some x) : its (xs.drop k) bs k = if bs.getD k false then (k, x) :: its (xs.drop (k + 1)) bs (k + 1) else its (xs.drop (k + 1)) bs (k + 1) := by
 obtain ⟨hl, he⟩ := List.getElem?_eq_some_iff.1 h
 rw [List.drop_eq_getElem_cons hl, its, he]
theorem ZkP (xs : List Nd) (bs : List Bool) : its (xs.drop xs.length) bs xs.length = [] := by rw [List.drop_length]; rfl
theorem Zig (xs : List Nd) (bs : List Bool) (k : Nat) : (its xs bs k).length <= xs.length := by
 induction xs generalizing k with
 | nil => simp [its]
 | cons x xs ih =>
  have := ih (k + 1)
  simp only [its]
  split <;> simp <;> omega
theorem Zf8 (a : Nat) (xs : List Nd) (rs : List Int) : (mvN a xs rs).length <= xs.length := by
 unfold mvN Zbv
 rw [(Zdm _ _ _).1]
 exact Zig _ _ _
theorem ZkY (l : List Int) (i : Nat) (z : Int) (x : Nd) (hA : hasA x.k = true -> x.a.toNat ≠ i) (hB : hasB x.k = true -> x.b.toNat ≠ i) : nrm (l.set i z) x = nrm l x := by
 unfold nrm
 simp only [Nd.mk.injEq, true_and]
 constructor
 ·split
  ·rename_i h; simp only [List.getD_eq_getElem?_getD]; rw [List.getElem?_set, if_neg (fun e => hA h e.symm)]
  ·rfl
 ·split
  ·rename_i h; simp only [List.getD_eq_getElem?_getD]; rw [List.getElem?_set, if_neg (fun e => hB h e.symm)]
  ·rfl
theorem ZeN (bs : List Bool) (i j : Nat) (h : bs.getD j false = true) : (bs.set i true).getD j false = true := by
 simp only [List.getD_eq_getElem?_getD] at h ⊢
 rw [List.getElem?_set]
 split
 ·split
  ·rfl
  ·rename_i e hl; subst e; rw [List.getElem?_eq_none (by omega)] at h; exact h
 ·exact h
theorem Zbp (bs : List Bool) (i : Nat) (h : i < bs.length) : (bs.set i true).getD i false = true := by
 simp only [List.getD_eq_getElem?_getD]
 rw [List.getElem?_set, if_pos rfl, if_pos h]
 rfl
theorem Zbz (bs : List Bool) (i j : Nat) (h : i ≠ j) : (bs.set i true).getD j false = bs.getD j false := by
 simp only [List.getD_eq_getElem?_getD]
 rw [List.getElem?_set, if_neg h]
theorem Zb7 (bs : List Bool) (i : Int) (j : Nat) (h : bs.getD j false = true) : (setB bs i).getD j false = true := ZeN bs _ j h
theorem ZiF (rs : List Int) (bs : List Bool) (j : Nat) (h : bs.getD j false = true) : (rs.foldl setB bs).getD j false = true := by
 induction rs generalizing bs with
 | nil => exact h
 | cons r rs ih => exact ih _ (Zb7 bs r j h)
theorem Zj7 (rs : List Int) (bs : List Bool) (r : Int) (hr : r ∈ rs) (h : r.toNat < bs.length) : (rs.foldl setB bs).getD r.toNat false = true := by
 induction rs generalizing bs with
 | nil => simp at hr
 | cons q rs ih =>
  rw [List.foldl_cons]
  rcases List.mem_cons.1 hr with rfl | hr
  ·exact ZiF rs _ _ (Zbp bs _ h)
  ·exact ih (setB bs q) hr (by rw [Zbg]; exact h)
theorem ZjF (x : Nd) (b : Bool) (bs : List Bool) (j : Nat) (h : bs.getD j false = true) : (Zar x b bs).getD j false = true := by
 unfold Zar
 split
 ·apply Zb7
  split
  ·exact Zb7 bs _ j h
  ·exact h
 ·split
  ·exact Zb7 bs _ j h
  ·exact h
theorem Zdz (xs : List Nd) (k : Nat) (bs : List Bool) (j : Nat) (h : bs.getD j false = true) : (down xs k bs).getD j false = true := by
 induction k generalizing bs with
 | zero => exact h
 | succ k ih => exact ih _ (ZjF _ _ bs j h)
theorem ZeU (x : Nd) (k : Nat) (b : Bool) (bs : List Bool) (j : Nat) (hn : Zaw x k = true) (hj : k <= j) : (Zar x b bs).getD j false = bs.getD j false := by
 have ha : hasA x.k = true -> x.a.toNat ≠ j := fun h => by have := ZbZ hn h; omega
 have hb : hasB x.k = true -> x.b.toNat ≠ j := fun h => by have := ZbX hn h; omega
 unfold Zar setB
 split
 ·rename_i h1
  rw [Bool.and_eq_true] at h1
  rw [Zbz _ _ _ (hb h1.2)]
  split
  ·rename_i h2
   rw [Bool.and_eq_true] at h2
   rw [Zbz _ _ _ (ha h2.2)]
  ·rfl
 ·split
  ·rename_i h2
   rw [Bool.and_eq_true] at h2
   rw [Zbz _ _ _ (ha h2.2)]
  ·rfl
theorem Ziq (xs : List Nd) (k : Nat) (bs : List Bool) (j : Nat) (hk : k <= xs.length) (hp : ∀ (i : Nat) (x : Nd), xs[i]? = some x -> Zaw x i = true) (hj : k <= j) : (down xs k bs).getD j false = bs.getD j false := by
 induction k generalizing bs with
 | zero => rfl
 | succ k ih =>
  have hx : xs[k]? = some xs[k] := List.getElem?_eq_getElem (by omega)
  rw [Zev xs bs k _ hx, ih _ (by omega) (by omega), ZeU _ k _ _ _ (hp k _ hx) (by omega)]
theorem Zhg (xs : List Nd) (k : Nat) (bs : List Bool) (hk : k <= xs.length) (hl : bs.length = xs.length) (hp : ∀ (i : Nat) (x : Nd), xs[i]? = some x -> Zaw x i = true) (i : Nat) (hi : i < k) (x : Nd) (hx : xs[i]? = some x) (ht : (down xs k bs).getD i false = true) :
  (hasA x.k = true -> (down xs k bs).getD x.a.toNat false = true) /\ (hasB x.k = true -> (down xs k bs).getD x.b.toNat false = true) := by
 induction k generalizing bs with
 | zero => omega
 | succ k ih =>
  have hxk : xs[k]? = some xs[k] := List.getElem?_eq_getElem (by omega)
  rw [Zev xs bs k _ hxk] at ht ⊢
  by_cases hik : i < k
  ·exact ih _ (by omega) (by rw [Zbs]; exact hl) hik ht
  ·have hie : i = k := by omega
   subst hie
   rw [hx] at hxk
   injection hxk with hxk
   rw [<- hxk] at ht ⊢
   have hn := hp i x hx
   rw [Ziq xs i _ i (by omega) hp (Nat.le_refl _), ZeU x i _ _ i hn (Nat.le_refl _)] at ht
   rw [ht]
   constructor
   ·intro hA
    have hr := ZbZ hn hA
    apply Zdz
    unfold Zar
    rw [hA]
    split
    ·exact Zb7 _ _ _ (Zbp _ _ (by omega))
    ·exact Zbp _ _ (by omega)
   ·intro hB
    have hr := ZbX hn hB
    apply Zdz
    unfold Zar
    rw [hB]
    simp only [Bool.and_self, if_true]
    refine Zbp _ _ ?_
    split <;> (try rw [Zbg]) <;> omega
theorem Zei (xs : List Nd) (rs : List Int) (r : Int) (hr : r ∈ rs) (h0 : 0 <= r) (h1 : r < xs.length) : (Zas xs rs).getD r.toNat false = true := by
 unfold Zas
 apply Zdz
 unfold ZcT
 exact Zj7 rs _ r hr (by simp; omega)
theorem Zgi (xs : List Nd) (rs : List Int) (hp : ∀ (i : Nat) (x : Nd), xs[i]? = some x -> Zaw x i = true) (i : Nat) (x : Nd) (hx : xs[i]? = some x) (ht : (Zas xs rs).getD i false = true) :
  (hasA x.k = true -> (Zas xs rs).getD x.a.toNat false = true) /\ (hasB x.k = true -> (Zas xs rs).getD x.b.toNat false = true) :=
 Zhg xs xs.length _ (Nat.le_refl _) (ZcD _ _) hp i (List.getElem?_eq_some_iff.1 hx).1 x hx ht
theorem Zjs {α : Type} (l : List α) (m i : Nat) (d : α) (h : i < m) : (l.take m).getD i d = l.getD i d := by
 simp only [List.getD_eq_getElem?_getD, List.getElem?_take, if_pos h]
theorem Zhc (l1 l2 : List Nd) (bs : List Bool) (k : Nat) : its (l1 ++ l2) bs k = its l1 bs k ++ its l2 bs (k + l1.length) := by
 induction l1 generalizing k with
 | nil => simp [its]
 | cons x l ih =>
  simp only [List.cons_append, its, List.length_cons]
  rw [ih, show k + 1 + l.length = k + (l.length + 1) by omega]
  split <;> simp
def Alm (s t : List Nd × List Int) : Prop := s.1 = t.1 /\ ∀ j, s.2.getD j 0 = t.2.getD j 0
def cyOk (ps xs : List Nd) (v : Int) : Bool := Zap xs && hasI xs v && decide (ps.length + (mvN ps.length xs [v]).length <= 3000)
def cyL (ps xs : List Nd) (v : Int) : List Nd := if Zap ps then (if cyOk ps xs v then ps ++ mvN ps.length xs [v] else ps) else []
def cyI (ps xs : List Nd) (v : Int) : Int := if Zap ps then (if cyOk ps xs v then (Zbv ps.length xs (Zas xs [v])).2.getD v.toNat 0 else -1) else -1
def Zgp (xs : List Nd) (bs : List Bool) : Prop := ∀ (i : Nat) (x : Nd), xs[i]? = some x -> bs.getD i false = true -> (hasA x.k = true -> bs.getD x.a.toNat false = true) /\ (hasB x.k = true -> bs.getD x.b.toNat false = true)
structure MvInv (a : Nat) (xs : List Nd) (bs : List Bool) (k : Nat) (s : List Nd × List Int) : Prop where
 len : s.2.length = xs.length
 at_ : ∀ (i : Nat) (x : Nd), i < k -> xs[i]? = some x -> bs.getD i false = true -> ∃ p : Nat, s.2.getD i 0 = ((a + p : Nat) : Int) /\ p <= i /\ s.1[p]? = some (nrm s.2 x)
 ok : ∀ (j : Nat) (y : Nd), s.1[j]? = some y -> Zaw y ((a + j : Nat) : Int) = true
 from_ : ∀ j, j < s.1.length -> ∃ i, i < k /\ bs.getD i false = true /\ s.2.getD i 0 = ((a + j : Nat) : Int)
 cnt : s.1.length <= k
theorem Zds (l : List Int) (i j : Nat) (z : Int) (h : i ≠ j) : (l.set i z).getD j 0 = l.getD j 0 := by
 simp only [List.getD_eq_getElem?_getD]; rw [List.getElem?_set, if_neg h]
theorem ZbA (l : List Int) (i : Nat) (z : Int) (h : i < l.length) : (l.set i z).getD i 0 = z := by
 simp only [List.getD_eq_getElem?_getD]; rw [List.getElem?_set]; simp [h]
theorem ZiA {x : Nd} {i : Int} {fs : List Int} {q : Int} (hn : Zaw x i = true) (hA : hasA x.k = true -> 0 <= fs.getD x.a.toNat 0 /\ fs.getD x.a.toNat 0 < q) (hB : hasB x.k = true -> 0 <= fs.getD x.b.toNat 0 /\ fs.getD x.b.toNat 0 < q) : Zaw (nrm fs x) q = true := by
 obtain ⟨xk, xn, xs, xa, xb⟩ := x
 simp only [Zaw, nrm, Bool.and_eq_true] at hn hA hB ⊢
 obtain ⟨h1, ⟨h2, h3⟩, h4⟩ := hn
 refine ⟨h1, ⟨h2, ?_⟩, ?_⟩
 ·cases hh : hasA xk with
  | false => rw [hh] at h3; simpa [Zbl] using h3
  | true => simpa [Zbl] using hA hh
 ·cases hh : hasB xk with
  | false => rw [hh] at h4; simpa [Zbl] using h4
  | true => simpa [Zbl] using hB hh
theorem ZfM (xs : List Nd) (bs : List Bool) (k : Nat) (x : Nd) (h : xs[k]? = some x) : its (xs.take (k + 1)) bs 0 = its (xs.take k) bs 0 ++ (if bs.getD k false then [(k, x)] else []) := by
 have hl := (List.getElem?_eq_some_iff.1 h).1
 rw [List.take_add_one, h, Option.toList_some, Zhc]
 congr 1
 rw [List.length_take, Nat.min_eq_left (by omega), Nat.zero_add]
 simp [its]
theorem Zlf (a : Nat) (xs : List Nd) (bs : List Bool) (hp : ∀ (i : Nat) (x : Nd), xs[i]? = some x -> Zaw x i = true) (hc : Zgp xs bs) (k : Nat) (hk : k <= xs.length) : MvInv a xs bs k (mvF a xs.length (its (xs.take k) bs 0)) := by
 induction k with
 | zero =>
  refine ⟨(Zdm _ _ _).2, fun i x h => absurd h (by omega), fun j y h => ?_, fun j h => ?_, ?_⟩
  ·simp [its, mvF] at h
  ·simp [its, mvF] at h
  ·simp [its, mvF]
 | succ k ih =>
  have I := ih (by omega)
  obtain ⟨x, hx⟩ : ∃ x, xs[k]? = some x := ⟨xs[k], by simp⟩
  rw [ZfM xs bs k x hx]
  cases hb : bs.getD k false with
  | false =>
   simp only [Bool.false_eq_true, if_false, List.append_nil]
   refine ⟨I.len, fun i y hi hy ht => ?_, I.ok, fun j hj => ?_, by have := I.cnt; omega⟩
   ·rcases Nat.lt_or_ge i k with h | h
    ·exact I.at_ i y h hy ht
    ·have : i = k := by omega
     subst this
     rw [hb] at ht; cases ht
   ·obtain ⟨i, h1, h2, h3⟩ := I.from_ j hj
    exact ⟨i, by omega, h2, h3⟩
  | true =>
   simp only [if_true]
   rw [Zg2]
   generalize mvF a xs.length (its (xs.take k) bs 0) = s at I
   have hn := hp k x hx
   obtain ⟨cA, cB⟩ := hc k x hx hb
   have hlk : k < s.2.length := by rw [I.len]; omega
   have up : ∀ (i : Nat) (y : Nd), i <= k -> xs[i]? = some y -> nrm (s.2.set k ((a + s.1.length : Nat) : Int)) y = nrm s.2 y := fun i y hi hy => by
    have hy' := hp i y hy
    refine ZkY _ _ _ _ (fun h => ?_) (fun h => ?_)
    ·have := ZbZ hy' h; omega
    ·have := ZbX hy' h; omega
   have pA : hasA x.k = true -> ∃ p : Nat, s.2.getD x.a.toNat 0 = ((a + p : Nat) : Int) /\ p < s.1.length := fun h => by
    have h1 := ZbZ hn h
    obtain ⟨z, hz⟩ : ∃ z, xs[x.a.toNat]? = some z := ⟨xs[x.a.toNat]'(by omega), by simp⟩
    obtain ⟨p, e1, e2, e3⟩ := I.at_ x.a.toNat z (by omega) hz (cA h)
    exact ⟨p, e1, (List.getElem?_eq_some_iff.1 e3).1⟩
   have pB : hasB x.k = true -> ∃ p : Nat, s.2.getD x.b.toNat 0 = ((a + p : Nat) : Int) /\ p < s.1.length := fun h => by
    have h1 := ZbX hn h
    obtain ⟨z, hz⟩ : ∃ z, xs[x.b.toNat]? = some z := ⟨xs[x.b.toNat]'(by omega), by simp⟩
    obtain ⟨p, e1, e2, e3⟩ := I.at_ x.b.toNat z (by omega) hz (cB h)
    exact ⟨p, e1, (List.getElem?_eq_some_iff.1 e3).1⟩
   refine ⟨by simp [mvS, I.len], fun i y hi hy ht => ?_, fun j y hj => ?_, fun j hj => ?_, by have := I.cnt; simp [mvS]; omega⟩
   ·rcases Nat.lt_or_ge i k with h | h
    ·obtain ⟨p, e1, e2, e3⟩ := I.at_ i y h hy ht
     have hpl := (List.getElem?_eq_some_iff.1 e3).1
     refine ⟨p, ?_, e2, ?_⟩
     ·simp only [mvS]; rw [Zds _ _ _ _ (by omega)]; exact e1
     ·simp only [mvS]; rw [List.getElem?_append_left hpl, up i y (by omega) hy]; exact e3
    ·have : i = k := by omega
     subst this
     rw [hx] at hy; cases hy
     refine ⟨s.1.length, ?_, I.cnt, ?_⟩
     ·simp only [mvS]; rw [ZbA _ _ _ hlk]
     ·simp only [mvS]; rw [List.getElem?_append_right (Nat.le_refl _), up i x (Nat.le_refl _) hx]; simp
   ·simp only [mvS] at hj
    rcases Nat.lt_or_ge j s.1.length with h | h
    ·rw [List.getElem?_append_left h] at hj; exact I.ok j y hj
    ·rw [List.getElem?_append_right h] at hj
     have hj' := (List.getElem?_eq_some_iff.1 hj).1
     simp at hj'
     have : j = s.1.length := by omega
     subst this
     simp at hj
     subst hj
     refine ZiA hn (fun h => ?_) (fun h => ?_)
     ·obtain ⟨p, e1, e2⟩ := pA h; rw [e1]; omega
     ·obtain ⟨p, e1, e2⟩ := pB h; rw [e1]; omega
   ·simp only [mvS, List.length_append, List.length_singleton] at hj
    rcases Nat.lt_or_ge j s.1.length with h | h
    ·obtain ⟨i, h1, h2, h3⟩ := I.from_ j h
     exact ⟨i, by omega, h2, by simp only [mvS]; rw [Zds _ _ _ _ (by omega)]; exact h3⟩
    ·have : j = s.1.length := by omega
     subst this
     exact ⟨k, by omega, hb, by simp only [mvS]; rw [ZbA _ _ _ hlk]⟩
theorem Zjg (a : Nat) (xs : List Nd) (bs : List Bool) (hp : ∀ (i : Nat) (x : Nd), xs[i]? = some x -> Zaw x i = true) (hc : Zgp xs bs) : MvInv a xs bs xs.length (Zbv a xs bs) := by
 have := Zlf a xs bs hp hc xs.length (Nat.le_refl _)
 rw [List.take_length] at this
 exact this
theorem ZbU (xs : List Nd) (rs : List Int) (hp : ∀ (i : Nat) (x : Nd), xs[i]? = some x -> Zaw x i = true) : Zgp xs (Zas xs rs) := fun i x hx ht => Zgi xs rs hp i x hx ht
theorem ZlS (xs : List Nd) (bs : List Bool) (hp : ∀ (i : Nat) (x : Nd), xs[i]? = some x -> Zaw x i = true) (hb : ∀ i, i < xs.length -> bs.getD i false = true) (k : Nat) (hk : k <= xs.length) :
  (mvF 0 xs.length (its (xs.take k) bs 0)).1 = xs.take k /\ ∀ i, i < k -> (mvF 0 xs.length (its (xs.take k) bs 0)).2.getD i 0 = (i : Int) := by
 induction k with
 | zero => exact ⟨by simp [its, mvF], fun i h => absurd h (by omega)⟩
 | succ k ih =>
  obtain ⟨h1, h2⟩ := ih (by omega)
  have hlen := (Zdm 0 xs.length (its (xs.take k) bs 0)).2
  obtain ⟨x, hx⟩ : ∃ x, xs[k]? = some x := ⟨xs[k], by simp⟩
  rw [ZfM xs bs k x hx, hb k (by omega), if_pos rfl, Zg2]
  generalize mvF 0 xs.length (its (xs.take k) bs 0) = s at h1 h2 hlen
  have hn := hp k x hx
  have e : nrm s.2 x = x := by
   obtain ⟨xk, xn, xs', xa, xb⟩ := x
   simp only [nrm, Nd.mk.injEq, true_and]
   constructor
   ·split
    ·rename_i h
     have := ZbZ hn h
     dsimp only at this
     rw [h2 xa.toNat (by omega)]; omega
    ·rfl
   ·split
    ·rename_i h
     have := ZbX hn h
     dsimp only at this
     rw [h2 xb.toNat (by omega)]; omega
    ·rfl
  have hl : s.1.length = k := by rw [h1]; simp; omega
  refine ⟨?_, fun i hi => ?_⟩
  ·simp only [mvS]
   rw [e, h1, List.take_add_one, hx, Option.toList_some]
  ·simp only [mvS]
   rcases Nat.lt_or_ge i k with h | h
   ·rw [Zds _ _ _ _ (by omega)]; exact h2 i h
   ·have : i = k := by omega
    subst this
    rw [ZbA _ _ _ (by omega), hl]; simp
def At8 (xs : List Nd) (rs : List Int) (a : Nat) (i j : Nat) : Prop := i < xs.length /\ (Zas xs rs).getD i false = true /\ (Zbv a xs (Zas xs rs)).2.getD i 0 = (j : Int)
theorem ZjL (xs : List Nd) (rs : List Int) (hp : Zap xs = true) (hr : allI xs rs = true) (a : Nat) (r : Int) (h : r ∈ rs) : At8 xs rs a r.toNat ((Zbv a xs (Zas xs rs)).2.getD r.toNat 0).toNat /\ 0 <= r /\ 0 <= (Zbv a xs (Zas xs rs)).2.getD r.toNat 0 := by
 have hh : hasI xs r = true := by
  unfold allI at hr
  exact List.all_eq_true.1 hr r h
 simp only [hasI, Bool.and_eq_true, decide_eq_true_eq] at hh
 have ht := Zei xs rs r h hh.1 hh.2
 have I := Zjg a xs (Zas xs rs) (fun _ _ h => Za9 hp h) (ZbU xs rs (fun _ _ h => Za9 hp h))
 obtain ⟨z, hz⟩ : ∃ z, xs[r.toNat]? = some z := ⟨xs[r.toNat]'(by omega), by simp⟩
 obtain ⟨p', e1', _, _⟩ := I.at_ r.toNat z (by omega) hz ht
 exact ⟨⟨by omega, ht, by rw [e1']; omega⟩, hh.1, by rw [e1']; omega⟩
theorem ZfA (xs : List Nd) (rs : List Int) (hp : Zap xs = true) (hr : allI xs rs = true) (hb : ∀ i, i < xs.length -> (Zas xs rs).getD i false = true) : mvN 0 xs rs = xs /\ mvR 0 xs rs rs = rs := by
 have I := ZlS xs (Zas xs rs) (fun _ _ h => Za9 hp h) hb xs.length (Nat.le_refl _)
 rw [List.take_length] at I
 refine ⟨I.1, ?_⟩
 unfold mvR
 have : ∀ r ∈ rs, (Zbv 0 xs (Zas xs rs)).2.getD r.toNat 0 = r := fun r h => by
  have hh : hasI xs r = true := by
   unfold allI at hr
   exact List.all_eq_true.1 hr r h
  simp only [hasI, Bool.and_eq_true, decide_eq_true_eq] at hh
  have := I.2 r.toNat (by omega)
  unfold Zbv
  rw [this]
  omega
 rw [List.map_congr_left (g := id) (fun r h => this r h)]
 exact List.map_id rs
end Go.Proofs.YtfmafkebddojjaaGreatDoor
