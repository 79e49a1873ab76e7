/-
  Texts that stood by themselves, laid into one.
-/
import Derived.Test.YtnhepegkjejfcaaDoorTo2M
import Derived.Test.YtnhepegkjejfcaaDoorKeyM
import Derived.Deep.LoopGhost
import Derived.Test.YtnhepegkjejfcaaDoorISameM
import Derived.Test.YtnhepegkjejfcaaDoorISizeM
import Derived.Test.YtnhepegkjejfcaaDoorGrowM
/-
  The contract of spec.l3Write: a value behind a text, as long as that is not too long. No condition beyond the pool's being right.
-/
namespace Go.Proofs.YtnhepegkjejfcaaDoor
open Go.RowKit

theorem pool_name {xs : List Nd} (hp : poolB xs = true) {i : Nat} {x : Nd} (hx : xs[i]? = some x) : x.s.size ≤ 12 := by
  have h := pool_at hp hx
  simp only [nodeB, Bool.and_eq_true] at h
  obtain ⟨_, ⟨hs, _⟩, _⟩ := h
  unfold nameFB at hs
  split at hs
  · simp only [nameB, Bool.and_eq_true, decide_eq_true_eq] at hs
    exact hs.1.2
  · have h0 : x.s.toList = [] := by simpa using hs
    have h1 : x.s.data.toList.length = x.s.size := by rw [Array.length_toList]; rfl
    rw [ByteArray.toList_eq] at h0
    rw [h0] at h1
    simp at h1
    omega

/-- What l3Write makes of the text l and a value that is written m, in the end r; at most so many bytes. -/
def Wrote (l m r : List UInt8) (top : Nat) : Prop :=
  (400 < l.length → r = l) ∧ (l.length ≤ 400 → r.length ≤ top ∧ (l.length + m.length ≤ 400 → r = l ++ m) ∧ (400 < l.length + m.length → 400 < r.length))

theorem wrote_put {l m : List UInt8} {top : Nat} (h : l.length ≤ 400) (hm : l.length + m.length ≤ top) : Wrote l m (l ++ m) top :=
  ⟨fun h' => by omega, fun _ => ⟨by simp; omega, fun _ => rfl, fun h' => by simp; omega⟩⟩
theorem wrote_skip {l m : List UInt8} {top : Nat} (h : 400 < l.length) : Wrote l m l top := ⟨fun _ => rfl, fun h' => by omega⟩
theorem tx_of (s : ByteArray) : s = tx s.data.toList := by apply ByteArray.ext; simp [tx]

end Go.Proofs.YtnhepegkjejfcaaDoor

/-
  spec.l3Write at a pair, and the contract of spec.Write. No condition.
-/
namespace Go.Proofs.YtnhepegkjejfcaaDoor
open Go.RowKit

/-- The text r so far, of a value that is written m behind l, where t is still to come (and a bracket). -/
def St (l m t r : List UInt8) (top : Nat) : Prop :=
  r.length ≤ top ∧ ((r.length ≤ 400 ∧ r ++ t ++ [41] = l ++ m) ∨ (400 < r.length ∧ 400 < l.length + m.length))
theorem st_init {xs : List Nd} {v ia ib : Nat} {l r : List UInt8} (hT : fullT xs v = [40] ++ fullT xs ia ++ restT xs ib ++ [41]) (hW : Wrote (l ++ [40]) (fullT xs ia) r (1504 + 4 * ia)) (hl : l.length ≤ 400) (hv : ia < v) : St l (fullT xs v) (restT xs ib) r (1500 + 4 * v) := by
  have hlen : (fullT xs v).length = 2 + (fullT xs ia).length + (restT xs ib).length := by rw [hT]; simp; omega
  by_cases h : 400 < (l ++ [40]).length
  · have e := hW.1 h
    subst e
    simp at h
    exact ⟨by simp; omega, Or.inr ⟨by simp; omega, by omega⟩⟩
  · obtain ⟨h1, h2, h3⟩ := hW.2 (by omega)
    by_cases h4 : (l ++ [40]).length + (fullT xs ia).length ≤ 400
    · have e := h2 h4
      subst e
      simp at h4
      exact ⟨by simp; omega, Or.inl ⟨by simp; omega, by rw [hT]; simp⟩⟩
    · have := h3 (by omega)
      simp at h4
      exact ⟨by omega, Or.inr ⟨this, by omega⟩⟩
theorem st_step {xs : List Nd} {jb ka kb v : Nat} {l m r r' : List UInt8} (hR : restT xs jb = [32] ++ fullT xs ka ++ restT xs kb) (hS : St l m (restT xs jb) r (1500 + 4 * v)) (hr : r.length ≤ 400) (hW : Wrote (r ++ [32]) (fullT xs ka) r' (1504 + 4 * ka)) (hv : ka < v) : St l m (restT xs kb) r' (1500 + 4 * v) := by
  rcases hS.2 with ⟨_, he⟩ | ⟨h, _⟩
  · have hlen := congrArg List.length he
    rw [hR] at hlen he
    simp at hlen
    by_cases h : 400 < (r ++ [32]).length
    · have e := hW.1 h
      subst e
      simp at h
      exact ⟨by simp; omega, Or.inr ⟨by simp; omega, by omega⟩⟩
    · obtain ⟨h1, h2, h3⟩ := hW.2 (by omega)
      by_cases h4 : (r ++ [32]).length + (fullT xs ka).length ≤ 400
      · have e := h2 h4
        subst e
        simp at h4
        exact ⟨by simp; omega, Or.inl ⟨by simp; omega, by rw [← he]; simp⟩⟩
      · have := h3 (by omega)
        simp at h4
        exact ⟨by omega, Or.inr ⟨this, by omega⟩⟩
  · omega
/-- At the end: the bracket. -/
theorem st_end {l m r : List UInt8} {v : Nat} (hl : l.length ≤ 400) (hS : St l m [] r (1503 + 4 * v)) : Wrote l m (r ++ [41]) (1504 + 4 * v) := by
  refine ⟨fun h => by omega, fun _ => ⟨by have := hS.1; simp; omega, fun h => ?_, fun h => ?_⟩⟩
  · rcases hS.2 with ⟨_, he⟩ | ⟨_, h'⟩
    · rw [← he]; simp
    · omega
  · rcases hS.2 with ⟨_, he⟩ | ⟨h', _⟩
    · have := congrArg List.length he
      simp at this ⊢
      omega
    · simp; omega
/-- What ends with no KNil. -/
theorem st_word {l m z r r' : List UInt8} {v b : Nat} (hS : St l m ([32, 46, 32] ++ z) r (1500 + 4 * v)) (hW : Wrote (r ++ [32, 46, 32]) z r' (1504 + 4 * b)) (hb : b < v) : St l m [] r' (1503 + 4 * v) := by
  have h0 := hS.1
  rcases hS.2 with ⟨hr, he⟩ | ⟨h, ht⟩
  · have hlen := congrArg List.length he
    simp at hlen
    by_cases h : 400 < (r ++ [32, 46, 32]).length
    · have e := hW.1 h
      subst e
      simp at h
      exact ⟨by simp; omega, Or.inr ⟨by simp; omega, by omega⟩⟩
    · obtain ⟨h1, h2, h3⟩ := hW.2 (by omega)
      by_cases h4 : (r ++ [32, 46, 32]).length + z.length ≤ 400
      · have e := h2 h4
        subst e
        simp at h4
        exact ⟨by simp; omega, Or.inl ⟨by simp; omega, by rw [← he]; simp⟩⟩
      · have := h3 (by omega)
        simp at h4
        exact ⟨by omega, Or.inr ⟨this, by omega⟩⟩
  · have e := hW.1 (by simp; omega)
    subst e
    exact ⟨by simp; omega, Or.inr ⟨by simp; omega, ht⟩⟩
/-- Too long already. -/
theorem st_over {l m t z r r' : List UInt8} {v b : Nat} (hS : St l m t r (1500 + 4 * v)) (hr : 400 < r.length) (hW : Wrote (r ++ [32, 46, 32]) z r' (1504 + 4 * b)) : St l m [] r' (1503 + 4 * v) := by
  have h0 := hS.1
  have e := hW.1 (by simp; omega)
  subst e
  rcases hS.2 with ⟨h, _⟩ | ⟨_, ht⟩
  · omega
  · exact ⟨by simp; omega, Or.inr ⟨by simp; omega, ht⟩⟩
theorem set1 (w : World) (q i : Nat) (u : Value) : w.grownBy (w.setCell ⟨q, i, none⟩ u) (some q) :=
  ⟨rfl, rfl, rfl, by simp, fun k _ hk => heap_setCell_other w ⟨q, i, none⟩ k u (fun e => hk (by rw [e]))⟩
theorem set5 (w : World) (q : Nat) (t : TypeId) (a0 a1 a2 a3 a4 u0 u1 u2 u3 u4 : Value) (h : w.heap[q]? = some (.cells #[a0, a1, a2, a3, a4] t (0, 0))) :
    (((((w.setCell ⟨q, 0, none⟩ u0).setCell ⟨q, 1, none⟩ u1).setCell ⟨q, 2, none⟩ u2).setCell ⟨q, 3, none⟩ u3).setCell ⟨q, 4, none⟩ u4).heap[q]? = some (.cells #[u0, u1, u2, u3, u4] t (0, 0)) ∧
      w.grownBy (((((w.setCell ⟨q, 0, none⟩ u0).setCell ⟨q, 1, none⟩ u1).setCell ⟨q, 2, none⟩ u2).setCell ⟨q, 3, none⟩ u3).setCell ⟨q, 4, none⟩ u4) (some q) := by
  have h0 : (w.setCell ⟨q, 0, none⟩ u0).heap[q]? = some (.cells #[u0, a1, a2, a3, a4] t (0, 0)) := heap_setCell_same w q 0 _ _ u0 h
  have g0 : w.grownBy (w.setCell ⟨q, 0, none⟩ u0) (some q) := set1 w q 0 u0
  have g1 := set1 (w.setCell ⟨q, 0, none⟩ u0) q 1 u1
  generalize w.setCell ⟨q, 0, none⟩ u0 = w1 at *
  have h1 : (w1.setCell ⟨q, 1, none⟩ u1).heap[q]? = some (.cells #[u0, u1, a2, a3, a4] t (0, 0)) := heap_setCell_same w1 q 1 _ _ u1 h0
  have g2 := set1 (w1.setCell ⟨q, 1, none⟩ u1) q 2 u2
  generalize w1.setCell ⟨q, 1, none⟩ u1 = w2 at *
  have h2 : (w2.setCell ⟨q, 2, none⟩ u2).heap[q]? = some (.cells #[u0, u1, u2, a3, a4] t (0, 0)) := heap_setCell_same w2 q 2 _ _ u2 h1
  have g3 := set1 (w2.setCell ⟨q, 2, none⟩ u2) q 3 u3
  generalize w2.setCell ⟨q, 2, none⟩ u2 = w3 at *
  have h3 : (w3.setCell ⟨q, 3, none⟩ u3).heap[q]? = some (.cells #[u0, u1, u2, u3, a4] t (0, 0)) := heap_setCell_same w3 q 3 _ _ u3 h2
  have g4 := set1 (w3.setCell ⟨q, 3, none⟩ u3) q 4 u4
  generalize w3.setCell ⟨q, 3, none⟩ u3 = w4 at *
  have h4 : (w4.setCell ⟨q, 4, none⟩ u4).heap[q]? = some (.cells #[u0, u1, u2, u3, u4] t (0, 0)) := heap_setCell_same w4 q 4 _ _ u4 h3
  generalize w4.setCell ⟨q, 4, none⟩ u4 = w5 at *
  have gg := (((g0.trans g1).trans g2).trans g3).trans g4
  exact ⟨h4, gg.os, gg.tape, gg.output, gg.size, gg.block⟩

/-- What Write tells. -/
def writeR (xs : List Nd) (v : Int) : List UInt8 := if poolB xs && hasI xs v then (if (fullT xs v.toNat).length ≤ 400 then fullT xs v.toNat else []) else []
end Go.Proofs.YtnhepegkjejfcaaDoor

/-
  What is alike is as great, and written alike: plain mathematics. Nothing of the program; no condition.
-/
namespace Go.Proofs.YtnhepegkjejfcaaDoor
open Go.RowKit

theorem sizeR_bounds (xs : List Nd) (a : Int) : 0 ≤ sizeR xs a ∧ sizeR xs a ≤ 1000000000 := by
  unfold sizeR
  split
  · exact getD_mem_bounds _ _ (sizesTo_bounds xs xs.length)
  · omega
theorem sizeR_step (xs : List Nd) (a : Nat) (x : Nd) (hp : poolB xs = true) (hx : xs[a]? = some x) :
    sizeR xs a = min (1 + (if hasA x.k then sizeR xs x.a else 0) + (if hasB x.k then sizeR xs x.b else 0)) 1000000000 := by
  have hl : a < xs.length := (List.getElem?_eq_some_iff.1 hx).1
  have hnb := poolB_at hp hx
  have e : sizeR xs a = szN (sizesTo xs a) x := by
    unfold sizeR
    rw [hp, show hasI xs a = true by unfold hasI; simp [hl], Bool.and_self, if_pos rfl, Int.toNat_natCast, sizesTo_prefix xs (a + 1) a (by omega) (by omega), sizesTo_succ xs a x hx]
    have := sizesTo_length xs a (by omega)
    simp only [List.getD_eq_getElem?_getD]
    rw [List.getElem?_append_right (by omega), this]
    simp
  rw [e]
  unfold szN szA szB
  have part : ∀ q : Int, 0 ≤ q → q < a → sizeR xs q = (sizesTo xs a).getD q.toNat 0 := fun q h0 h1 => by
    obtain ⟨m, rfl⟩ := Int.eq_ofNat_of_zero_le h0
    unfold sizeR
    rw [hp, show hasI xs (m : Nat) = true by unfold hasI; simp; omega, Bool.and_self, if_pos rfl, Int.toNat_natCast, sizesTo_prefix xs a m (by omega) (by omega)]
  cases hA : hasA x.k with
  | false =>
    cases hB : hasB x.k with
    | false => rfl
    | true => have := nodeB_B hnb hB; rw [part x.b this.1 this.2]; rfl
  | true =>
    have h1 := nodeB_A hnb hA
    rw [part x.a h1.1 h1.2]
    cases hB : hasB x.k with
    | false => rfl
    | true => have := nodeB_B hnb hB; rw [part x.b this.1 this.2]


noncomputable def fst (xs : List Nd) (a : Nat) : Int := (firstsTo xs xs.length).getD a 0
/-- The node a with its parts' first ones. -/
noncomputable def keyAt (xs : List Nd) (a : Nat) : Nd := (keysTo xs xs.length).getD a ⟨0, 0, ByteArray.empty, 0, 0⟩

theorem keysTo_prefix (xs : List Nd) (k i : Nat) (hk : k ≤ xs.length) (hi : i < k) : (keysTo xs xs.length)[i]? = (keysTo xs k)[i]? := by
  induction h : xs.length - k generalizing k with
  | zero => rw [show k = xs.length by omega]
  | succ m ih =>
    have hx : xs[k]? = some xs[k] := List.getElem?_eq_getElem (by omega)
    rw [ih (k + 1) (by omega) (by omega) (by omega), keysTo_succ xs k _ hx, List.getElem?_append_left (by rw [keysTo_length xs k hk]; exact hi)]
theorem firsts_at (xs : List Nd) (a : Nat) (x : Nd) (hx : xs[a]? = some x) : fst xs a = ((idx (keysTo xs a) (nrm (firstsTo xs a) x) : Nat) : Int) := by
  have hl := (List.getElem?_eq_some_iff.1 hx).1
  unfold fst
  rw [firstsTo_prefix xs (a + 1) a (by omega) (by omega), firstsTo_succ xs a x hx]
  have := firstsTo_length xs a (by omega)
  simp only [List.getD_eq_getElem?_getD]
  rw [List.getElem?_append_right (by omega), this]
  simp
theorem idx_get (ks : List Nd) (y : Nd) (h : idx ks y < ks.length) : ks[idx ks y]? = some y := by
  induction ks with
  | nil => simp at h
  | cons k ks ih =>
    simp only [idx] at h ⊢
    split
    · rename_i e; simp [e]
    · rename_i e
      rw [if_neg e] at h
      simp only [List.length_cons] at h
      simpa using ih (by omega)
/-- The node's own key stands at its first one's place. -/
theorem key_first (xs : List Nd) (a : Nat) (x : Nd) (hx : xs[a]? = some x) : (keysTo xs xs.length)[(fst xs a).toNat]? = some (nrm (firstsTo xs a) x) := by
  have hl := (List.getElem?_eq_some_iff.1 hx).1
  have hk := keysTo_length xs a (by omega)
  rw [firsts_at xs a x hx, Int.toNat_natCast]
  by_cases h : idx (keysTo xs a) (nrm (firstsTo xs a) x) < a
  · rw [keysTo_prefix xs a _ (by omega) h]
    exact idx_get _ _ (by omega)
  · have e : idx (keysTo xs a) (nrm (firstsTo xs a) x) = a := by have := idx_le (keysTo xs a) (nrm (firstsTo xs a) x); omega
    rw [e, keysTo_prefix xs (a + 1) a (by omega) (by omega), keysTo_succ xs a x hx, List.getElem?_append_right (by omega), hk]
    simp
theorem first_eq (xs : List Nd) (a b : Nat) (x y : Nd) (hx : xs[a]? = some x) (hy : xs[b]? = some y) (h : fst xs a = fst xs b) : nrm (firstsTo xs a) x = nrm (firstsTo xs b) y := by
  have h1 := key_first xs a x hx
  have h2 := key_first xs b y hy
  rw [h, h2] at h1
  exact (Option.some.inj h1).symm
theorem part_first (xs : List Nd) (a q : Nat) (ha : a ≤ xs.length) (hq : q < a) : (firstsTo xs a).getD q 0 = fst xs q := by
  unfold fst
  rw [firstsTo_prefix xs a q ha hq]

/-- What is alike is written alike, and as great. -/
theorem alike_text (xs : List Nd) (hp : poolB xs = true) : ∀ (a b : Nat), a < xs.length → b < xs.length → fst xs a = fst xs b → fullT xs a = fullT xs b ∧ restT xs a = restT xs b ∧ sizeR xs a = sizeR xs b := by
  intro a
  induction a using Nat.strongRecOn with
  | _ a ih =>
    intro b ha hb h
    obtain ⟨x, hx⟩ : ∃ x, xs[a]? = some x := ⟨xs[a], by simp [ha]⟩
    obtain ⟨y, hy⟩ : ∃ y, xs[b]? = some y := ⟨xs[b], by simp [hb]⟩
    have hk := first_eq xs a b x y hx hy h
    have hnx := poolB_at hp hx
    have hny := poolB_at hp hy
    obtain ⟨xk, xn, xs', xa, xb⟩ := x
    obtain ⟨yk, yn, ys, ya, yb⟩ := y
    simp only [nrm, Nd.mk.injEq] at hk
    obtain ⟨rfl, rfl, rfl, hA, hB⟩ := hk
    have pa : hasA xk = true → ∃ m n : Nat, xa = m ∧ ya = n ∧ m < a ∧ n < b ∧ fst xs m = fst xs n := fun hh => by
      have h1 := nodeB_A hnx hh
      have h2 := nodeB_A hny hh
      dsimp only at h1 h2
      obtain ⟨m, rfl⟩ := Int.eq_ofNat_of_zero_le h1.1
      obtain ⟨n, rfl⟩ := Int.eq_ofNat_of_zero_le h2.1
      rw [if_pos hh, if_pos hh, Int.toNat_natCast, Int.toNat_natCast, part_first xs a m (by omega) (by omega), part_first xs b n (by omega) (by omega)] at hA
      exact ⟨m, n, rfl, rfl, by omega, by omega, hA⟩
    have pb : hasB xk = true → ∃ m n : Nat, xb = m ∧ yb = n ∧ m < a ∧ n < b ∧ fst xs m = fst xs n := fun hh => by
      have h1 := nodeB_B hnx hh
      have h2 := nodeB_B hny hh
      dsimp only at h1 h2
      obtain ⟨m, rfl⟩ := Int.eq_ofNat_of_zero_le h1.1
      obtain ⟨n, rfl⟩ := Int.eq_ofNat_of_zero_le h2.1
      rw [if_pos hh, if_pos hh, Int.toNat_natCast, Int.toNat_natCast, part_first xs a m (by omega) (by omega), part_first xs b n (by omega) (by omega)] at hB
      exact ⟨m, n, rfl, rfl, by omega, by omega, hB⟩
    have hsize : sizeR xs a = sizeR xs b := by
      rw [sizeR_step xs a _ hp hx, sizeR_step xs b _ hp hy]
      dsimp only
      have eA : (if hasA xk then sizeR xs xa else 0) = (if hasA xk then sizeR xs ya else 0) := by
        cases hh : hasA xk with
        | false => rfl
        | true =>
          obtain ⟨m, n, rfl, rfl, hm, hn, he⟩ := pa hh
          rw [(ih m hm n (by omega) (by omega) he).2.2]
      have eB : (if hasB xk then sizeR xs xb else 0) = (if hasB xk then sizeR xs yb else 0) := by
        cases hh : hasB xk with
        | false => rfl
        | true =>
          obtain ⟨m, n, rfl, rfl, hm, hn, he⟩ := pb hh
          rw [(ih m hm n (by omega) (by omega) he).2.2]
      rw [eA, eB]
    by_cases h5 : xk = 5
    · subst h5
      obtain ⟨m, n, rfl, rfl, hm, hn, he⟩ := pa rfl
      obtain ⟨m', n', rfl, rfl, hm', hn', he'⟩ := pb rfl
      obtain ⟨f1, _, _⟩ := ih m hm n (by omega) (by omega) he
      obtain ⟨_, r1, _⟩ := ih m' hm' n' (by omega) (by omega) he'
      refine ⟨?_, ?_, hsize⟩
      · rw [fullT_pair hp hx rfl rfl rfl hm hm', fullT_pair hp hy rfl rfl rfl hn hn', f1, r1]
      · rw [restT_pair hp hx rfl rfl rfl hm hm', restT_pair hp hy rfl rfl rfl hn hn', f1, r1]
    · have hw : wordL ⟨xk, xn, xs', xa, xb⟩ = wordL ⟨xk, xn, xs', ya, yb⟩ := rfl
      refine ⟨?_, ?_, hsize⟩
      · rw [fullT_word hx h5, fullT_word hy h5, hw]
      · by_cases h1 : xk = 1
        · rw [restT_nil hx h1, restT_nil hy h1]
        · rw [restT_word hx h5 h1, restT_word hy h5 h1, hw]

theorem sameR_comm (xs : List Nd) (a b : Int) : sameR xs a b = sameR xs b a := by
  unfold sameR
  rw [Bool.eq_iff_iff]
  simp only [Bool.and_eq_true, beq_iff_eq]
  constructor
  · rintro ⟨⟨⟨h1, h2⟩, h3⟩, h4⟩; exact ⟨⟨⟨h1, h3⟩, h2⟩, h4.symm⟩
  · rintro ⟨⟨⟨h1, h2⟩, h3⟩, h4⟩; exact ⟨⟨⟨h1, h3⟩, h2⟩, h4.symm⟩
theorem sameR_self {xs : List Nd} {a b : Int} (h : sameR xs a b = true) : sameR xs a a = true := by
  unfold sameR at *
  simp only [Bool.and_eq_true, beq_iff_eq] at *
  obtain ⟨⟨⟨h1, h2⟩, _⟩, _⟩ := h
  exact ⟨⟨⟨h1, h2⟩, h2⟩, trivial⟩
theorem same_text {xs : List Nd} {a b : Int} (h : sameR xs a b = true) : sizeR xs a = sizeR xs b ∧ writeR xs a = writeR xs b := by
  unfold sameR at h
  simp only [Bool.and_eq_true, beq_iff_eq] at h
  obtain ⟨⟨⟨hp, ha⟩, hb⟩, he⟩ := h
  have ha' := ha
  have hb' := hb
  simp only [hasI, Bool.and_eq_true, decide_eq_true_eq] at ha hb
  obtain ⟨m, rfl⟩ := Int.eq_ofNat_of_zero_le ha.1
  obtain ⟨n, rfl⟩ := Int.eq_ofNat_of_zero_le hb.1
  rw [Int.toNat_natCast, Int.toNat_natCast] at he
  obtain ⟨h1, _, h3⟩ := alike_text xs hp m n (by omega) (by omega) he
  refine ⟨h3, ?_⟩
  unfold writeR
  rw [hp, ha', hb', Int.toNat_natCast, Int.toNat_natCast, h1]
end Go.Proofs.YtnhepegkjejfcaaDoor

/-
  What is kept: as it was, all reached, and kept again the same: plain mathematics. Nothing of the program; no condition.
-/
namespace Go.Proofs.YtnhepegkjejfcaaDoor
open Go.RowKit

/-- What goes by the same steps is written alike, and as great. -/
theorem bis_text {xs ys : List Nd} (hx : poolB xs = true) (hy : poolB ys = true) (Rl : Nat → Nat → Prop)
    (hR : ∀ i j, Rl i j → ∃ x y, xs[i]? = some x ∧ ys[j]? = some y ∧ y.k = x.k ∧ y.n = x.n ∧ y.s = x.s ∧ (hasA x.k = true → Rl x.a.toNat y.a.toNat) ∧ (hasB x.k = true → Rl x.b.toNat y.b.toNat)) :
    ∀ i j, Rl i j → fullT xs i = fullT ys j ∧ restT xs i = restT ys j ∧ sizeR xs i = sizeR ys j := by
  intro a
  induction a using Nat.strongRecOn with
  | _ a ih =>
    intro b h
    obtain ⟨x, y, hxa, hyb, e1, e2, e3, rA, rB⟩ := hR a b h
    have hnx := poolB_at hx hxa
    have hny := poolB_at hy hyb
    obtain ⟨xk, xn, xs', xa, xb⟩ := x
    obtain ⟨yk, yn, ys', ya, yb⟩ := y
    dsimp only at e1 e2 e3 rA rB
    subst e1 e2 e3
    have pa : hasA yk = true → ∃ m n : Nat, xa = m ∧ ya = n ∧ m < a ∧ n < b ∧ Rl m n := fun hh => by
      have h1 := nodeB_A hnx hh
      have h2 := nodeB_A hny hh
      dsimp only at h1 h2
      obtain ⟨m, rfl⟩ := Int.eq_ofNat_of_zero_le h1.1
      obtain ⟨n, rfl⟩ := Int.eq_ofNat_of_zero_le h2.1
      exact ⟨m, n, rfl, rfl, by omega, by omega, by simpa using rA hh⟩
    have pb : hasB yk = true → ∃ m n : Nat, xb = m ∧ yb = n ∧ m < a ∧ n < b ∧ Rl m n := fun hh => by
      have h1 := nodeB_B hnx hh
      have h2 := nodeB_B hny hh
      dsimp only at h1 h2
      obtain ⟨m, rfl⟩ := Int.eq_ofNat_of_zero_le h1.1
      obtain ⟨n, rfl⟩ := Int.eq_ofNat_of_zero_le h2.1
      exact ⟨m, n, rfl, rfl, by omega, by omega, by simpa using rB hh⟩
    have hsize : sizeR xs a = sizeR ys b := by
      rw [sizeR_step xs a _ hx hxa, sizeR_step ys b _ hy hyb]
      dsimp only
      have eA : (if hasA yk then sizeR xs xa else 0) = (if hasA yk then sizeR ys ya else 0) := by
        cases hh : hasA yk with
        | false => rfl
        | true =>
          obtain ⟨m, n, rfl, rfl, hm, hn, he⟩ := pa hh
          rw [(ih m hm n he).2.2]
      have eB : (if hasB yk then sizeR xs xb else 0) = (if hasB yk then sizeR ys yb else 0) := by
        cases hh : hasB yk with
        | false => rfl
        | true =>
          obtain ⟨m, n, rfl, rfl, hm, hn, he⟩ := pb hh
          rw [(ih m hm n he).2.2]
      rw [eA, eB]
    by_cases h5 : yk = 5
    · subst h5
      obtain ⟨m, n, rfl, rfl, hm, hn, he⟩ := pa rfl
      obtain ⟨m', n', rfl, rfl, hm', hn', he'⟩ := pb rfl
      obtain ⟨f1, _, _⟩ := ih m hm n he
      obtain ⟨_, r1, _⟩ := ih m' hm' n' he'
      refine ⟨?_, ?_, hsize⟩
      · rw [fullT_pair hx hxa rfl rfl rfl hm hm', fullT_pair hy hyb rfl rfl rfl hn hn', f1, r1]
      · rw [restT_pair hx hxa rfl rfl rfl hm hm', restT_pair hy hyb rfl rfl rfl hn hn', f1, r1]
    · have hw : wordL ⟨yk, yn, ys', xa, xb⟩ = wordL ⟨yk, yn, ys', ya, yb⟩ := rfl
      refine ⟨?_, ?_, hsize⟩
      · rw [fullT_word hxa h5, fullT_word hyb h5, hw]
      · by_cases h1 : yk = 1
        · rw [restT_nil hxa h1, restT_nil hyb h1]
        · rw [restT_word hxa h5 h1, restT_word hyb h5 h1, hw]

end Go.Proofs.YtnhepegkjejfcaaDoor
