/-
  What is alike is as great, and written alike: plain mathematics. Nothing of the program; no condition.
-/
import Derived.Test.YtmgjefkelohocaaDoorISame
import Derived.Test.YtmgjefkelohocaaDoorISize
import Derived.Test.YtmgjefkelohocaaDoorSWr2
namespace Go.Proofs.YtmgjefkelohocaaDoor
open Go.RowKit

theorem sizeR_bounds (xs : List Nd) (a : Int) : 0 ≤ sizeR xs a ∧ sizeR xs a ≤ 1000000000 := by
  unfold sizeR
  split
  · exact getD_mem_bounds _ _ (sizesTo_bounds xs xs.length)
  · omega
theorem sizeR_step (xs : List Nd) (a : Nat) (x : Nd) (hp : poolB xs = true) (hx : xs[a]? = some x) :
    sizeR xs a = min (1 + (if hasA x.k then sizeR xs x.a else 0) + (if hasB x.k then sizeR xs x.b else 0)) 1000000000 := by
  have hl : a < xs.length := (List.getElem?_eq_some_iff.1 hx).1
  have hnb := poolB_at hp hx
  have e : sizeR xs a = szN (sizesTo xs a) x := by
    unfold sizeR
    rw [hp, show hasI xs a = true by unfold hasI; simp [hl], Bool.and_self, if_pos rfl, Int.toNat_natCast, sizesTo_prefix xs (a + 1) a (by omega) (by omega), sizesTo_succ xs a x hx]
    have := sizesTo_length xs a (by omega)
    simp only [List.getD_eq_getElem?_getD]
    rw [List.getElem?_append_right (by omega), this]
    simp
  rw [e]
  unfold szN szA szB
  have part : ∀ q : Int, 0 ≤ q → q < a → sizeR xs q = (sizesTo xs a).getD q.toNat 0 := fun q h0 h1 => by
    obtain ⟨m, rfl⟩ := Int.eq_ofNat_of_zero_le h0
    unfold sizeR
    rw [hp, show hasI xs (m : Nat) = true by unfold hasI; simp; omega, Bool.and_self, if_pos rfl, Int.toNat_natCast, sizesTo_prefix xs a m (by omega) (by omega)]
  cases hA : hasA x.k with
  | false =>
    cases hB : hasB x.k with
    | false => rfl
    | true => have := nodeB_B hnb hB; rw [part x.b this.1 this.2]; rfl
  | true =>
    have h1 := nodeB_A hnb hA
    rw [part x.a h1.1 h1.2]
    cases hB : hasB x.k with
    | false => rfl
    | true => have := nodeB_B hnb hB; rw [part x.b this.1 this.2]


noncomputable def fst (xs : List Nd) (a : Nat) : Int := (firstsTo xs xs.length).getD a 0
/-- The node a with its parts' first ones. -/
noncomputable def keyAt (xs : List Nd) (a : Nat) : Nd := (keysTo xs xs.length).getD a ⟨0, 0, ByteArray.empty, 0, 0⟩

theorem keysTo_prefix (xs : List Nd) (k i : Nat) (hk : k ≤ xs.length) (hi : i < k) : (keysTo xs xs.length)[i]? = (keysTo xs k)[i]? := by
  induction h : xs.length - k generalizing k with
  | zero => rw [show k = xs.length by omega]
  | succ m ih =>
    have hx : xs[k]? = some xs[k] := List.getElem?_eq_getElem (by omega)
    rw [ih (k + 1) (by omega) (by omega) (by omega), keysTo_succ xs k _ hx, List.getElem?_append_left (by rw [keysTo_length xs k hk]; exact hi)]
theorem firsts_at (xs : List Nd) (a : Nat) (x : Nd) (hx : xs[a]? = some x) : fst xs a = ((idx (keysTo xs a) (nrm (firstsTo xs a) x) : Nat) : Int) := by
  have hl := (List.getElem?_eq_some_iff.1 hx).1
  unfold fst
  rw [firstsTo_prefix xs (a + 1) a (by omega) (by omega), firstsTo_succ xs a x hx]
  have := firstsTo_length xs a (by omega)
  simp only [List.getD_eq_getElem?_getD]
  rw [List.getElem?_append_right (by omega), this]
  simp
theorem idx_get (ks : List Nd) (y : Nd) (h : idx ks y < ks.length) : ks[idx ks y]? = some y := by
  induction ks with
  | nil => simp at h
  | cons k ks ih =>
    simp only [idx] at h ⊢
    split
    · rename_i e; simp [e]
    · rename_i e
      rw [if_neg e] at h
      simp only [List.length_cons] at h
      simpa using ih (by omega)
/-- The node's own key stands at its first one's place. -/
theorem key_first (xs : List Nd) (a : Nat) (x : Nd) (hx : xs[a]? = some x) : (keysTo xs xs.length)[(fst xs a).toNat]? = some (nrm (firstsTo xs a) x) := by
  have hl := (List.getElem?_eq_some_iff.1 hx).1
  have hk := keysTo_length xs a (by omega)
  rw [firsts_at xs a x hx, Int.toNat_natCast]
  by_cases h : idx (keysTo xs a) (nrm (firstsTo xs a) x) < a
  · rw [keysTo_prefix xs a _ (by omega) h]
    exact idx_get _ _ (by omega)
  · have e : idx (keysTo xs a) (nrm (firstsTo xs a) x) = a := by have := idx_le (keysTo xs a) (nrm (firstsTo xs a) x); omega
    rw [e, keysTo_prefix xs (a + 1) a (by omega) (by omega), keysTo_succ xs a x hx, List.getElem?_append_right (by omega), hk]
    simp
theorem first_eq (xs : List Nd) (a b : Nat) (x y : Nd) (hx : xs[a]? = some x) (hy : xs[b]? = some y) (h : fst xs a = fst xs b) : nrm (firstsTo xs a) x = nrm (firstsTo xs b) y := by
  have h1 := key_first xs a x hx
  have h2 := key_first xs b y hy
  rw [h, h2] at h1
  exact (Option.some.inj h1).symm
theorem part_first (xs : List Nd) (a q : Nat) (ha : a ≤ xs.length) (hq : q < a) : (firstsTo xs a).getD q 0 = fst xs q := by
  unfold fst
  rw [firstsTo_prefix xs a q ha hq]

/-- What is alike is written alike, and as great. -/
theorem alike_text (xs : List Nd) (hp : poolB xs = true) : ∀ (a b : Nat), a < xs.length → b < xs.length → fst xs a = fst xs b → fullT xs a = fullT xs b ∧ restT xs a = restT xs b ∧ sizeR xs a = sizeR xs b := by
  intro a
  induction a using Nat.strongRecOn with
  | _ a ih =>
    intro b ha hb h
    obtain ⟨x, hx⟩ : ∃ x, xs[a]? = some x := ⟨xs[a], by simp [ha]⟩
    obtain ⟨y, hy⟩ : ∃ y, xs[b]? = some y := ⟨xs[b], by simp [hb]⟩
    have hk := first_eq xs a b x y hx hy h
    have hnx := poolB_at hp hx
    have hny := poolB_at hp hy
    obtain ⟨xk, xn, xs', xa, xb⟩ := x
    obtain ⟨yk, yn, ys, ya, yb⟩ := y
    simp only [nrm, Nd.mk.injEq] at hk
    obtain ⟨rfl, rfl, rfl, hA, hB⟩ := hk
    have pa : hasA xk = true → ∃ m n : Nat, xa = m ∧ ya = n ∧ m < a ∧ n < b ∧ fst xs m = fst xs n := fun hh => by
      have h1 := nodeB_A hnx hh
      have h2 := nodeB_A hny hh
      dsimp only at h1 h2
      obtain ⟨m, rfl⟩ := Int.eq_ofNat_of_zero_le h1.1
      obtain ⟨n, rfl⟩ := Int.eq_ofNat_of_zero_le h2.1
      rw [if_pos hh, if_pos hh, Int.toNat_natCast, Int.toNat_natCast, part_first xs a m (by omega) (by omega), part_first xs b n (by omega) (by omega)] at hA
      exact ⟨m, n, rfl, rfl, by omega, by omega, hA⟩
    have pb : hasB xk = true → ∃ m n : Nat, xb = m ∧ yb = n ∧ m < a ∧ n < b ∧ fst xs m = fst xs n := fun hh => by
      have h1 := nodeB_B hnx hh
      have h2 := nodeB_B hny hh
      dsimp only at h1 h2
      obtain ⟨m, rfl⟩ := Int.eq_ofNat_of_zero_le h1.1
      obtain ⟨n, rfl⟩ := Int.eq_ofNat_of_zero_le h2.1
      rw [if_pos hh, if_pos hh, Int.toNat_natCast, Int.toNat_natCast, part_first xs a m (by omega) (by omega), part_first xs b n (by omega) (by omega)] at hB
      exact ⟨m, n, rfl, rfl, by omega, by omega, hB⟩
    have hsize : sizeR xs a = sizeR xs b := by
      rw [sizeR_step xs a _ hp hx, sizeR_step xs b _ hp hy]
      dsimp only
      have eA : (if hasA xk then sizeR xs xa else 0) = (if hasA xk then sizeR xs ya else 0) := by
        cases hh : hasA xk with
        | false => rfl
        | true =>
          obtain ⟨m, n, rfl, rfl, hm, hn, he⟩ := pa hh
          rw [(ih m hm n (by omega) (by omega) he).2.2]
      have eB : (if hasB xk then sizeR xs xb else 0) = (if hasB xk then sizeR xs yb else 0) := by
        cases hh : hasB xk with
        | false => rfl
        | true =>
          obtain ⟨m, n, rfl, rfl, hm, hn, he⟩ := pb hh
          rw [(ih m hm n (by omega) (by omega) he).2.2]
      rw [eA, eB]
    by_cases h5 : xk = 5
    · subst h5
      obtain ⟨m, n, rfl, rfl, hm, hn, he⟩ := pa rfl
      obtain ⟨m', n', rfl, rfl, hm', hn', he'⟩ := pb rfl
      obtain ⟨f1, _, _⟩ := ih m hm n (by omega) (by omega) he
      obtain ⟨_, r1, _⟩ := ih m' hm' n' (by omega) (by omega) he'
      refine ⟨?_, ?_, hsize⟩
      · rw [fullT_pair hp hx rfl rfl rfl hm hm', fullT_pair hp hy rfl rfl rfl hn hn', f1, r1]
      · rw [restT_pair hp hx rfl rfl rfl hm hm', restT_pair hp hy rfl rfl rfl hn hn', f1, r1]
    · have hw : wordL ⟨xk, xn, xs', xa, xb⟩ = wordL ⟨xk, xn, xs', ya, yb⟩ := rfl
      refine ⟨?_, ?_, hsize⟩
      · rw [fullT_word hx h5, fullT_word hy h5, hw]
      · by_cases h1 : xk = 1
        · rw [restT_nil hx h1, restT_nil hy h1]
        · rw [restT_word hx h5 h1, restT_word hy h5 h1, hw]

theorem sameR_comm (xs : List Nd) (a b : Int) : sameR xs a b = sameR xs b a := by
  unfold sameR
  rw [Bool.eq_iff_iff]
  simp only [Bool.and_eq_true, beq_iff_eq]
  constructor
  · rintro ⟨⟨⟨h1, h2⟩, h3⟩, h4⟩; exact ⟨⟨⟨h1, h3⟩, h2⟩, h4.symm⟩
  · rintro ⟨⟨⟨h1, h2⟩, h3⟩, h4⟩; exact ⟨⟨⟨h1, h3⟩, h2⟩, h4.symm⟩
theorem sameR_self {xs : List Nd} {a b : Int} (h : sameR xs a b = true) : sameR xs a a = true := by
  unfold sameR at *
  simp only [Bool.and_eq_true, beq_iff_eq] at *
  obtain ⟨⟨⟨h1, h2⟩, _⟩, _⟩ := h
  exact ⟨⟨⟨h1, h2⟩, h2⟩, trivial⟩
theorem same_text {xs : List Nd} {a b : Int} (h : sameR xs a b = true) : sizeR xs a = sizeR xs b ∧ writeR xs a = writeR xs b := by
  unfold sameR at h
  simp only [Bool.and_eq_true, beq_iff_eq] at h
  obtain ⟨⟨⟨hp, ha⟩, hb⟩, he⟩ := h
  have ha' := ha
  have hb' := hb
  simp only [hasI, Bool.and_eq_true, decide_eq_true_eq] at ha hb
  obtain ⟨m, rfl⟩ := Int.eq_ofNat_of_zero_le ha.1
  obtain ⟨n, rfl⟩ := Int.eq_ofNat_of_zero_le hb.1
  rw [Int.toNat_natCast, Int.toNat_natCast] at he
  obtain ⟨h1, _, h3⟩ := alike_text xs hp m n (by omega) (by omega) he
  refine ⟨h3, ?_⟩
  unfold writeR
  rw [hp, ha', hb', Int.toNat_natCast, Int.toNat_natCast, h1]
end Go.Proofs.YtmgjefkelohocaaDoor
