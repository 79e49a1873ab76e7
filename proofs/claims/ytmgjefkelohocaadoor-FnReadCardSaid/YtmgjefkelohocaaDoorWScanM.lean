/-
  Texts that stood by themselves, laid into one.
-/
import Derived.Test.YtmgjefkelohocaaDoorSWrM
import Derived.Test.YtmgjefkelohocaaDoorISizeM
import Derived.Test.YtmgjefkelohocaaDoorSWr2M
import Derived.Test.YtmgjefkelohocaaDoorSNumM
/-
  What is alike is as great, and written alike: plain mathematics. Nothing of the program; no condition.
-/
namespace Go.Proofs.YtmgjefkelohocaaDoor
open Go.RowKit

theorem sizeR_bounds (xs : List Nd) (a : Int) : 0 ≤ sizeR xs a ∧ sizeR xs a ≤ 1000000000 := by
  unfold sizeR
  split
  · exact getD_mem_bounds _ _ (sizesTo_bounds xs xs.length)
  · omega
theorem sizeR_step (xs : List Nd) (a : Nat) (x : Nd) (hp : poolB xs = true) (hx : xs[a]? = some x) :
    sizeR xs a = min (1 + (if hasA x.k then sizeR xs x.a else 0) + (if hasB x.k then sizeR xs x.b else 0)) 1000000000 := by
  have hl : a < xs.length := (List.getElem?_eq_some_iff.1 hx).1
  have hnb := poolB_at hp hx
  have e : sizeR xs a = szN (sizesTo xs a) x := by
    unfold sizeR
    rw [hp, show hasI xs a = true by unfold hasI; simp [hl], Bool.and_self, if_pos rfl, Int.toNat_natCast, sizesTo_prefix xs (a + 1) a (by omega) (by omega), sizesTo_succ xs a x hx]
    have := sizesTo_length xs a (by omega)
    simp only [List.getD_eq_getElem?_getD]
    rw [List.getElem?_append_right (by omega), this]
    simp
  rw [e]
  unfold szN szA szB
  have part : ∀ q : Int, 0 ≤ q → q < a → sizeR xs q = (sizesTo xs a).getD q.toNat 0 := fun q h0 h1 => by
    obtain ⟨m, rfl⟩ := Int.eq_ofNat_of_zero_le h0
    unfold sizeR
    rw [hp, show hasI xs (m : Nat) = true by unfold hasI; simp; omega, Bool.and_self, if_pos rfl, Int.toNat_natCast, sizesTo_prefix xs a m (by omega) (by omega)]
  cases hA : hasA x.k with
  | false =>
    cases hB : hasB x.k with
    | false => rfl
    | true => have := nodeB_B hnb hB; rw [part x.b this.1 this.2]; rfl
  | true =>
    have h1 := nodeB_A hnb hA
    rw [part x.a h1.1 h1.2]
    cases hB : hasB x.k with
    | false => rfl
    | true => have := nodeB_B hnb hB; rw [part x.b this.1 this.2]


noncomputable def fst (xs : List Nd) (a : Nat) : Int := (firstsTo xs xs.length).getD a 0
/-- The node a with its parts' first ones. -/
noncomputable def keyAt (xs : List Nd) (a : Nat) : Nd := (keysTo xs xs.length).getD a ⟨0, 0, ByteArray.empty, 0, 0⟩

theorem keysTo_prefix (xs : List Nd) (k i : Nat) (hk : k ≤ xs.length) (hi : i < k) : (keysTo xs xs.length)[i]? = (keysTo xs k)[i]? := by
  induction h : xs.length - k generalizing k with
  | zero => rw [show k = xs.length by omega]
  | succ m ih =>
    have hx : xs[k]? = some xs[k] := List.getElem?_eq_getElem (by omega)
    rw [ih (k + 1) (by omega) (by omega) (by omega), keysTo_succ xs k _ hx, List.getElem?_append_left (by rw [keysTo_length xs k hk]; exact hi)]
theorem firsts_at (xs : List Nd) (a : Nat) (x : Nd) (hx : xs[a]? = some x) : fst xs a = ((idx (keysTo xs a) (nrm (firstsTo xs a) x) : Nat) : Int) := by
  have hl := (List.getElem?_eq_some_iff.1 hx).1
  unfold fst
  rw [firstsTo_prefix xs (a + 1) a (by omega) (by omega), firstsTo_succ xs a x hx]
  have := firstsTo_length xs a (by omega)
  simp only [List.getD_eq_getElem?_getD]
  rw [List.getElem?_append_right (by omega), this]
  simp
theorem idx_get (ks : List Nd) (y : Nd) (h : idx ks y < ks.length) : ks[idx ks y]? = some y := by
  induction ks with
  | nil => simp at h
  | cons k ks ih =>
    simp only [idx] at h ⊢
    split
    · rename_i e; simp [e]
    · rename_i e
      rw [if_neg e] at h
      simp only [List.length_cons] at h
      simpa using ih (by omega)
/-- The node's own key stands at its first one's place. -/
theorem key_first (xs : List Nd) (a : Nat) (x : Nd) (hx : xs[a]? = some x) : (keysTo xs xs.length)[(fst xs a).toNat]? = some (nrm (firstsTo xs a) x) := by
  have hl := (List.getElem?_eq_some_iff.1 hx).1
  have hk := keysTo_length xs a (by omega)
  rw [firsts_at xs a x hx, Int.toNat_natCast]
  by_cases h : idx (keysTo xs a) (nrm (firstsTo xs a) x) < a
  · rw [keysTo_prefix xs a _ (by omega) h]
    exact idx_get _ _ (by omega)
  · have e : idx (keysTo xs a) (nrm (firstsTo xs a) x) = a := by have := idx_le (keysTo xs a) (nrm (firstsTo xs a) x); omega
    rw [e, keysTo_prefix xs (a + 1) a (by omega) (by omega), keysTo_succ xs a x hx, List.getElem?_append_right (by omega), hk]
    simp
theorem first_eq (xs : List Nd) (a b : Nat) (x y : Nd) (hx : xs[a]? = some x) (hy : xs[b]? = some y) (h : fst xs a = fst xs b) : nrm (firstsTo xs a) x = nrm (firstsTo xs b) y := by
  have h1 := key_first xs a x hx
  have h2 := key_first xs b y hy
  rw [h, h2] at h1
  exact (Option.some.inj h1).symm
theorem part_first (xs : List Nd) (a q : Nat) (ha : a ≤ xs.length) (hq : q < a) : (firstsTo xs a).getD q 0 = fst xs q := by
  unfold fst
  rw [firstsTo_prefix xs a q ha hq]

/-- What is alike is written alike, and as great. -/
theorem alike_text (xs : List Nd) (hp : poolB xs = true) : ∀ (a b : Nat), a < xs.length → b < xs.length → fst xs a = fst xs b → fullT xs a = fullT xs b ∧ restT xs a = restT xs b ∧ sizeR xs a = sizeR xs b := by
  intro a
  induction a using Nat.strongRecOn with
  | _ a ih =>
    intro b ha hb h
    obtain ⟨x, hx⟩ : ∃ x, xs[a]? = some x := ⟨xs[a], by simp [ha]⟩
    obtain ⟨y, hy⟩ : ∃ y, xs[b]? = some y := ⟨xs[b], by simp [hb]⟩
    have hk := first_eq xs a b x y hx hy h
    have hnx := poolB_at hp hx
    have hny := poolB_at hp hy
    obtain ⟨xk, xn, xs', xa, xb⟩ := x
    obtain ⟨yk, yn, ys, ya, yb⟩ := y
    simp only [nrm, Nd.mk.injEq] at hk
    obtain ⟨rfl, rfl, rfl, hA, hB⟩ := hk
    have pa : hasA xk = true → ∃ m n : Nat, xa = m ∧ ya = n ∧ m < a ∧ n < b ∧ fst xs m = fst xs n := fun hh => by
      have h1 := nodeB_A hnx hh
      have h2 := nodeB_A hny hh
      dsimp only at h1 h2
      obtain ⟨m, rfl⟩ := Int.eq_ofNat_of_zero_le h1.1
      obtain ⟨n, rfl⟩ := Int.eq_ofNat_of_zero_le h2.1
      rw [if_pos hh, if_pos hh, Int.toNat_natCast, Int.toNat_natCast, part_first xs a m (by omega) (by omega), part_first xs b n (by omega) (by omega)] at hA
      exact ⟨m, n, rfl, rfl, by omega, by omega, hA⟩
    have pb : hasB xk = true → ∃ m n : Nat, xb = m ∧ yb = n ∧ m < a ∧ n < b ∧ fst xs m = fst xs n := fun hh => by
      have h1 := nodeB_B hnx hh
      have h2 := nodeB_B hny hh
      dsimp only at h1 h2
      obtain ⟨m, rfl⟩ := Int.eq_ofNat_of_zero_le h1.1
      obtain ⟨n, rfl⟩ := Int.eq_ofNat_of_zero_le h2.1
      rw [if_pos hh, if_pos hh, Int.toNat_natCast, Int.toNat_natCast, part_first xs a m (by omega) (by omega), part_first xs b n (by omega) (by omega)] at hB
      exact ⟨m, n, rfl, rfl, by omega, by omega, hB⟩
    have hsize : sizeR xs a = sizeR xs b := by
      rw [sizeR_step xs a _ hp hx, sizeR_step xs b _ hp hy]
      dsimp only
      have eA : (if hasA xk then sizeR xs xa else 0) = (if hasA xk then sizeR xs ya else 0) := by
        cases hh : hasA xk with
        | false => rfl
        | true =>
          obtain ⟨m, n, rfl, rfl, hm, hn, he⟩ := pa hh
          rw [(ih m hm n (by omega) (by omega) he).2.2]
      have eB : (if hasB xk then sizeR xs xb else 0) = (if hasB xk then sizeR xs yb else 0) := by
        cases hh : hasB xk with
        | false => rfl
        | true =>
          obtain ⟨m, n, rfl, rfl, hm, hn, he⟩ := pb hh
          rw [(ih m hm n (by omega) (by omega) he).2.2]
      rw [eA, eB]
    by_cases h5 : xk = 5
    · subst h5
      obtain ⟨m, n, rfl, rfl, hm, hn, he⟩ := pa rfl
      obtain ⟨m', n', rfl, rfl, hm', hn', he'⟩ := pb rfl
      obtain ⟨f1, _, _⟩ := ih m hm n (by omega) (by omega) he
      obtain ⟨_, r1, _⟩ := ih m' hm' n' (by omega) (by omega) he'
      refine ⟨?_, ?_, hsize⟩
      · rw [fullT_pair hp hx rfl rfl rfl hm hm', fullT_pair hp hy rfl rfl rfl hn hn', f1, r1]
      · rw [restT_pair hp hx rfl rfl rfl hm hm', restT_pair hp hy rfl rfl rfl hn hn', f1, r1]
    · have hw : wordL ⟨xk, xn, xs', xa, xb⟩ = wordL ⟨xk, xn, xs', ya, yb⟩ := rfl
      refine ⟨?_, ?_, hsize⟩
      · rw [fullT_word hx h5, fullT_word hy h5, hw]
      · by_cases h1 : xk = 1
        · rw [restT_nil hx h1, restT_nil hy h1]
        · rw [restT_word hx h5 h1, restT_word hy h5 h1, hw]

theorem sameR_comm (xs : List Nd) (a b : Int) : sameR xs a b = sameR xs b a := by
  unfold sameR
  rw [Bool.eq_iff_iff]
  simp only [Bool.and_eq_true, beq_iff_eq]
  constructor
  · rintro ⟨⟨⟨h1, h2⟩, h3⟩, h4⟩; exact ⟨⟨⟨h1, h3⟩, h2⟩, h4.symm⟩
  · rintro ⟨⟨⟨h1, h2⟩, h3⟩, h4⟩; exact ⟨⟨⟨h1, h3⟩, h2⟩, h4.symm⟩
theorem sameR_self {xs : List Nd} {a b : Int} (h : sameR xs a b = true) : sameR xs a a = true := by
  unfold sameR at *
  simp only [Bool.and_eq_true, beq_iff_eq] at *
  obtain ⟨⟨⟨h1, h2⟩, _⟩, _⟩ := h
  exact ⟨⟨⟨h1, h2⟩, h2⟩, trivial⟩
theorem same_text {xs : List Nd} {a b : Int} (h : sameR xs a b = true) : sizeR xs a = sizeR xs b ∧ writeR xs a = writeR xs b := by
  unfold sameR at h
  simp only [Bool.and_eq_true, beq_iff_eq] at h
  obtain ⟨⟨⟨hp, ha⟩, hb⟩, he⟩ := h
  have ha' := ha
  have hb' := hb
  simp only [hasI, Bool.and_eq_true, decide_eq_true_eq] at ha hb
  obtain ⟨m, rfl⟩ := Int.eq_ofNat_of_zero_le ha.1
  obtain ⟨n, rfl⟩ := Int.eq_ofNat_of_zero_le hb.1
  rw [Int.toNat_natCast, Int.toNat_natCast] at he
  obtain ⟨h1, _, h3⟩ := alike_text xs hp m n (by omega) (by omega) he
  refine ⟨h3, ?_⟩
  unfold writeR
  rw [hp, ha', hb', Int.toNat_natCast, Int.toNat_natCast, h1]
end Go.Proofs.YtmgjefkelohocaaDoor

/-
  What is written has as many brackets closed as opened, and no two blanks together: plain mathematics. Nothing of the program; no condition.
-/
namespace Go.Proofs.YtmgjefkelohocaaDoor
open Go.RowKit

theorem itoa_wb (n : Int) : (∀ c ∈ Lib.itoa n, wb (c.toNat : Int) = true) ∧ Lib.itoa n ≠ [] := by
  have hd : ∀ (m : Nat), ∀ c ∈ Lib.decDigits m, wb (c.toNat : Int) = true := fun m c hc => by
    have := dec_dig m c hc
    simp only [isDig, Bool.and_eq_true, decide_eq_true_eq] at this
    have h1 : digB (c.toNat : Int) = true := by simp only [digB, Bool.and_eq_true, decide_eq_true_eq]; omega
    simp [wb, h1]
  unfold Lib.itoa
  split
  · refine ⟨fun c hc => ?_, by simp⟩
    rcases List.mem_cons.1 hc with rfl | hc
    · decide
    · exact hd _ c hc
  · exact ⟨hd _, dec_ne _⟩
theorem name_wb {s : ByteArray} (h : nameB s = true) : (∀ c ∈ s.data.toList, wb (c.toNat : Int) = true) ∧ s.data.toList ≠ [] := by
  simp only [nameB, Bool.and_eq_true, decide_eq_true_eq] at h
  obtain ⟨⟨h1, h2⟩, h3⟩ := h
  refine ⟨fun c hc => ?_, fun e => ?_⟩
  · obtain ⟨i, hi, rfl⟩ := List.getElem_of_mem hc
    have hi' : i < s.size := by rw [Array.length_toList] at hi; exact hi
    have := h3 ⟨i, hi'⟩
    have e : s.data.toList[i] = s[i] := by simp; rfl
    rw [e]
    simp only [wb]
    rw [show nb (s[i].toNat : Int) = true from this]
    rfl
  · have e2 := congrArg List.length e
    rw [Array.length_toList] at e2
    have : s.size = 0 := e2
    omega
/-- A word's bytes. -/
theorem word_wb {x : Nd} {i : Int} (h : nodeB x i = true) (h5 : ¬ x.k = 5) (h1 : ¬ x.k = 1) : (∀ c ∈ wordL x, wb (c.toNat : Int) = true) ∧ wordL x ≠ [] := by
  have h' := h
  simp only [nodeB, Bool.and_eq_true, decide_eq_true_eq] at h'
  obtain ⟨⟨⟨⟨k1, k2⟩, _⟩, _⟩, ⟨hn, _⟩, _⟩ := h'
  have ap : ∀ (l m : List UInt8), (∀ c ∈ l, wb (c.toNat : Int) = true) → ((∀ c ∈ m, wb (c.toNat : Int) = true) ∧ m ≠ []) → (∀ c ∈ l ++ m, wb (c.toNat : Int) = true) ∧ l ++ m ≠ [] := fun l m hl hm =>
    ⟨fun c hc => by rcases List.mem_append.1 hc with hc | hc; exact hl c hc; exact hm.1 c hc, by simp [hm.2]⟩
  unfold wordL
  rw [if_neg h1]
  split
  · split <;> exact ⟨by decide, by simp⟩
  split
  · exact itoa_wb _
  split
  · rename_i h4
    rw [nameFB, hasS, if_pos (by simp [h4])] at hn
    exact name_wb hn
  split
  · exact ap _ _ (by decide) (itoa_wb _)
  split
  · exact ap _ _ (by decide) (itoa_wb _)
  split
  · exact ap _ _ (by decide) (itoa_wb _)
  split
  · exact ap _ _ (by decide) (itoa_wb _)
  · omega
theorem wb_not {c : UInt8} (h : wb (c.toNat : Int) = true) : ¬ c = 32 ∧ ¬ c = 40 ∧ ¬ c = 41 := by
  refine ⟨?_, ?_, ?_⟩ <;> (rintro rfl; revert h; decide)

/-- How many brackets are open behind a text. -/
def stepW (o : Int) (c : UInt8) : Int := if c = 40 then o + 1 else if c = 41 then o - 1 else o
def dep : Int → List UInt8 → Int
  | o, [] => o
  | o, c :: l => dep (stepW o c) l
theorem dep_append (o : Int) (l m : List UInt8) : dep o (l ++ m) = dep (dep o l) m := by
  induction l generalizing o with
  | nil => rfl
  | cons c l ih => exact ih _
def Bal (l : List UInt8) : Prop := ∀ o, 0 ≤ o → (∀ k, 0 ≤ dep o (l.take k)) ∧ dep o l = o
theorem Bal.append {l m : List UInt8} (hl : Bal l) (hm : Bal m) : Bal (l ++ m) := by
  intro o ho
  refine ⟨fun k => ?_, by rw [dep_append, (hl o ho).2, (hm o ho).2]⟩
  rw [List.take_append, dep_append]
  by_cases hk : k ≤ l.length
  · rw [show k - l.length = 0 by omega]
    exact (hl o ho).1 k
  · rw [List.take_of_length_le (by omega), (hl o ho).2]
    exact (hm o ho).1 _
theorem Bal.nil : Bal [] := fun o ho => ⟨fun k => by simpa [dep] using ho, rfl⟩
theorem Bal.brackets {l : List UInt8} (hl : Bal l) : Bal ([40] ++ l ++ [41]) := by
  intro o ho
  have h41 : ∀ q : Int, dep q [41] = q - 1 := fun q => by simp [dep, stepW]
  refine ⟨fun k => ?_, ?_⟩
  · cases k with
    | zero => simpa [dep] using ho
    | succ k =>
      simp only [List.cons_append, List.nil_append, List.take_succ_cons, dep]
      rw [show stepW o 40 = o + 1 from rfl, List.take_append, dep_append]
      by_cases hk : k ≤ l.length
      · rw [show k - l.length = 0 by omega]
        exact (hl (o + 1) (by omega)).1 k
      · rw [List.take_of_length_le (by omega), (hl (o + 1) (by omega)).2, List.take_of_length_le (by simp; omega), h41]
        omega
  · rw [dep_append, h41]
    simp only [List.cons_append, List.nil_append, dep]
    rw [show stepW o 40 = o + 1 from rfl, (hl (o + 1) (by omega)).2]
    omega
theorem Bal.plain {l : List UInt8} (h : ∀ c ∈ l, ¬ c = 40 ∧ ¬ c = 41) : Bal l := by
  induction l with
  | nil => exact Bal.nil
  | cons c l ih =>
    intro o ho
    have hc := h c (by simp)
    have hs : stepW o c = o := by simp [stepW, hc.1, hc.2]
    have := ih (fun d hd => h d (by simp [hd])) o ho
    refine ⟨fun k => ?_, by rw [dep, hs]; exact this.2⟩
    cases k with
    | zero => simpa [dep] using ho
    | succ k => rw [List.take_succ_cons, dep, hs]; exact this.1 k
/-- No blank at an end, no two together: b: the byte ahead is a blank, or there is none. -/
def bk : Bool → List UInt8 → Bool
  | b, [] => !b
  | b, c :: l => if c = 32 then !b && bk true l else bk false l
theorem bk_word (b : Bool) (l r : List UInt8) (h : ∀ c ∈ l, ¬ c = 32) (hl : l ≠ []) : bk b (l ++ r) = bk false r := by
  induction l generalizing b with
  | nil => exact absurd rfl hl
  | cons c l ih =>
    rw [List.cons_append, bk, if_neg (h c (by simp))]
    cases l with
    | nil => rfl
    | cons d l => exact ih false (fun e he => h e (by simp [he])) (by simp)
theorem written_ok {xs : List Nd} (hp : poolB xs = true) : ∀ v, v < xs.length → (Bal (fullT xs v) ∧ ∀ b r, bk b (fullT xs v ++ r) = bk false r) ∧ (Bal (restT xs v) ∧ ∀ r, bk false (restT xs v ++ r) = bk false r) := by
  intro v
  induction v using Nat.strongRecOn with
  | _ v ih =>
    intro hv
    obtain ⟨x, hx⟩ : ∃ x, xs[v]? = some x := ⟨xs[v], by simp [hv]⟩
    have hn := pool_at hp hx
    by_cases h5 : x.k = 5
    · obtain ⟨a, b, ha, hb, hal, hbl⟩ := pool_pair hp hx h5
      obtain ⟨⟨B1, k1⟩, _⟩ := ih a hal (by omega)
      obtain ⟨_, B2, k2⟩ := ih b hbl (by omega)
      rw [fullT_pair hp hx h5 ha hb hal hbl, restT_pair hp hx h5 ha hb hal hbl]
      refine ⟨⟨?_, fun b' r => ?_⟩, ?_, fun r => ?_⟩
      · rw [List.append_assoc [40]]
        exact (B1.append B2).brackets
      · simp only [List.append_assoc, List.cons_append, List.nil_append]
        rw [bk, if_neg (by decide), k1, k2, bk, if_neg (by decide)]
      · exact ((Bal.plain (l := [32]) (by decide)).append B1).append B2
      · simp only [List.append_assoc, List.cons_append, List.nil_append]
        rw [bk, if_pos rfl, Bool.not_false, Bool.true_and, k1, k2]
    · rw [fullT_word hx h5]
      by_cases h1 : x.k = 1
      · have e : wordL x = [40, 41] := by unfold wordL; rw [if_pos h1]
        rw [e, restT_nil hx h1]
        refine ⟨⟨?_, fun b r => ?_⟩, Bal.nil, fun r => rfl⟩
        · exact Bal.nil.brackets
        · exact bk_word b [40, 41] r (by decide) (by simp)
      · obtain ⟨hw, hne⟩ := word_wb hn h5 h1
        rw [restT_word hx h5 h1]
        have hB : Bal (wordL x) := Bal.plain fun c hc => (wb_not (hw c hc)).2
        have hk : ∀ b r, bk b (wordL x ++ r) = bk false r := fun b r => bk_word b _ r (fun c hc => (wb_not (hw c hc)).1) hne
        refine ⟨⟨hB, hk⟩, ?_, fun r => ?_⟩
        · exact (Bal.plain (l := [32, 46, 32]) (by decide)).append hB
        · simp only [List.cons_append, List.nil_append]
          rw [bk, if_pos rfl, Bool.not_false, Bool.true_and, bk, if_neg (by decide), bk, if_pos rfl, Bool.not_false, Bool.true_and, hk]
theorem bk_at {l : List UInt8} : ∀ {b : Bool}, bk b l = true → ∀ i, l[i]? = some (32 : UInt8) → (i = 0 → b = false) ∧ ∃ c, l[i + 1]? = some c ∧ ¬ c = 32 := by
  induction l with
  | nil => intro b _ i h; simp at h
  | cons c l ih =>
    intro b h i hi
    rw [bk] at h
    cases i with
    | zero =>
      simp at hi
      rw [if_pos hi, Bool.and_eq_true] at h
      refine ⟨fun _ => by simpa using h.1, ?_⟩
      cases l with
      | nil => simp [bk] at h
      | cons d l =>
        refine ⟨d, rfl, fun e => ?_⟩
        have := h.2
        rw [bk, if_pos e] at this
        simp at this
    | succ i =>
      refine ⟨fun e => by omega, ?_⟩
      have hi' : l[i]? = some (32 : UInt8) := by simpa using hi
      split at h
      · rw [Bool.and_eq_true] at h
        exact (ih h.2 i hi').2
      · exact (ih h i hi').2
/-- What Write answers, looked through byte by byte. -/
structure Neat (l : List UInt8) : Prop where
  open_ : ∀ k, 0 ≤ dep 0 (l.take k)
  done : dep 0 l = 0
  blank : ∀ i, l[i]? = some (32 : UInt8) → ¬ i = 0 ∧ ∃ c, l[i + 1]? = some c ∧ ¬ c = 32
theorem dep_take {l : List UInt8} {i : Nat} {c : UInt8} (h : l[i]? = some c) : dep 0 (l.take (i + 1)) = stepW (dep 0 (l.take i)) c := by
  rw [List.take_add_one, h, dep_append]
  rfl
end Go.Proofs.YtmgjefkelohocaaDoor
