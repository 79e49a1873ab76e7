/-
  Texts that stood by themselves, laid into one.
-/
import Derived.Test.YtjnhocefnfmhmaaGreatDoorEasM
import Derived.Test.YtjnhocefnfmhmaaGreatDoorRNumsM
import Derived.Test.YtjnhocefnfmhmaaGreatDoorMPackM
import Derived.Test.YtjnhocefnfmhmaaGreatDoorStepAppM
import Derived.Test.YtjnhocefnfmhmaaGreatDoorSGTextM
import Derived.Test.YtjnhocefnfmhmaaGreatDoorSbM
import Derived.Test.YtjnhocefnfmhmaaGreatDoorPrRegM
import Derived.Test.YtjnhocefnfmhmaaGreatDoorS8RgM
import Derived.Test.YtjnhocefnfmhmaaGreatDoorITdM
import Derived.Test.YtjnhocefnfmhmaaGreatDoorRVal2M
import Derived.Test.YtjnhocefnfmhmaaGreatDoorS8RdM
import Derived.Test.YtjnhocefnfmhmaaGreatDoorNumberM
import Derived.Test.YtjnhocefnfmhmaaGreatDoorBsM
import Derived.Deep.RegionHeld3
import Derived.Test.YtjnhocefnfmhmaaGreatDoorSR8M
/-
  When what is read of bytes is a machine: plain mathematics. Both ways of asking whether nothing else is there come to the same. No condition.
-/
namespace Go.Proofs.YtjnhocefnfmhmaaGreatDoor
open Go.RowKit

/-- A machine's numbers, as they are written. -/
def mcOf : List Int → Mc
  | [p, t, q, s, e, d, r] => ⟨p, s, e, d, t, q, r⟩
  | _ => ⟨0, 0, 0, 0, 0, 0, 0⟩
theorem mpN_of {l : List Int} (h : l.length = 7) : mpN (mcOf l) = l := by
  match l, h with
  | [p, t, q, s, e, d, r], _ => rfl
/-- So many numbers, once something is wrong noughts. -/
def num8K (zs : List Int) : Nat → Int → Bool → List Int × Int × Bool
  | 0, a, ok => ([], a, ok)
  | n + 1, a, ok => ((num8 zs a ok).1 :: (num8K zs n (num8 zs a ok).2.1 (num8 zs a ok).2.2).1, (num8K zs n (num8 zs a ok).2.1 (num8 zs a ok).2.2).2)
theorem num8K_false (zs : List Int) : ∀ (n : Nat) (a : Int), (num8K zs n a false).2.2 = false
  | 0, a => rfl
  | n + 1, a => by rw [num8K, num8_false]; exact num8K_false zs n a
theorem num8K_rd (zs : List Int) : ∀ (n : Nat) (a : Int), (∀ q, rdK zs n a = some q → num8K zs n a true = (q.1, q.2, true)) ∧ (rdK zs n a = none → (num8K zs n a true).2.2 = false)
  | 0, a => ⟨fun q h => by cases h; rfl, fun h => by cases h⟩
  | n + 1, a => by
    rw [rdK, num8K]
    cases h : rd1 zs a with
    | none => rw [num8_none h]; exact ⟨fun q hq => by (simp at hq), fun _ => num8K_false zs n a⟩
    | some p =>
      rw [(rd1_num8 zs a).2 p h]
      obtain ⟨i1, i2⟩ := num8K_rd zs n p.2
      simp only [Option.bind_some]
      cases h2 : rdK zs n p.2 with
      | none => exact ⟨fun q hq => by (simp at hq), fun _ => i2 h2⟩
      | some t => rw [i1 t h2]; exact ⟨fun q hq => by (simp at hq; subst hq; rfl), fun hq => by (simp at hq)⟩
theorem num8K_len (zs : List Int) : ∀ (n : Nat) (a : Int) (ok : Bool), (num8K zs n a ok).1.length = n
  | 0, a, ok => rfl
  | n + 1, a, ok => by rw [num8K, List.length_cons, num8K_len zs n]
theorem rdK_lies {zs : List Int} (hz : ∀ z ∈ zs, 0 ≤ z ∧ z ≤ 255) : ∀ (n : Nat) (a : Int) (q : List Int × Int), 0 ≤ a → rdK zs n a = some q → Lies zs a (q.1.flatMap encI) q.2 ∧ ∀ x ∈ q.1, 0 ≤ x ∧ x ≤ 9223372036854775807
  | 0, a, q, ha, h => by cases h; exact ⟨Lies.nil ha, by intro x hx; cases hx⟩
  | n + 1, a, q, ha, h => by
    rw [rdK, Option.bind_eq_some_iff] at h
    obtain ⟨p, h1, h2⟩ := h
    rw [Option.map_eq_some_iff] at h2
    obtain ⟨t, h3, rfl⟩ := h2
    obtain ⟨L1, _⟩ := rd1_lies (x := p.1) (b := p.2) hz h1
    obtain ⟨r1, r2, r3, _⟩ := rd1_range h1
    obtain ⟨L2, h5⟩ := rdK_lies hz n p.2 t r3 h3
    refine ⟨by rw [List.flatMap_cons]; exact L1.append L2, fun x hx => ?_⟩
    rcases List.mem_cons.1 hx with rfl | hx
    · exact ⟨r1, r2⟩
    · exact h5 x hx
theorem rdP_lies {zs : List Int} {xs : List Nd} {a b : Int} (hz : ∀ z ∈ zs, 0 ≤ z ∧ z ≤ 255) (h : rdP zs a = some (xs, b)) : poolB xs = true ∧ Lies zs a (wireL xs) b := by
  unfold rdP at h
  rw [Option.bind_eq_some_iff] at h
  obtain ⟨⟨n, a1⟩, h1, h2⟩ := h
  split at h2
  · cases h2
  rw [Option.bind_eq_some_iff] at h2
  obtain ⟨⟨ys, c⟩, h3, h4⟩ := h2
  split at h4
  · rename_i hp
    cases h4
    obtain ⟨L1, hn⟩ := rd1_lies hz h1
    obtain ⟨L2, hl⟩ := rdNds_lies hz n.toNat a1 _ xs (by have := L1.1; have := L1.2.1; omega) h3
    refine ⟨hp, ?_⟩
    unfold wireL
    rw [show (xs.length : Int) = n by omega]
    exact L1.append L2
  · cases h4
theorem Lies.whole {zs L : List Int} (h : Lies zs 0 L zs.length) : L = zs := by
  obtain ⟨_, hlen, rest, hr⟩ := h
  rw [Int.toNat_zero, List.drop_zero] at hr
  have hlen2 := congrArg List.length hr
  rw [List.length_append] at hlen2
  have : rest = [] := List.eq_nil_of_length_eq_zero (by omega)
  rw [this, List.append_nil] at hr
  exact hr.symm
theorem flat_head : ∀ (l m : List Int) (p q : List Int), l.length = m.length → (∀ x ∈ l, 0 ≤ x ∧ x ≤ 9223372036854775807) → (∀ x ∈ m, 0 ≤ x ∧ x ≤ 9223372036854775807) → l.flatMap encI ++ p = m.flatMap encI ++ q → l = m ∧ p = q
  | [], [], p, q, _, _, _, h => ⟨rfl, h⟩
  | x :: l, y :: m, p, q, hl, h1, h2, h => by
    rw [List.flatMap_cons, List.flatMap_cons, List.append_assoc, List.append_assoc] at h
    have hx := h1 x (by simp)
    have hy := h2 y (by simp)
    have e := encI_head hx.1 hy.1 hx.2 hy.2 h
    subst e
    obtain ⟨e1, e2⟩ := flat_head l m p q (by simpa using hl) (fun z hz => h1 z (by simp [hz])) (fun z hz => h2 z (by simp [hz])) (List.append_cancel_left h)
    exact ⟨by rw [e1], e2⟩
/-- Written again it is the same just where all is reached. -/
theorem mach_iff {ns : List Nd} {is : List In} {ds : List Df} {xs : List Nd} {m : Mc} (h : machB ns is ds xs m = true) (hm : ∀ x ∈ mpN m, 0 ≤ x ∧ x ≤ 9223372036854775807) : mpL xs m = (mpN m).flatMap encI ++ wireL xs ↔ allR xs (tdR m) = true := by
  obtain ⟨hp, ha, _⟩ := machB_parts h
  have hok : tdOk xs m = true := by unfold tdOk; rw [hp, ha]; rfl
  have eL : tdL xs m = mvN 0 xs (tdR m) := by unfold tdL; rw [if_pos hok]
  have hf0 : ∀ r ∈ tdR m, 0 ≤ tdF xs m r := fun r hr => (at8_root xs (tdR m) hp ha 0 r hr).2.2
  have hs : ∀ r, r ∈ [m.s, m.e, m.d] → r ∈ tdR m := fun r hr => by
    unfold tdR
    split
    · simp only [List.mem_cons, List.mem_nil_iff, or_false] at hr ⊢; rcases hr with h | h | h <;> simp [h]
    · exact hr
  constructor
  · intro e
    unfold mpL at e
    obtain ⟨b1, _, _⟩ := td_small h
    have hn0 : ∀ x ∈ mpN (tdM xs m), 0 ≤ x := by
      unfold tdM
      rw [if_pos hok]
      intro x hx
      have hall := hm
      simp only [mpN, List.mem_cons, List.mem_nil_iff, or_false] at hx hall
      rcases hx with rfl | rfl | rfl | rfl | rfl | rfl | rfl
      · exact (hall _ (by simp)).1
      · exact (hall _ (by simp)).1
      · exact (hall _ (by simp)).1
      · exact hf0 _ (hs _ (by simp))
      · exact hf0 _ (hs _ (by simp))
      · exact hf0 _ (hs _ (by simp))
      · show 0 ≤ (if argB m then tdF xs m m.r else m.r)
        split
        · rename_i hb; exact hf0 _ (by unfold tdR; rw [if_pos hb]; simp)
        · exact (hall _ (by simp)).1
    obtain ⟨_, e2⟩ := flat_head (mpN (tdM xs m)) (mpN m) _ _ rfl (fun x hx => ⟨hn0 x hx, b1 x hx⟩) hm e
    rw [eL] at e2
    exact (again_iff xs (tdR m) hp ha).1 e2
  · intro hr
    have hk := keep_same xs (tdR m) hp ha ((allR_iff xs (tdR m)).1 hr)
    have hF : ∀ r ∈ tdR m, tdF xs m r = r := by
      intro r hr'
      have := hk.2
      unfold mvR at this
      have h2 := List.map_inj_left.1 (this.trans (List.map_id _).symm) r hr'
      exact h2
    have eM : tdM xs m = m := by
      unfold tdM
      rw [if_pos hok, hF _ (hs _ (by simp)), hF _ (hs _ (by simp)), hF _ (hs _ (by simp))]
      split
      · rename_i hb; rw [hF m.r (by unfold tdR; rw [if_pos hb]; simp)]
      · rfl
    unfold mpL
    rw [eL, eM, hk.1]

/-- What is read of bytes as a machine of a code. -/
def mrR (ns : List Nd) (is : List In) (ds : List Df) (zs : List Int) : Option (List Nd × Mc) :=
  (rdK zs 7 0).bind fun q => (rdP zs q.2).bind fun r => if r.2 = zs.length ∧ machB ns is ds r.1 (mcOf q.1) = true ∧ allR r.1 (tdR (mcOf q.1)) = true then some (r.1, mcOf q.1) else none
/-- As the specification asks: l, a, k are what is left behind the numbers. -/
theorem mrR_spec {ns : List Nd} {is : List In} {ds : List Df} {zs l : List Int} {a : Int} {k : Bool} (hz : ∀ z ∈ zs, 0 ≤ z ∧ z ≤ 255) (hl : num8K zs 7 0 true = (l, a, k)) (xs : List Nd) (m : Mc) :
    mrR ns is ds zs = some (xs, m) ↔ (sOk zs a k = true ∧ (sP zs a k).1 = xs) ∧ m = mcOf l ∧ machB ns is ds xs m = true ∧ mpL xs m = zs := by
  obtain ⟨n1, n2⟩ := num8K_rd zs 7 0
  unfold mrR
  cases hr : rdK zs 7 0 with
  | none =>
    have hk := n2 hr
    rw [hl] at hk
    have hk : k = false := hk
    subst hk
    simp only [Option.bind_none, reduceCtorEq, false_iff]
    rintro ⟨⟨h1, _⟩, _⟩
    have : sOk zs a false = false := by unfold sOk sP sCount; rw [num8_false]; simp [sNs]
    rw [this] at h1
    cases h1
  | some q =>
    have hq := n1 q hr
    rw [hl] at hq
    obtain ⟨q1, q2⟩ := q
    cases hq
    obtain ⟨L1, hrg⟩ := rdK_lies hz 7 0 (q1, q2) (by omega) hr
    have h7 : q1.length = 7 := rdK_len hr
    have hmp := mpN_of h7
    simp only [Option.bind_some]
    rw [sP_rdP, Option.bind_eq_some_iff]
    constructor
    · rintro ⟨⟨ys, b⟩, h1, h2⟩
      split at h2
      · rename_i hc
        cases h2
        obtain ⟨c1, c2, c3⟩ := hc
        simp only at c1 c2 c3
        subst c1
        obtain ⟨_, L2⟩ := rdP_lies hz h1
        have hw := (L1.append L2).whole
        refine ⟨h1, rfl, c2, ?_⟩
        rw [(mach_iff c2 (by rw [hmp]; exact hrg)).2 c3, hmp]
        exact hw
      · cases h2
    · rintro ⟨h1, rfl, h3, h4⟩
      obtain ⟨_, L2⟩ := rdP_lies hz h1
      have hw := (L1.append L2).whole
      refine ⟨_, h1, ?_⟩
      rw [if_pos ⟨rfl, h3, (mach_iff h3 (by rw [hmp]; exact hrg)).1 (by rw [h4, hmp]; exact hw.symm)⟩]
end Go.Proofs.YtjnhocefnfmhmaaGreatDoor

/-
  What ProcRead comes to: plain mathematics. No condition.
-/
namespace Go.Proofs.YtjnhocefnfmhmaaGreatDoor
open Go.RowKit

/-- One text more. -/
def rt (zs : List Int) (a : Int) : Option (ByteArray × Int) := if (gT zs a).2.2 then some ((gT zs a).1, (gT zs a).2.1) else none
/-- So many texts. -/
def rdTs (zs : List Int) : Nat → Int → Option (List ByteArray × Int)
  | 0, a => some ([], a)
  | n + 1, a => (rt zs a).bind fun p => (rdTs zs n p.2).map fun q => (p.1 :: q.1, q.2)
/-- A row of texts: how many, and these. -/
def rdTL (zs : List Int) (a : Int) : Option (List ByteArray × Int) := (rd1 zs a).bind fun p => rdTs zs p.1.toNat p.2
/-- The same, but of at most so many. -/
def rdTB (zs : List Int) (most : Nat) (a : Int) : Option (List ByteArray × Int) := (rd1 zs a).bind fun p => if p.1 > most then none else rdTs zs p.1.toNat p.2
theorem rdTs_snoc (zs : List Int) : ∀ (n : Nat) (a : Int), rdTs zs (n + 1) a = (rdTs zs n a).bind fun q => (rt zs q.2).map fun p => (q.1 ++ [p.1], p.2)
  | 0, a => by
    simp only [rdTs, Option.bind_some]
    cases rt zs a <;> rfl
  | n + 1, a => by
    rw [rdTs]
    cases h : rt zs a with
    | none => simp [rdTs, h]
    | some p =>
      simp only [Option.bind_some]
      rw [rdTs_snoc zs n p.2, rdTs, h]
      simp only [Option.bind_some]
      cases rdTs zs n p.2 with
      | none => rfl
      | some q => simp only [Option.bind_some, Option.map_some]; cases rt zs q.2 <;> rfl
theorem rdTs_len {zs : List Int} : ∀ {n : Nat} {a : Int} {q : List ByteArray × Int}, rdTs zs n a = some q → q.1.length = n
  | 0, a, q, h => by cases h; rfl
  | n + 1, a, q, h => by
    rw [rdTs, Option.bind_eq_some_iff] at h
    obtain ⟨p, _, h2⟩ := h
    rw [Option.map_eq_some_iff] at h2
    obtain ⟨t, h3, h4⟩ := h2
    cases h4
    simp [rdTs_len h3]
theorem rdTs_none {zs : List Int} {a : Int} : ∀ {n m : Nat}, n ≤ m → rdTs zs n a = none → rdTs zs m a = none
  | n, 0, h, e => by
    obtain rfl : n = 0 := by omega
    exact e
  | n, m + 1, h, e => by
    rcases Nat.lt_or_ge n (m + 1) with h1 | h1
    · rw [rdTs_snoc, rdTs_none (by omega) e]; rfl
    · obtain rfl : n = m + 1 := by omega
      exact e
/-- What ProcRead answers: a process, or none. -/
def pdR (ns : List Nd) (is : List In) (ds : List Df) (zs : List Int) : Option (Int × (List Nd × Mc) × List ByteArray × List ByteArray) :=
  (rd1 zs 0).bind fun p => (rt zs p.2).bind fun t => (rdTL zs t.2).bind fun b => (rdTL zs b.2).bind fun o => if o.2 = zs.length then (mrR ns is ds (sb t.1)).bind fun r => if procB ns is ds p.1 r.1 r.2 b.1 o.1 then some (p.1, r, b.1, o.1) else none else none
theorem rdTB_yes {zs : List Int} {most : Nat} {a : Int} {q : List ByteArray × Int} (h : rdTB zs most a = some q) : rdTL zs a = some q ∧ q.1.length ≤ most := by
  unfold rdTB at h
  rw [Option.bind_eq_some_iff] at h
  obtain ⟨p, h1, h2⟩ := h
  split at h2
  · cases h2
  · refine ⟨by unfold rdTL; rw [h1]; exact h2, ?_⟩
    rw [rdTs_len h2]
    omega
theorem rdTB_no {zs : List Int} {most : Nat} {a : Int} (h : rdTB zs most a = none) : rdTL zs a = none ∨ ∃ q, rdTL zs a = some q ∧ most < q.1.length := by
  unfold rdTB at h
  unfold rdTL
  cases h1 : rd1 zs a with
  | none => exact Or.inl rfl
  | some p =>
    rw [h1] at h
    simp only [Option.bind_some] at h ⊢
    split at h
    · cases h2 : rdTs zs p.1.toNat p.2 with
      | none => exact Or.inl rfl
      | some q => exact Or.inr ⟨q, rfl, by rw [rdTs_len h2]; omega⟩
    · exact Or.inl h
theorem procB_long {ns : List Nd} {is : List In} {ds : List Df} {i : Int} {xs : List Nd} {m : Mc} {bx ox : List ByteArray} (h : 20 < bx.length ∨ 40 < ox.length) : procB ns is ds i xs m bx ox = false := by
  unfold procB boxB outB
  rcases h with h | h
  · have : decide (bx.length ≤ 20) = false := by simp; omega
    rw [this]
    simp
  · have : decide (ox.length ≤ 40) = false := by simp; omega
    rw [this]
    simp
/-- As impl asks: each row of at most so many. -/
theorem pdR_impl (ns : List Nd) (is : List In) (ds : List Df) (zs : List Int) : pdR ns is ds zs = ((rd1 zs 0).bind fun p => (rt zs p.2).bind fun t => (rdTB zs 20 t.2).bind fun b => (rdTB zs 40 b.2).bind fun o => if o.2 = zs.length then (mrR ns is ds (sb t.1)).bind fun r => if procB ns is ds p.1 r.1 r.2 b.1 o.1 then some (p.1, r, b.1, o.1) else none else none) := by
  unfold pdR
  cases rd1 zs 0 with
  | none => rfl
  | some p =>
    simp only [Option.bind_some]
    cases rt zs p.2 with
    | none => rfl
    | some t =>
      simp only [Option.bind_some]
      have dead : ∀ (b o : List ByteArray × Int), (20 < b.1.length ∨ 40 < o.1.length) → (if o.2 = (zs.length : Int) then (mrR ns is ds (sb t.1)).bind fun r => if procB ns is ds p.1 r.1 r.2 b.1 o.1 then some (p.1, r, b.1, o.1) else none else none) = none := fun b o h => by
        split
        · cases mrR ns is ds (sb t.1) with
          | none => rfl
          | some r => simp only [Option.bind_some]; rw [procB_long h]; rfl
        · rfl
      cases hb : rdTB zs 20 t.2 with
      | some b =>
        rw [(rdTB_yes hb).1]
        simp only [Option.bind_some]
        cases ho : rdTB zs 40 b.2 with
        | some o => rw [(rdTB_yes ho).1]
        | none =>
          rcases rdTB_no ho with h | ⟨q, h, hl⟩
          · rw [h]
          · rw [h]
            exact dead b q (Or.inr hl)
      | none =>
        rcases rdTB_no hb with h | ⟨q, h, hl⟩
        · rw [h]
          rfl
        · rw [h]
          simp only [Option.bind_some, Option.bind_none]
          cases rdTL zs q.2 with
          | none => rfl
          | some o => exact dead q o (Or.inl hl)
end Go.Proofs.YtjnhocefnfmhmaaGreatDoor

/-
  The contract of (impl.reader).texts: a row of at most so many texts is read, or there is none. No condition but bounds.
-/
namespace Go.Proofs.YtjnhocefnfmhmaaGreatDoor
open Go.RowKit

theorem grown_new {w a b : World} {P : Nat} {o : Option Nat} (h : w.grownBy a (some P)) (hg : a.grownBy b o) (ho : ∀ k, o = some k → k = P ∨ w.heap.size ≤ k) : w.grownBy b (some P) :=
  ⟨hg.os.trans h.os, hg.tape.trans h.tape, hg.output.trans h.output, Nat.le_trans h.size hg.size, fun k hk hne => (hg.block k (Nat.lt_of_lt_of_le hk h.size) (fun e => by rcases ho k e.symm with rfl | h2; exact hne rfl; omega)).trans (h.block k hk hne)⟩
theorem own_pastP {w w' : World} {B P k n : Nat} {e : TypeId} {v : Value} {l : List Value} (h : w.ownsRow B e k v n l) (hP : P < B) (hg : w.grownBy w' (some P)) : w'.ownsRow B e k v n l := h.kept hg (by
  cases hv : v.ownBlock with
  | none => exact Or.inl rfl
  | some g => exact Or.inr (fun e => by have := (h.lt g hv).1; cases e; omega))
theorem StRow.one9 (w : World) (s : ByteArray) (hs : s.size ≤ maxLen) : StRow (w.alloc (Obj.cells #[.string s] 9)) (.slice (some ⟨w.heap.size, 0, none⟩) 1 1) [s] := by
  refine ⟨_, 1, rfl, ⟨by simp, fun h => by cases h⟩, by simp, by simpa using hs, fun _ => ⟨_, 0, rfl, by simp, fun j x hj => ?_⟩⟩
  rw [cell_of_row _ w.heap.size (0 + j) _ 9 (0, 0) (heap_alloc_new w _)]
  cases j with
  | zero => simp at hj; subst hj; rfl
  | succ j => simp at hj

set_option maxRecDepth 100000 in
set_option maxHeartbeats 3200000 in
theorem rtexts_any (v : Value) (zs : List Int) (W0 w : World) (P : Nat) (a : Int) (most : Nat) (R : Row W0 v zs) (hb : Below W0.heap.size W0 w) (hP : W0.heap.size ≤ P) (h1 : One w P a) (hmost : most ≤ 40) (hzl : zs.length ≤ 140737488351232) :
    Calls Tryz.prog 83 #[.agg #[v, .pointer (some ⟨P, 0, none⟩)], .int .i64 most] w fun e w' => w.grownBy w' (some P) ∧
      ((∃ q v', rdTB zs most a = some q ∧ e = .returned (.tuple #[v', .bool true]) ∧ One w' P q.2 ∧ w'.ownsRow w.heap.size 9 1 v' q.1.length (stv q.1)) ∨ (rdTB zs most a = none ∧ e = .returned (.tuple #[.slice none 0 0, .bool false]) ∧ ∃ q, One w' P q)) := by
  have R' := R
  obtain ⟨ao, cap, rfl, _⟩ := R'
  have hPl := h1.lt
  have hbs := hb.size
  obtain ⟨i0, hi, hz0, hz1, hz2⟩ := info_parts Tryz.infoStr
  have hbel : Below W0.heap.size W0 (w.alloc (Obj.cells #[Value.slice ao zs.length cap, Value.pointer (some ⟨P, 0, none⟩)] 91)) := hb.alloc hb.size _
  have h2 : One (w.alloc (Obj.cells #[Value.slice ao zs.length cap, Value.pointer (some ⟨P, 0, none⟩)] 91)) P a := h1.below ((Below.refl _ _).alloc (Nat.le_refl _) _) hPl
  have hx := heap_alloc_new w (Obj.cells #[Value.slice ao zs.length cap, Value.pointer (some ⟨P, 0, none⟩)] 91)
  have hG := World.grownBy_alloc w (Obj.cells #[Value.slice ao zs.length cap, Value.pointer (some ⟨P, 0, none⟩)] 91) (some P)
  obtain ⟨g, hgn⟩ : ∃ g, Hid (gN zs a = g) := ⟨_, rfl⟩
  obtain ⟨gx, gn, gk⟩ := g
  have HN := num_any _ zs P a W0 _ R hbel hP h2
  rw [hgn.out] at HN
  simp only at HN
  have HB : Hid (rdTB zs most a = if gk then (if gx > most then none else rdTs zs gx.toNat gn) else none) := by
    unfold Hid rdTB rd1
    rw [hgn.out]
    cases gk <;> rfl
  have hgr : gk = true → 0 ≤ gx ∧ gx ≤ 9223372036854775807 := fun h => by
    have := rd1_range (zs := zs) (a := a) (p := (gx, gn)) (by unfold rd1; rw [hgn.out]; simp [h])
    exact ⟨this.1, this.2.1⟩
  clear hgn
  go_enter Tryz.func83, Tryz.ntmps83
  go_wp2_with fail
  refine HN.mono ?_
  rintro e w1 ⟨rfl, ⟨q1, o1, hq1⟩, g1⟩
  replace hG := grown_new hG g1 (fun k hk => Or.inl (by cases hk; rfl))
  have hx1 := (g1.block w.heap.size (by simp) (by simp; omega)).trans hx
  clear HN g1 hbel h2 hx
  cases gk with
  | false =>
    replace HB : Hid (rdTB zs most a = none) := HB.out
    go_wp2
    go_ret2
    exact ⟨hG, Or.inr ⟨HB.out, rfl, q1, o1⟩⟩
  | true =>
    obtain ⟨r0, r1⟩ := hgr rfl
    obtain rfl := hq1 rfl
    clear hgr hq1
    by_cases hm : (most : Int) < gx
    · replace HB : Hid (rdTB zs most a = none) := by unfold Hid; rw [HB.out]; simp [hm]
      go_wp2
      go_ret2
      exact ⟨hG, Or.inr ⟨HB.out, rfl, q1, o1⟩⟩
    · replace HB : Hid (rdTB zs most a = rdTs zs gx.toNat q1) := by unfold Hid; rw [HB.out]; simp [hm]
      have hgx : gx ≤ 40 := by omega
      have hbE : Below w1.heap.size w1 (w1.alloc (Obj.cells #[] 9)) := (Below.refl _ _).alloc (Nat.le_refl _) _
      have hGE := grown_new hG (World.grownBy_alloc w1 (Obj.cells #[] 9) none) (fun k hk => by cases hk)
      have oE := own_none0 w1 9 1 w.heap.size hG.size
      have oneE := o1.below hbE o1.lt
      have hxE := blk_bel hx1 hbE
      go_wp2_with fail
      generalize w1.alloc (Obj.cells #[] 9) = wE at hbE hGE oE oneE hxE ⊢
      clear hG o1 hx1 hbE
      go_loopw [8, 25] (fun vo i wr => ∃ (k : Nat) (ts : List ByteArray) (c : Int), (k : Int) ≤ gx ∧ i = .int .i64 k ∧ ts.length = k ∧ Hid (rdTs zs k q1 = some (ts, c)) ∧ One wr P c ∧ wr.ownsRow w.heap.size 9 1 vo ts.length (stv ts) ∧ wr.heap[w.heap.size]? = some (.cells #[Value.slice ao zs.length cap, Value.pointer (some ⟨P, 0, none⟩)] 91 (0, 0)) ∧ w.grownBy wr (some P)) (fun _ i _ => gx.toNat - (intOf i).toNat)
      case atStart => exact ⟨0, [], q1, by omega, rfl, rfl, rfl, oneE, oE, hxE, hGE⟩
      case round =>
        clear hGE oE oneE hxE
        obtain ⟨k, ts, c, hk, rfl, hlk, HR, hone, own, hbox, hGr⟩ := hrel
        have hb0 : wr.cell? ⟨w.heap.size, 0, none⟩ = some (.slice ao zs.length cap) := cell_of_row wr _ 0 _ _ _ hbox
        have hb1 : wr.cell? ⟨w.heap.size, 1, none⟩ = some (.pointer (some ⟨P, 0, none⟩)) := cell_of_row wr _ 1 _ _ _ hbox
        by_cases hlt : (k : Int) < gx
        · have hbel : Below W0.heap.size W0 wr := hb.grown hGr hbs (fun j hj => by cases hj; exact hP)
          have HT := text_any _ zs P c W0 wr R hbel hP hone
          have hsz := gT_size zs c
          obtain ⟨gg, hgt⟩ : ∃ g, Hid (gT zs c = g) := ⟨_, rfl⟩
          obtain ⟨tx, tn, tk⟩ := gg
          rw [hgt.out] at HT hsz
          simp only at HT hsz
          have HS : Hid (rdTs zs (k + 1) q1 = if tk then some (ts ++ [tx], tn) else none) := by
            unfold Hid
            rw [rdTs_snoc, HR.out]
            unfold rt
            simp only [Option.bind_some]
            rw [hgt.out]
            cases tk <;> rfl
          clear hgt
          go_wp2_with fail
          refine HT.mono ?_
          rintro e w2 ⟨rfl, ⟨q2, o2, hq2⟩, g2⟩
          have own2 := own_pastP own hPl g2
          have hG2 := grown_new hGr g2 (fun j hj => Or.inl (by cases hj; rfl))
          have hbox2 := (g2.block _ (blk_lt hbox) (by simp; omega)).trans hbox
          clear HT g2 own hGr hbox hb0 hb1 hone hbel
          cases tk with
          | false =>
            have HN : Hid (rdTB zs most a = none) := by unfold Hid; rw [HB.out]; exact rdTs_none (n := k + 1) (by omega) HS.out
            clear HB HS HR
            go_wp2
            go_ret2
            exact ⟨hG2, Or.inr ⟨HN.out, rfl, q2, o2⟩⟩
          | true =>
            obtain rfl := hq2 rfl
            have hsm : tx.size ≤ maxLen := by unfold maxLen; omega
            have S1 := StRow.one9 w2 tx hsm
            have hbA : Below w2.heap.size w2 (w2.alloc (Obj.cells #[.string tx] 9)) := (Below.refl _ _).alloc (Nat.le_refl _) _
            have P2 := own_below own2 hbA
            have o3 := o2.below hbA o2.lt
            have hbox3 := blk_bel hbox2 hbA
            have hG3 := grown_new hG2 (World.grownBy_alloc w2 (Obj.cells #[.string tx] 9) none) (fun j hj => by cases hj)
            have hle : w.heap.size ≤ (w2.alloc (Obj.cells #[.string tx] 9)).heap.size := hG3.size
            have HS2 : Hid (rdTs zs (k + 1) q1 = some (ts ++ [tx], q2)) := HS.out
            clear own2 hG2 hbox2 o2 hq2 HS hbA HR hsz
            go_wp2_with (at_builtin; refine wpList_append_own_any _ rfl _ _ 31 rfl w.heap.size 9 i0 _ 1 16 Tryz.underlying31 hi hz0 hz1 hz2 rfl (by decide) _ ts.length _ rfl P2 (some ⟨w2.heap.size, 0, none⟩) 1 1 (stv [tx]) rfl (by simp [stv]) S1.nilcap S1.cells (stv_one [tx]) (by unfold maxLen; omega) (by omega) hle ?_)
            intro v4 w4 O4 hgr4
            have o4 : One w4 P q2 := o3.kept hgr4 (by intro e; have := (P2.lt P e.symm).1; omega)
            have hbox4 := (hgr4.block _ (blk_lt hbox3) (fun e => own_ne P2 hbox3 (by decide) e.symm)).trans hbox3
            have hG4 := grown_new hG3 hgr4 (fun j hj => Or.inr (P2.lt j hj).1)
            have O5 : w4.ownsRow w.heap.size 9 1 v4 (ts ++ [tx]).length (stv (ts ++ [tx])) := by rw [stv_append, List.length_append, hlk]; exact O4
            clear O4 hgr4 P2 o3 hbox3 hG3 S1 hle
            go_wp2
            go_roundw
            case rel => exact ⟨k + 1, ts ++ [tx], q2, by omega, by go_num, by simp [hlk], HS2, o4, O5, hbox4, hG4⟩
            case measure => simp [intOf]; omega
        · have hke : k = gx.toNat := by omega
          rw [hke] at HR
          go_wp2
          go_ret2
          exact ⟨hGr, Or.inl ⟨ts, c, HB.out.trans HR.out, u8, rfl, hone, own⟩⟩
end Go.Proofs.YtjnhocefnfmhmaaGreatDoor

/-
  The regions of (impl.reader).machine that draw their order, each alone. No condition.
-/
namespace Go.Proofs.YtjnhocefnfmhmaaGreatDoor
open Go.RowKit

set_option maxRecDepth 100000 in
set_option maxHeartbeats 6400000 in
theorem mr_reg9a {t0 t1 t2 t4 t5 t7 t9 t10 t11 t12 t13 t14 t15 t16 t17 t18 t19 t20 t21 t22 t23 t24 t25 t26 t27 t28 t29 t30 t31 t32 t33 t34 t35 t36 t37 t38 t39 t40 t41 t42 t43 t44 t45 t46 t47 t48 t49 t50 t51 : Value} {fs : List Deferred} (bc bm bp np cp : Nat) (ap : Option Addr) (v1 v2 v3 : Value) (m : Mc) (w : World) (Q : Exit → Act → World → Prop)
    (hc : w.heap[bc]? = some (.cells #[v1, v2, v3] 44 (0, 0))) (hm : w.heap[bm]? = some (.cells #[.slice ap np cp, .int .i64 m.p, .int .i64 m.s, .int .i64 m.e, .int .i64 m.d, .int .i64 m.t, .int .i64 m.q, .int .i64 m.r] 47 (0, 0))) (hp : w.heap[bp]? = some (.cells #[.slice ap np cp] 40 (0, 0)))
    (HM : ∀ W, Below w.heap.size w W → Calls Tryz.prog 70 #[.agg #[v1, v2, v3], .agg #[.slice ap np cp, .int .i64 m.p, .int .i64 m.s, .int .i64 m.e, .int .i64 m.d, .int .i64 m.t, .int .i64 m.q, .int .i64 m.r]] W fun e w' => e = .returned (.bool false) ∧ Below W.heap.size W w') 
    (hQ : ∀ u35 u36 u37 u38 u39 u40 u41 u42 u43 u44 (wx : World), Below w.heap.size w wx → Q .normal ⟨#[t0, t1, t2, .pointer (some ⟨bc, 0, none⟩), t4, t5, .pointer (some ⟨bm, 0, none⟩), t7, .pointer (some ⟨bp, 0, none⟩), t9, t10, t11, t12, t13, t14, t15, t16, t17, t18, t19, t20, t21, t22, t23, t24, t25, t26, t27, t28, t29, t30, t31, t32, t33, t34, u35, u36, u37, u38, u39, u40, u41, u42, u43, u44, .bool true, t46, t47, t48, t49, t50, t51], fs⟩ wx) :
    (Code.region 9 (List.toArray (({ dst := some 35, op := Op.load 44 (Operand.tmp 3), type := 44, pos := "l08_wire.go:224", after := #[], guard := none } : Oper) :: ({ dst := some 36, op := Op.load 47 (Operand.tmp 6), type := 47, pos := "l08_wire.go:224", after := #[], guard := none } : Oper) :: ({ dst := some 37, op := Op.call { callee := Callee.value (Operand.func 70), args := #[Operand.tmp 35, Operand.tmp 36], argTypes := #[44, 47] }, type := 4, pos := "l08_wire.go:224", after := #[{ on := 0, ground := Ground.data }, { on := 1, ground := Ground.data }], guard := none } : Oper) :: ({ dst := some 38, op := Op.unOp UnOp.not 4 (Operand.tmp 37), type := 4, pos := "l08_wire.go:224", after := #[{ on := 2, ground := Ground.data }], guard := none } : Oper) :: ({ dst := some 39, op := Op.move (Operand.tmp 38), type := 4, pos := "l08_wire.go:224", after := #[{ on := 3, ground := Ground.data }, { on := 2, ground := Ground.chain }], guard := none } : Oper) :: ({ dst := some 40, op := Op.load 40 (Operand.tmp 8), type := 40, pos := "l08_wire.go:224", after := #[{ on := 4, ground := Ground.guard }], guard := some (4, false) } : Oper) :: ({ dst := some 41, op := Op.load 47 (Operand.tmp 6), type := 47, pos := "l08_wire.go:224", after := #[{ on := 4, ground := Ground.guard }], guard := some (4, false) } : Oper) :: ({ dst := some 42, op := Op.call { callee := Callee.value (Operand.func 103), args := #[Operand.tmp 41], argTypes := #[47] }, type := 110, pos := "l08_wire.go:224", after := #[{ on := 6, ground := Ground.data }, { on := 4, ground := Ground.chain }, { on := 4, ground := Ground.guard }], guard := some (4, false) } : Oper) :: ({ dst := some 43, op := Op.call { callee := Callee.value (Operand.func 147), args := #[Operand.tmp 40, Operand.tmp 42], argTypes := #[40, 110] }, type := 4, pos := "l08_wire.go:224", after := #[{ on := 5, ground := Ground.data }, { on := 7, ground := Ground.data }, { on := 7, ground := Ground.chain }, { on := 4, ground := Ground.guard }], guard := some (4, false) } : Oper) :: ({ dst := some 44, op := Op.unOp UnOp.not 4 (Operand.tmp 43), type := 4, pos := "l08_wire.go:224", after := #[{ on := 8, ground := Ground.data }, { on := 4, ground := Ground.guard }], guard := some (4, false) } : Oper) :: ({ dst := some 45, op := Op.pick (Operand.tmp 39) (Operand.const (Value.bool true)) (Operand.tmp 44), type := 4, pos := "l08_wire.go:224", after := #[{ on := 4, ground := Ground.data }, { on := 9, ground := Ground.data }], guard := none } : Oper) :: [])) true).wp Tryz.prog Q ⟨#[t0, t1, t2, .pointer (some ⟨bc, 0, none⟩), t4, t5, .pointer (some ⟨bm, 0, none⟩), t7, .pointer (some ⟨bp, 0, none⟩), t9, t10, t11, t12, t13, t14, t15, t16, t17, t18, t19, t20, t21, t22, t23, t24, t25, t26, t27, t28, t29, t30, t31, t32, t33, t34, t35, t36, t37, t38, t39, t40, t41, t42, t43, t44, t45, t46, t47, t48, t49, t50, t51], fs⟩ w := by
  have hS : ∀ w', Below w.heap.size w w' → ((w'.cell? ⟨bc, 0, none⟩ = some v1 ∧ w'.cell? ⟨bc, 1, none⟩ = some v2 ∧ w'.cell? ⟨bc, 2, none⟩ = some v3) ∧ (w'.cell? ⟨bm, 0, none⟩ = some (.slice ap np cp) ∧ w'.cell? ⟨bm, 1, none⟩ = some (.int .i64 m.p) ∧ w'.cell? ⟨bm, 2, none⟩ = some (.int .i64 m.s) ∧ w'.cell? ⟨bm, 3, none⟩ = some (.int .i64 m.e) ∧ w'.cell? ⟨bm, 4, none⟩ = some (.int .i64 m.d) ∧ w'.cell? ⟨bm, 5, none⟩ = some (.int .i64 m.t) ∧ w'.cell? ⟨bm, 6, none⟩ = some (.int .i64 m.q) ∧ w'.cell? ⟨bm, 7, none⟩ = some (.int .i64 m.r)) ∧ w'.cell? ⟨bp, 0, none⟩ = some (.slice ap np cp)) := fun w' hb => by
    have g1 := (hb.block _ (Array.getElem?_eq_some_iff.1 hc).1).trans hc
    have g2 := (hb.block _ (Array.getElem?_eq_some_iff.1 hm).1).trans hm
    have g3 := (hb.block _ (Array.getElem?_eq_some_iff.1 hp).1).trans hp
    exact ⟨⟨cell_of_row w' _ 0 _ _ _ g1, cell_of_row w' _ 1 _ _ _ g1, cell_of_row w' _ 2 _ _ _ g1⟩, ⟨cell_of_row w' _ 0 _ _ _ g2, cell_of_row w' _ 1 _ _ _ g2, cell_of_row w' _ 2 _ _ _ g2, cell_of_row w' _ 3 _ _ _ g2, cell_of_row w' _ 4 _ _ _ g2, cell_of_row w' _ 5 _ _ _ g2, cell_of_row w' _ 6 _ _ _ g2, cell_of_row w' _ 7 _ _ _ g2⟩, cell_of_row w' _ 0 _ _ _ g3⟩
  have b0 : Below w.heap.size w w.drew := (Below.refl _ _).drew
  have s0 := hS _ b0
  refine wp_region_noPanic ?_
  refine wp_region_held_drew (S := fun w' => (w'.cell? ⟨bc, 0, none⟩ = some v1 ∧ w'.cell? ⟨bc, 1, none⟩ = some v2 ∧ w'.cell? ⟨bc, 2, none⟩ = some v3) ∧ (w'.cell? ⟨bm, 0, none⟩ = some (.slice ap np cp) ∧ w'.cell? ⟨bm, 1, none⟩ = some (.int .i64 m.p) ∧ w'.cell? ⟨bm, 2, none⟩ = some (.int .i64 m.s) ∧ w'.cell? ⟨bm, 3, none⟩ = some (.int .i64 m.e) ∧ w'.cell? ⟨bm, 4, none⟩ = some (.int .i64 m.d) ∧ w'.cell? ⟨bm, 5, none⟩ = some (.int .i64 m.t) ∧ w'.cell? ⟨bm, 6, none⟩ = some (.int .i64 m.q) ∧ w'.cell? ⟨bm, 7, none⟩ = some (.int .i64 m.r)) ∧ w'.cell? ⟨bp, 0, none⟩ = some (.slice ap np cp)) (by kernel_rfl) s0 (fun hHeld => ?_)
  refine wpAnyH_take (i := 0) (oi := ({ dst := some 35, op := Op.load 44 (Operand.tmp 3), type := 44, pos := "l08_wire.go:224", after := #[], guard := none } : Oper)) (v := .agg #[v1, v2, v3]) rfl (by kernel_rfl) (by kernel_rfl) (by kernel_rfl) (fun _ _ _ h => h) (Or.inl ⟨by rfl, by intro w hSw; (try dsimp only at hSw); go_simp⟩) (by assumption) ?_
  simp only [Act.put, List.setIfInBounds_toArray, List.set_cons_zero, List.set_cons_succ]
  refine wpAnyH_take (i := 1) (oi := ({ dst := some 36, op := Op.load 47 (Operand.tmp 6), type := 47, pos := "l08_wire.go:224", after := #[], guard := none } : Oper)) (v := .agg #[.slice ap np cp, .int .i64 m.p, .int .i64 m.s, .int .i64 m.e, .int .i64 m.d, .int .i64 m.t, .int .i64 m.q, .int .i64 m.r]) rfl (by kernel_rfl) (by kernel_rfl) (by kernel_rfl) (fun _ _ _ h => h) (Or.inl ⟨by rfl, by intro w hSw; (try dsimp only at hSw); go_simp⟩) (by assumption) ?_
  simp only [Act.put, List.setIfInBounds_toArray, List.set_cons_zero, List.set_cons_succ]
  refine wpAnyH_ready (rs := [2]) (by kernel_rfl) (by simp) ?_
  refine AllReadyH.cons rfl (fun K hK => ?_) AllReadyH.nil
  go_simp
  go_wp2_with (go_at_call 70; with_reducible refine (HM _ b0).mono ?_; rintro e w1 ⟨rfl, hb1⟩)
  have b1 : Below w.heap.size w w1 := b0.trans (hb1.mono b0.size)
  have s1 := hS _ b1
  refine hK.out _ _ s1 (fun hHeld1 => ?_)
  clear hK
  refine wpAnyH_take (i := 3) (oi := ({ dst := some 38, op := Op.unOp UnOp.not 4 (Operand.tmp 37), type := 4, pos := "l08_wire.go:224", after := #[{ on := 2, ground := Ground.data }], guard := none } : Oper)) (v := .bool true) rfl (by kernel_rfl) (by kernel_rfl) (by kernel_rfl) (fun _ _ _ h => h) (Or.inl ⟨by rfl, by intro w hSw; (try dsimp only at hSw); go_simp⟩) (by assumption) ?_
  simp only [Act.put, List.setIfInBounds_toArray, List.set_cons_zero, List.set_cons_succ]
  refine wpAnyH_take (i := 4) (oi := ({ dst := some 39, op := Op.move (Operand.tmp 38), type := 4, pos := "l08_wire.go:224", after := #[{ on := 3, ground := Ground.data }, { on := 2, ground := Ground.chain }], guard := none } : Oper)) (v := .bool true) rfl (by kernel_rfl) (by kernel_rfl) (by kernel_rfl) (fun _ _ _ h => h) (Or.inl ⟨by rfl, by intro w hSw; (try dsimp only at hSw); go_simp⟩) (by assumption) ?_
  simp only [Act.put, List.setIfInBounds_toArray, List.set_cons_zero, List.set_cons_succ]
  refine wpAnyH_take (i := 5) (oi := ({ dst := some 40, op := Op.load 40 (Operand.tmp 8), type := 40, pos := "l08_wire.go:224", after := #[{ on := 4, ground := Ground.guard }], guard := some (4, false) } : Oper)) (v := undef) rfl (by kernel_rfl) (by kernel_rfl) (by kernel_rfl) (fun _ _ _ h => h) (Or.inr ⟨by rfl, rfl⟩) (by assumption) ?_
  simp only [Act.put, List.setIfInBounds_toArray, List.set_cons_zero, List.set_cons_succ]
  refine wpAnyH_take (i := 6) (oi := ({ dst := some 41, op := Op.load 47 (Operand.tmp 6), type := 47, pos := "l08_wire.go:224", after := #[{ on := 4, ground := Ground.guard }], guard := some (4, false) } : Oper)) (v := undef) rfl (by kernel_rfl) (by kernel_rfl) (by kernel_rfl) (fun _ _ _ h => h) (Or.inr ⟨by rfl, rfl⟩) (by assumption) ?_
  simp only [Act.put, List.setIfInBounds_toArray, List.set_cons_zero, List.set_cons_succ]
  refine wpAnyH_take (i := 7) (oi := ({ dst := some 42, op := Op.call { callee := Callee.value (Operand.func 103), args := #[Operand.tmp 41], argTypes := #[47] }, type := 110, pos := "l08_wire.go:224", after := #[{ on := 6, ground := Ground.data }, { on := 4, ground := Ground.chain }, { on := 4, ground := Ground.guard }], guard := some (4, false) } : Oper)) (v := undef) rfl (by kernel_rfl) (by kernel_rfl) (by kernel_rfl) (fun _ _ _ h => h) (Or.inr ⟨by rfl, rfl⟩) (by assumption) ?_
  simp only [Act.put, List.setIfInBounds_toArray, List.set_cons_zero, List.set_cons_succ]
  refine wpAnyH_take (i := 8) (oi := ({ dst := some 43, op := Op.call { callee := Callee.value (Operand.func 147), args := #[Operand.tmp 40, Operand.tmp 42], argTypes := #[40, 110] }, type := 4, pos := "l08_wire.go:224", after := #[{ on := 5, ground := Ground.data }, { on := 7, ground := Ground.data }, { on := 7, ground := Ground.chain }, { on := 4, ground := Ground.guard }], guard := some (4, false) } : Oper)) (v := undef) rfl (by kernel_rfl) (by kernel_rfl) (by kernel_rfl) (fun _ _ _ h => h) (Or.inr ⟨by rfl, rfl⟩) (by assumption) ?_
  simp only [Act.put, List.setIfInBounds_toArray, List.set_cons_zero, List.set_cons_succ]
  refine wpAnyH_take (i := 9) (oi := ({ dst := some 44, op := Op.unOp UnOp.not 4 (Operand.tmp 43), type := 4, pos := "l08_wire.go:224", after := #[{ on := 8, ground := Ground.data }, { on := 4, ground := Ground.guard }], guard := some (4, false) } : Oper)) (v := undef) rfl (by kernel_rfl) (by kernel_rfl) (by kernel_rfl) (fun _ _ _ h => h) (Or.inr ⟨by rfl, rfl⟩) (by assumption) ?_
  simp only [Act.put, List.setIfInBounds_toArray, List.set_cons_zero, List.set_cons_succ]
  refine wpAnyH_take (i := 10) (oi := ({ dst := some 45, op := Op.pick (Operand.tmp 39) (Operand.const (Value.bool true)) (Operand.tmp 44), type := 4, pos := "l08_wire.go:224", after := #[{ on := 4, ground := Ground.data }, { on := 9, ground := Ground.data }], guard := none } : Oper)) (v := .bool true) rfl (by kernel_rfl) (by kernel_rfl) (by kernel_rfl) (fun _ _ _ h => h) (Or.inl ⟨by rfl, by intro w hSw; (try dsimp only at hSw); go_simp⟩) (by assumption) ?_
  simp only [Act.put, List.setIfInBounds_toArray, List.set_cons_zero, List.set_cons_succ]
  refine wpAnyH_done (by kernel_rfl) ?_ _
  exact NoPanic.normal <| hQ _ _ _ _ _ _ _ _ _ _ _ b1

set_option maxRecDepth 100000 in
set_option maxHeartbeats 6400000 in
theorem mr_reg9b {t0 t1 t2 t4 t5 t7 t9 t10 t11 t12 t13 t14 t15 t16 t17 t18 t19 t20 t21 t22 t23 t24 t25 t26 t27 t28 t29 t30 t31 t32 t33 t34 t35 t36 t37 t38 t39 t40 t41 t42 t43 t44 t45 t46 t47 t48 t49 t50 t51 : Value} {fs : List Deferred} (bc bm bp np cp : Nat) (ap : Option Addr) (v1 v2 v3 : Value) (m : Mc) (w : World) (Q : Exit → Act → World → Prop)
    (hc : w.heap[bc]? = some (.cells #[v1, v2, v3] 44 (0, 0))) (hm : w.heap[bm]? = some (.cells #[.slice ap np cp, .int .i64 m.p, .int .i64 m.s, .int .i64 m.e, .int .i64 m.d, .int .i64 m.t, .int .i64 m.q, .int .i64 m.r] 47 (0, 0))) (hp : w.heap[bp]? = some (.cells #[.slice ap np cp] 40 (0, 0)))
    (HM : ∀ W, Below w.heap.size w W → Calls Tryz.prog 70 #[.agg #[v1, v2, v3], .agg #[.slice ap np cp, .int .i64 m.p, .int .i64 m.s, .int .i64 m.e, .int .i64 m.d, .int .i64 m.t, .int .i64 m.q, .int .i64 m.r]] W fun e w' => e = .returned (.bool true) ∧ Below W.heap.size W w') (kb : Bool) (HR : ∀ W, Below w.heap.size w W → Calls Tryz.prog 103 #[.agg #[.slice ap np cp, .int .i64 m.p, .int .i64 m.s, .int .i64 m.e, .int .i64 m.d, .int .i64 m.t, .int .i64 m.q, .int .i64 m.r]] W fun e w' => ∃ v', e = .returned v' ∧ IRow w' v' (tdR m) ∧ Below W.heap.size W w') (HK : ∀ W vl, Below w.heap.size w W → IRow W vl (tdR m) → Calls Tryz.prog 147 #[.agg #[.slice ap np cp], vl] W fun e w' => e = .returned (.bool kb) ∧ Below W.heap.size W w')
    (hQ : ∀ u35 u36 u37 u38 u39 u40 u41 u42 u43 u44 (wx : World), Below w.heap.size w wx → Q .normal ⟨#[t0, t1, t2, .pointer (some ⟨bc, 0, none⟩), t4, t5, .pointer (some ⟨bm, 0, none⟩), t7, .pointer (some ⟨bp, 0, none⟩), t9, t10, t11, t12, t13, t14, t15, t16, t17, t18, t19, t20, t21, t22, t23, t24, t25, t26, t27, t28, t29, t30, t31, t32, t33, t34, u35, u36, u37, u38, u39, u40, u41, u42, u43, u44, .bool (!kb), t46, t47, t48, t49, t50, t51], fs⟩ wx) :
    (Code.region 9 (List.toArray (({ dst := some 35, op := Op.load 44 (Operand.tmp 3), type := 44, pos := "l08_wire.go:224", after := #[], guard := none } : Oper) :: ({ dst := some 36, op := Op.load 47 (Operand.tmp 6), type := 47, pos := "l08_wire.go:224", after := #[], guard := none } : Oper) :: ({ dst := some 37, op := Op.call { callee := Callee.value (Operand.func 70), args := #[Operand.tmp 35, Operand.tmp 36], argTypes := #[44, 47] }, type := 4, pos := "l08_wire.go:224", after := #[{ on := 0, ground := Ground.data }, { on := 1, ground := Ground.data }], guard := none } : Oper) :: ({ dst := some 38, op := Op.unOp UnOp.not 4 (Operand.tmp 37), type := 4, pos := "l08_wire.go:224", after := #[{ on := 2, ground := Ground.data }], guard := none } : Oper) :: ({ dst := some 39, op := Op.move (Operand.tmp 38), type := 4, pos := "l08_wire.go:224", after := #[{ on := 3, ground := Ground.data }, { on := 2, ground := Ground.chain }], guard := none } : Oper) :: ({ dst := some 40, op := Op.load 40 (Operand.tmp 8), type := 40, pos := "l08_wire.go:224", after := #[{ on := 4, ground := Ground.guard }], guard := some (4, false) } : Oper) :: ({ dst := some 41, op := Op.load 47 (Operand.tmp 6), type := 47, pos := "l08_wire.go:224", after := #[{ on := 4, ground := Ground.guard }], guard := some (4, false) } : Oper) :: ({ dst := some 42, op := Op.call { callee := Callee.value (Operand.func 103), args := #[Operand.tmp 41], argTypes := #[47] }, type := 110, pos := "l08_wire.go:224", after := #[{ on := 6, ground := Ground.data }, { on := 4, ground := Ground.chain }, { on := 4, ground := Ground.guard }], guard := some (4, false) } : Oper) :: ({ dst := some 43, op := Op.call { callee := Callee.value (Operand.func 147), args := #[Operand.tmp 40, Operand.tmp 42], argTypes := #[40, 110] }, type := 4, pos := "l08_wire.go:224", after := #[{ on := 5, ground := Ground.data }, { on := 7, ground := Ground.data }, { on := 7, ground := Ground.chain }, { on := 4, ground := Ground.guard }], guard := some (4, false) } : Oper) :: ({ dst := some 44, op := Op.unOp UnOp.not 4 (Operand.tmp 43), type := 4, pos := "l08_wire.go:224", after := #[{ on := 8, ground := Ground.data }, { on := 4, ground := Ground.guard }], guard := some (4, false) } : Oper) :: ({ dst := some 45, op := Op.pick (Operand.tmp 39) (Operand.const (Value.bool true)) (Operand.tmp 44), type := 4, pos := "l08_wire.go:224", after := #[{ on := 4, ground := Ground.data }, { on := 9, ground := Ground.data }], guard := none } : Oper) :: [])) true).wp Tryz.prog Q ⟨#[t0, t1, t2, .pointer (some ⟨bc, 0, none⟩), t4, t5, .pointer (some ⟨bm, 0, none⟩), t7, .pointer (some ⟨bp, 0, none⟩), t9, t10, t11, t12, t13, t14, t15, t16, t17, t18, t19, t20, t21, t22, t23, t24, t25, t26, t27, t28, t29, t30, t31, t32, t33, t34, t35, t36, t37, t38, t39, t40, t41, t42, t43, t44, t45, t46, t47, t48, t49, t50, t51], fs⟩ w := by
  have hS : ∀ w', Below w.heap.size w w' → ((w'.cell? ⟨bc, 0, none⟩ = some v1 ∧ w'.cell? ⟨bc, 1, none⟩ = some v2 ∧ w'.cell? ⟨bc, 2, none⟩ = some v3) ∧ (w'.cell? ⟨bm, 0, none⟩ = some (.slice ap np cp) ∧ w'.cell? ⟨bm, 1, none⟩ = some (.int .i64 m.p) ∧ w'.cell? ⟨bm, 2, none⟩ = some (.int .i64 m.s) ∧ w'.cell? ⟨bm, 3, none⟩ = some (.int .i64 m.e) ∧ w'.cell? ⟨bm, 4, none⟩ = some (.int .i64 m.d) ∧ w'.cell? ⟨bm, 5, none⟩ = some (.int .i64 m.t) ∧ w'.cell? ⟨bm, 6, none⟩ = some (.int .i64 m.q) ∧ w'.cell? ⟨bm, 7, none⟩ = some (.int .i64 m.r)) ∧ w'.cell? ⟨bp, 0, none⟩ = some (.slice ap np cp)) := fun w' hb => by
    have g1 := (hb.block _ (Array.getElem?_eq_some_iff.1 hc).1).trans hc
    have g2 := (hb.block _ (Array.getElem?_eq_some_iff.1 hm).1).trans hm
    have g3 := (hb.block _ (Array.getElem?_eq_some_iff.1 hp).1).trans hp
    exact ⟨⟨cell_of_row w' _ 0 _ _ _ g1, cell_of_row w' _ 1 _ _ _ g1, cell_of_row w' _ 2 _ _ _ g1⟩, ⟨cell_of_row w' _ 0 _ _ _ g2, cell_of_row w' _ 1 _ _ _ g2, cell_of_row w' _ 2 _ _ _ g2, cell_of_row w' _ 3 _ _ _ g2, cell_of_row w' _ 4 _ _ _ g2, cell_of_row w' _ 5 _ _ _ g2, cell_of_row w' _ 6 _ _ _ g2, cell_of_row w' _ 7 _ _ _ g2⟩, cell_of_row w' _ 0 _ _ _ g3⟩
  have b0 : Below w.heap.size w w.drew := (Below.refl _ _).drew
  have s0 := hS _ b0
  refine wp_region_noPanic ?_
  refine wp_region_held_drew (S := fun w' => (w'.cell? ⟨bc, 0, none⟩ = some v1 ∧ w'.cell? ⟨bc, 1, none⟩ = some v2 ∧ w'.cell? ⟨bc, 2, none⟩ = some v3) ∧ (w'.cell? ⟨bm, 0, none⟩ = some (.slice ap np cp) ∧ w'.cell? ⟨bm, 1, none⟩ = some (.int .i64 m.p) ∧ w'.cell? ⟨bm, 2, none⟩ = some (.int .i64 m.s) ∧ w'.cell? ⟨bm, 3, none⟩ = some (.int .i64 m.e) ∧ w'.cell? ⟨bm, 4, none⟩ = some (.int .i64 m.d) ∧ w'.cell? ⟨bm, 5, none⟩ = some (.int .i64 m.t) ∧ w'.cell? ⟨bm, 6, none⟩ = some (.int .i64 m.q) ∧ w'.cell? ⟨bm, 7, none⟩ = some (.int .i64 m.r)) ∧ w'.cell? ⟨bp, 0, none⟩ = some (.slice ap np cp)) (by kernel_rfl) s0 (fun hHeld => ?_)
  refine wpAnyH_take (i := 0) (oi := ({ dst := some 35, op := Op.load 44 (Operand.tmp 3), type := 44, pos := "l08_wire.go:224", after := #[], guard := none } : Oper)) (v := .agg #[v1, v2, v3]) rfl (by kernel_rfl) (by kernel_rfl) (by kernel_rfl) (fun _ _ _ h => h) (Or.inl ⟨by rfl, by intro w hSw; (try dsimp only at hSw); go_simp⟩) (by assumption) ?_
  simp only [Act.put, List.setIfInBounds_toArray, List.set_cons_zero, List.set_cons_succ]
  refine wpAnyH_take (i := 1) (oi := ({ dst := some 36, op := Op.load 47 (Operand.tmp 6), type := 47, pos := "l08_wire.go:224", after := #[], guard := none } : Oper)) (v := .agg #[.slice ap np cp, .int .i64 m.p, .int .i64 m.s, .int .i64 m.e, .int .i64 m.d, .int .i64 m.t, .int .i64 m.q, .int .i64 m.r]) rfl (by kernel_rfl) (by kernel_rfl) (by kernel_rfl) (fun _ _ _ h => h) (Or.inl ⟨by rfl, by intro w hSw; (try dsimp only at hSw); go_simp⟩) (by assumption) ?_
  simp only [Act.put, List.setIfInBounds_toArray, List.set_cons_zero, List.set_cons_succ]
  refine wpAnyH_ready (rs := [2]) (by kernel_rfl) (by simp) ?_
  refine AllReadyH.cons rfl (fun K hK => ?_) AllReadyH.nil
  go_simp
  go_wp2_with (go_at_call 70; with_reducible refine (HM _ b0).mono ?_; rintro e w1 ⟨rfl, hb1⟩)
  have b1 : Below w.heap.size w w1 := b0.trans (hb1.mono b0.size)
  have s1 := hS _ b1
  refine hK.out _ _ s1 (fun hHeld1 => ?_)
  clear hK
  refine wpAnyH_take (i := 3) (oi := ({ dst := some 38, op := Op.unOp UnOp.not 4 (Operand.tmp 37), type := 4, pos := "l08_wire.go:224", after := #[{ on := 2, ground := Ground.data }], guard := none } : Oper)) (v := .bool false) rfl (by kernel_rfl) (by kernel_rfl) (by kernel_rfl) (fun _ _ _ h => h) (Or.inl ⟨by rfl, by intro w hSw; (try dsimp only at hSw); go_simp⟩) (by assumption) ?_
  simp only [Act.put, List.setIfInBounds_toArray, List.set_cons_zero, List.set_cons_succ]
  refine wpAnyH_take (i := 4) (oi := ({ dst := some 39, op := Op.move (Operand.tmp 38), type := 4, pos := "l08_wire.go:224", after := #[{ on := 3, ground := Ground.data }, { on := 2, ground := Ground.chain }], guard := none } : Oper)) (v := .bool false) rfl (by kernel_rfl) (by kernel_rfl) (by kernel_rfl) (fun _ _ _ h => h) (Or.inl ⟨by rfl, by intro w hSw; (try dsimp only at hSw); go_simp⟩) (by assumption) ?_
  simp only [Act.put, List.setIfInBounds_toArray, List.set_cons_zero, List.set_cons_succ]
  refine wpAnyH_take (i := 5) (oi := ({ dst := some 40, op := Op.load 40 (Operand.tmp 8), type := 40, pos := "l08_wire.go:224", after := #[{ on := 4, ground := Ground.guard }], guard := some (4, false) } : Oper)) (v := .agg #[.slice ap np cp]) rfl (by kernel_rfl) (by kernel_rfl) (by kernel_rfl) (fun _ _ _ h => h) (Or.inl ⟨by rfl, by intro w hSw; (try dsimp only at hSw); go_simp⟩) (by assumption) ?_
  simp only [Act.put, List.setIfInBounds_toArray, List.set_cons_zero, List.set_cons_succ]
  refine wpAnyH_take (i := 6) (oi := ({ dst := some 41, op := Op.load 47 (Operand.tmp 6), type := 47, pos := "l08_wire.go:224", after := #[{ on := 4, ground := Ground.guard }], guard := some (4, false) } : Oper)) (v := .agg #[.slice ap np cp, .int .i64 m.p, .int .i64 m.s, .int .i64 m.e, .int .i64 m.d, .int .i64 m.t, .int .i64 m.q, .int .i64 m.r]) rfl (by kernel_rfl) (by kernel_rfl) (by kernel_rfl) (fun _ _ _ h => h) (Or.inl ⟨by rfl, by intro w hSw; (try dsimp only at hSw); go_simp⟩) (by assumption) ?_
  simp only [Act.put, List.setIfInBounds_toArray, List.set_cons_zero, List.set_cons_succ]
  refine wpAnyH_ready (rs := [7]) (by kernel_rfl) (by simp) ?_
  refine AllReadyH.cons rfl (fun K hK => ?_) AllReadyH.nil
  go_simp
  go_wp2_with (go_at_call 103; with_reducible refine (HR _ b1).mono ?_; rintro e w2 ⟨vl, rfl, RL, hb2⟩)
  have b2 : Below w.heap.size w w2 := b1.trans (hb2.mono b1.size)
  have s2 := hS _ b2
  refine hK.out _ _ s2 (fun hHeld2 => ?_)
  clear hK
  refine wpAnyH_ready (rs := [8]) (by kernel_rfl) (by simp) ?_
  refine AllReadyH.cons rfl (fun K hK => ?_) AllReadyH.nil
  go_simp
  go_wp2_with (go_at_call 147; with_reducible refine (HK _ vl b2 RL).mono ?_; rintro e w3 ⟨rfl, hb3⟩)
  have b3 : Below w.heap.size w w3 := b2.trans (hb3.mono b2.size)
  have s3 := hS _ b3
  refine hK.out _ _ s3 (fun hHeld3 => ?_)
  clear hK
  refine wpAnyH_take (i := 9) (oi := ({ dst := some 44, op := Op.unOp UnOp.not 4 (Operand.tmp 43), type := 4, pos := "l08_wire.go:224", after := #[{ on := 8, ground := Ground.data }, { on := 4, ground := Ground.guard }], guard := some (4, false) } : Oper)) (v := .bool (!kb)) rfl (by kernel_rfl) (by kernel_rfl) (by kernel_rfl) (fun _ _ _ h => h) (Or.inl ⟨by rfl, by intro w hSw; (try dsimp only at hSw); go_simp⟩) (by assumption) ?_
  simp only [Act.put, List.setIfInBounds_toArray, List.set_cons_zero, List.set_cons_succ]
  refine wpAnyH_take (i := 10) (oi := ({ dst := some 45, op := Op.pick (Operand.tmp 39) (Operand.const (Value.bool true)) (Operand.tmp 44), type := 4, pos := "l08_wire.go:224", after := #[{ on := 4, ground := Ground.data }, { on := 9, ground := Ground.data }], guard := none } : Oper)) (v := .bool (!kb)) rfl (by kernel_rfl) (by kernel_rfl) (by kernel_rfl) (fun _ _ _ h => h) (Or.inl ⟨by rfl, by intro w hSw; (try dsimp only at hSw); go_simp⟩) (by assumption) ?_
  simp only [Act.put, List.setIfInBounds_toArray, List.set_cons_zero, List.set_cons_succ]
  refine wpAnyH_done (by kernel_rfl) ?_ _
  exact NoPanic.normal <| hQ _ _ _ _ _ _ _ _ _ _ _ b3

set_option maxRecDepth 100000 in
set_option maxHeartbeats 6400000 in
theorem mr_reg11 {t0 t1 t3 t5 t7 t8 t9 t10 t11 t12 t13 t14 t15 t16 t17 t18 t19 t20 t21 t22 t23 t24 t25 t26 t27 t28 t29 t30 t31 t32 t33 t34 t35 t36 t37 t38 t39 t40 t41 t42 t43 t44 t45 t46 t47 t48 t49 t50 t51 : Value} {fs : List Deferred} (br bo bm np cp : Nat) (ap : Option Addr) (vb vP : Value) (m : Mc) (old : Array Value) (Pr : Value → Prop) (w : World) (Q : Exit → Act → World → Prop)
    (hr : w.heap[br]? = some (.cells #[vb, vP] 91 (0, 0))) (hm : w.heap[bm]? = some (.cells #[.slice ap np cp, .int .i64 m.p, .int .i64 m.s, .int .i64 m.e, .int .i64 m.d, .int .i64 m.t, .int .i64 m.q, .int .i64 m.r] 47 (0, 0))) (ho : w.heap[bo]? = some (.cells old 47 (0, 0))) (h8 : old.size = 8) (n1 : br ≠ bo) (n2 : bm ≠ bo)
    (HE : ∀ W, Below w.heap.size w W → Calls Tryz.prog 84 #[.agg #[vb, vP]] W fun e w' => ∃ r, e = .returned r ∧ Pr r ∧ Below W.heap.size W w')
    (hQ : ∀ u49 u50 u51 r (W : World), Pr r → Below w.heap.size w W → W.heap[bo]? = some (.cells old 47 (0, 0)) → Q .normal ⟨#[t0, t1, .pointer (some ⟨br, 0, none⟩), t3, .pointer (some ⟨bo, 0, none⟩), r, .pointer (some ⟨bm, 0, none⟩), t7, t8, t9, t10, t11, t12, t13, t14, t15, t16, t17, t18, t19, t20, t21, t22, t23, t24, t25, t26, t27, t28, t29, t30, t31, t32, t33, t34, t35, t36, t37, t38, t39, t40, t41, t42, t43, t44, t45, t46, t47, t48, u49, u50, u51], fs⟩ (W.setRow bo #[.slice ap np cp, .int .i64 m.p, .int .i64 m.s, .int .i64 m.e, .int .i64 m.d, .int .i64 m.t, .int .i64 m.q, .int .i64 m.r])) :
    (Code.region 11 (List.toArray (({ dst := some 49, op := Op.load 47 (Operand.tmp 6), type := 47, pos := "l08_wire.go:227", after := #[], guard := none } : Oper) :: ({ dst := some 50, op := Op.load 91 (Operand.tmp 2), type := 91, pos := "l08_wire.go:227", after := #[], guard := none } : Oper) :: ({ dst := some 51, op := Op.call { callee := Callee.value (Operand.func 84), args := #[Operand.tmp 50], argTypes := #[91] }, type := 139, pos := "l08_wire.go:227", after := #[{ on := 1, ground := Ground.data }], guard := none } : Oper) :: ({ dst := none, op := Op.store 47 (Operand.tmp 4) (Operand.tmp 49), type := 0, pos := "l08_wire.go:227", after := #[{ on := 0, ground := Ground.data }, { on := 2, ground := Ground.chain }, { on := 0, ground := Ground.phase }, { on := 1, ground := Ground.textOnly Departure.lateStores }, { on := 2, ground := Ground.textOnly Departure.lateStoresUnsure }], guard := none } : Oper) :: ({ dst := some 5, op := Op.assign (Operand.tmp 51), type := 139, pos := "l08_wire.go:227", after := #[{ on := 2, ground := Ground.data }, { on := 3, ground := Ground.chain }, { on := 0, ground := Ground.phase }, { on := 1, ground := Ground.phase }, { on := 2, ground := Ground.phase }, { on := 3, ground := Ground.phase }], guard := none } : Oper) :: [])) true).wp Tryz.prog Q ⟨#[t0, t1, .pointer (some ⟨br, 0, none⟩), t3, .pointer (some ⟨bo, 0, none⟩), t5, .pointer (some ⟨bm, 0, none⟩), t7, t8, t9, t10, t11, t12, t13, t14, t15, t16, t17, t18, t19, t20, t21, t22, t23, t24, t25, t26, t27, t28, t29, t30, t31, t32, t33, t34, t35, t36, t37, t38, t39, t40, t41, t42, t43, t44, t45, t46, t47, t48, t49, t50, t51], fs⟩ w := by
  have hS : ∀ w' : World, w'.heap[br]? = some (.cells #[vb, vP] 91 (0, 0)) → w'.heap[bm]? = some (.cells #[.slice ap np cp, .int .i64 m.p, .int .i64 m.s, .int .i64 m.e, .int .i64 m.d, .int .i64 m.t, .int .i64 m.q, .int .i64 m.r] 47 (0, 0)) → (w'.cell? ⟨br, 0, none⟩ = some vb ∧ w'.cell? ⟨br, 1, none⟩ = some vP ∧ (w'.cell? ⟨bm, 0, none⟩ = some (.slice ap np cp) ∧ w'.cell? ⟨bm, 1, none⟩ = some (.int .i64 m.p) ∧ w'.cell? ⟨bm, 2, none⟩ = some (.int .i64 m.s) ∧ w'.cell? ⟨bm, 3, none⟩ = some (.int .i64 m.e) ∧ w'.cell? ⟨bm, 4, none⟩ = some (.int .i64 m.d) ∧ w'.cell? ⟨bm, 5, none⟩ = some (.int .i64 m.t) ∧ w'.cell? ⟨bm, 6, none⟩ = some (.int .i64 m.q) ∧ w'.cell? ⟨bm, 7, none⟩ = some (.int .i64 m.r))) := fun w' g1 g2 =>
    ⟨cell_of_row w' _ 0 _ _ _ g1, cell_of_row w' _ 1 _ _ _ g1, ⟨cell_of_row w' _ 0 _ _ _ g2, cell_of_row w' _ 1 _ _ _ g2, cell_of_row w' _ 2 _ _ _ g2, cell_of_row w' _ 3 _ _ _ g2, cell_of_row w' _ 4 _ _ _ g2, cell_of_row w' _ 5 _ _ _ g2, cell_of_row w' _ 6 _ _ _ g2, cell_of_row w' _ 7 _ _ _ g2⟩⟩
  have b0 : Below w.heap.size w w.drew := (Below.refl _ _).drew
  have lr := (Array.getElem?_eq_some_iff.1 hr).1
  have lm := (Array.getElem?_eq_some_iff.1 hm).1
  have lo' := (Array.getElem?_eq_some_iff.1 ho).1
  have s0 := hS w.drew hr hm
  refine wp_region_noPanic ?_
  refine wp_region_held_drew (S := fun w' => w'.cell? ⟨br, 0, none⟩ = some vb ∧ w'.cell? ⟨br, 1, none⟩ = some vP ∧ (w'.cell? ⟨bm, 0, none⟩ = some (.slice ap np cp) ∧ w'.cell? ⟨bm, 1, none⟩ = some (.int .i64 m.p) ∧ w'.cell? ⟨bm, 2, none⟩ = some (.int .i64 m.s) ∧ w'.cell? ⟨bm, 3, none⟩ = some (.int .i64 m.e) ∧ w'.cell? ⟨bm, 4, none⟩ = some (.int .i64 m.d) ∧ w'.cell? ⟨bm, 5, none⟩ = some (.int .i64 m.t) ∧ w'.cell? ⟨bm, 6, none⟩ = some (.int .i64 m.q) ∧ w'.cell? ⟨bm, 7, none⟩ = some (.int .i64 m.r))) (by kernel_rfl) s0 (fun hHeld => ?_)
  refine wpAnyH_take (i := 0) (oi := ({ dst := some 49, op := Op.load 47 (Operand.tmp 6), type := 47, pos := "l08_wire.go:227", after := #[], guard := none } : Oper)) (v := .agg #[.slice ap np cp, .int .i64 m.p, .int .i64 m.s, .int .i64 m.e, .int .i64 m.d, .int .i64 m.t, .int .i64 m.q, .int .i64 m.r]) rfl (by kernel_rfl) (by kernel_rfl) (by kernel_rfl) (fun _ _ _ h => h) (Or.inl ⟨by rfl, by intro w hSw; (try dsimp only at hSw); go_simp⟩) (by assumption) ?_
  simp only [Act.put, List.setIfInBounds_toArray, List.set_cons_zero, List.set_cons_succ]
  refine wpAnyH_take (i := 1) (oi := ({ dst := some 50, op := Op.load 91 (Operand.tmp 2), type := 91, pos := "l08_wire.go:227", after := #[], guard := none } : Oper)) (v := .agg #[vb, vP]) rfl (by kernel_rfl) (by kernel_rfl) (by kernel_rfl) (fun _ _ _ h => h) (Or.inl ⟨by rfl, by intro w hSw; (try dsimp only at hSw); go_simp⟩) (by assumption) ?_
  simp only [Act.put, List.setIfInBounds_toArray, List.set_cons_zero, List.set_cons_succ]
  refine wpAnyH_ready (rs := [2]) (by kernel_rfl) (by simp) ?_
  refine AllReadyH.cons rfl (fun K hK => ?_) AllReadyH.nil
  go_simp
  go_wp2_with (go_at_call 84; with_reducible refine (HE _ b0).mono ?_; rintro e w1 ⟨r, rfl, hr1, hb1⟩)
  have b1 : Below w.heap.size w w1 := b0.trans (hb1.mono b0.size)
  have r1 := (b1.block _ lr).trans hr
  have m1 := (b1.block _ lm).trans hm
  have o1 := (b1.block _ lo').trans ho
  refine hK.out _ _ (hS w1 r1 m1) (fun hHeld1 => ?_)
  clear hK
  refine wpAnyH_ready (rs := [3]) (by kernel_rfl) (by simp) ?_
  refine AllReadyH.cons rfl (fun K hK => ?_) AllReadyH.nil
  rw [if_pos (by rfl)]
  refine wp_store_row 47 _ _ rfl bo #[.slice ap np cp, .int .i64 m.p, .int .i64 m.s, .int .i64 m.e, .int .i64 m.d, .int .i64 m.t, .int .i64 m.q, .int .i64 m.r] rfl rfl 47 old o1 Tryz.sizeMach h8 (by simp [Value.oneCell']) ?_
  refine hK.out _ _ (hS _ ((setRow_other _ _ _ _ n1).trans r1) ((setRow_other _ _ _ _ n2).trans m1)) (fun hHeld2 => ?_)
  clear hK
  simp only [Act.put]
  refine wpAnyH_take (i := 4) (oi := ({ dst := some 5, op := Op.assign (Operand.tmp 51), type := 139, pos := "l08_wire.go:227", after := #[{ on := 2, ground := Ground.data }, { on := 3, ground := Ground.chain }, { on := 0, ground := Ground.phase }, { on := 1, ground := Ground.phase }, { on := 2, ground := Ground.phase }, { on := 3, ground := Ground.phase }], guard := none } : Oper)) (v := r) rfl (by kernel_rfl) (by kernel_rfl) (by kernel_rfl) (fun _ _ _ h => h) (Or.inl ⟨by rfl, by intro w hSw; (try dsimp only at hSw); go_simp⟩) (by assumption) ?_
  simp only [Act.put]
  refine wpAnyH_done (by kernel_rfl) ?_ _
  exact NoPanic.normal <| hQ _ _ _ _ w1 hr1 b1 o1
end Go.Proofs.YtjnhocefnfmhmaaGreatDoor

/-
  The contract of (impl.reader).machine: a machine of a code is read from its bytes, or there is a mistake. Bounds of the form alone.
-/
namespace Go.Proofs.YtjnhocefnfmhmaaGreatDoor
open Go.RowKit

def m0 : Mc := ⟨0, 0, 0, 0, 0, 0, 0⟩
theorem mcs_one (ao : Option Addr) (n c : Nat) (m : Mc) : (mcs (.slice ao n c) m).all (·.oneCell') = true := by simp [mcs, Value.oneCell']
theorem setL_mc {l : List Int} (h : l.length = 7) : setL (mcs (.slice none 0 0) m0) [1, 5, 6, 2, 3, 4, 7] l = mcs (.slice none 0 0) (mcOf l) := by
  match l, h with
  | [p, t, q, s, e, d, r], _ => rfl
theorem mr_none1 {ns : List Nd} {is : List In} {ds : List Df} {zs : List Int} (h : rdK zs 7 0 = none) : mrR ns is ds zs = none := by unfold mrR; rw [h]; rfl
theorem mr_none2 {ns : List Nd} {is : List In} {ds : List Df} {zs : List Int} {q : List Int × Int} (h : rdK zs 7 0 = some q) (h2 : rdP zs q.2 = none) : mrR ns is ds zs = none := by unfold mrR; rw [h]; simp only [Option.bind_some]; rw [h2]; rfl
theorem mr_some {ns : List Nd} {is : List In} {ds : List Df} {zs : List Int} {q : List Int × Int} {xs : List Nd} {b : Int} (h : rdK zs 7 0 = some q) (h2 : rdP zs q.2 = some (xs, b)) :
    mrR ns is ds zs = if b = zs.length ∧ machB ns is ds xs (mcOf q.1) = true ∧ allR xs (tdR (mcOf q.1)) = true then some (xs, mcOf q.1) else none := by unfold mrR; rw [h]; simp only [Option.bind_some]; rw [h2]; rfl
theorem own_same8 {w w' : World} {B k n : Nat} {e : TypeId} {v : Value} {l : List Value} (h : w.ownsRow B e k v n l) (hb : ∀ j, v.ownBlock = some j → w'.heap[j]? = w.heap[j]?) : w'.ownsRow B e k v n l := by
  refine ⟨h.1, ?_⟩
  rcases h.2 with h2 | ⟨g, cap, cur, rfl, h3, h4, h5⟩
  · exact Or.inl h2
  · exact Or.inr ⟨g, cap, cur, rfl, h3, (hb g rfl).trans h4, h5⟩
/-- What machine answers. -/
def MAns (B : Nat) (ns : List Nd) (is : List In) (ds : List Df) (zs : List Int) (e : Ending) (w' : World) : Prop :=
  (∃ xs m ao n c, mrR ns is ds zs = some (xs, m) ∧ e = .returned (.tuple #[.agg (mcs (.slice ao n c) m), .nilIface]) ∧ w'.ownsRow B 153 5 (.slice ao n c) xs.length (ncs xs)) ∨ (mrR ns is ds zs = none ∧ ∃ ao n c m p, e = .returned (.tuple #[.agg (mcs (.slice ao n c) m), badV p]))

set_option maxRecDepth 100000 in
set_option maxHeartbeats 6400000 in
theorem rmachine_any (v : Value) (zs : List Int) (W0 w : World) (P : Nat) (v1 v2 v3 : Value) (ns : List Nd) (is : List In) (ds : List Df) (R : Row W0 v zs) (hb : Below W0.heap.size W0 w) (hP : W0.heap.size ≤ P) (h1 : One w P 0) (R1 : NRow W0 v1 ns) (R2 : InRow W0 v2 is) (R3 : DfRow W0 v3 ds) :
    Calls Tryz.prog 112 #[.agg #[v, .pointer (some ⟨P, 0, none⟩)], .agg #[v1, v2, v3]] w fun e w' => w.grownBy w' (some P) ∧ MAns w.heap.size ns is ds zs e w' := by
  obtain ⟨ao, cap, rfl, _, hml, hz, _⟩ := id R
  obtain ⟨a1, c1, rfl⟩ := R1.small
  obtain ⟨a2, c2, rfl⟩ := R2.small
  obtain ⟨a3, c3, rfl⟩ := R3.small
  have hbs := hb.size
  have hPl := h1.lt
  obtain ⟨hB4, x0, x1, x2, x3, hs4⟩ := four_boxes w (Obj.cells #[Value.slice ao zs.length cap, Value.pointer (some ⟨P, 0, none⟩)] 91) (Obj.cells #[.slice a1 ns.length c1, .slice a2 is.length c2, .slice a3 ds.length c3] 44) (Obj.cells #[.slice none 0 0, .int .i64 0, .int .i64 0, .int .i64 0, .int .i64 0, .int .i64 0, .int .i64 0, .int .i64 0] 47) (Obj.cells #[.slice none 0 0, .int .i64 0, .int .i64 0, .int .i64 0, .int .i64 0, .int .i64 0, .int .i64 0, .int .i64 0] 47)
  go_enter Tryz.func112, Tryz.ntmps112
  go_wp2_with fail
  obtain ⟨W4, hW4⟩ : ∃ W4, (((w.alloc (Obj.cells #[Value.slice ao zs.length cap, Value.pointer (some ⟨P, 0, none⟩)] 91)).alloc (Obj.cells #[.slice a1 ns.length c1, .slice a2 is.length c2, .slice a3 ds.length c3] 44)).alloc (Obj.cells #[.slice none 0 0, .int .i64 0, .int .i64 0, .int .i64 0, .int .i64 0, .int .i64 0, .int .i64 0, .int .i64 0] 47)).alloc (Obj.cells #[.slice none 0 0, .int .i64 0, .int .i64 0, .int .i64 0, .int .i64 0, .int .i64 0, .int .i64 0, .int .i64 0] 47) = W4 := ⟨_, rfl⟩
  rw [hW4] at hB4 x0 x1 x2 x3 hs4 ⊢
  have hBL : Below W4.heap.size W4 (W4.alloc (Obj.cells (tgt (w.heap.size + 1 + 1 + 1) [1, 5, 6, 2, 3, 4, 7]) 89)) := (Below.refl _ _).alloc (Nat.le_refl _) _
  have hbW := hb.trans (hB4.mono hbs)
  have x3' : W4.heap[w.heap.size + 1 + 1 + 1]? = some (.cells (mcs (.slice none 0 0) m0) 47 (0, 0)) := x3
  have HC := rnums_any _ zs W0 (W4.alloc (Obj.cells (tgt (w.heap.size + 1 + 1 + 1) [1, 5, 6, 2, 3, 4, 7]) 89)) P (w.heap.size + 1 + 1 + 1) W4.heap.size 0 (mcs (.slice none 0 0) m0) 47 [1, 5, 6, 2, 3, 4, 7] R (hbW.trans (hBL.mono hbW.size)) hP (by omega) ((h1.below hB4 hPl).below hBL (by omega)) ((hBL.block _ (by omega)).trans x3') (by intro o ho; simp at ho; simp [mcs]; omega) (heap_alloc_new _ _) (by omega) (by omega) (by omega) (by simp)
  rw [hs4] at HC
  have hLl : w.heap.size + 1 + 1 + 1 + 1 ≤ (W4.alloc (Obj.cells (tgt (w.heap.size + 1 + 1 + 1) [1, 5, 6, 2, 3, 4, 7]) 89)).heap.size := by have := hBL.size; omega
  have hG : K2 P (w.heap.size + 1 + 1 + 1) w (W4.alloc (Obj.cells (tgt (w.heap.size + 1 + 1 + 1) [1, 5, 6, 2, 3, 4, 7]) 89)) := (K2.ofB hB4).trans (K2.ofB hBL)
  have x0 := (hBL.block _ (by omega)).trans x0
  have x1 := (hBL.block _ (by omega)).trans x1
  have x2 := (hBL.block _ (by omega)).trans x2
  clear hs4 x3 x3' hBL
  refine HC.mono ?_
  rintro e w1 ⟨hK, h⟩
  have x0 := (hK.block _ (by omega) (by omega) (by omega)).trans x0
  have x1 := (hK.block _ (by omega) (by omega) (by omega)).trans x1
  have x2 := (hK.block _ (by omega) (by omega) (by omega)).trans x2
  have hK := hG.trans hK
  have hG1 : w.grownBy w1 (some P) := hK.grown (by omega)
  clear hG hLl HC hB4 hbW hW4
  rcases h with ⟨q, e1, rfl, e3, e4⟩ | ⟨e1, ⟨p, rfl⟩, ⟨q, e3⟩, -⟩
  · have e1 : rdK zs 7 0 = some q := e1
    have hl7 := rdK_len e1
    rw [setL_mc hl7] at e4
    have HQ : Hid (rdK zs 7 0 = some q) := e1
    have l3 := (Array.getElem?_eq_some_iff.1 e4).1
    have c0 : w1.cell? ⟨w.heap.size, 0, none⟩ = some (.slice ao zs.length cap) := cell_of_row w1 _ 0 _ _ _ x0
    have cP : w1.cell? ⟨w.heap.size, 1, none⟩ = some (.pointer (some ⟨P, 0, none⟩)) := cell_of_row w1 _ 1 _ _ _ x0
    have hb01 : Below W0.heap.size W0 w1 := hb.grown hG1 hbs (fun k hk => by simp at hk; omega)
    clear e1 hl7
    obtain ⟨m, hmc⟩ : ∃ m, Hid (mcOf q.1 = m) := ⟨_, rfl⟩
    rw [hmc.out] at e4
    go_wp2_with fail
    refine (rnodes_any _ zs W0 w1 P q.2 R hb01 hP e3).mono ?_
    rintro e w2 ⟨hgr, hans⟩
    have hs2 := hgr.size
    have l0 := (Array.getElem?_eq_some_iff.1 x0).1
    have l2 := (Array.getElem?_eq_some_iff.1 x2).1
    have x0 := (hgr.block _ l0 (by simp; omega)).trans x0
    have x1 := (hgr.block _ (by omega) (by simp; omega)).trans x1
    have x2 := (hgr.block _ l2 (by simp; omega)).trans x2
    have e4 := (hgr.block _ l3 (by simp; omega)).trans e4
    have hG2 := grown_trans hG1 hgr
    clear c0 cP hgr hb01
    rcases hans with ⟨xs, b, vs, n1, rfl, n3, n4⟩ | ⟨n1, ⟨p, rfl⟩, b, n3⟩
    · obtain ⟨ap, cp, rfl⟩ := own_form n3
      obtain ⟨hbl, hpB⟩ := rdP_le hz n1
      have hlen := poolB_len hpB
      have HV : Hid (mrR ns is ds zs = if b = zs.length ∧ machB ns is ds xs m = true ∧ allR xs (tdR m) = true then some (xs, m) else none) := by have := mr_some (ns := ns) (is := is) (ds := ds) HQ.out n1; rw [hmc.out] at this; exact this
      have hzx := ndok_max (pool_ndok hpB)
      have BA : Below w2.heap.size w2 (w2.alloc (Obj.cells #[.slice ap xs.length cp] 40)) := (Below.refl _ _).alloc (Nat.le_refl _) _
      have l3' := (Array.getElem?_eq_some_iff.1 e4).1
      have y0 := (BA.block _ (by omega)).trans x0
      have y1 := (BA.block _ (by omega)).trans x1
      have y2 := (BA.block _ (by omega)).trans x2
      have y3 := (BA.block _ l3').trans e4
      have y8 : (w2.alloc (Obj.cells #[.slice ap xs.length cp] 40)).heap[w2.heap.size]? = some (.cells #[.slice ap xs.length cp] 40 (0, 0)) := heap_alloc_new _ _
      have yo := own_below n3 BA
      have yP := n4.below BA n4.lt
      have hG3 := grown_then hG2 BA hG2.size
      have hs3 := BA.size
      have k8 : (w2.alloc (Obj.cells #[.slice ap xs.length cp] 40)).cell? ⟨w2.heap.size, 0, none⟩ = some (.slice ap xs.length cp) := cell_of_row _ _ 0 _ _ _ y8
      have k3 : (w2.alloc (Obj.cells #[.slice ap xs.length cp] 40)).cell? ⟨w.heap.size + 1 + 1 + 1, 0, none⟩ = some (.slice none 0 0) := cell_of_row _ _ 0 _ _ _ y3
      have f3 : (w2.alloc (Obj.cells #[.slice ap xs.length cp] 40)).frozen? ⟨w.heap.size + 1 + 1 + 1, 0, none⟩ = false := frozen_of_row _ _ 0 _ _ y3
      go_wp2_with fail
      have gS := grown_set (w2.alloc (Obj.cells #[.slice ap xs.length cp] 40)) (w.heap.size + 1 + 1 + 1) 0 (.slice ap xs.length cp)
      have t3 := heap_setCell_same (w2.alloc (Obj.cells #[.slice ap xs.length cp] 40)) (w.heap.size + 1 + 1 + 1) 0 _ _ (.slice ap xs.length cp) y3
      have lA : w.heap.size + 1 + 1 + 1 < w2.heap.size := l3'
      have t0 := (gS.block _ (Array.getElem?_eq_some_iff.1 y0).1 (by simp <;> omega)).trans y0
      have t1 := (gS.block _ (Array.getElem?_eq_some_iff.1 y1).1 (by simp <;> omega)).trans y1
      have t2 := (gS.block _ (Array.getElem?_eq_some_iff.1 y2).1 (by simp <;> omega)).trans y2
      have t8 := (gS.block _ (Array.getElem?_eq_some_iff.1 y8).1 (by simp; omega)).trans y8
      have tP : One _ P b := (gS.block _ yP.lt (by simp; omega)).trans yP
      have to_ := yo.kept gS (own_off yo (by omega))
      have hGX := ((K2.ofP (M := w.heap.size + 1 + 1 + 1) hG3).trans (K2.ofM gS)).grown (by omega)
      obtain ⟨WX, hWX⟩ : ∃ WX, (w2.alloc (Obj.cells #[.slice ap xs.length cp] 40)).setCell ⟨w.heap.size + 1 + 1 + 1, 0, none⟩ (.slice ap xs.length cp) = WX := ⟨_, rfl⟩
      have hcm : (w2.setCell ⟨w.heap.size + 1 + 1 + 1, 0, none⟩ (.slice ap xs.length cp)).alloc (Obj.cells #[.slice ap xs.length cp] 40) = WX := by rw [← hWX]; exact (World.setCell_alloc_past _ _ _ _ (by omega)).symm
      rw [hcm]
      clear hcm
      rw [hWX] at gS t0 t1 t2 t3 t8 tP to_ hGX
      have sX : w2.heap.size + 1 ≤ WX.heap.size := by have := gS.size; simp at this; omega
      clear hWX gS y0 y1 y2 y3 y8 yo yP hG3 hG2 hG1 k8 k3 f3 x0 x1 x2 BA n3 n4 e3 e4 hs3 hK
      have hbX : Below W0.heap.size W0 WX := hb.grown hGX hbs (fun k hk => by simp at hk; omega)
      have RW : ∀ W, Below WX.heap.size WX W → NRow W (.slice a1 ns.length c1) ns ∧ InRow W (.slice a2 is.length c2) is ∧ DfRow W (.slice a3 ds.length c3) ds ∧ NRow W (.slice ap xs.length cp) xs := fun W hW => by
        have hbW := hbX.trans (hW.mono hbX.size)
        exact ⟨R1.below hbW, R2.below hbW, R3.below hbW, NRow.of_own (own_below to_ hW) (by omega) hzx⟩
      have l1 := (Array.getElem?_eq_some_iff.1 t1).1
      have l2' := (Array.getElem?_eq_some_iff.1 t2).1
      cases hmb : machB ns is ds xs m with
      | false =>
        have HN : Hid (mrR ns is ds zs = none) := by unfold Hid; rw [HV.out, if_neg]; rw [hmb]; intro h; exact absurd h.2.1 (by simp)
        refine mr_reg9a (w.heap.size + 1) (w.heap.size + 1 + 1 + 1) w2.heap.size xs.length cp ap _ _ _ m WX _ t1 t3 t8 (fun W hW => by obtain ⟨q1, q2, q3, q4⟩ := RW W hW; have := imachok_any _ _ _ _ ns is ds xs m W q1 q2 q3 q4; rw [hmb] at this; exact this) ?_
        intro u35 u36 u37 u38 u39 u40 u41 u42 u43 u44 wx hbx
        have hh0 := (hbx.block _ (Array.getElem?_eq_some_iff.1 t2).1).trans t2
        go_wp2_with (refine wpList_store_own rfl 47 _ _ rfl (w.heap.size + 1 + 1) (mcs (.slice none 0 0) m0) rfl rfl 47 _ hh0 Tryz.sizeMach rfl (mcs_one _ _ _ _) ?_)
        intro wz hhz hbz _
        go_wp2
        exact bodyPost_ret (results_row_tmp rfl _ _ (w.heap.size + 1 + 1) 47 _ (0, 0) _ rfl hhz Tryz.underlying47 rfl Tryz.sizeMach) rfl ⟨grown_then (grown_then hGX hbx hGX.size) hbz (by omega), Or.inr ⟨HN.out, _, _, _, _, _, rfl⟩⟩
      | true =>
        obtain ⟨_, ha, _⟩ := machB_parts hmb
        obtain ⟨kb, hkb⟩ : ∃ kb, Hid (allR xs (tdR m) = kb) := ⟨_, rfl⟩
        refine mr_reg9b (w.heap.size + 1) (w.heap.size + 1 + 1 + 1) w2.heap.size xs.length cp ap _ _ _ m WX _ t1 t3 t8 (fun W hW => by obtain ⟨q1, q2, q3, q4⟩ := RW W hW; have := imachok_any _ _ _ _ ns is ds xs m W q1 q2 q3 q4; rw [hmb] at this; exact this) kb (fun W _ => iroots_any ap xs.length cp m W) (fun W vl hW RL => by have := iskept_any _ vl xs (tdR m) W (RW W hW).2.2.2 RL hpB ha; rw [hkb.out] at this; exact this) ?_
        intro u35 u36 u37 u38 u39 u40 u41 u42 u43 u44 wx hbx
        cases kb with
        | false =>
          have HN : Hid (mrR ns is ds zs = none) := by unfold Hid; rw [HV.out, if_neg]; rw [hkb.out]; intro h; exact absurd h.2.2 (by simp)
          have hh0 := (hbx.block _ (Array.getElem?_eq_some_iff.1 t2).1).trans t2
          go_wp2_with (refine wpList_store_own rfl 47 _ _ rfl (w.heap.size + 1 + 1) (mcs (.slice none 0 0) m0) rfl rfl 47 _ hh0 Tryz.sizeMach rfl (mcs_one _ _ _ _) ?_)
          intro wz hhz hbz _
          go_wp2
          exact bodyPost_ret (results_row_tmp rfl _ _ (w.heap.size + 1 + 1) 47 _ (0, 0) _ rfl hhz Tryz.underlying47 rfl Tryz.sizeMach) rfl ⟨grown_then (grown_then hGX hbx hGX.size) hbz (by omega), Or.inr ⟨HN.out, _, _, _, _, _, rfl⟩⟩
        | true =>
          have s0 := (hbx.block _ (Array.getElem?_eq_some_iff.1 t0).1).trans t0
          have s2 := (hbx.block _ l2').trans t2
          have s3 := (hbx.block _ (Array.getElem?_eq_some_iff.1 t3).1).trans t3
          have sP := tP.below hbx tP.lt
          have hGY := grown_then hGX hbx hGX.size
          have soo := own_below to_ hbx
          go_wp2_with fail
          refine mr_reg11 w.heap.size (w.heap.size + 1 + 1) (w.heap.size + 1 + 1 + 1) xs.length cp ap (.slice ao zs.length cap) (.pointer (some ⟨P, 0, none⟩)) m _ (EndAns b zs.length) wx _ s0 s3 s2 rfl (by omega) (by omega) (fun W hW => rend_any _ zs P b W ⟨ao, cap, rfl⟩ (sP.below hW sP.lt)) ?_
          intro u49 u50 u51 r W hEA hbW hoW
          have hset := setRow_heap W (w.heap.size + 1 + 1) _ (mcs (.slice ap xs.length cp) m) _ _ hoW
          have hbs2 : Below (w.heap.size + 1 + 1) W (W.setRow (w.heap.size + 1 + 1) (mcs (.slice ap xs.length cp) m)) := below_setRow (Below.refl _ _) (Nat.le_refl _) _
          have hGZ := grown_then (grown_then hGY hbW hGY.size) hbs2 (by omega)
          have oz := own_below soo hbW
          have oZ : (W.setRow (w.heap.size + 1 + 1) (mcs (.slice ap xs.length cp) m)).ownsRow w.heap.size 153 5 (.slice ap xs.length cp) xs.length (ncs xs) := own_mono (own_same8 oz (fun j hj => setRow_other _ _ _ _ (by have := (oz.lt j hj).1; omega))) (by omega)
          have HF : Hid ((mrR ns is ds zs = some (xs, m) ∧ r = .nilIface) ∨ (mrR ns is ds zs = none ∧ ∃ p, r = badV p)) := by
            unfold Hid
            rw [HV.out]
            rcases hEA with ⟨e1, e2⟩ | ⟨e1, e2⟩
            · rw [if_neg (fun h => by have := h.1; omega)]; exact Or.inr ⟨rfl, e2⟩
            · rw [if_pos ⟨by omega, hmb, hkb.out⟩]; exact Or.inl ⟨rfl, e2⟩
          clear hEA
          go_wp2
          refine bodyPost_ret (results_row_tmp rfl _ _ (w.heap.size + 1 + 1) 47 _ (0, 0) _ rfl hset Tryz.underlying47 rfl Tryz.sizeMach) rfl ⟨hGZ, ?_⟩
          rcases HF.out with ⟨f1, f2⟩ | ⟨f1, p, f2⟩
          · exact Or.inl ⟨xs, m, _, _, _, f1, by rw [← f2]; rfl, oZ⟩
          · exact Or.inr ⟨f1, _, _, _, _, p, by rw [← f2]; rfl⟩
    · have HN : Hid (mrR ns is ds zs = none) := mr_none2 HQ.out n1
      have BA : Below w2.heap.size w2 (w2.alloc (Obj.cells #[.slice none 0 0] 40)) := (Below.refl _ _).alloc (Nat.le_refl _) _
      have y2 := (BA.block _ (Array.getElem?_eq_some_iff.1 x2).1).trans x2
      unfold badV
      go_wp2_with (refine wpList_store_own rfl 47 _ _ rfl (w.heap.size + 1 + 1) (mcs (.slice none 0 0) m0) rfl rfl 47 _ y2 Tryz.sizeMach rfl (mcs_one _ _ _ _) ?_)
      intro w3 hh3 hb3 _
      go_wp2
      exact bodyPost_ret (results_row_tmp rfl _ _ (w.heap.size + 1 + 1) 47 _ (0, 0) _ rfl hh3 Tryz.underlying47 rfl Tryz.sizeMach) rfl ⟨grown_then (grown_then hG2 BA hG2.size) hb3 (by omega), Or.inr ⟨HN.out, _, _, _, _, p, rfl⟩⟩
  · have e1 : rdK zs 7 0 = none := e1
    have HN : Hid (mrR ns is ds zs = none) := mr_none1 e1
    unfold badV
    go_wp2_with (refine wpList_store_own rfl 47 _ _ rfl (w.heap.size + 1 + 1) (mcs (.slice none 0 0) m0) rfl rfl 47 _ x2 Tryz.sizeMach rfl (mcs_one _ _ _ _) ?_)
    intro w2 hh2 hb2 _
    go_wp2
    exact bodyPost_ret (results_row_tmp rfl _ _ (w.heap.size + 1 + 1) 47 _ (0, 0) _ rfl hh2 Tryz.underlying47 rfl Tryz.sizeMach) rfl ⟨grown_then hG1 hb2 (by omega), Or.inr ⟨HN.out, _, _, _, _, p, rfl⟩⟩
end Go.Proofs.YtjnhocefnfmhmaaGreatDoor

/-
  The contract of spec.MachineRead: the machine of the bytes, or nothing. No condition but a bound on the text.
-/
namespace Go.Proofs.YtjnhocefnfmhmaaGreatDoor
open Go.RowKit

theorem Row.cur {W w' : World} {v : Value} {zs : List Int} {C : Nat} {a : Int} {ok : Bool} (R : Row W v zs) (hC : C8 W C v a ok) (hG : W.grownBy w' (some C)) : Row w' v zs := by
  obtain ⟨ao, cap, rfl, h1, h2, h3, h4⟩ := R
  refine ⟨ao, cap, rfl, h1, h2, h3, fun hne => ?_⟩
  obtain ⟨g, o, rfl, hg, hc⟩ := h4 hne
  have n1 := Row.apart (List.length_pos_iff.2 hne) hc hC (cur_no _ _ _ _ _)
  refine ⟨g, o, rfl, Nat.lt_of_lt_of_le hg hG.size, fun i hi => ?_⟩
  rw [World.cell?_of_block (w := W) (hG.block g hg (by simpa using n1))]
  exact hc i hi
theorem grown_nw {w w1 w2 : World} {P g : Nat} (h : w.grownBy w1 (some P)) (hg : w.heap.size ≤ g) (k : w1.grownBy w2 (some g)) : w.grownBy w2 (some P) :=
  ⟨k.os.trans h.os, k.tape.trans h.tape, k.output.trans h.output, Nat.le_trans h.size k.size, fun j hj hne => (k.block j (Nat.lt_of_lt_of_le hj h.size) (by simp; omega)).trans (h.block j hj hne)⟩
def mrL (r : Option (List Nd × Mc)) : List Nd := match r with | some p => p.1 | none => []
def mrM (r : Option (List Nd × Mc)) : Mc := match r with | some p => p.2 | none => m0
/-- What MachineRead answers. -/
def MrAns (B : Nat) (r : Option (List Nd × Mc)) (e : Ending) (w' : World) : Prop := ∃ v', e = .returned (.tuple #[.agg #[v', .int .i64 (mrM r).p, .int .i64 (mrM r).s, .int .i64 (mrM r).e, .int .i64 (mrM r).d, .int .i64 (mrM r).t, .int .i64 (mrM r).q, .int .i64 (mrM r).r], .bool r.isSome]) ∧ w'.ownsRow B 153 5 v' (mrL r).length (ncs (mrL r))
theorem MrAns.intro {B : Nat} {r : Option (List Nd × Mc)} {e : Ending} {w' : World} (v' : Value) (h : e = .returned (.tuple #[.agg #[v', .int .i64 (mrM r).p, .int .i64 (mrM r).s, .int .i64 (mrM r).e, .int .i64 (mrM r).d, .int .i64 (mrM r).t, .int .i64 (mrM r).q, .int .i64 (mrM r).r], .bool r.isSome])) (k : w'.ownsRow B 153 5 v' (mrL r).length (ncs (mrL r))) : MrAns B r e w' := ⟨v', h, k⟩
theorem str_eq8 {l : List Int} {s : ByteArray} (hl : ∀ z ∈ l, 0 ≤ z ∧ z ≤ 255) : strOfNums l = s ↔ l = sb s := by
  constructor
  · intro h
    rw [← h, sb_str hl]
  · intro h
    rw [h, strOfNums_sb]
theorem mpL_wf (xs : List Nd) (m : Mc) : ∀ z ∈ mpL xs m, 0 ≤ z ∧ z ≤ 255 := by
  intro z hz
  unfold mpL at hz
  rcases List.mem_append.1 hz with h | h
  · rw [List.mem_flatMap] at h
    obtain ⟨x, _, hx⟩ := h
    exact encI_wf x z hx
  · exact wireL_wf _ z h
/-- What the specification comes to, by what is left. -/
theorem mr_by {ns : List Nd} {is : List In} {ds : List Df} {s : ByteArray} {l : List Int} {a at_ : Int} {k k' : Bool} {xs : List Nd} (hl : num8K (sb s) 7 0 true = (l, a, k)) (hs : sP (sb s) a k = (xs, at_, k')) :
    (sOk (sb s) a k = false → mrR ns is ds (sb s) = none) ∧ (sOk (sb s) a k = true → poolB xs = true ∧ (machB ns is ds xs (mcOf l) = false → mrR ns is ds (sb s) = none) ∧ (machB ns is ds xs (mcOf l) = true → (mpR ns is ds xs (mcOf l) = s → mrR ns is ds (sb s) = some (xs, mcOf l)) ∧ (mpR ns is ds xs (mcOf l) ≠ s → mrR ns is ds (sb s) = none))) := by
  have key := fun ys m => mrR_spec (ns := ns) (is := is) (ds := ds) (sb_wf s) hl ys m
  rw [hs] at key
  refine ⟨fun h => ?_, fun h => ⟨?_, fun hb => ?_, fun hb => ⟨fun e => ?_, fun e => ?_⟩⟩⟩
  · cases hv : mrR ns is ds (sb s) with
    | none => rfl
    | some p => have := ((key p.1 p.2).1 hv).1.1; rw [h] at this; cases this
  · unfold sOk at h
    rw [hs] at h
    simp only [Bool.and_eq_true] at h
    exact h.2
  · cases hv : mrR ns is ds (sb s) with
    | none => rfl
    | some p =>
      obtain ⟨⟨_, h2⟩, h3, h4, _⟩ := (key p.1 p.2).1 hv
      have h2 : xs = p.1 := h2
      rw [← h2, h3, hb] at h4
      cases h4
  · have eR : mpR ns is ds xs (mcOf l) = strOfNums (mpL xs (mcOf l)) := by unfold mpR; rw [if_pos hb]
    rw [eR, str_eq8 (mpL_wf _ _)] at e
    exact (key xs (mcOf l)).2 ⟨⟨h, rfl⟩, rfl, hb, e⟩
  · have eR : mpR ns is ds xs (mcOf l) = strOfNums (mpL xs (mcOf l)) := by unfold mpR; rw [if_pos hb]
    cases hv : mrR ns is ds (sb s) with
    | none => rfl
    | some p =>
      obtain ⟨⟨_, h2⟩, h3, _, h5⟩ := (key p.1 p.2).1 hv
      have h2 : xs = p.1 := h2
      rw [← h2, h3] at h5
      exact absurd (by rw [eR, str_eq8 (mpL_wf _ _)]; exact h5) e

set_option maxRecDepth 100000 in
set_option maxHeartbeats 12800000 in
theorem smread_any (v1 v2 v3 : Value) (ns : List Nd) (is : List In) (ds : List Df) (s : ByteArray) (w : World) (R1 : NRow w v1 ns) (R2 : InRow w v2 is) (R3 : DfRow w v3 ds) (hs : s.size ≤ 140737488351232) :
    Calls Tryz.prog 46 #[.agg #[v1, v2, v3], .string s] w fun e w' => MrAns w.heap.size (mrR ns is ds (sb s)) e w' ∧ Below w.heap.size w w' := by
  obtain ⟨a1, c1, rfl⟩ := R1.small
  obtain ⟨a2, c2, rfl⟩ := R2.small
  obtain ⟨a3, c3, rfl⟩ := R3.small
  obtain ⟨hB2, z0, z1⟩ := two_boxes w (Obj.cells #[.slice a1 ns.length c1, .slice a2 is.length c2, .slice a3 ds.length c3] 44) (Obj.cells #[.slice none 0 0, .int .i64 0, .int .i64 0, .int .i64 0, .int .i64 0, .int .i64 0, .int .i64 0, .int .i64 0] 47)
  go_enter Tryz.func46, Tryz.ntmps46
  go_wp2_with (first
    | (refine wpList_bytes8 _ rfl _ 9 66 5 rfl Tryz.underlying9 Tryz.underlying66 Tryz.underlying5 s rfl ?_; intro cap w2 g0 g1 g2 g3))
  obtain ⟨W2, hW2⟩ : ∃ W2, (w.alloc (Obj.cells #[.slice a1 ns.length c1, .slice a2 is.length c2, .slice a3 ds.length c3] 44)).alloc (Obj.cells #[.slice none 0 0, .int .i64 0, .int .i64 0, .int .i64 0, .int .i64 0, .int .i64 0, .int .i64 0, .int .i64 0] 47) = W2 := ⟨_, rfl⟩
  have hs2 : W2.heap.size = w.heap.size + 1 + 1 := by rw [← hW2]; simp
  rw [hW2] at hB2 z0 z1 g1 g2 g3
  have RR := row_of_bytes (w := W2) hs g0 g1 g3
  rw [hs2] at RR g3
  have z0 := (g2.block _ (by omega) (by simp)).trans z0
  have z1 := (g2.block _ (by omega) (by simp)).trans z1
  have B2 : Below w.heap.size w w2 := hB2.grown g2 hB2.size (fun k hk => by cases hk)
  clear hs2 g1 g2 hW2 hB2
  have B3 : Below w2.heap.size w2 (w2.alloc (Obj.cells #[.slice (some ⟨w.heap.size + 1 + 1, 0, none⟩) s.size cap, .int .i64 0, .bool true] 83)) := (Below.refl _ _).alloc (Nat.le_refl _) _
  have hC0 : C8 (w2.alloc (Obj.cells #[.slice (some ⟨w.heap.size + 1 + 1, 0, none⟩) s.size cap, .int .i64 0, .bool true] 83)) w2.heap.size (.slice (some ⟨w.heap.size + 1 + 1, 0, none⟩) s.size cap) 0 true := heap_alloc_new _ _
  have x0 := (B3.block w.heap.size (by omega)).trans z0
  have x1 := (B3.block (w.heap.size + 1) (by omega)).trans z1
  have B03 := B2.trans (B3.mono B2.size)
  have R0 := RR.below B3
  have s3 : w2.heap.size + 1 ≤ (w2.alloc (Obj.cells #[.slice (some ⟨w.heap.size + 1 + 1, 0, none⟩) s.size cap, .int .i64 0, .bool true] 83)).heap.size := by simp
  obtain ⟨WB, hWB⟩ : ∃ WB, w2.alloc (Obj.cells #[.slice (some ⟨w.heap.size + 1 + 1, 0, none⟩) s.size cap, .int .i64 0, .bool true] 83) = WB := ⟨_, rfl⟩
  rw [hWB] at B3 hC0 x0 x1 B03 R0 s3 ⊢
  have hwC : w.heap.size + 1 < w2.heap.size := by omega
  obtain ⟨C, hCeq⟩ : ∃ C, Hid (w2.heap.size = C) := ⟨_, rfl⟩
  rw [hCeq.out] at hC0 s3 hwC ⊢
  clear hCeq hWB B3 z0 z1 B2 RR g3
  have G0 : WB.grownBy WB (some C) := ⟨rfl, rfl, rfl, Nat.le_refl _, fun _ _ _ => rfl⟩
  obtain ⟨y1, a1', k1, e1, y10, y11, a10, a11, HC1⟩ := s8num_v C (.slice (some ⟨w.heap.size + 1 + 1, 0, none⟩) s.size cap) (sb s) 0 true WB R0 hC0 (by omega) (by omega)
  refine HC1.mono ?_
  rintro e u1 ⟨rfl, hC1, hg1⟩
  have G1 := grown_trans G0 hg1
  go_wp2_with (refine wpList_store_own rfl 47 _ _ rfl u1.heap.size (mcs (.slice none 0 0) (⟨y1, 0, 0, 0, 0, 0, 0⟩ : Mc)) rfl rfl 47 _ (heap_alloc_new _ _) Tryz.sizeMach rfl (mcs_one _ _ _ _) ?_)
  intro n1 hM1 hb1 hsx
  clear hsx
  have hB1 : Below u1.heap.size u1 n1 := ((Below.refl _ _).alloc (Nat.le_refl _) _).trans hb1
  have hC1 := hC1.below hB1
  have G1 := grown_trans G1 (grown_below hB1 (some C))
  have hMB : WB.heap.size ≤ u1.heap.size := hg1.size
  have lC : C < WB.heap.size := by omega
  obtain ⟨bm, hbm⟩ : ∃ bm, Hid (u1.heap.size = bm) := ⟨_, rfl⟩
  rw [hbm.out] at hM1 hMB ⊢
  clear hbm hB1 hb1 hg1 HC1
  obtain ⟨y2, a2', k2, e2, y20, y21, a20, a21, HC2⟩ := s8num_v C (.slice (some ⟨w.heap.size + 1 + 1, 0, none⟩) s.size cap) (sb s) a1' k1 n1 (R0.cur hC0 G1) hC1 a10 a11
  have lm2 := (Array.getElem?_eq_some_iff.1 hM1).1
  go_wp2_with fail
  refine HC2.mono ?_
  rintro e u2 ⟨rfl, hC2, hg2⟩
  have G2 := grown_trans G1 hg2
  have hM2 := (hg2.block bm lm2 (by simp; omega)).trans hM1
  have cm2 : u2.cell? ⟨bm, 5, none⟩ = some (.int .i64 0) := cell_of_row _ _ 5 _ _ _ hM2
  have fm2 : u2.frozen? ⟨bm, 5, none⟩ = false := frozen_of_row _ _ 5 _ _ hM2
  have hM2 : (u2.setCell ⟨bm, 5, none⟩ (.int .i64 y2)).heap[bm]? = some (.cells (mcs (.slice none 0 0) (⟨y1, 0, 0, 0, y2, 0, 0⟩ : Mc)) 47 (0, 0)) := heap_setCell_same u2 bm 5 _ _ (.int .i64 y2) hM2
  have hC2 : C8 (u2.setCell ⟨bm, 5, none⟩ (.int .i64 y2)) C (.slice (some ⟨w.heap.size + 1 + 1, 0, none⟩) s.size cap) a2' k2 := (heap_setCell_other u2 ⟨bm, 5, none⟩ C (.int .i64 y2) (by show C ≠ bm; omega)).trans hC2
  have G2 := grown_nw G2 hMB (grown_set u2 bm 5 (.int .i64 y2))
  clear HC2 hg2
  obtain ⟨n2, hn2⟩ : ∃ n2, u2.setCell ⟨bm, 5, none⟩ (.int .i64 y2) = n2 := ⟨_, rfl⟩
  rw [hn2] at hM2 hC2 G2
  obtain ⟨y3, a3', k3, e3, y30, y31, a30, a31, HC3⟩ := s8num_v C (.slice (some ⟨w.heap.size + 1 + 1, 0, none⟩) s.size cap) (sb s) a2' k2 n2 (R0.cur hC0 G2) hC2 a20 a21
  have lm3 := (Array.getElem?_eq_some_iff.1 hM2).1
  go_wp2_with fail
  refine HC3.mono ?_
  rintro e u3 ⟨rfl, hC3, hg3⟩
  have G3 := grown_trans G2 hg3
  have hM3 := (hg3.block bm lm3 (by simp; omega)).trans hM2
  have cm3 : u3.cell? ⟨bm, 6, none⟩ = some (.int .i64 0) := cell_of_row _ _ 6 _ _ _ hM3
  have fm3 : u3.frozen? ⟨bm, 6, none⟩ = false := frozen_of_row _ _ 6 _ _ hM3
  have hM3 : (u3.setCell ⟨bm, 6, none⟩ (.int .i64 y3)).heap[bm]? = some (.cells (mcs (.slice none 0 0) (⟨y1, 0, 0, 0, y2, y3, 0⟩ : Mc)) 47 (0, 0)) := heap_setCell_same u3 bm 6 _ _ (.int .i64 y3) hM3
  have hC3 : C8 (u3.setCell ⟨bm, 6, none⟩ (.int .i64 y3)) C (.slice (some ⟨w.heap.size + 1 + 1, 0, none⟩) s.size cap) a3' k3 := (heap_setCell_other u3 ⟨bm, 6, none⟩ C (.int .i64 y3) (by show C ≠ bm; omega)).trans hC3
  have G3 := grown_nw G3 hMB (grown_set u3 bm 6 (.int .i64 y3))
  clear HC3 hg3
  obtain ⟨n3, hn3⟩ : ∃ n3, u3.setCell ⟨bm, 6, none⟩ (.int .i64 y3) = n3 := ⟨_, rfl⟩
  rw [hn3] at hM3 hC3 G3
  obtain ⟨y4, a4', k4, e4, y40, y41, a40, a41, HC4⟩ := s8num_v C (.slice (some ⟨w.heap.size + 1 + 1, 0, none⟩) s.size cap) (sb s) a3' k3 n3 (R0.cur hC0 G3) hC3 a30 a31
  have lm4 := (Array.getElem?_eq_some_iff.1 hM3).1
  go_wp2_with fail
  refine HC4.mono ?_
  rintro e u4 ⟨rfl, hC4, hg4⟩
  have G4 := grown_trans G3 hg4
  have hM4 := (hg4.block bm lm4 (by simp; omega)).trans hM3
  have cm4 : u4.cell? ⟨bm, 2, none⟩ = some (.int .i64 0) := cell_of_row _ _ 2 _ _ _ hM4
  have fm4 : u4.frozen? ⟨bm, 2, none⟩ = false := frozen_of_row _ _ 2 _ _ hM4
  have hM4 : (u4.setCell ⟨bm, 2, none⟩ (.int .i64 y4)).heap[bm]? = some (.cells (mcs (.slice none 0 0) (⟨y1, y4, 0, 0, y2, y3, 0⟩ : Mc)) 47 (0, 0)) := heap_setCell_same u4 bm 2 _ _ (.int .i64 y4) hM4
  have hC4 : C8 (u4.setCell ⟨bm, 2, none⟩ (.int .i64 y4)) C (.slice (some ⟨w.heap.size + 1 + 1, 0, none⟩) s.size cap) a4' k4 := (heap_setCell_other u4 ⟨bm, 2, none⟩ C (.int .i64 y4) (by show C ≠ bm; omega)).trans hC4
  have G4 := grown_nw G4 hMB (grown_set u4 bm 2 (.int .i64 y4))
  clear HC4 hg4
  obtain ⟨n4, hn4⟩ : ∃ n4, u4.setCell ⟨bm, 2, none⟩ (.int .i64 y4) = n4 := ⟨_, rfl⟩
  rw [hn4] at hM4 hC4 G4
  obtain ⟨y5, a5', k5, e5, y50, y51, a50, a51, HC5⟩ := s8num_v C (.slice (some ⟨w.heap.size + 1 + 1, 0, none⟩) s.size cap) (sb s) a4' k4 n4 (R0.cur hC0 G4) hC4 a40 a41
  have lm5 := (Array.getElem?_eq_some_iff.1 hM4).1
  go_wp2_with fail
  refine HC5.mono ?_
  rintro e u5 ⟨rfl, hC5, hg5⟩
  have G5 := grown_trans G4 hg5
  have hM5 := (hg5.block bm lm5 (by simp; omega)).trans hM4
  have cm5 : u5.cell? ⟨bm, 3, none⟩ = some (.int .i64 0) := cell_of_row _ _ 3 _ _ _ hM5
  have fm5 : u5.frozen? ⟨bm, 3, none⟩ = false := frozen_of_row _ _ 3 _ _ hM5
  have hM5 : (u5.setCell ⟨bm, 3, none⟩ (.int .i64 y5)).heap[bm]? = some (.cells (mcs (.slice none 0 0) (⟨y1, y4, y5, 0, y2, y3, 0⟩ : Mc)) 47 (0, 0)) := heap_setCell_same u5 bm 3 _ _ (.int .i64 y5) hM5
  have hC5 : C8 (u5.setCell ⟨bm, 3, none⟩ (.int .i64 y5)) C (.slice (some ⟨w.heap.size + 1 + 1, 0, none⟩) s.size cap) a5' k5 := (heap_setCell_other u5 ⟨bm, 3, none⟩ C (.int .i64 y5) (by show C ≠ bm; omega)).trans hC5
  have G5 := grown_nw G5 hMB (grown_set u5 bm 3 (.int .i64 y5))
  clear HC5 hg5
  obtain ⟨n5, hn5⟩ : ∃ n5, u5.setCell ⟨bm, 3, none⟩ (.int .i64 y5) = n5 := ⟨_, rfl⟩
  rw [hn5] at hM5 hC5 G5
  obtain ⟨y6, a6', k6, e6, y60, y61, a60, a61, HC6⟩ := s8num_v C (.slice (some ⟨w.heap.size + 1 + 1, 0, none⟩) s.size cap) (sb s) a5' k5 n5 (R0.cur hC0 G5) hC5 a50 a51
  have lm6 := (Array.getElem?_eq_some_iff.1 hM5).1
  go_wp2_with fail
  refine HC6.mono ?_
  rintro e u6 ⟨rfl, hC6, hg6⟩
  have G6 := grown_trans G5 hg6
  have hM6 := (hg6.block bm lm6 (by simp; omega)).trans hM5
  have cm6 : u6.cell? ⟨bm, 4, none⟩ = some (.int .i64 0) := cell_of_row _ _ 4 _ _ _ hM6
  have fm6 : u6.frozen? ⟨bm, 4, none⟩ = false := frozen_of_row _ _ 4 _ _ hM6
  have hM6 : (u6.setCell ⟨bm, 4, none⟩ (.int .i64 y6)).heap[bm]? = some (.cells (mcs (.slice none 0 0) (⟨y1, y4, y5, y6, y2, y3, 0⟩ : Mc)) 47 (0, 0)) := heap_setCell_same u6 bm 4 _ _ (.int .i64 y6) hM6
  have hC6 : C8 (u6.setCell ⟨bm, 4, none⟩ (.int .i64 y6)) C (.slice (some ⟨w.heap.size + 1 + 1, 0, none⟩) s.size cap) a6' k6 := (heap_setCell_other u6 ⟨bm, 4, none⟩ C (.int .i64 y6) (by show C ≠ bm; omega)).trans hC6
  have G6 := grown_nw G6 hMB (grown_set u6 bm 4 (.int .i64 y6))
  clear HC6 hg6
  obtain ⟨n6, hn6⟩ : ∃ n6, u6.setCell ⟨bm, 4, none⟩ (.int .i64 y6) = n6 := ⟨_, rfl⟩
  rw [hn6] at hM6 hC6 G6
  obtain ⟨y7, a7', k7, e7, y70, y71, a70, a71, HC7⟩ := s8num_v C (.slice (some ⟨w.heap.size + 1 + 1, 0, none⟩) s.size cap) (sb s) a6' k6 n6 (R0.cur hC0 G6) hC6 a60 a61
  have lm7 := (Array.getElem?_eq_some_iff.1 hM6).1
  go_wp2_with fail
  refine HC7.mono ?_
  rintro e u7 ⟨rfl, hC7, hg7⟩
  have G7 := grown_trans G6 hg7
  have hM7 := (hg7.block bm lm7 (by simp; omega)).trans hM6
  have cm7 : u7.cell? ⟨bm, 7, none⟩ = some (.int .i64 0) := cell_of_row _ _ 7 _ _ _ hM7
  have fm7 : u7.frozen? ⟨bm, 7, none⟩ = false := frozen_of_row _ _ 7 _ _ hM7
  have hM7 : (u7.setCell ⟨bm, 7, none⟩ (.int .i64 y7)).heap[bm]? = some (.cells (mcs (.slice none 0 0) (⟨y1, y4, y5, y6, y2, y3, y7⟩ : Mc)) 47 (0, 0)) := heap_setCell_same u7 bm 7 _ _ (.int .i64 y7) hM7
  have hC7 : C8 (u7.setCell ⟨bm, 7, none⟩ (.int .i64 y7)) C (.slice (some ⟨w.heap.size + 1 + 1, 0, none⟩) s.size cap) a7' k7 := (heap_setCell_other u7 ⟨bm, 7, none⟩ C (.int .i64 y7) (by show C ≠ bm; omega)).trans hC7
  have G7 := grown_nw G7 hMB (grown_set u7 bm 7 (.int .i64 y7))
  clear HC7 hg7
  obtain ⟨n7, hn7⟩ : ∃ n7, u7.setCell ⟨bm, 7, none⟩ (.int .i64 y7) = n7 := ⟨_, rfl⟩
  rw [hn7] at hM7 hC7 G7
  have HK : Hid (num8K (sb s) 7 0 true = ([y1, y2, y3, y4, y5, y6, y7], a7', k7)) := by unfold Hid; simp only [num8K]; rw [e1]; dsimp only; rw [e2]; dsimp only; rw [e3]; dsimp only; rw [e4]; dsimp only; rw [e5]; dsimp only; rw [e6]; dsimp only; rw [e7]
  clear e1 e2 e3 e4 e5 e6 e7
  go_wp2_with fail
  have lm8 := (Array.getElem?_eq_some_iff.1 hM7).1
  have HR := s8read_any C (.slice (some ⟨w.heap.size + 1 + 1, 0, none⟩) s.size cap) (sb s) a7' k7 n7 (R0.cur hC0 G7) hC7 a70 a71
  obtain ⟨p, hp⟩ : ∃ p, Hid (sP (sb s) a7' k7 = p) := ⟨_, rfl⟩
  obtain ⟨xs, at_, kk⟩ := p
  obtain ⟨b, hb⟩ : ∃ b, Hid (sOk (sb s) a7' k7 = b) := ⟨_, rfl⟩
  have HV := mr_by (ns := ns) (is := is) (ds := ds) HK.out hp.out
  rw [hb.out, show mcOf [y1, y2, y3, y4, y5, y6, y7] = (⟨y1, y4, y5, y6, y2, y3, y7⟩ : Mc) from rfl] at HV
  rw [hp.out, hb.out] at HR
  dsimp only at HR
  refine HR.mono ?_
  rintro e n8 ⟨vs, rfl, o8, hC8, hg8, hz8⟩
  obtain ⟨av, cv, rfl⟩ := own_form o8
  have G8 := grown_trans G7 hg8
  have hM8 := (hg8.block bm lm8 (by simp; omega)).trans hM7
  have cm8 : n8.cell? ⟨bm, 0, none⟩ = some (.slice none 0 0) := cell_of_row _ _ 0 _ _ _ hM8
  have fm8 : n8.frozen? ⟨bm, 0, none⟩ = false := frozen_of_row _ _ 0 _ _ hM8
  have hM9 : (n8.setCell ⟨bm, 0, none⟩ (.slice av xs.length cv)).heap[bm]? = some (.cells #[.slice av xs.length cv, .int .i64 y1, .int .i64 y4, .int .i64 y5, .int .i64 y6, .int .i64 y2, .int .i64 y3, .int .i64 y7] 47 (0, 0)) := heap_setCell_same n8 bm 0 _ _ (.slice av xs.length cv) hM8
  have hC9 : C8 (n8.setCell ⟨bm, 0, none⟩ (.slice av xs.length cv)) C (.slice (some ⟨w.heap.size + 1 + 1, 0, none⟩) s.size cap) at_ b := (heap_setCell_other n8 ⟨bm, 0, none⟩ C (.slice av xs.length cv) (by show C ≠ bm; omega)).trans hC8
  have G9 := grown_nw G8 hMB (grown_set n8 bm 0 (.slice av xs.length cv))
  have o9 := ownsRow_setCell_below o8 (a := ⟨bm, 0, none⟩) (by show bm < n7.heap.size; exact lm8) (.slice av xs.length cv)
  have x09 := (G9.block w.heap.size (by omega) (by simp; omega)).trans x0
  have x19 := (G9.block (w.heap.size + 1) (by omega) (by simp; omega)).trans x1
  have B9 : Below w.heap.size w (n8.setCell ⟨bm, 0, none⟩ (.slice av xs.length cv)) := B03.grown G9 B03.size (fun k hk => by simp at hk; omega)
  have cok : (n8.setCell ⟨bm, 0, none⟩ (.slice av xs.length cv)).cell? ⟨C, 2, none⟩ = some (.bool b) := cell_of_row _ _ 2 _ _ _ hC9
  have hB7 : w.heap.size + 1 < n7.heap.size := by omega
  clear HR hC8 hg8 G8 hM8 o8 G9 hC9 HK hp hb hz8
  obtain ⟨n9, hn9⟩ : ∃ n9, n8.setCell ⟨bm, 0, none⟩ (.slice av xs.length cv) = n9 := ⟨_, rfl⟩
  rw [hn9] at hM9 o9 x09 x19 B9 cok
  cases b with
  | false =>
    have HA : Hid (mrR ns is ds (sb s) = none) := HV.1 rfl
    go_wp2_with (refine wpList_store_own rfl 47 _ _ rfl (w.heap.size + 1) #[.slice none 0 0, .int .i64 0, .int .i64 0, .int .i64 0, .int .i64 0, .int .i64 0, .int .i64 0, .int .i64 0] rfl rfl 47 _ x19 Tryz.sizeMach rfl (by simp [Value.oneCell']) ?_)
    intro wF hF hbF hsF
    have BF := B9.trans (hbF.mono (Nat.le_succ _))
    clear hsF
    go_wp2
    refine bodyPost_ret (results_row_tmp rfl _ _ (w.heap.size + 1) 47 _ (0, 0) _ rfl hF Tryz.underlying47 rfl Tryz.sizeMach) rfl ⟨MrAns.intro (.slice none 0 0) ?_ ?_, BF⟩
    · rw [HA.out]; rfl
    · rw [HA.out]; exact World.ownsRow_nil _ _ _ _
  | true =>
    obtain ⟨hpool, hmno, hmyes⟩ := HV.2 rfl
    have hlen := poolB_len hpool
    have R9 : NRow n9 (.slice av xs.length cv) xs := NRow.of_own o9 (by omega) (ndok_max (pool_ndok hpool))
    have HP := smpack_any _ _ _ _ ns is ds xs (⟨y1, y4, y5, y6, y2, y3, y7⟩ : Mc) n9 (R1.below B9) (R2.below B9) (R3.below B9) R9
    obtain ⟨tx, htx⟩ : ∃ tx, Hid (mpR ns is ds xs (⟨y1, y4, y5, y6, y2, y3, y7⟩ : Mc) = tx) := ⟨_, rfl⟩
    obtain ⟨tb, htb⟩ : ∃ tb, Hid (machB ns is ds xs (⟨y1, y4, y5, y6, y2, y3, y7⟩ : Mc) = tb) := ⟨_, rfl⟩
    rw [htx.out, htb.out] at HP
    rw [htx.out, htb.out] at hmyes
    rw [htb.out] at hmno
    clear HV htx htb
    go_wp2_with (first
      | (refine wpList_load_row rfl 44 _ rfl w.heap.size rfl 44 #[.slice a1 ns.length c1, .slice a2 is.length c2, .slice a3 ds.length c3] (0, 0) _ x09 Tryz.underlying44 rfl Tryz.sizeC ?_)
      | (refine wpList_load_row rfl 47 _ rfl bm rfl 47 #[.slice av xs.length cv, .int .i64 y1, .int .i64 y4, .int .i64 y5, .int .i64 y6, .int .i64 y2, .int .i64 y3, .int .i64 y7] (0, 0) _ hM9 Tryz.underlying47 rfl Tryz.sizeMach ?_))
    refine HP.mono ?_
    rintro e w10 ⟨rfl, hb10⟩
    have x10 := (hb10.block _ (Array.getElem?_eq_some_iff.1 x19).1).trans x19
    have m10 := (hb10.block _ (Array.getElem?_eq_some_iff.1 hM9).1).trans hM9
    have o10 := own_below o9 hb10
    have B10 := B9.trans (hb10.mono B9.size)
    clear HP hb10 x09 x19 hM9 o9 R9 cok
    cases tb with
    | false =>
      have HA : Hid (mrR ns is ds (sb s) = none) := hmno rfl
      go_wp2_with (refine wpList_store_own rfl 47 _ _ rfl (w.heap.size + 1) #[.slice none 0 0, .int .i64 0, .int .i64 0, .int .i64 0, .int .i64 0, .int .i64 0, .int .i64 0, .int .i64 0] rfl rfl 47 _ x10 Tryz.sizeMach rfl (by simp [Value.oneCell']) ?_)
      intro wF hF hbF hsF
      have BF := B10.trans (hbF.mono (Nat.le_succ _))
      clear hsF
      go_wp2
      refine bodyPost_ret (results_row_tmp rfl _ _ (w.heap.size + 1) 47 _ (0, 0) _ rfl hF Tryz.underlying47 rfl Tryz.sizeMach) rfl ⟨MrAns.intro (.slice none 0 0) ?_ ?_, BF⟩
      · rw [HA.out]; rfl
      · rw [HA.out]; exact World.ownsRow_nil _ _ _ _
    | true =>
      by_cases heq : tx = s
      · have HA : Hid (mrR ns is ds (sb s) = some (xs, (⟨y1, y4, y5, y6, y2, y3, y7⟩ : Mc))) := (hmyes rfl).1 heq
        go_wp2_with (first
          | (refine wpList_load_row rfl 47 _ rfl bm rfl 47 #[.slice av xs.length cv, .int .i64 y1, .int .i64 y4, .int .i64 y5, .int .i64 y6, .int .i64 y2, .int .i64 y3, .int .i64 y7] (0, 0) _ m10 Tryz.underlying47 rfl Tryz.sizeMach ?_)
          | (refine wpList_store_own2 rfl 47 _ _ rfl (w.heap.size + 1) #[.slice av xs.length cv, .int .i64 y1, .int .i64 y4, .int .i64 y5, .int .i64 y6, .int .i64 y2, .int .i64 y3, .int .i64 y7] rfl rfl 47 _ x10 Tryz.sizeMach rfl (by simp [Value.oneCell']) ?_))
        intro wF hF hbF hsF hkF
        have BF := B10.trans (hbF.mono (Nat.le_succ _))
        have oF := own_mono (own_keep o10 hB7 hkF) (by omega : w.heap.size ≤ n7.heap.size)
        clear hsF hkF
        go_wp2
        refine bodyPost_ret (results_row_tmp rfl _ _ (w.heap.size + 1) 47 _ (0, 0) _ rfl hF Tryz.underlying47 rfl Tryz.sizeMach) rfl ⟨MrAns.intro (.slice av xs.length cv) ?_ ?_, BF⟩
        · rw [HA.out]; rfl
        · rw [HA.out]; exact oF
      · have hl2 : (tx.toList == s.toList) = false := by
          rw [← Bool.not_eq_true, beq_iff_eq, ByteArray.toList_eq, ByteArray.toList_eq]
          intro h
          apply heq
          cases tx
          cases s
          congr 1
          exact Array.toList_inj.1 h
        have HA : Hid (mrR ns is ds (sb s) = none) := (hmyes rfl).2 heq
        go_wp2_with (refine wpList_store_own rfl 47 _ _ rfl (w.heap.size + 1) #[.slice none 0 0, .int .i64 0, .int .i64 0, .int .i64 0, .int .i64 0, .int .i64 0, .int .i64 0, .int .i64 0] rfl rfl 47 _ x10 Tryz.sizeMach rfl (by simp [Value.oneCell']) ?_)
        intro wF hF hbF hsF
        have BF := B10.trans (hbF.mono (Nat.le_succ _))
        clear hsF
        go_wp2
        refine bodyPost_ret (results_row_tmp rfl _ _ (w.heap.size + 1) 47 _ (0, 0) _ rfl hF Tryz.underlying47 rfl Tryz.sizeMach) rfl ⟨MrAns.intro (.slice none 0 0) ?_ ?_, BF⟩
        · rw [HA.out]; rfl
        · rw [HA.out]; exact World.ownsRow_nil _ _ _ _
end Go.Proofs.YtjnhocefnfmhmaaGreatDoor

/-
  Region 1 of impl.MachineRead, which draws its order: the two calls, and the box that may be made ahead of, between or behind them.
-/
namespace Go.Proofs.YtjnhocefnfmhmaaGreatDoor
open Go.RowKit

def MFin (B : Nat) (ns : List Nd) (is : List In) (ds : List Df) (zs : List Int) (ao : Option Addr) (n c : Nat) (m : Mc) (r : Value) (W : World) : Prop :=
  (∃ xs, mrR ns is ds zs = some (xs, m) ∧ r = .nilIface ∧ W.ownsRow B 153 5 (.slice ao n c) xs.length (ncs xs)) ∨ (mrR ns is ds zs = none ∧ ∃ p, r = badV p)
theorem mans_fin {B : Nat} {ns : List Nd} {is : List In} {ds : List Df} {zs : List Int} {e : Ending} {W : World} (h : MAns B ns is ds zs e W) : ∃ ao n c m r, e = .returned (.tuple #[.agg (mcs (.slice ao n c) m), r]) ∧ MFin B ns is ds zs ao n c m r W := by
  rcases h with ⟨xs, m, ao, n, c, h1, h2, h3⟩ | ⟨h1, ao, n, c, m, p, h2⟩
  · exact ⟨ao, n, c, m, _, h2, Or.inl ⟨xs, h1, rfl, h3⟩⟩
  · exact ⟨ao, n, c, m, _, h2, Or.inr ⟨h1, p, rfl⟩⟩
theorem MFin.keep {B B' : Nat} {ns : List Nd} {is : List In} {ds : List Df} {zs : List Int} {ao : Option Addr} {n c : Nat} {m : Mc} {r : Value} {W W' : World} (h : MFin B ns is ds zs ao n c m r W) (k : ∀ v n l, W.ownsRow B 153 5 v n l → W'.ownsRow B' 153 5 v n l) : MFin B' ns is ds zs ao n c m r W' := by
  rcases h with ⟨xs, h1, h2, h3⟩ | h
  · exact Or.inl ⟨xs, h1, h2, k _ _ _ h3⟩
  · exact Or.inr h
theorem rm_here (v : Value) (zs : List Int) (W0 w : World) (P : Nat) (v1 v2 v3 : Value) (ns : List Nd) (is : List In) (ds : List Df) (R : Row W0 v zs) (hb : Below W0.heap.size W0 w) (hP : W0.heap.size ≤ P) (h1 : One w P 0) (R1 : NRow W0 v1 ns) (R2 : InRow W0 v2 is) (R3 : DfRow W0 v3 ds) :
    Calls Tryz.prog 112 #[.agg #[v, .pointer (some ⟨P, 0, none⟩)], .agg #[v1, v2, v3]] w fun e w' => w.grownBy w' (some P) ∧ ∃ ao n c m r, e = .returned (.tuple #[.agg (mcs (.slice ao n c) m), r]) ∧ MFin w.heap.size ns is ds zs ao n c m r w' :=
  (rmachine_any v zs W0 w P v1 v2 v3 ns is ds R hb hP h1 R1 R2 R3).mono fun _ _ h => ⟨h.1, mans_fin h.2⟩

set_option maxRecDepth 100000 in
set_option maxHeartbeats 6400000 in
theorem imr_reg1 {t0 t3 t4 t5 t6 t7 t8 t9 t10 t11 t12 t13 t14 t15 t16 t17 t18 : Value} {fs : List Deferred} (bc : Nat) (v1 v2 v3 : Value) (ns : List Nd) (is : List In) (ds : List Df) (s : ByteArray) (w : World) (Q : Exit → Act → World → Prop)
    (hc : w.heap[bc]? = some (.cells #[v1, v2, v3] 44 (0, 0))) (R1 : NRow w v1 ns) (R2 : InRow w v2 is) (R3 : DfRow w v3 ds) (hs : s.size ≤ 140737488351232)
    (hQ : ∀ u8 u9 u10 u11 u12 u13 u14 bx ao n c m r (W : World), w.heap.size ≤ bx → Below w.heap.size w W → W.heap[bx]? = some (.cells (mcs (.slice ao n c) m) 47 (0, 0)) → MFin w.heap.size ns is ds (sb s) ao n c m r W → Q .normal ⟨#[t0, .string s, .pointer (some ⟨bc, 0, none⟩), t3, t4, t5, .pointer (some ⟨bx, 0, none⟩), r, u8, u9, u10, u11, u12, u13, u14, t15, t16, t17, t18], fs⟩ W) :
    (Code.region 1 (List.toArray (({ dst := some 9, op := Op.move (Operand.tmp 1), type := 9, pos := "l08_wire.go:47", after := #[], guard := none } : Oper) :: ({ dst := some 10, op := Op.call { callee := Callee.value (Operand.func 47), args := #[Operand.tmp 9], argTypes := #[9] }, type := 91, pos := "l08_wire.go:47", after := #[{ on := 0, ground := Ground.data }], guard := none } : Oper) :: ({ dst := some 11, op := Op.load 44 (Operand.tmp 2), type := 44, pos := "l08_wire.go:47", after := #[], guard := none } : Oper) :: ({ dst := some 12, op := Op.call { callee := Callee.value (Operand.func 112), args := #[Operand.tmp 10, Operand.tmp 11], argTypes := #[91, 44] }, type := 174, pos := "l08_wire.go:47", after := #[{ on := 1, ground := Ground.data }, { on := 2, ground := Ground.data }, { on := 1, ground := Ground.chain }], guard := none } : Oper) :: ({ dst := some 8, op := Op.move (Operand.tmp 12), type := 174, pos := "l08_wire.go:47", after := #[{ on := 3, ground := Ground.data }], guard := none } : Oper) :: ({ dst := some 13, op := Op.extract (Operand.tmp 8) 0, type := 47, pos := "l08_wire.go:47", after := #[{ on := 4, ground := Ground.data }], guard := none } : Oper) :: ({ dst := some 14, op := Op.extract (Operand.tmp 8) 1, type := 139, pos := "l08_wire.go:47", after := #[{ on := 4, ground := Ground.data }, { on := 8, ground := Ground.gcOnly Departure.lateStores }], guard := none } : Oper) :: ({ dst := some 6, op := Op.alloc 47, type := 0, pos := "l08_wire.go:47", after := #[], guard := none } : Oper) :: ({ dst := none, op := Op.store 47 (Operand.tmp 6) (Operand.tmp 13), type := 0, pos := "l08_wire.go:47", after := #[{ on := 7, ground := Ground.data }, { on := 5, ground := Ground.data }, { on := 3, ground := Ground.chain }, { on := 0, ground := Ground.phase }, { on := 1, ground := Ground.phase }, { on := 2, ground := Ground.phase }, { on := 3, ground := Ground.phase }, { on := 4, ground := Ground.phase }, { on := 5, ground := Ground.phase }, { on := 6, ground := Ground.textOnly Departure.lateStores }, { on := 7, ground := Ground.phase }], guard := none } : Oper) :: ({ dst := some 7, op := Op.assign (Operand.tmp 14), type := 139, pos := "l08_wire.go:47", after := #[{ on := 6, ground := Ground.data }, { on := 8, ground := Ground.chain }, { on := 0, ground := Ground.phase }, { on := 1, ground := Ground.phase }, { on := 2, ground := Ground.phase }, { on := 3, ground := Ground.phase }, { on := 4, ground := Ground.phase }, { on := 5, ground := Ground.phase }, { on := 6, ground := Ground.phase }, { on := 7, ground := Ground.phase }, { on := 8, ground := Ground.phase }], guard := none } : Oper) :: [])) true).wp Tryz.prog Q ⟨#[t0, .string s, .pointer (some ⟨bc, 0, none⟩), t3, t4, t5, t6, t7, t8, t9, t10, t11, t12, t13, t14, t15, t16, t17, t18], fs⟩ w := by
  have lc := (Array.getElem?_eq_some_iff.1 hc).1
  have hS : ∀ w', Below w.heap.size w w' → (w'.cell? ⟨bc, 0, none⟩ = some v1 ∧ w'.cell? ⟨bc, 1, none⟩ = some v2 ∧ w'.cell? ⟨bc, 2, none⟩ = some v3) := fun w' hb => by
    have g1 := (hb.block _ lc).trans hc
    exact ⟨cell_of_row w' _ 0 _ _ _ g1, cell_of_row w' _ 1 _ _ _ g1, cell_of_row w' _ 2 _ _ _ g1⟩
  have b0 : Below w.heap.size w w.drew := (Below.refl _ _).drew
  have s0 := hS _ b0
  have hd : w.heap.size ≤ w.drew.heap.size := Nat.le_refl _
  refine wp_region_noPanic ?_
  refine wp_region_held_drew (S := fun w' => w'.cell? ⟨bc, 0, none⟩ = some v1 ∧ w'.cell? ⟨bc, 1, none⟩ = some v2 ∧ w'.cell? ⟨bc, 2, none⟩ = some v3) (by kernel_rfl) s0 (fun hHeld => ?_)
  refine wpAnyH_take (i := 0) (oi := ({ dst := some 9, op := Op.move (Operand.tmp 1), type := 9, pos := "l08_wire.go:47", after := #[], guard := none } : Oper)) (v := .string s) rfl (by kernel_rfl) (by kernel_rfl) (by kernel_rfl) (fun _ _ _ h => h) (Or.inl ⟨by rfl, by intro w hSw; (try dsimp only at hSw); go_simp⟩) (by assumption) ?_
  simp only [Act.put, List.setIfInBounds_toArray, List.set_cons_zero, List.set_cons_succ]
  refine wpAnyH_take (i := 2) (oi := ({ dst := some 11, op := Op.load 44 (Operand.tmp 2), type := 44, pos := "l08_wire.go:47", after := #[], guard := none } : Oper)) (v := .agg #[v1, v2, v3]) rfl (by kernel_rfl) (by kernel_rfl) (by kernel_rfl) (fun _ _ _ h => h) (Or.inl ⟨by rfl, by intro w hSw; (try dsimp only at hSw); go_simp⟩) (by assumption) ?_
  simp only [Act.put, List.setIfInBounds_toArray, List.set_cons_zero, List.set_cons_succ]
  refine wpAnyH_ready (rs := [1, 7]) (by kernel_rfl) (by simp) ?_
  refine AllReadyH.cons rfl (fun K hK => ?_) (AllReadyH.cons rfl (fun K hK => ?_) AllReadyH.nil)
  · go_simp
    go_wp2_with (go_at_call 47; with_reducible refine (readerof_any s _ hs).mono ?_; rintro e w1 ⟨v, W0, P, rfl, RR, hbW, hb1, hP, hone⟩)
    have bW := b0.trans (hbW.mono b0.size)
    have b1 := bW.trans (hb1.mono bW.size)
    have hszW := hbW.size
    have hsz1 := hb1.size
    have hPl := hone.lt
    refine hK.out _ _ (hS _ b1) (fun hHeld1 => ?_)
    clear hK
    refine wpAnyH_ready (rs := [3, 7]) (by kernel_rfl) (by simp) ?_
    refine AllReadyH.cons rfl (fun K hK => ?_) (AllReadyH.cons rfl (fun K hK => ?_) AllReadyH.nil)
    · go_simp
      go_wp2_with (go_at_call 112; with_reducible refine (rm_here v (sb s) W0 w1 P v1 v2 v3 ns is ds RR hb1 hP hone (R1.below bW) (R2.below bW) (R3.below bW)).mono ?_; rintro e w2 ⟨hgr, ao, n, c, m, r, rfl, hF⟩)
      have b2 : Below w.heap.size w w2 := b1.grown hgr b1.size (fun k hk => by simp at hk; have := bW.size; omega)
      have hsz2 := hgr.size
      refine hK.out _ _ (hS _ b2) (fun hHeld2 => ?_)
      clear hK
      refine wpAnyH_take (i := 4) (oi := ({ dst := some 8, op := Op.move (Operand.tmp 12), type := 174, pos := "l08_wire.go:47", after := #[{ on := 3, ground := Ground.data }], guard := none } : Oper)) (v := .tuple #[.agg (mcs (.slice ao n c) m), r]) rfl (by kernel_rfl) (by kernel_rfl) (by kernel_rfl) (fun _ _ _ h => h) (Or.inl ⟨by rfl, by intro w hSw; (try dsimp only at hSw); go_simp⟩) (by assumption) ?_
      simp only [Act.put, List.setIfInBounds_toArray, List.set_cons_zero, List.set_cons_succ]
      refine wpAnyH_take (i := 5) (oi := ({ dst := some 13, op := Op.extract (Operand.tmp 8) 0, type := 47, pos := "l08_wire.go:47", after := #[{ on := 4, ground := Ground.data }], guard := none } : Oper)) (v := .agg (mcs (.slice ao n c) m)) rfl (by kernel_rfl) (by kernel_rfl) (by kernel_rfl) (fun _ _ _ h => h) (Or.inl ⟨by rfl, by intro w hSw; (try dsimp only at hSw); go_simp⟩) (by assumption) ?_
      simp only [Act.put, List.setIfInBounds_toArray, List.set_cons_zero, List.set_cons_succ]
      refine wpAnyH_take (i := 6) (oi := ({ dst := some 14, op := Op.extract (Operand.tmp 8) 1, type := 139, pos := "l08_wire.go:47", after := #[{ on := 4, ground := Ground.data }, { on := 8, ground := Ground.gcOnly Departure.lateStores }], guard := none } : Oper)) (v := r) rfl (by kernel_rfl) (by kernel_rfl) (by kernel_rfl) (fun _ _ _ h => h) (Or.inl ⟨by rfl, by intro w hSw; (try dsimp only at hSw); go_simp⟩) (by assumption) ?_
      simp only [Act.put, List.setIfInBounds_toArray, List.set_cons_zero, List.set_cons_succ]
      refine wpAnyH_ready (rs := [7]) (by kernel_rfl) (by simp) ?_
      refine AllReadyH.cons rfl (fun K hK => ?_) AllReadyH.nil
      go_simp
      go_wp2_with fail
      have bA : Below w.heap.size w (w2.alloc (Obj.cells #[.slice none 0 0, .int .i64 0, .int .i64 0, .int .i64 0, .int .i64 0, .int .i64 0, .int .i64 0, .int .i64 0] 47)) := b2.alloc b2.size _
      have hszA : (w2.alloc (Obj.cells #[.slice none 0 0, .int .i64 0, .int .i64 0, .int .i64 0, .int .i64 0, .int .i64 0, .int .i64 0, .int .i64 0] 47)).heap.size = w2.heap.size + 1 := by simp
      have xA : (w2.alloc (Obj.cells #[.slice none 0 0, .int .i64 0, .int .i64 0, .int .i64 0, .int .i64 0, .int .i64 0, .int .i64 0, .int .i64 0] 47)).heap[w2.heap.size]? = some (Obj.cells #[.slice none 0 0, .int .i64 0, .int .i64 0, .int .i64 0, .int .i64 0, .int .i64 0, .int .i64 0, .int .i64 0] 47) := heap_alloc_new _ _
      refine hK.out _ _ (hS _ bA) (fun hHeldA => ?_)
      clear hK
      refine wpAnyH_ready (rs := [8]) (by kernel_rfl) (by simp) ?_
      refine AllReadyH.cons rfl (fun K hK => ?_) AllReadyH.nil
      rw [if_pos (by rfl)]
      refine wp_store_row 47 _ _ rfl (w2.heap.size) (mcs (.slice ao n c) m) rfl rfl 47 #[.slice none 0 0, .int .i64 0, .int .i64 0, .int .i64 0, .int .i64 0, .int .i64 0, .int .i64 0, .int .i64 0] xA Tryz.sizeMach rfl (mcs_one _ _ _ _) ?_
      have bF := below_setRow bA (g := w2.heap.size) (by omega) (mcs (.slice ao n c) m)
      refine hK.out _ _ (hS _ bF) (fun hHeldF => ?_)
      clear hK
      simp only [Act.put]
      refine wpAnyH_take (i := 9) (oi := ({ dst := some 7, op := Op.assign (Operand.tmp 14), type := 139, pos := "l08_wire.go:47", after := #[{ on := 6, ground := Ground.data }, { on := 8, ground := Ground.chain }, { on := 0, ground := Ground.phase }, { on := 1, ground := Ground.phase }, { on := 2, ground := Ground.phase }, { on := 3, ground := Ground.phase }, { on := 4, ground := Ground.phase }, { on := 5, ground := Ground.phase }, { on := 6, ground := Ground.phase }, { on := 7, ground := Ground.phase }, { on := 8, ground := Ground.phase }], guard := none } : Oper)) (v := r) rfl (by kernel_rfl) (by kernel_rfl) (by kernel_rfl) (fun _ _ _ h => h) (Or.inl ⟨by rfl, by intro w hSw; (try dsimp only at hSw); go_simp⟩) (by assumption) ?_
      simp only [Act.put]
      refine wpAnyH_done (by kernel_rfl) ?_ _
      exact NoPanic.normal <| hQ _ _ _ _ _ _ _ (w2.heap.size) ao n c m r _ (by omega) bF (setRow_heap _ _ _ _ _ _ xA) (hF.keep fun _ _ _ o => own_mono (own_below o (below_setRow ((Below.refl _ _).alloc (Nat.le_refl _) _) (Nat.le_refl _) _)) (by omega))
    · go_simp
      go_wp2_with fail
      have bA : Below w.heap.size w (w1.alloc (Obj.cells #[.slice none 0 0, .int .i64 0, .int .i64 0, .int .i64 0, .int .i64 0, .int .i64 0, .int .i64 0, .int .i64 0] 47)) := b1.alloc b1.size _
      have hszA : (w1.alloc (Obj.cells #[.slice none 0 0, .int .i64 0, .int .i64 0, .int .i64 0, .int .i64 0, .int .i64 0, .int .i64 0, .int .i64 0] 47)).heap.size = w1.heap.size + 1 := by simp
      have xA : (w1.alloc (Obj.cells #[.slice none 0 0, .int .i64 0, .int .i64 0, .int .i64 0, .int .i64 0, .int .i64 0, .int .i64 0, .int .i64 0] 47)).heap[w1.heap.size]? = some (Obj.cells #[.slice none 0 0, .int .i64 0, .int .i64 0, .int .i64 0, .int .i64 0, .int .i64 0, .int .i64 0, .int .i64 0] 47) := heap_alloc_new _ _
      refine hK.out _ _ (hS _ bA) (fun hHeldA => ?_)
      clear hK
      refine wpAnyH_ready (rs := [3]) (by kernel_rfl) (by simp) ?_
      refine AllReadyH.cons rfl (fun K hK => ?_) AllReadyH.nil
      go_simp
      go_wp2_with (go_at_call 112; with_reducible refine (rm_here v (sb s) W0 (w1.alloc (Obj.cells #[.slice none 0 0, .int .i64 0, .int .i64 0, .int .i64 0, .int .i64 0, .int .i64 0, .int .i64 0, .int .i64 0] 47)) P v1 v2 v3 ns is ds RR (hb1.alloc hb1.size _) hP (hone.below ((Below.refl _ _).alloc (Nat.le_refl _) _) hone.lt) (R1.below bW) (R2.below bW) (R3.below bW)).mono ?_; rintro e w2 ⟨hgr, ao, n, c, m, r, rfl, hF⟩)
      have b2 : Below w.heap.size w w2 := bA.grown hgr bA.size (fun k hk => by simp at hk; have := bW.size; omega)
      have hsz2 := hgr.size
      refine hK.out _ _ (hS _ b2) (fun hHeld2 => ?_)
      clear hK
      have x2 := (hgr.block w1.heap.size (by omega) (by simp; omega)).trans xA
      refine wpAnyH_take (i := 4) (oi := ({ dst := some 8, op := Op.move (Operand.tmp 12), type := 174, pos := "l08_wire.go:47", after := #[{ on := 3, ground := Ground.data }], guard := none } : Oper)) (v := .tuple #[.agg (mcs (.slice ao n c) m), r]) rfl (by kernel_rfl) (by kernel_rfl) (by kernel_rfl) (fun _ _ _ h => h) (Or.inl ⟨by rfl, by intro w hSw; (try dsimp only at hSw); go_simp⟩) (by assumption) ?_
      simp only [Act.put, List.setIfInBounds_toArray, List.set_cons_zero, List.set_cons_succ]
      refine wpAnyH_take (i := 5) (oi := ({ dst := some 13, op := Op.extract (Operand.tmp 8) 0, type := 47, pos := "l08_wire.go:47", after := #[{ on := 4, ground := Ground.data }], guard := none } : Oper)) (v := .agg (mcs (.slice ao n c) m)) rfl (by kernel_rfl) (by kernel_rfl) (by kernel_rfl) (fun _ _ _ h => h) (Or.inl ⟨by rfl, by intro w hSw; (try dsimp only at hSw); go_simp⟩) (by assumption) ?_
      simp only [Act.put, List.setIfInBounds_toArray, List.set_cons_zero, List.set_cons_succ]
      refine wpAnyH_take (i := 6) (oi := ({ dst := some 14, op := Op.extract (Operand.tmp 8) 1, type := 139, pos := "l08_wire.go:47", after := #[{ on := 4, ground := Ground.data }, { on := 8, ground := Ground.gcOnly Departure.lateStores }], guard := none } : Oper)) (v := r) rfl (by kernel_rfl) (by kernel_rfl) (by kernel_rfl) (fun _ _ _ h => h) (Or.inl ⟨by rfl, by intro w hSw; (try dsimp only at hSw); go_simp⟩) (by assumption) ?_
      simp only [Act.put, List.setIfInBounds_toArray, List.set_cons_zero, List.set_cons_succ]
      refine wpAnyH_ready (rs := [8]) (by kernel_rfl) (by simp) ?_
      refine AllReadyH.cons rfl (fun K hK => ?_) AllReadyH.nil
      rw [if_pos (by rfl)]
      refine wp_store_row 47 _ _ rfl (w1.heap.size) (mcs (.slice ao n c) m) rfl rfl 47 #[.slice none 0 0, .int .i64 0, .int .i64 0, .int .i64 0, .int .i64 0, .int .i64 0, .int .i64 0, .int .i64 0] x2 Tryz.sizeMach rfl (mcs_one _ _ _ _) ?_
      have bF := below_setRow b2 (g := w1.heap.size) (by omega) (mcs (.slice ao n c) m)
      refine hK.out _ _ (hS _ bF) (fun hHeldF => ?_)
      clear hK
      simp only [Act.put]
      refine wpAnyH_take (i := 9) (oi := ({ dst := some 7, op := Op.assign (Operand.tmp 14), type := 139, pos := "l08_wire.go:47", after := #[{ on := 6, ground := Ground.data }, { on := 8, ground := Ground.chain }, { on := 0, ground := Ground.phase }, { on := 1, ground := Ground.phase }, { on := 2, ground := Ground.phase }, { on := 3, ground := Ground.phase }, { on := 4, ground := Ground.phase }, { on := 5, ground := Ground.phase }, { on := 6, ground := Ground.phase }, { on := 7, ground := Ground.phase }, { on := 8, ground := Ground.phase }], guard := none } : Oper)) (v := r) rfl (by kernel_rfl) (by kernel_rfl) (by kernel_rfl) (fun _ _ _ h => h) (Or.inl ⟨by rfl, by intro w hSw; (try dsimp only at hSw); go_simp⟩) (by assumption) ?_
      simp only [Act.put]
      refine wpAnyH_done (by kernel_rfl) ?_ _
      exact NoPanic.normal <| hQ _ _ _ _ _ _ _ (w1.heap.size) ao n c m r _ (by omega) bF (setRow_heap _ _ _ _ _ _ x2) (hF.keep fun _ _ _ o => own_mono (own_keep o (by omega) (fun k hk => setRow_other _ _ k _ hk)) (by omega))
  · go_simp
    go_wp2_with fail
    have bA : Below w.heap.size w (w.drew.alloc (Obj.cells #[.slice none 0 0, .int .i64 0, .int .i64 0, .int .i64 0, .int .i64 0, .int .i64 0, .int .i64 0, .int .i64 0] 47)) := b0.alloc b0.size _
    have hszA : (w.drew.alloc (Obj.cells #[.slice none 0 0, .int .i64 0, .int .i64 0, .int .i64 0, .int .i64 0, .int .i64 0, .int .i64 0, .int .i64 0] 47)).heap.size = w.drew.heap.size + 1 := by simp
    have xA : (w.drew.alloc (Obj.cells #[.slice none 0 0, .int .i64 0, .int .i64 0, .int .i64 0, .int .i64 0, .int .i64 0, .int .i64 0, .int .i64 0] 47)).heap[w.drew.heap.size]? = some (Obj.cells #[.slice none 0 0, .int .i64 0, .int .i64 0, .int .i64 0, .int .i64 0, .int .i64 0, .int .i64 0, .int .i64 0] 47) := heap_alloc_new _ _
    refine hK.out _ _ (hS _ bA) (fun hHeldA => ?_)
    clear hK
    refine wpAnyH_ready (rs := [1]) (by kernel_rfl) (by simp) ?_
    refine AllReadyH.cons rfl (fun K hK => ?_) AllReadyH.nil
    go_simp
    go_wp2_with (go_at_call 47; with_reducible refine (readerof_any s _ hs).mono ?_; rintro e w1 ⟨v, W0, P, rfl, RR, hbW, hb1, hP, hone⟩)
    have bW := bA.trans (hbW.mono bA.size)
    have b1 := bW.trans (hb1.mono bW.size)
    have hszW := hbW.size
    have hsz1 := hb1.size
    have hPl := hone.lt
    refine hK.out _ _ (hS _ b1) (fun hHeld1 => ?_)
    clear hK
    refine wpAnyH_ready (rs := [3]) (by kernel_rfl) (by simp) ?_
    refine AllReadyH.cons rfl (fun K hK => ?_) AllReadyH.nil
    go_simp
    go_wp2_with (go_at_call 112; with_reducible refine (rm_here v (sb s) W0 w1 P v1 v2 v3 ns is ds RR hb1 hP hone (R1.below bW) (R2.below bW) (R3.below bW)).mono ?_; rintro e w2 ⟨hgr, ao, n, c, m, r, rfl, hF⟩)
    have b2 : Below w.heap.size w w2 := b1.grown hgr b1.size (fun k hk => by simp at hk; have := bW.size; omega)
    have hsz2 := hgr.size
    refine hK.out _ _ (hS _ b2) (fun hHeld2 => ?_)
    clear hK
    have hszW' : w.heap.size + 1 ≤ W0.heap.size := by simpa using hszW
    have x2 := (hgr.block w.heap.size (by omega) (by simp; omega)).trans ((hb1.block _ (by omega)).trans ((hbW.block w.heap.size (by simp)).trans (heap_alloc_new w _)))
    refine wpAnyH_take (i := 4) (oi := ({ dst := some 8, op := Op.move (Operand.tmp 12), type := 174, pos := "l08_wire.go:47", after := #[{ on := 3, ground := Ground.data }], guard := none } : Oper)) (v := .tuple #[.agg (mcs (.slice ao n c) m), r]) rfl (by kernel_rfl) (by kernel_rfl) (by kernel_rfl) (fun _ _ _ h => h) (Or.inl ⟨by rfl, by intro w hSw; (try dsimp only at hSw); go_simp⟩) (by assumption) ?_
    simp only [Act.put, List.setIfInBounds_toArray, List.set_cons_zero, List.set_cons_succ]
    refine wpAnyH_take (i := 5) (oi := ({ dst := some 13, op := Op.extract (Operand.tmp 8) 0, type := 47, pos := "l08_wire.go:47", after := #[{ on := 4, ground := Ground.data }], guard := none } : Oper)) (v := .agg (mcs (.slice ao n c) m)) rfl (by kernel_rfl) (by kernel_rfl) (by kernel_rfl) (fun _ _ _ h => h) (Or.inl ⟨by rfl, by intro w hSw; (try dsimp only at hSw); go_simp⟩) (by assumption) ?_
    simp only [Act.put, List.setIfInBounds_toArray, List.set_cons_zero, List.set_cons_succ]
    refine wpAnyH_take (i := 6) (oi := ({ dst := some 14, op := Op.extract (Operand.tmp 8) 1, type := 139, pos := "l08_wire.go:47", after := #[{ on := 4, ground := Ground.data }, { on := 8, ground := Ground.gcOnly Departure.lateStores }], guard := none } : Oper)) (v := r) rfl (by kernel_rfl) (by kernel_rfl) (by kernel_rfl) (fun _ _ _ h => h) (Or.inl ⟨by rfl, by intro w hSw; (try dsimp only at hSw); go_simp⟩) (by assumption) ?_
    simp only [Act.put, List.setIfInBounds_toArray, List.set_cons_zero, List.set_cons_succ]
    refine wpAnyH_ready (rs := [8]) (by kernel_rfl) (by simp) ?_
    refine AllReadyH.cons rfl (fun K hK => ?_) AllReadyH.nil
    rw [if_pos (by rfl)]
    refine wp_store_row 47 _ _ rfl (w.heap.size) (mcs (.slice ao n c) m) rfl rfl 47 #[.slice none 0 0, .int .i64 0, .int .i64 0, .int .i64 0, .int .i64 0, .int .i64 0, .int .i64 0, .int .i64 0] x2 Tryz.sizeMach rfl (mcs_one _ _ _ _) ?_
    have bF := below_setRow b2 (g := w.heap.size) (by omega) (mcs (.slice ao n c) m)
    refine hK.out _ _ (hS _ bF) (fun hHeldF => ?_)
    clear hK
    simp only [Act.put]
    refine wpAnyH_take (i := 9) (oi := ({ dst := some 7, op := Op.assign (Operand.tmp 14), type := 139, pos := "l08_wire.go:47", after := #[{ on := 6, ground := Ground.data }, { on := 8, ground := Ground.chain }, { on := 0, ground := Ground.phase }, { on := 1, ground := Ground.phase }, { on := 2, ground := Ground.phase }, { on := 3, ground := Ground.phase }, { on := 4, ground := Ground.phase }, { on := 5, ground := Ground.phase }, { on := 6, ground := Ground.phase }, { on := 7, ground := Ground.phase }, { on := 8, ground := Ground.phase }], guard := none } : Oper)) (v := r) rfl (by kernel_rfl) (by kernel_rfl) (by kernel_rfl) (fun _ _ _ h => h) (Or.inl ⟨by rfl, by intro w hSw; (try dsimp only at hSw); go_simp⟩) (by assumption) ?_
    simp only [Act.put]
    refine wpAnyH_done (by kernel_rfl) ?_ _
    exact NoPanic.normal <| hQ _ _ _ _ _ _ _ (w.heap.size) ao n c m r _ (by omega) bF (setRow_heap _ _ _ _ _ _ x2) (hF.keep fun _ _ _ o => own_mono (own_keep o (by omega) (fun k hk => setRow_other _ _ k _ hk)) (by omega))
end Go.Proofs.YtjnhocefnfmhmaaGreatDoor

/-
  The contract of impl.MachineRead: the machine of the bytes, or nothing. No condition but a bound on the text, and errors.errorType.
-/
namespace Go.Proofs.YtjnhocefnfmhmaaGreatDoor
open Go.RowKit

set_option maxRecDepth 100000 in
set_option maxHeartbeats 6400000 in
theorem imread_any (v1 v2 v3 : Value) (ns : List Nd) (is : List In) (ds : List Df) (s : ByteArray) (w : World) (R1 : NRow w v1 ns) (R2 : InRow w v2 is) (R3 : DfRow w v3 ds) (hs : s.size ≤ 140737488351232) (hg : ErrT w) :
    Calls Tryz.prog 85 #[.agg #[v1, v2, v3], .string s] w fun e w' => MrAns w.heap.size (mrR ns is ds (sb s)) e w' ∧ Below w.heap.size w w' := by
  obtain ⟨a1, c1, rfl⟩ := R1.small
  obtain ⟨a2, c2, rfl⟩ := R2.small
  obtain ⟨a3, c3, rfl⟩ := R3.small
  obtain ⟨hB2, z0, z1⟩ := two_boxes w (Obj.cells #[.slice a1 ns.length c1, .slice a2 is.length c2, .slice a3 ds.length c3] 44) (Obj.cells #[.slice none 0 0, .int .i64 0, .int .i64 0, .int .i64 0, .int .i64 0, .int .i64 0, .int .i64 0, .int .i64 0] 47)
  go_enter Tryz.func85, Tryz.ntmps85
  go_wp2_with fail
  obtain ⟨W2, hW2⟩ : ∃ W2, (w.alloc (Obj.cells #[.slice a1 ns.length c1, .slice a2 is.length c2, .slice a3 ds.length c3] 44)).alloc (Obj.cells #[.slice none 0 0, .int .i64 0, .int .i64 0, .int .i64 0, .int .i64 0, .int .i64 0, .int .i64 0, .int .i64 0] 47) = W2 := ⟨_, rfl⟩
  rw [hW2] at hB2 z0 z1 ⊢
  have hs2 : w.heap.size + 1 < W2.heap.size := by rw [← hW2]; simp
  clear hW2
  refine imr_reg1 w.heap.size _ _ _ ns is ds s W2 _ z0 (R1.below hB2) (R2.below hB2) (R3.below hB2) hs ?_
  intro u8 u9 u10 u11 u12 u13 u14 bx ao n c m r W hbx hbW xb hF
  have x1 := (hbW.block _ hs2).trans z1
  have BW := hB2.trans (hbW.mono hB2.size)
  have lb := (Array.getElem?_eq_some_iff.1 xb).1
  have hsW := hbW.size
  clear z0 z1
  rcases hF with ⟨xs, h1, rfl, h3⟩ | ⟨h1, p, rfl⟩
  · have HA : Hid (mrR ns is ds (sb s) = some (xs, m)) := h1
    clear h1
    go_wp2_with fail
    refine (isbad_nil _).mono ?_
    rintro e w4 ⟨rfl, hb4⟩
    have x4 := (hb4.block _ (Array.getElem?_eq_some_iff.1 x1).1).trans x1
    have m4 := (hb4.block _ lb).trans xb
    have o4 := own_below h3 hb4
    have B4 := BW.trans (hb4.mono BW.size)
    go_wp2_with (first
      | (refine wpList_load_row rfl 47 _ rfl bx rfl 47 (mcs (.slice ao n c) m) (0, 0) _ m4 Tryz.underlying47 rfl Tryz.sizeMach ?_)
      | (refine wpList_store_own2 rfl 47 _ _ rfl (w.heap.size + 1) (mcs (.slice ao n c) m) rfl rfl 47 _ x4 Tryz.sizeMach rfl (mcs_one _ _ _ _) ?_))
    intro wF hF hbF hsF hkF
    have BF := B4.trans (hbF.mono (Nat.le_succ _))
    have oF := own_mono (own_keep o4 hs2 hkF) (by omega : w.heap.size ≤ W2.heap.size)
    clear hsF hkF
    go_wp2
    refine bodyPost_ret (results_row_tmp rfl _ _ (w.heap.size + 1) 47 _ (0, 0) _ rfl hF Tryz.underlying47 rfl Tryz.sizeMach) rfl ⟨MrAns.intro (.slice ao n c) ?_ ?_, BF⟩
    · rw [HA.out]; rfl
    · rw [HA.out]; exact oF
  · have HA : Hid (mrR ns is ds (sb s) = none) := h1
    clear h1
    go_wp2_with fail
    refine (isbad_bad p _ (hg.below BW (Nat.le_refl _))).mono ?_
    rintro e w4 ⟨rfl, hb4⟩
    have x4 := (hb4.block _ (Array.getElem?_eq_some_iff.1 x1).1).trans x1
    have B4 := BW.trans (hb4.mono BW.size)
    go_wp2_with (refine wpList_store_own rfl 47 _ _ rfl (w.heap.size + 1) #[.slice none 0 0, .int .i64 0, .int .i64 0, .int .i64 0, .int .i64 0, .int .i64 0, .int .i64 0, .int .i64 0] rfl rfl 47 _ x4 Tryz.sizeMach rfl (by simp [Value.oneCell']) ?_)
    intro wF hF hbF hsF
    have BF := B4.trans (hbF.mono (Nat.le_succ _))
    clear hsF
    go_wp2
    refine bodyPost_ret (results_row_tmp rfl _ _ (w.heap.size + 1) 47 _ (0, 0) _ rfl hF Tryz.underlying47 rfl Tryz.sizeMach) rfl ⟨MrAns.intro (.slice none 0 0) ?_ ?_, BF⟩
    · rw [HA.out]; rfl
    · rw [HA.out]; exact World.ownsRow_nil _ _ _ _
end Go.Proofs.YtjnhocefnfmhmaaGreatDoor

/-
  The contract of (impl.reader).proc: what has the form of a process is read. The variable errors.errorType reads as it is laid.
-/
namespace Go.Proofs.YtjnhocefnfmhmaaGreatDoor
open Go.RowKit

/-- What has the form of a process: its number, the machine's text, its box and what it printed. -/
def rdAll (zs : List Int) : Option (Int × ByteArray × List ByteArray × List ByteArray) :=
  (rd1 zs 0).bind fun p => (rt zs p.2).bind fun t => (rdTB zs 20 t.2).bind fun b => (rdTB zs 40 b.2).bind fun o => if o.2 = zs.length then some (p.1, t.1, b.1, o.1) else none
/-- What is told of it. -/
def paT (ns : List Nd) (is : List In) (ds : List Df) (r : Option (Int × ByteArray × List ByteArray × List ByteArray)) : Int × List Nd × Mc × List ByteArray × List ByteArray × Bool :=
  match r with
  | none => (0, [], ⟨0, 0, 0, 0, 0, 0, 0⟩, [], [], false)
  | some (i, t, b, o) => (i, mrL (mrR ns is ds (sb t)), mrM (mrR ns is ds (sb t)), b, o, (mrR ns is ds (sb t)).isSome)
theorem pdR_all (ns : List Nd) (is : List In) (ds : List Df) (zs : List Int) : pdR ns is ds zs = (rdAll zs).bind fun a => (mrR ns is ds (sb a.2.1)).bind fun r => if procB ns is ds a.1 r.1 r.2 a.2.2.1 a.2.2.2 then some (a.1, r, a.2.2.1, a.2.2.2) else none := by
  rw [pdR_impl]
  unfold rdAll
  cases rd1 zs 0 with
  | none => rfl
  | some p =>
    simp only [Option.bind_some]
    cases rt zs p.2 with
    | none => rfl
    | some t =>
      simp only [Option.bind_some]
      cases rdTB zs 20 t.2 with
      | none => rfl
      | some b =>
        simp only [Option.bind_some]
        cases rdTB zs 40 b.2 with
        | none => rfl
        | some o =>
          simp only [Option.bind_some]
          split <;> rfl

theorem rtexts2_any (v : Value) (zs : List Int) (W0 w : World) (P : Nat) (a : Int) (most : Nat) (R : Row W0 v zs) (hb : Below W0.heap.size W0 w) (hP : W0.heap.size ≤ P) (h1 : One w P a) (hmost : most ≤ 40) (hzl : zs.length ≤ 140737488351232) :
    Calls Tryz.prog 83 #[.agg #[v, .pointer (some ⟨P, 0, none⟩)], .int .i64 most] w fun e w' => ∃ (v' : Value) (ts : List ByteArray) (k : Bool) (q : Int), e = .returned (.tuple #[v', .bool k]) ∧ One w' P q ∧ w'.ownsRow w.heap.size 9 1 v' ts.length (stv ts) ∧ rdTB zs most a = (if k then some (ts, q) else none) ∧ w.grownBy w' (some P) :=
  (rtexts_any v zs W0 w P a most R hb hP h1 hmost hzl).mono fun _ _ h => by
    rcases h with ⟨hg, ⟨q, v', h1, h2, h3, h4⟩ | ⟨h1, h2, q, h3⟩⟩
    · exact ⟨v', q.1, true, q.2, h2, h3, h4, h1, hg⟩
    · exact ⟨.slice none 0 0, [], false, q, h2, h3, ⟨by simp [stv], Or.inl ⟨rfl, rfl⟩⟩, h1, hg⟩
theorem rdTs_end {zs : List Int} : ∀ {n : Nat} {a : Int} {q : List ByteArray × Int}, a ≤ zs.length → rdTs zs n a = some q → q.2 ≤ zs.length ∧ ∀ x ∈ q.1, x.size ≤ zs.length
  | 0, a, q, ha, h => by cases h; exact ⟨ha, by simp⟩
  | n + 1, a, q, ha, h => by
    rw [rdTs, Option.bind_eq_some_iff] at h
    obtain ⟨p, h1, h2⟩ := h
    rw [Option.map_eq_some_iff] at h2
    obtain ⟨t, h3, rfl⟩ := h2
    unfold rt at h1
    split at h1
    · cases h1
      have hr := (gT_range zs a).2
      obtain ⟨e1, e2⟩ := rdTs_end hr h3
      refine ⟨e1, fun x hx => ?_⟩
      rcases List.mem_cons.1 hx with rfl | hx
      · exact gT_size zs a
      · exact e2 x hx
    · cases h1
theorem rdTB_end {zs : List Int} {most : Nat} {a : Int} {q : List ByteArray × Int} (h : rdTB zs most a = some q) : q.2 ≤ zs.length ∧ ∀ x ∈ q.1, x.size ≤ zs.length := by
  obtain ⟨h1, _⟩ := rdTB_yes h
  unfold rdTL at h1
  rw [Option.bind_eq_some_iff] at h1
  obtain ⟨p, h2, h3⟩ := h1
  exact rdTs_end (rd1_range h2).2.2.2 h3
end Go.Proofs.YtjnhocefnfmhmaaGreatDoor

/-
  The contract of (impl.reader).proc: what has the form of a process is read. The variable errors.errorType reads as it is laid.
-/
namespace Go.Proofs.YtjnhocefnfmhmaaGreatDoor
open Go.RowKit

/-- What is told, in memory of its own. -/
def PaAns (B : Nat) (T : Int × List Nd × Mc × List ByteArray × List ByteArray × Bool) (e : Ending) (w' : World) : Prop :=
  ∃ (I : Int) (X : List Nd) (M : Mc) (BX OX : List ByteArray) (ok : Bool) (y1 y2 y3 : Value), T = (I, X, M, BX, OX, ok) ∧ e = .returned (.tuple #[.agg #[.int .i64 I, y1, .int .i64 M.p, .int .i64 M.s, .int .i64 M.e, .int .i64 M.d, .int .i64 M.t, .int .i64 M.q, .int .i64 M.r, y2, y3], .bool ok]) ∧ w'.ownsRow B 153 5 y1 X.length (ncs X) ∧ w'.ownsRow B 9 1 y2 BX.length (stv BX) ∧ w'.ownsRow B 9 1 y3 OX.length (stv OX) ∧ ∀ g, y3.ownBlock = some g → y2.ownBlock ≠ some g
theorem PaAns.zero {B : Nat} {ns : List Nd} {is : List In} {ds : List Df} {r : Option (Int × ByteArray × List ByteArray × List ByteArray)} {w' : World} (h : r = none) : PaAns B (paT ns is ds r) (.returned (.tuple #[.agg #[.int .i64 0, .slice none 0 0, .int .i64 0, .int .i64 0, .int .i64 0, .int .i64 0, .int .i64 0, .int .i64 0, .int .i64 0, .slice none 0 0, .slice none 0 0], .bool false])) w' := by
  subst h
  exact ⟨0, [], ⟨0, 0, 0, 0, 0, 0, 0⟩, [], [], false, .slice none 0 0, .slice none 0 0, .slice none 0 0, rfl, rfl, ⟨by simp [ncs], Or.inl ⟨rfl, rfl⟩⟩, ⟨by simp [stv], Or.inl ⟨rfl, rfl⟩⟩, ⟨by simp [stv], Or.inl ⟨rfl, rfl⟩⟩, fun g h => by cases h⟩
theorem grown_st {w a b : World} {P g : Nat} (h : w.grownBy a (some P)) (hb : Below g a b) (hs : b.heap.size = a.heap.size) (hk : ∀ k, k ≠ g → b.heap[k]? = a.heap[k]?) (hg : w.heap.size ≤ g) : w.grownBy b (some P) :=
  ⟨hb.os.trans h.os, hb.tape.trans h.tape, hb.output.trans h.output, by rw [hs]; exact h.size, fun k hk' hne => (hk k (by omega)).trans (h.block k hk' hne)⟩

set_option maxRecDepth 100000 in
set_option maxHeartbeats 12800000 in
theorem rproc_any (v : Value) (zs : List Int) (W0 w : World) (P : Nat) (v1 v2 v3 : Value) (ns : List Nd) (is : List In) (ds : List Df) (R : Row W0 v zs) (hb : Below W0.heap.size W0 w) (hP : W0.heap.size ≤ P) (h1 : One w P 0) (R1 : NRow W0 v1 ns) (R2 : InRow W0 v2 is) (R3 : DfRow W0 v3 ds) (hg : ErrT W0) (hzl : zs.length ≤ 140737488351232) :
    Calls Tryz.prog 48 #[.agg #[v, .pointer (some ⟨P, 0, none⟩)], .agg #[v1, v2, v3]] w fun e w' => PaAns w.heap.size (paT ns is ds (rdAll zs)) e w' ∧ w.grownBy w' (some P) := by
  have R' := R
  obtain ⟨ao, cap, rfl, _⟩ := R'
  obtain ⟨a1, c1, rfl⟩ := R1.small
  obtain ⟨a2, c2, rfl⟩ := R2.small
  obtain ⟨a3, c3, rfl⟩ := R3.small
  have hPl := h1.lt
  have hbs := hb.size
  obtain ⟨A, hA⟩ : ∃ A, A = w.alloc (Obj.cells #[Value.slice ao zs.length cap, Value.pointer (some ⟨P, 0, none⟩)] 91) := ⟨_, rfl⟩
  have hB3 : Below w.heap.size w (((w.alloc (Obj.cells #[Value.slice ao zs.length cap, Value.pointer (some ⟨P, 0, none⟩)] 91)).alloc (Obj.cells #[.slice a1 ns.length c1, .slice a2 is.length c2, .slice a3 ds.length c3] 44)).alloc (Obj.cells #[.int .i64 0, .slice none 0 0, .int .i64 0, .int .i64 0, .int .i64 0, .int .i64 0, .int .i64 0, .int .i64 0, .int .i64 0, .slice none 0 0, .slice none 0 0] 49)) := (((Below.refl _ _).alloc (Nat.le_refl _) _).alloc (by simp) _).alloc (by simp; omega) _
  have hr : (((w.alloc (Obj.cells #[Value.slice ao zs.length cap, Value.pointer (some ⟨P, 0, none⟩)] 91)).alloc (Obj.cells #[.slice a1 ns.length c1, .slice a2 is.length c2, .slice a3 ds.length c3] 44)).alloc (Obj.cells #[.int .i64 0, .slice none 0 0, .int .i64 0, .int .i64 0, .int .i64 0, .int .i64 0, .int .i64 0, .int .i64 0, .int .i64 0, .slice none 0 0, .slice none 0 0] 49)).heap[w.heap.size]? = some (.cells #[Value.slice ao zs.length cap, Value.pointer (some ⟨P, 0, none⟩)] 91 (0, 0)) := (heap_alloc_old _ _ (by simp; omega)).trans ((heap_alloc_old _ _ (by simp)).trans (heap_alloc_new _ _))
  have hk : (((w.alloc (Obj.cells #[Value.slice ao zs.length cap, Value.pointer (some ⟨P, 0, none⟩)] 91)).alloc (Obj.cells #[.slice a1 ns.length c1, .slice a2 is.length c2, .slice a3 ds.length c3] 44)).alloc (Obj.cells #[.int .i64 0, .slice none 0 0, .int .i64 0, .int .i64 0, .int .i64 0, .int .i64 0, .int .i64 0, .int .i64 0, .int .i64 0, .slice none 0 0, .slice none 0 0] 49)).heap[w.heap.size + 1]? = some (.cells #[.slice a1 ns.length c1, .slice a2 is.length c2, .slice a3 ds.length c3] 44 (0, 0)) := (heap_alloc_old _ _ (by simp)).trans (heap_alloc2_new _ _ _)
  have hy : (((w.alloc (Obj.cells #[Value.slice ao zs.length cap, Value.pointer (some ⟨P, 0, none⟩)] 91)).alloc (Obj.cells #[.slice a1 ns.length c1, .slice a2 is.length c2, .slice a3 ds.length c3] 44)).alloc (Obj.cells #[.int .i64 0, .slice none 0 0, .int .i64 0, .int .i64 0, .int .i64 0, .int .i64 0, .int .i64 0, .int .i64 0, .int .i64 0, .slice none 0 0, .slice none 0 0] 49)).heap[w.heap.size + 2]? = some (.cells #[.int .i64 0, .slice none 0 0, .int .i64 0, .int .i64 0, .int .i64 0, .int .i64 0, .int .i64 0, .int .i64 0, .int .i64 0, .slice none 0 0, .slice none 0 0] 49 (0, 0)) := by
    have h := heap_alloc_new ((w.alloc (Obj.cells #[Value.slice ao zs.length cap, Value.pointer (some ⟨P, 0, none⟩)] 91)).alloc (Obj.cells #[.slice a1 ns.length c1, .slice a2 is.length c2, .slice a3 ds.length c3] 44)) (Obj.cells #[.int .i64 0, .slice none 0 0, .int .i64 0, .int .i64 0, .int .i64 0, .int .i64 0, .int .i64 0, .int .i64 0, .int .i64 0, .slice none 0 0, .slice none 0 0] 49)
    simpa using h
  clear hA A
  have hone := h1.below hB3 hPl
  have hbel := hb.trans (hB3.mono hbs)
  have hG : w.grownBy (((w.alloc (Obj.cells #[Value.slice ao zs.length cap, Value.pointer (some ⟨P, 0, none⟩)] 91)).alloc (Obj.cells #[.slice a1 ns.length c1, .slice a2 is.length c2, .slice a3 ds.length c3] 44)).alloc (Obj.cells #[.int .i64 0, .slice none 0 0, .int .i64 0, .int .i64 0, .int .i64 0, .int .i64 0, .int .i64 0, .int .i64 0, .int .i64 0, .slice none 0 0, .slice none 0 0] 49)) (some P) := ⟨hB3.os, hB3.tape, hB3.output, hB3.size, fun k hk _ => hB3.block k hk⟩
  have HN := num_any _ zs P 0 W0 _ R hbel hP hone
  have E1 : ∀ gx gn gk q, gN zs 0 = (gx, gn, gk) → (gk = true → q = gn) → rd1 zs 0 = if gk then some (gx, q) else none := fun gx gn gk q h1 h2 => by
    unfold rd1
    rw [h1]
    cases gk with
    | false => rfl
    | true => simp [h2 rfl]
  have E2 : ∀ a tx tn tk q, gT zs a = (tx, tn, tk) → (tk = true → q = tn) → rt zs a = if tk then some (tx, q) else none := fun a tx tn tk q h1 h2 => by
    unfold rt
    rw [h1]
    cases tk with
    | false => rfl
    | true => simp [h2 rfl]
  obtain ⟨gg, hgg⟩ : ∃ g, gN zs 0 = g := ⟨_, rfl⟩
  obtain ⟨gx, gn, gk⟩ := gg
  rw [hgg] at HN
  simp only at HN
  replace E1 := fun q => E1 gx gn gk q hgg
  clear hgg hB3
  go_enter Tryz.func48, Tryz.ntmps48
  go_wp2_with fail
  refine HN.mono ?_
  rintro e w1 ⟨rfl, ⟨q1, hone1, hq1⟩, g1⟩
  have A1 : Hid (rd1 zs 0 = if gk then some (gx, q1) else none) := E1 q1 hq1
  replace hr := (g1.block _ (blk_lt hr) (by simp; omega)).trans hr
  replace hk := (g1.block _ (blk_lt hk) (by simp; omega)).trans hk
  replace hy := (g1.block _ (blk_lt hy) (by simp; omega)).trans hy
  replace hG := grown_new hG g1 (fun k hk => Or.inl (by cases hk; rfl))
  replace hbel := hbel.grown g1 hbel.size (fun k hk => by cases hk; exact hP)
  clear g1
  clear HN E1 hq1 hone h1
  have c0 : w1.cell? ⟨w.heap.size, 0, none⟩ = some (.slice ao zs.length cap) := cell_of_row w1 _ 0 _ _ _ hr
  have c1' : w1.cell? ⟨w.heap.size, 0 + 1, none⟩ = some (.pointer (some ⟨P, 0, none⟩)) := cell_of_row w1 _ 1 _ _ _ hr
  have HT := text_any _ zs P q1 W0 w1 R hbel hP hone1
  have hts := gT_size zs q1
  obtain ⟨gg, hgg⟩ : ∃ g, gT zs q1 = g := ⟨_, rfl⟩
  obtain ⟨tx, tn, tk⟩ := gg
  rw [hgg] at HT hts
  simp only at HT hts
  replace E2 := fun q => E2 q1 tx tn tk q hgg
  clear hgg
  go_wp2_with fail
  refine HT.mono ?_
  rintro e w2 ⟨rfl, ⟨q2, hone2, hq2⟩, g2⟩
  have A2 : Hid (rt zs q1 = if tk then some (tx, q2) else none) := E2 q2 hq2
  clear c0 c1'
  replace hr := (g2.block _ (blk_lt hr) (by simp; omega)).trans hr
  replace hk := (g2.block _ (blk_lt hk) (by simp; omega)).trans hk
  replace hy := (g2.block _ (blk_lt hy) (by simp; omega)).trans hy
  replace hG := grown_new hG g2 (fun k hk => Or.inl (by cases hk; rfl))
  replace hbel := hbel.grown g2 hbel.size (fun k hk => by cases hk; exact hP)
  clear g2
  clear HT E2 hq2 hone1
  have c0 : w2.cell? ⟨w.heap.size, 0, none⟩ = some (.slice ao zs.length cap) := cell_of_row w2 _ 0 _ _ _ hr
  have c1' : w2.cell? ⟨w.heap.size, 0 + 1, none⟩ = some (.pointer (some ⟨P, 0, none⟩)) := cell_of_row w2 _ 1 _ _ _ hr
  go_wp2_with fail
  refine (rtexts2_any _ zs W0 w2 P q2 20 R hbel hP hone2 (by omega) hzl).mono ?_
  rintro e w3 ⟨vb, bs, bk, q3, rfl, hone3, O2, A3, g3⟩
  replace A3 : Hid (rdTB zs 20 q2 = if bk then some (bs, q3) else none) := A3
  replace O2 := own_mono (B' := w.heap.size + 3) O2 (by have := blk_lt hy; omega)
  have hlt2 : ∀ g, vb.ownBlock = some g → g < w3.heap.size := fun g hg => (O2.lt g hg).2
  clear c0 c1'
  replace hr := (g3.block _ (blk_lt hr) (by simp; omega)).trans hr
  replace hk := (g3.block _ (blk_lt hk) (by simp; omega)).trans hk
  replace hy := (g3.block _ (blk_lt hy) (by simp; omega)).trans hy
  replace hG := grown_new hG g3 (fun k hk => Or.inl (by cases hk; rfl))
  replace hbel := hbel.grown g3 hbel.size (fun k hk => by cases hk; exact hP)
  clear g3
  clear hone2
  have c0 : w3.cell? ⟨w.heap.size, 0, none⟩ = some (.slice ao zs.length cap) := cell_of_row w3 _ 0 _ _ _ hr
  have c1' : w3.cell? ⟨w.heap.size, 0 + 1, none⟩ = some (.pointer (some ⟨P, 0, none⟩)) := cell_of_row w3 _ 1 _ _ _ hr
  go_wp2_with fail
  refine (rtexts2_any _ zs W0 w3 P q3 40 R hbel hP hone3 (by omega) hzl).mono ?_
  rintro e w4 ⟨vo, os, ok, q4, rfl, hone4, O3, A4, g4⟩
  replace A4 : Hid (rdTB zs 40 q3 = if ok then some (os, q4) else none) := A4
  have hap : ∀ g, vo.ownBlock = some g → vb.ownBlock ≠ some g := fun g h3 h2 => by
    have k1 := (O3.lt g h3).1
    have k2 := hlt2 g h2
    omega
  replace O3 := own_mono (B' := w.heap.size + 3) O3 (by have := blk_lt hy; omega)
  clear c0 c1' hlt2
  replace hr := (g4.block _ (blk_lt hr) (by simp; omega)).trans hr
  replace hk := (g4.block _ (blk_lt hk) (by simp; omega)).trans hk
  replace hy := (g4.block _ (blk_lt hy) (by simp; omega)).trans hy
  replace O2 := own_pastP O2 (by omega) g4
  replace hG := grown_new hG g4 (fun k hk => Or.inl (by cases hk; rfl))
  replace hbel := hbel.grown g4 hbel.size (fun k hk => by cases hk; exact hP)
  clear g4
  clear hone3
  have HA : Hid (rdAll zs = if gk && (tk && (bk && (ok && decide (q4 = zs.length)))) then some (gx, tx, bs, os) else none) := by
    unfold Hid rdAll
    rw [A1.out]
    cases gk with
    | false => rfl
    | true =>
      simp only [if_true, Option.bind_some]
      rw [A2.out]
      cases tk with
      | false => rfl
      | true =>
        simp only [if_true, Option.bind_some]
        rw [A3.out]
        cases bk with
        | false => rfl
        | true =>
          simp only [if_true, Option.bind_some]
          rw [A4.out]
          cases ok with
          | false => rfl
          | true =>
            simp only [if_true, Option.bind_some, Bool.true_and, decide_eq_true_eq]
  have hq4 : ok = true → q4 ≤ zs.length := fun h => (rdTB_end (q := (os, q4)) (by rw [A4.out, h]; rfl)).1
  clear A1 A2 A3 A4
  have ly := blk_lt hy
  obtain ⟨ab, cb, rfl⟩ := own_form O2
  obtain ⟨ac, cc, rfl⟩ := own_form O3
  cases gk with
  | false =>
    replace HA : Hid (rdAll zs = none) := HA.out
    go_wp2_with (refine wpList_store_own2 rfl 49 _ _ rfl (w.heap.size + 2) #[.int .i64 0, .slice none 0 0, .int .i64 0, .int .i64 0, .int .i64 0, .int .i64 0, .int .i64 0, .int .i64 0, .int .i64 0, .slice none 0 0, .slice none 0 0] rfl rfl 49 #[.int .i64 0, .slice none 0 0, .int .i64 0, .int .i64 0, .int .i64 0, .int .i64 0, .int .i64 0, .int .i64 0, .int .i64 0, .slice none 0 0, .slice none 0 0] hy Tryz.sizeProc rfl (by simp [Value.oneCell']) ?_)
    intro wB hvB hbB hsB hkB
    have gB : w.grownBy wB (some P) := grown_st hG hbB hsB hkB (by omega)
    go_wp2
    exact bodyPost_ret (results_row_tmp rfl _ _ (w.heap.size + 2) 49 _ (0, 0) _ rfl hvB Tryz.underlying49 rfl Tryz.sizeProc) rfl ⟨PaAns.zero HA.out, gB⟩
  | true =>
    cases tk with
    | false =>
      replace HA : Hid (rdAll zs = none) := HA.out
      go_wp2_with (refine wpList_store_own2 rfl 49 _ _ rfl (w.heap.size + 2) #[.int .i64 0, .slice none 0 0, .int .i64 0, .int .i64 0, .int .i64 0, .int .i64 0, .int .i64 0, .int .i64 0, .int .i64 0, .slice none 0 0, .slice none 0 0] rfl rfl 49 #[.int .i64 0, .slice none 0 0, .int .i64 0, .int .i64 0, .int .i64 0, .int .i64 0, .int .i64 0, .int .i64 0, .int .i64 0, .slice none 0 0, .slice none 0 0] hy Tryz.sizeProc rfl (by simp [Value.oneCell']) ?_)
      intro wB hvB hbB hsB hkB
      have gB : w.grownBy wB (some P) := grown_st hG hbB hsB hkB (by omega)
      go_wp2
      exact bodyPost_ret (results_row_tmp rfl _ _ (w.heap.size + 2) 49 _ (0, 0) _ rfl hvB Tryz.underlying49 rfl Tryz.sizeProc) rfl ⟨PaAns.zero HA.out, gB⟩
    | true =>
      cases bk with
      | false =>
        replace HA : Hid (rdAll zs = none) := HA.out
        go_wp2_with (refine wpList_store_own2 rfl 49 _ _ rfl (w.heap.size + 2) #[.int .i64 0, .slice none 0 0, .int .i64 0, .int .i64 0, .int .i64 0, .int .i64 0, .int .i64 0, .int .i64 0, .int .i64 0, .slice none 0 0, .slice none 0 0] rfl rfl 49 #[.int .i64 0, .slice none 0 0, .int .i64 0, .int .i64 0, .int .i64 0, .int .i64 0, .int .i64 0, .int .i64 0, .int .i64 0, .slice none 0 0, .slice none 0 0] hy Tryz.sizeProc rfl (by simp [Value.oneCell']) ?_)
        intro wB hvB hbB hsB hkB
        have gB : w.grownBy wB (some P) := grown_st hG hbB hsB hkB (by omega)
        go_wp2
        exact bodyPost_ret (results_row_tmp rfl _ _ (w.heap.size + 2) 49 _ (0, 0) _ rfl hvB Tryz.underlying49 rfl Tryz.sizeProc) rfl ⟨PaAns.zero HA.out, gB⟩
      | true =>
        cases ok with
        | false =>
          replace HA : Hid (rdAll zs = none) := HA.out
          go_wp2_with (refine wpList_store_own2 rfl 49 _ _ rfl (w.heap.size + 2) #[.int .i64 0, .slice none 0 0, .int .i64 0, .int .i64 0, .int .i64 0, .int .i64 0, .int .i64 0, .int .i64 0, .int .i64 0, .slice none 0 0, .slice none 0 0] rfl rfl 49 #[.int .i64 0, .slice none 0 0, .int .i64 0, .int .i64 0, .int .i64 0, .int .i64 0, .int .i64 0, .int .i64 0, .int .i64 0, .slice none 0 0, .slice none 0 0] hy Tryz.sizeProc rfl (by simp [Value.oneCell']) ?_)
          intro wB hvB hbB hsB hkB
          have gB : w.grownBy wB (some P) := grown_st hG hbB hsB hkB (by omega)
          go_wp2
          exact bodyPost_ret (results_row_tmp rfl _ _ (w.heap.size + 2) 49 _ (0, 0) _ rfl hvB Tryz.underlying49 rfl Tryz.sizeProc) rfl ⟨PaAns.zero HA.out, gB⟩
        | true =>
          have hq := hq4 rfl
          have c0 : w4.cell? ⟨w.heap.size, 0, none⟩ = some (.slice ao zs.length cap) := cell_of_row w4 _ 0 _ _ _ hr
          have c1' : w4.cell? ⟨w.heap.size, 0 + 1, none⟩ = some (.pointer (some ⟨P, 0, none⟩)) := cell_of_row w4 _ 1 _ _ _ hr
          go_wp2_with fail
          refine (rend_any _ zs P q4 _ ⟨ao, cap, rfl⟩ hone4).mono ?_
          rintro e w5 ⟨re, rfl, hE, hb5⟩
          replace hk := blk_bel hk hb5
          replace hy := blk_bel hy hb5
          replace O2 := own_below O2 hb5
          replace O3 := own_below O3 hb5
          replace hbel := hbel.trans (hb5.mono hbel.size)
          replace hG := grown_new hG (grown_below2 hb5 none) (fun k hk => by cases hk)
          clear hb5 c0 c1' hone4 hr
          replace ly := blk_lt hy
          rcases hE with ⟨h4, p, rfl⟩ | ⟨h4, rfl⟩
          · replace HA : Hid (rdAll zs = none) := by
              unfold Hid
              rw [HA.out]
              have : decide (q4 = zs.length) = false := by simp; omega
              rw [this]
              rfl
            unfold badV
            go_wp2_with (refine wpList_store_own2 rfl 49 _ _ rfl (w.heap.size + 2) #[.int .i64 0, .slice none 0 0, .int .i64 0, .int .i64 0, .int .i64 0, .int .i64 0, .int .i64 0, .int .i64 0, .int .i64 0, .slice none 0 0, .slice none 0 0] rfl rfl 49 #[.int .i64 0, .slice none 0 0, .int .i64 0, .int .i64 0, .int .i64 0, .int .i64 0, .int .i64 0, .int .i64 0, .int .i64 0, .slice none 0 0, .slice none 0 0] hy Tryz.sizeProc rfl (by simp [Value.oneCell']) ?_)
            intro wB hvB hbB hsB hkB
            have gB : w.grownBy wB (some P) := grown_st hG hbB hsB hkB (by omega)
            go_wp2
            exact bodyPost_ret (results_row_tmp rfl _ _ (w.heap.size + 2) 49 _ (0, 0) _ rfl hvB Tryz.underlying49 rfl Tryz.sizeProc) rfl ⟨PaAns.zero HA.out, gB⟩
          · replace HA : Hid (rdAll zs = some (gx, tx, bs, os)) := by
              unfold Hid
              rw [HA.out]
              have : decide (q4 = zs.length) = true := by simp; omega
              rw [this]
              rfl
            have HI := imread_any _ _ _ ns is ds tx w5 (R1.below hbel) (R2.below hbel) (R3.below hbel) (by omega) (hg.below hbel (Nat.le_refl _))
            unfold MrAns at HI
            have HP : Hid (paT ns is ds (rdAll zs) = (gx, mrL (mrR ns is ds (sb tx)), mrM (mrR ns is ds (sb tx)), bs, os, (mrR ns is ds (sb tx)).isSome)) := by unfold Hid; rw [HA.out]; rfl
            generalize mrL (mrR ns is ds (sb tx)) = X at HI HP
            generalize mrM (mrR ns is ds (sb tx)) = M at HI HP
            generalize (mrR ns is ds (sb tx)).isSome = mk at HI HP
            go_wp2_with (refine wpList_load_row rfl 44 _ rfl (w.heap.size + 1) rfl 44 #[.slice a1 ns.length c1, .slice a2 is.length c2, .slice a3 ds.length c3] (0, 0) _ hk Tryz.underlying44 rfl Tryz.sizeCode ?_)
            refine HI.mono ?_
            rintro e w6 ⟨⟨v6, rfl, O1⟩, hb6⟩
            obtain ⟨a6, c6, rfl⟩ := own_form O1
            replace O1 := own_mono (B' := w.heap.size + 3) O1 (by omega)
            replace hy := blk_bel hy hb6
            replace O2 := own_below O2 hb6
            replace O3 := own_below O3 hb6
            replace hG := grown_new hG (grown_below2 hb6 none) (fun k hk => by cases hk)
            clear hb6 HI hk
            replace ly := blk_lt hy
            go_wp2_with (refine wpList_store_own2 rfl 47 _ _ rfl w6.heap.size #[.slice a6 X.length c6, .int .i64 M.p, .int .i64 M.s, .int .i64 M.e, .int .i64 M.d, .int .i64 M.t, .int .i64 M.q, .int .i64 M.r] rfl rfl 47 #[.slice none 0 0, .int .i64 0, .int .i64 0, .int .i64 0, .int .i64 0, .int .i64 0, .int .i64 0, .int .i64 0] (heap_alloc_new _ _) Tryz.sizeMach rfl (by simp [Value.oneCell']) ?_)
            intro w7 hm7 hb7 hs7 hk7
            have hb : Below w6.heap.size w6 w7 := ((Below.refl _ _).alloc (Nat.le_refl _) _).trans hb7
            replace hy := blk_bel hy hb
            replace O1 := own_below O1 hb
            replace O2 := own_below O2 hb
            replace O3 := own_below O3 hb
            replace hG := grown_new hG (grown_below2 hb none) (fun k hk => by cases hk)
            clear hb hb7 hs7 hk7
            generalize w6.heap.size = bm at *
            replace ly := blk_lt hy
            go_wp2_with (first
              | (refine wpList_load_row rfl 47 _ rfl bm rfl 47 #[.slice a6 X.length c6, .int .i64 M.p, .int .i64 M.s, .int .i64 M.e, .int .i64 M.d, .int .i64 M.t, .int .i64 M.q, .int .i64 M.r] (0, 0) _ hm7 Tryz.underlying47 rfl Tryz.sizeMach ?_)
              | (refine wpList_store_own2 rfl 49 _ _ rfl (w.heap.size + 2) #[.int .i64 gx, .slice a6 X.length c6, .int .i64 M.p, .int .i64 M.s, .int .i64 M.e, .int .i64 M.d, .int .i64 M.t, .int .i64 M.q, .int .i64 M.r, .slice ab bs.length cb, .slice ac os.length cc] rfl rfl 49 #[.int .i64 0, .slice none 0 0, .int .i64 0, .int .i64 0, .int .i64 0, .int .i64 0, .int .i64 0, .int .i64 0, .int .i64 0, .slice none 0 0, .slice none 0 0] hy Tryz.sizeProc rfl (by simp [Value.oneCell']) ?_))
            intro wB hvB hbB hsB hkB
            have gB : w.grownBy wB (some P) := grown_st hG hbB hsB hkB (by omega)
            replace O1 := own_mono (B' := w.heap.size) (own_keep O1 (by omega) hkB) (by omega)
            replace O2 := own_mono (B' := w.heap.size) (own_keep O2 (by omega) hkB) (by omega)
            replace O3 := own_mono (B' := w.heap.size) (own_keep O3 (by omega) hkB) (by omega)
            go_wp2
            exact bodyPost_ret (results_row_tmp rfl _ _ (w.heap.size + 2) 49 _ (0, 0) _ rfl hvB Tryz.underlying49 rfl Tryz.sizeProc) rfl ⟨⟨gx, X, M, bs, os, mk, _, _, _, HP.out, rfl, O1, O2, O3, hap⟩, gB⟩
end Go.Proofs.YtjnhocefnfmhmaaGreatDoor

/-
  The contract of impl.ProcRead. The variable errors.errorType reads as it is laid.
-/
namespace Go.Proofs.YtjnhocefnfmhmaaGreatDoor
open Go.RowKit

set_option maxRecDepth 100000 in
set_option maxHeartbeats 6400000 in
theorem iprd_r1 {t0 t3 t4 t5 t6 t7 t8 t9 t10 t11 t12 t13 t14 t15 t16 t17 t18 t19 t20 t21 t22 t23 t24 : Value} {fs : List Deferred} (bc : Nat) (v1 v2 v3 : Value) (s : ByteArray) (T : Int × List Nd × Mc × List ByteArray × List ByteArray × Bool) (w : World) (Q : Exit → Act → World → Prop)
    (hk : w.heap[bc]? = some (.cells #[v1, v2, v3] 44 (0, 0))) (hs : s.size ≤ 140737488351232)
    (HC : ∀ (vr : Value) (W0 : World) (P : Nat) (W : World), Row W0 vr (sb s) → Below w.heap.size w W0 → Below W0.heap.size W0 W → W0.heap.size ≤ P → One W P 0 → Calls Tryz.prog 48 #[.agg #[vr, .pointer (some ⟨P, 0, none⟩)], .agg #[v1, v2, v3]] W fun e w' => PaAns W.heap.size T e w' ∧ W.grownBy w' (some P))
    (hQ : ∀ u9 u10 u11 u12 u8 u13 u14 (b : Nat) (I : Int) (NX : List Nd) (M : Mc) (BX OX : List ByteArray) (ok : Bool) (m1 m2 m3 : Option Addr) (e1 e2 e3 : Nat) (W : World), w.heap.size ≤ b → Below w.heap.size w W → W.heap[b]? = some (.cells #[.int .i64 I, .slice m1 NX.length e1, .int .i64 M.p, .int .i64 M.s, .int .i64 M.e, .int .i64 M.d, .int .i64 M.t, .int .i64 M.q, .int .i64 M.r, .slice m2 BX.length e2, .slice m3 OX.length e3] 49 (0, 0)) → T = (I, NX, M, BX, OX, ok) → W.ownsRow w.heap.size 153 5 (.slice m1 NX.length e1) NX.length (ncs NX) → W.ownsRow w.heap.size 9 1 (.slice m2 BX.length e2) BX.length (stv BX) → W.ownsRow w.heap.size 9 1 (.slice m3 OX.length e3) OX.length (stv OX) → (∀ g, (Value.slice m3 OX.length e3).ownBlock = some g → (Value.slice m2 BX.length e2).ownBlock ≠ some g) → Q .normal ⟨#[t0, .string s, .pointer (some ⟨bc, 0, none⟩), t3, t4, t5, .pointer (some ⟨b, 0, none⟩), .bool ok, u8, u9, u10, u11, u12, u13, u14, t15, t16, t17, t18, t19, t20, t21, t22, t23, t24], fs⟩ W) :
    (Code.region 1 (List.toArray (({ dst := some 9, op := Op.move (Operand.tmp 1), type := 9, pos := "l12_proc.go:92", after := #[], guard := none } : Oper) :: ({ dst := some 10, op := Op.call { callee := Callee.value (Operand.func 47), args := #[Operand.tmp 9], argTypes := #[9] }, type := 91, pos := "l12_proc.go:92", after := #[{ on := 0, ground := Ground.data }], guard := none } : Oper) :: ({ dst := some 11, op := Op.load 44 (Operand.tmp 2), type := 44, pos := "l12_proc.go:92", after := #[], guard := none } : Oper) :: ({ dst := some 12, op := Op.call { callee := Callee.value (Operand.func 48), args := #[Operand.tmp 10, Operand.tmp 11], argTypes := #[91, 44] }, type := 54, pos := "l12_proc.go:92", after := #[{ on := 1, ground := Ground.data }, { on := 2, ground := Ground.data }, { on := 1, ground := Ground.chain }], guard := none } : Oper) :: ({ dst := some 8, op := Op.move (Operand.tmp 12), type := 54, pos := "l12_proc.go:92", after := #[{ on := 3, ground := Ground.data }], guard := none } : Oper) :: ({ dst := some 13, op := Op.extract (Operand.tmp 8) 0, type := 49, pos := "l12_proc.go:92", after := #[{ on := 4, ground := Ground.data }], guard := none } : Oper) :: ({ dst := some 14, op := Op.extract (Operand.tmp 8) 1, type := 4, pos := "l12_proc.go:92", after := #[{ on := 4, ground := Ground.data }, { on := 8, ground := Ground.gcOnly Departure.lateStores }], guard := none } : Oper) :: ({ dst := some 6, op := Op.alloc 49, type := 0, pos := "l12_proc.go:92", after := #[], guard := none } : Oper) :: ({ dst := none, op := Op.store 49 (Operand.tmp 6) (Operand.tmp 13), type := 0, pos := "l12_proc.go:92", after := #[{ on := 7, ground := Ground.data }, { on := 5, ground := Ground.data }, { on := 3, ground := Ground.chain }, { on := 0, ground := Ground.phase }, { on := 1, ground := Ground.phase }, { on := 2, ground := Ground.phase }, { on := 3, ground := Ground.phase }, { on := 4, ground := Ground.phase }, { on := 5, ground := Ground.phase }, { on := 6, ground := Ground.textOnly Departure.lateStores }, { on := 7, ground := Ground.phase }], guard := none } : Oper) :: ({ dst := some 7, op := Op.assign (Operand.tmp 14), type := 4, pos := "l12_proc.go:92", after := #[{ on := 6, ground := Ground.data }, { on := 8, ground := Ground.chain }, { on := 0, ground := Ground.phase }, { on := 1, ground := Ground.phase }, { on := 2, ground := Ground.phase }, { on := 3, ground := Ground.phase }, { on := 4, ground := Ground.phase }, { on := 5, ground := Ground.phase }, { on := 6, ground := Ground.phase }, { on := 7, ground := Ground.phase }, { on := 8, ground := Ground.phase }], guard := none } : Oper) :: [])) true).wp Tryz.prog Q ⟨#[t0, .string s, .pointer (some ⟨bc, 0, none⟩), t3, t4, t5, t6, t7, t8, t9, t10, t11, t12, t13, t14, t15, t16, t17, t18, t19, t20, t21, t22, t23, t24], fs⟩ w := by
  unfold PaAns at HC
  have hS : ∀ w', Below w.heap.size w w' → (w'.heap[bc]? = some (.cells #[v1, v2, v3] 44 (0, 0))) := fun w' hb => blk_bel hk hb
  have B : Below w.heap.size w w.drew := drew_bel w
  refine wp_region_noPanic ?_
  refine wp_region_held_drew (S := fun w' => w'.heap[bc]? = some (.cells #[v1, v2, v3] 44 (0, 0))) (by kernel_rfl) (hS _ B) (fun hHeld => ?_)
  refine wpAnyH_take (i := 0) (oi := ({ dst := some 9, op := Op.move (Operand.tmp 1), type := 9, pos := "l12_proc.go:92", after := #[], guard := none } : Oper)) (v := .string s) rfl (by kernel_rfl) (by kernel_rfl) (by kernel_rfl) (fun _ _ _ h => h) (Or.inl ⟨by rfl, by intro w hSw; go_simp⟩) (by assumption) ?_
  simp only [Act.put, List.setIfInBounds_toArray, List.set_cons_zero, List.set_cons_succ]
  refine wpAnyH_take (i := 2) (oi := ({ dst := some 11, op := Op.load 44 (Operand.tmp 2), type := 44, pos := "l12_proc.go:92", after := #[], guard := none } : Oper)) (v := .agg #[v1, v2, v3]) rfl (by kernel_rfl) (by kernel_rfl) (by kernel_rfl) (fun _ _ _ h => h) (yields_row (by rfl) 44 _ rfl bc rfl #[v1, v2, v3] 44 _ (fun _ h => h) Tryz.underlying44 rfl Tryz.sizeCode) (by assumption) ?_
  simp only [Act.put, List.setIfInBounds_toArray, List.set_cons_zero, List.set_cons_succ]
  refine wpAnyH_ready (rs := [1, 7]) (by kernel_rfl) (by simp) ?_
  refine AllReadyH.cons rfl (fun K hK => ?_) (AllReadyH.cons rfl (fun K hK => ?_) AllReadyH.nil)
  · go_simp
    go_wp2_with (go_at_call 47; with_reducible refine (readerof_any s _ hs).mono ?_; rintro e wR ⟨vr, W0, P, rfl, RR, hbW, hbR, hPW, hone⟩)
    have BW := B.trans (hbW.mono B.size)
    replace B := BW.trans (hbR.mono BW.size)
    clear hbW
    refine hK.out _ _ (hS _ B) (fun hHeld => ?_)
    clear hK
    refine wpAnyH_ready (rs := [3, 7]) (by kernel_rfl) (by simp) ?_
    refine AllReadyH.cons rfl (fun K hK => ?_) (AllReadyH.cons rfl (fun K hK => ?_) AllReadyH.nil)
    · go_simp
      go_wp2_with (go_at_call 48; with_reducible refine (HC vr W0 P _ RR BW hbR hPW hone).mono ?_; rintro e wQ ⟨⟨I, NX, M, BX, OX, ok, y1, y2, y3, eT, rfl, O1, O2, O3, AP⟩, hg3⟩)
      obtain ⟨m1, e1, rfl⟩ := own_form O1
      obtain ⟨m2, e2, rfl⟩ := own_form O2
      obtain ⟨m3, e3, rfl⟩ := own_form O3
      replace O1 := own_mono (B' := w.heap.size) O1 B.size
      replace O2 := own_mono (B' := w.heap.size) O2 B.size
      replace O3 := own_mono (B' := w.heap.size) O3 B.size
      replace B := B.grown hg3 B.size (fun k hk => by cases hk; exact Nat.le_trans BW.size hPW)
      clear hg3
      refine hK.out _ _ (hS _ B) (fun hHeld => ?_)
      clear hK
      refine wpAnyH_take (i := 4) (oi := ({ dst := some 8, op := Op.move (Operand.tmp 12), type := 54, pos := "l12_proc.go:92", after := #[{ on := 3, ground := Ground.data }], guard := none } : Oper)) (v := .tuple #[.agg #[.int .i64 I, .slice m1 NX.length e1, .int .i64 M.p, .int .i64 M.s, .int .i64 M.e, .int .i64 M.d, .int .i64 M.t, .int .i64 M.q, .int .i64 M.r, .slice m2 BX.length e2, .slice m3 OX.length e3], .bool ok]) rfl (by kernel_rfl) (by kernel_rfl) (by kernel_rfl) (fun _ _ _ h => h) (Or.inl ⟨by rfl, by intro w hSw; go_simp⟩) (by assumption) ?_
      simp only [Act.put, List.setIfInBounds_toArray, List.set_cons_zero, List.set_cons_succ]
      refine wpAnyH_take (i := 5) (oi := ({ dst := some 13, op := Op.extract (Operand.tmp 8) 0, type := 49, pos := "l12_proc.go:92", after := #[{ on := 4, ground := Ground.data }], guard := none } : Oper)) (v := .agg #[.int .i64 I, .slice m1 NX.length e1, .int .i64 M.p, .int .i64 M.s, .int .i64 M.e, .int .i64 M.d, .int .i64 M.t, .int .i64 M.q, .int .i64 M.r, .slice m2 BX.length e2, .slice m3 OX.length e3]) rfl (by kernel_rfl) (by kernel_rfl) (by kernel_rfl) (fun _ _ _ h => h) (Or.inl ⟨by rfl, by intro w hSw; go_simp⟩) (by assumption) ?_
      simp only [Act.put, List.setIfInBounds_toArray, List.set_cons_zero, List.set_cons_succ]
      refine wpAnyH_take (i := 6) (oi := ({ dst := some 14, op := Op.extract (Operand.tmp 8) 1, type := 4, pos := "l12_proc.go:92", after := #[{ on := 4, ground := Ground.data }, { on := 8, ground := Ground.gcOnly Departure.lateStores }], guard := none } : Oper)) (v := .bool ok) rfl (by kernel_rfl) (by kernel_rfl) (by kernel_rfl) (fun _ _ _ h => h) (Or.inl ⟨by rfl, by intro w hSw; go_simp⟩) (by assumption) ?_
      simp only [Act.put, List.setIfInBounds_toArray, List.set_cons_zero, List.set_cons_succ]
      refine wpAnyH_ready (rs := [7]) (by kernel_rfl) (by simp) ?_
      refine AllReadyH.cons rfl (fun K hK => ?_) AllReadyH.nil
      go_simp
      go_wp2_with fail
      have hb := alloc_bel wQ (Obj.cells #[.int .i64 0, .slice none 0 0, .int .i64 0, .int .i64 0, .int .i64 0, .int .i64 0, .int .i64 0, .int .i64 0, .int .i64 0, .slice none 0 0, .slice none 0 0] 49)
      have XB : w.heap.size ≤ wQ.heap.size := B.size
      have X : (wQ.alloc (Obj.cells #[.int .i64 0, .slice none 0 0, .int .i64 0, .int .i64 0, .int .i64 0, .int .i64 0, .int .i64 0, .int .i64 0, .int .i64 0, .slice none 0 0, .slice none 0 0] 49)).heap[wQ.heap.size]? = some (Obj.cells #[.int .i64 0, .slice none 0 0, .int .i64 0, .int .i64 0, .int .i64 0, .int .i64 0, .int .i64 0, .int .i64 0, .int .i64 0, .slice none 0 0, .slice none 0 0] 49) := heap_alloc_new _ _
      generalize wQ.alloc (Obj.cells #[.int .i64 0, .slice none 0 0, .int .i64 0, .int .i64 0, .int .i64 0, .int .i64 0, .int .i64 0, .int .i64 0, .int .i64 0, .slice none 0 0, .slice none 0 0] 49) = wL at hb X ⊢
      replace O1 := own_below O1 hb
      replace O2 := own_below O2 hb
      replace O3 := own_below O3 hb
      replace B := B.trans (hb.mono B.size)
      refine hK.out _ _ (hS _ B) (fun hHeld => ?_)
      clear hK
      refine wpAnyH_ready (rs := [8]) (by kernel_rfl) (by simp) ?_
      refine AllReadyH.cons rfl (fun K hK => ?_) AllReadyH.nil
      rw [if_pos (by rfl)]
      have n1 := own_ne O1 X (by decide)
      have n2 := own_ne O2 X (by decide)
      have n3 := own_ne O3 X (by decide)
      refine wp_store_row 49 _ _ rfl (wQ.heap.size) #[.int .i64 I, .slice m1 NX.length e1, .int .i64 M.p, .int .i64 M.s, .int .i64 M.e, .int .i64 M.d, .int .i64 M.t, .int .i64 M.q, .int .i64 M.r, .slice m2 BX.length e2, .slice m3 OX.length e3] rfl rfl 49 #[.int .i64 0, .slice none 0 0, .int .i64 0, .int .i64 0, .int .i64 0, .int .i64 0, .int .i64 0, .int .i64 0, .int .i64 0, .slice none 0 0, .slice none 0 0] X Tryz.sizeProc rfl (by simp [Value.oneCell']) ?_
      replace B := below_setRow B (g := wQ.heap.size) XB #[.int .i64 I, .slice m1 NX.length e1, .int .i64 M.p, .int .i64 M.s, .int .i64 M.e, .int .i64 M.d, .int .i64 M.t, .int .i64 M.q, .int .i64 M.r, .slice m2 BX.length e2, .slice m3 OX.length e3]
      replace O1 := own_other O1 n1 (fun j hj => setRow_other _ _ j #[.int .i64 I, .slice m1 NX.length e1, .int .i64 M.p, .int .i64 M.s, .int .i64 M.e, .int .i64 M.d, .int .i64 M.t, .int .i64 M.q, .int .i64 M.r, .slice m2 BX.length e2, .slice m3 OX.length e3] hj)
      replace O2 := own_other O2 n2 (fun j hj => setRow_other _ _ j #[.int .i64 I, .slice m1 NX.length e1, .int .i64 M.p, .int .i64 M.s, .int .i64 M.e, .int .i64 M.d, .int .i64 M.t, .int .i64 M.q, .int .i64 M.r, .slice m2 BX.length e2, .slice m3 OX.length e3] hj)
      replace O3 := own_other O3 n3 (fun j hj => setRow_other _ _ j #[.int .i64 I, .slice m1 NX.length e1, .int .i64 M.p, .int .i64 M.s, .int .i64 M.e, .int .i64 M.d, .int .i64 M.t, .int .i64 M.q, .int .i64 M.r, .slice m2 BX.length e2, .slice m3 OX.length e3] hj)
      replace X := setRow_heap _ _ _ #[.int .i64 I, .slice m1 NX.length e1, .int .i64 M.p, .int .i64 M.s, .int .i64 M.e, .int .i64 M.d, .int .i64 M.t, .int .i64 M.q, .int .i64 M.r, .slice m2 BX.length e2, .slice m3 OX.length e3] _ _ X
      refine hK.out _ _ (hS _ B) (fun hHeld => ?_)
      clear hK
      simp only [Act.put]
      refine wpAnyH_take (i := 9) (oi := ({ dst := some 7, op := Op.assign (Operand.tmp 14), type := 4, pos := "l12_proc.go:92", after := #[{ on := 6, ground := Ground.data }, { on := 8, ground := Ground.chain }, { on := 0, ground := Ground.phase }, { on := 1, ground := Ground.phase }, { on := 2, ground := Ground.phase }, { on := 3, ground := Ground.phase }, { on := 4, ground := Ground.phase }, { on := 5, ground := Ground.phase }, { on := 6, ground := Ground.phase }, { on := 7, ground := Ground.phase }, { on := 8, ground := Ground.phase }], guard := none } : Oper)) (v := .bool ok) rfl (by kernel_rfl) (by kernel_rfl) (by kernel_rfl) (fun _ _ _ h => h) (Or.inl ⟨by rfl, by intro w hSw; go_simp⟩) (by assumption) ?_
      simp only [Act.put]
      refine wpAnyH_done (by kernel_rfl) ?_ _
      exact NoPanic.normal (hQ _ _ _ _ _ _ _ (wQ.heap.size) I NX M BX OX ok m1 m2 m3 e1 e2 e3 _ XB B X eT O1 O2 O3 AP)
    · have hbR0 := hbR
      have hone0 := hone
      go_simp
      go_wp2_with fail
      have hb := alloc_bel wR (Obj.cells #[.int .i64 0, .slice none 0 0, .int .i64 0, .int .i64 0, .int .i64 0, .int .i64 0, .int .i64 0, .int .i64 0, .int .i64 0, .slice none 0 0, .slice none 0 0] 49)
      have XB : w.heap.size ≤ wR.heap.size := B.size
      have X : (wR.alloc (Obj.cells #[.int .i64 0, .slice none 0 0, .int .i64 0, .int .i64 0, .int .i64 0, .int .i64 0, .int .i64 0, .int .i64 0, .int .i64 0, .slice none 0 0, .slice none 0 0] 49)).heap[wR.heap.size]? = some (Obj.cells #[.int .i64 0, .slice none 0 0, .int .i64 0, .int .i64 0, .int .i64 0, .int .i64 0, .int .i64 0, .int .i64 0, .int .i64 0, .slice none 0 0, .slice none 0 0] 49) := heap_alloc_new _ _
      replace hone := hone.below hb hone.lt
      replace hbR := hbR.trans (hb.mono hbR.size)
      generalize wR.alloc (Obj.cells #[.int .i64 0, .slice none 0 0, .int .i64 0, .int .i64 0, .int .i64 0, .int .i64 0, .int .i64 0, .int .i64 0, .int .i64 0, .slice none 0 0, .slice none 0 0] 49) = wL at hb X hone hbR ⊢
      replace B := B.trans (hb.mono B.size)
      refine hK.out _ _ (hS _ B) (fun hHeld => ?_)
      clear hK
      refine wpAnyH_ready (rs := [3]) (by kernel_rfl) (by simp) ?_
      refine AllReadyH.cons rfl (fun K hK => ?_) AllReadyH.nil
      go_simp
      go_wp2_with (go_at_call 48; with_reducible refine (HC vr W0 P _ RR BW hbR hPW hone).mono ?_; rintro e wQ ⟨⟨I, NX, M, BX, OX, ok, y1, y2, y3, eT, rfl, O1, O2, O3, AP⟩, hg3⟩)
      obtain ⟨m1, e1, rfl⟩ := own_form O1
      obtain ⟨m2, e2, rfl⟩ := own_form O2
      obtain ⟨m3, e3, rfl⟩ := own_form O3
      replace O1 := own_mono (B' := w.heap.size) O1 B.size
      replace O2 := own_mono (B' := w.heap.size) O2 B.size
      replace O3 := own_mono (B' := w.heap.size) O3 B.size
      replace X := (hg3.block _ (blk_lt X) (by simp; have := hone0.lt; omega)).trans X
      replace B := B.grown hg3 B.size (fun k hk => by cases hk; exact Nat.le_trans BW.size hPW)
      clear hg3
      refine hK.out _ _ (hS _ B) (fun hHeld => ?_)
      clear hK
      refine wpAnyH_take (i := 4) (oi := ({ dst := some 8, op := Op.move (Operand.tmp 12), type := 54, pos := "l12_proc.go:92", after := #[{ on := 3, ground := Ground.data }], guard := none } : Oper)) (v := .tuple #[.agg #[.int .i64 I, .slice m1 NX.length e1, .int .i64 M.p, .int .i64 M.s, .int .i64 M.e, .int .i64 M.d, .int .i64 M.t, .int .i64 M.q, .int .i64 M.r, .slice m2 BX.length e2, .slice m3 OX.length e3], .bool ok]) rfl (by kernel_rfl) (by kernel_rfl) (by kernel_rfl) (fun _ _ _ h => h) (Or.inl ⟨by rfl, by intro w hSw; go_simp⟩) (by assumption) ?_
      simp only [Act.put, List.setIfInBounds_toArray, List.set_cons_zero, List.set_cons_succ]
      refine wpAnyH_take (i := 5) (oi := ({ dst := some 13, op := Op.extract (Operand.tmp 8) 0, type := 49, pos := "l12_proc.go:92", after := #[{ on := 4, ground := Ground.data }], guard := none } : Oper)) (v := .agg #[.int .i64 I, .slice m1 NX.length e1, .int .i64 M.p, .int .i64 M.s, .int .i64 M.e, .int .i64 M.d, .int .i64 M.t, .int .i64 M.q, .int .i64 M.r, .slice m2 BX.length e2, .slice m3 OX.length e3]) rfl (by kernel_rfl) (by kernel_rfl) (by kernel_rfl) (fun _ _ _ h => h) (Or.inl ⟨by rfl, by intro w hSw; go_simp⟩) (by assumption) ?_
      simp only [Act.put, List.setIfInBounds_toArray, List.set_cons_zero, List.set_cons_succ]
      refine wpAnyH_take (i := 6) (oi := ({ dst := some 14, op := Op.extract (Operand.tmp 8) 1, type := 4, pos := "l12_proc.go:92", after := #[{ on := 4, ground := Ground.data }, { on := 8, ground := Ground.gcOnly Departure.lateStores }], guard := none } : Oper)) (v := .bool ok) rfl (by kernel_rfl) (by kernel_rfl) (by kernel_rfl) (fun _ _ _ h => h) (Or.inl ⟨by rfl, by intro w hSw; go_simp⟩) (by assumption) ?_
      simp only [Act.put, List.setIfInBounds_toArray, List.set_cons_zero, List.set_cons_succ]
      refine wpAnyH_ready (rs := [8]) (by kernel_rfl) (by simp) ?_
      refine AllReadyH.cons rfl (fun K hK => ?_) AllReadyH.nil
      rw [if_pos (by rfl)]
      have n1 := own_ne O1 X (by decide)
      have n2 := own_ne O2 X (by decide)
      have n3 := own_ne O3 X (by decide)
      refine wp_store_row 49 _ _ rfl (wR.heap.size) #[.int .i64 I, .slice m1 NX.length e1, .int .i64 M.p, .int .i64 M.s, .int .i64 M.e, .int .i64 M.d, .int .i64 M.t, .int .i64 M.q, .int .i64 M.r, .slice m2 BX.length e2, .slice m3 OX.length e3] rfl rfl 49 #[.int .i64 0, .slice none 0 0, .int .i64 0, .int .i64 0, .int .i64 0, .int .i64 0, .int .i64 0, .int .i64 0, .int .i64 0, .slice none 0 0, .slice none 0 0] X Tryz.sizeProc rfl (by simp [Value.oneCell']) ?_
      replace B := below_setRow B (g := wR.heap.size) XB #[.int .i64 I, .slice m1 NX.length e1, .int .i64 M.p, .int .i64 M.s, .int .i64 M.e, .int .i64 M.d, .int .i64 M.t, .int .i64 M.q, .int .i64 M.r, .slice m2 BX.length e2, .slice m3 OX.length e3]
      replace O1 := own_other O1 n1 (fun j hj => setRow_other _ _ j #[.int .i64 I, .slice m1 NX.length e1, .int .i64 M.p, .int .i64 M.s, .int .i64 M.e, .int .i64 M.d, .int .i64 M.t, .int .i64 M.q, .int .i64 M.r, .slice m2 BX.length e2, .slice m3 OX.length e3] hj)
      replace O2 := own_other O2 n2 (fun j hj => setRow_other _ _ j #[.int .i64 I, .slice m1 NX.length e1, .int .i64 M.p, .int .i64 M.s, .int .i64 M.e, .int .i64 M.d, .int .i64 M.t, .int .i64 M.q, .int .i64 M.r, .slice m2 BX.length e2, .slice m3 OX.length e3] hj)
      replace O3 := own_other O3 n3 (fun j hj => setRow_other _ _ j #[.int .i64 I, .slice m1 NX.length e1, .int .i64 M.p, .int .i64 M.s, .int .i64 M.e, .int .i64 M.d, .int .i64 M.t, .int .i64 M.q, .int .i64 M.r, .slice m2 BX.length e2, .slice m3 OX.length e3] hj)
      replace X := setRow_heap _ _ _ #[.int .i64 I, .slice m1 NX.length e1, .int .i64 M.p, .int .i64 M.s, .int .i64 M.e, .int .i64 M.d, .int .i64 M.t, .int .i64 M.q, .int .i64 M.r, .slice m2 BX.length e2, .slice m3 OX.length e3] _ _ X
      refine hK.out _ _ (hS _ B) (fun hHeld => ?_)
      clear hK
      simp only [Act.put]
      refine wpAnyH_take (i := 9) (oi := ({ dst := some 7, op := Op.assign (Operand.tmp 14), type := 4, pos := "l12_proc.go:92", after := #[{ on := 6, ground := Ground.data }, { on := 8, ground := Ground.chain }, { on := 0, ground := Ground.phase }, { on := 1, ground := Ground.phase }, { on := 2, ground := Ground.phase }, { on := 3, ground := Ground.phase }, { on := 4, ground := Ground.phase }, { on := 5, ground := Ground.phase }, { on := 6, ground := Ground.phase }, { on := 7, ground := Ground.phase }, { on := 8, ground := Ground.phase }], guard := none } : Oper)) (v := .bool ok) rfl (by kernel_rfl) (by kernel_rfl) (by kernel_rfl) (fun _ _ _ h => h) (Or.inl ⟨by rfl, by intro w hSw; go_simp⟩) (by assumption) ?_
      simp only [Act.put]
      refine wpAnyH_done (by kernel_rfl) ?_ _
      exact NoPanic.normal (hQ _ _ _ _ _ _ _ (wR.heap.size) I NX M BX OX ok m1 m2 m3 e1 e2 e3 _ XB B X eT O1 O2 O3 AP)
  · go_simp
    go_wp2_with fail
    have XB : w.heap.size ≤ w.heap.size := Nat.le_refl _
    have hb : Below w.heap.size w (w.alloc (Obj.cells #[.int .i64 0, .slice none 0 0, .int .i64 0, .int .i64 0, .int .i64 0, .int .i64 0, .int .i64 0, .int .i64 0, .int .i64 0, .slice none 0 0, .slice none 0 0] 49)).drew := ((Below.refl _ _).alloc (Nat.le_refl _) _).drew
    have X : (w.alloc (Obj.cells #[.int .i64 0, .slice none 0 0, .int .i64 0, .int .i64 0, .int .i64 0, .int .i64 0, .int .i64 0, .int .i64 0, .int .i64 0, .slice none 0 0, .slice none 0 0] 49)).drew.heap[w.heap.size]? = some (Obj.cells #[.int .i64 0, .slice none 0 0, .int .i64 0, .int .i64 0, .int .i64 0, .int .i64 0, .int .i64 0, .int .i64 0, .int .i64 0, .slice none 0 0, .slice none 0 0] 49) := heap_alloc_new w _
    generalize (w.alloc (Obj.cells #[.int .i64 0, .slice none 0 0, .int .i64 0, .int .i64 0, .int .i64 0, .int .i64 0, .int .i64 0, .int .i64 0, .int .i64 0, .slice none 0 0, .slice none 0 0] 49)).drew = wL at hb X ⊢
    replace B := hb
    clear hb
    refine hK.out _ _ (hS _ B) (fun hHeld => ?_)
    clear hK
    have hXl := blk_lt X
    refine wpAnyH_ready (rs := [1]) (by kernel_rfl) (by simp) ?_
    refine AllReadyH.cons rfl (fun K hK => ?_) AllReadyH.nil
    go_simp
    go_wp2_with (go_at_call 47; with_reducible refine (readerof_any s _ hs).mono ?_; rintro e wR ⟨vr, W0, P, rfl, RR, hbW, hbR, hPW, hone⟩)
    have BW := B.trans (hbW.mono B.size)
    replace B := BW.trans (hbR.mono BW.size)
    replace X := blk_bel X (hbW.trans (hbR.mono hbW.size))
    have XP : w.heap.size < W0.heap.size := Nat.lt_of_lt_of_le hXl hbW.size
    clear hbW
    refine hK.out _ _ (hS _ B) (fun hHeld => ?_)
    clear hK
    refine wpAnyH_ready (rs := [3]) (by kernel_rfl) (by simp) ?_
    refine AllReadyH.cons rfl (fun K hK => ?_) AllReadyH.nil
    go_simp
    go_wp2_with (go_at_call 48; with_reducible refine (HC vr W0 P _ RR BW hbR hPW hone).mono ?_; rintro e wQ ⟨⟨I, NX, M, BX, OX, ok, y1, y2, y3, eT, rfl, O1, O2, O3, AP⟩, hg3⟩)
    obtain ⟨m1, e1, rfl⟩ := own_form O1
    obtain ⟨m2, e2, rfl⟩ := own_form O2
    obtain ⟨m3, e3, rfl⟩ := own_form O3
    replace O1 := own_mono (B' := w.heap.size) O1 B.size
    replace O2 := own_mono (B' := w.heap.size) O2 B.size
    replace O3 := own_mono (B' := w.heap.size) O3 B.size
    replace X := (hg3.block _ (blk_lt X) (by simp; omega)).trans X
    replace B := B.grown hg3 B.size (fun k hk => by cases hk; exact Nat.le_trans BW.size hPW)
    clear hg3
    refine hK.out _ _ (hS _ B) (fun hHeld => ?_)
    clear hK
    refine wpAnyH_take (i := 4) (oi := ({ dst := some 8, op := Op.move (Operand.tmp 12), type := 54, pos := "l12_proc.go:92", after := #[{ on := 3, ground := Ground.data }], guard := none } : Oper)) (v := .tuple #[.agg #[.int .i64 I, .slice m1 NX.length e1, .int .i64 M.p, .int .i64 M.s, .int .i64 M.e, .int .i64 M.d, .int .i64 M.t, .int .i64 M.q, .int .i64 M.r, .slice m2 BX.length e2, .slice m3 OX.length e3], .bool ok]) rfl (by kernel_rfl) (by kernel_rfl) (by kernel_rfl) (fun _ _ _ h => h) (Or.inl ⟨by rfl, by intro w hSw; go_simp⟩) (by assumption) ?_
    simp only [Act.put, List.setIfInBounds_toArray, List.set_cons_zero, List.set_cons_succ]
    refine wpAnyH_take (i := 5) (oi := ({ dst := some 13, op := Op.extract (Operand.tmp 8) 0, type := 49, pos := "l12_proc.go:92", after := #[{ on := 4, ground := Ground.data }], guard := none } : Oper)) (v := .agg #[.int .i64 I, .slice m1 NX.length e1, .int .i64 M.p, .int .i64 M.s, .int .i64 M.e, .int .i64 M.d, .int .i64 M.t, .int .i64 M.q, .int .i64 M.r, .slice m2 BX.length e2, .slice m3 OX.length e3]) rfl (by kernel_rfl) (by kernel_rfl) (by kernel_rfl) (fun _ _ _ h => h) (Or.inl ⟨by rfl, by intro w hSw; go_simp⟩) (by assumption) ?_
    simp only [Act.put, List.setIfInBounds_toArray, List.set_cons_zero, List.set_cons_succ]
    refine wpAnyH_take (i := 6) (oi := ({ dst := some 14, op := Op.extract (Operand.tmp 8) 1, type := 4, pos := "l12_proc.go:92", after := #[{ on := 4, ground := Ground.data }, { on := 8, ground := Ground.gcOnly Departure.lateStores }], guard := none } : Oper)) (v := .bool ok) rfl (by kernel_rfl) (by kernel_rfl) (by kernel_rfl) (fun _ _ _ h => h) (Or.inl ⟨by rfl, by intro w hSw; go_simp⟩) (by assumption) ?_
    simp only [Act.put, List.setIfInBounds_toArray, List.set_cons_zero, List.set_cons_succ]
    refine wpAnyH_ready (rs := [8]) (by kernel_rfl) (by simp) ?_
    refine AllReadyH.cons rfl (fun K hK => ?_) AllReadyH.nil
    rw [if_pos (by rfl)]
    have n1 := own_ne O1 X (by decide)
    have n2 := own_ne O2 X (by decide)
    have n3 := own_ne O3 X (by decide)
    refine wp_store_row 49 _ _ rfl (w.heap.size) #[.int .i64 I, .slice m1 NX.length e1, .int .i64 M.p, .int .i64 M.s, .int .i64 M.e, .int .i64 M.d, .int .i64 M.t, .int .i64 M.q, .int .i64 M.r, .slice m2 BX.length e2, .slice m3 OX.length e3] rfl rfl 49 #[.int .i64 0, .slice none 0 0, .int .i64 0, .int .i64 0, .int .i64 0, .int .i64 0, .int .i64 0, .int .i64 0, .int .i64 0, .slice none 0 0, .slice none 0 0] X Tryz.sizeProc rfl (by simp [Value.oneCell']) ?_
    replace B := below_setRow B (g := w.heap.size) XB #[.int .i64 I, .slice m1 NX.length e1, .int .i64 M.p, .int .i64 M.s, .int .i64 M.e, .int .i64 M.d, .int .i64 M.t, .int .i64 M.q, .int .i64 M.r, .slice m2 BX.length e2, .slice m3 OX.length e3]
    replace O1 := own_other O1 n1 (fun j hj => setRow_other _ _ j #[.int .i64 I, .slice m1 NX.length e1, .int .i64 M.p, .int .i64 M.s, .int .i64 M.e, .int .i64 M.d, .int .i64 M.t, .int .i64 M.q, .int .i64 M.r, .slice m2 BX.length e2, .slice m3 OX.length e3] hj)
    replace O2 := own_other O2 n2 (fun j hj => setRow_other _ _ j #[.int .i64 I, .slice m1 NX.length e1, .int .i64 M.p, .int .i64 M.s, .int .i64 M.e, .int .i64 M.d, .int .i64 M.t, .int .i64 M.q, .int .i64 M.r, .slice m2 BX.length e2, .slice m3 OX.length e3] hj)
    replace O3 := own_other O3 n3 (fun j hj => setRow_other _ _ j #[.int .i64 I, .slice m1 NX.length e1, .int .i64 M.p, .int .i64 M.s, .int .i64 M.e, .int .i64 M.d, .int .i64 M.t, .int .i64 M.q, .int .i64 M.r, .slice m2 BX.length e2, .slice m3 OX.length e3] hj)
    replace X := setRow_heap _ _ _ #[.int .i64 I, .slice m1 NX.length e1, .int .i64 M.p, .int .i64 M.s, .int .i64 M.e, .int .i64 M.d, .int .i64 M.t, .int .i64 M.q, .int .i64 M.r, .slice m2 BX.length e2, .slice m3 OX.length e3] _ _ X
    refine hK.out _ _ (hS _ B) (fun hHeld => ?_)
    clear hK
    simp only [Act.put]
    refine wpAnyH_take (i := 9) (oi := ({ dst := some 7, op := Op.assign (Operand.tmp 14), type := 4, pos := "l12_proc.go:92", after := #[{ on := 6, ground := Ground.data }, { on := 8, ground := Ground.chain }, { on := 0, ground := Ground.phase }, { on := 1, ground := Ground.phase }, { on := 2, ground := Ground.phase }, { on := 3, ground := Ground.phase }, { on := 4, ground := Ground.phase }, { on := 5, ground := Ground.phase }, { on := 6, ground := Ground.phase }, { on := 7, ground := Ground.phase }, { on := 8, ground := Ground.phase }], guard := none } : Oper)) (v := .bool ok) rfl (by kernel_rfl) (by kernel_rfl) (by kernel_rfl) (fun _ _ _ h => h) (Or.inl ⟨by rfl, by intro w hSw; go_simp⟩) (by assumption) ?_
    simp only [Act.put]
    refine wpAnyH_done (by kernel_rfl) ?_ _
    exact NoPanic.normal (hQ _ _ _ _ _ _ _ (w.heap.size) I NX M BX OX ok m1 m2 m3 e1 e2 e3 _ XB B X eT O1 O2 O3 AP)

/-- What ProcRead answers. -/
def PdT := Int × List Nd × Mc × List ByteArray × List ByteArray × Bool
def pdT (r : Option (Int × (List Nd × Mc) × List ByteArray × List ByteArray)) : Int × List Nd × Mc × List ByteArray × List ByteArray × Bool :=
  match r with
  | none => (0, [], ⟨0, 0, 0, 0, 0, 0, 0⟩, [], [], false)
  | some (i, m, b, o) => (i, m.1, m.2, b, o, true)
theorem PaAns.zero2 {B : Nat} {r : Option (Int × (List Nd × Mc) × List ByteArray × List ByteArray)} {w' : World} (h : r = none) : PaAns B (pdT r) (.returned (.tuple #[.agg #[.int .i64 0, .slice none 0 0, .int .i64 0, .int .i64 0, .int .i64 0, .int .i64 0, .int .i64 0, .int .i64 0, .int .i64 0, .slice none 0 0, .slice none 0 0], .bool false])) w' := by
  subst h
  exact ⟨0, [], ⟨0, 0, 0, 0, 0, 0, 0⟩, [], [], false, .slice none 0 0, .slice none 0 0, .slice none 0 0, rfl, rfl, ⟨by simp [ncs], Or.inl ⟨rfl, rfl⟩⟩, ⟨by simp [stv], Or.inl ⟨rfl, rfl⟩⟩, ⟨by simp [stv], Or.inl ⟨rfl, rfl⟩⟩, fun g h => by cases h⟩
theorem rdAll_end {zs : List Int} {i : Int} {t : ByteArray} {b o : List ByteArray} (h : rdAll zs = some (i, t, b, o)) : (∀ x ∈ b, x.size ≤ zs.length) ∧ (∀ x ∈ o, x.size ≤ zs.length) ∧ b.length ≤ 20 ∧ o.length ≤ 40 := by
  unfold rdAll at h
  rw [Option.bind_eq_some_iff] at h
  obtain ⟨p, _, h⟩ := h
  rw [Option.bind_eq_some_iff] at h
  obtain ⟨t', _, h⟩ := h
  rw [Option.bind_eq_some_iff] at h
  obtain ⟨b', hb, h⟩ := h
  rw [Option.bind_eq_some_iff] at h
  obtain ⟨o', ho, h⟩ := h
  split at h
  · simp only [Option.some.injEq, Prod.mk.injEq] at h
    obtain ⟨_, _, rfl, rfl⟩ := h
    exact ⟨(rdTB_end hb).2, (rdTB_end ho).2, (rdTB_yes hb).2, (rdTB_yes ho).2⟩
  · cases h
theorem mr_pool {ns : List Nd} {is : List In} {ds : List Df} {zs : List Int} {xs : List Nd} {m : Mc} (h : mrR ns is ds zs = some (xs, m)) : poolB xs = true := by
  unfold mrR at h
  rw [Option.bind_eq_some_iff] at h
  obtain ⟨q, _, h⟩ := h
  rw [Option.bind_eq_some_iff] at h
  obtain ⟨r, _, h⟩ := h
  split at h
  · rename_i hc
    simp only [Option.some.injEq, Prod.mk.injEq] at h
    obtain ⟨rfl, _⟩ := h
    exact (machB_parts hc.2.1).1
  · cases h
/-- Where the form was read: what is told, and what then comes of it. -/
theorem pa_pd {ns : List Nd} {is : List In} {ds : List Df} {zs : List Int} {I : Int} {X : List Nd} {M : Mc} {BX OX : List ByteArray} {ok : Bool} (h : paT ns is ds (rdAll zs) = (I, X, M, BX, OX, ok)) :
    (ok = false → pdR ns is ds zs = none) ∧ (ok = true → pdR ns is ds zs = if procB ns is ds I X M BX OX then some (I, (X, M), BX, OX) else none) ∧ (∀ x ∈ BX, x.size ≤ zs.length) ∧ (∀ x ∈ OX, x.size ≤ zs.length) ∧ (X.length ≤ 3000 ∧ ∀ x ∈ X, x.s.size ≤ maxLen) ∧ BX.length ≤ 20 ∧ OX.length ≤ 40 := by
  rw [pdR_all]
  cases ha : rdAll zs with
  | none =>
    rw [ha] at h
    simp only [paT, Prod.mk.injEq] at h
    obtain ⟨rfl, rfl, rfl, rfl, rfl, rfl⟩ := h
    refine ⟨fun _ => rfl, ?_, by simp, by simp, ⟨by simp, by simp⟩, by simp, by simp⟩
    intro h
    cases h
  | some q =>
    obtain ⟨i, t, b, o⟩ := q
    obtain ⟨s1, s2, s3, s4⟩ := rdAll_end ha
    rw [ha] at h
    simp only [paT, Prod.mk.injEq] at h
    obtain ⟨rfl, h2, h3, rfl, rfl, h6⟩ := h
    simp only [Option.bind_some]
    cases hm : mrR ns is ds (sb t) with
    | none =>
      rw [hm] at h2 h3 h6
      simp only [mrL, mrM, Option.isSome_none] at h2 h3 h6
      subst h2 h6
      refine ⟨fun _ => rfl, ?_, s1, s2, ⟨by simp, by simp⟩, s3, s4⟩
      intro h
      cases h
    | some r =>
      obtain ⟨xs, m⟩ := r
      have hp := mr_pool hm
      rw [hm] at h2 h3 h6
      simp only [mrL, mrM, Option.isSome_some] at h2 h3 h6
      subst h2 h3 h6
      refine ⟨?_, fun _ => rfl, s1, s2, ⟨poolB_len hp, ndok_max (pool_ndok hp)⟩, s3, s4⟩
      intro h
      cases h
end Go.Proofs.YtjnhocefnfmhmaaGreatDoor

/-
  The contract of impl.ProcRead. The variable errors.errorType reads as it is laid.
-/
namespace Go.Proofs.YtjnhocefnfmhmaaGreatDoor
open Go.RowKit

set_option maxRecDepth 100000 in
set_option maxHeartbeats 6400000 in
theorem iprocread_any (v1 v2 v3 : Value) (ns : List Nd) (is : List In) (ds : List Df) (s : ByteArray) (w : World) (R1 : NRow w v1 ns) (R2 : InRow w v2 is) (R3 : DfRow w v3 ds) (hs : s.size ≤ 1048576) (hg : ErrT w) :
    Calls Tryz.prog 14 #[.agg #[v1, v2, v3], .string s] w fun e w' => PaAns w.heap.size (pdT (pdR ns is ds (sb s))) e w' ∧ Below w.heap.size w w' := by
  obtain ⟨a1, c1, rfl⟩ := R1.small
  obtain ⟨a2, c2, rfl⟩ := R2.small
  obtain ⟨a3, c3, rfl⟩ := R3.small
  have hzl := sb_length s
  obtain ⟨hB, hk, hy⟩ := two_boxes w (Obj.cells #[.slice a1 ns.length c1, .slice a2 is.length c2, .slice a3 ds.length c3] 44) (Obj.cells #[.int .i64 0, .slice none 0 0, .int .i64 0, .int .i64 0, .int .i64 0, .int .i64 0, .int .i64 0, .int .i64 0, .int .i64 0, .slice none 0 0, .slice none 0 0] 49)
  go_enter Tryz.func14, Tryz.ntmps14
  go_wp2_with fail
  refine iprd_r1 w.heap.size _ _ _ s (paT ns is ds (rdAll (sb s))) _ _ hk (by omega) (fun vr W0 P W RR hbW hbR hPW hone => rproc_any vr (sb s) W0 W P _ _ _ ns is ds RR hbR hPW hone (R1.below (hB.trans (hbW.mono hB.size))) (R2.below (hB.trans (hbW.mono hB.size))) (R3.below (hB.trans (hbW.mono hB.size))) (hg.below (hB.trans (hbW.mono hB.size)) (Nat.le_refl _)) (by omega)) ?_
  intro _ _ _ _ _ _ _ bp I X M BX OX ok m1 m2 m3 e1 e2 e3 w2 hbp hb hp eT O1 O2 O3 AP
  obtain ⟨F1, F2, zb, zo, ⟨lX, zX⟩, lB, lO⟩ := pa_pd eT
  replace hk := blk_bel hk hb
  replace hy := blk_bel hy hb
  have hb0 : w.heap.size + 2 ≤ bp := by simpa using hbp
  replace O1 := own_mono (B' := w.heap.size + 2) O1 (by simp)
  replace O2 := own_mono (B' := w.heap.size + 2) O2 (by simp)
  replace O3 := own_mono (B' := w.heap.size + 2) O3 (by simp)
  replace hB := hB.trans (hb.mono hB.size)
  clear hb hbp eT
  have ly := blk_lt hy
  cases ok with
  | false =>
    have HN : Hid (pdR ns is ds (sb s) = none) := F1 rfl
    clear F1 F2
    go_wp2_with (refine wpList_store_own2 rfl 49 _ _ rfl (w.heap.size + 1) #[.int .i64 0, .slice none 0 0, .int .i64 0, .int .i64 0, .int .i64 0, .int .i64 0, .int .i64 0, .int .i64 0, .int .i64 0, .slice none 0 0, .slice none 0 0] rfl rfl 49 #[.int .i64 0, .slice none 0 0, .int .i64 0, .int .i64 0, .int .i64 0, .int .i64 0, .int .i64 0, .int .i64 0, .int .i64 0, .slice none 0 0, .slice none 0 0] hy Tryz.sizeProc rfl (by simp [Value.oneCell']) ?_)
    intro wB hvB hbB hsB hkB
    go_wp2
    refine bodyPost_ret (results_row_tmp rfl _ _ (w.heap.size + 1) 49 _ (0, 0) _ rfl hvB Tryz.underlying49 rfl Tryz.sizeProc) rfl ⟨PaAns.zero2 HN.out, hB.trans (hbB.mono (by omega))⟩
  | true =>
    have HD : Hid (pdR ns is ds (sb s) = if procB ns is ds I X M BX OX then some (I, (X, M), BX, OX) else none) := F2 rfl
    have c0 : w2.cell? ⟨w.heap.size, 0, none⟩ = some (.slice a1 ns.length c1) := cell_of_row w2 _ 0 _ _ _ hk
    have c1' : w2.cell? ⟨w.heap.size, 0 + 1, none⟩ = some (.slice a2 is.length c2) := cell_of_row w2 _ 1 _ _ _ hk
    have c2' : w2.cell? ⟨w.heap.size, 0 + 2, none⟩ = some (.slice a3 ds.length c3) := cell_of_row w2 _ 2 _ _ _ hk
    have k0 : w2.cell? ⟨bp, 0, none⟩ = some (.int .i64 I) := cell_of_row w2 _ 0 _ _ _ hp
    have k1 : w2.cell? ⟨bp, 0 + 1, none⟩ = some (.slice m1 X.length e1) := cell_of_row w2 _ 1 _ _ _ hp
    have k2 : w2.cell? ⟨bp, 0 + 2, none⟩ = some (.int .i64 M.p) := cell_of_row w2 _ 2 _ _ _ hp
    have k3 : w2.cell? ⟨bp, 0 + 3, none⟩ = some (.int .i64 M.s) := cell_of_row w2 _ 3 _ _ _ hp
    have k4 : w2.cell? ⟨bp, 0 + 4, none⟩ = some (.int .i64 M.e) := cell_of_row w2 _ 4 _ _ _ hp
    have k5 : w2.cell? ⟨bp, 0 + 5, none⟩ = some (.int .i64 M.d) := cell_of_row w2 _ 5 _ _ _ hp
    have k6 : w2.cell? ⟨bp, 0 + 6, none⟩ = some (.int .i64 M.t) := cell_of_row w2 _ 6 _ _ _ hp
    have k7 : w2.cell? ⟨bp, 0 + 7, none⟩ = some (.int .i64 M.q) := cell_of_row w2 _ 7 _ _ _ hp
    have k8 : w2.cell? ⟨bp, 0 + 8, none⟩ = some (.int .i64 M.r) := cell_of_row w2 _ 8 _ _ _ hp
    have k9 : w2.cell? ⟨bp, 0 + 9, none⟩ = some (.slice m2 BX.length e2) := cell_of_row w2 _ 9 _ _ _ hp
    have k10 : w2.cell? ⟨bp, 0 + 10, none⟩ = some (.slice m3 OX.length e3) := cell_of_row w2 _ 10 _ _ _ hp
    have OK := iprocok_any _ _ _ _ _ _ ns is ds I X M BX OX w2 (R1.below hB) (R2.below hB) (R3.below hB) (NRow.of_own O1 (by omega) zX) (StRow.of_own O2 (by omega) (fun x hx => by have := zb x hx; unfold maxLen; omega)) (StRow.of_own O3 (by omega) (fun x hx => by have := zo x hx; unfold maxLen; omega)) (fun x hx => by have := zb x hx; omega) (hg.below hB (Nat.le_refl _))
    clear F1 F2
    go_wp2_with fail
    refine OK.mono ?_
    rintro e w3 ⟨rfl, hb⟩
    replace hy := blk_bel hy hb
    replace hp := blk_bel hp hb
    replace O1 := own_below O1 hb
    replace O2 := own_below O2 hb
    replace O3 := own_below O3 hb
    replace hB := hB.trans (hb.mono hB.size)
    clear hb OK hk c0 c1' c2' k0 k1 k2 k3 k4 k5 k6 k7 k8 k9 k10
    replace ly := blk_lt hy
    cases hP : procB ns is ds I X M BX OX with
    | false =>
      have HN : Hid (pdR ns is ds (sb s) = none) := by unfold Hid; rw [HD.out, hP]; rfl
      go_wp2_with (refine wpList_store_own2 rfl 49 _ _ rfl (w.heap.size + 1) #[.int .i64 0, .slice none 0 0, .int .i64 0, .int .i64 0, .int .i64 0, .int .i64 0, .int .i64 0, .int .i64 0, .int .i64 0, .slice none 0 0, .slice none 0 0] rfl rfl 49 #[.int .i64 0, .slice none 0 0, .int .i64 0, .int .i64 0, .int .i64 0, .int .i64 0, .int .i64 0, .int .i64 0, .int .i64 0, .slice none 0 0, .slice none 0 0] hy Tryz.sizeProc rfl (by simp [Value.oneCell']) ?_)
      intro wB hvB hbB hsB hkB
      go_wp2
      refine bodyPost_ret (results_row_tmp rfl _ _ (w.heap.size + 1) 49 _ (0, 0) _ rfl hvB Tryz.underlying49 rfl Tryz.sizeProc) rfl ⟨PaAns.zero2 HN.out, hB.trans (hbB.mono (by omega))⟩
    | true =>
      have HN : Hid (pdR ns is ds (sb s) = some (I, (X, M), BX, OX)) := by unfold Hid; rw [HD.out, hP]; rfl
      go_wp2_with (first
        | (refine wpList_load_row rfl 49 _ rfl bp rfl 49 #[.int .i64 I, .slice m1 X.length e1, .int .i64 M.p, .int .i64 M.s, .int .i64 M.e, .int .i64 M.d, .int .i64 M.t, .int .i64 M.q, .int .i64 M.r, .slice m2 BX.length e2, .slice m3 OX.length e3] (0, 0) _ hp Tryz.underlying49 rfl Tryz.sizeProc ?_)
        | (refine wpList_store_own2 rfl 49 _ _ rfl (w.heap.size + 1) #[.int .i64 I, .slice m1 X.length e1, .int .i64 M.p, .int .i64 M.s, .int .i64 M.e, .int .i64 M.d, .int .i64 M.t, .int .i64 M.q, .int .i64 M.r, .slice m2 BX.length e2, .slice m3 OX.length e3] rfl rfl 49 #[.int .i64 0, .slice none 0 0, .int .i64 0, .int .i64 0, .int .i64 0, .int .i64 0, .int .i64 0, .int .i64 0, .int .i64 0, .slice none 0 0, .slice none 0 0] hy Tryz.sizeProc rfl (by simp [Value.oneCell']) ?_))
      intro wB hvB hbB hsB hkB
      replace O1 := own_mono (B' := w.heap.size) (own_keep O1 (by omega) hkB) (by omega)
      replace O2 := own_mono (B' := w.heap.size) (own_keep O2 (by omega) hkB) (by omega)
      replace O3 := own_mono (B' := w.heap.size) (own_keep O3 (by omega) hkB) (by omega)
      go_wp2
      refine bodyPost_ret (results_row_tmp rfl _ _ (w.heap.size + 1) 49 _ (0, 0) _ rfl hvB Tryz.underlying49 rfl Tryz.sizeProc) rfl ⟨⟨I, X, M, BX, OX, true, _, _, _, by rw [HN.out]; rfl, rfl, O1, O2, O3, AP⟩, hB.trans (hbB.mono (by omega))⟩
end Go.Proofs.YtjnhocefnfmhmaaGreatDoor

/-
  The contract of spec.l12ReadText: one text more is read, or something is wrong. No condition but bounds.
-/
namespace Go.Proofs.YtjnhocefnfmhmaaGreatDoor
open Go.RowKit

def txt8 (zs : List Int) (at_ : Int) (ok : Bool) : ByteArray × Int × Bool := if ok && (gT zs at_).2.2 then ((gT zs at_).1, (gT zs at_).2.1, true) else (⟨#[]⟩, at_, false)
/-- So many texts, as long as all is right. -/
def tsL (zs : List Int) : Nat → List ByteArray → Int → Bool → List ByteArray × Int × Bool
  | 0, xs, a, ok => (xs, a, ok)
  | m + 1, xs, a, ok => if ok then tsL zs m (xs ++ [(txt8 zs a true).1]) (txt8 zs a true).2.1 (txt8 zs a true).2.2 else (xs, a, false)
theorem tsL_false (zs : List Int) (xs : List ByteArray) (a : Int) : ∀ m : Nat, tsL zs m xs a false = (xs, a, false)
  | 0 => rfl
  | _ + 1 => rfl
theorem rt_txt8 (zs : List Int) (a : Int) : txt8 zs a true = match rt zs a with | some p => (p.1, p.2, true) | none => (⟨#[]⟩, a, false) := by
  unfold txt8 rt
  cases (gT zs a).2.2 <;> rfl
/-- Both ways of reading come to the same. -/
theorem tsL_rd (zs : List Int) : ∀ (m : Nat) (xs : List ByteArray) (a : Int), (∀ q, rdTs zs m a = some q → tsL zs m xs a true = (xs ++ q.1, q.2, true)) ∧ (rdTs zs m a = none → (tsL zs m xs a true).2.2 = false)
  | 0, xs, a => ⟨fun q h => by cases h; simp [tsL], fun h => by cases h⟩
  | m + 1, xs, a => by
    rw [rdTs, tsL, if_pos rfl, rt_txt8]
    cases h : rt zs a with
    | none =>
      simp only [Option.bind_none]
      refine ⟨fun q hq => (by cases hq), fun _ => ?_⟩
      rw [tsL_false]
    | some p =>
      simp only [Option.bind_some]
      obtain ⟨i1, i2⟩ := tsL_rd zs m (xs ++ [p.1]) p.2
      cases h2 : rdTs zs m p.2 with
      | none => exact ⟨fun q hq => by (simp at hq), fun _ => i2 h2⟩
      | some t =>
        rw [i1 t h2]
        refine ⟨fun q hq => ?_, fun hq => by (simp at hq)⟩
        simp only [Option.map_some, Option.some.injEq] at hq
        subst hq
        simp

set_option maxRecDepth 100000 in
set_option maxHeartbeats 3200000 in
theorem s12rt_any (b : Nat) (v : Value) (zs : List Int) (at_ : Int) (ok : Bool) (w : World) (R : Row w v zs) (h : C8 w b v at_ ok) (hlo : -9223372036854775808 ≤ at_) (hhi : at_ ≤ 9223372036854775807) :
    Calls Tryz.prog 44 #[.pointer (some ⟨b, 0, none⟩)] w fun e w' => e = .returned (.string (txt8 zs at_ ok).1) ∧ C8 w' b v (txt8 zs at_ ok).2.1 (txt8 zs at_ ok).2.2 ∧ w.grownBy w' (some b) := by
  have R' := R
  obtain ⟨ao, cap, rfl, _⟩ := R'
  unfold C8 at h
  have c0 : w.cell? ⟨b, 0, none⟩ = some (.slice ao zs.length cap) := cell_of_row _ _ 0 _ _ _ h
  have c1 : w.cell? ⟨b, 1, none⟩ = some (.int .i64 at_) := cell_of_row _ _ 1 _ _ _ h
  have c2 : w.cell? ⟨b, 2, none⟩ = some (.bool ok) := cell_of_row _ _ 2 _ _ _ h
  have f1 : w.frozen? ⟨b, 1, none⟩ = false := frozen_of_row _ _ 1 _ _ h
  have f2 : w.frozen? ⟨b, 2, none⟩ = false := frozen_of_row _ _ 2 _ _ h
  obtain ⟨g, hg⟩ : ∃ g, Hid (gT zs at_ = g) := ⟨_, rfl⟩
  obtain ⟨gx, gn, gk⟩ := g
  have HG : ∀ W : World, Row W (.slice ao zs.length cap) zs → Calls Tryz.prog 79 #[.slice ao zs.length cap, .int .i64 at_] W fun e w' => e = .returned (.tuple #[.string gx, .int .i64 gn, .bool gk]) ∧ w' = W := fun W RW => by
    have := sgtext_any _ zs at_ W RW hlo hhi
    rw [hg.out] at this
    exact this
  have HN : Hid (txt8 zs at_ ok = if ok && gk then (gx, gn, true) else (⟨#[]⟩, at_, false)) := by unfold Hid txt8; rw [hg.out]
  have hd : ∀ m, Below w.heap.size w (w.drewN m) := fun m => ⟨rfl, rfl, rfl, Nat.le_refl _, fun _ _ => rfl⟩
  go_enter Tryz.func44, Tryz.ntmps44
  go_wp2_with fail
  go_quiet (first | (go_at_call 79; refine Calls.quiet_of_same (HG _ R)))
  all_goals
    have lt := (Array.getElem?_eq_some_iff.1 h).1
    have h2 := ((hd nq).block _ lt).trans h
    have g2 : w.grownBy (w.drewN nq) (some b) := ⟨rfl, rfl, rfl, Nat.le_refl _, fun _ _ _ => rfl⟩
    clear c0 c1 c2 f1 f2 hd HG
    generalize w.drewN nq = w2 at *
    have c1 : w2.cell? ⟨b, 1, none⟩ = some (.int .i64 at_) := cell_of_row _ _ 1 _ _ _ h2
    have c2 : w2.cell? ⟨b, 2, none⟩ = some (.bool ok) := cell_of_row _ _ 2 _ _ _ h2
    have f1 : w2.frozen? ⟨b, 1, none⟩ = false := frozen_of_row _ _ 1 _ _ h2
    have f2 : w2.frozen? ⟨b, 2, none⟩ = false := frozen_of_row _ _ 2 _ _ h2
    cases gk with
    | false =>
      have HN2 : Hid (txt8 zs at_ ok = (⟨#[]⟩, at_, false)) := by unfold Hid; rw [HN.out, Bool.and_false]; rfl
      clear HN hg
      go_wp2
      go_ret
      rw [HN2.out]
      exact ⟨rfl, heap_setCell_same w2 b 2 _ _ (.bool false) h2, grown_trans g2 (grown_set w2 b 2 _)⟩
    | true =>
      cases ok with
      | false =>
        have HN2 : Hid (txt8 zs at_ false = (⟨#[]⟩, at_, false)) := HN.out
        clear HN hg
        go_wp2
        go_ret
        rw [HN2.out]
        exact ⟨rfl, heap_setCell_same w2 b 2 _ _ (.bool false) h2, grown_trans g2 (grown_set w2 b 2 _)⟩
      | true =>
        have HN2 : Hid (txt8 zs at_ true = (gx, gn, true)) := HN.out
        clear HN hg
        go_wp2
        go_ret
        rw [HN2.out]
        exact ⟨rfl, heap_setCell_same w2 b 1 _ _ (.int .i64 gn) h2, grown_trans g2 (grown_set w2 b 1 _)⟩
end Go.Proofs.YtjnhocefnfmhmaaGreatDoor
