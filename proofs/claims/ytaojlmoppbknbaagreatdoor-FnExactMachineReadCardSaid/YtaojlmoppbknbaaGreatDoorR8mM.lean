/-
  When what is read of bytes is a machine: plain mathematics. Both ways of asking whether nothing else is there come to the same. No condition.
-/
import Derived.Test.YtaojlmoppbknbaaGreatDoorEasM
import Derived.Test.YtaojlmoppbknbaaGreatDoorRNumsM
import Derived.Test.YtaojlmoppbknbaaGreatDoorMPackM
namespace Go.Proofs.YtaojlmoppbknbaaGreatDoor
open Go.RowKit

/-- A machine's numbers, as they are written. -/
def mcOf : List Int → Mc
  | [p, t, q, s, e, d, r] => ⟨p, s, e, d, t, q, r⟩
  | _ => ⟨0, 0, 0, 0, 0, 0, 0⟩
theorem mpN_of {l : List Int} (h : l.length = 7) : mpN (mcOf l) = l := by
  match l, h with
  | [p, t, q, s, e, d, r], _ => rfl
/-- So many numbers, once something is wrong noughts. -/
def num8K (zs : List Int) : Nat → Int → Bool → List Int × Int × Bool
  | 0, a, ok => ([], a, ok)
  | n + 1, a, ok => ((num8 zs a ok).1 :: (num8K zs n (num8 zs a ok).2.1 (num8 zs a ok).2.2).1, (num8K zs n (num8 zs a ok).2.1 (num8 zs a ok).2.2).2)
theorem num8K_false (zs : List Int) : ∀ (n : Nat) (a : Int), (num8K zs n a false).2.2 = false
  | 0, a => rfl
  | n + 1, a => by rw [num8K, num8_false]; exact num8K_false zs n a
theorem num8K_rd (zs : List Int) : ∀ (n : Nat) (a : Int), (∀ q, rdK zs n a = some q → num8K zs n a true = (q.1, q.2, true)) ∧ (rdK zs n a = none → (num8K zs n a true).2.2 = false)
  | 0, a => ⟨fun q h => by cases h; rfl, fun h => by cases h⟩
  | n + 1, a => by
    rw [rdK, num8K]
    cases h : rd1 zs a with
    | none => rw [num8_none h]; exact ⟨fun q hq => by (simp at hq), fun _ => num8K_false zs n a⟩
    | some p =>
      rw [(rd1_num8 zs a).2 p h]
      obtain ⟨i1, i2⟩ := num8K_rd zs n p.2
      simp only [Option.bind_some]
      cases h2 : rdK zs n p.2 with
      | none => exact ⟨fun q hq => by (simp at hq), fun _ => i2 h2⟩
      | some t => rw [i1 t h2]; exact ⟨fun q hq => by (simp at hq; subst hq; rfl), fun hq => by (simp at hq)⟩
theorem num8K_len (zs : List Int) : ∀ (n : Nat) (a : Int) (ok : Bool), (num8K zs n a ok).1.length = n
  | 0, a, ok => rfl
  | n + 1, a, ok => by rw [num8K, List.length_cons, num8K_len zs n]
theorem rdK_lies {zs : List Int} (hz : ∀ z ∈ zs, 0 ≤ z ∧ z ≤ 255) : ∀ (n : Nat) (a : Int) (q : List Int × Int), 0 ≤ a → rdK zs n a = some q → Lies zs a (q.1.flatMap encI) q.2 ∧ ∀ x ∈ q.1, 0 ≤ x ∧ x ≤ 9223372036854775807
  | 0, a, q, ha, h => by cases h; exact ⟨Lies.nil ha, by intro x hx; cases hx⟩
  | n + 1, a, q, ha, h => by
    rw [rdK, Option.bind_eq_some_iff] at h
    obtain ⟨p, h1, h2⟩ := h
    rw [Option.map_eq_some_iff] at h2
    obtain ⟨t, h3, rfl⟩ := h2
    obtain ⟨L1, _⟩ := rd1_lies (x := p.1) (b := p.2) hz h1
    obtain ⟨r1, r2, r3, _⟩ := rd1_range h1
    obtain ⟨L2, h5⟩ := rdK_lies hz n p.2 t r3 h3
    refine ⟨by rw [List.flatMap_cons]; exact L1.append L2, fun x hx => ?_⟩
    rcases List.mem_cons.1 hx with rfl | hx
    · exact ⟨r1, r2⟩
    · exact h5 x hx
theorem rdP_lies {zs : List Int} {xs : List Nd} {a b : Int} (hz : ∀ z ∈ zs, 0 ≤ z ∧ z ≤ 255) (h : rdP zs a = some (xs, b)) : poolB xs = true ∧ Lies zs a (wireL xs) b := by
  unfold rdP at h
  rw [Option.bind_eq_some_iff] at h
  obtain ⟨⟨n, a1⟩, h1, h2⟩ := h
  split at h2
  · cases h2
  rw [Option.bind_eq_some_iff] at h2
  obtain ⟨⟨ys, c⟩, h3, h4⟩ := h2
  split at h4
  · rename_i hp
    cases h4
    obtain ⟨L1, hn⟩ := rd1_lies hz h1
    obtain ⟨L2, hl⟩ := rdNds_lies hz n.toNat a1 _ xs (by have := L1.1; have := L1.2.1; omega) h3
    refine ⟨hp, ?_⟩
    unfold wireL
    rw [show (xs.length : Int) = n by omega]
    exact L1.append L2
  · cases h4
theorem Lies.whole {zs L : List Int} (h : Lies zs 0 L zs.length) : L = zs := by
  obtain ⟨_, hlen, rest, hr⟩ := h
  rw [Int.toNat_zero, List.drop_zero] at hr
  have hlen2 := congrArg List.length hr
  rw [List.length_append] at hlen2
  have : rest = [] := List.eq_nil_of_length_eq_zero (by omega)
  rw [this, List.append_nil] at hr
  exact hr.symm
theorem flat_head : ∀ (l m : List Int) (p q : List Int), l.length = m.length → (∀ x ∈ l, 0 ≤ x ∧ x ≤ 9223372036854775807) → (∀ x ∈ m, 0 ≤ x ∧ x ≤ 9223372036854775807) → l.flatMap encI ++ p = m.flatMap encI ++ q → l = m ∧ p = q
  | [], [], p, q, _, _, _, h => ⟨rfl, h⟩
  | x :: l, y :: m, p, q, hl, h1, h2, h => by
    rw [List.flatMap_cons, List.flatMap_cons, List.append_assoc, List.append_assoc] at h
    have hx := h1 x (by simp)
    have hy := h2 y (by simp)
    have e := encI_head hx.1 hy.1 hx.2 hy.2 h
    subst e
    obtain ⟨e1, e2⟩ := flat_head l m p q (by simpa using hl) (fun z hz => h1 z (by simp [hz])) (fun z hz => h2 z (by simp [hz])) (List.append_cancel_left h)
    exact ⟨by rw [e1], e2⟩
/-- Written again it is the same just where all is reached. -/
theorem mach_iff {ns : List Nd} {is : List In} {ds : List Df} {xs : List Nd} {m : Mc} (h : machB ns is ds xs m = true) (hm : ∀ x ∈ mpN m, 0 ≤ x ∧ x ≤ 9223372036854775807) : mpL xs m = (mpN m).flatMap encI ++ wireL xs ↔ allR xs (tdR m) = true := by
  obtain ⟨hp, ha, _⟩ := machB_parts h
  have hok : tdOk xs m = true := by unfold tdOk; rw [hp, ha]; rfl
  have eL : tdL xs m = mvN 0 xs (tdR m) := by unfold tdL; rw [if_pos hok]
  have hf0 : ∀ r ∈ tdR m, 0 ≤ tdF xs m r := fun r hr => (at8_root xs (tdR m) hp ha 0 r hr).2.2
  have hs : ∀ r, r ∈ [m.s, m.e, m.d] → r ∈ tdR m := fun r hr => by
    unfold tdR
    split
    · simp only [List.mem_cons, List.mem_nil_iff, or_false] at hr ⊢; rcases hr with h | h | h <;> simp [h]
    · exact hr
  constructor
  · intro e
    unfold mpL at e
    obtain ⟨b1, _, _⟩ := td_small h
    have hn0 : ∀ x ∈ mpN (tdM xs m), 0 ≤ x := by
      unfold tdM
      rw [if_pos hok]
      intro x hx
      have hall := hm
      simp only [mpN, List.mem_cons, List.mem_nil_iff, or_false] at hx hall
      rcases hx with rfl | rfl | rfl | rfl | rfl | rfl | rfl
      · exact (hall _ (by simp)).1
      · exact (hall _ (by simp)).1
      · exact (hall _ (by simp)).1
      · exact hf0 _ (hs _ (by simp))
      · exact hf0 _ (hs _ (by simp))
      · exact hf0 _ (hs _ (by simp))
      · show 0 ≤ (if argB m then tdF xs m m.r else m.r)
        split
        · rename_i hb; exact hf0 _ (by unfold tdR; rw [if_pos hb]; simp)
        · exact (hall _ (by simp)).1
    obtain ⟨_, e2⟩ := flat_head (mpN (tdM xs m)) (mpN m) _ _ rfl (fun x hx => ⟨hn0 x hx, b1 x hx⟩) hm e
    rw [eL] at e2
    exact (again_iff xs (tdR m) hp ha).1 e2
  · intro hr
    have hk := keep_same xs (tdR m) hp ha ((allR_iff xs (tdR m)).1 hr)
    have hF : ∀ r ∈ tdR m, tdF xs m r = r := by
      intro r hr'
      have := hk.2
      unfold mvR at this
      have h2 := List.map_inj_left.1 (this.trans (List.map_id _).symm) r hr'
      exact h2
    have eM : tdM xs m = m := by
      unfold tdM
      rw [if_pos hok, hF _ (hs _ (by simp)), hF _ (hs _ (by simp)), hF _ (hs _ (by simp))]
      split
      · rename_i hb; rw [hF m.r (by unfold tdR; rw [if_pos hb]; simp)]
      · rfl
    unfold mpL
    rw [eL, eM, hk.1]

/-- What is read of bytes as a machine of a code. -/
def mrR (ns : List Nd) (is : List In) (ds : List Df) (zs : List Int) : Option (List Nd × Mc) :=
  (rdK zs 7 0).bind fun q => (rdP zs q.2).bind fun r => if r.2 = zs.length ∧ machB ns is ds r.1 (mcOf q.1) = true ∧ allR r.1 (tdR (mcOf q.1)) = true then some (r.1, mcOf q.1) else none
/-- As the specification asks: l, a, k are what is left behind the numbers. -/
theorem mrR_spec {ns : List Nd} {is : List In} {ds : List Df} {zs l : List Int} {a : Int} {k : Bool} (hz : ∀ z ∈ zs, 0 ≤ z ∧ z ≤ 255) (hl : num8K zs 7 0 true = (l, a, k)) (xs : List Nd) (m : Mc) :
    mrR ns is ds zs = some (xs, m) ↔ (sOk zs a k = true ∧ (sP zs a k).1 = xs) ∧ m = mcOf l ∧ machB ns is ds xs m = true ∧ mpL xs m = zs := by
  obtain ⟨n1, n2⟩ := num8K_rd zs 7 0
  unfold mrR
  cases hr : rdK zs 7 0 with
  | none =>
    have hk := n2 hr
    rw [hl] at hk
    have hk : k = false := hk
    subst hk
    simp only [Option.bind_none, reduceCtorEq, false_iff]
    rintro ⟨⟨h1, _⟩, _⟩
    have : sOk zs a false = false := by unfold sOk sP sCount; rw [num8_false]; simp [sNs]
    rw [this] at h1
    cases h1
  | some q =>
    have hq := n1 q hr
    rw [hl] at hq
    obtain ⟨q1, q2⟩ := q
    cases hq
    obtain ⟨L1, hrg⟩ := rdK_lies hz 7 0 (q1, q2) (by omega) hr
    have h7 : q1.length = 7 := rdK_len hr
    have hmp := mpN_of h7
    simp only [Option.bind_some]
    rw [sP_rdP, Option.bind_eq_some_iff]
    constructor
    · rintro ⟨⟨ys, b⟩, h1, h2⟩
      split at h2
      · rename_i hc
        cases h2
        obtain ⟨c1, c2, c3⟩ := hc
        simp only at c1 c2 c3
        subst c1
        obtain ⟨_, L2⟩ := rdP_lies hz h1
        have hw := (L1.append L2).whole
        refine ⟨h1, rfl, c2, ?_⟩
        rw [(mach_iff c2 (by rw [hmp]; exact hrg)).2 c3, hmp]
        exact hw
      · cases h2
    · rintro ⟨h1, rfl, h3, h4⟩
      obtain ⟨_, L2⟩ := rdP_lies hz h1
      have hw := (L1.append L2).whole
      refine ⟨_, h1, ?_⟩
      rw [if_pos ⟨rfl, h3, (mach_iff h3 (by rw [hmp]; exact hrg)).1 (by rw [h4, hmp]; exact hw.symm)⟩]
end Go.Proofs.YtaojlmoppbknbaaGreatDoor
