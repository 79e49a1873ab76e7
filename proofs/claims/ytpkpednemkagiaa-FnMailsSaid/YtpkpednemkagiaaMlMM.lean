/-
  Texts that stood by themselves, laid into one.
-/
import Derived.Test.YtpkpednemkagiaaGTextM
import Derived.Test.YtpkpednemkagiaaR8bM
/-
  Plain mathematics: what is put is got, whatever stands behind it. Nothing of the program; no condition.
-/
namespace Go.Proofs.Ytpkpednemkagiaa
open Go.RowKit

theorem scan_enc (post : List Int) (f : Nat) (x : Int) (h0 : 0 ≤ x) (hl : x < lim (f + 1)) : scan (f + 1) (enc (f + 1) x ++ post) = some (enc (f + 1) x) := by
  induction f generalizing x with
  | zero =>
    have hx : x < 128 := by simpa [lim] using hl
    rw [enc_last 0 x hx]; simp [scan, hx]
  | succ f ih =>
    by_cases hx : x < 128
    · rw [enc_last _ x hx]; simp [scan, hx]
    · obtain ⟨f', hf, hl'⟩ := lim_more (f + 1) x (by omega) hl
      rw [enc_more _ x (by omega), List.cons_append]
      simp only [scan]
      rw [if_neg (by omega), ih (x / 128) (by omega) hl']
      rfl
theorem val_enc (f : Nat) (x : Int) (h0 : 0 ≤ x) (hl : x < lim (f + 1)) : val (enc (f + 1) x) = x := by
  induction f generalizing x with
  | zero =>
    have hx : x < 128 := by simpa [lim] using hl
    rw [enc_last 0 x hx]; simp only [val]; omega
  | succ f ih =>
    by_cases hx : x < 128
    · rw [enc_last _ x hx]; simp only [val]; omega
    · obtain ⟨f', hf, hl'⟩ := lim_more (f + 1) x (by omega) hl
      rw [enc_more _ x (by omega)]
      simp only [val]
      rw [ih (x / 128) (by omega) hl']
      omega
theorem last_enc (f : Nat) (x : Int) (h0 : 0 < x) (hl : x < lim (f + 1)) : (enc (f + 1) x).getLast? ≠ some 0 := by
  induction f generalizing x with
  | zero =>
    have hx : x < 128 := by simpa [lim] using hl
    rw [enc_last 0 x hx]; simp; omega
  | succ f ih =>
    by_cases hx : x < 128
    · rw [enc_last _ x hx]; simp; omega
    · obtain ⟨f', hf, hl'⟩ := lim_more (f + 1) x (by omega) hl
      rw [enc_more _ x (by omega)]
      have hne : enc (f + 1) (x / 128) ≠ [] := by
        intro e
        have := scan_enc [] f (x / 128) (by omega) hl'
        rw [e] at this
        simp [scan] at this
      rw [List.getLast?_cons_of_ne_nil hne]
      exact ih (x / 128) (by omega) hl'
theorem nine_lim {x : Int} (h : x ≤ 9223372036854775807) : x < lim (8 + 1) := by
  rw [lim_nine]; omega

theorem gN_enc (pre post : List Int) (x : Int) (h0 : 0 ≤ x) (h1 : x ≤ 9223372036854775807) : gN (pre ++ (enc 9 x ++ post)) (pre.length : Int) = (x, (pre.length : Int) + (enc 9 x).length, true) := by
  have hs : scan 9 ((pre ++ (enc 9 x ++ post)).drop pre.length) = some (enc 9 x) := by
    rw [List.drop_left]
    exact scan_enc post 8 x h0 (nine_lim h1)
  have hneg : ¬ (pre.length : Int) < 0 := by omega
  simp only [gN, hneg, if_false, Int.toNat_natCast, hs]
  rw [if_neg, val_enc 8 x h0 (nine_lim h1)]
  intro hbad
  rcases Int.lt_or_eq_of_le h0 with h | h
  · exact last_enc 8 x h (nine_lim h1) hbad.2
  · subst h
    have := hbad.1
    rw [enc_last 8 0 (by omega)] at this
    simp at this

theorem strOfNums_sb (s : ByteArray) : strOfNums (sb s) = s := by
  have e0 : ∀ l : List UInt8, (l.map fun b => (b.toNat : Int)).map (fun n => UInt8.ofNat n.toNat) = l := by
    intro l
    induction l with
    | nil => rfl
    | cons b l ih => simp only [List.map_cons, ih]; simp
  have e : (sb s).map (fun n => UInt8.ofNat n.toNat) = s.data.toList := e0 _
  unfold strOfNums
  rw [e]

theorem gT_pt (s : ByteArray) (post : List Int) (h : s.size ≤ 1048576) : gT (pt s ++ post) 0 = (s, ((pt s).length : Int), true) := by
  have hp : pt s = enc 9 s.size ++ sb s := by rw [pt, encI_pos _ (by omega)]
  have hg : gN (pt s ++ post) 0 = (((s.size : Nat) : Int), (((enc 9 s.size).length : Nat) : Int), true) := by
    have := gN_enc [] (sb s ++ post) s.size (by omega) (by omega)
    rw [hp, List.append_assoc]
    simpa using this
  have hlen : (pt s ++ post).length = (enc 9 s.size).length + s.size + post.length := by rw [hp]; simp [sb_length]; omega
  rw [gT_yes _ 0 s.size _ hg (by rw [hlen]; omega)]
  have hcut : List.take s.size (List.drop (enc 9 s.size).length (pt s ++ post)) = sb s := by
    rw [hp, List.append_assoc, List.drop_left]
    rw [← sb_length s]
    exact List.take_left
  rw [hcut, strOfNums_sb, pt_length, encI_pos _ (by omega)]
  simp

end Go.Proofs.Ytpkpednemkagiaa

/-
  How a pool is read from bytes, as the specification goes about it and as it comes to the same: plain mathematics. Nothing of the program; no condition.
-/
namespace Go.Proofs.Ytpkpednemkagiaa
open Go.RowKit

/-- One number more: what is answered, where it is then, and whether all was right. -/
def num8 (zs : List Int) (at_ : Int) (ok : Bool) : Int × Int × Bool := if ok && (gN zs at_).2.2 then ((gN zs at_).1, (gN zs at_).2.1, true) else (0, at_, false)
/-- A pool: how many nodes, and these; right, and no more than there may be. -/
def rdP (zs : List Int) (a : Int) : Option (List Nd × Int) :=
  (rd1 zs a).bind fun p => if p.1 > 3000 then none else (rdNds zs p.1.toNat p.2).bind fun q => if poolB q.1 then some q else none

/-- A node's fields behind its kind, once something is wrong with noughts. -/
def sB (zs : List Int) (k a : Int) (ok : Bool) : Nd × Int × Bool :=
  if k = 2 ∨ k = 8 ∨ k = 9 then (⟨k, (num8 zs a ok).1, ByteArray.empty, 0, 0⟩, (num8 zs a ok).2)
  else if k = 3 then (⟨k, (num8 zs a ok).1 - 1000000000, ByteArray.empty, 0, 0⟩, (num8 zs a ok).2)
  else if k = 4 then (⟨k, 0, (gT zs a).1, 0, 0⟩, (gT zs a).2.1, ok && (gT zs a).2.2)
  else if k = 5 then (⟨k, 0, ByteArray.empty, (num8 zs a ok).1, (num8 zs (num8 zs a ok).2.1 (num8 zs a ok).2.2).1⟩, (num8 zs (num8 zs a ok).2.1 (num8 zs a ok).2.2).2)
  else if k = 6 then (⟨k, (num8 zs a ok).1, ByteArray.empty, (num8 zs (num8 zs a ok).2.1 (num8 zs a ok).2.2).1, 0⟩, (num8 zs (num8 zs a ok).2.1 (num8 zs a ok).2.2).2)
  else if k = 7 then (⟨k, 0, ByteArray.empty, (num8 zs a ok).1, 0⟩, (num8 zs a ok).2)
  else (⟨k, 0, ByteArray.empty, 0, 0⟩, a, ok)
def sN (zs : List Int) (a : Int) : Nd × Int × Bool := sB zs (num8 zs a true).1 (num8 zs a true).2.1 (num8 zs a true).2.2
/-- So many nodes, as long as all is right. -/
def sNs (zs : List Int) : Nat → List Nd → Int → Bool → List Nd × Int × Bool
  | 0, xs, a, ok => (xs, a, ok)
  | m + 1, xs, a, ok => if ok then sNs zs m (xs ++ [(sN zs a).1]) (sN zs a).2.1 (sN zs a).2.2 else (xs, a, false)
/-- Whether it is 0 .. 3000 of them. -/
def sCount (zs : List Int) (a : Int) (ok : Bool) : Bool := (num8 zs a ok).2.2 && decide ((num8 zs a ok).1 ≤ 3000)
def sP (zs : List Int) (a : Int) (ok : Bool) : List Nd × Int × Bool := sNs zs (num8 zs a ok).1.toNat [] (num8 zs a ok).2.1 (sCount zs a ok)
/-- Whether all was right, and all was read. -/
def sOk (zs : List Int) (a : Int) (ok : Bool) : Bool := (sP zs a ok).2.2 && decide ((sP zs a ok).2.1 = zs.length) && poolB (sP zs a ok).1

theorem rd1_num8 (zs : List Int) (a : Int) : (num8 zs a true).2.2 = (rd1 zs a).isSome ∧ ∀ p, rd1 zs a = some p → num8 zs a true = (p.1, p.2, true) := by
  unfold num8 rd1
  cases (gN zs a).2.2 <;> simp
theorem num8_false (zs : List Int) (a : Int) : num8 zs a false = (0, a, false) := by simp [num8]
theorem num8_none {zs : List Int} {a : Int} (h : rd1 zs a = none) : num8 zs a true = (0, a, false) := by
  unfold num8 rd1 at *
  cases hg : (gN zs a).2.2 with
  | false => simp
  | true => rw [hg] at h; cases h
theorem rd1_range {zs : List Int} {a : Int} {p : Int × Int} (h : rd1 zs a = some p) : 0 ≤ p.1 ∧ p.1 ≤ 9223372036854775807 ∧ 0 ≤ p.2 ∧ p.2 ≤ zs.length := by
  unfold rd1 at h
  split at h
  · rename_i hk
    cases h
    have := gN_ok zs a (gN zs a).1 (gN zs a).2.1 (by rw [← hk])
    exact this
  · cases h
theorem num8_range (zs : List Int) (a : Int) (ok : Bool) (h0 : 0 ≤ a) (h1 : a ≤ zs.length) : 0 ≤ (num8 zs a ok).1 ∧ (num8 zs a ok).1 ≤ 9223372036854775807 ∧ 0 ≤ (num8 zs a ok).2.1 ∧ (num8 zs a ok).2.1 ≤ zs.length := by
  cases ok with
  | false => rw [num8_false]; exact ⟨by omega, by omega, h0, h1⟩
  | true =>
    cases hr : rd1 zs a with
    | none => rw [num8_none hr]; exact ⟨by omega, by omega, h0, h1⟩
    | some p => rw [(rd1_num8 zs a).2 p hr]; exact rd1_range hr
/-- A node is read as it is, or something is wrong, or it is none of a pool's. -/
theorem sB_rdB (zs : List Int) (k a : Int) : (∀ p, rdB zs k a = some p → sB zs k a true = (p.1, p.2, true)) ∧ (rdB zs k a = none → (sB zs k a true).2.2 = false ∨ ∀ i, nodeB (sB zs k a true).1 i = false) := by
  unfold rdB sB
  by_cases h1 : k = 1
  · subst h1
    rw [if_pos rfl, if_neg (by omega), if_neg (by omega), if_neg (by omega), if_neg (by omega), if_neg (by omega), if_neg (by omega)]
    exact ⟨fun p h => by (cases h; rfl), fun h => by (cases h)⟩
  rw [if_neg h1]
  by_cases h2 : k = 2 ∨ k = 8 ∨ k = 9
  · rw [if_pos h2, if_pos h2]
    cases hr : rd1 zs a with
    | none => rw [num8_none hr]; exact ⟨fun p h => by (simp at h), fun _ => .inl rfl⟩
    | some q => rw [(rd1_num8 zs a).2 q hr]; exact ⟨fun p h => by (simp at h; subst h; rfl), fun h => by (simp at h)⟩
  rw [if_neg h2, if_neg h2]
  by_cases h3 : k = 3
  · subst h3
    rw [if_pos rfl, if_pos rfl]
    cases hr : rd1 zs a with
    | none => rw [num8_none hr]; exact ⟨fun p h => by (simp at h), fun _ => .inl rfl⟩
    | some q => rw [(rd1_num8 zs a).2 q hr]; exact ⟨fun p h => by (simp at h; subst h; rfl), fun h => by (simp at h)⟩
  rw [if_neg h3, if_neg h3]
  by_cases h4 : k = 4
  · subst h4
    rw [if_pos rfl, if_pos rfl]
    cases hg : (gT zs a).2.2 with
    | false => exact ⟨fun p h => by (simp at h), fun _ => .inl (by simp)⟩
    | true => exact ⟨fun p h => by (simp at h; subst h; rfl), fun h => by (simp at h)⟩
  rw [if_neg h4, if_neg h4]
  by_cases h5 : k = 5
  · subst h5
    rw [if_pos rfl, if_pos rfl]
    cases hr : rd1 zs a with
    | none => rw [num8_none hr]; exact ⟨fun p h => by (simp at h), fun _ => .inl (by simp only [num8_false])⟩
    | some q =>
      rw [(rd1_num8 zs a).2 q hr]
      simp only [Option.bind_some]
      cases hr2 : rd1 zs q.2 with
      | none => rw [num8_none hr2]; exact ⟨fun p h => by (simp at h), fun _ => .inl rfl⟩
      | some t => rw [(rd1_num8 zs q.2).2 t hr2]; exact ⟨fun p h => by (simp at h; subst h; rfl), fun h => by (simp at h)⟩
  rw [if_neg h5, if_neg h5]
  by_cases h6 : k = 6
  · subst h6
    rw [if_pos rfl, if_pos rfl]
    cases hr : rd1 zs a with
    | none => rw [num8_none hr]; exact ⟨fun p h => by (simp at h), fun _ => .inl (by simp only [num8_false])⟩
    | some q =>
      rw [(rd1_num8 zs a).2 q hr]
      simp only [Option.bind_some]
      cases hr2 : rd1 zs q.2 with
      | none => rw [num8_none hr2]; exact ⟨fun p h => by (simp at h), fun _ => .inl rfl⟩
      | some t => rw [(rd1_num8 zs q.2).2 t hr2]; exact ⟨fun p h => by (simp at h; subst h; rfl), fun h => by (simp at h)⟩
  rw [if_neg h6, if_neg h6]
  by_cases h7 : k = 7
  · subst h7
    rw [if_pos rfl, if_pos rfl]
    cases hr : rd1 zs a with
    | none => rw [num8_none hr]; exact ⟨fun p h => by (simp at h), fun _ => .inl rfl⟩
    | some q => rw [(rd1_num8 zs a).2 q hr]; exact ⟨fun p h => by (simp at h; subst h; rfl), fun h => by (simp at h)⟩
  rw [if_neg h7, if_neg h7]
  refine ⟨fun p h => by (cases h), fun _ => Or.inr fun i => ?_⟩
  unfold nodeB
  have : (decide (1 ≤ k) && decide (k ≤ 9)) = false := by
    rcases Int.lt_or_le k 1 with h | h
    · rw [decide_eq_false (by omega)]; rfl
    · rcases Int.lt_or_le 9 k with h' | h'
      · rw [decide_eq_false (p := k ≤ 9) (by omega), Bool.and_false]
      · omega
  show (decide (1 ≤ k) && decide (k ≤ 9) && _ && _ && _) = false
  rw [this]
  rfl
theorem sN_rd (zs : List Int) (a : Int) : (∀ p, rdNd zs a = some p → sN zs a = (p.1, p.2, true)) ∧ (rdNd zs a = none → (sN zs a).2.2 = false ∨ ∀ i, nodeB (sN zs a).1 i = false) := by
  unfold rdNd sN
  cases hr : rd1 zs a with
  | none =>
    rw [num8_none hr]
    refine ⟨fun p h => by (simp at h), fun _ => .inl ?_⟩
    simp [sB]
  | some q =>
    rw [(rd1_num8 zs a).2 q hr]
    exact sB_rdB zs q.1 q.2
theorem nodesB_append (xs ys : List Nd) (i : Nat) : nodesB (xs ++ ys) i = (nodesB xs i && nodesB ys (i + xs.length)) := by
  induction xs generalizing i with
  | nil => simp [nodesB]
  | cons x xs ih => simp only [List.cons_append, nodesB, List.length_cons]; rw [ih, Bool.and_assoc, show i + 1 + xs.length = i + (xs.length + 1) by omega]
theorem sNs_grows (zs : List Int) : ∀ (m : Nat) (xs : List Nd) (a : Int) (ok : Bool), ∃ ys, (sNs zs m xs a ok).1 = xs ++ ys
  | 0, xs, a, ok => ⟨[], by simp [sNs]⟩
  | m + 1, xs, a, ok => by
    rw [sNs]
    split
    · obtain ⟨ys, h⟩ := sNs_grows zs m (xs ++ [(sN zs a).1]) (sN zs a).2.1 (sN zs a).2.2
      exact ⟨[(sN zs a).1] ++ ys, by rw [h, List.append_assoc]⟩
    · exact ⟨[], by simp⟩
theorem sNs_false (zs : List Int) (m : Nat) (xs : List Nd) (a : Int) : sNs zs m xs a false = (xs, a, false) := by cases m <;> rfl
theorem sNs_rd (zs : List Int) : ∀ (m : Nat) (xs : List Nd) (a : Int),
    (∀ p, rdNds zs m a = some p → sNs zs m xs a true = (xs ++ p.1, p.2, true)) ∧ (rdNds zs m a = none → (sNs zs m xs a true).2.2 = false ∨ nodesB (sNs zs m xs a true).1 0 = false)
  | 0, xs, a => ⟨fun p h => by cases h; simp [sNs], fun h => by cases h⟩
  | m + 1, xs, a => by
    rw [rdNds, sNs, if_pos rfl]
    obtain ⟨n1, n2⟩ := sN_rd zs a
    cases hr : rdNd zs a with
    | some p =>
      rw [n1 p hr]
      obtain ⟨i1, i2⟩ := sNs_rd zs m (xs ++ [p.1]) p.2
      simp only [Option.bind_some]
      cases hr2 : rdNds zs m p.2 with
      | some q => exact ⟨fun t h => by (simp at h; subst h; rw [i1 q hr2]; simp), fun h => by (simp at h)⟩
      | none => exact ⟨fun t h => by (simp at h), fun _ => i2 hr2⟩
    | none =>
      refine ⟨fun t h => by (simp at h), fun _ => ?_⟩
      rcases n2 hr with h | h
      · rw [h, sNs_false]; exact .inl rfl
      · right
        obtain ⟨ys, hy⟩ := sNs_grows zs m (xs ++ [(sN zs a).1]) (sN zs a).2.1 (sN zs a).2.2
        rw [hy, List.append_assoc, nodesB_append, List.singleton_append, nodesB, h, Bool.false_and, Bool.and_false]
/-- What the specification's reader comes to. -/
theorem sP_rdP (zs : List Int) (a : Int) (xs : List Nd) : (sOk zs a true = true ∧ (sP zs a true).1 = xs) ↔ rdP zs a = some (xs, (zs.length : Int)) := by
  unfold sOk rdP sP sCount
  cases hr : rd1 zs a with
  | none => rw [num8_none hr]; simp [sNs]
  | some q =>
    rw [(rd1_num8 zs a).2 q hr]
    simp only [Option.bind_some, Bool.true_and]
    by_cases hq : q.1 > 3000
    · rw [if_pos hq, decide_eq_false (by omega), sNs_false]
      simp
    · rw [if_neg hq, decide_eq_true (by omega)]
      obtain ⟨i1, i2⟩ := sNs_rd zs q.1.toNat [] q.2
      cases hr2 : rdNds zs q.1.toNat q.2 with
      | some p =>
        rw [i1 p hr2]
        simp only [List.nil_append, Option.bind_some, Bool.true_and, Bool.and_eq_true, decide_eq_true_eq]
        obtain ⟨p1, p2⟩ := p
        constructor
        · rintro ⟨⟨h1, h2⟩, h3⟩
          rw [if_pos h2]
          simp only at h1 h3
          rw [h1, h3]
        · intro h
          split at h
          · rename_i h2
            cases h
            exact ⟨⟨rfl, h2⟩, rfl⟩
          · cases h
      | none =>
        simp only [Option.bind_none, reduceCtorEq, iff_false]
        rintro ⟨h, -⟩
        simp only [Bool.and_eq_true, poolB] at h
        rcases i2 hr2 with h' | h'
        · rw [h'] at h; simp at h
        · rw [h'] at h; simp at h
/-- What is read and ends there is written just so. -/
theorem rdP_wire {zs : List Int} {xs : List Nd} (hz : ∀ z ∈ zs, 0 ≤ z ∧ z ≤ 255) (h : rdP zs 0 = some (xs, (zs.length : Int))) : poolB xs = true ∧ wireL xs = zs := by
  unfold rdP at h
  rw [Option.bind_eq_some_iff] at h
  obtain ⟨⟨n, a⟩, h1, h2⟩ := h
  split at h2
  · cases h2
  rw [Option.bind_eq_some_iff] at h2
  obtain ⟨⟨ys, b⟩, h3, h4⟩ := h2
  split at h4
  · rename_i hp
    cases h4
    obtain ⟨L1, hn⟩ := rd1_lies hz h1
    obtain ⟨L2, hl⟩ := rdNds_lies hz n.toNat a _ xs (by have := L1.1; have := L1.2.1; omega) h3
    refine ⟨hp, ?_⟩
    obtain ⟨_, hlen, rest, hr⟩ := L1.append L2
    have e : (xs.length : Int) = n := by omega
    unfold wireL
    rw [e]
    rw [Int.toNat_zero, List.drop_zero] at hr
    have hlen2 := congrArg List.length hr
    rw [List.length_append] at hlen2
    have : rest = [] := List.eq_nil_of_length_eq_zero (by omega)
    rw [this, List.append_nil] at hr
    exact hr.symm
  · cases h4
theorem encI_head {x y : Int} {l m : List Int} (hx : 0 ≤ x) (hy : 0 ≤ y) (hx1 : x ≤ 9223372036854775807) (hy1 : y ≤ 9223372036854775807) (h : encI x ++ l = encI y ++ m) : x = y := by
  have h1 := gN_enc [] l x hx hx1
  have h2 := gN_enc [] m y hy hy1
  rw [encI_pos x hx, encI_pos y hy] at h
  rw [h, h2] at h1
  have := congrArg (fun t => t.1) h1
  exact this.symm
end Go.Proofs.Ytpkpednemkagiaa

/-
  One text more is read: plain mathematics. No condition.
-/
namespace Go.Proofs.Ytpkpednemkagiaa
open Go.RowKit

/-- One text more. -/
def rt (zs : List Int) (a : Int) : Option (ByteArray × Int) := if (gT zs a).2.2 then some ((gT zs a).1, (gT zs a).2.1) else none
def txt8 (zs : List Int) (at_ : Int) (ok : Bool) : ByteArray × Int × Bool := if ok && (gT zs at_).2.2 then ((gT zs at_).1, (gT zs at_).2.1, true) else (⟨#[]⟩, at_, false)
theorem rt_txt8 (zs : List Int) (a : Int) : txt8 zs a true = match rt zs a with | some p => (p.1, p.2, true) | none => (⟨#[]⟩, a, false) := by
  unfold txt8 rt
  cases (gT zs a).2.2 <;> rfl
theorem gT_range (zs : List Int) (a : Int) : 0 ≤ (gT zs a).2.1 ∧ (gT zs a).2.1 ≤ zs.length := by
  unfold gT
  split
  · rename_i hc
    obtain ⟨h1, h2⟩ := hc
    have hg := gN_ok zs a (gN zs a).1 (gN zs a).2.1 (by rw [← h1])
    show 0 ≤ (gN zs a).2.1 + (gN zs a).1 ∧ (gN zs a).2.1 + (gN zs a).1 ≤ zs.length
    omega
  · show (0 : Int) ≤ 0 ∧ (0 : Int) ≤ zs.length
    omega
theorem rd1_put (pre post : List Int) (x : Int) (h0 : 0 ≤ x) (h1 : x ≤ 9223372036854775807) : rd1 (pre ++ (encI x ++ post)) pre.length = some (x, (pre.length : Int) + (encI x).length) := by
  unfold rd1
  rw [encI_pos x h0, gN_enc pre post x h0 h1]
  rfl
theorem gT_put (pre post : List Int) (s : ByteArray) (h : s.size ≤ 1048576) : gT (pre ++ (pt s ++ post)) pre.length = (s, (pre.length : Int) + (pt s).length, true) := by
  have hp : pt s = enc 9 s.size ++ sb s := by rw [pt, encI_pos _ (by omega)]
  have hg := gN_enc pre (sb s ++ post) s.size (by omega) (by omega)
  unfold gT
  rw [hp, List.append_assoc, hg]
  have hl : ((pre ++ (enc 9 ↑s.size ++ (sb s ++ post))).length : Int) = pre.length + (enc 9 s.size).length + s.size + post.length := by simp [sb_length]; omega
  rw [if_pos ⟨rfl, by rw [hl]; simp only; omega⟩]
  have e1 : ((pre.length : Int) + (enc 9 ↑s.size).length).toNat = (pre ++ enc 9 s.size).length := by simp; omega
  simp only
  rw [e1, ← List.append_assoc, List.drop_left, Int.toNat_natCast, show s.size = (sb s).length from (sb_length s).symm, List.take_left, strOfNums_sb]
  simp [sb_length]
  omega
end Go.Proofs.Ytpkpednemkagiaa

/-
  What MailRead answers: plain mathematics. No condition.
-/
namespace Go.Proofs.Ytpkpednemkagiaa
open Go.RowKit

/-- The text that ends a payload. -/
def mEnd (zs : List Int) (k p a : Int) : Option (Int × Int × ByteArray) := (rt zs a).bind fun t => if t.2 = zs.length then some (k, p, t.1) else none
/-- What a payload says. -/
def mrd (zs : List Int) : Option (Int × Int × ByteArray) :=
  (rd1 zs 0).bind fun k => if k.1 = 1 then (rd1 zs k.2).bind fun p => mEnd zs 1 p.1 p.2 else if k.1 = 2 then mEnd zs 2 0 k.2 else none
def mrA : Option (Int × Int × ByteArray) → Value
  | none => .tuple #[.int .i64 0, .int .i64 0, .string ⟨#[]⟩, .bool false]
  | some (k, p, t) => .tuple #[.int .i64 k, .int .i64 p, .string t, .bool true]
theorem results_tmp4 {fn : Func} {t u v x : Tmp} (h : fn.results = #[.tmp t, .tmp u, .tmp v, .tmp x]) (tmps : Array Value) (P : Program) (w : World) :
    (results fn tmps).run P w = .ok (.tuple #[tmps.getD t undef, tmps.getD u undef, tmps.getD v undef, tmps.getD x undef]) w := by
  simp [results, h]
theorem txt8_false (zs : List Int) (a : Int) : txt8 zs a false = (⟨#[]⟩, a, false) := by simp [txt8]
end Go.Proofs.Ytpkpednemkagiaa
