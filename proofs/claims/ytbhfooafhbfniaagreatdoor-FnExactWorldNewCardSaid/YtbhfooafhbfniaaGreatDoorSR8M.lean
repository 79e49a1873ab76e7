/-
  Texts that stood by themselves, laid into one.
-/
import Derived.Test.YtbhfooafhbfniaaGreatDoorR8bM
import Derived.Test.YtbhfooafhbfniaaGreatDoorNextM
import Derived.Test.YtbhfooafhbfniaaGreatDoorShapeM
import Derived.Deep.RegionHeld3
/-
  Plain mathematics: what is put is got, whatever stands behind it. Nothing of the program; no condition.
-/
namespace Go.Proofs.YtbhfooafhbfniaaGreatDoor
open Go.RowKit
theorem scan_enc (post : List Int) (f : Nat) (x : Int) (h0 : 0 ≤ x) (hl : x < lim (f + 1)) : scan (f + 1) (enc (f + 1) x ++ post) = some (enc (f + 1) x) := by
  induction f generalizing x with
  | zero =>
    have hx : x < 128 := by simpa [lim] using hl
    rw [enc_last 0 x hx]; simp [scan, hx]
  | succ f ih =>
    by_cases hx : x < 128
    · rw [enc_last _ x hx]; simp [scan, hx]
    · obtain ⟨f', hf, hl'⟩ := lim_more (f + 1) x (by omega) hl
      rw [enc_more _ x (by omega), List.cons_append]
      simp only [scan]
      rw [if_neg (by omega), ih (x / 128) (by omega) hl']
      rfl
theorem val_enc (f : Nat) (x : Int) (h0 : 0 ≤ x) (hl : x < lim (f + 1)) : val (enc (f + 1) x) = x := by
  induction f generalizing x with
  | zero =>
    have hx : x < 128 := by simpa [lim] using hl
    rw [enc_last 0 x hx]; simp only [val]; omega
  | succ f ih =>
    by_cases hx : x < 128
    · rw [enc_last _ x hx]; simp only [val]; omega
    · obtain ⟨f', hf, hl'⟩ := lim_more (f + 1) x (by omega) hl
      rw [enc_more _ x (by omega)]
      simp only [val]
      rw [ih (x / 128) (by omega) hl']
      omega
theorem last_enc (f : Nat) (x : Int) (h0 : 0 < x) (hl : x < lim (f + 1)) : (enc (f + 1) x).getLast? ≠ some 0 := by
  induction f generalizing x with
  | zero =>
    have hx : x < 128 := by simpa [lim] using hl
    rw [enc_last 0 x hx]; simp; omega
  | succ f ih =>
    by_cases hx : x < 128
    · rw [enc_last _ x hx]; simp; omega
    · obtain ⟨f', hf, hl'⟩ := lim_more (f + 1) x (by omega) hl
      rw [enc_more _ x (by omega)]
      have hne : enc (f + 1) (x / 128) ≠ [] := by
        intro e
        have := scan_enc [] f (x / 128) (by omega) hl'
        rw [e] at this
        simp [scan] at this
      rw [List.getLast?_cons_of_ne_nil hne]
      exact ih (x / 128) (by omega) hl'
theorem nine_lim {x : Int} (h : x ≤ 9223372036854775807) : x < lim (8 + 1) := by
  rw [lim_nine]; omega
theorem gN_enc (pre post : List Int) (x : Int) (h0 : 0 ≤ x) (h1 : x ≤ 9223372036854775807) : gN (pre ++ (enc 9 x ++ post)) (pre.length : Int) = (x, (pre.length : Int) + (enc 9 x).length, true) := by
  have hs : scan 9 ((pre ++ (enc 9 x ++ post)).drop pre.length) = some (enc 9 x) := by
    rw [List.drop_left]
    exact scan_enc post 8 x h0 (nine_lim h1)
  have hneg : ¬ (pre.length : Int) < 0 := by omega
  simp only [gN, hneg, if_false, Int.toNat_natCast, hs]
  rw [if_neg, val_enc 8 x h0 (nine_lim h1)]
  intro hbad
  rcases Int.lt_or_eq_of_le h0 with h | h
  · exact last_enc 8 x h (nine_lim h1) hbad.2
  · subst h
    have := hbad.1
    rw [enc_last 8 0 (by omega)] at this
    simp at this
theorem strOfNums_sb (s : ByteArray) : strOfNums (sb s) = s := by
  have e0 : ∀ l : List UInt8, (l.map fun b => (b.toNat : Int)).map (fun n => UInt8.ofNat n.toNat) = l := by
    intro l
    induction l with
    | nil => rfl
    | cons b l ih => simp only [List.map_cons, ih]; simp
  have e : (sb s).map (fun n => UInt8.ofNat n.toNat) = s.data.toList := e0 _
  unfold strOfNums
  rw [e]
end Go.Proofs.YtbhfooafhbfniaaGreatDoor
/-
  How a pool is read from bytes, as the specification goes about it and as it comes to the same: plain mathematics. Nothing of the program; no condition.
-/
namespace Go.Proofs.YtbhfooafhbfniaaGreatDoor
open Go.RowKit
def num8 (zs : List Int) (at_ : Int) (ok : Bool) : Int × Int × Bool := if ok && (gN zs at_).2.2 then ((gN zs at_).1, (gN zs at_).2.1, true) else (0, at_, false)
def rdP (zs : List Int) (a : Int) : Option (List Nd × Int) :=
  (rd1 zs a).bind fun p => if p.1 > 3000 then none else (rdNds zs p.1.toNat p.2).bind fun q => if poolB q.1 then some q else none
def sB (zs : List Int) (k a : Int) (ok : Bool) : Nd × Int × Bool :=
  if k = 2 ∨ k = 8 ∨ k = 9 then (⟨k, (num8 zs a ok).1, ByteArray.empty, 0, 0⟩, (num8 zs a ok).2)
  else if k = 3 then (⟨k, (num8 zs a ok).1 - 1000000000, ByteArray.empty, 0, 0⟩, (num8 zs a ok).2)
  else if k = 4 then (⟨k, 0, (gT zs a).1, 0, 0⟩, (gT zs a).2.1, ok && (gT zs a).2.2)
  else if k = 5 then (⟨k, 0, ByteArray.empty, (num8 zs a ok).1, (num8 zs (num8 zs a ok).2.1 (num8 zs a ok).2.2).1⟩, (num8 zs (num8 zs a ok).2.1 (num8 zs a ok).2.2).2)
  else if k = 6 then (⟨k, (num8 zs a ok).1, ByteArray.empty, (num8 zs (num8 zs a ok).2.1 (num8 zs a ok).2.2).1, 0⟩, (num8 zs (num8 zs a ok).2.1 (num8 zs a ok).2.2).2)
  else if k = 7 then (⟨k, 0, ByteArray.empty, (num8 zs a ok).1, 0⟩, (num8 zs a ok).2)
  else (⟨k, 0, ByteArray.empty, 0, 0⟩, a, ok)
def sN (zs : List Int) (a : Int) : Nd × Int × Bool := sB zs (num8 zs a true).1 (num8 zs a true).2.1 (num8 zs a true).2.2
def sNs (zs : List Int) : Nat → List Nd → Int → Bool → List Nd × Int × Bool
  | 0, xs, a, ok => (xs, a, ok)
  | m + 1, xs, a, ok => if ok then sNs zs m (xs ++ [(sN zs a).1]) (sN zs a).2.1 (sN zs a).2.2 else (xs, a, false)
def sCount (zs : List Int) (a : Int) (ok : Bool) : Bool := (num8 zs a ok).2.2 && decide ((num8 zs a ok).1 ≤ 3000)
def sP (zs : List Int) (a : Int) (ok : Bool) : List Nd × Int × Bool := sNs zs (num8 zs a ok).1.toNat [] (num8 zs a ok).2.1 (sCount zs a ok)
def sOk (zs : List Int) (a : Int) (ok : Bool) : Bool := (sP zs a ok).2.2 && decide ((sP zs a ok).2.1 = zs.length) && poolB (sP zs a ok).1
theorem rd1_num8 (zs : List Int) (a : Int) : (num8 zs a true).2.2 = (rd1 zs a).isSome ∧ ∀ p, rd1 zs a = some p → num8 zs a true = (p.1, p.2, true) := by
  unfold num8 rd1
  cases (gN zs a).2.2 <;> simp
theorem num8_false (zs : List Int) (a : Int) : num8 zs a false = (0, a, false) := by simp [num8]
theorem num8_none {zs : List Int} {a : Int} (h : rd1 zs a = none) : num8 zs a true = (0, a, false) := by
  unfold num8 rd1 at *
  cases hg : (gN zs a).2.2 with
  | false => simp
  | true => rw [hg] at h; cases h
theorem rd1_range {zs : List Int} {a : Int} {p : Int × Int} (h : rd1 zs a = some p) : 0 ≤ p.1 ∧ p.1 ≤ 9223372036854775807 ∧ 0 ≤ p.2 ∧ p.2 ≤ zs.length := by
  unfold rd1 at h
  split at h
  · rename_i hk
    cases h
    have := gN_ok zs a (gN zs a).1 (gN zs a).2.1 (by rw [← hk])
    exact this
  · cases h
theorem num8_range (zs : List Int) (a : Int) (ok : Bool) (h0 : 0 ≤ a) (h1 : a ≤ zs.length) : 0 ≤ (num8 zs a ok).1 ∧ (num8 zs a ok).1 ≤ 9223372036854775807 ∧ 0 ≤ (num8 zs a ok).2.1 ∧ (num8 zs a ok).2.1 ≤ zs.length := by
  cases ok with
  | false => rw [num8_false]; exact ⟨by omega, by omega, h0, h1⟩
  | true =>
    cases hr : rd1 zs a with
    | none => rw [num8_none hr]; exact ⟨by omega, by omega, h0, h1⟩
    | some p => rw [(rd1_num8 zs a).2 p hr]; exact rd1_range hr
theorem sB_rdB (zs : List Int) (k a : Int) : (∀ p, rdB zs k a = some p → sB zs k a true = (p.1, p.2, true)) ∧ (rdB zs k a = none → (sB zs k a true).2.2 = false ∨ ∀ i, nodeB (sB zs k a true).1 i = false) := by
  unfold rdB sB
  by_cases h1 : k = 1
  · subst h1
    rw [if_pos rfl, if_neg (by omega), if_neg (by omega), if_neg (by omega), if_neg (by omega), if_neg (by omega), if_neg (by omega)]
    exact ⟨fun p h => by (cases h; rfl), fun h => by (cases h)⟩
  rw [if_neg h1]
  by_cases h2 : k = 2 ∨ k = 8 ∨ k = 9
  · rw [if_pos h2, if_pos h2]
    cases hr : rd1 zs a with
    | none => rw [num8_none hr]; exact ⟨fun p h => by (simp at h), fun _ => .inl rfl⟩
    | some q => rw [(rd1_num8 zs a).2 q hr]; exact ⟨fun p h => by (simp at h; subst h; rfl), fun h => by (simp at h)⟩
  rw [if_neg h2, if_neg h2]
  by_cases h3 : k = 3
  · subst h3
    rw [if_pos rfl, if_pos rfl]
    cases hr : rd1 zs a with
    | none => rw [num8_none hr]; exact ⟨fun p h => by (simp at h), fun _ => .inl rfl⟩
    | some q => rw [(rd1_num8 zs a).2 q hr]; exact ⟨fun p h => by (simp at h; subst h; rfl), fun h => by (simp at h)⟩
  rw [if_neg h3, if_neg h3]
  by_cases h4 : k = 4
  · subst h4
    rw [if_pos rfl, if_pos rfl]
    cases hg : (gT zs a).2.2 with
    | false => exact ⟨fun p h => by (simp at h), fun _ => .inl (by simp)⟩
    | true => exact ⟨fun p h => by (simp at h; subst h; rfl), fun h => by (simp at h)⟩
  rw [if_neg h4, if_neg h4]
  by_cases h5 : k = 5
  · subst h5
    rw [if_pos rfl, if_pos rfl]
    cases hr : rd1 zs a with
    | none => rw [num8_none hr]; exact ⟨fun p h => by (simp at h), fun _ => .inl (by simp only [num8_false])⟩
    | some q =>
      rw [(rd1_num8 zs a).2 q hr]
      simp only [Option.bind_some]
      cases hr2 : rd1 zs q.2 with
      | none => rw [num8_none hr2]; exact ⟨fun p h => by (simp at h), fun _ => .inl rfl⟩
      | some t => rw [(rd1_num8 zs q.2).2 t hr2]; exact ⟨fun p h => by (simp at h; subst h; rfl), fun h => by (simp at h)⟩
  rw [if_neg h5, if_neg h5]
  by_cases h6 : k = 6
  · subst h6
    rw [if_pos rfl, if_pos rfl]
    cases hr : rd1 zs a with
    | none => rw [num8_none hr]; exact ⟨fun p h => by (simp at h), fun _ => .inl (by simp only [num8_false])⟩
    | some q =>
      rw [(rd1_num8 zs a).2 q hr]
      simp only [Option.bind_some]
      cases hr2 : rd1 zs q.2 with
      | none => rw [num8_none hr2]; exact ⟨fun p h => by (simp at h), fun _ => .inl rfl⟩
      | some t => rw [(rd1_num8 zs q.2).2 t hr2]; exact ⟨fun p h => by (simp at h; subst h; rfl), fun h => by (simp at h)⟩
  rw [if_neg h6, if_neg h6]
  by_cases h7 : k = 7
  · subst h7
    rw [if_pos rfl, if_pos rfl]
    cases hr : rd1 zs a with
    | none => rw [num8_none hr]; exact ⟨fun p h => by (simp at h), fun _ => .inl rfl⟩
    | some q => rw [(rd1_num8 zs a).2 q hr]; exact ⟨fun p h => by (simp at h; subst h; rfl), fun h => by (simp at h)⟩
  rw [if_neg h7, if_neg h7]
  refine ⟨fun p h => by (cases h), fun _ => Or.inr fun i => ?_⟩
  unfold nodeB
  have : (decide (1 ≤ k) && decide (k ≤ 9)) = false := by
    rcases Int.lt_or_le k 1 with h | h
    · rw [decide_eq_false (by omega)]; rfl
    · rcases Int.lt_or_le 9 k with h' | h'
      · rw [decide_eq_false (p := k ≤ 9) (by omega), Bool.and_false]
      · omega
  show (decide (1 ≤ k) && decide (k ≤ 9) && _ && _ && _) = false
  rw [this]
  rfl
theorem sN_rd (zs : List Int) (a : Int) : (∀ p, rdNd zs a = some p → sN zs a = (p.1, p.2, true)) ∧ (rdNd zs a = none → (sN zs a).2.2 = false ∨ ∀ i, nodeB (sN zs a).1 i = false) := by
  unfold rdNd sN
  cases hr : rd1 zs a with
  | none =>
    rw [num8_none hr]
    refine ⟨fun p h => by (simp at h), fun _ => .inl ?_⟩
    simp [sB]
  | some q =>
    rw [(rd1_num8 zs a).2 q hr]
    exact sB_rdB zs q.1 q.2
theorem nodesB_append (xs ys : List Nd) (i : Nat) : nodesB (xs ++ ys) i = (nodesB xs i && nodesB ys (i + xs.length)) := by
  induction xs generalizing i with
  | nil => simp [nodesB]
  | cons x xs ih => simp only [List.cons_append, nodesB, List.length_cons]; rw [ih, Bool.and_assoc, show i + 1 + xs.length = i + (xs.length + 1) by omega]
theorem sNs_grows (zs : List Int) : ∀ (m : Nat) (xs : List Nd) (a : Int) (ok : Bool), ∃ ys, (sNs zs m xs a ok).1 = xs ++ ys
  | 0, xs, a, ok => ⟨[], by simp [sNs]⟩
  | m + 1, xs, a, ok => by
    rw [sNs]
    split
    · obtain ⟨ys, h⟩ := sNs_grows zs m (xs ++ [(sN zs a).1]) (sN zs a).2.1 (sN zs a).2.2
      exact ⟨[(sN zs a).1] ++ ys, by rw [h, List.append_assoc]⟩
    · exact ⟨[], by simp⟩
theorem sNs_false (zs : List Int) (m : Nat) (xs : List Nd) (a : Int) : sNs zs m xs a false = (xs, a, false) := by cases m <;> rfl
theorem sNs_rd (zs : List Int) : ∀ (m : Nat) (xs : List Nd) (a : Int),
    (∀ p, rdNds zs m a = some p → sNs zs m xs a true = (xs ++ p.1, p.2, true)) ∧ (rdNds zs m a = none → (sNs zs m xs a true).2.2 = false ∨ nodesB (sNs zs m xs a true).1 0 = false)
  | 0, xs, a => ⟨fun p h => by cases h; simp [sNs], fun h => by cases h⟩
  | m + 1, xs, a => by
    rw [rdNds, sNs, if_pos rfl]
    obtain ⟨n1, n2⟩ := sN_rd zs a
    cases hr : rdNd zs a with
    | some p =>
      rw [n1 p hr]
      obtain ⟨i1, i2⟩ := sNs_rd zs m (xs ++ [p.1]) p.2
      simp only [Option.bind_some]
      cases hr2 : rdNds zs m p.2 with
      | some q => exact ⟨fun t h => by (simp at h; subst h; rw [i1 q hr2]; simp), fun h => by (simp at h)⟩
      | none => exact ⟨fun t h => by (simp at h), fun _ => i2 hr2⟩
    | none =>
      refine ⟨fun t h => by (simp at h), fun _ => ?_⟩
      rcases n2 hr with h | h
      · rw [h, sNs_false]; exact .inl rfl
      · right
        obtain ⟨ys, hy⟩ := sNs_grows zs m (xs ++ [(sN zs a).1]) (sN zs a).2.1 (sN zs a).2.2
        rw [hy, List.append_assoc, nodesB_append, List.singleton_append, nodesB, h, Bool.false_and, Bool.and_false]
theorem sP_rdP (zs : List Int) (a : Int) (xs : List Nd) : (sOk zs a true = true ∧ (sP zs a true).1 = xs) ↔ rdP zs a = some (xs, (zs.length : Int)) := by
  unfold sOk rdP sP sCount
  cases hr : rd1 zs a with
  | none => rw [num8_none hr]; simp [sNs]
  | some q =>
    rw [(rd1_num8 zs a).2 q hr]
    simp only [Option.bind_some, Bool.true_and]
    by_cases hq : q.1 > 3000
    · rw [if_pos hq, decide_eq_false (by omega), sNs_false]
      simp
    · rw [if_neg hq, decide_eq_true (by omega)]
      obtain ⟨i1, i2⟩ := sNs_rd zs q.1.toNat [] q.2
      cases hr2 : rdNds zs q.1.toNat q.2 with
      | some p =>
        rw [i1 p hr2]
        simp only [List.nil_append, Option.bind_some, Bool.true_and, Bool.and_eq_true, decide_eq_true_eq]
        obtain ⟨p1, p2⟩ := p
        constructor
        · rintro ⟨⟨h1, h2⟩, h3⟩
          rw [if_pos h2]
          simp only at h1 h3
          rw [h1, h3]
        · intro h
          split at h
          · rename_i h2
            cases h
            exact ⟨⟨rfl, h2⟩, rfl⟩
          · cases h
      | none =>
        simp only [Option.bind_none, reduceCtorEq, iff_false]
        rintro ⟨h, -⟩
        simp only [Bool.and_eq_true, poolB] at h
        rcases i2 hr2 with h' | h'
        · rw [h'] at h; simp at h
        · rw [h'] at h; simp at h
theorem rdP_wire {zs : List Int} {xs : List Nd} (hz : ∀ z ∈ zs, 0 ≤ z ∧ z ≤ 255) (h : rdP zs 0 = some (xs, (zs.length : Int))) : poolB xs = true ∧ wireL xs = zs := by
  unfold rdP at h
  rw [Option.bind_eq_some_iff] at h
  obtain ⟨⟨n, a⟩, h1, h2⟩ := h
  split at h2
  · cases h2
  rw [Option.bind_eq_some_iff] at h2
  obtain ⟨⟨ys, b⟩, h3, h4⟩ := h2
  split at h4
  · rename_i hp
    cases h4
    obtain ⟨L1, hn⟩ := rd1_lies hz h1
    obtain ⟨L2, hl⟩ := rdNds_lies hz n.toNat a _ xs (by have := L1.1; have := L1.2.1; omega) h3
    refine ⟨hp, ?_⟩
    obtain ⟨_, hlen, rest, hr⟩ := L1.append L2
    have e : (xs.length : Int) = n := by omega
    unfold wireL
    rw [e]
    rw [Int.toNat_zero, List.drop_zero] at hr
    have hlen2 := congrArg List.length hr
    rw [List.length_append] at hlen2
    have : rest = [] := List.eq_nil_of_length_eq_zero (by omega)
    rw [this, List.append_nil] at hr
    exact hr.symm
  · cases h4
theorem encI_head {x y : Int} {l m : List Int} (hx : 0 ≤ x) (hy : 0 ≤ y) (hx1 : x ≤ 9223372036854775807) (hy1 : y ≤ 9223372036854775807) (h : encI x ++ l = encI y ++ m) : x = y := by
  have h1 := gN_enc [] l x hx hx1
  have h2 := gN_enc [] m y hy hy1
  rw [encI_pos x hx, encI_pos y hy] at h
  rw [h, h2] at h1
  have := congrArg (fun t => t.1) h1
  exact this.symm
end Go.Proofs.YtbhfooafhbfniaaGreatDoor
/-
  The contract of spec.l8Num: one number more is read, or something is wrong. No condition.
-/
namespace Go.Proofs.YtbhfooafhbfniaaGreatDoor
open Go.RowKit
def C8 (w : World) (b : Nat) (v : Value) (at_ : Int) (ok : Bool) : Prop := w.heap[b]? = some (.cells #[v, .int .i64 at_, .bool ok] 150 (0, 0))
set_option maxRecDepth 100000 in
set_option maxHeartbeats 3200000 in
theorem s8num_any (b : Nat) (v : Value) (zs : List Int) (at_ : Int) (ok : Bool) (w : World) (R : Row w v zs) (h : C8 w b v at_ ok) (hlo : -9223372036854775808 ≤ at_) (hhi : at_ ≤ 9223372036854775807) :
    Calls Tryz.prog 114 #[.pointer (some ⟨b, 0, none⟩)] w fun e w' => e = .returned (.int .i64 (num8 zs at_ ok).1) ∧ C8 w' b v (num8 zs at_ ok).2.1 (num8 zs at_ ok).2.2 ∧ w.grownBy w' (some b) := by
  have R' := R
  obtain ⟨ao, cap, rfl, _⟩ := R'
  unfold C8 at h
  have c0 : w.cell? ⟨b, 0, none⟩ = some (.slice ao zs.length cap) := cell_of_row _ _ 0 _ _ _ h
  have c1 : w.cell? ⟨b, 1, none⟩ = some (.int .i64 at_) := cell_of_row _ _ 1 _ _ _ h
  have c2 : w.cell? ⟨b, 2, none⟩ = some (.bool ok) := cell_of_row _ _ 2 _ _ _ h
  have f1 : w.frozen? ⟨b, 1, none⟩ = false := frozen_of_row _ _ 1 _ _ h
  have f2 : w.frozen? ⟨b, 2, none⟩ = false := frozen_of_row _ _ 2 _ _ h
  obtain ⟨g, hg⟩ : ∃ g, Hid (gN zs at_ = g) := ⟨_, rfl⟩
  obtain ⟨gx, gn, gk⟩ := g
  have HG : ∀ W : World, Row W (.slice ao zs.length cap) zs → Calls Tryz.prog 128 #[.slice ao zs.length cap, .int .i64 at_] W fun e w' => e = .returned (.tuple #[.int .i64 gx, .int .i64 gn, .bool gk]) ∧ w' = W := fun W RW => by
    have := sget_any _ zs at_ W RW hlo hhi
    rw [hg.out] at this
    exact this
  have HN : Hid (num8 zs at_ ok = if ok && gk then (gx, gn, true) else (0, at_, false)) := by unfold Hid num8; rw [hg.out]
  have hd : ∀ m, Below w.heap.size w (w.drewN m) := fun m => ⟨rfl, rfl, rfl, Nat.le_refl _, fun _ _ => rfl⟩
  go_enter Tryz.func114, Tryz.ntmps114
  go_wp2_with fail
  go_quiet (first | (go_at_call 128; refine Calls.quiet_of_same (HG _ R)))
  all_goals
    have lt := (Array.getElem?_eq_some_iff.1 h).1
    have h2 := ((hd nq).block _ lt).trans h
    have g2 : w.grownBy (w.drewN nq) (some b) := ⟨rfl, rfl, rfl, Nat.le_refl _, fun _ _ _ => rfl⟩
    clear c0 c1 c2 f1 f2 hd HG
    generalize w.drewN nq = w2 at *
    have c1 : w2.cell? ⟨b, 1, none⟩ = some (.int .i64 at_) := cell_of_row _ _ 1 _ _ _ h2
    have c2 : w2.cell? ⟨b, 2, none⟩ = some (.bool ok) := cell_of_row _ _ 2 _ _ _ h2
    have f1 : w2.frozen? ⟨b, 1, none⟩ = false := frozen_of_row _ _ 1 _ _ h2
    have f2 : w2.frozen? ⟨b, 2, none⟩ = false := frozen_of_row _ _ 2 _ _ h2
    cases gk with
    | false =>
      have HN2 : Hid (num8 zs at_ ok = (0, at_, false)) := by unfold Hid; rw [HN.out, Bool.and_false]; rfl
      clear HN hg
      go_wp2
      go_ret
      rw [HN2.out]
      exact ⟨rfl, heap_setCell_same w2 b 2 _ _ (.bool false) h2, grown_trans g2 (grown_set w2 b 2 _)⟩
    | true =>
      cases ok with
      | false =>
        have HN2 : Hid (num8 zs at_ false = (0, at_, false)) := HN.out
        clear HN hg
        go_wp2
        go_ret
        rw [HN2.out]
        exact ⟨rfl, heap_setCell_same w2 b 2 _ _ (.bool false) h2, grown_trans g2 (grown_set w2 b 2 _)⟩
      | true =>
        have HN2 : Hid (num8 zs at_ true = (gx, gn, true)) := HN.out
        clear HN hg
        go_wp2
        go_ret
        rw [HN2.out]
        exact ⟨rfl, heap_setCell_same w2 b 1 _ _ (.int .i64 gn) h2, grown_trans g2 (grown_set w2 b 1 _)⟩
end Go.Proofs.YtbhfooafhbfniaaGreatDoor
