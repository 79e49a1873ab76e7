/-
  Texts that stood by themselves, laid into one.
-/
import Derived.Test.YtaojlmoppbknbaaGreatDoorNdM
import Derived.Test.YtaojlmoppbknbaaGreatDoorSizeIM
import Derived.Test.YtaojlmoppbknbaaGreatDoorFormM
/-
  How nodes are written as bytes: plain mathematics. Nothing of the program; no condition.
-/
namespace Go.Proofs.YtaojlmoppbknbaaGreatDoor
open Go.RowKit

/-- What is written of a node behind its kind. -/
def wireB (x : Nd) : List Int :=
  if x.k = 2 ∨ x.k = 8 ∨ x.k = 9 then encI x.n else if x.k = 3 then encI (x.n + 1000000000) else if x.k = 4 then pt x.s
  else if x.k = 5 then encI x.a ++ encI x.b else if x.k = 6 then encI x.n ++ encI x.a else if x.k = 7 then encI x.a else []
def wireN (x : Nd) : List Int := encI x.k ++ wireB x
def wireL (xs : List Nd) : List Int := encI xs.length ++ xs.flatMap wireN

/-- A node within bounds. -/
def NdOk (x : Nd) : Prop := (1 ≤ x.k ∧ x.k ≤ 9) ∧ (-1000000000 ≤ x.n ∧ x.n ≤ 1000000000) ∧ x.s.size ≤ 12 ∧ (x.a ≤ 3000 ∧ x.b ≤ 3000)
theorem ndok_of {x : Nd} {i : Int} (h : nodeB x i = true) (hle : i ≤ 3000) : NdOk x := by
  have hlo : -1000000000 ≤ lo x.k := by unfold lo; split <;> decide
  have hhi : hi x.k ≤ 1000000000 := by
    unfold hi
    split
    · decide
    · split
      · decide
      · split <;> decide
  simp only [nodeB, Bool.and_eq_true, decide_eq_true_eq] at h
  obtain ⟨⟨⟨⟨h1, h2⟩, h3⟩, h4⟩, ⟨h5, h6⟩, h7⟩ := h
  refine ⟨⟨h1, h2⟩, ⟨by omega, by omega⟩, ?_, ?_, ?_⟩
  · unfold nameFB at h5
    split at h5
    · simp only [nameB, Bool.and_eq_true, decide_eq_true_eq] at h5
      exact h5.1.2
    · have e : x.s.toList = [] := by simpa using h5
      rw [ByteArray.toList_eq] at e
      have : x.s.size = 0 := by
        rw [show x.s.size = x.s.data.toList.length by rw [Array.length_toList]; rfl, e]; rfl
      omega
  · unfold partB at h6
    split at h6
    · simp only [Bool.and_eq_true, decide_eq_true_eq] at h6; omega
    · have : x.a = 0 := by simpa using h6
      omega
  · unfold partB at h7
    split at h7
    · simp only [Bool.and_eq_true, decide_eq_true_eq] at h7; omega
    · have : x.b = 0 := by simpa using h7
      omega
theorem pool_ndok {xs : List Nd} (h : poolB xs = true) : ∀ x ∈ xs, NdOk x := by
  intro x hx
  obtain ⟨i, hi⟩ := List.getElem?_of_mem hx
  have hl : i < xs.length := (List.getElem?_eq_some_iff.1 hi).1
  have hm : xs.length ≤ 3000 := by simp only [poolB, Bool.and_eq_true, decide_eq_true_eq] at h; exact h.1
  exact ndok_of (poolB_at h hi) (by omega)

theorem wireB_len (x : Nd) (h : x.s.size ≤ 12) : (wireB x).length ≤ 21 := by
  have e := encI_length
  unfold wireB
  split
  · have := e x.n; omega
  · split
    · have := e (x.n + 1000000000); omega
    · split
      · rw [pt_length]; have := e x.s.size; omega
      · split
        · rw [List.length_append]; have := e x.a; have := e x.b; omega
        · split
          · rw [List.length_append]; have := e x.n; have := e x.a; omega
          · split
            · have := e x.a; omega
            · simp
theorem wireN_len (x : Nd) (h : x.s.size ≤ 12) : (wireN x).length ≤ 30 := by
  have := wireB_len x h
  have := encI_length x.k
  unfold wireN
  rw [List.length_append]
  omega
theorem wires_len (xs : List Nd) (h : ∀ x ∈ xs, NdOk x) : (xs.flatMap wireN).length ≤ 30 * xs.length := by
  induction xs with
  | nil => simp
  | cons x xs ih =>
    have h1 := wireN_len x (h x List.mem_cons_self).2.2.1
    have h2 := ih (fun y hy => h y (List.mem_cons_of_mem _ hy))
    rw [List.flatMap_cons, List.length_append, List.length_cons]
    omega
theorem wireB_wf (x : Nd) : ∀ z ∈ wireB x, 0 ≤ z ∧ z ≤ 255 := by
  intro z hz
  unfold wireB at hz
  split at hz
  · exact encI_wf _ z hz
  · split at hz
    · exact encI_wf _ z hz
    · split at hz
      · exact pt_wf _ z hz
      · split at hz
        · rcases List.mem_append.1 hz with h | h <;> exact encI_wf _ z h
        · split at hz
          · rcases List.mem_append.1 hz with h | h <;> exact encI_wf _ z h
          · split at hz
            · exact encI_wf _ z hz
            · simp at hz
theorem wires_wf (xs : List Nd) : ∀ z ∈ xs.flatMap wireN, 0 ≤ z ∧ z ≤ 255 := by
  intro z hz
  obtain ⟨x, _, h⟩ := List.mem_flatMap.1 hz
  unfold wireN at h
  rcases List.mem_append.1 h with h | h
  · exact encI_wf _ z h
  · exact wireB_wf x z h
theorem wireL_wf (xs : List Nd) : ∀ z ∈ wireL xs, 0 ≤ z ∧ z ≤ 255 := by
  intro z hz
  unfold wireL at hz
  rcases List.mem_append.1 hz with h | h
  · exact encI_wf _ z h
  · exact wires_wf xs z h
theorem wires_take (xs : List Nd) (k : Nat) (x : Nd) (h : xs[k]? = some x) : (xs.take (k + 1)).flatMap wireN = (xs.take k).flatMap wireN ++ wireN x := by
  rw [List.take_add_one, h]; simp
end Go.Proofs.YtaojlmoppbknbaaGreatDoor

/-
  How nodes are read from bytes, and that what is read stands there in just the bytes that it is written in: plain mathematics. Nothing of the program; no condition.
-/
namespace Go.Proofs.YtaojlmoppbknbaaGreatDoor
open Go.RowKit

/-- The bytes L stand from the place a on; behind them is the place b. -/
def Lies (zs : List Int) (a : Int) (L : List Int) (b : Int) : Prop := 0 ≤ a ∧ b = a + L.length ∧ ∃ rest, zs.drop a.toNat = L ++ rest
theorem Lies.append {zs L M : List Int} {a b c : Int} (h : Lies zs a L b) (k : Lies zs b M c) : Lies zs a (L ++ M) c := by
  obtain ⟨h1, h2, r, h3⟩ := h
  obtain ⟨k1, k2, t, k3⟩ := k
  refine ⟨h1, by rw [k2, h2]; simp; omega, t, ?_⟩
  have e : b.toNat = a.toNat + L.length := by omega
  rw [e, ← List.drop_drop, h3, List.drop_left] at k3
  rw [h3, k3, List.append_assoc]
theorem Lies.nil {zs : List Int} {a : Int} (h : 0 ≤ a) : Lies zs a [] a := ⟨h, by simp, _, rfl⟩
theorem sb_str {l : List Int} (h : ∀ z ∈ l, 0 ≤ z ∧ z ≤ 255) : sb (strOfNums l) = l := by
  unfold sb strOfNums
  simp only [List.map_map]
  conv => rhs; rw [← List.map_id l]
  apply List.map_congr_left
  intro z hz
  have := h z hz
  simp only [Function.comp, id]
  rw [UInt8.toNat_ofNat']
  omega
theorem gT_lies {zs : List Int} {a next : Int} {s : ByteArray} (hz : ∀ z ∈ zs, 0 ≤ z ∧ z ≤ 255) (h : gT zs a = (s, next, true)) : Lies zs a (pt s) next := by
  unfold gT at h
  split at h
  · rename_i hc
    obtain ⟨h1, h2⟩ := hc
    have hg : gN zs a = ((gN zs a).1, (gN zs a).2.1, true) := by rw [← h1]
    obtain ⟨g1, g2, g3, r, g4⟩ := gN_bytes hz hg
    generalize (gN zs a).1 = n at *
    generalize (gN zs a).2.1 = m at *
    cases h
    have hm : 0 ≤ m := by omega
    have hlen : ((zs.drop m.toNat).take n.toNat).length = n.toNat := by rw [List.length_take, List.length_drop]; omega
    have hsb : sb (strOfNums ((zs.drop m.toNat).take n.toNat)) = (zs.drop m.toNat).take n.toNat := sb_str (fun z h => hz z (List.mem_of_mem_drop (List.mem_of_mem_take h)))
    have hsz : ((strOfNums ((zs.drop m.toNat).take n.toNat)).size : Int) = n := by
      have := congrArg List.length hsb
      rw [sb_length, hlen] at this
      omega
    have L1 : Lies zs a (encI n) m := ⟨g1, g3, r, g4⟩
    have L2 : Lies zs m ((zs.drop m.toNat).take n.toNat) (m + n) := ⟨hm, by rw [hlen]; omega, (zs.drop m.toNat).drop n.toNat, (List.take_append_drop _ _).symm⟩
    have := L1.append L2
    unfold pt
    rw [hsz, hsb]
    exact this
  · cases h

/-- One number; one node's fields; one node; so many nodes. -/
def rd1 (zs : List Int) (a : Int) : Option (Int × Int) := if (gN zs a).2.2 then some ((gN zs a).1, (gN zs a).2.1) else none
def rdB (zs : List Int) (k a : Int) : Option (Nd × Int) :=
  if k = 1 then some (⟨1, 0, ByteArray.empty, 0, 0⟩, a)
  else if k = 2 ∨ k = 8 ∨ k = 9 then (rd1 zs a).map fun p => (⟨k, p.1, ByteArray.empty, 0, 0⟩, p.2)
  else if k = 3 then (rd1 zs a).map fun p => (⟨3, p.1 - 1000000000, ByteArray.empty, 0, 0⟩, p.2)
  else if k = 4 then (if (gT zs a).2.2 then some (⟨4, 0, (gT zs a).1, 0, 0⟩, (gT zs a).2.1) else none)
  else if k = 5 then (rd1 zs a).bind fun p => (rd1 zs p.2).map fun q => (⟨5, 0, ByteArray.empty, p.1, q.1⟩, q.2)
  else if k = 6 then (rd1 zs a).bind fun p => (rd1 zs p.2).map fun q => (⟨6, p.1, ByteArray.empty, q.1, 0⟩, q.2)
  else if k = 7 then (rd1 zs a).map fun p => (⟨7, 0, ByteArray.empty, p.1, 0⟩, p.2)
  else none
def rdNd (zs : List Int) (a : Int) : Option (Nd × Int) := (rd1 zs a).bind fun p => rdB zs p.1 p.2
def rdNds (zs : List Int) : Nat → Int → Option (List Nd × Int)
  | 0, a => some ([], a)
  | n + 1, a => (rdNd zs a).bind fun p => (rdNds zs n p.2).map fun q => (p.1 :: q.1, q.2)

theorem rd1_lies {zs : List Int} {a x b : Int} (hz : ∀ z ∈ zs, 0 ≤ z ∧ z ≤ 255) (h : rd1 zs a = some (x, b)) : Lies zs a (encI x) b ∧ 0 ≤ x := by
  unfold rd1 at h
  split at h
  · rename_i h1
    cases h
    have hg : gN zs a = ((gN zs a).1, (gN zs a).2.1, true) := by rw [← h1]
    obtain ⟨g1, g2, g3, g4⟩ := gN_bytes hz hg
    exact ⟨⟨g1, g3, g4⟩, g2⟩
  · cases h
theorem rdB_lies {zs : List Int} {k a b : Int} {x : Nd} (hz : ∀ z ∈ zs, 0 ≤ z ∧ z ≤ 255) (ha : 0 ≤ a) (h : rdB zs k a = some (x, b)) : Lies zs a (wireB x) b ∧ x.k = k := by
  unfold rdB at h
  split at h
  · rename_i hk; subst hk
    cases h
    exact ⟨Lies.nil ha, rfl⟩
  split at h
  · rename_i hk
    rw [Option.map_eq_some_iff] at h
    obtain ⟨⟨n, c⟩, h1, h2⟩ := h
    cases h2
    refine ⟨?_, rfl⟩
    unfold wireB
    rw [if_pos hk]
    exact (rd1_lies hz h1).1
  rename_i hk1 hk2
  split at h
  · rename_i hk; subst hk
    rw [Option.map_eq_some_iff] at h
    obtain ⟨⟨n, c⟩, h1, h2⟩ := h
    cases h2
    refine ⟨?_, rfl⟩
    show Lies zs a (encI (n - 1000000000 + 1000000000)) c
    rw [show n - 1000000000 + 1000000000 = n by omega]
    exact (rd1_lies hz h1).1
  split at h
  · rename_i hk; subst hk
    split at h
    · rename_i hg
      cases h
      refine ⟨?_, rfl⟩
      have e : gT zs a = ((gT zs a).1, (gT zs a).2.1, true) := by rw [← hg]
      exact gT_lies hz e
    · cases h
  split at h
  · rename_i hk; subst hk
    rw [Option.bind_eq_some_iff] at h
    obtain ⟨⟨n, c⟩, h1, h2⟩ := h
    rw [Option.map_eq_some_iff] at h2
    obtain ⟨⟨m, d⟩, h3, h4⟩ := h2
    cases h4
    exact ⟨(rd1_lies hz h1).1.append (rd1_lies hz h3).1, rfl⟩
  split at h
  · rename_i hk; subst hk
    rw [Option.bind_eq_some_iff] at h
    obtain ⟨⟨n, c⟩, h1, h2⟩ := h
    rw [Option.map_eq_some_iff] at h2
    obtain ⟨⟨m, d⟩, h3, h4⟩ := h2
    cases h4
    exact ⟨(rd1_lies hz h1).1.append (rd1_lies hz h3).1, rfl⟩
  split at h
  · rename_i hk; subst hk
    rw [Option.map_eq_some_iff] at h
    obtain ⟨⟨n, c⟩, h1, h2⟩ := h
    cases h2
    exact ⟨(rd1_lies hz h1).1, rfl⟩
  · cases h
theorem rdNd_lies {zs : List Int} {a b : Int} {x : Nd} (hz : ∀ z ∈ zs, 0 ≤ z ∧ z ≤ 255) (h : rdNd zs a = some (x, b)) : Lies zs a (wireN x) b := by
  unfold rdNd at h
  rw [Option.bind_eq_some_iff] at h
  obtain ⟨⟨k, c⟩, h1, h2⟩ := h
  obtain ⟨l1, _⟩ := rd1_lies hz h1
  obtain ⟨l2, hk⟩ := rdB_lies hz (by have := l1.1; have := l1.2.1; omega) h2
  unfold wireN
  rw [hk]
  exact l1.append l2
theorem rdNds_lies {zs : List Int} (hz : ∀ z ∈ zs, 0 ≤ z ∧ z ≤ 255) : ∀ (n : Nat) (a b : Int) (xs : List Nd), 0 ≤ a → rdNds zs n a = some (xs, b) → Lies zs a (xs.flatMap wireN) b ∧ xs.length = n
  | 0, a, b, xs, ha, h => by cases h; exact ⟨Lies.nil ha, rfl⟩
  | n + 1, a, b, xs, ha, h => by
    rw [rdNds, Option.bind_eq_some_iff] at h
    obtain ⟨⟨x, c⟩, h1, h2⟩ := h
    rw [Option.map_eq_some_iff] at h2
    obtain ⟨⟨ys, d⟩, h3, h4⟩ := h2
    cases h4
    have l1 := rdNd_lies hz h1
    obtain ⟨l2, hl⟩ := rdNds_lies hz n c d ys (by have := l1.1; have := l1.2.1; omega) h3
    exact ⟨l1.append l2, by simp [hl]⟩
end Go.Proofs.YtaojlmoppbknbaaGreatDoor

/-
  Plain mathematics: what is put is got, whatever stands behind it. Nothing of the program; no condition.
-/
namespace Go.Proofs.YtaojlmoppbknbaaGreatDoor
open Go.RowKit

theorem scan_enc (post : List Int) (f : Nat) (x : Int) (h0 : 0 ≤ x) (hl : x < lim (f + 1)) : scan (f + 1) (enc (f + 1) x ++ post) = some (enc (f + 1) x) := by
  induction f generalizing x with
  | zero =>
    have hx : x < 128 := by simpa [lim] using hl
    rw [enc_last 0 x hx]; simp [scan, hx]
  | succ f ih =>
    by_cases hx : x < 128
    · rw [enc_last _ x hx]; simp [scan, hx]
    · obtain ⟨f', hf, hl'⟩ := lim_more (f + 1) x (by omega) hl
      rw [enc_more _ x (by omega), List.cons_append]
      simp only [scan]
      rw [if_neg (by omega), ih (x / 128) (by omega) hl']
      rfl
theorem val_enc (f : Nat) (x : Int) (h0 : 0 ≤ x) (hl : x < lim (f + 1)) : val (enc (f + 1) x) = x := by
  induction f generalizing x with
  | zero =>
    have hx : x < 128 := by simpa [lim] using hl
    rw [enc_last 0 x hx]; simp only [val]; omega
  | succ f ih =>
    by_cases hx : x < 128
    · rw [enc_last _ x hx]; simp only [val]; omega
    · obtain ⟨f', hf, hl'⟩ := lim_more (f + 1) x (by omega) hl
      rw [enc_more _ x (by omega)]
      simp only [val]
      rw [ih (x / 128) (by omega) hl']
      omega
theorem last_enc (f : Nat) (x : Int) (h0 : 0 < x) (hl : x < lim (f + 1)) : (enc (f + 1) x).getLast? ≠ some 0 := by
  induction f generalizing x with
  | zero =>
    have hx : x < 128 := by simpa [lim] using hl
    rw [enc_last 0 x hx]; simp; omega
  | succ f ih =>
    by_cases hx : x < 128
    · rw [enc_last _ x hx]; simp; omega
    · obtain ⟨f', hf, hl'⟩ := lim_more (f + 1) x (by omega) hl
      rw [enc_more _ x (by omega)]
      have hne : enc (f + 1) (x / 128) ≠ [] := by
        intro e
        have := scan_enc [] f (x / 128) (by omega) hl'
        rw [e] at this
        simp [scan] at this
      rw [List.getLast?_cons_of_ne_nil hne]
      exact ih (x / 128) (by omega) hl'
theorem nine_lim {x : Int} (h : x ≤ 9223372036854775807) : x < lim (8 + 1) := by
  rw [lim_nine]; omega

theorem gN_enc (pre post : List Int) (x : Int) (h0 : 0 ≤ x) (h1 : x ≤ 9223372036854775807) : gN (pre ++ (enc 9 x ++ post)) (pre.length : Int) = (x, (pre.length : Int) + (enc 9 x).length, true) := by
  have hs : scan 9 ((pre ++ (enc 9 x ++ post)).drop pre.length) = some (enc 9 x) := by
    rw [List.drop_left]
    exact scan_enc post 8 x h0 (nine_lim h1)
  have hneg : ¬ (pre.length : Int) < 0 := by omega
  simp only [gN, hneg, if_false, Int.toNat_natCast, hs]
  rw [if_neg, val_enc 8 x h0 (nine_lim h1)]
  intro hbad
  rcases Int.lt_or_eq_of_le h0 with h | h
  · exact last_enc 8 x h (nine_lim h1) hbad.2
  · subst h
    have := hbad.1
    rw [enc_last 8 0 (by omega)] at this
    simp at this

theorem strOfNums_sb (s : ByteArray) : strOfNums (sb s) = s := by
  have e0 : ∀ l : List UInt8, (l.map fun b => (b.toNat : Int)).map (fun n => UInt8.ofNat n.toNat) = l := by
    intro l
    induction l with
    | nil => rfl
    | cons b l ih => simp only [List.map_cons, ih]; simp
  have e : (sb s).map (fun n => UInt8.ofNat n.toNat) = s.data.toList := e0 _
  unfold strOfNums
  rw [e]

theorem gT_pt (s : ByteArray) (post : List Int) (h : s.size ≤ 1048576) : gT (pt s ++ post) 0 = (s, ((pt s).length : Int), true) := by
  have hp : pt s = enc 9 s.size ++ sb s := by rw [pt, encI_pos _ (by omega)]
  have hg : gN (pt s ++ post) 0 = (((s.size : Nat) : Int), (((enc 9 s.size).length : Nat) : Int), true) := by
    have := gN_enc [] (sb s ++ post) s.size (by omega) (by omega)
    rw [hp, List.append_assoc]
    simpa using this
  have hlen : (pt s ++ post).length = (enc 9 s.size).length + s.size + post.length := by rw [hp]; simp [sb_length]; omega
  rw [gT_yes _ 0 s.size _ hg (by rw [hlen]; omega)]
  have hcut : List.take s.size (List.drop (enc 9 s.size).length (pt s ++ post)) = sb s := by
    rw [hp, List.append_assoc, List.drop_left]
    rw [← sb_length s]
    exact List.take_left
  rw [hcut, strOfNums_sb, pt_length, encI_pos _ (by omega)]
  simp

end Go.Proofs.YtaojlmoppbknbaaGreatDoor
