/-
  How nodes are read from bytes, and that what is read stands there in just the bytes that it is written in: plain mathematics. Nothing of the program; no condition.
-/
import Derived.Test.YtpkpednemkagiaaR8a
import Derived.Test.YtpkpednemkagiaaGText
import Derived.Test.YtpkpednemkagiaaWire
namespace Go.Proofs.Ytpkpednemkagiaa
open Go.RowKit

/-- The bytes L stand from the place a on; behind them is the place b. -/
def Lies (zs : List Int) (a : Int) (L : List Int) (b : Int) : Prop := 0 ≤ a ∧ b = a + L.length ∧ ∃ rest, zs.drop a.toNat = L ++ rest
theorem Lies.append {zs L M : List Int} {a b c : Int} (h : Lies zs a L b) (k : Lies zs b M c) : Lies zs a (L ++ M) c := by
  obtain ⟨h1, h2, r, h3⟩ := h
  obtain ⟨k1, k2, t, k3⟩ := k
  refine ⟨h1, by rw [k2, h2]; simp; omega, t, ?_⟩
  have e : b.toNat = a.toNat + L.length := by omega
  rw [e, ← List.drop_drop, h3, List.drop_left] at k3
  rw [h3, k3, List.append_assoc]
theorem Lies.nil {zs : List Int} {a : Int} (h : 0 ≤ a) : Lies zs a [] a := ⟨h, by simp, _, rfl⟩
theorem sb_str {l : List Int} (h : ∀ z ∈ l, 0 ≤ z ∧ z ≤ 255) : sb (strOfNums l) = l := by
  unfold sb strOfNums
  simp only [List.map_map]
  conv => rhs; rw [← List.map_id l]
  apply List.map_congr_left
  intro z hz
  have := h z hz
  simp only [Function.comp, id]
  rw [UInt8.toNat_ofNat']
  omega
theorem gT_lies {zs : List Int} {a next : Int} {s : ByteArray} (hz : ∀ z ∈ zs, 0 ≤ z ∧ z ≤ 255) (h : gT zs a = (s, next, true)) : Lies zs a (pt s) next := by
  unfold gT at h
  split at h
  · rename_i hc
    obtain ⟨h1, h2⟩ := hc
    have hg : gN zs a = ((gN zs a).1, (gN zs a).2.1, true) := by rw [← h1]
    obtain ⟨g1, g2, g3, r, g4⟩ := gN_bytes hz hg
    generalize (gN zs a).1 = n at *
    generalize (gN zs a).2.1 = m at *
    cases h
    have hm : 0 ≤ m := by omega
    have hlen : ((zs.drop m.toNat).take n.toNat).length = n.toNat := by rw [List.length_take, List.length_drop]; omega
    have hsb : sb (strOfNums ((zs.drop m.toNat).take n.toNat)) = (zs.drop m.toNat).take n.toNat := sb_str (fun z h => hz z (List.mem_of_mem_drop (List.mem_of_mem_take h)))
    have hsz : ((strOfNums ((zs.drop m.toNat).take n.toNat)).size : Int) = n := by
      have := congrArg List.length hsb
      rw [sb_length, hlen] at this
      omega
    have L1 : Lies zs a (encI n) m := ⟨g1, g3, r, g4⟩
    have L2 : Lies zs m ((zs.drop m.toNat).take n.toNat) (m + n) := ⟨hm, by rw [hlen]; omega, (zs.drop m.toNat).drop n.toNat, (List.take_append_drop _ _).symm⟩
    have := L1.append L2
    unfold pt
    rw [hsz, hsb]
    exact this
  · cases h

/-- One number; one node's fields; one node; so many nodes. -/
def rd1 (zs : List Int) (a : Int) : Option (Int × Int) := if (gN zs a).2.2 then some ((gN zs a).1, (gN zs a).2.1) else none
def rdB (zs : List Int) (k a : Int) : Option (Nd × Int) :=
  if k = 1 then some (⟨1, 0, ByteArray.empty, 0, 0⟩, a)
  else if k = 2 ∨ k = 8 ∨ k = 9 then (rd1 zs a).map fun p => (⟨k, p.1, ByteArray.empty, 0, 0⟩, p.2)
  else if k = 3 then (rd1 zs a).map fun p => (⟨3, p.1 - 1000000000, ByteArray.empty, 0, 0⟩, p.2)
  else if k = 4 then (if (gT zs a).2.2 then some (⟨4, 0, (gT zs a).1, 0, 0⟩, (gT zs a).2.1) else none)
  else if k = 5 then (rd1 zs a).bind fun p => (rd1 zs p.2).map fun q => (⟨5, 0, ByteArray.empty, p.1, q.1⟩, q.2)
  else if k = 6 then (rd1 zs a).bind fun p => (rd1 zs p.2).map fun q => (⟨6, p.1, ByteArray.empty, q.1, 0⟩, q.2)
  else if k = 7 then (rd1 zs a).map fun p => (⟨7, 0, ByteArray.empty, p.1, 0⟩, p.2)
  else none
def rdNd (zs : List Int) (a : Int) : Option (Nd × Int) := (rd1 zs a).bind fun p => rdB zs p.1 p.2
def rdNds (zs : List Int) : Nat → Int → Option (List Nd × Int)
  | 0, a => some ([], a)
  | n + 1, a => (rdNd zs a).bind fun p => (rdNds zs n p.2).map fun q => (p.1 :: q.1, q.2)

theorem rd1_lies {zs : List Int} {a x b : Int} (hz : ∀ z ∈ zs, 0 ≤ z ∧ z ≤ 255) (h : rd1 zs a = some (x, b)) : Lies zs a (encI x) b ∧ 0 ≤ x := by
  unfold rd1 at h
  split at h
  · rename_i h1
    cases h
    have hg : gN zs a = ((gN zs a).1, (gN zs a).2.1, true) := by rw [← h1]
    obtain ⟨g1, g2, g3, g4⟩ := gN_bytes hz hg
    exact ⟨⟨g1, g3, g4⟩, g2⟩
  · cases h
theorem rdB_lies {zs : List Int} {k a b : Int} {x : Nd} (hz : ∀ z ∈ zs, 0 ≤ z ∧ z ≤ 255) (ha : 0 ≤ a) (h : rdB zs k a = some (x, b)) : Lies zs a (wireB x) b ∧ x.k = k := by
  unfold rdB at h
  split at h
  · rename_i hk; subst hk
    cases h
    exact ⟨Lies.nil ha, rfl⟩
  split at h
  · rename_i hk
    rw [Option.map_eq_some_iff] at h
    obtain ⟨⟨n, c⟩, h1, h2⟩ := h
    cases h2
    refine ⟨?_, rfl⟩
    unfold wireB
    rw [if_pos hk]
    exact (rd1_lies hz h1).1
  rename_i hk1 hk2
  split at h
  · rename_i hk; subst hk
    rw [Option.map_eq_some_iff] at h
    obtain ⟨⟨n, c⟩, h1, h2⟩ := h
    cases h2
    refine ⟨?_, rfl⟩
    show Lies zs a (encI (n - 1000000000 + 1000000000)) c
    rw [show n - 1000000000 + 1000000000 = n by omega]
    exact (rd1_lies hz h1).1
  split at h
  · rename_i hk; subst hk
    split at h
    · rename_i hg
      cases h
      refine ⟨?_, rfl⟩
      have e : gT zs a = ((gT zs a).1, (gT zs a).2.1, true) := by rw [← hg]
      exact gT_lies hz e
    · cases h
  split at h
  · rename_i hk; subst hk
    rw [Option.bind_eq_some_iff] at h
    obtain ⟨⟨n, c⟩, h1, h2⟩ := h
    rw [Option.map_eq_some_iff] at h2
    obtain ⟨⟨m, d⟩, h3, h4⟩ := h2
    cases h4
    exact ⟨(rd1_lies hz h1).1.append (rd1_lies hz h3).1, rfl⟩
  split at h
  · rename_i hk; subst hk
    rw [Option.bind_eq_some_iff] at h
    obtain ⟨⟨n, c⟩, h1, h2⟩ := h
    rw [Option.map_eq_some_iff] at h2
    obtain ⟨⟨m, d⟩, h3, h4⟩ := h2
    cases h4
    exact ⟨(rd1_lies hz h1).1.append (rd1_lies hz h3).1, rfl⟩
  split at h
  · rename_i hk; subst hk
    rw [Option.map_eq_some_iff] at h
    obtain ⟨⟨n, c⟩, h1, h2⟩ := h
    cases h2
    exact ⟨(rd1_lies hz h1).1, rfl⟩
  · cases h
theorem rdNd_lies {zs : List Int} {a b : Int} {x : Nd} (hz : ∀ z ∈ zs, 0 ≤ z ∧ z ≤ 255) (h : rdNd zs a = some (x, b)) : Lies zs a (wireN x) b := by
  unfold rdNd at h
  rw [Option.bind_eq_some_iff] at h
  obtain ⟨⟨k, c⟩, h1, h2⟩ := h
  obtain ⟨l1, _⟩ := rd1_lies hz h1
  obtain ⟨l2, hk⟩ := rdB_lies hz (by have := l1.1; have := l1.2.1; omega) h2
  unfold wireN
  rw [hk]
  exact l1.append l2
theorem rdNds_lies {zs : List Int} (hz : ∀ z ∈ zs, 0 ≤ z ∧ z ≤ 255) : ∀ (n : Nat) (a b : Int) (xs : List Nd), 0 ≤ a → rdNds zs n a = some (xs, b) → Lies zs a (xs.flatMap wireN) b ∧ xs.length = n
  | 0, a, b, xs, ha, h => by cases h; exact ⟨Lies.nil ha, rfl⟩
  | n + 1, a, b, xs, ha, h => by
    rw [rdNds, Option.bind_eq_some_iff] at h
    obtain ⟨⟨x, c⟩, h1, h2⟩ := h
    rw [Option.map_eq_some_iff] at h2
    obtain ⟨⟨ys, d⟩, h3, h4⟩ := h2
    cases h4
    have l1 := rdNd_lies hz h1
    obtain ⟨l2, hl⟩ := rdNds_lies hz n c d ys (by have := l1.1; have := l1.2.1; omega) h3
    exact ⟨l1.append l2, by simp [hl]⟩
end Go.Proofs.Ytpkpednemkagiaa
