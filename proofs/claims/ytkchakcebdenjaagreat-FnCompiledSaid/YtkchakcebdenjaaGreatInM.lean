/-
  Texts that stood by themselves, laid into one.
-/
import Derived.Test.YtkchakcebdenjaaGreatShapeM
import Derived.Deep.RegionWith
/-
  Contracts of the laws' own helpers toNode, toNodeS, toPool, szNode, szNodeS, szPool, eqNode, eqNodeS, eqPool.
-/
namespace Go.Proofs.YtkchakcebdenjaaGreat
open Go.RowKit
def less (l n : Int) : Int := if l < n then -1 else l - n
def zeroN : Nd := ⟨0, 0, ByteArray.empty, 0, 0⟩
def ncopied (xs : List Nd) (j : Nat) : List Nd := xs.take j ++ List.replicate (xs.length - j) zeroN
theorem ncs_zeros (n : Nat) : ncs (List.replicate n zeroN) = (madeCells #[Value.int .i64 0, .int .i64 0, .string ByteArray.empty, .int .i64 0, .int .i64 0] (n * 5)).toList := by
  apply List.ext_getElem?
  intro j
  by_cases hj : j < n * 5
  · have hq : j / 5 < n := by omega
    rw [show j = j / 5 * 5 + j % 5 by omega, ncs_get _ (j / 5) zeroN (by simp [hq]) (j % 5) (by omega)]
    rw [show j / 5 * 5 + j % 5 = j by omega]
    have h5 : j % 5 = 0 ∨ j % 5 = 1 ∨ j % 5 = 2 ∨ j % 5 = 3 ∨ j % 5 = 4 := by omega
    rcases h5 with h5 | h5 | h5 | h5 | h5 <;> simp [madeCells, hj, h5, zeroN, Nd.cs]
  · rw [List.getElem?_eq_none (by rw [ncs_length, List.length_replicate]; omega), List.getElem?_eq_none (by simp [madeCells]; omega)]
end Go.Proofs.YtkchakcebdenjaaGreat
/-
  Helpers: an instruction as 4 cells, a slice of these read as a list, and the contracts of the laws' helpers on them. No condition.
-/
namespace Go.Proofs.YtkchakcebdenjaaGreat
open Go.RowKit
structure In where
  o : Int
  n : Int
  i : Int
  s : ByteArray
def In.cs (x : In) : List Value := [.int .i64 x.o, .int .i64 x.n, .int .i64 x.i, .string x.s]
def incs (xs : List In) : List Value := xs.flatMap In.cs
theorem incs_cons (x : In) (xs : List In) : incs (x :: xs) = x.cs ++ incs xs := rfl
theorem incs_append (a b : List In) : incs (a ++ b) = incs a ++ incs b := by simp [incs]
theorem incs_get (xs : List In) (i : Nat) (x : In) (h : xs[i]? = some x) (j : Nat) (hj : j < 4) : (incs xs)[i * 4 + j]? = x.cs[j]? := by
  induction xs generalizing i with
  | nil => simp at h
  | cons y ys ih =>
    rw [incs_cons]
    cases i with
    | zero =>
      simp at h; subst h
      rw [Nat.zero_mul, Nat.zero_add, List.getElem?_append_left (by simpa [In.cs] using hj)]
    | succ i =>
      rw [List.getElem?_append_right (by simp [In.cs]; omega)]
      rw [show (i + 1) * 4 + j - y.cs.length = i * 4 + j by simp [In.cs]; omega]
      exact ih i (by simpa using h)
theorem incs_set (xs : List In) (i : Nat) (x x' : In) (h : xs[i]? = some x) (j : Nat) (hj : j < 4) (u : Value) (e : x.cs.set j u = x'.cs) : (incs xs).set (i * 4 + j) u = incs (xs.set i x') := by
  induction xs generalizing i with
  | nil => simp at h
  | cons y ys ih =>
    rw [incs_cons]
    cases i with
    | zero =>
      simp at h; subst h
      rw [Nat.zero_mul, Nat.zero_add, List.set_append_left _ _ (by simpa [In.cs] using hj), e]
      rfl
    | succ i =>
      rw [List.set_append_right _ _ (by simp [In.cs]; omega)]
      rw [show (i + 1) * 4 + j - y.cs.length = i * 4 + j by simp [In.cs]; omega, ih i (by simpa using h)]
      rfl
theorem In.one (x : In) : ∀ u ∈ x.cs, u.oneCell' = true := by
  intro u hu
  simp only [In.cs, List.mem_cons, List.not_mem_nil, or_false] at hu
  rcases hu with rfl | rfl | rfl | rfl <;> rfl
theorem incs_one (xs : List In) : ∀ u ∈ incs xs, u.oneCell' = true := by
  intro u hu
  simp only [incs, List.mem_flatMap] at hu
  obtain ⟨x, _, hx⟩ := hu
  exact x.one u hx
def InAt (w : World) (g o : Nat) (x : In) : Prop :=
  w.cell? ⟨g, o, none⟩ = some (.int .i64 x.o) ∧ w.cell? ⟨g, o + 1, none⟩ = some (.int .i64 x.n) ∧ w.cell? ⟨g, o + 2, none⟩ = some (.int .i64 x.i) ∧ w.cell? ⟨g, o + 3, none⟩ = some (.string x.s)
theorem InAt.below {w w' : World} {g o B : Nat} {x : In} (h : InAt w g o x) (hb : Below B w w') (hg : g < B) : InAt w' g o x :=
  ⟨(hb.cell (p := ⟨g, o, none⟩) hg).trans h.1, (hb.cell (p := ⟨g, o + 1, none⟩) hg).trans h.2.1, (hb.cell (p := ⟨g, o + 2, none⟩) hg).trans h.2.2.1, (hb.cell (p := ⟨g, o + 3, none⟩) hg).trans h.2.2.2⟩
def InRow (w : World) (v : Value) (xs : List In) : Prop :=
  ∃ ao cap, v = .slice ao xs.length cap ∧ (xs.length ≤ cap ∧ (ao = none → cap = 0)) ∧ xs.length ≤ 9223372036854775807 ∧ (∀ x ∈ xs, x.s.size ≤ maxLen) ∧
    (xs ≠ [] → ∃ g o, ao = some ⟨g, o, none⟩ ∧ g < w.heap.size ∧ ∀ i x, xs[i]? = some x → InAt w g (o + i * 4) x)
theorem InRow.small {w : World} {v : Value} {xs : List In} (R : InRow w v xs) : ∃ ao cap, v = .slice ao xs.length cap := by
  obtain ⟨ao, cap, rfl, _⟩ := R
  exact ⟨ao, cap, rfl⟩
theorem InRow.below {w w' : World} {v : Value} {xs : List In} (h : InRow w v xs) (hb : Below w.heap.size w w') : InRow w' v xs := by
  obtain ⟨ao, cap, rfl, hc, hm, hz, hcell⟩ := h
  refine ⟨ao, cap, rfl, hc, hm, hz, fun hne => ?_⟩
  obtain ⟨g, o, rfl, hg, hcell⟩ := hcell hne
  exact ⟨g, o, rfl, Nat.lt_of_lt_of_le hg hb.size, fun i x hi => (hcell i x hi).below hb hg⟩
theorem InRow.of_own {w : World} {base : Nat} {v : Value} {xs : List In} (h : w.ownsRow base 53 4 v xs.length (incs xs)) (hm : xs.length ≤ 9223372036854775807) (hz : ∀ x ∈ xs, x.s.size ≤ maxLen) : InRow w v xs := by
  rcases h.2 with ⟨rfl, h0⟩ | ⟨g, cap, cur, rfl, hb, hg, hnc, hcm, hcs, htake⟩
  · have : xs = [] := List.eq_nil_of_length_eq_zero h0
    subst this
    exact ⟨none, 0, rfl, by simp, by simp, by simp, fun h => absurd rfl h⟩
  · refine ⟨_, cap, rfl, ⟨hnc, fun h => by cases h⟩, hm, hz, fun _ => ⟨g, 0, rfl, (Array.getElem?_eq_some_iff.1 hg).1, fun i x hi => ?_⟩⟩
    have hl : i < xs.length := (List.getElem?_eq_some_iff.1 hi).1
    have e : ∀ j, j < 4 → w.cell? ⟨g, 0 + i * 4 + j, none⟩ = x.cs[j]? := fun j hj => by
      have := h.cellAt (i * 4 + j) (by omega)
      rw [Nat.zero_add, this, incs_get xs i x hi j hj]
    exact ⟨e 0 (by omega), e 1 (by omega), e 2 (by omega), e 3 (by omega)⟩
theorem Tryz.infoIn : (Tryz.prog.info? 53).map (fun i => (i.zero, i.size, i.bytes)) = some (some (.agg #[.int .i64 0, .int .i64 0, .int .i64 0, .string ByteArray.empty]), 4, 40) := by kernel_rfl
def zeroIn : In := ⟨0, 0, 0, ByteArray.empty⟩
def incopied (xs : List In) (j : Nat) : List In := xs.take j ++ List.replicate (xs.length - j) zeroIn
end Go.Proofs.YtkchakcebdenjaaGreat
