/-
  Helpers: a slice of texts read as a list, and the contracts of the laws' helpers on such slices. No condition.
-/
import Derived.Test.YtkoiccocgejmcaaDoorTo2
import Derived.Test.YtkoiccocgejmcaaDoorBs
import Derived.Test.YtkoiccocgejmcaaDoorMark2
namespace Go.Proofs.YtkoiccocgejmcaaDoor
open Go.RowKit

def stv (xs : List ByteArray) : List Value := xs.map Value.string
theorem stv_nil : stv [] = [] := rfl
theorem stv_append (a b : List ByteArray) : stv (a ++ b) = stv a ++ stv b := by simp [stv]
theorem stv_length (xs : List ByteArray) : (stv xs).length = xs.length := by simp [stv]
theorem stv_get (xs : List ByteArray) (i : Nat) (x : ByteArray) (h : xs[i]? = some x) : (stv xs)[i]? = some (.string x) := by simp [stv, h]
theorem stv_set (xs : List ByteArray) (i : Nat) (x : ByteArray) : (stv xs).set i (.string x) = stv (xs.set i x) := by simp [stv, List.map_set]
theorem stv_one (xs : List ByteArray) : ∀ u ∈ stv xs, u.oneCell' = true := by
  intro u hu
  simp only [stv, List.mem_map] at hu
  obtain ⟨x, _, rfl⟩ := hu
  rfl

theorem below_dN (w : World) (n : Nat) : Below w.heap.size w (w.drewN n) := ⟨rfl, rfl, rfl, Nat.le_refl _, fun _ _ => rfl⟩

/-- The slice value v reads in w as the texts xs. -/
def StRow (w : World) (v : Value) (xs : List ByteArray) : Prop :=
  ∃ ao cap, v = .slice ao xs.length cap ∧ (xs.length ≤ cap ∧ (ao = none → cap = 0)) ∧ xs.length ≤ 9223372036854775807 ∧ (∀ x ∈ xs, x.size ≤ maxLen) ∧
    (xs ≠ [] → ∃ g o, ao = some ⟨g, o, none⟩ ∧ g < w.heap.size ∧ ∀ i x, xs[i]? = some x → w.cell? ⟨g, o + i, none⟩ = some (.string x))

theorem StRow.small {w : World} {v : Value} {xs : List ByteArray} (R : StRow w v xs) : ∃ ao cap, v = .slice ao xs.length cap := by
  obtain ⟨ao, cap, rfl, _⟩ := R
  exact ⟨ao, cap, rfl⟩
theorem StRow.sz {w : World} {v : Value} {xs : List ByteArray} (R : StRow w v xs) : ∀ x ∈ xs, x.size ≤ maxLen := by obtain ⟨_, _, _, _, _, hz, _⟩ := R; exact hz
theorem StRow.le {w : World} {v : Value} {xs : List ByteArray} (R : StRow w v xs) : xs.length ≤ 9223372036854775807 := by obtain ⟨_, _, _, _, h, _⟩ := R; exact h
theorem StRow.below {w w' : World} {v : Value} {xs : List ByteArray} (h : StRow w v xs) (hb : Below w.heap.size w w') : StRow w' v xs := by
  obtain ⟨ao, cap, rfl, hc, hm, hz, hcell⟩ := h
  refine ⟨ao, cap, rfl, hc, hm, hz, fun hne => ?_⟩
  obtain ⟨g, o, rfl, hg, hcell⟩ := hcell hne
  exact ⟨g, o, rfl, Nat.lt_of_lt_of_le hg hb.size, fun i x hi => (hb.cell (p := ⟨g, o + i, none⟩) hg).trans (hcell i x hi)⟩
theorem StRow.nilcap {w : World} {ao : Option Addr} {n cap : Nat} {xs : List ByteArray} (h : StRow w (.slice ao n cap) xs) : ao = none → n = 0 ∧ cap = 0 := by
  obtain ⟨ao', cap', e, ⟨h1, h2⟩, _⟩ := h
  simp only [Value.slice.injEq] at e
  obtain ⟨rfl, rfl, rfl⟩ := e
  intro h
  have := h2 h
  omega
theorem StRow.cells {w : World} {ao : Option Addr} {n cap : Nat} {xs : List ByteArray} (h : StRow w (.slice ao n cap) xs) : ∀ ad, ao = some ad → ∀ j u, (stv xs)[j]? = some u → w.cell? (ad.add j) = some u := by
  obtain ⟨ao', cap', e, _, _, _, hc⟩ := h
  simp only [Value.slice.injEq] at e
  obtain ⟨rfl, rfl, rfl⟩ := e
  intro ad had j u hu
  simp only [stv, List.getElem?_map, Option.map_eq_some_iff] at hu
  obtain ⟨x, hx, rfl⟩ := hu
  obtain ⟨g, o, e, _, hcell⟩ := hc (by intro e; subst e; simp at hx)
  rw [had] at e
  cases e
  rw [Addr.add_lit]
  exact hcell j x hx
/-- What the call owns reads as what it holds. -/
theorem StRow.of_own {w : World} {base : Nat} {v : Value} {xs : List ByteArray} (h : w.ownsRow base 9 1 v xs.length (stv xs)) (hm : xs.length ≤ 9223372036854775807) (hz : ∀ x ∈ xs, x.size ≤ maxLen) : StRow w v xs := by
  rcases h.2 with ⟨rfl, h0⟩ | ⟨g, cap, cur, rfl, hb, hg, hnc, hcm, hcs, htake⟩
  · have : xs = [] := List.eq_nil_of_length_eq_zero h0
    subst this
    exact ⟨none, 0, rfl, by simp, by simp, by simp, fun h => absurd rfl h⟩
  · refine ⟨_, cap, rfl, ⟨hnc, fun h => by cases h⟩, hm, hz, fun _ => ⟨g, 0, rfl, (Array.getElem?_eq_some_iff.1 hg).1, fun i x hi => ?_⟩⟩
    have hl : i < xs.length := (List.getElem?_eq_some_iff.1 hi).1
    have := h.cellAt i (by omega)
    rw [Nat.zero_add, this, stv_get xs i x hi]

theorem Tryd.infoStr : (Tryd.prog.info? 9).map (fun i => (i.zero, i.size, i.bytes)) = some (some (.string ByteArray.empty), 1, 16) := by kernel_rfl

/-- The first j of xs, and empty ones behind them. -/
def stcopied (xs : List ByteArray) (j : Nat) : List ByteArray := xs.take j ++ List.replicate (xs.length - j) ByteArray.empty
theorem stcopied_length (xs : List ByteArray) (j : Nat) (h : j ≤ xs.length) : (stcopied xs j).length = xs.length := by simp [stcopied]; omega
theorem stcopied_full (xs : List ByteArray) : stcopied xs xs.length = xs := by simp [stcopied]
theorem stcopied_zero (xs : List ByteArray) : stv (stcopied xs 0) = (madeCells #[.string ByteArray.empty] xs.length).toList := by
  apply List.ext_getElem?
  intro j
  by_cases hj : j < xs.length
  · simp [stcopied, stv, madeCells, hj, Nat.mod_one]
  · simp [stcopied, stv, madeCells, hj]
theorem stcopied_set (xs : List ByteArray) (j : Nat) (h : j < xs.length) : (stcopied xs j).set j xs[j] = stcopied xs (j + 1) := by
  unfold stcopied
  rw [show xs.length - j = xs.length - (j + 1) + 1 by omega, List.replicate_succ, List.take_succ_eq_append_getElem h]
  rw [List.set_append_right _ _ (by simp; omega)]
  have e : j - (List.take j xs).length = 0 := by simp; omega
  rw [e, List.set_cons_zero, List.append_assoc]
  rfl

/-- The texts that are laid from the number k on. -/
def sm (k : Int) (n : Nat) : List ByteArray := (List.range n).map fun (j : Nat) => mt (k + (j : Int))
theorem sm_length (k : Int) (n : Nat) : (sm k n).length = n := by simp [sm]
theorem sm_get (k : Int) (n i : Nat) (h : i < n) : (sm k n)[i]? = some (mt (k + (i : Int))) := by simp [sm, h]
theorem sm_succ (k : Int) (n : Nat) : sm k (n + 1) = sm k n ++ [mt (k + (n : Int))] := by simp [sm, List.range_succ]
theorem sm_ok (k : Int) (n : Nat) (hk : k ≤ 2305843009213693952) (hn : n ≤ 4194304) : ∀ x ∈ sm k n, x.size ≤ maxLen := by
  intro y hy
  simp only [sm, List.mem_map, List.mem_range] at hy
  obtain ⟨j, hj, rfl⟩ := hy
  exact mt_size _ (by omega)
/-- A row of which the middle is marked as far as j. -/
def smid (k : Int) (pre xs post : List ByteArray) (j : Nat) : List ByteArray := pre ++ (sm k j ++ (xs.drop j ++ post))
theorem smid_zero (k : Int) (pre xs post : List ByteArray) : smid k pre xs post 0 = pre ++ (xs ++ post) := by simp [smid, sm]
theorem smid_full (k : Int) (pre xs post : List ByteArray) : smid k pre xs post xs.length = pre ++ (sm k xs.length ++ post) := by simp [smid]
theorem smid_length (k : Int) (pre xs post : List ByteArray) (j : Nat) (h : j ≤ xs.length) : (smid k pre xs post j).length = pre.length + xs.length + post.length := by
  simp [smid, sm_length]; omega
theorem smid_set (k : Int) (pre xs post : List ByteArray) (j : Nat) (h : j < xs.length) : (smid k pre xs post j).set (pre.length + j) (mt (k + (j : Int))) = smid k pre xs post (j + 1) := by
  unfold smid
  rw [List.set_append_right _ _ (by omega), show pre.length + j - pre.length = j by omega]
  rw [List.set_append_right _ _ (by rw [sm_length]; omega), sm_length, Nat.sub_self, List.drop_eq_getElem_cons h, sm_succ]
  rw [List.cons_append, List.set_cons_zero, List.append_assoc]
  rfl

end Go.Proofs.YtkoiccocgejmcaaDoor
