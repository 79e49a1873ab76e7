/-
  Helpers: a piece as 2 cells, a slice of these read as a list, and the contracts of the laws' helpers on them. No condition.
-/
import Derived.Test.YtgjebgdingahjaaTo2
namespace Go.Proofs.Ytgjebgdingahjaa
open Go.RowKit

structure Pc where
  n : Int
  s : ByteArray

def Pc.cs (x : Pc) : List Value := [.int .i64 x.n, .string x.s]
def pccs (xs : List Pc) : List Value := xs.flatMap Pc.cs

theorem pccs_nil : pccs [] = [] := rfl
theorem pccs_cons (x : Pc) (xs : List Pc) : pccs (x :: xs) = x.cs ++ pccs xs := rfl
theorem pccs_append (a b : List Pc) : pccs (a ++ b) = pccs a ++ pccs b := by simp [pccs]
theorem pccs_length (xs : List Pc) : (pccs xs).length = xs.length * 2 := by
  induction xs with
  | nil => rfl
  | cons x xs ih => rw [pccs_cons, List.length_append, ih, List.length_cons]; simp [Pc.cs]; omega
theorem pccs_get (xs : List Pc) (i : Nat) (x : Pc) (h : xs[i]? = some x) (j : Nat) (hj : j < 2) : (pccs xs)[i * 2 + j]? = x.cs[j]? := by
  induction xs generalizing i with
  | nil => simp at h
  | cons y ys ih =>
    rw [pccs_cons]
    cases i with
    | zero =>
      simp at h; subst h
      rw [Nat.zero_mul, Nat.zero_add, List.getElem?_append_left (by simpa [Pc.cs] using hj)]
    | succ i =>
      rw [List.getElem?_append_right (by simp [Pc.cs]; omega)]
      rw [show (i + 1) * 2 + j - y.cs.length = i * 2 + j by simp [Pc.cs]; omega]
      exact ih i (by simpa using h)

theorem pccs_set (xs : List Pc) (i : Nat) (x x' : Pc) (h : xs[i]? = some x) (j : Nat) (hj : j < 2) (u : Value) (e : x.cs.set j u = x'.cs) : (pccs xs).set (i * 2 + j) u = pccs (xs.set i x') := by
  induction xs generalizing i with
  | nil => simp at h
  | cons y ys ih =>
    rw [pccs_cons]
    cases i with
    | zero =>
      simp at h; subst h
      rw [Nat.zero_mul, Nat.zero_add, List.set_append_left _ _ (by simpa [Pc.cs] using hj), e]
      rfl
    | succ i =>
      rw [List.set_append_right _ _ (by simp [Pc.cs]; omega)]
      rw [show (i + 1) * 2 + j - y.cs.length = i * 2 + j by simp [Pc.cs]; omega, ih i (by simpa using h)]
      rfl
theorem pccs_set0 (xs : List Pc) (i : Nat) (x x' : Pc) (h : xs[i]? = some x) (u : Value) (e : x.cs.set 0 u = x'.cs) : (pccs xs).set (i * 2) u = pccs (xs.set i x') :=
  pccs_set xs i x x' h 0 (by omega) u e
theorem Pc.one (x : Pc) : ∀ u ∈ x.cs, u.oneCell' = true := by
  intro u hu
  simp only [Pc.cs, List.mem_cons, List.not_mem_nil, or_false] at hu
  rcases hu with rfl | rfl <;> rfl
theorem pccs_one (xs : List Pc) : ∀ u ∈ pccs xs, u.oneCell' = true := by
  intro u hu
  simp only [pccs, List.mem_flatMap] at hu
  obtain ⟨x, _, hx⟩ := hu
  exact x.one u hx

/-- The cells of x from the place o of block g on. -/
def PcAt (w : World) (g o : Nat) (x : Pc) : Prop :=
  w.cell? ⟨g, o, none⟩ = some (.int .i64 x.n) ∧ w.cell? ⟨g, o + 1, none⟩ = some (.string x.s)

theorem PcAt.below {w w' : World} {g o B : Nat} {x : Pc} (h : PcAt w g o x) (hb : Below B w w') (hg : g < B) : PcAt w' g o x :=
  ⟨(hb.cell (p := ⟨g, o, none⟩) hg).trans h.1, (hb.cell (p := ⟨g, o + 1, none⟩) hg).trans h.2⟩

/-- The slice value v reads in w as xs. -/
def PcRow (w : World) (v : Value) (xs : List Pc) : Prop :=
  ∃ ao cap, v = .slice ao xs.length cap ∧ (xs.length ≤ cap ∧ (ao = none → cap = 0)) ∧ xs.length ≤ 9223372036854775807 ∧ (∀ x ∈ xs, x.s.size ≤ maxLen) ∧
    (xs ≠ [] → ∃ g o, ao = some ⟨g, o, none⟩ ∧ g < w.heap.size ∧ ∀ i x, xs[i]? = some x → PcAt w g (o + i * 2) x)

theorem PcRow.small {w : World} {v : Value} {xs : List Pc} (R : PcRow w v xs) : ∃ ao cap, v = .slice ao xs.length cap := by
  obtain ⟨ao, cap, rfl, _⟩ := R
  exact ⟨ao, cap, rfl⟩

theorem PcRow.below {w w' : World} {v : Value} {xs : List Pc} (h : PcRow w v xs) (hb : Below w.heap.size w w') : PcRow w' v xs := by
  obtain ⟨ao, cap, rfl, hc, hm, hz, hcell⟩ := h
  refine ⟨ao, cap, rfl, hc, hm, hz, fun hne => ?_⟩
  obtain ⟨g, o, rfl, hg, hcell⟩ := hcell hne
  exact ⟨g, o, rfl, Nat.lt_of_lt_of_le hg hb.size, fun i x hi => (hcell i x hi).below hb hg⟩

/-- What the call owns reads as what it holds. -/
theorem PcRow.of_own {w : World} {base : Nat} {v : Value} {xs : List Pc} (h : w.ownsRow base 36 2 v xs.length (pccs xs)) (hm : xs.length ≤ 9223372036854775807) (hz : ∀ x ∈ xs, x.s.size ≤ maxLen) : PcRow w v xs := by
  rcases h.2 with ⟨rfl, h0⟩ | ⟨g, cap, cur, rfl, hb, hg, hnc, hcm, hcs, htake⟩
  · have : xs = [] := List.eq_nil_of_length_eq_zero h0
    subst this
    exact ⟨none, 0, rfl, by simp, by simp, by simp, fun h => absurd rfl h⟩
  · refine ⟨_, cap, rfl, ⟨hnc, fun h => by cases h⟩, hm, hz, fun _ => ⟨g, 0, rfl, (Array.getElem?_eq_some_iff.1 hg).1, fun i x hi => ?_⟩⟩
    have hl : i < xs.length := (List.getElem?_eq_some_iff.1 hi).1
    have e : ∀ j, j < 2 → w.cell? ⟨g, 0 + i * 2 + j, none⟩ = x.cs[j]? := fun j hj => by
      have := h.cellAt (i * 2 + j) (by omega)
      rw [Nat.zero_add, this, pccs_get xs i x hi j hj]
    exact ⟨e 0 (by omega), e 1 (by omega)⟩

theorem Try.infoPc : (Try.prog.info? 36).map (fun i => (i.zero, i.size, i.bytes)) = some (some (.agg #[.int .i64 0, .string ByteArray.empty]), 2, 24) := by kernel_rfl
theorem Try.sizePc : (Try.prog.info? 36).map (·.size) = some 2 := by kernel_rfl

/-- A record stored whole into the call's own row. -/
theorem wpList_store_pc {ops : Array Oper} {rest : List Oper} {op : Oper} {a : Act} {w : World} {Q : Exit → Act → World → Prop} (hgd : op.guard = none) (x y : Operand) (ho : op.op = .store 36 x y)
    (base g i cap : Nat) (xs : List Pc) (nd : Pc) (hx : a.eval x = .pointer (some ⟨g, i * 2, none⟩)) (hy : a.eval y = .agg #[.int .i64 nd.n, .string nd.s])
    (hi : i < xs.length) (hown : w.ownsRow base 36 2 (.slice (some ⟨g, 0, none⟩) xs.length cap) xs.length (pccs xs))
    (h : ∀ w2 : World, w2.ownsRow base 36 2 (.slice (some ⟨g, 0, none⟩) xs.length cap) xs.length (pccs (xs.set i nd)) → w.grownBy w2 (some g) → wpList Try.prog ops Q rest (a.put op.dst undef) w2) : wpList Try.prog ops Q (op :: rest) a w := by
  have ht : w.there g (i * 2) 2 := fun j hj => by
    have := hown.cellAt (i * 2 + j) (by omega)
    refine ⟨?_, hown.frozenAt _⟩
    rw [this, List.getElem?_eq_getElem (by rw [pccs_length]; omega)]
    rfl
  refine wpList_store_mid hgd 36 x y ho g (i * 2) _ hx hy ht Try.sizePc (all_oneCell_toArray nd.one) ?_
  have e0 : xs[i]? = some xs[i] := List.getElem?_eq_getElem hi
  have get : ∀ y : Pc, (xs.set i y)[i]? = some y := fun y => by simp [hi]
  have s0 := hown.stored (i * 2) (.int .i64 nd.n)
  rw [pccs_set0 xs i xs[i] ⟨nd.n, xs[i].s⟩ e0 _ rfl] at s0
  have s1 := s0.1.stored (i * 2 + 1) (.string nd.s)
  rw [pccs_set (xs.set i ⟨nd.n, xs[i].s⟩) i ⟨nd.n, xs[i].s⟩ ⟨nd.n, nd.s⟩ (get _) 1 (by omega) (.string nd.s) rfl, List.set_set] at s1
  exact h _ s1.1 (s0.2.trans s1.2)

/-- The first j of xs, and zero ones behind them. -/
def zeroPc : Pc := ⟨0, ByteArray.empty⟩
def pccopied (xs : List Pc) (j : Nat) : List Pc := xs.take j ++ List.replicate (xs.length - j) zeroPc
theorem pccopied_length (xs : List Pc) (j : Nat) (h : j ≤ xs.length) : (pccopied xs j).length = xs.length := by simp [pccopied]; omega
theorem pccopied_full (xs : List Pc) : pccopied xs xs.length = xs := by simp [pccopied]
theorem pccs_zeros (n : Nat) : pccs (List.replicate n zeroPc) = (madeCells #[Value.int .i64 0, .string ByteArray.empty] (n * 2)).toList := by
  apply List.ext_getElem?
  intro j
  by_cases hj : j < n * 2
  · have hq : j / 2 < n := by omega
    rw [show j = j / 2 * 2 + j % 2 by omega, pccs_get _ (j / 2) zeroPc (by simp [hq]) (j % 2) (by omega)]
    rw [show j / 2 * 2 + j % 2 = j by omega]
    have h5 : j % 2 = 0 ∨ j % 2 = 1 := by omega
    rcases h5 with h5 | h5 <;> simp [madeCells, hj, h5, zeroPc, Pc.cs]
  · rw [List.getElem?_eq_none (by rw [pccs_length, List.length_replicate]; omega), List.getElem?_eq_none (by simp [madeCells]; omega)]
theorem pccopied_zero (xs : List Pc) : pccs (pccopied xs 0) = (madeCells #[Value.int .i64 0, .string ByteArray.empty] (xs.length * 2)).toList := by
  rw [← pccs_zeros]; simp [pccopied]
theorem pccopied_set (xs : List Pc) (j : Nat) (h : j < xs.length) : (pccopied xs j).set j xs[j] = pccopied xs (j + 1) := by
  unfold pccopied
  rw [show xs.length - j = xs.length - (j + 1) + 1 by omega, List.replicate_succ, List.take_succ_eq_append_getElem h]
  rw [List.set_append_right _ _ (by simp; omega)]
  have e : j - (List.take j xs).length = 0 := by simp; omega
  rw [e, List.set_cons_zero, List.append_assoc]
  rfl

end Go.Proofs.Ytgjebgdingahjaa
