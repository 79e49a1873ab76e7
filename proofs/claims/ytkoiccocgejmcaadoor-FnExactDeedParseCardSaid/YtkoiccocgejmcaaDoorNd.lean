/-
  Helpers: a node as five cells, a slice of nodes read as a list, and when a node and a pool are right. Nothing of the program is proved here; no condition.
-/
import Derived.Test.YtkoiccocgejmcaaDoorOwn
import Derived.Laws.CopyOwn
import Derived.Below
import Derived.Deep.MidRow
namespace Go.Proofs.YtkoiccocgejmcaaDoor
open Go.RowKit

/-- A node: kind, number, name, and two parts. -/
structure Nd where
  k : Int
  n : Int
  s : ByteArray
  a : Int
  b : Int

def Nd.cs (x : Nd) : List Value := [.int .i64 x.k, .int .i64 x.n, .string x.s, .int .i64 x.a, .int .i64 x.b]
def ncs (xs : List Nd) : List Value := xs.flatMap Nd.cs

theorem ncs_nil : ncs [] = [] := rfl
theorem ncs_cons (x : Nd) (xs : List Nd) : ncs (x :: xs) = x.cs ++ ncs xs := rfl
theorem ncs_append (a b : List Nd) : ncs (a ++ b) = ncs a ++ ncs b := by simp [ncs]
theorem ncs_length (xs : List Nd) : (ncs xs).length = xs.length * 5 := by
  induction xs with
  | nil => rfl
  | cons x xs ih => rw [ncs_cons, List.length_append, ih, List.length_cons]; simp [Nd.cs]; omega
theorem ncs_get (xs : List Nd) (i : Nat) (x : Nd) (h : xs[i]? = some x) (j : Nat) (hj : j < 5) : (ncs xs)[i * 5 + j]? = x.cs[j]? := by
  induction xs generalizing i with
  | nil => simp at h
  | cons y ys ih =>
    rw [ncs_cons]
    cases i with
    | zero =>
      simp at h; subst h
      rw [Nat.zero_mul, Nat.zero_add, List.getElem?_append_left (by simpa [Nd.cs] using hj)]
    | succ i =>
      rw [List.getElem?_append_right (by simp [Nd.cs]; omega)]
      rw [show (i + 1) * 5 + j - y.cs.length = i * 5 + j by simp [Nd.cs]; omega]
      exact ih i (by simpa using h)

theorem ncs_set (xs : List Nd) (i : Nat) (x x' : Nd) (h : xs[i]? = some x) (j : Nat) (hj : j < 5) (u : Value) (e : x.cs.set j u = x'.cs) : (ncs xs).set (i * 5 + j) u = ncs (xs.set i x') := by
  induction xs generalizing i with
  | nil => simp at h
  | cons y ys ih =>
    rw [ncs_cons]
    cases i with
    | zero =>
      simp at h; subst h
      rw [Nat.zero_mul, Nat.zero_add, List.set_append_left _ _ (by simpa [Nd.cs] using hj), e]
      rfl
    | succ i =>
      rw [List.set_append_right _ _ (by simp [Nd.cs]; omega)]
      rw [show (i + 1) * 5 + j - y.cs.length = i * 5 + j by simp [Nd.cs]; omega, ih i (by simpa using h)]
      rfl
theorem ncs_set0 (xs : List Nd) (i : Nat) (x x' : Nd) (h : xs[i]? = some x) (u : Value) (e : x.cs.set 0 u = x'.cs) : (ncs xs).set (i * 5) u = ncs (xs.set i x') :=
  ncs_set xs i x x' h 0 (by omega) u e
theorem Nd.one (x : Nd) : ∀ u ∈ x.cs, u.oneCell' = true := by
  intro u hu
  simp only [Nd.cs, List.mem_cons, List.not_mem_nil, or_false] at hu
  rcases hu with rfl | rfl | rfl | rfl | rfl <;> rfl
theorem ncs_one (xs : List Nd) : ∀ u ∈ ncs xs, u.oneCell' = true := by
  intro u hu
  simp only [ncs, List.mem_flatMap] at hu
  obtain ⟨x, _, hx⟩ := hu
  exact x.one u hx

/-- The five cells of x from the place o of block g on. -/
def NAt (w : World) (g o : Nat) (x : Nd) : Prop :=
  w.cell? ⟨g, o, none⟩ = some (.int .i64 x.k) ∧ w.cell? ⟨g, o + 1, none⟩ = some (.int .i64 x.n) ∧ w.cell? ⟨g, o + 2, none⟩ = some (.string x.s) ∧
    w.cell? ⟨g, o + 3, none⟩ = some (.int .i64 x.a) ∧ w.cell? ⟨g, o + 4, none⟩ = some (.int .i64 x.b)

theorem NAt.below {w w' : World} {g o B : Nat} {x : Nd} (h : NAt w g o x) (hb : Below B w w') (hg : g < B) : NAt w' g o x :=
  ⟨(hb.cell (p := ⟨g, o, none⟩) hg).trans h.1, (hb.cell (p := ⟨g, o + 1, none⟩) hg).trans h.2.1, (hb.cell (p := ⟨g, o + 2, none⟩) hg).trans h.2.2.1,
    (hb.cell (p := ⟨g, o + 3, none⟩) hg).trans h.2.2.2.1, (hb.cell (p := ⟨g, o + 4, none⟩) hg).trans h.2.2.2.2⟩

/-- The slice value v reads in w as the nodes xs. -/
def NRow (w : World) (v : Value) (xs : List Nd) : Prop :=
  ∃ ao cap, v = .slice ao xs.length cap ∧ (xs.length ≤ cap ∧ (ao = none → cap = 0)) ∧ xs.length ≤ 9223372036854775807 ∧ (∀ x ∈ xs, x.s.size ≤ maxLen) ∧
    (xs ≠ [] → ∃ g o, ao = some ⟨g, o, none⟩ ∧ g < w.heap.size ∧ ∀ i x, xs[i]? = some x → NAt w g (o + i * 5) x)

theorem NRow.below {w w' : World} {v : Value} {xs : List Nd} (h : NRow w v xs) (hb : Below w.heap.size w w') : NRow w' v xs := by
  obtain ⟨ao, cap, rfl, hc, hm, hz, hcell⟩ := h
  refine ⟨ao, cap, rfl, hc, hm, hz, fun hne => ?_⟩
  obtain ⟨g, o, rfl, hg, hcell⟩ := hcell hne
  exact ⟨g, o, rfl, Nat.lt_of_lt_of_le hg hb.size, fun i x hi => (hcell i x hi).below hb hg⟩

theorem retB {p q : Bool} (h : p = q) : Ending.returned (.bool p) = .returned (.bool q) := by rw [h]

/-- The cells of a row of nodes, one behind the other. -/
theorem NRow.cells {w : World} {ao : Option Addr} {n cap : Nat} {xs : List Nd} (h : NRow w (.slice ao n cap) xs) : ∀ ad, ao = some ad → ∀ j u, (ncs xs)[j]? = some u → w.cell? (ad.add j) = some u := by
  obtain ⟨ao', cap', e, _, _, _, hcell⟩ := h
  simp only [Value.slice.injEq] at e
  obtain ⟨rfl, _, _⟩ := e
  intro ad had j u hu
  have hj : j < xs.length * 5 := by rw [← ncs_length]; exact (List.getElem?_eq_some_iff.1 hu).1
  obtain ⟨g, o, e, _, hcell⟩ := hcell (by intro h; subst h; simp at hj)
  rw [e] at had
  cases had
  have hi : j / 5 < xs.length := by omega
  have hx : xs[j / 5]? = some xs[j / 5] := List.getElem?_eq_getElem hi
  have hg := ncs_get xs (j / 5) _ hx (j % 5) (by omega)
  rw [show j / 5 * 5 + j % 5 = j by omega, hu] at hg
  obtain ⟨c0, c1, c2, c3, c4⟩ := hcell (j / 5) _ hx
  rw [Addr.add_lit]
  have h5 : j % 5 = 0 ∨ j % 5 = 1 ∨ j % 5 = 2 ∨ j % 5 = 3 ∨ j % 5 = 4 := by omega
  rcases h5 with h5 | h5 | h5 | h5 | h5
  · rw [show o + j = o + j / 5 * 5 by omega, c0, hg, h5]; rfl
  · rw [show o + j = o + j / 5 * 5 + 1 by omega, c1, hg, h5]; rfl
  · rw [show o + j = o + j / 5 * 5 + 2 by omega, c2, hg, h5]; rfl
  · rw [show o + j = o + j / 5 * 5 + 3 by omega, c3, hg, h5]; rfl
  · rw [show o + j = o + j / 5 * 5 + 4 by omega, c4, hg, h5]; rfl

theorem own_below {w w' : World} {B : Nat} {e : TypeId} {k : Nat} {v : Value} {n : Nat} {xs : List Value} (h : w.ownsRow B e k v n xs) (hb : Below w.heap.size w w') : w'.ownsRow B e k v n xs := by
  refine ⟨h.1, ?_⟩
  rcases h.2 with ⟨rfl, h0⟩ | ⟨g, cap, cur, rfl, hB, hg, hr⟩
  · exact Or.inl ⟨rfl, h0⟩
  · exact Or.inr ⟨g, cap, cur, rfl, hB, (hb.block g (Array.getElem?_eq_some_iff.1 hg).1).trans hg, hr⟩

theorem own_form {w : World} {B : Nat} {e : TypeId} {k : Nat} {v : Value} {n : Nat} {xs : List Value} (h : w.ownsRow B e k v n xs) : ∃ ao cap, v = .slice ao n cap := by
  rcases h.2 with ⟨rfl, h0⟩ | ⟨g, cap, cur, rfl, _⟩
  · exact ⟨none, 0, by rw [h0]⟩
  · exact ⟨_, _, rfl⟩

theorem own_mono {w : World} {B B' : Nat} {e : TypeId} {k : Nat} {v : Value} {n : Nat} {xs : List Value} (h : w.ownsRow B e k v n xs) (hb : B' ≤ B) : w.ownsRow B' e k v n xs := by
  refine ⟨h.1, ?_⟩
  rcases h.2 with ⟨rfl, h0⟩ | ⟨g, cap, cur, rfl, hB, hr⟩
  · exact Or.inl ⟨rfl, h0⟩
  · exact Or.inr ⟨g, cap, cur, rfl, Nat.le_trans hb hB, hr⟩

/-- A byte that a name may have. -/
def nb (b : Int) : Bool := b == 43 || b == 45 || b == 42 || b == 60 || b == 61 || b == 63 || b == 33 || b == 47 || (decide (97 ≤ b) && decide (b ≤ 122))
/-- A name. -/
def nameB (s : ByteArray) : Bool := decide (1 ≤ s.size) && decide (s.size ≤ 12) && decide (∀ i : Fin s.size, nb (s[i].toNat) = true)
theorem nameB_all {s : ByteArray} (h1 : 1 ≤ s.size) (h2 : s.size ≤ 12) (h : ∀ j (hj : j < s.size), nb (s[j].toNat) = true) : nameB s = true := by
  simp only [nameB, Bool.and_eq_true, decide_eq_true_eq]
  exact ⟨⟨h1, h2⟩, fun i => h i.1 i.2⟩
theorem nameB_not {s : ByteArray} (j : Nat) (hj : j < s.size) (h : nb (s[j].toNat) = false) : nameB s = false := by
  rw [Bool.eq_false_iff]
  intro h'
  simp only [nameB, Bool.and_eq_true, decide_eq_true_eq] at h'
  have := h'.2 ⟨j, hj⟩
  simp only [Fin.getElem_fin] at this
  rw [this] at h
  cases h
theorem nameB_size {s : ByteArray} (h : ¬ (1 ≤ s.size ∧ s.size ≤ 12)) : nameB s = false := by
  rw [Bool.eq_false_iff]
  intro h'
  simp only [nameB, Bool.and_eq_true, decide_eq_true_eq] at h'
  exact h h'.1

def lo (k : Int) : Int := if k = 3 then -1000000000 else 0
def hi (k : Int) : Int := if k = 2 then 1 else if k = 3 ∨ k = 6 ∨ k = 9 then 1000000000 else if k = 8 then 99 else 0
def hasS (k : Int) : Bool := decide (k = 4)
def hasA (k : Int) : Bool := decide (k = 5 ∨ k = 6 ∨ k = 7)
def hasB (k : Int) : Bool := decide (k = 5)
def partB (p : Int) (named : Bool) (at_ : Int) : Bool := if named then decide (0 ≤ p) && decide (p < at_) else p == 0
def nameFB (s : ByteArray) (named : Bool) : Bool := if named then nameB s else s.toList == []
/-- The node x may be the one with the number at_ of a pool. -/
def nodeB (x : Nd) (at_ : Int) : Bool :=
  decide (1 ≤ x.k) && decide (x.k ≤ 9) && decide (lo x.k ≤ x.n) && decide (x.n ≤ hi x.k) && (nameFB x.s (hasS x.k) && partB x.a (hasA x.k) at_ && partB x.b (hasB x.k) at_)
/-- The nodes from the number i on are right. -/
def nodesB (xs : List Nd) (i : Nat) : Bool := match xs with
  | [] => true
  | x :: xs => nodeB x i && nodesB xs (i + 1)
def poolB (xs : List Nd) : Bool := decide (xs.length ≤ 3000) && nodesB xs 0

theorem nodesB_drop (xs : List Nd) (i : Nat) (x : Nd) (h : xs[i]? = some x) : nodesB (xs.drop i) i = (nodeB x i && nodesB (xs.drop (i + 1)) (i + 1)) := by
  obtain ⟨hl, he⟩ := List.getElem?_eq_some_iff.1 h
  rw [List.drop_eq_getElem_cons hl, he]
  rfl

end Go.Proofs.YtkoiccocgejmcaaDoor
