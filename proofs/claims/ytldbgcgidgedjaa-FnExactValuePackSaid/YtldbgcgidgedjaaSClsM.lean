/-
  Texts that stood by themselves, laid into one.
-/
import Derived.Test.YtldbgcgidgedjaaWPartsM
import Derived.Test.YtldbgcgidgedjaaIWireM
import Derived.Test.YtldbgcgidgedjaaIPutM
import Derived.OneCell
import Derived.Test.YtldbgcgidgedjaaSizeIM
import Derived.Test.YtldbgcgidgedjaaSMakeM
import Derived.Deep.CutBlock
import Derived.Deep.CutRange
/-
  Contract of impl.firstsAlike: for each node the first one that is alike.
-/
namespace Go.Proofs.Ytldbgcgidgedjaa
open Go.RowKit Go.Maps

theorem Try.infoI4 : (Try.prog.info? 3).map (fun i => (i.zero, i.size, i.bytes)) = some (some (.int .i64 0), 1, 8) := by kernel_rfl
def padI (l : List Int) (n : Nat) : List Int := l ++ List.replicate (n - l.length) 0
theorem padI_length (l : List Int) (n : Nat) (h : l.length ≤ n) : (padI l n).length = n := by simp [padI]; omega
theorem padI_nil (n : Nat) : iv (padI [] n) = (madeCells #[Value.int .i64 0] n).toList := by rw [toList_madeCells_one]; simp [padI, iv]
theorem padI_get (l : List Int) (n i : Nat) (h : i < l.length) : (padI l n).getD i 0 = l.getD i 0 := by
  unfold padI
  simp only [List.getD_eq_getElem?_getD]
  rw [List.getElem?_append_left h]
theorem padI_set (l : List Int) (n k : Nat) (z : Int) (hk : l.length = k) (h : k < n) : (padI l n).set k z = padI (l ++ [z]) n := by
  subst hk
  unfold padI
  rw [show n - l.length = n - (l ++ [z]).length + 1 by simp; omega, List.replicate_succ, List.set_append_right _ _ (Nat.le_refl _), Nat.sub_self, List.set_cons_zero, List.append_assoc]
  rfl
theorem padI_full (l : List Int) : padI l l.length = l := by simp [padI]
theorem zeroI (w : World) : (zeroValue 3).run Try.prog w = .ok (.int .i64 0) w := by kernel_rfl

theorem fb_get {l : List Int} {k : Nat} (h : ∀ f ∈ l, 0 ≤ f ∧ f ≤ k) (i : Nat) (hi : i < l.length) : 0 ≤ l.getD i 0 ∧ l.getD i 0 ≤ k := by
  rw [List.getD_eq_getElem?_getD, List.getElem?_eq_getElem hi]
  exact h _ (List.getElem_mem _)
theorem nodeB_N {x : Nd} {n : Int} (h : nodeB x n = true) : -1000000000 ≤ x.n ∧ x.n ≤ 1000000000 := by
  simp only [nodeB, Bool.and_eq_true, decide_eq_true_eq] at h
  have h1 := h.1.1.2
  have h2 := h.1.2
  unfold lo at h1
  unfold Go.Proofs.Ytldbgcgidgedjaa.hi at h2
  constructor
  · split at h1 <;> omega
  · split at h2
    · omega
    · split at h2
      · omega
      · split at h2 <;> omega
theorem nodeB_A0 {x : Nd} {n : Int} (h : nodeB x n = true) (ha : hasA x.k = false) : x.a = 0 := by
  simp only [nodeB, Bool.and_eq_true, decide_eq_true_eq] at h
  have := h.2.1.2
  rw [ha] at this
  simpa [partB] using this
theorem nodeB_B0 {x : Nd} {n : Int} (h : nodeB x n = true) (ha : hasB x.k = false) : x.b = 0 := by
  simp only [nodeB, Bool.and_eq_true, decide_eq_true_eq] at h
  have := h.2.2
  rw [ha] at this
  simpa [partB] using this

end Go.Proofs.Ytldbgcgidgedjaa

/-
  Contract of impl.SizeOf.
-/
namespace Go.Proofs.Ytldbgcgidgedjaa
open Go.RowKit

theorem Try.infoI : (Try.prog.info? 3).map (fun i => (i.zero, i.size, i.bytes)) = some (some (.int .i64 0), 1, 8) := by kernel_rfl

/-- The sizes so far, and noughts behind them. -/
def padded (xs : List Nd) (k n : Nat) : List Int := sizesTo xs k ++ List.replicate (n - k) 0
theorem padded_length (xs : List Nd) (k n : Nat) (hk : k ≤ n) (hn : n ≤ xs.length) : (padded xs k n).length = n := by
  unfold padded; rw [List.length_append, sizesTo_length xs k (by omega)]; simp; omega
theorem padded_zero (xs : List Nd) (n : Nat) : iv (padded xs 0 n) = (madeCells #[Value.int .i64 0] n).toList := by
  rw [toList_madeCells_one]; simp [padded, iv, sizesTo, sizes]
theorem padded_get (xs : List Nd) (k n i : Nat) (hk : k ≤ xs.length) (hi : i < k) : (padded xs k n).getD i 0 = (sizesTo xs k).getD i 0 := by
  unfold padded
  simp only [List.getD_eq_getElem?_getD]
  rw [List.getElem?_append_left (by rw [sizesTo_length xs k hk]; exact hi)]
theorem padded_set (xs : List Nd) (k n : Nat) (x : Nd) (hk : k < n) (hn : n ≤ xs.length) (h : xs[k]? = some x) : (padded xs k n).set k (szN (sizesTo xs k) x) = padded xs (k + 1) n := by
  unfold padded
  have hl := sizesTo_length xs k (by omega)
  rw [sizesTo_succ xs k x h, show n - k = n - (k + 1) + 1 by omega, List.replicate_succ, List.set_append_right _ _ (by omega), hl, Nat.sub_self, List.set_cons_zero, List.append_assoc]
  rfl

/-- A row of ints of the call's own, one cell of it written three times: what lies there. -/
theorem thrice {w : World} {base n B cap k : Nat} {zs : List Int} (h : w.ownsRow base 3 1 (.slice (some ⟨B, 0, none⟩) n cap) n (iv zs)) (hk : k < zs.length) (hn : zs.length = n) (a b c : Int) :
    ((((w.setCell ⟨B, k, none⟩ (.int .i64 a)).setCell ⟨B, k, none⟩ (.int .i64 b)).setCell ⟨B, k, none⟩ (.int .i64 c)).cell? ⟨B, k, none⟩ = some (.int .i64 c) ∧ (((w.setCell ⟨B, k, none⟩ (.int .i64 a)).setCell ⟨B, k, none⟩ (.int .i64 b)).setCell ⟨B, k, none⟩ (.int .i64 c)).frozen? ⟨B, k, none⟩ = false) ∧
    (((w.setCell ⟨B, k, none⟩ (.int .i64 a)).setCell ⟨B, k, none⟩ (.int .i64 b)).setCell ⟨B, k, none⟩ (.int .i64 c)).ownsRow base 3 1 (.slice (some ⟨B, 0, none⟩) n cap) n (iv (zs.set k c)) := by
  have s1 := h.stored k (.int .i64 a)
  rw [iv_set] at s1
  have s2 := s1.1.stored k (.int .i64 b)
  rw [iv_set, List.set_set] at s2
  have s3 := s2.1.stored k (.int .i64 c)
  rw [iv_set, List.set_set] at s3
  have g := s3.1.cellAt k (by omega)
  rw [iv_get _ _ (by rw [List.length_set]; omega), List.getD_eq_getElem?_getD, List.getElem?_set_self (by omega)] at g
  exact ⟨⟨g, s3.1.frozenAt k⟩, s3.1⟩
theorem twice {w : World} {base n B cap k : Nat} {zs : List Int} (h : w.ownsRow base 3 1 (.slice (some ⟨B, 0, none⟩) n cap) n (iv zs)) (hk : k < zs.length) (hn : zs.length = n) (a b : Int) :
    (((w.setCell ⟨B, k, none⟩ (.int .i64 a)).setCell ⟨B, k, none⟩ (.int .i64 b)).cell? ⟨B, k, none⟩ = some (.int .i64 b) ∧ ((w.setCell ⟨B, k, none⟩ (.int .i64 a)).setCell ⟨B, k, none⟩ (.int .i64 b)).frozen? ⟨B, k, none⟩ = false) ∧
    ((w.setCell ⟨B, k, none⟩ (.int .i64 a)).setCell ⟨B, k, none⟩ (.int .i64 b)).ownsRow base 3 1 (.slice (some ⟨B, 0, none⟩) n cap) n (iv (zs.set k b)) := by
  have s1 := h.stored k (.int .i64 a)
  rw [iv_set] at s1
  have s2 := s1.1.stored k (.int .i64 b)
  rw [iv_set, List.set_set] at s2
  have g := s2.1.cellAt k (by omega)
  rw [iv_get _ _ (by rw [List.length_set]; omega), List.getD_eq_getElem?_getD, List.getElem?_set_self (by omega)] at g
  exact ⟨⟨g, s2.1.frozenAt k⟩, s2.1⟩

theorem min_if (z : Int) : (if 1000000000 < z then 1000000000 else z) = min z 1000000000 := by split <;> omega
theorem fin3 {w w0 : World} {W0 base n B cap k : Nat} {zs : List Int} (h : w.ownsRow base 3 1 (.slice (some ⟨B, 0, none⟩) n cap) n (iv zs)) (hk : k < zs.length) (hn : zs.length = n) (hB : Below W0 w0 w) (hb : W0 ≤ B) (hs : W0 ≤ w.heap.size) (a b c d : Int) (o : Obj) :
    (((((w.setCell ⟨B, k, none⟩ (.int .i64 a)).setCell ⟨B, k, none⟩ (.int .i64 b)).setCell ⟨B, k, none⟩ (.int .i64 c)).setCell ⟨B, k, none⟩ (.int .i64 d)).alloc o).ownsRow base 3 1 (.slice (some ⟨B, 0, none⟩) n cap) n (iv (zs.set k d)) ∧
    Below W0 w0 (((((w.setCell ⟨B, k, none⟩ (.int .i64 a)).setCell ⟨B, k, none⟩ (.int .i64 b)).setCell ⟨B, k, none⟩ (.int .i64 c)).setCell ⟨B, k, none⟩ (.int .i64 d)).alloc o) := by
  have s := (thrice h hk hn a b c).2.stored k (.int .i64 d)
  rw [iv_set, List.set_set] at s
  exact ⟨s.1.alloc _, ((((hB.setCell (p := ⟨B, k, none⟩) hb _).setCell (p := ⟨B, k, none⟩) hb _).setCell (p := ⟨B, k, none⟩) hb _).setCell (p := ⟨B, k, none⟩) hb _).alloc (by simpa using hs) _⟩
theorem fin2 {w w0 : World} {W0 base n B cap k : Nat} {zs : List Int} (h : w.ownsRow base 3 1 (.slice (some ⟨B, 0, none⟩) n cap) n (iv zs)) (hk : k < zs.length) (hn : zs.length = n) (hB : Below W0 w0 w) (hb : W0 ≤ B) (hs : W0 ≤ w.heap.size) (a b d : Int) (o : Obj) :
    ((((w.setCell ⟨B, k, none⟩ (.int .i64 a)).setCell ⟨B, k, none⟩ (.int .i64 b)).setCell ⟨B, k, none⟩ (.int .i64 d)).alloc o).ownsRow base 3 1 (.slice (some ⟨B, 0, none⟩) n cap) n (iv (zs.set k d)) ∧
    Below W0 w0 ((((w.setCell ⟨B, k, none⟩ (.int .i64 a)).setCell ⟨B, k, none⟩ (.int .i64 b)).setCell ⟨B, k, none⟩ (.int .i64 d)).alloc o) :=
  ⟨(thrice h hk hn a b d).2.alloc _, (((hB.setCell (p := ⟨B, k, none⟩) hb _).setCell (p := ⟨B, k, none⟩) hb _).setCell (p := ⟨B, k, none⟩) hb _).alloc (by simpa using hs) _⟩
theorem fin1 {w w0 : World} {W0 base n B cap k : Nat} {zs : List Int} (h : w.ownsRow base 3 1 (.slice (some ⟨B, 0, none⟩) n cap) n (iv zs)) (hk : k < zs.length) (hn : zs.length = n) (hB : Below W0 w0 w) (hb : W0 ≤ B) (hs : W0 ≤ w.heap.size) (a d : Int) (o : Obj) :
    (((w.setCell ⟨B, k, none⟩ (.int .i64 a)).setCell ⟨B, k, none⟩ (.int .i64 d)).alloc o).ownsRow base 3 1 (.slice (some ⟨B, 0, none⟩) n cap) n (iv (zs.set k d)) ∧
    Below W0 w0 (((w.setCell ⟨B, k, none⟩ (.int .i64 a)).setCell ⟨B, k, none⟩ (.int .i64 d)).alloc o) :=
  ⟨(twice h hk hn a d).2.alloc _, ((hB.setCell (p := ⟨B, k, none⟩) hb _).setCell (p := ⟨B, k, none⟩) hb _).alloc (by simpa using hs) _⟩
theorem hasB_A {k : Int} (h : hasA k = false) : hasB k = false := by
  unfold hasA at h; unfold hasB
  simp only [decide_eq_false_iff_not] at h ⊢
  omega

end Go.Proofs.Ytldbgcgidgedjaa

/-
  Contracts of spec's l2Has, l1Min and SizeOf.
-/
namespace Go.Proofs.Ytldbgcgidgedjaa
open Go.RowKit

set_option maxHeartbeats 400000 in
theorem shas_any (v : Value) (xs : List Nd) (a : Int) (w : World) (R : NRow w v xs) :
    Calls Try.prog 11 #[.agg #[v], .int .i64 a] w fun e w' => e = .returned (.bool (hasI xs a)) ∧ Below w.heap.size w w' := by
  obtain ⟨ao, cap, rfl, _, hm, _⟩ := R
  go_enter Try.func11, Try.ntmps11
  go_wp2_with fail
  refine (lin_any _ _ _ _).mono ?_
  rintro e w1 ⟨rfl, rfl⟩
  go_wp2
  go_ret
  refine ⟨retB ?_, (Below.refl _ _).alloc (Nat.le_refl _) _⟩
  rw [Bool.eq_iff_iff]
  simp [hasI]
  omega

theorem own_of_eq {W w5 : World} {base k n : Nat} {e : TypeId} {v : Value} {xs : List Value} (e5 : w5 = W) (h : W.ownsRow base e k v n xs) : w5.ownsRow base e k v n xs := by rw [e5]; exact h
theorem own_of_eqN {W w5 : World} {base k n m : Nat} {e : TypeId} {v : Value} {xs : List Value} (e5 : w5 = W.drewN m) (h : W.ownsRow base e k v n xs) : w5.ownsRow base e k v n xs := by rw [e5]; exact h
theorem belowN {B : Nat} {w w' : World} (h : Below B w w') (n : Nat) : Below B w (w'.drewN n) := ⟨h.os, h.tape, h.output, h.size, h.block⟩

end Go.Proofs.Ytldbgcgidgedjaa

/-
  Contract of spec's l2Classes: for each node the first one that is alike.
-/
namespace Go.Proofs.Ytldbgcgidgedjaa
open Go.RowKit Go.Maps

theorem idx_at (ks : List Nd) (y : Nd) (j : Nat) (h0 : ∀ t, t < j → ks[t]? ≠ some y) (hj : ks[j]? = some y) : idx ks y = j := by
  induction ks generalizing j with
  | nil => simp at hj
  | cons k ks ih =>
    cases j with
    | zero => simp at hj; simp [idx, hj]
    | succ j =>
      have hk : ¬ k = y := by have := h0 0 (by omega); simpa using this
      simp only [idx, if_neg hk]
      rw [ih j (fun t ht => by have := h0 (t + 1) (by omega); simpa using this) (by simpa using hj)]
theorem idx_end (ks : List Nd) (y : Nd) (h0 : ∀ t, t < ks.length → ks[t]? ≠ some y) : idx ks y = ks.length := by
  apply idx_none
  intro hm
  obtain ⟨t, ht, e⟩ := List.mem_iff_getElem.1 hm
  exact h0 t ht (by rw [List.getElem?_eq_getElem ht, e])
theorem own_apart {w : World} {B B' : Nat} {e e' : TypeId} {k k' : Nat} {v v' : Value} {n n' : Nat} {xs xs' : List Value} (h : w.ownsRow B e k v n xs) (h' : w.ownsRow B' e' k' v' n' xs') (hne : e ≠ e') : v.ownBlock = none ∨ v.ownBlock ≠ v'.ownBlock := by
  rcases h.2 with ⟨rfl, _⟩ | ⟨g, cap, cur, rfl, hB, hg, _⟩
  · exact Or.inl rfl
  · exact Or.inr fun e => own_ne h' hg hne e.symm
theorem node_eql (y : Nd) (w : World) : (binOp .eql 52 (.agg #[.int .i64 y.k, .int .i64 y.n, .string y.s, .int .i64 y.a, .int .i64 y.b]) (.agg #[.int .i64 y.k, .int .i64 y.n, .string y.s, .int .i64 y.a, .int .i64 y.b])).run Try.prog w = .ok (.bool true) w := by
  simp [go_sem]
theorem node_neql (z y : Nd) (h : z ≠ y) (w : World) : (binOp .eql 52 (.agg #[.int .i64 z.k, .int .i64 z.n, .string z.s, .int .i64 z.a, .int .i64 z.b]) (.agg #[.int .i64 y.k, .int .i64 y.n, .string y.s, .int .i64 y.a, .int .i64 y.b])).run Try.prog w = .ok (.bool false) w := by
  obtain ⟨k, n, s, a, b⟩ := z
  obtain ⟨k', n', s', a', b'⟩ := y
  have hs : s.toList = s'.toList → s = s' := by
    rw [ByteArray.toList_eq, ByteArray.toList_eq]
    intro e
    obtain ⟨⟨x⟩⟩ := s
    obtain ⟨⟨x'⟩⟩ := s'
    simp only at e
    rw [e]
  simp [go_sem]
  intro h1 h2 h3 h4 h5
  exact h (by rw [h1, h2, hs h3, h4, h5])

theorem own_empty (W : World) (t : TypeId) (k B : Nat) (h : B ≤ W.heap.size) : (W.alloc (Obj.cells #[] t)).ownsRow B t k (.slice (some ⟨W.heap.size, 0, none⟩) 0 0) 0 [] :=
  own_mono (World.ownsRow_made W #[] 0 (Nat.le_refl _) (by simp) (by simp)) h

/-- A node's block. -/
def nblk (y : Nd) : Obj := .cells #[.int .i64 y.k, .int .i64 y.n, .string y.s, .int .i64 y.a, .int .i64 y.b] 52 (0, 0)

end Go.Proofs.Ytldbgcgidgedjaa
