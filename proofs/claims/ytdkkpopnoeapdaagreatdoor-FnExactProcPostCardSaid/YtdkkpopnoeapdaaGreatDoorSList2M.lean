/-
  Texts that stood by themselves, laid into one.
-/
import Derived.Test.YtdkkpopnoeapdaaGreatDoorShapeM
import Derived.Test.YtdkkpopnoeapdaaGreatDoorISizeM
import Derived.Test.YtdkkpopnoeapdaaGreatDoorListOfM
import Derived.Test.YtdkkpopnoeapdaaGreatDoorSMakeM
import Derived.Deep.CutBlock
import Derived.Deep.CutRange
/-
  Contract of spec's l1Min.
-/
namespace Go.Proofs.YtdkkpopnoeapdaaGreatDoor
open Go.RowKit

end Go.Proofs.YtdkkpopnoeapdaaGreatDoor

/-
  Contracts of spec's l2Has, l1Min and SizeOf.
-/
namespace Go.Proofs.YtdkkpopnoeapdaaGreatDoor
open Go.RowKit

set_option maxHeartbeats 400000 in
theorem shas_any (v : Value) (xs : List Nd) (a : Int) (w : World) (R : NRow w v xs) :
    Calls Tryz.prog 59 #[.agg #[v], .int .i64 a] w fun e w' => e = .returned (.bool (hasI xs a)) ∧ Below w.heap.size w w' := by
  obtain ⟨ao, cap, rfl, _, hm, _⟩ := R
  go_enter Tryz.func59, Tryz.ntmps59
  go_wp2_with fail
  refine (lin_any _ _ _ _).mono ?_
  rintro e w1 ⟨rfl, rfl⟩
  go_wp2
  go_ret
  refine ⟨retB ?_, (Below.refl _ _).alloc (Nat.le_refl _) _⟩
  rw [Bool.eq_iff_iff]
  simp [hasI]
  omega

theorem own_of_eq {W w5 : World} {base k n : Nat} {e : TypeId} {v : Value} {xs : List Value} (e5 : w5 = W) (h : W.ownsRow base e k v n xs) : w5.ownsRow base e k v n xs := by rw [e5]; exact h
theorem own_of_eqN {W w5 : World} {base k n m : Nat} {e : TypeId} {v : Value} {xs : List Value} (e5 : w5 = W.drewN m) (h : W.ownsRow base e k v n xs) : w5.ownsRow base e k v n xs := by rw [e5]; exact h
theorem belowN {B : Nat} {w w' : World} (h : Below B w w') (n : Nat) : Below B w (w'.drewN n) := ⟨h.os, h.tape, h.output, h.size, h.block⟩

end Go.Proofs.YtdkkpopnoeapdaaGreatDoor

/-
  Contract of spec's l2Classes: for each node the first one that is alike.
-/
namespace Go.Proofs.YtdkkpopnoeapdaaGreatDoor
open Go.RowKit Go.Maps

theorem idx_at (ks : List Nd) (y : Nd) (j : Nat) (h0 : ∀ t, t < j → ks[t]? ≠ some y) (hj : ks[j]? = some y) : idx ks y = j := by
  induction ks generalizing j with
  | nil => simp at hj
  | cons k ks ih =>
    cases j with
    | zero => simp at hj; simp [idx, hj]
    | succ j =>
      have hk : ¬ k = y := by have := h0 0 (by omega); simpa using this
      simp only [idx, if_neg hk]
      rw [ih j (fun t ht => by have := h0 (t + 1) (by omega); simpa using this) (by simpa using hj)]
theorem idx_end (ks : List Nd) (y : Nd) (h0 : ∀ t, t < ks.length → ks[t]? ≠ some y) : idx ks y = ks.length := by
  apply idx_none
  intro hm
  obtain ⟨t, ht, e⟩ := List.mem_iff_getElem.1 hm
  exact h0 t ht (by rw [List.getElem?_eq_getElem ht, e])
theorem own_apart {w : World} {B B' : Nat} {e e' : TypeId} {k k' : Nat} {v v' : Value} {n n' : Nat} {xs xs' : List Value} (h : w.ownsRow B e k v n xs) (h' : w.ownsRow B' e' k' v' n' xs') (hne : e ≠ e') : v.ownBlock = none ∨ v.ownBlock ≠ v'.ownBlock := by
  rcases h.2 with ⟨rfl, _⟩ | ⟨g, cap, cur, rfl, hB, hg, _⟩
  · exact Or.inl rfl
  · exact Or.inr fun e => own_ne h' hg hne e.symm
theorem node_eql (y : Nd) (w : World) : (binOp .eql 119 (.agg #[.int .i64 y.k, .int .i64 y.n, .string y.s, .int .i64 y.a, .int .i64 y.b]) (.agg #[.int .i64 y.k, .int .i64 y.n, .string y.s, .int .i64 y.a, .int .i64 y.b])).run Tryz.prog w = .ok (.bool true) w := by
  simp [go_sem]
theorem node_neql (z y : Nd) (h : z ≠ y) (w : World) : (binOp .eql 119 (.agg #[.int .i64 z.k, .int .i64 z.n, .string z.s, .int .i64 z.a, .int .i64 z.b]) (.agg #[.int .i64 y.k, .int .i64 y.n, .string y.s, .int .i64 y.a, .int .i64 y.b])).run Tryz.prog w = .ok (.bool false) w := by
  obtain ⟨k, n, s, a, b⟩ := z
  obtain ⟨k', n', s', a', b'⟩ := y
  have hs : s.toList = s'.toList → s = s' := by
    rw [ByteArray.toList_eq, ByteArray.toList_eq]
    intro e
    obtain ⟨⟨x⟩⟩ := s
    obtain ⟨⟨x'⟩⟩ := s'
    simp only at e
    rw [e]
  simp [go_sem]
  intro h1 h2 h3 h4 h5
  exact h (by rw [h1, h2, hs h3, h4, h5])

theorem own_empty (W : World) (t : TypeId) (k B : Nat) (h : B ≤ W.heap.size) : (W.alloc (Obj.cells #[] t)).ownsRow B t k (.slice (some ⟨W.heap.size, 0, none⟩) 0 0) 0 [] :=
  own_mono (World.ownsRow_made W #[] 0 (Nat.le_refl _) (by simp) (by simp)) h

/-- A node's block. -/
def nblk (y : Nd) : Obj := .cells #[.int .i64 y.k, .int .i64 y.n, .string y.s, .int .i64 y.a, .int .i64 y.b] 119 (0, 0)

end Go.Proofs.YtdkkpopnoeapdaaGreatDoor

/-
  Contracts of spec's l2Add and l2List once more: where the list is a row of the call's own.
-/
namespace Go.Proofs.YtdkkpopnoeapdaaGreatDoor
open Go.RowKit

set_option maxHeartbeats 1600000 in
theorem sadd_more (b base : Nat) (ao : Option Addr) (cap : Nat) (xs : List Nd) (x : Nd) (w : World) (hb : w.heap[b]? = some (.cells #[.slice ao xs.length cap] 39 (0, 0))) (ho : w.ownsRow base 119 5 (.slice ao xs.length cap) xs.length (ncs xs))
    (hm : xs.length ≤ 2097152) (hbb : base ≤ b) :
    Calls Tryz.prog 120 #[.pointer (some ⟨b, 0, none⟩), .agg #[.int .i64 x.k, .int .i64 x.n, .string x.s, .int .i64 x.a, .int .i64 x.b]] w fun e w' =>
      ∃ v', e = .returned (.int .i64 xs.length) ∧ w'.heap[b]? = some (.cells #[v'] 39 (0, 0)) ∧ w'.ownsRow base 119 5 v' (xs ++ [x]).length (ncs (xs ++ [x])) ∧ Below base w w' ∧ (∀ k, k < w.heap.size → k ≠ b → (Value.slice ao xs.length cap).ownBlock ≠ some k → w'.heap[k]? = w.heap[k]?) := by
  obtain ⟨i0, hi, hz0, hz1, hz2⟩ := info_parts Tryz.infoN
  have hlt : b < w.heap.size := (Array.getElem?_eq_some_iff.1 hb).1
  have hcb : w.cell? ⟨b, 0, none⟩ = some (.slice ao xs.length cap) := by rw [cell_of_row w b 0 _ _ _ hb]; rfl
  have hne : b ≠ w.heap.size := by omega
  go_enter Tryz.func120, Tryz.ntmps120
  go_wp2_with fail
  go_region_law (refine step_append_lies _ rfl _ _ 37 rfl base 119 i0 _ 5 48 Tryz.underlying37 hi hz0 hz1 hz2 rfl (by decide) _ _ _ rfl ((ho.alloc _).alloc _) ⟨w.heap.size + 1, 0, none⟩ 1 1 (ncs [x]) rfl rfl (World.news_of_block (cs := #[.int .i64 x.k, .int .i64 x.n, .string x.s, .int .i64 x.a, .int .i64 x.b]) (t := 119) (fr := (0, 0)) (heap_alloc2_new w _ _)) (ncs_one _) (by omega) (by unfold maxLen; omega) (by omega) (by simp; omega) (w.heap.size + 2) (by simp) ?_; intro g capg w1 hown hgrow hat hgl; have hb1 : w1.heap[b]? = some (.cells #[.slice ao xs.length cap] 39 (0, 0)) := (hgrow.block b (by simp; omega) (fun e => own_ne ho hb (by decide) e.symm)).trans ((heap_alloc_old _ _ (by simp; omega)).trans ((heap_alloc_old _ _ hlt).trans hb)); have kb1 : w1.cell? ⟨b, 0, none⟩ = some (.slice ao xs.length cap) := cell_of_row w1 b 0 _ _ _ hb1; have fb1 : w1.frozen? ⟨b, 0, none⟩ = false := frozen_of_row w1 b 0 _ _ hb1)
  all_goals
    have hown2 : w1.ownsRow base 119 5 (.slice (some ⟨g, 0, none⟩) (xs.length + 1) capg) (xs ++ [x]).length (ncs (xs ++ [x])) := by
      rw [ncs_append, List.length_append]
      exact hown
    have hs0 : base ≤ w.heap.size := by omega
    have hB1 : Below base w w1 := (((Below.refl base w).alloc hs0 _).drew.alloc (by simp; omega) _).grown hgrow (by simp; omega) (fun k hk => (ho.lt k hk).1)
    have hB2 := hB1.setCell (p := ⟨b, 0, none⟩) hbb (.slice (some ⟨g, 0, none⟩) (xs.length + 1) capg)
    have ho2 := ownsRow_setCell_other hown2 (a := ⟨b, 0, none⟩) (own_ne hown2 hb1 (by decide)) (.slice (some ⟨g, 0, none⟩) (xs.length + 1) capg)
    have hb2 := heap_setCell_same w1 b 0 _ _ (.slice (some ⟨g, 0, none⟩) (xs.length + 1) capg) hb1
    have hk2 : ∀ k, k < w.heap.size → k ≠ b → (Value.slice ao xs.length cap).ownBlock ≠ some k → (w1.setCell ⟨b, 0, none⟩ (.slice (some ⟨g, 0, none⟩) (xs.length + 1) capg)).heap[k]? = w.heap[k]? := fun k hk hkb hko => by
      rw [heap_setCell_other w1 ⟨b, 0, none⟩ k _ (fun e => hkb e), hgrow.block k (by simp; omega) (fun e => hko e.symm)]
      exact (heap_alloc_old _ _ (by simp; omega)).trans (heap_alloc_old _ _ hk)
    clear hown hgrow hat hcb hb
    go_wp2
    go_ret
    exact ⟨_, by simp, hb2, ho2, hB2, hk2⟩

theorem own_same {w w' : World} {B k n : Nat} {e : TypeId} {v : Value} {l : List Value} (h : w.ownsRow B e k v n l) (hb : ∀ j, v.ownBlock = some j → w'.heap[j]? = w.heap[j]?) : w'.ownsRow B e k v n l := by
  refine ⟨h.1, ?_⟩
  rcases h.2 with ⟨rfl, h0⟩ | ⟨g, cap, cur, rfl, hB, hg, hr⟩
  · exact Or.inl ⟨rfl, h0⟩
  · exact Or.inr ⟨g, cap, cur, rfl, hB, (hb g rfl).trans hg, hr⟩

end Go.Proofs.YtdkkpopnoeapdaaGreatDoor
