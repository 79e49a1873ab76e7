/-
  A part of a block loaded, and stored: where it lies within a struct's variable. Nothing of the program; no condition.
-/
import Derived.Test.YtllfojddaobpmaaGrow
import Derived.Test.YtllfojddaobpmaaNd
import Derived.Deep.MidRow
namespace Go.Proofs.Ytllfojddaobpmaa
open Go.RowKit

theorem wpList_load_sub {P : Program} {ops : Array Oper} {rest : List Oper} {op : Oper} {a : Act} {w : World} {Q : Exit → Act → World → Prop} (hgd : op.guard = none) (ty : TypeId) (x : Operand) (ho : op.op = .load ty x)
    (b o : Nat) (hx : a.eval x = .pointer (some ⟨b, o, none⟩)) (C : Array Value) (t : TypeId) (cs : Array Value) (d : TypeDesc) (hb : w.heap[b]? = some (.cells C t (0, 0))) (hc : C.extract o (o + cs.size) = cs)
    (hu : P.underlying ty = some d) (hd : d.isRow = true) (hi : (P.info? ty).map (·.size) = some cs.size)
    (h : wpList P ops Q rest (a.put op.dst (.agg cs)) w) : wpList P ops Q (op :: rest) a w := by
  have hr := World.rangeAt_of_block hb o cs.size
  rw [hc] at hr
  exact wpList_load_mid hgd ty x ho b o hx cs.toList d hr hu hd (by simpa using hi) (by simpa using h)

theorem setCells_blk (g : Nat) (e : TypeId) : ∀ (vs : List Value) (o : Nat) (w : World) (cur : Array Value), w.heap[g]? = some (.cells cur e (0, 0)) → o + vs.length ≤ cur.size →
    ∃ cur' : Array Value, (w.setCells g o vs).heap[g]? = some (.cells cur' e (0, 0)) ∧ cur'.toList = cur.toList.take o ++ (vs ++ cur.toList.drop (o + vs.length))
  | [], o, w, cur, h, hb => ⟨cur, h, by simp⟩
  | v :: r, o, w, cur, h, hb => by
    simp only [List.length_cons] at hb
    obtain ⟨cur', h1, h2⟩ := setCells_blk g e r (o + 1) (w.setCell ⟨g, o, none⟩ v) _ (heap_setCell_same w g o cur e v h) (by simp; omega)
    refine ⟨cur', h1, h2.trans ?_⟩
    obtain ⟨A, c, B, hc, hA⟩ : ∃ A c B, cur.toList = A ++ c :: B ∧ A.length = o := ⟨cur.toList.take o, cur.toList[o]'(by simp; omega), cur.toList.drop (o + 1), by rw [← List.drop_eq_getElem_cons]; exact (List.take_append_drop _ _).symm, by simp; omega⟩
    subst hA
    rw [Array.toList_setIfInBounds, hc]
    have e1 : A.length + 1 + r.length - A.length = r.length + 1 := by omega
    have e2 : A.length ≤ A.length + 1 + r.length := by omega
    simp [List.take_append, List.drop_append, List.take_of_length_le, List.drop_of_length_le, e1, e2]
theorem setCells_oth (g : Nat) : ∀ (vs : List Value) (o : Nat) (w : World) (k : Nat), k ≠ g → (w.setCells g o vs).heap[k]? = w.heap[k]?
  | [], _, _, _, _ => rfl
  | v :: r, o, w, k, hk => (setCells_oth g r (o + 1) _ k hk).trans (heap_setCell_other w ⟨g, o, none⟩ k v hk)
theorem setCells_sz (g : Nat) : ∀ (vs : List Value) (o : Nat) (w : World), (w.setCells g o vs).heap.size = w.heap.size
  | [], _, _ => rfl
  | v :: r, o, _ => (setCells_sz g r (o + 1) _).trans (by simp [World.setCell])
theorem setCells_bel (g : Nat) : ∀ (vs : List Value) (o : Nat) (w w0 : World), Below g w0 w → Below g w0 (w.setCells g o vs)
  | [], _, _, _, h => h
  | v :: r, o, _, w0, h => setCells_bel g r (o + 1) _ w0 (h.setCell (p := ⟨g, o, none⟩) (Nat.le_refl _) v)

theorem wpList_store_sub {P : Program} {ops : Array Oper} {rest : List Oper} {op : Oper} {a : Act} {w : World} {Q : Exit → Act → World → Prop} (hgd : op.guard = none) (ty : TypeId) (x y : Operand) (ho : op.op = .store ty x y)
    (g o : Nat) (cells : Array Value) (hx : a.eval x = .pointer (some ⟨g, o, none⟩)) (hy : a.eval y = .agg cells) (t : TypeId) (old new : Array Value) (hg : w.heap[g]? = some (.cells old t (0, 0))) (hl : o + cells.size ≤ old.size)
    (hi : (P.info? ty).map (·.size) = some cells.size) (h1 : cells.all (·.oneCell') = true) (hn : new.toList = old.toList.take o ++ (cells.toList ++ old.toList.drop (o + cells.size)))
    (h : ∀ w2 : World, w2.heap[g]? = some (.cells new t (0, 0)) → Below g w w2 → w2.heap.size = w.heap.size → (∀ k, k ≠ g → w2.heap[k]? = w.heap[k]?) → wpList P ops Q rest (a.put op.dst undef) w2) : wpList P ops Q (op :: rest) a w := by
  refine wpList_store_mid hgd ty x y ho g o cells hx hy (fun j hj => ⟨?_, frozen_of_row w g _ _ _ hg⟩) hi h1 (h _ ?_ (setCells_bel g _ _ _ _ (Below.refl _ _)) (setCells_sz _ _ _ _) (fun k hk => setCells_oth g _ _ _ k hk))
  · rw [cell_of_row w g (o + j) _ _ _ hg]
    simp
    omega
  · obtain ⟨cur', h2, h3⟩ := setCells_blk g t cells.toList o w old hg (by simpa using hl)
    rw [h2]
    have : cur' = new := Array.toList_inj.1 (h3.trans (by rw [hn]; simp))
    rw [this]
end Go.Proofs.Ytllfojddaobpmaa
