/-
  A machine's records: how great, made of the law's, and alike. No condition.
-/
import Derived.Test.YtmnmljmbicepjaaMcT
import Derived.Test.YtmnmljmbicepjaaListOf
import Derived.Test.YtmnmljmbicepjaaSzGen
import Derived.Laws.IdiomCopy
namespace Go.Proofs.Ytmnmljmbicepjaa
open Go.RowKit

set_option maxRecDepth 100000 in
set_option maxHeartbeats 3200000 in
theorem eqmach_any (va vb : Value) (xs : List Nd) (m : Mc) (w : World) (Ra : NRow w va xs) (Rb : NRow w vb xs) :
    Calls Try.prog 9 #[.agg #[va, .int .i64 m.p, .int .i64 m.s, .int .i64 m.e, .int .i64 m.d, .int .i64 m.t, .int .i64 m.q, .int .i64 m.r], .agg #[vb, .int .i64 m.p, .int .i64 m.s, .int .i64 m.e, .int .i64 m.d, .int .i64 m.t, .int .i64 m.q, .int .i64 m.r]] w fun e w' => e = .returned (.bool true) ∧ Below w.heap.size w w' := by
  have Ra' := Ra
  have Rb' := Rb
  obtain ⟨aa, ca, rfl, _⟩ := Ra'
  obtain ⟨ab, cb, rfl, _⟩ := Rb'
  obtain ⟨hB0, hk0, hx0⟩ := two_boxes w (Obj.cells #[.slice aa xs.length ca, .int .i64 m.p, .int .i64 m.s, .int .i64 m.e, .int .i64 m.d, .int .i64 m.t, .int .i64 m.q, .int .i64 m.r] 34) (Obj.cells #[.slice ab xs.length cb, .int .i64 m.p, .int .i64 m.s, .int .i64 m.e, .int .i64 m.d, .int .i64 m.t, .int .i64 m.q, .int .i64 m.r] 34)
  go_enter Try.func9, Try.ntmps9
  go_wp2_with fail
  refine (eqpool_any _ _ xs _ (Ra.below hB0) (Rb.below hB0)).mono ?_
  rintro e w1 ⟨rfl, hb1⟩
  have hB1 := hB0.trans (hb1.mono hB0.size)
  have hk1 := (hb1.block _ (Array.getElem?_eq_some_iff.1 hk0).1).trans hk0
  have hx1 := (hb1.block _ (Array.getElem?_eq_some_iff.1 hx0).1).trans hx0
  clear hB0 hk0 hx0 hb1
  have l1 : w1.cell? ⟨w.heap.size, 0 + 1, none⟩ = some (.int .i64 m.p) := cell_of_row w1 _ 1 _ _ _ hk1
  have k1 : w1.cell? ⟨w.heap.size + 1, 0 + 1, none⟩ = some (.int .i64 m.p) := cell_of_row w1 _ 1 _ _ _ hx1
  have l2 : w1.cell? ⟨w.heap.size, 0 + 2, none⟩ = some (.int .i64 m.s) := cell_of_row w1 _ 2 _ _ _ hk1
  have k2 : w1.cell? ⟨w.heap.size + 1, 0 + 2, none⟩ = some (.int .i64 m.s) := cell_of_row w1 _ 2 _ _ _ hx1
  have l3 : w1.cell? ⟨w.heap.size, 0 + 3, none⟩ = some (.int .i64 m.e) := cell_of_row w1 _ 3 _ _ _ hk1
  have k3 : w1.cell? ⟨w.heap.size + 1, 0 + 3, none⟩ = some (.int .i64 m.e) := cell_of_row w1 _ 3 _ _ _ hx1
  have l4 : w1.cell? ⟨w.heap.size, 0 + 4, none⟩ = some (.int .i64 m.d) := cell_of_row w1 _ 4 _ _ _ hk1
  have k4 : w1.cell? ⟨w.heap.size + 1, 0 + 4, none⟩ = some (.int .i64 m.d) := cell_of_row w1 _ 4 _ _ _ hx1
  have l5 : w1.cell? ⟨w.heap.size, 0 + 5, none⟩ = some (.int .i64 m.t) := cell_of_row w1 _ 5 _ _ _ hk1
  have k5 : w1.cell? ⟨w.heap.size + 1, 0 + 5, none⟩ = some (.int .i64 m.t) := cell_of_row w1 _ 5 _ _ _ hx1
  have l6 : w1.cell? ⟨w.heap.size, 0 + 6, none⟩ = some (.int .i64 m.q) := cell_of_row w1 _ 6 _ _ _ hk1
  have k6 : w1.cell? ⟨w.heap.size + 1, 0 + 6, none⟩ = some (.int .i64 m.q) := cell_of_row w1 _ 6 _ _ _ hx1
  have l7 : w1.cell? ⟨w.heap.size, 0 + 7, none⟩ = some (.int .i64 m.r) := cell_of_row w1 _ 7 _ _ _ hk1
  have k7 : w1.cell? ⟨w.heap.size + 1, 0 + 7, none⟩ = some (.int .i64 m.r) := cell_of_row w1 _ 7 _ _ _ hx1
  clear hk1 hx1
  go_wp2
  go_ret
  exact ⟨rfl, hB1⟩

/-- One cell stored: what is known of the world behind it. -/
theorem wpList_store_at {P : Program} {ops : Array Oper} {rest : List Oper} {o : Oper} {a : Act} {w : World} {Q : Exit → Act → World → Prop} (hgd : o.guard = none) (ty : TypeId) (x y : Operand) (ho : o.op = .store ty x y)
    (g i : Nat) (v : Value) (cs : Array Value) (hx : a.eval x = .pointer (some ⟨g, i, none⟩)) (hy : a.eval y = v) (hc : v.cells = #[cs.getD 0 undef]) (hv : (cs.getD 0 undef).oneCell' = true) (t : TypeId) (old new : Array Value) (hg : w.heap[g]? = some (.cells old t (0, 0))) (hl : i < old.size) (hi : (P.info? ty).map (·.size) = some 1) (hn : new = old.setIfInBounds i (cs.getD 0 undef))
    (h : ∀ w2 : World, w2.heap[g]? = some (.cells new t (0, 0)) → Below g w w2 → w2.heap.size = w.heap.size → (∀ k, k ≠ g → w2.heap[k]? = w.heap[k]?) → wpList P ops Q rest (a.put o.dst undef) w2) : wpList P ops Q (o :: rest) a w := by
  refine wpList_plain hgd fun K hK => ?_
  generalize cs.getD 0 undef = c at hc hv hn
  have hcell : (w.cell? ⟨g, i, none⟩).isSome = true := by rw [cell_of_row w g i _ _ _ hg]; simp [hl]
  have hrun := run_storeCells_cells (P := P) g i [c] 0 w (fun j hj => by have : j = 0 := by simpa using hj
                                                                         subst this; simpa using hcell) (fun j hj => frozen_of_row w g _ _ _ hg) (fun u hu => by simp at hu; subst hu; exact hv)
  have hst : (storeVar ty ⟨g, i, none⟩ v).run P w = .ok () (w.setCell ⟨g, i, none⟩ c) := by
    cases hq : P.info? ty with
    | none => simp [hq] at hi
    | some inf =>
      have hs : inf.size = 1 := by simpa [hq] using hi
      simp only [Nat.add_zero] at hrun
      simp [storeVar, sizeOf, typeInfo, hq, hc, hs, hrun, World.setCells]
  unfold Oper.wp execOp
  simp only [ho, hx, hy, Instr.storeAt, Instr.sureAddr, Sem.run_bind, Sem.run_pure, Result.andThen_ok, hst]
  refine hK _ _ (h _ ?_ ((Below.refl g w).setCell (p := ⟨g, i, none⟩) (Nat.le_refl _) _) (by simp [World.setCell]) (fun k hk => heap_setCell_other w ⟨g, i, none⟩ k _ hk))
  rw [hn]
  exact heap_setCell_same w g i _ _ _ hg

theorem wpList_store_own2 {P : Program} {ops : Array Oper} {rest : List Oper} {o : Oper} {a : Act} {w : World} {Q : Exit → Act → World → Prop} (hgd : o.guard = none) (ty : TypeId) (x y : Operand) (ho : o.op = .store ty x y)
    (g : Nat) (cells : Array Value) (hx : a.eval x = .pointer (some ⟨g, 0, none⟩)) (hy : a.eval y = .agg cells)
    (t : TypeId) (old : Array Value) (hg : w.heap[g]? = some (.cells old t (0, 0))) (hi : (P.info? ty).map (·.size) = some cells.size)
    (hold : old.size = cells.size) (h1 : cells.all (·.oneCell') = true)
    (h : ∀ w2 : World, w2.heap[g]? = some (.cells cells t (0, 0)) → Below g w w2 → w2.heap.size = w.heap.size → (∀ k, k ≠ g → w2.heap[k]? = w.heap[k]?) → wpList P ops Q rest (a.put o.dst undef) w2) : wpList P ops Q (o :: rest) a w :=
  wpList_store_row hgd ty x y ho g cells hx hy t old hg hi hold h1 (h _ (setRow_heap w g old _ t _ hg) (below_setRow (Below.refl _ _) (Nat.le_refl _) _) (size_setRow w g cells) (fun k hk => setRow_other w g k cells hk))

theorem own_keep {w w' : World} {B k n g : Nat} {e : TypeId} {v : Value} {l : List Value} (h : w.ownsRow B e k v n l) (hg : g < B) (hb : ∀ j, j ≠ g → w'.heap[j]? = w.heap[j]?) : w'.ownsRow B e k v n l := by
  refine ⟨h.1, ?_⟩
  rcases h.2 with ⟨rfl, h0⟩ | ⟨gg, cap, cur, rfl, hB, hgg, hr⟩
  · exact Or.inl ⟨rfl, h0⟩
  · exact Or.inr ⟨gg, cap, cur, rfl, hB, (hb gg (by omega)).trans hgg, hr⟩

end Go.Proofs.Ytmnmljmbicepjaa
