/-
  Texts that stood by themselves, laid into one.
-/
import Derived.Test.YtdkkpopnoeapdaaGreatDoorSWireM
import Derived.Test.YtdkkpopnoeapdaaGreatDoorRcWhyM
import Derived.Test.YtdkkpopnoeapdaaGreatDoorMkListM
import Derived.Test.YtdkkpopnoeapdaaGreatDoorEas2M
import Derived.Test.YtdkkpopnoeapdaaGreatDoorR8bM
/-
  What is moved is within bounds; bytes of one's own; helpers. No condition.
-/
namespace Go.Proofs.YtdkkpopnoeapdaaGreatDoor
open Go.RowKit

theorem mv_right (a : Nat) (xs : List Nd) (rs : List Int) (hp : poolB xs = true) (ha : a + (mvN a xs rs).length ≤ 3000) : ∀ x ∈ mvN a xs rs, NdOk x := by
  have I := mv_all a xs (reachL xs rs) (fun i x h => poolB_at hp h) (reach_closed xs rs (fun i x h => poolB_at hp h))
  intro x hx
  obtain ⟨j, hj⟩ := List.getElem?_of_mem hx
  have hjl : j < (mvN a xs rs).length := (List.getElem?_eq_some_iff.1 hj).1
  exact ndok_of (I.ok j x hj) (by omega)
theorem pool_small {xs : List Nd} (h : poolB xs = true) : xs.length ≤ 3000 := by simp only [poolB, Bool.and_eq_true, decide_eq_true_eq] at h; exact h.1
theorem ndok_max {xs : List Nd} (h : ∀ x ∈ xs, NdOk x) : ∀ x ∈ xs, x.s.size ≤ maxLen := fun x hx => by have := (h x hx).2.2.1; unfold maxLen; omega

/-- The bytes of an own row are there. -/
theorem own_text {w : World} {base : Nat} {ao : Option Addr} {c : Nat} {zs : List Int} (h : w.ownsRow base 5 1 (.slice ao zs.length c) zs.length (bv zs)) : zs.length ≠ 0 → ∃ g o', ao = some ⟨g, o', none⟩ ∧ ∀ i, i < zs.length → w.cell? ⟨g, o' + i, none⟩ = some (.int .u8 (zs.getD i 0)) := by
  intro hn
  obtain ⟨g, cap, e, _⟩ := h.form (by omega)
  simp only [Value.slice.injEq] at e
  obtain ⟨rfl, _, _⟩ := e
  refine ⟨g, 0, rfl, fun i hi => ?_⟩
  have := h.cellAt i (by omega)
  rw [Nat.zero_add, this, bv_get zs i hi]
theorem irow_one {w : World} {z : Int} {g : Nat} (h : w.heap[g]? = some (.cells #[.int .i64 z] 3 (0, 0))) : IRow w (.slice (some ⟨g, 0, none⟩) 1 1) [z] := by
  refine ⟨_, 1, rfl, ⟨by simp, fun h => by cases h⟩, by simp, fun _ => ⟨g, 0, rfl, (Array.getElem?_eq_some_iff.1 h).1, fun i hi => ?_⟩⟩
  have : i = 0 := by simpa using hi
  subst this
  rw [cell_of_row w _ 0 _ _ _ h]
  rfl

theorem nrow_same {w w' : World} {v : Value} {xs : List Nd} (R : NRow w v xs) (h : ∀ g, v.ownBlock = some g → w'.heap[g]? = w.heap[g]?) (hs : w.heap.size ≤ w'.heap.size) : NRow w' v xs := by
  obtain ⟨ao, cap, rfl, hc, hm, hz, hcell⟩ := R
  refine ⟨ao, cap, rfl, hc, hm, hz, fun hne => ?_⟩
  obtain ⟨g, o, rfl, hg, hcell⟩ := hcell hne
  have e := h g rfl
  refine ⟨g, o, rfl, Nat.lt_of_lt_of_le hg hs, fun i x hi => ?_⟩
  have hk := fun (j : Nat) => World.cell?_of_block (a := ⟨g, j, none⟩) e
  obtain ⟨h0, h1, h2, h3, h4⟩ := hcell i x hi
  exact ⟨(hk _).trans h0, (hk _).trans h1, (hk _).trans h2, (hk _).trans h3, (hk _).trans h4⟩
end Go.Proofs.YtdkkpopnoeapdaaGreatDoor

/-
  Contracts of impl.readerOf, (impl.reader).value and impl.ValueRead: a value is read from its bytes, or nothing. The variable errors.errorType reads as it is laid.
-/
namespace Go.Proofs.YtdkkpopnoeapdaaGreatDoor
open Go.RowKit

theorem wpList_bytes8 {P : Program} (w : World) {ops : Array Oper} {rest : List Oper} {o : Oper} {a : Act} {Q : Exit → Act → World → Prop} (hg : o.guard = none) (x : Operand) (src dst e : TypeId) (ho : o.op = .convert src dst x)
    (hs : P.underlying src = some .string) (hd : P.underlying dst = some (.slice e)) (he : P.underlying e = some (.int .u8)) (s : ByteArray) (hx : a.eval x = .string s)
    (h : ∀ cap w', s.size ≤ cap → (∀ j u, (bv (sb s))[j]? = some u → w'.cell? ((⟨w.heap.size, 0, none⟩ : Addr).add j) = some u) → w.grownBy w' none → w.heap.size < w'.heap.size → wpList P ops Q rest (a.put o.dst (.slice (some ⟨w.heap.size, 0, none⟩) s.size cap)) w') :
    wpList P ops Q (o :: rest) a w := by
  refine wpList_plain hg fun K hK => ?_
  obtain ⟨cap, w', hrun, h0, h1, h2, h3⟩ : ∃ cap w', (convert src dst (.string s)).run P w = .ok (.slice (some ⟨w.heap.size, 0, none⟩) s.size cap) w' ∧ s.size ≤ cap ∧
      (∀ j u, (bv (sb s))[j]? = some u → w'.cell? ((⟨w.heap.size, 0, none⟩ : Addr).add j) = some u) ∧ w.grownBy w' none ∧ w.heap.size < w'.heap.size := by
    refine ⟨_, _, run_bytes_of_string w src dst e s hs hd he, ?_, ?_, ?_, ?_⟩
    · exact grownCap_ge _ _ _ _
    · intro j u hu
      rw [Addr.add_lit, Nat.zero_add, cell_of_row _ w.heap.size j _ e _ (heap_alloc_new w.drew _)]
      exact bytesRow_get s _ j u hu
    · have hga := World.grownBy_alloc w.drew (Obj.cells (bytesRow s (grownCap w s.size 0 e)) e ((bytesRow s (grownCap w s.size 0 e)).size, (bytesRow s (grownCap w s.size 0 e)).size + 1)) none
      exact ⟨hga.os, hga.tape, hga.output, hga.size, hga.block⟩
    · show w.heap.size < (w.heap.push _).size
      simp
  unfold Oper.wp
  simp [execOp, ho, hx, hrun, Result.andThen]
  exact hK _ _ (h cap w' h0 h1 h2 h3)
theorem Tryz.sizeRd : (Tryz.prog.info? 141).map (·.size) = some 2 := by kernel_rfl
/-- The bytes of a text that were laid are a row. -/
theorem row_of_bytes {w w' : World} {s : ByteArray} {cap : Nat} (hs : s.size ≤ 140737488351232) (h0 : s.size ≤ cap) (h1 : ∀ j u, (bv (sb s))[j]? = some u → w'.cell? ((⟨w.heap.size, 0, none⟩ : Addr).add j) = some u) (h3 : w.heap.size < w'.heap.size) : Row w' (.slice (some ⟨w.heap.size, 0, none⟩) s.size cap) (sb s) := by
  refine ⟨some ⟨w.heap.size, 0, none⟩, cap, by rw [sb_length], by rw [sb_length]; exact h0, by rw [sb_length]; exact hs, sb_wf s, fun _ => ⟨w.heap.size, 0, rfl, h3, fun i hi => ?_⟩⟩
  have := h1 i (.int .u8 ((sb s).getD i 0)) (by rw [bv_get (sb s) i hi])
  rwa [Addr.add_lit] at this

set_option maxRecDepth 100000 in
set_option maxHeartbeats 1600000 in
theorem readerof_any (s : ByteArray) (w : World) (hs : s.size ≤ 140737488351232) :
    Calls Tryz.prog 90 #[.string s] w fun e w' => ∃ v W0 P, e = .returned (.agg #[v, .pointer (some ⟨P, 0, none⟩)]) ∧ Row W0 v (sb s) ∧ Below w.heap.size w W0 ∧ Below W0.heap.size W0 w' ∧ W0.heap.size ≤ P ∧ One w' P 0 := by
  go_enter Tryz.func90, Tryz.ntmps90
  go_wp2_with (first
    | (refine wpList_bytes8 _ rfl _ 9 100 5 rfl Tryz.underlying9 Tryz.underlying100 Tryz.underlying5 s rfl ?_; intro cap w2 h0 h1 h2 h3; have x2 := (h2.block w.heap.size (by simp) (by simp)).trans (heap_alloc_new w _); have hbx := (heap_alloc_old w2 (Obj.cells #[Value.int .i64 0] 3) (Array.getElem?_eq_some_iff.1 x2).1).trans x2)
    | (refine wpList_store_row rfl 141 _ _ rfl w.heap.size #[.slice (some ⟨w.heap.size + 1, 0, none⟩) s.size cap, .pointer (some ⟨w2.heap.size, 0, none⟩)] rfl rfl 141 _ hbx Tryz.sizeRd rfl (by simp [Value.oneCell']) ?_))
  have e1 : (w.alloc (Obj.cells #[Value.slice none 0 0, Value.pointer none] 141)).heap.size = w.heap.size + 1 := by simp
  have RR := row_of_bytes (w := w.alloc (Obj.cells #[Value.slice none 0 0, Value.pointer none] 141)) hs h0 h1 h3
  rw [e1] at RR h3
  have hx2 := setRow_heap w2 w.heap.size _ #[.slice (some ⟨w.heap.size + 1, 0, none⟩) s.size cap, .pointer (some ⟨w2.heap.size, 0, none⟩)] _ _ x2
  have hx3 := setRow_heap (w2.alloc (Obj.cells #[Value.int .i64 0] 3)) w.heap.size _ #[.slice (some ⟨w.heap.size + 1, 0, none⟩) s.size cap, .pointer (some ⟨w2.heap.size, 0, none⟩)] _ _ hbx
  have hRow : Row (w2.setRow w.heap.size #[.slice (some ⟨w.heap.size + 1, 0, none⟩) s.size cap, .pointer (some ⟨w2.heap.size, 0, none⟩)]) (.slice (some ⟨w.heap.size + 1, 0, none⟩) s.size cap) (sb s) := by
    obtain ⟨ao, c, q1, q2, q3, q4, q5⟩ := RR
    refine ⟨ao, c, q1, q2, q3, q4, fun hne => ?_⟩
    obtain ⟨g, o, rfl, hg, hc⟩ := q5 hne
    obtain ⟨rfl, rfl⟩ : g = w.heap.size + 1 ∧ o = 0 := by
      simp only [Value.slice.injEq, Option.some.injEq, Addr.mk.injEq] at q1
      exact ⟨q1.1.1.symm, q1.1.2.1.symm⟩
    refine ⟨_, _, rfl, by rw [size_setRow]; exact hg, fun i hi => ?_⟩
    rw [World.cell?_of_block (w := w2) (setRow_other w2 w.heap.size (w.heap.size + 1) _ (by omega))]
    exact hc i hi
  have hBW : Below w.heap.size w (w2.setRow w.heap.size #[.slice (some ⟨w.heap.size + 1, 0, none⟩) s.size cap, .pointer (some ⟨w2.heap.size, 0, none⟩)]) := by
    have hB0 : Below w.heap.size w (w.alloc (Obj.cells #[Value.slice none 0 0, Value.pointer none] 141)) := (Below.refl _ _).alloc (Nat.le_refl _) _
    have hB2 : Below w.heap.size w w2 := hB0.grown h2 hB0.size (fun k hk => by cases hk)
    exact below_setRow hB2 (Nat.le_refl _) _
  have hBF : Below w2.heap.size (w2.setRow w.heap.size #[.slice (some ⟨w.heap.size + 1, 0, none⟩) s.size cap, .pointer (some ⟨w2.heap.size, 0, none⟩)]) ((w2.alloc (Obj.cells #[Value.int .i64 0] 3)).setRow w.heap.size #[.slice (some ⟨w.heap.size + 1, 0, none⟩) s.size cap, .pointer (some ⟨w2.heap.size, 0, none⟩)]) := by
    refine ⟨rfl, rfl, rfl, by simp, fun k hk => ?_⟩
    by_cases hkk : k = w.heap.size
    · subst hkk
      rw [hx2, hx3]
    · rw [setRow_other _ _ _ _ hkk, setRow_other _ _ _ _ hkk]
      exact heap_alloc_old w2 _ hk
  have hOne : One ((w2.alloc (Obj.cells #[Value.int .i64 0] 3)).setRow w.heap.size #[.slice (some ⟨w.heap.size + 1, 0, none⟩) s.size cap, .pointer (some ⟨w2.heap.size, 0, none⟩)]) w2.heap.size 0 := (setRow_other _ _ _ _ (by omega)).trans (heap_alloc_new w2 _)
  clear hbx h1 h2 e1
  go_wp2
  exact bodyPost_ret (results_cell_row rfl _ _ w.heap.size 141 _ (0, 0) _ rfl hx3 Tryz.underlying141 rfl Tryz.sizeRd) rfl ⟨_, _, _, rfl, hRow, hBW, by rw [size_setRow]; exact hBF, by rw [size_setRow]; exact Nat.le_refl _, hOne⟩
end Go.Proofs.YtdkkpopnoeapdaaGreatDoor
