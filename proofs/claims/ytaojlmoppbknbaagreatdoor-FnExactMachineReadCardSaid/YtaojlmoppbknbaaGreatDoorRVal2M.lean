/-
  Texts that stood by themselves, laid into one.
-/
import Derived.Test.YtaojlmoppbknbaaGreatDoorEasM
import Derived.Test.YtaojlmoppbknbaaGreatDoorSWireM
import Derived.Test.YtaojlmoppbknbaaGreatDoorRcWhyM
import Derived.Test.YtaojlmoppbknbaaGreatDoorMcTM
import Derived.Test.YtaojlmoppbknbaaGreatDoorNdM
/-
  errors.As at an error that is an impl.badBytes: true; and the contract of impl.isBadBytes. The variable errors.errorType reads as it is laid.
-/
namespace Go.Proofs.YtaojlmoppbknbaaGreatDoor
open Go.RowKit Go.Extern.Stop Go.Stop Go.Extern

/-- The one cell of errors.errorType. -/
def ErrT (w : World) : Prop := w.cell? ⟨0, 0, none⟩ = some (.iface 178 (.agg #[.pointer (some ⟨1, 62, none⟩)]))
theorem ErrT.below {w w' : World} {B : Nat} (h : ErrT w) (hb : Below B w w') (hB : w.heap.size ≤ B) : ErrT w' := by
  have hl := World.block_lt_of_cell? _ _ h
  unfold ErrT
  rw [hb.cell (p := ⟨0, 0, none⟩) (Nat.lt_of_lt_of_le hl hB)]
  exact h

set_option maxRecDepth 100000 in
theorem Tryz.asSet (tb b : Nat) (p q : Int) (W : World) (hb : W.heap[b]? = some (.cells #[.int .i64 p] 106 (0, 0))) (ht : W.heap[tb]? = some (.cells #[.int .i64 q] 106 (0, 0))) :
    (ReflectliteValue.set #[.agg #[.pointer (some ⟨1, 106, none⟩), .pointer (some ⟨tb, 0, none⟩), .int .u64 409], .agg #[.pointer (some ⟨1, 106, none⟩), .pointer (some ⟨b, 0, none⟩), .int .u64 153]]).run Tryz.prog W
      = .ok (.tuple #[]) (W.setCell ⟨tb, 0, none⟩ (.int .i64 p)) := by
  have c0 : W.cell? ⟨b, 0, none⟩ = some (.int .i64 p) := cell_of_row _ _ 0 _ _ _ hb
  have c1 : W.cell? ⟨tb, 0, none⟩ = some (.int .i64 q) := cell_of_row _ _ 0 _ _ _ ht
  have f1 : W.frozen? ⟨tb, 0, none⟩ = false := frozen_of_row _ _ 0 _ _ ht
  show (ReflectliteValue.parts _ >>= _).run Tryz.prog W = _
  simp only [Sem.run_bind, Array.getLit, List.getElem_toArray, List.getElem_cons_zero, List.getElem_cons_succ, Tryz.asPartsA, Tryz.asPartsT, Result.andThen]
  simp [ReflectliteValue.flagAddr, loadVar, isAgg, underlying, Tryz.underlying106, Result.andThen, Tryz.asDirect, storeVar, Value.cells, storeCells, Addr.add]
  have hl : (loadCells ⟨b, 0, none⟩ 1).run Tryz.prog W = .ok #[.int .i64 p] W := run_loadCells_list (P := Tryz.prog) W ⟨b, 0, none⟩ [.int .i64 p] (fun j v hj => by
    cases j with
    | zero => cases hj; exact c0
    | succ j => simp at hj)
  rw [hl]
  simp [storeCells, Addr.add]
  rw [run_store Tryz.prog W ⟨tb, 0, none⟩ _ _ (by rfl)]
  simp [c1, f1]

set_option maxRecDepth 100000 in
set_option maxHeartbeats 4000000 in
theorem as_hit (p q : Int) (t : Nat) (w : World) (hg : ErrT w) (ht : w.heap[t]? = some (.cells #[.int .i64 q] 106 (0, 0))) :
    Calls Tryz.prog 51 #[.iface 106 (.agg #[.int .i64 p]), .iface 109 (.pointer (some ⟨t, 0, none⟩))] w fun ev w' => ev = .returned (.bool true) ∧ w.grownBy w' (some t) := by
  have h6 := @run_callFunc_extern Tryz.prog 79 _ (fun args => ReflectliteValue.unpack (args.getD 0 (.tuple #[]))) Tryz.func79 (by kernel_rfl) (by kernel_rfl) (by kernel_rfl) (by kernel_rfl)
  have h7 := @run_callFunc_extern Tryz.prog 80 _ (ReflectliteValue.methodAny (ReflectliteValue.valueError "reflectlite.Value.Type" 0) (fun t _ _ _ => ReflectliteType.toType t)) Tryz.func80 (by kernel_rfl) (by kernel_rfl) (by kernel_rfl) (by kernel_rfl)
  have h8 := @run_callFunc_extern Tryz.prog 81 _ (ReflectliteValue.method (ReflectliteValue.valueError "reflectlite.Value.IsNil" 0) ReflectliteValue.isNil) Tryz.func81 (by kernel_rfl) (by kernel_rfl) (by kernel_rfl) (by kernel_rfl)
  have h27 := @run_callFunc_extern Tryz.prog 154 _ (ReflectliteType.abiMethod fun t => do pure (.int .u8 (← Rtype.kind t))) Tryz.func154 (by kernel_rfl) (by kernel_rfl) (by kernel_rfl) (by kernel_rfl)
  have h37 := @run_callFunc_extern Tryz.prog 165 _ (ReflectliteType.method ReflectliteType.elem) Tryz.func165 (by kernel_rfl) (by kernel_rfl) (by kernel_rfl) (by kernel_rfl)
  have h38 := @run_callFunc_extern Tryz.prog 166 _ (ReflectliteType.relation "Implements" ReflectliteType.implements_) Tryz.func166 (by kernel_rfl) (by kernel_rfl) (by kernel_rfl) (by kernel_rfl)
  have h10 := @run_callFunc_extern Tryz.prog 116 _ ReflectliteType.typeOf Tryz.func116 (by kernel_rfl) (by kernel_rfl) (by kernel_rfl) (by kernel_rfl)
  have h35 := @run_callFunc_extern Tryz.prog 163 _ (ReflectliteType.relation "AssignableTo" ReflectliteType.assignableTo) Tryz.func163 (by kernel_rfl) (by kernel_rfl) (by kernel_rfl) (by kernel_rfl)
  have h11 := @run_callFunc_extern Tryz.prog 117 _ (ReflectliteValue.method (ReflectliteValue.valueError "reflectlite.Value.Elem" 0) ReflectliteValue.elem) Tryz.func117 (by kernel_rfl) (by kernel_rfl) (by kernel_rfl) (by kernel_rfl)
  have h12 := @run_callFunc_extern Tryz.prog 118 _ ReflectliteValue.set Tryz.func118 (by kernel_rfl) (by kernel_rfl) (by kernel_rfl) (by kernel_rfl)
  have tO := Tryz.asTypeOfT
  have mA := Tryz.asMethodAssignableTo
  have a25 := Tryz.asAssignableT
  have v25 := Tryz.asValueOfT
  have f6 := Tryz.asValueOfP
  have f7 := Tryz.asTypeP
  have mK := Tryz.asMethodKind
  have mE := Tryz.asMethodElem
  have mI := Tryz.asMethodImplements
  have k27 := Tryz.asKindP
  have k25 := Tryz.asKindT
  have e27 := Tryz.asElemP
  have i25 := Tryz.asImplementsT
  obtain ⟨t', ht'⟩ : ∃ t' : Addr, t' = ⟨t, 0, none⟩ := ⟨_, rfl⟩
  have n8 := Tryz.asIsNilP ⟨w.heap.size, 0, none⟩ ⟨t, 0, none⟩ ((w.alloc (.cells #[.pointer (some ⟨t, 0, none⟩)] 109)).alloc (.cells #[.pointer (some ⟨1, 109, none⟩), .pointer (some ⟨w.heap.size, 0, none⟩), .int .u64 150] 145)) (by simp)
  have hlt : 0 < w.heap.size := World.block_lt_of_cell? _ _ hg
  have hg2 : ((w.alloc (.cells #[.pointer (some ⟨t, 0, none⟩)] 109)).alloc (.cells #[.pointer (some ⟨1, 109, none⟩), .pointer (some ⟨w.heap.size, 0, none⟩), .int .u64 150] 145)).cell? ⟨0, 0, none⟩ = some (.iface 178 (.agg #[.pointer (some ⟨1, 62, none⟩)])) := by
    rw [World.cell?_alloc_lt _ _ ⟨0, 0, none⟩ (by simp <;> omega), World.cell?_alloc_lt _ _ ⟨0, 0, none⟩ hlt]; exact hg
  have htl : t < w.heap.size := (Array.getElem?_eq_some_iff.1 ht).1
  have el := Tryz.asElemV ⟨w.heap.size, 0, none⟩ ⟨t, 0, none⟩ (((w.alloc (.cells #[.pointer (some ⟨t, 0, none⟩)] 109)).alloc (.cells #[.pointer (some ⟨1, 109, none⟩), .pointer (some ⟨w.heap.size, 0, none⟩), .int .u64 150] 145)).alloc (.cells #[.pointer (some ⟨1, 109, none⟩), .pointer (some ⟨w.heap.size, 0, none⟩), .int .u64 150] 145)) (by rw [World.cell?_alloc_lt _ _ ⟨w.heap.size, 0, none⟩ (by simp <;> omega)]; simp)
  have st := Tryz.asSet t (w.heap.size + 1 + 1 + 1) p q ((((w.alloc (.cells #[.pointer (some ⟨t, 0, none⟩)] 109)).alloc (.cells #[.pointer (some ⟨1, 109, none⟩), .pointer (some ⟨w.heap.size, 0, none⟩), .int .u64 150] 145)).alloc (.cells #[.pointer (some ⟨1, 109, none⟩), .pointer (some ⟨w.heap.size, 0, none⟩), .int .u64 150] 145)).alloc (.cells #[.int .i64 p] 106))
    (by have := heap_alloc_new (((w.alloc (.cells #[.pointer (some ⟨t, 0, none⟩)] 109)).alloc (.cells #[.pointer (some ⟨1, 109, none⟩), .pointer (some ⟨w.heap.size, 0, none⟩), .int .u64 150] 145)).alloc (.cells #[.pointer (some ⟨1, 109, none⟩), .pointer (some ⟨w.heap.size, 0, none⟩), .int .u64 150] 145)) (.cells #[.int .i64 p] 106); simpa using this)
    (by rw [heap_alloc_old _ _ (by simp <;> omega), heap_alloc_old _ _ (by simp <;> omega), heap_alloc_old _ _ (by simp <;> omega), heap_alloc_old _ _ htl]; exact ht)
  have hG : w.grownBy (((((w.alloc (.cells #[.pointer (some ⟨t, 0, none⟩)] 109)).alloc (.cells #[.pointer (some ⟨1, 109, none⟩), .pointer (some ⟨w.heap.size, 0, none⟩), .int .u64 150] 145)).alloc (.cells #[.pointer (some ⟨1, 109, none⟩), .pointer (some ⟨w.heap.size, 0, none⟩), .int .u64 150] 145)).alloc (.cells #[.int .i64 p] 106)).setCell ⟨t, 0, none⟩ (.int .i64 p)) (some t) :=
    grown_trans (grown_trans (grown_trans (grown_trans (World.grownBy_alloc w _ _) (World.grownBy_alloc _ _ _)) (World.grownBy_alloc _ _ _)) (World.grownBy_alloc _ _ _)) (grown_set _ t 0 _)
  clear ht' t' hlt htl ht hg
  go_enter Tryz.func51, Tryz.ntmps51
  go_wp2
  refine wp_loop_rounds 1 ?_
  rw [rounds_succ]
  go_wp2
  go_ret
  exact ⟨rfl, hG⟩
set_option maxHeartbeats 800000 in
theorem isbad_nil (w : World) : Calls Tryz.prog 24 #[.nilIface] w fun e w' => e = .returned (.bool false) ∧ Below w.heap.size w w' := by
  go_enter Tryz.func24, Tryz.ntmps24
  go_wp2_with fail
  refine (as_nil _ _).mono ?_
  rintro e w1 ⟨rfl, rfl⟩
  go_wp2
  go_ret
  exact ⟨rfl, (Below.refl _ _).alloc (Nat.le_refl _) _⟩
set_option maxHeartbeats 800000 in
theorem isbad_bad (p : Int) (w : World) (hg : ErrT w) : Calls Tryz.prog 24 #[.iface 106 (.agg #[.int .i64 p])] w fun e w' => e = .returned (.bool true) ∧ Below w.heap.size w w' := by
  go_enter Tryz.func24, Tryz.ntmps24
  go_wp2_with fail
  have hB : Below w.heap.size w (w.alloc (Obj.cells #[.int .i64 0] 106)) := (Below.refl _ _).alloc (Nat.le_refl _) _
  refine (as_hit p 0 w.heap.size _ (hg.below hB (Nat.le_refl _)) (heap_alloc_new _ _)).mono ?_
  rintro e w1 ⟨rfl, hgr⟩
  go_wp2
  go_ret
  exact ⟨rfl, hB.grown hgr hB.size (fun k hk => by simp at hk; omega)⟩
end Go.Proofs.YtaojlmoppbknbaaGreatDoor

/-
  What is moved is within bounds; bytes of one's own; helpers. No condition.
-/
namespace Go.Proofs.YtaojlmoppbknbaaGreatDoor
open Go.RowKit

theorem mv_right (a : Nat) (xs : List Nd) (rs : List Int) (hp : poolB xs = true) (ha : a + (mvN a xs rs).length ≤ 3000) : ∀ x ∈ mvN a xs rs, NdOk x := by
  have I := mv_all a xs (reachL xs rs) (fun i x h => poolB_at hp h) (reach_closed xs rs (fun i x h => poolB_at hp h))
  intro x hx
  obtain ⟨j, hj⟩ := List.getElem?_of_mem hx
  have hjl : j < (mvN a xs rs).length := (List.getElem?_eq_some_iff.1 hj).1
  exact ndok_of (I.ok j x hj) (by omega)
theorem pool_small {xs : List Nd} (h : poolB xs = true) : xs.length ≤ 3000 := by simp only [poolB, Bool.and_eq_true, decide_eq_true_eq] at h; exact h.1
theorem ndok_max {xs : List Nd} (h : ∀ x ∈ xs, NdOk x) : ∀ x ∈ xs, x.s.size ≤ maxLen := fun x hx => by have := (h x hx).2.2.1; unfold maxLen; omega

/-- The bytes of an own row are there. -/
theorem own_text {w : World} {base : Nat} {ao : Option Addr} {c : Nat} {zs : List Int} (h : w.ownsRow base 5 1 (.slice ao zs.length c) zs.length (bv zs)) : zs.length ≠ 0 → ∃ g o', ao = some ⟨g, o', none⟩ ∧ ∀ i, i < zs.length → w.cell? ⟨g, o' + i, none⟩ = some (.int .u8 (zs.getD i 0)) := by
  intro hn
  obtain ⟨g, cap, e, _⟩ := h.form (by omega)
  simp only [Value.slice.injEq] at e
  obtain ⟨rfl, _, _⟩ := e
  refine ⟨g, 0, rfl, fun i hi => ?_⟩
  have := h.cellAt i (by omega)
  rw [Nat.zero_add, this, bv_get zs i hi]
theorem irow_one {w : World} {z : Int} {g : Nat} (h : w.heap[g]? = some (.cells #[.int .i64 z] 3 (0, 0))) : IRow w (.slice (some ⟨g, 0, none⟩) 1 1) [z] := by
  refine ⟨_, 1, rfl, ⟨by simp, fun h => by cases h⟩, by simp, fun _ => ⟨g, 0, rfl, (Array.getElem?_eq_some_iff.1 h).1, fun i hi => ?_⟩⟩
  have : i = 0 := by simpa using hi
  subst this
  rw [cell_of_row w _ 0 _ _ _ h]
  rfl

theorem nrow_same {w w' : World} {v : Value} {xs : List Nd} (R : NRow w v xs) (h : ∀ g, v.ownBlock = some g → w'.heap[g]? = w.heap[g]?) (hs : w.heap.size ≤ w'.heap.size) : NRow w' v xs := by
  obtain ⟨ao, cap, rfl, hc, hm, hz, hcell⟩ := R
  refine ⟨ao, cap, rfl, hc, hm, hz, fun hne => ?_⟩
  obtain ⟨g, o, rfl, hg, hcell⟩ := hcell hne
  have e := h g rfl
  refine ⟨g, o, rfl, Nat.lt_of_lt_of_le hg hs, fun i x hi => ?_⟩
  have hk := fun (j : Nat) => World.cell?_of_block (a := ⟨g, j, none⟩) e
  obtain ⟨h0, h1, h2, h3, h4⟩ := hcell i x hi
  exact ⟨(hk _).trans h0, (hk _).trans h1, (hk _).trans h2, (hk _).trans h3, (hk _).trans h4⟩
end Go.Proofs.YtaojlmoppbknbaaGreatDoor

/-
  Contracts of impl.readerOf, (impl.reader).value and impl.ValueRead: a value is read from its bytes, or nothing. The variable errors.errorType reads as it is laid.
-/
namespace Go.Proofs.YtaojlmoppbknbaaGreatDoor
open Go.RowKit

theorem wpList_bytes8 {P : Program} (w : World) {ops : Array Oper} {rest : List Oper} {o : Oper} {a : Act} {Q : Exit → Act → World → Prop} (hg : o.guard = none) (x : Operand) (src dst e : TypeId) (ho : o.op = .convert src dst x)
    (hs : P.underlying src = some .string) (hd : P.underlying dst = some (.slice e)) (he : P.underlying e = some (.int .u8)) (s : ByteArray) (hx : a.eval x = .string s)
    (h : ∀ cap w', s.size ≤ cap → (∀ j u, (bv (sb s))[j]? = some u → w'.cell? ((⟨w.heap.size, 0, none⟩ : Addr).add j) = some u) → w.grownBy w' none → w.heap.size < w'.heap.size → wpList P ops Q rest (a.put o.dst (.slice (some ⟨w.heap.size, 0, none⟩) s.size cap)) w') :
    wpList P ops Q (o :: rest) a w := by
  refine wpList_plain hg fun K hK => ?_
  obtain ⟨cap, w', hrun, h0, h1, h2, h3⟩ : ∃ cap w', (convert src dst (.string s)).run P w = .ok (.slice (some ⟨w.heap.size, 0, none⟩) s.size cap) w' ∧ s.size ≤ cap ∧
      (∀ j u, (bv (sb s))[j]? = some u → w'.cell? ((⟨w.heap.size, 0, none⟩ : Addr).add j) = some u) ∧ w.grownBy w' none ∧ w.heap.size < w'.heap.size := by
    refine ⟨_, _, run_bytes_of_string w src dst e s hs hd he, ?_, ?_, ?_, ?_⟩
    · exact grownCap_ge _ _ _ _
    · intro j u hu
      rw [Addr.add_lit, Nat.zero_add, cell_of_row _ w.heap.size j _ e _ (heap_alloc_new w.drew _)]
      exact bytesRow_get s _ j u hu
    · have hga := World.grownBy_alloc w.drew (Obj.cells (bytesRow s (grownCap w s.size 0 e)) e ((bytesRow s (grownCap w s.size 0 e)).size, (bytesRow s (grownCap w s.size 0 e)).size + 1)) none
      exact ⟨hga.os, hga.tape, hga.output, hga.size, hga.block⟩
    · show w.heap.size < (w.heap.push _).size
      simp
  unfold Oper.wp
  simp [execOp, ho, hx, hrun, Result.andThen]
  exact hK _ _ (h cap w' h0 h1 h2 h3)
theorem Tryz.sizeRd : (Tryz.prog.info? 66).map (·.size) = some 2 := by kernel_rfl
/-- The bytes of a text that were laid are a row. -/
theorem row_of_bytes {w w' : World} {s : ByteArray} {cap : Nat} (hs : s.size ≤ 140737488351232) (h0 : s.size ≤ cap) (h1 : ∀ j u, (bv (sb s))[j]? = some u → w'.cell? ((⟨w.heap.size, 0, none⟩ : Addr).add j) = some u) (h3 : w.heap.size < w'.heap.size) : Row w' (.slice (some ⟨w.heap.size, 0, none⟩) s.size cap) (sb s) := by
  refine ⟨some ⟨w.heap.size, 0, none⟩, cap, by rw [sb_length], by rw [sb_length]; exact h0, by rw [sb_length]; exact hs, sb_wf s, fun _ => ⟨w.heap.size, 0, rfl, h3, fun i hi => ?_⟩⟩
  have := h1 i (.int .u8 ((sb s).getD i 0)) (by rw [bv_get (sb s) i hi])
  rwa [Addr.add_lit] at this

set_option maxRecDepth 100000 in
set_option maxHeartbeats 1600000 in
theorem readerof_any (s : ByteArray) (w : World) (hs : s.size ≤ 140737488351232) :
    Calls Tryz.prog 22 #[.string s] w fun e w' => ∃ v W0 P, e = .returned (.agg #[v, .pointer (some ⟨P, 0, none⟩)]) ∧ Row W0 v (sb s) ∧ Below w.heap.size w W0 ∧ Below W0.heap.size W0 w' ∧ W0.heap.size ≤ P ∧ One w' P 0 := by
  go_enter Tryz.func22, Tryz.ntmps22
  go_wp2_with (first
    | (refine wpList_bytes8 _ rfl _ 9 51 5 rfl Tryz.underlying9 Tryz.underlying51 Tryz.underlying5 s rfl ?_; intro cap w2 h0 h1 h2 h3; have x2 := (h2.block w.heap.size (by simp) (by simp)).trans (heap_alloc_new w _); have hbx := (heap_alloc_old w2 (Obj.cells #[Value.int .i64 0] 3) (Array.getElem?_eq_some_iff.1 x2).1).trans x2)
    | (refine wpList_store_row rfl 66 _ _ rfl w.heap.size #[.slice (some ⟨w.heap.size + 1, 0, none⟩) s.size cap, .pointer (some ⟨w2.heap.size, 0, none⟩)] rfl rfl 66 _ hbx Tryz.sizeRd rfl (by simp [Value.oneCell']) ?_))
  have e1 : (w.alloc (Obj.cells #[Value.slice none 0 0, Value.pointer none] 66)).heap.size = w.heap.size + 1 := by simp
  have RR := row_of_bytes (w := w.alloc (Obj.cells #[Value.slice none 0 0, Value.pointer none] 66)) hs h0 h1 h3
  rw [e1] at RR h3
  have hx2 := setRow_heap w2 w.heap.size _ #[.slice (some ⟨w.heap.size + 1, 0, none⟩) s.size cap, .pointer (some ⟨w2.heap.size, 0, none⟩)] _ _ x2
  have hx3 := setRow_heap (w2.alloc (Obj.cells #[Value.int .i64 0] 3)) w.heap.size _ #[.slice (some ⟨w.heap.size + 1, 0, none⟩) s.size cap, .pointer (some ⟨w2.heap.size, 0, none⟩)] _ _ hbx
  have hRow : Row (w2.setRow w.heap.size #[.slice (some ⟨w.heap.size + 1, 0, none⟩) s.size cap, .pointer (some ⟨w2.heap.size, 0, none⟩)]) (.slice (some ⟨w.heap.size + 1, 0, none⟩) s.size cap) (sb s) := by
    obtain ⟨ao, c, q1, q2, q3, q4, q5⟩ := RR
    refine ⟨ao, c, q1, q2, q3, q4, fun hne => ?_⟩
    obtain ⟨g, o, rfl, hg, hc⟩ := q5 hne
    obtain ⟨rfl, rfl⟩ : g = w.heap.size + 1 ∧ o = 0 := by
      simp only [Value.slice.injEq, Option.some.injEq, Addr.mk.injEq] at q1
      exact ⟨q1.1.1.symm, q1.1.2.1.symm⟩
    refine ⟨_, _, rfl, by rw [size_setRow]; exact hg, fun i hi => ?_⟩
    rw [World.cell?_of_block (w := w2) (setRow_other w2 w.heap.size (w.heap.size + 1) _ (by omega))]
    exact hc i hi
  have hBW : Below w.heap.size w (w2.setRow w.heap.size #[.slice (some ⟨w.heap.size + 1, 0, none⟩) s.size cap, .pointer (some ⟨w2.heap.size, 0, none⟩)]) := by
    have hB0 : Below w.heap.size w (w.alloc (Obj.cells #[Value.slice none 0 0, Value.pointer none] 66)) := (Below.refl _ _).alloc (Nat.le_refl _) _
    have hB2 : Below w.heap.size w w2 := hB0.grown h2 hB0.size (fun k hk => by cases hk)
    exact below_setRow hB2 (Nat.le_refl _) _
  have hBF : Below w2.heap.size (w2.setRow w.heap.size #[.slice (some ⟨w.heap.size + 1, 0, none⟩) s.size cap, .pointer (some ⟨w2.heap.size, 0, none⟩)]) ((w2.alloc (Obj.cells #[Value.int .i64 0] 3)).setRow w.heap.size #[.slice (some ⟨w.heap.size + 1, 0, none⟩) s.size cap, .pointer (some ⟨w2.heap.size, 0, none⟩)]) := by
    refine ⟨rfl, rfl, rfl, by simp, fun k hk => ?_⟩
    by_cases hkk : k = w.heap.size
    · subst hkk
      rw [hx2, hx3]
    · rw [setRow_other _ _ _ _ hkk, setRow_other _ _ _ _ hkk]
      exact heap_alloc_old w2 _ hk
  have hOne : One ((w2.alloc (Obj.cells #[Value.int .i64 0] 3)).setRow w.heap.size #[.slice (some ⟨w.heap.size + 1, 0, none⟩) s.size cap, .pointer (some ⟨w2.heap.size, 0, none⟩)]) w2.heap.size 0 := (setRow_other _ _ _ _ (by omega)).trans (heap_alloc_new w2 _)
  clear hbx h1 h2 e1
  go_wp2
  exact bodyPost_ret (results_cell_row rfl _ _ w.heap.size 66 _ (0, 0) _ rfl hx3 Tryz.underlying66 rfl Tryz.sizeRd) rfl ⟨_, _, _, rfl, hRow, hBW, by rw [size_setRow]; exact hBF, by rw [size_setRow]; exact Nat.le_refl _, hOne⟩
end Go.Proofs.YtaojlmoppbknbaaGreatDoor

/-
  The contract of (impl.reader).value: a value is read from its bytes, or there is a mistake. Bounds of the form alone.
-/
namespace Go.Proofs.YtaojlmoppbknbaaGreatDoor
open Go.RowKit

theorem Lies.le {zs L : List Int} {a b : Int} (h : Lies zs a L b) (hl : L ≠ []) : b ≤ zs.length := by
  obtain ⟨h1, h2, r, h3⟩ := h
  have := congrArg List.length h3
  have hp := List.length_pos_iff.2 hl
  rw [List.length_drop, List.length_append] at this
  omega
theorem encI_ne {x : Int} (h : 0 ≤ x) : encI x ≠ [] := by
  rw [encI_pos x h]
  intro e
  rcases Int.lt_or_le x 128 with h1 | h1
  · rw [enc_last 8 x h1] at e; cases e
  · rw [enc_more 8 x (by omega)] at e; cases e
theorem rdP_le {zs : List Int} {xs : List Nd} {a b : Int} (hz : ∀ z ∈ zs, 0 ≤ z ∧ z ≤ 255) (h : rdP zs a = some (xs, b)) : b ≤ zs.length ∧ poolB xs = true := by
  unfold rdP at h
  rw [Option.bind_eq_some_iff] at h
  obtain ⟨⟨n, a1⟩, h1, h2⟩ := h
  split at h2
  · cases h2
  rw [Option.bind_eq_some_iff] at h2
  obtain ⟨⟨ys, c⟩, h3, h4⟩ := h2
  split at h4
  · rename_i hp
    cases h4
    obtain ⟨L1, hn⟩ := rd1_lies hz h1
    obtain ⟨L2, hl⟩ := rdNds_lies hz n.toNat a1 _ xs (by have := L1.1; have := L1.2.1; omega) h3
    exact ⟨(L1.append L2).le (by intro e; exact encI_ne hn (List.append_eq_nil_iff.1 e).1), hp⟩
  · cases h4
theorem vr_none {zs : List Int} (h : rdP zs 0 = none) : vrR zs = none := by unfold vrR; rw [h]; rfl
theorem vr_some {zs : List Int} {xs : List Nd} {b : Int} (h : rdP zs 0 = some (xs, b)) : vrR zs = if b = zs.length ∧ xs ≠ [] ∧ allR xs [(xs.length : Int) - 1] = true then some xs else none := by unfold vrR; rw [h]; rfl

/-- What value answers. -/
def VAns (B : Nat) (zs : List Int) (e : Ending) (w' : World) : Prop :=
  (∃ xs vs, vrR zs = some xs ∧ e = .returned (.tuple #[.agg #[vs], .nilIface]) ∧ w'.ownsRow B 86 5 vs xs.length (ncs xs)) ∨ (vrR zs = none ∧ ∃ ao n c p, e = .returned (.tuple #[.agg #[.slice ao n c], badV p]))

end Go.Proofs.YtaojlmoppbknbaaGreatDoor
