/-
  Texts that stood by themselves, laid into one.
-/
import Derived.Test.YtenegpbpalbpeaaGreatDoorNameM
import Derived.LaidEql
import Derived.Stop.Asserts
import Derived.RowKitTokens
import Derived.Test.YtenegpbpalbpeaaGreatDoorSWireM
import Derived.Test.YtenegpbpalbpeaaGreatDoorRcWhyM
import Derived.Test.YtenegpbpalbpeaaGreatDoorMachM
import Derived.Test.YtenegpbpalbpeaaGreatDoorRKeptM
import Derived.Test.YtenegpbpalbpeaaGreatDoorWireM
/-
  errors.As at a target that is a struct of one number (impl.badBytes): false of nil, true of such an error; and the contract of impl.isBadBytes. The variable errors.errorType reads as it is laid.
-/
namespace Go.Proofs.YtenegpbpalbpeaaGreatDoor
open Go.RowKit Go.Extern.Stop Go.Stop Go.Extern
theorem as_nil (t : Value) (w : World) :
    Calls Tryz.prog 194 #[.nilIface, t] w fun e w' => e = .returned (.bool false) ∧ w' = w := by
  go_enter Tryz.func194, Tryz.ntmps194
  go_wp2
  go_ret
  exact ⟨rfl, rfl⟩
theorem Tryz.asValueOfP (t : Addr) (w : World) : (ReflectliteValue.unpack (.iface 252 (.pointer (some t)))).run Tryz.prog w
    = .ok (.agg #[.pointer (some ⟨1, 252, none⟩), .pointer (some ⟨w.heap.size, 0, none⟩), .int .u64 150]) (w.alloc (.cells #[.pointer (some t)] 252)) := by kernel_rfl
theorem Tryz.asTypeP (a : Addr) (w : World) : (ReflectliteValue.methodAny (ReflectliteValue.valueError "reflectlite.Value.Type" 0) (fun t _ _ _ => ReflectliteType.toType t) #[.agg #[.pointer (some ⟨1, 252, none⟩), .pointer (some a), .int .u64 150]]).run Tryz.prog w
    = .ok (.iface 283 (.agg #[.pointer (some ⟨1, 252, none⟩)])) w := by kernel_rfl
theorem Tryz.asMethodKind (h : Value) (w : World) : (Go.method 435 283 (.agg #[h]) "Kind").run Tryz.prog w = .ok (246, h) w := by kernel_rfl
theorem Tryz.asKindP (w : World) : ((ReflectliteType.abiMethod fun t => (fun a : Nat => Value.int IntKind.u8 (a : Int)) <$> Rtype.kind t) #[.pointer (some ⟨1, 252, none⟩)]).run Tryz.prog w = .ok (.int .u8 22) w := by kernel_rfl
theorem Tryz.asKindT (w : World) : ((ReflectliteType.abiMethod fun t => (fun a : Nat => Value.int IntKind.u8 (a : Int)) <$> Rtype.kind t) #[.pointer (some ⟨1, 249, none⟩)]).run Tryz.prog w = .ok (.int .u8 25) w := by kernel_rfl
theorem rlm (z : Sem Value) (f : TypeId → Addr → Nat → Nat → Sem Value) (v : Value) :
    ReflectliteValue.method z f #[v] = (do match ← ReflectliteValue.parts v with | none => z | some (t, a, fl) => f t a fl (fl % 32)) := rfl
theorem Tryz.asPartsP (a : Addr) (w : World) : (ReflectliteValue.parts (.agg #[.pointer (some ⟨1, 252, none⟩), .pointer (some a), .int .u64 150])).run Tryz.prog w = .ok (some (252, a, 150)) w := by kernel_rfl
theorem Tryz.asIsNilP (a p : Addr) (W : World) (ha : W.cell? a = some (.pointer (some p))) :
    (ReflectliteValue.method (ReflectliteValue.valueError "reflectlite.Value.IsNil" 0) ReflectliteValue.isNil #[.agg #[.pointer (some ⟨1, 252, none⟩), .pointer (some a), .int .u64 150]]).run Tryz.prog W = .ok (.bool false) W := by
  rw [rlm]
  simp only [Sem.run_bind, Tryz.asPartsP, Result.andThen]
  simp [ReflectliteValue.isNil, loadVar, isAgg, underlying, Tryz.underlying252, ha, Result.andThen]
theorem Tryz.asMethodElem (h : Value) (w : World) : (Go.method 435 283 (.agg #[h]) "Elem").run Tryz.prog w = .ok (259, .agg #[h]) w := by kernel_rfl
theorem Tryz.asMethodImplements (h : Value) (w : World) : (Go.method 435 283 (.agg #[h]) "Implements").run Tryz.prog w = .ok (260, .agg #[h]) w := by kernel_rfl
theorem Tryz.asMethodAssignableTo (h : Value) (w : World) : (Go.method 435 283 (.agg #[h]) "AssignableTo").run Tryz.prog w = .ok (257, .agg #[h]) w := by kernel_rfl
theorem Tryz.asElemP (w : World) : (ReflectliteType.method ReflectliteType.elem #[.agg #[.pointer (some ⟨1, 252, none⟩)]]).run Tryz.prog w = .ok (.iface 283 (.agg #[.pointer (some ⟨1, 249, none⟩)])) w := by kernel_rfl
theorem Tryz.asImplementsT (w : World) : (ReflectliteType.relation "Implements" ReflectliteType.implements_ #[.agg #[.pointer (some ⟨1, 249, none⟩)], .iface 283 (.agg #[.pointer (some ⟨1, 232, none⟩)])]).run Tryz.prog w = .ok (.bool true) w := by kernel_rfl
theorem Tryz.asTypeOfT (v : Value) (w : World) : (ReflectliteType.typeOf #[.iface 249 v]).run Tryz.prog w = .ok (.iface 283 (.agg #[.pointer (some ⟨1, 249, none⟩)])) w := by kernel_rfl
theorem Tryz.asAssignableT (w : World) : (ReflectliteType.relation "AssignableTo" ReflectliteType.assignableTo #[.agg #[.pointer (some ⟨1, 249, none⟩)], .iface 283 (.agg #[.pointer (some ⟨1, 249, none⟩)])]).run Tryz.prog w = .ok (.bool true) w := by kernel_rfl
theorem Tryz.asValueOfT (p : Int) (w : World) : (ReflectliteValue.unpack (.iface 249 (.agg #[.int .i64 p]))).run Tryz.prog w
    = .ok (.agg #[.pointer (some ⟨1, 249, none⟩), .pointer (some ⟨w.heap.size, 0, none⟩), .int .u64 153]) (w.alloc (.cells #[.int .i64 p] 249)) := by kernel_rfl
theorem Tryz.asElemOfP (w : World) : (Rtype.elem? 252).run Tryz.prog w = .ok (some 249) w := by kernel_rfl
theorem Tryz.asMkT (p : Addr) (w : World) : (ReflectliteValue.mk 249 p ReflectliteValue.flagAddr).run Tryz.prog w = .ok (.agg #[.pointer (some ⟨1, 249, none⟩), .pointer (some p), .int .u64 409]) w := by kernel_rfl
theorem Tryz.asElemV (a p : Addr) (W : World) (ha : W.cell? a = some (.pointer (some p))) :
    (ReflectliteValue.method (ReflectliteValue.valueError "reflectlite.Value.Elem" 0) ReflectliteValue.elem #[.agg #[.pointer (some ⟨1, 252, none⟩), .pointer (some a), .int .u64 150]]).run Tryz.prog W
      = .ok (.agg #[.pointer (some ⟨1, 249, none⟩), .pointer (some p), .int .u64 409]) W := by
  rw [rlm]
  simp only [Sem.run_bind, Tryz.asPartsP, Result.andThen]
  simp [ReflectliteValue.elem, loadVar, isAgg, underlying, Tryz.underlying252, ha, Result.andThen, Tryz.asElemOfP, Tryz.asMkT]
theorem Tryz.asPartsA (a : Addr) (w : World) : (ReflectliteValue.parts (.agg #[.pointer (some ⟨1, 249, none⟩), .pointer (some a), .int .u64 409])).run Tryz.prog w = .ok (some (249, a, 409)) w := by kernel_rfl
theorem Tryz.asPartsT (a : Addr) (w : World) : (ReflectliteValue.parts (.agg #[.pointer (some ⟨1, 249, none⟩), .pointer (some a), .int .u64 153])).run Tryz.prog w = .ok (some (249, a, 153)) w := by kernel_rfl
theorem Tryz.asDirect (w : World) : (Rtype.directlyAssignable 249 249).run Tryz.prog w = .ok true w := by kernel_rfl
end Go.Proofs.YtenegpbpalbpeaaGreatDoor
/-
  errors.As at an error that is an impl.badBytes: true; and the contract of impl.isBadBytes. The variable errors.errorType reads as it is laid.
-/
namespace Go.Proofs.YtenegpbpalbpeaaGreatDoor
open Go.RowKit Go.Extern.Stop Go.Stop Go.Extern
def ErrT (w : World) : Prop := w.cell? ⟨0, 0, none⟩ = some (.iface 283 (.agg #[.pointer (some ⟨1, 232, none⟩)]))
theorem ErrT.below {w w' : World} {B : Nat} (h : ErrT w) (hb : Below B w w') (hB : w.heap.size ≤ B) : ErrT w' := by
  have hl := World.block_lt_of_cell? _ _ h
  unfold ErrT
  rw [hb.cell (p := ⟨0, 0, none⟩) (Nat.lt_of_lt_of_le hl hB)]
  exact h
set_option maxRecDepth 100000 in
theorem Tryz.asSet (tb b : Nat) (p q : Int) (W : World) (hb : W.heap[b]? = some (.cells #[.int .i64 p] 249 (0, 0))) (ht : W.heap[tb]? = some (.cells #[.int .i64 q] 249 (0, 0))) :
    (ReflectliteValue.set #[.agg #[.pointer (some ⟨1, 249, none⟩), .pointer (some ⟨tb, 0, none⟩), .int .u64 409], .agg #[.pointer (some ⟨1, 249, none⟩), .pointer (some ⟨b, 0, none⟩), .int .u64 153]]).run Tryz.prog W
      = .ok (.tuple #[]) (W.setCell ⟨tb, 0, none⟩ (.int .i64 p)) := by
  have c0 : W.cell? ⟨b, 0, none⟩ = some (.int .i64 p) := cell_of_row _ _ 0 _ _ _ hb
  have c1 : W.cell? ⟨tb, 0, none⟩ = some (.int .i64 q) := cell_of_row _ _ 0 _ _ _ ht
  have f1 : W.frozen? ⟨tb, 0, none⟩ = false := frozen_of_row _ _ 0 _ _ ht
  show (ReflectliteValue.parts _ >>= _).run Tryz.prog W = _
  simp only [Sem.run_bind, Array.getLit, List.getElem_toArray, List.getElem_cons_zero, List.getElem_cons_succ, Tryz.asPartsA, Tryz.asPartsT, Result.andThen]
  simp [ReflectliteValue.flagAddr, loadVar, isAgg, underlying, Tryz.underlying249, Result.andThen, Tryz.asDirect, storeVar, Value.cells, storeCells, Addr.add]
  have hl : (loadCells ⟨b, 0, none⟩ 1).run Tryz.prog W = .ok #[.int .i64 p] W := run_loadCells_list (P := Tryz.prog) W ⟨b, 0, none⟩ [.int .i64 p] (fun j v hj => by
    cases j with
    | zero => cases hj; exact c0
    | succ j => simp at hj)
  rw [hl]
  simp [storeCells, Addr.add]
  rw [run_store Tryz.prog W ⟨tb, 0, none⟩ _ _ (by rfl)]
  simp [c1, f1]
set_option maxRecDepth 100000 in
set_option maxHeartbeats 4000000 in
theorem as_hit (p q : Int) (t : Nat) (w : World) (hg : ErrT w) (ht : w.heap[t]? = some (.cells #[.int .i64 q] 249 (0, 0))) :
    Calls Tryz.prog 194 #[.iface 249 (.agg #[.int .i64 p]), .iface 252 (.pointer (some ⟨t, 0, none⟩))] w fun ev w' => ev = .returned (.bool true) ∧ w.grownBy w' (some t) := by
  have h6 := @run_callFunc_extern Tryz.prog 201 _ (fun args => ReflectliteValue.unpack (args.getD 0 (.tuple #[]))) Tryz.func201 (by kernel_rfl) (by kernel_rfl) (by kernel_rfl) (by kernel_rfl)
  have h7 := @run_callFunc_extern Tryz.prog 202 _ (ReflectliteValue.methodAny (ReflectliteValue.valueError "reflectlite.Value.Type" 0) (fun t _ _ _ => ReflectliteType.toType t)) Tryz.func202 (by kernel_rfl) (by kernel_rfl) (by kernel_rfl) (by kernel_rfl)
  have h8 := @run_callFunc_extern Tryz.prog 203 _ (ReflectliteValue.method (ReflectliteValue.valueError "reflectlite.Value.IsNil" 0) ReflectliteValue.isNil) Tryz.func203 (by kernel_rfl) (by kernel_rfl) (by kernel_rfl) (by kernel_rfl)
  have h27 := @run_callFunc_extern Tryz.prog 246 _ (ReflectliteType.abiMethod fun t => do pure (.int .u8 (← Rtype.kind t))) Tryz.func246 (by kernel_rfl) (by kernel_rfl) (by kernel_rfl) (by kernel_rfl)
  have h37 := @run_callFunc_extern Tryz.prog 259 _ (ReflectliteType.method ReflectliteType.elem) Tryz.func259 (by kernel_rfl) (by kernel_rfl) (by kernel_rfl) (by kernel_rfl)
  have h38 := @run_callFunc_extern Tryz.prog 260 _ (ReflectliteType.relation "Implements" ReflectliteType.implements_) Tryz.func260 (by kernel_rfl) (by kernel_rfl) (by kernel_rfl) (by kernel_rfl)
  have h10 := @run_callFunc_extern Tryz.prog 221 _ ReflectliteType.typeOf Tryz.func221 (by kernel_rfl) (by kernel_rfl) (by kernel_rfl) (by kernel_rfl)
  have h35 := @run_callFunc_extern Tryz.prog 257 _ (ReflectliteType.relation "AssignableTo" ReflectliteType.assignableTo) Tryz.func257 (by kernel_rfl) (by kernel_rfl) (by kernel_rfl) (by kernel_rfl)
  have h11 := @run_callFunc_extern Tryz.prog 222 _ (ReflectliteValue.method (ReflectliteValue.valueError "reflectlite.Value.Elem" 0) ReflectliteValue.elem) Tryz.func222 (by kernel_rfl) (by kernel_rfl) (by kernel_rfl) (by kernel_rfl)
  have h12 := @run_callFunc_extern Tryz.prog 223 _ ReflectliteValue.set Tryz.func223 (by kernel_rfl) (by kernel_rfl) (by kernel_rfl) (by kernel_rfl)
  have tO := Tryz.asTypeOfT
  have mA := Tryz.asMethodAssignableTo
  have a25 := Tryz.asAssignableT
  have v25 := Tryz.asValueOfT
  have f6 := Tryz.asValueOfP
  have f7 := Tryz.asTypeP
  have mK := Tryz.asMethodKind
  have mE := Tryz.asMethodElem
  have mI := Tryz.asMethodImplements
  have k27 := Tryz.asKindP
  have k25 := Tryz.asKindT
  have e27 := Tryz.asElemP
  have i25 := Tryz.asImplementsT
  obtain ⟨t', ht'⟩ : ∃ t' : Addr, t' = ⟨t, 0, none⟩ := ⟨_, rfl⟩
  have n8 := Tryz.asIsNilP ⟨w.heap.size, 0, none⟩ ⟨t, 0, none⟩ ((w.alloc (.cells #[.pointer (some ⟨t, 0, none⟩)] 252)).alloc (.cells #[.pointer (some ⟨1, 252, none⟩), .pointer (some ⟨w.heap.size, 0, none⟩), .int .u64 150] 268)) (by simp)
  have hlt : 0 < w.heap.size := World.block_lt_of_cell? _ _ hg
  have hg2 : ((w.alloc (.cells #[.pointer (some ⟨t, 0, none⟩)] 252)).alloc (.cells #[.pointer (some ⟨1, 252, none⟩), .pointer (some ⟨w.heap.size, 0, none⟩), .int .u64 150] 268)).cell? ⟨0, 0, none⟩ = some (.iface 283 (.agg #[.pointer (some ⟨1, 232, none⟩)])) := by
    rw [World.cell?_alloc_lt _ _ ⟨0, 0, none⟩ (by simp <;> omega), World.cell?_alloc_lt _ _ ⟨0, 0, none⟩ hlt]; exact hg
  have htl : t < w.heap.size := (Array.getElem?_eq_some_iff.1 ht).1
  have el := Tryz.asElemV ⟨w.heap.size, 0, none⟩ ⟨t, 0, none⟩ (((w.alloc (.cells #[.pointer (some ⟨t, 0, none⟩)] 252)).alloc (.cells #[.pointer (some ⟨1, 252, none⟩), .pointer (some ⟨w.heap.size, 0, none⟩), .int .u64 150] 268)).alloc (.cells #[.pointer (some ⟨1, 252, none⟩), .pointer (some ⟨w.heap.size, 0, none⟩), .int .u64 150] 268)) (by rw [World.cell?_alloc_lt _ _ ⟨w.heap.size, 0, none⟩ (by simp <;> omega)]; simp)
  have st := Tryz.asSet t (w.heap.size + 1 + 1 + 1) p q ((((w.alloc (.cells #[.pointer (some ⟨t, 0, none⟩)] 252)).alloc (.cells #[.pointer (some ⟨1, 252, none⟩), .pointer (some ⟨w.heap.size, 0, none⟩), .int .u64 150] 268)).alloc (.cells #[.pointer (some ⟨1, 252, none⟩), .pointer (some ⟨w.heap.size, 0, none⟩), .int .u64 150] 268)).alloc (.cells #[.int .i64 p] 249))
    (by have := heap_alloc_new (((w.alloc (.cells #[.pointer (some ⟨t, 0, none⟩)] 252)).alloc (.cells #[.pointer (some ⟨1, 252, none⟩), .pointer (some ⟨w.heap.size, 0, none⟩), .int .u64 150] 268)).alloc (.cells #[.pointer (some ⟨1, 252, none⟩), .pointer (some ⟨w.heap.size, 0, none⟩), .int .u64 150] 268)) (.cells #[.int .i64 p] 249); simpa using this)
    (by rw [heap_alloc_old _ _ (by simp <;> omega), heap_alloc_old _ _ (by simp <;> omega), heap_alloc_old _ _ (by simp <;> omega), heap_alloc_old _ _ htl]; exact ht)
  have hG : w.grownBy (((((w.alloc (.cells #[.pointer (some ⟨t, 0, none⟩)] 252)).alloc (.cells #[.pointer (some ⟨1, 252, none⟩), .pointer (some ⟨w.heap.size, 0, none⟩), .int .u64 150] 268)).alloc (.cells #[.pointer (some ⟨1, 252, none⟩), .pointer (some ⟨w.heap.size, 0, none⟩), .int .u64 150] 268)).alloc (.cells #[.int .i64 p] 249)).setCell ⟨t, 0, none⟩ (.int .i64 p)) (some t) :=
    grown_trans (grown_trans (grown_trans (grown_trans (World.grownBy_alloc w _ _) (World.grownBy_alloc _ _ _)) (World.grownBy_alloc _ _ _)) (World.grownBy_alloc _ _ _)) (grown_set _ t 0 _)
  clear ht' t' hlt htl ht hg
  go_enter Tryz.func194, Tryz.ntmps194
  go_wp2
  refine wp_loop_rounds 1 ?_
  rw [rounds_succ]
  go_wp2
  go_ret
  exact ⟨rfl, hG⟩
set_option maxHeartbeats 800000 in
theorem isbad_nil (w : World) : Calls Tryz.prog 184 #[.nilIface] w fun e w' => e = .returned (.bool false) ∧ Below w.heap.size w w' := by
  go_enter Tryz.func184, Tryz.ntmps184
  go_wp2_with fail
  refine (as_nil _ _).mono ?_
  rintro e w1 ⟨rfl, rfl⟩
  go_wp2
  go_ret
  exact ⟨rfl, (Below.refl _ _).alloc (Nat.le_refl _) _⟩
set_option maxHeartbeats 800000 in
theorem isbad_bad (p : Int) (w : World) (hg : ErrT w) : Calls Tryz.prog 184 #[.iface 249 (.agg #[.int .i64 p])] w fun e w' => e = .returned (.bool true) ∧ Below w.heap.size w w' := by
  go_enter Tryz.func184, Tryz.ntmps184
  go_wp2_with fail
  have hB : Below w.heap.size w (w.alloc (Obj.cells #[.int .i64 0] 249)) := (Below.refl _ _).alloc (Nat.le_refl _) _
  refine (as_hit p 0 w.heap.size _ (hg.below hB (Nat.le_refl _)) (heap_alloc_new _ _)).mono ?_
  rintro e w1 ⟨rfl, hgr⟩
  go_wp2
  go_ret
  exact ⟨rfl, hB.grown hgr hB.size (fun k hk => by simp at hk; omega)⟩
end Go.Proofs.YtenegpbpalbpeaaGreatDoor
/-
  What is moved is within bounds; bytes of one's own; helpers. No condition.
-/
namespace Go.Proofs.YtenegpbpalbpeaaGreatDoor
open Go.RowKit
theorem mv_right (a : Nat) (xs : List Nd) (rs : List Int) (hp : poolB xs = true) (ha : a + (mvN a xs rs).length ≤ 3000) : ∀ x ∈ mvN a xs rs, NdOk x := by
  have I := mv_all a xs (reachL xs rs) (fun i x h => poolB_at hp h) (reach_closed xs rs (fun i x h => poolB_at hp h))
  intro x hx
  obtain ⟨j, hj⟩ := List.getElem?_of_mem hx
  have hjl : j < (mvN a xs rs).length := (List.getElem?_eq_some_iff.1 hj).1
  exact ndok_of (I.ok j x hj) (by omega)
theorem pool_small {xs : List Nd} (h : poolB xs = true) : xs.length ≤ 3000 := by simp only [poolB, Bool.and_eq_true, decide_eq_true_eq] at h; exact h.1
theorem ndok_max {xs : List Nd} (h : ∀ x ∈ xs, NdOk x) : ∀ x ∈ xs, x.s.size ≤ maxLen := fun x hx => by have := (h x hx).2.2.1; unfold maxLen; omega
theorem irow_one {w : World} {z : Int} {g : Nat} (h : w.heap[g]? = some (.cells #[.int .i64 z] 3 (0, 0))) : IRow w (.slice (some ⟨g, 0, none⟩) 1 1) [z] := by
  refine ⟨_, 1, rfl, ⟨by simp, fun h => by cases h⟩, by simp, fun _ => ⟨g, 0, rfl, (Array.getElem?_eq_some_iff.1 h).1, fun i hi => ?_⟩⟩
  have : i = 0 := by simpa using hi
  subst this
  rw [cell_of_row w _ 0 _ _ _ h]
  rfl
end Go.Proofs.YtenegpbpalbpeaaGreatDoor
/-
  Contracts of impl.readerOf, (impl.reader).value and impl.ValueRead: a value is read from its bytes, or nothing. The variable errors.errorType reads as it is laid.
-/
namespace Go.Proofs.YtenegpbpalbpeaaGreatDoor
open Go.RowKit
end Go.Proofs.YtenegpbpalbpeaaGreatDoor
