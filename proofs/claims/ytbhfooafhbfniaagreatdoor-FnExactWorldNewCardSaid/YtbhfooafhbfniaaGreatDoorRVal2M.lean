/-
  Texts that stood by themselves, laid into one.
-/
import Derived.Test.YtbhfooafhbfniaaGreatDoorRNumsM
import Derived.Test.YtbhfooafhbfniaaGreatDoorSGTextM
import Derived.Test.YtbhfooafhbfniaaGreatDoorIReachM
import Derived.Test.YtbhfooafhbfniaaGreatDoorShapeM
import Derived.LaidEql
import Derived.Stop.Asserts
import Derived.RowKitTokens
import Derived.Test.YtbhfooafhbfniaaGreatDoorSWireM
import Derived.Test.YtbhfooafhbfniaaGreatDoorMkListM
import Derived.Test.YtbhfooafhbfniaaGreatDoorR8bM
/-
  Contracts of slices.Contains of bools, (impl.Pool).isKept and (impl.reader).end. No condition but that the pool is right.
-/
namespace Go.Proofs.YtbhfooafhbfniaaGreatDoor
open Go.RowKit
set_option maxHeartbeats 800000 in
theorem bindex_any (v : Value) (bs : List Bool) (w : World) (R : BRow w v bs) (hl : bs.length ≤ 4194304) :
    Calls Tryz.prog 173 #[v, .bool false] w fun e w' => ∃ r : Int, e = .returned (.int .i64 r) ∧ (0 ≤ r ↔ false ∈ bs) ∧ w' = w := by
  obtain ⟨ao, cap, rfl, _, _, hcell⟩ := R
  go_enter Tryz.func173, Tryz.ntmps173
  go_wp2_with fail
  go_loopw [8] (fun i wr => ∃ k : Nat, k ≤ bs.length ∧ i = .int .i64 k ∧ Hid (∀ j, j < k → bs[j]? = some true) ∧ wr = w) (fun i _ => bs.length - (intOf i).toNat)
  case atStart => exact ⟨0, by omega, rfl, fun j hj => by omega, rfl⟩
  case round =>
    obtain ⟨k, hk, rfl, HA, rfl⟩ := hrel
    by_cases hlt : k < bs.length
    · obtain ⟨g, o, rfl, hg, hcell⟩ := hcell (by intro e; subst e; simp at hlt)
      have hc := hcell k hlt
      clear hcell
      obtain ⟨b, hb⟩ : ∃ b, bs[k]? = some b := ⟨bs[k], by simp [hlt]⟩
      rw [show bs.getD k false = b by simp [List.getD, hb]] at hc
      cases b with
      | false =>
        have hm : false ∈ bs := List.mem_of_getElem? hb
        go_wp2
        go_ret
        exact ⟨k, rfl, ⟨fun _ => hm, fun _ => by omega⟩, rfl⟩
      | true =>
        have HA2 : Hid (∀ j, j < k + 1 → bs[j]? = some true) := fun j hj => by
          rcases Nat.lt_or_ge j k with h | h
          · exact HA.out j h
          · obtain rfl : j = k := by omega
            exact hb
        go_wp2
        go_roundw
        case rel => exact ⟨k + 1, by omega, by go_num, HA2, by trivial⟩
        case measure => simp [intOf]; omega
    · have hke : k = bs.length := by omega
      subst hke
      have hm : false ∉ bs := fun h => by
        obtain ⟨j, hj, he⟩ := List.getElem_of_mem h
        have := HA.out j hj
        rw [List.getElem?_eq_getElem hj, he] at this
        cases this
      go_wp2
      go_ret
      exact ⟨-1, rfl, ⟨fun h => by omega, fun h => absurd h hm⟩, rfl⟩
set_option maxHeartbeats 800000 in
theorem bcontains_any (v : Value) (bs : List Bool) (w : World) (R : BRow w v bs) (hl : bs.length ≤ 4194304) :
    Calls Tryz.prog 152 #[v, .bool false] w fun e w' => e = .returned (.bool (bs.contains false)) ∧ w' = w := by
  go_enter Tryz.func152, Tryz.ntmps152
  go_wp2_with fail
  refine (bindex_any v bs w R hl).mono ?_
  rintro e w1 ⟨r, rfl, hr, rfl⟩
  have HE : Hid (bs.contains false = decide (0 ≤ r)) := by
    unfold Hid
    rw [Bool.eq_iff_iff, List.contains_iff_mem, decide_eq_true_eq]
    exact hr.symm
  clear hr
  go_wp2
  go_ret
  exact ⟨by rw [HE.out]; rfl, rfl⟩
set_option maxHeartbeats 800000 in
theorem iskept_any (v vl : Value) (xs : List Nd) (rs : List Int) (w : World) (R : NRow w v xs) (L : IRow w vl rs) (hp : poolB xs = true) (hr : allI xs rs = true) :
    Calls Tryz.prog 145 #[.agg #[v], vl] w fun e w' => e = .returned (.bool (allR xs rs)) ∧ Below w.heap.size w w' := by
  obtain ⟨ao, cap, rfl, _⟩ := id R
  have hlen := poolB_len hp
  have hB0 : Below w.heap.size w (w.alloc (Obj.cells #[.slice ao xs.length cap] 32)) := (Below.refl _ _).alloc (Nat.le_refl _) _
  go_enter Tryz.func145, Tryz.ntmps145
  go_wp2_with fail
  refine (hungon_any ao cap vl xs rs _ (R.below hB0) (L.below hB0) hp hr).mono ?_
  rintro e w1 ⟨v1, rfl, ho, hb1⟩
  have hB1 := hB0.trans (hb1.mono hB0.size)
  have hrl := reachL_length xs rs
  have HL : Hid ((reachL xs rs).length = xs.length) := hrl
  rw [← hrl] at ho
  have RB := BRow.of_own ho (by omega)
  clear hrl
  have HC := bcontains_any v1 (reachL xs rs) _ RB (by rw [HL.out]; omega)
  obtain ⟨cb, hcb⟩ : ∃ cb, Hid ((reachL xs rs).contains false = cb) := ⟨_, rfl⟩
  rw [hcb.out] at HC
  have HA : Hid (allR xs rs = !cb) := by unfold Hid allR; rw [hcb.out]
  clear hcb
  go_wp2_with fail
  refine HC.mono ?_
  rintro e w2 ⟨rfl, rfl⟩
  go_wp2
  go_ret
  exact ⟨by rw [HA.out]; rfl, hB1⟩
end Go.Proofs.YtbhfooafhbfniaaGreatDoor
/-
  errors.As at a target that is a struct of one number (impl.badBytes): false of nil, true of such an error; and the contract of impl.isBadBytes. The variable errors.errorType reads as it is laid.
-/
namespace Go.Proofs.YtbhfooafhbfniaaGreatDoor
open Go.RowKit Go.Extern.Stop Go.Stop Go.Extern
theorem as_nil (t : Value) (w : World) :
    Calls Tryz.prog 147 #[.nilIface, t] w fun e w' => e = .returned (.bool false) ∧ w' = w := by
  go_enter Tryz.func147, Tryz.ntmps147
  go_wp2
  go_ret
  exact ⟨rfl, rfl⟩
theorem Tryz.asValueOfP (t : Addr) (w : World) : (ReflectliteValue.unpack (.iface 199 (.pointer (some t)))).run Tryz.prog w
    = .ok (.agg #[.pointer (some ⟨1, 199, none⟩), .pointer (some ⟨w.heap.size, 0, none⟩), .int .u64 150]) (w.alloc (.cells #[.pointer (some t)] 199)) := by kernel_rfl
theorem Tryz.asTypeP (a : Addr) (w : World) : (ReflectliteValue.methodAny (ReflectliteValue.valueError "reflectlite.Value.Type" 0) (fun t _ _ _ => ReflectliteType.toType t) #[.agg #[.pointer (some ⟨1, 199, none⟩), .pointer (some a), .int .u64 150]]).run Tryz.prog w
    = .ok (.iface 231 (.agg #[.pointer (some ⟨1, 199, none⟩)])) w := by kernel_rfl
theorem Tryz.asMethodKind (h : Value) (w : World) : (Go.method 384 231 (.agg #[h]) "Kind").run Tryz.prog w = .ok (199, h) w := by kernel_rfl
theorem Tryz.asKindP (w : World) : ((ReflectliteType.abiMethod fun t => (fun a : Nat => Value.int IntKind.u8 (a : Int)) <$> Rtype.kind t) #[.pointer (some ⟨1, 199, none⟩)]).run Tryz.prog w = .ok (.int .u8 22) w := by kernel_rfl
theorem Tryz.asKindT (w : World) : ((ReflectliteType.abiMethod fun t => (fun a : Nat => Value.int IntKind.u8 (a : Int)) <$> Rtype.kind t) #[.pointer (some ⟨1, 196, none⟩)]).run Tryz.prog w = .ok (.int .u8 25) w := by kernel_rfl
theorem rlm (z : Sem Value) (f : TypeId → Addr → Nat → Nat → Sem Value) (v : Value) :
    ReflectliteValue.method z f #[v] = (do match ← ReflectliteValue.parts v with | none => z | some (t, a, fl) => f t a fl (fl % 32)) := rfl
theorem Tryz.asPartsP (a : Addr) (w : World) : (ReflectliteValue.parts (.agg #[.pointer (some ⟨1, 199, none⟩), .pointer (some a), .int .u64 150])).run Tryz.prog w = .ok (some (199, a, 150)) w := by kernel_rfl
theorem Tryz.asIsNilP (a p : Addr) (W : World) (ha : W.cell? a = some (.pointer (some p))) :
    (ReflectliteValue.method (ReflectliteValue.valueError "reflectlite.Value.IsNil" 0) ReflectliteValue.isNil #[.agg #[.pointer (some ⟨1, 199, none⟩), .pointer (some a), .int .u64 150]]).run Tryz.prog W = .ok (.bool false) W := by
  rw [rlm]
  simp only [Sem.run_bind, Tryz.asPartsP, Result.andThen]
  simp [ReflectliteValue.isNil, loadVar, isAgg, underlying, Tryz.underlying199, ha, Result.andThen]
theorem Tryz.asMethodElem (h : Value) (w : World) : (Go.method 384 231 (.agg #[h]) "Elem").run Tryz.prog w = .ok (215, .agg #[h]) w := by kernel_rfl
theorem Tryz.asMethodImplements (h : Value) (w : World) : (Go.method 384 231 (.agg #[h]) "Implements").run Tryz.prog w = .ok (216, .agg #[h]) w := by kernel_rfl
theorem Tryz.asMethodAssignableTo (h : Value) (w : World) : (Go.method 384 231 (.agg #[h]) "AssignableTo").run Tryz.prog w = .ok (213, .agg #[h]) w := by kernel_rfl
theorem Tryz.asElemP (w : World) : (ReflectliteType.method ReflectliteType.elem #[.agg #[.pointer (some ⟨1, 199, none⟩)]]).run Tryz.prog w = .ok (.iface 231 (.agg #[.pointer (some ⟨1, 196, none⟩)])) w := by kernel_rfl
theorem Tryz.asImplementsT (w : World) : (ReflectliteType.relation "Implements" ReflectliteType.implements_ #[.agg #[.pointer (some ⟨1, 196, none⟩)], .iface 231 (.agg #[.pointer (some ⟨1, 173, none⟩)])]).run Tryz.prog w = .ok (.bool true) w := by kernel_rfl
theorem Tryz.asTypeOfT (v : Value) (w : World) : (ReflectliteType.typeOf #[.iface 196 v]).run Tryz.prog w = .ok (.iface 231 (.agg #[.pointer (some ⟨1, 196, none⟩)])) w := by kernel_rfl
theorem Tryz.asAssignableT (w : World) : (ReflectliteType.relation "AssignableTo" ReflectliteType.assignableTo #[.agg #[.pointer (some ⟨1, 196, none⟩)], .iface 231 (.agg #[.pointer (some ⟨1, 196, none⟩)])]).run Tryz.prog w = .ok (.bool true) w := by kernel_rfl
theorem Tryz.asValueOfT (p : Int) (w : World) : (ReflectliteValue.unpack (.iface 196 (.agg #[.int .i64 p]))).run Tryz.prog w
    = .ok (.agg #[.pointer (some ⟨1, 196, none⟩), .pointer (some ⟨w.heap.size, 0, none⟩), .int .u64 153]) (w.alloc (.cells #[.int .i64 p] 196)) := by kernel_rfl
theorem Tryz.asElemOfP (w : World) : (Rtype.elem? 199).run Tryz.prog w = .ok (some 196) w := by kernel_rfl
theorem Tryz.asMkT (p : Addr) (w : World) : (ReflectliteValue.mk 196 p ReflectliteValue.flagAddr).run Tryz.prog w = .ok (.agg #[.pointer (some ⟨1, 196, none⟩), .pointer (some p), .int .u64 409]) w := by kernel_rfl
theorem Tryz.asElemV (a p : Addr) (W : World) (ha : W.cell? a = some (.pointer (some p))) :
    (ReflectliteValue.method (ReflectliteValue.valueError "reflectlite.Value.Elem" 0) ReflectliteValue.elem #[.agg #[.pointer (some ⟨1, 199, none⟩), .pointer (some a), .int .u64 150]]).run Tryz.prog W
      = .ok (.agg #[.pointer (some ⟨1, 196, none⟩), .pointer (some p), .int .u64 409]) W := by
  rw [rlm]
  simp only [Sem.run_bind, Tryz.asPartsP, Result.andThen]
  simp [ReflectliteValue.elem, loadVar, isAgg, underlying, Tryz.underlying199, ha, Result.andThen, Tryz.asElemOfP, Tryz.asMkT]
theorem Tryz.asPartsA (a : Addr) (w : World) : (ReflectliteValue.parts (.agg #[.pointer (some ⟨1, 196, none⟩), .pointer (some a), .int .u64 409])).run Tryz.prog w = .ok (some (196, a, 409)) w := by kernel_rfl
theorem Tryz.asPartsT (a : Addr) (w : World) : (ReflectliteValue.parts (.agg #[.pointer (some ⟨1, 196, none⟩), .pointer (some a), .int .u64 153])).run Tryz.prog w = .ok (some (196, a, 153)) w := by kernel_rfl
theorem Tryz.asDirect (w : World) : (Rtype.directlyAssignable 196 196).run Tryz.prog w = .ok true w := by kernel_rfl
end Go.Proofs.YtbhfooafhbfniaaGreatDoor
/-
  errors.As at an error that is an impl.badBytes: true; and the contract of impl.isBadBytes. The variable errors.errorType reads as it is laid.
-/
namespace Go.Proofs.YtbhfooafhbfniaaGreatDoor
open Go.RowKit Go.Extern.Stop Go.Stop Go.Extern
def ErrT (w : World) : Prop := w.cell? ⟨0, 0, none⟩ = some (.iface 231 (.agg #[.pointer (some ⟨1, 173, none⟩)]))
theorem ErrT.below {w w' : World} {B : Nat} (h : ErrT w) (hb : Below B w w') (hB : w.heap.size ≤ B) : ErrT w' := by
  have hl := World.block_lt_of_cell? _ _ h
  unfold ErrT
  rw [hb.cell (p := ⟨0, 0, none⟩) (Nat.lt_of_lt_of_le hl hB)]
  exact h
set_option maxRecDepth 100000 in
theorem Tryz.asSet (tb b : Nat) (p q : Int) (W : World) (hb : W.heap[b]? = some (.cells #[.int .i64 p] 196 (0, 0))) (ht : W.heap[tb]? = some (.cells #[.int .i64 q] 196 (0, 0))) :
    (ReflectliteValue.set #[.agg #[.pointer (some ⟨1, 196, none⟩), .pointer (some ⟨tb, 0, none⟩), .int .u64 409], .agg #[.pointer (some ⟨1, 196, none⟩), .pointer (some ⟨b, 0, none⟩), .int .u64 153]]).run Tryz.prog W
      = .ok (.tuple #[]) (W.setCell ⟨tb, 0, none⟩ (.int .i64 p)) := by
  have c0 : W.cell? ⟨b, 0, none⟩ = some (.int .i64 p) := cell_of_row _ _ 0 _ _ _ hb
  have c1 : W.cell? ⟨tb, 0, none⟩ = some (.int .i64 q) := cell_of_row _ _ 0 _ _ _ ht
  have f1 : W.frozen? ⟨tb, 0, none⟩ = false := frozen_of_row _ _ 0 _ _ ht
  show (ReflectliteValue.parts _ >>= _).run Tryz.prog W = _
  simp only [Sem.run_bind, Array.getLit, List.getElem_toArray, List.getElem_cons_zero, List.getElem_cons_succ, Tryz.asPartsA, Tryz.asPartsT, Result.andThen]
  simp [ReflectliteValue.flagAddr, loadVar, isAgg, underlying, Tryz.underlying196, Result.andThen, Tryz.asDirect, storeVar, Value.cells, storeCells, Addr.add]
  have hl : (loadCells ⟨b, 0, none⟩ 1).run Tryz.prog W = .ok #[.int .i64 p] W := run_loadCells_list (P := Tryz.prog) W ⟨b, 0, none⟩ [.int .i64 p] (fun j v hj => by
    cases j with
    | zero => cases hj; exact c0
    | succ j => simp at hj)
  rw [hl]
  simp [storeCells, Addr.add]
  rw [run_store Tryz.prog W ⟨tb, 0, none⟩ _ _ (by rfl)]
  simp [c1, f1]
set_option maxRecDepth 100000 in
set_option maxHeartbeats 4000000 in
theorem as_hit (p q : Int) (t : Nat) (w : World) (hg : ErrT w) (ht : w.heap[t]? = some (.cells #[.int .i64 q] 196 (0, 0))) :
    Calls Tryz.prog 147 #[.iface 196 (.agg #[.int .i64 p]), .iface 199 (.pointer (some ⟨t, 0, none⟩))] w fun ev w' => ev = .returned (.bool true) ∧ w.grownBy w' (some t) := by
  have h6 := @run_callFunc_extern Tryz.prog 154 _ (fun args => ReflectliteValue.unpack (args.getD 0 (.tuple #[]))) Tryz.func154 (by kernel_rfl) (by kernel_rfl) (by kernel_rfl) (by kernel_rfl)
  have h7 := @run_callFunc_extern Tryz.prog 155 _ (ReflectliteValue.methodAny (ReflectliteValue.valueError "reflectlite.Value.Type" 0) (fun t _ _ _ => ReflectliteType.toType t)) Tryz.func155 (by kernel_rfl) (by kernel_rfl) (by kernel_rfl) (by kernel_rfl)
  have h8 := @run_callFunc_extern Tryz.prog 156 _ (ReflectliteValue.method (ReflectliteValue.valueError "reflectlite.Value.IsNil" 0) ReflectliteValue.isNil) Tryz.func156 (by kernel_rfl) (by kernel_rfl) (by kernel_rfl) (by kernel_rfl)
  have h27 := @run_callFunc_extern Tryz.prog 199 _ (ReflectliteType.abiMethod fun t => do pure (.int .u8 (← Rtype.kind t))) Tryz.func199 (by kernel_rfl) (by kernel_rfl) (by kernel_rfl) (by kernel_rfl)
  have h37 := @run_callFunc_extern Tryz.prog 215 _ (ReflectliteType.method ReflectliteType.elem) Tryz.func215 (by kernel_rfl) (by kernel_rfl) (by kernel_rfl) (by kernel_rfl)
  have h38 := @run_callFunc_extern Tryz.prog 216 _ (ReflectliteType.relation "Implements" ReflectliteType.implements_) Tryz.func216 (by kernel_rfl) (by kernel_rfl) (by kernel_rfl) (by kernel_rfl)
  have h10 := @run_callFunc_extern Tryz.prog 174 _ ReflectliteType.typeOf Tryz.func174 (by kernel_rfl) (by kernel_rfl) (by kernel_rfl) (by kernel_rfl)
  have h35 := @run_callFunc_extern Tryz.prog 213 _ (ReflectliteType.relation "AssignableTo" ReflectliteType.assignableTo) Tryz.func213 (by kernel_rfl) (by kernel_rfl) (by kernel_rfl) (by kernel_rfl)
  have h11 := @run_callFunc_extern Tryz.prog 175 _ (ReflectliteValue.method (ReflectliteValue.valueError "reflectlite.Value.Elem" 0) ReflectliteValue.elem) Tryz.func175 (by kernel_rfl) (by kernel_rfl) (by kernel_rfl) (by kernel_rfl)
  have h12 := @run_callFunc_extern Tryz.prog 176 _ ReflectliteValue.set Tryz.func176 (by kernel_rfl) (by kernel_rfl) (by kernel_rfl) (by kernel_rfl)
  have tO := Tryz.asTypeOfT
  have mA := Tryz.asMethodAssignableTo
  have a25 := Tryz.asAssignableT
  have v25 := Tryz.asValueOfT
  have f6 := Tryz.asValueOfP
  have f7 := Tryz.asTypeP
  have mK := Tryz.asMethodKind
  have mE := Tryz.asMethodElem
  have mI := Tryz.asMethodImplements
  have k27 := Tryz.asKindP
  have k25 := Tryz.asKindT
  have e27 := Tryz.asElemP
  have i25 := Tryz.asImplementsT
  obtain ⟨t', ht'⟩ : ∃ t' : Addr, t' = ⟨t, 0, none⟩ := ⟨_, rfl⟩
  have n8 := Tryz.asIsNilP ⟨w.heap.size, 0, none⟩ ⟨t, 0, none⟩ ((w.alloc (.cells #[.pointer (some ⟨t, 0, none⟩)] 199)).alloc (.cells #[.pointer (some ⟨1, 199, none⟩), .pointer (some ⟨w.heap.size, 0, none⟩), .int .u64 150] 215)) (by simp)
  have hlt : 0 < w.heap.size := World.block_lt_of_cell? _ _ hg
  have hg2 : ((w.alloc (.cells #[.pointer (some ⟨t, 0, none⟩)] 199)).alloc (.cells #[.pointer (some ⟨1, 199, none⟩), .pointer (some ⟨w.heap.size, 0, none⟩), .int .u64 150] 215)).cell? ⟨0, 0, none⟩ = some (.iface 231 (.agg #[.pointer (some ⟨1, 173, none⟩)])) := by
    rw [World.cell?_alloc_lt _ _ ⟨0, 0, none⟩ (by simp <;> omega), World.cell?_alloc_lt _ _ ⟨0, 0, none⟩ hlt]; exact hg
  have htl : t < w.heap.size := (Array.getElem?_eq_some_iff.1 ht).1
  have el := Tryz.asElemV ⟨w.heap.size, 0, none⟩ ⟨t, 0, none⟩ (((w.alloc (.cells #[.pointer (some ⟨t, 0, none⟩)] 199)).alloc (.cells #[.pointer (some ⟨1, 199, none⟩), .pointer (some ⟨w.heap.size, 0, none⟩), .int .u64 150] 215)).alloc (.cells #[.pointer (some ⟨1, 199, none⟩), .pointer (some ⟨w.heap.size, 0, none⟩), .int .u64 150] 215)) (by rw [World.cell?_alloc_lt _ _ ⟨w.heap.size, 0, none⟩ (by simp <;> omega)]; simp)
  have st := Tryz.asSet t (w.heap.size + 1 + 1 + 1) p q ((((w.alloc (.cells #[.pointer (some ⟨t, 0, none⟩)] 199)).alloc (.cells #[.pointer (some ⟨1, 199, none⟩), .pointer (some ⟨w.heap.size, 0, none⟩), .int .u64 150] 215)).alloc (.cells #[.pointer (some ⟨1, 199, none⟩), .pointer (some ⟨w.heap.size, 0, none⟩), .int .u64 150] 215)).alloc (.cells #[.int .i64 p] 196))
    (by have := heap_alloc_new (((w.alloc (.cells #[.pointer (some ⟨t, 0, none⟩)] 199)).alloc (.cells #[.pointer (some ⟨1, 199, none⟩), .pointer (some ⟨w.heap.size, 0, none⟩), .int .u64 150] 215)).alloc (.cells #[.pointer (some ⟨1, 199, none⟩), .pointer (some ⟨w.heap.size, 0, none⟩), .int .u64 150] 215)) (.cells #[.int .i64 p] 196); simpa using this)
    (by rw [heap_alloc_old _ _ (by simp <;> omega), heap_alloc_old _ _ (by simp <;> omega), heap_alloc_old _ _ (by simp <;> omega), heap_alloc_old _ _ htl]; exact ht)
  have hG : w.grownBy (((((w.alloc (.cells #[.pointer (some ⟨t, 0, none⟩)] 199)).alloc (.cells #[.pointer (some ⟨1, 199, none⟩), .pointer (some ⟨w.heap.size, 0, none⟩), .int .u64 150] 215)).alloc (.cells #[.pointer (some ⟨1, 199, none⟩), .pointer (some ⟨w.heap.size, 0, none⟩), .int .u64 150] 215)).alloc (.cells #[.int .i64 p] 196)).setCell ⟨t, 0, none⟩ (.int .i64 p)) (some t) :=
    grown_trans (grown_trans (grown_trans (grown_trans (World.grownBy_alloc w _ _) (World.grownBy_alloc _ _ _)) (World.grownBy_alloc _ _ _)) (World.grownBy_alloc _ _ _)) (grown_set _ t 0 _)
  clear ht' t' hlt htl ht hg
  go_enter Tryz.func147, Tryz.ntmps147
  go_wp2
  refine wp_loop_rounds 1 ?_
  rw [rounds_succ]
  go_wp2
  go_ret
  exact ⟨rfl, hG⟩
set_option maxHeartbeats 800000 in
theorem isbad_nil (w : World) : Calls Tryz.prog 125 #[.nilIface] w fun e w' => e = .returned (.bool false) ∧ Below w.heap.size w w' := by
  go_enter Tryz.func125, Tryz.ntmps125
  go_wp2_with fail
  refine (as_nil _ _).mono ?_
  rintro e w1 ⟨rfl, rfl⟩
  go_wp2
  go_ret
  exact ⟨rfl, (Below.refl _ _).alloc (Nat.le_refl _) _⟩
set_option maxHeartbeats 800000 in
theorem isbad_bad (p : Int) (w : World) (hg : ErrT w) : Calls Tryz.prog 125 #[.iface 196 (.agg #[.int .i64 p])] w fun e w' => e = .returned (.bool true) ∧ Below w.heap.size w w' := by
  go_enter Tryz.func125, Tryz.ntmps125
  go_wp2_with fail
  have hB : Below w.heap.size w (w.alloc (Obj.cells #[.int .i64 0] 196)) := (Below.refl _ _).alloc (Nat.le_refl _) _
  refine (as_hit p 0 w.heap.size _ (hg.below hB (Nat.le_refl _)) (heap_alloc_new _ _)).mono ?_
  rintro e w1 ⟨rfl, hgr⟩
  go_wp2
  go_ret
  exact ⟨rfl, hB.grown hgr hB.size (fun k hk => by simp at hk; omega)⟩
end Go.Proofs.YtbhfooafhbfniaaGreatDoor
/-
  What is moved is within bounds; bytes of one's own; helpers. No condition.
-/
namespace Go.Proofs.YtbhfooafhbfniaaGreatDoor
open Go.RowKit
theorem mv_right (a : Nat) (xs : List Nd) (rs : List Int) (hp : poolB xs = true) (ha : a + (mvN a xs rs).length ≤ 3000) : ∀ x ∈ mvN a xs rs, NdOk x := by
  have I := mv_all a xs (reachL xs rs) (fun i x h => poolB_at hp h) (reach_closed xs rs (fun i x h => poolB_at hp h))
  intro x hx
  obtain ⟨j, hj⟩ := List.getElem?_of_mem hx
  have hjl : j < (mvN a xs rs).length := (List.getElem?_eq_some_iff.1 hj).1
  exact ndok_of (I.ok j x hj) (by omega)
theorem pool_small {xs : List Nd} (h : poolB xs = true) : xs.length ≤ 3000 := by simp only [poolB, Bool.and_eq_true, decide_eq_true_eq] at h; exact h.1
theorem ndok_max {xs : List Nd} (h : ∀ x ∈ xs, NdOk x) : ∀ x ∈ xs, x.s.size ≤ maxLen := fun x hx => by have := (h x hx).2.2.1; unfold maxLen; omega
theorem irow_one {w : World} {z : Int} {g : Nat} (h : w.heap[g]? = some (.cells #[.int .i64 z] 3 (0, 0))) : IRow w (.slice (some ⟨g, 0, none⟩) 1 1) [z] := by
  refine ⟨_, 1, rfl, ⟨by simp, fun h => by cases h⟩, by simp, fun _ => ⟨g, 0, rfl, (Array.getElem?_eq_some_iff.1 h).1, fun i hi => ?_⟩⟩
  have : i = 0 := by simpa using hi
  subst this
  rw [cell_of_row w _ 0 _ _ _ h]
  rfl
end Go.Proofs.YtbhfooafhbfniaaGreatDoor
/-
  Contracts of impl.readerOf, (impl.reader).value and impl.ValueRead: a value is read from its bytes, or nothing. The variable errors.errorType reads as it is laid.
-/
namespace Go.Proofs.YtbhfooafhbfniaaGreatDoor
open Go.RowKit
end Go.Proofs.YtbhfooafhbfniaaGreatDoor
/-
  The contract of (impl.reader).value: a value is read from its bytes, or there is a mistake. Bounds of the form alone.
-/
namespace Go.Proofs.YtbhfooafhbfniaaGreatDoor
open Go.RowKit
theorem Lies.le {zs L : List Int} {a b : Int} (h : Lies zs a L b) (hl : L ≠ []) : b ≤ zs.length := by
  obtain ⟨h1, h2, r, h3⟩ := h
  have := congrArg List.length h3
  have hp := List.length_pos_iff.2 hl
  rw [List.length_drop, List.length_append] at this
  omega
theorem encI_ne {x : Int} (h : 0 ≤ x) : encI x ≠ [] := by
  rw [encI_pos x h]
  intro e
  rcases Int.lt_or_le x 128 with h1 | h1
  · rw [enc_last 8 x h1] at e; cases e
  · rw [enc_more 8 x (by omega)] at e; cases e
theorem rdP_le {zs : List Int} {xs : List Nd} {a b : Int} (hz : ∀ z ∈ zs, 0 ≤ z ∧ z ≤ 255) (h : rdP zs a = some (xs, b)) : b ≤ zs.length ∧ poolB xs = true := by
  unfold rdP at h
  rw [Option.bind_eq_some_iff] at h
  obtain ⟨⟨n, a1⟩, h1, h2⟩ := h
  split at h2
  · cases h2
  rw [Option.bind_eq_some_iff] at h2
  obtain ⟨⟨ys, c⟩, h3, h4⟩ := h2
  split at h4
  · rename_i hp
    cases h4
    obtain ⟨L1, hn⟩ := rd1_lies hz h1
    obtain ⟨L2, hl⟩ := rdNds_lies hz n.toNat a1 _ xs (by have := L1.1; have := L1.2.1; omega) h3
    exact ⟨(L1.append L2).le (by intro e; exact encI_ne hn (List.append_eq_nil_iff.1 e).1), hp⟩
  · cases h4
theorem vr_none {zs : List Int} (h : rdP zs 0 = none) : vrR zs = none := by unfold vrR; rw [h]; rfl
theorem vr_some {zs : List Int} {xs : List Nd} {b : Int} (h : rdP zs 0 = some (xs, b)) : vrR zs = if b = zs.length ∧ xs ≠ [] ∧ allR xs [(xs.length : Int) - 1] = true then some xs else none := by unfold vrR; rw [h]; rfl
def VAns (B : Nat) (zs : List Int) (e : Ending) (w' : World) : Prop :=
  (∃ xs vs, vrR zs = some xs ∧ e = .returned (.tuple #[.agg #[vs], .nilIface]) ∧ w'.ownsRow B 130 5 vs xs.length (ncs xs)) ∨ (vrR zs = none ∧ ∃ ao n c p, e = .returned (.tuple #[.agg #[.slice ao n c], badV p]))
set_option maxRecDepth 100000 in
set_option maxHeartbeats 3200000 in
theorem rvalue_any (v : Value) (zs : List Int) (W0 w : World) (P : Nat) (R : Row W0 v zs) (hb : Below W0.heap.size W0 w) (hP : W0.heap.size ≤ P) (h1 : One w P 0) :
    Calls Tryz.prog 124 #[.agg #[v, .pointer (some ⟨P, 0, none⟩)]] w fun e w' => w.grownBy w' (some P) ∧ VAns w.heap.size zs e w' := by
  obtain ⟨ao, cap, rfl, _, hml, hz, _⟩ := id R
  have hbs := hb.size
  have hPl := h1.lt
  obtain ⟨hB2, x0, x1⟩ := two_boxes w (Obj.cells #[Value.slice ao zs.length cap, Value.pointer (some ⟨P, 0, none⟩)] 177) (Obj.cells #[.slice none 0 0] 32)
  go_enter Tryz.func124, Tryz.ntmps124
  go_wp2_with fail
  obtain ⟨W2, hW2⟩ : ∃ W2, (w.alloc (Obj.cells #[Value.slice ao zs.length cap, Value.pointer (some ⟨P, 0, none⟩)] 177)).alloc (Obj.cells #[.slice none 0 0] 32) = W2 := ⟨_, rfl⟩
  rw [hW2] at hB2 x0 x1 ⊢
  have hl1 := (Array.getElem?_eq_some_iff.1 x1).1
  refine (rnodes_any _ zs W0 W2 P 0 R (hb.trans (hB2.mono hbs)) hP (h1.below hB2 hPl)).mono ?_
  rintro e w1 ⟨hgr, hans⟩
  have x0 := (hgr.block _ (by omega) (by simp; omega)).trans x0
  have x1 := (hgr.block _ (by omega) (by simp; omega)).trans x1
  have hG1 : w.grownBy w1 (some P) := grown_trans (grown_below hB2 _) hgr
  have hs1 := hgr.size
  rcases hans with ⟨xs, b, vs, a1, rfl, a3, a4⟩ | ⟨a1, ⟨p, rfl⟩, q, a3⟩
  · obtain ⟨hbl, hp⟩ := rdP_le hz a1
    have hlen := poolB_len hp
    obtain ⟨av, cv, rfl⟩ := own_form a3
    have HV : Hid (vrR zs = if b = zs.length ∧ xs ≠ [] ∧ allR xs [(xs.length : Int) - 1] = true then some xs else none) := vr_some a1
    clear hW2 hgr
    have hs2 : (W2.heap.size : Nat) ≤ w1.heap.size := hs1
    have B1 : Below w1.heap.size w1 (w1.alloc (Obj.cells #[.slice av xs.length cv] 32)) := (Below.refl _ _).alloc (Nat.le_refl _) _
    have y0 := (B1.block _ (by omega)).trans x0
    have y1 := (B1.block _ (by omega)).trans x1
    have r0 : (w1.alloc (Obj.cells #[.slice av xs.length cv] 32)).cell? ⟨w.heap.size + 1, 0, none⟩ = some (.slice none 0 0) := cell_of_row (w1.alloc (Obj.cells #[.slice av xs.length cv] 32)) _ 0 _ _ _ y1
    have rf : (w1.alloc (Obj.cells #[.slice av xs.length cv] 32)).frozen? ⟨w.heap.size + 1, 0, none⟩ = false := frozen_of_row (w1.alloc (Obj.cells #[.slice av xs.length cv] 32)) _ 0 _ _ y1
    have hset : ((w1.alloc (Obj.cells #[.slice av xs.length cv] 32)).setCell ⟨w.heap.size + 1, 0, none⟩ (.slice none 0 0)).heap[w.heap.size + 1]? = some (.cells #[.slice none 0 0] 32 (0, 0)) := heap_setCell_same (w1.alloc (Obj.cells #[.slice av xs.length cv] 32)) (w.heap.size + 1) 0 _ _ (.slice none 0 0) y1
    have hbset : Below (w.heap.size + 1) (w1.alloc (Obj.cells #[.slice av xs.length cv] 32)) ((w1.alloc (Obj.cells #[.slice av xs.length cv] 32)).setCell ⟨w.heap.size + 1, 0, none⟩ (.slice none 0 0)) := (Below.refl _ _).setCell (p := ⟨w.heap.size + 1, 0, none⟩) (Nat.le_refl _) _
    have y4 : (w1.alloc (Obj.cells #[.slice av xs.length cv] 32)).heap[w1.heap.size]? = some (.cells #[.slice av xs.length cv] 32 (0, 0)) := heap_alloc_new _ _
    by_cases hxe : xs = []
    · have HN : Hid (vrR zs = none) := by unfold Hid; rw [HV.out, if_neg]; intro h; exact h.2.1 hxe
      have h0 : (xs.length : Int) - 1 < 0 := by rw [hxe]; simp
      clear hxe
      go_wp2
      exact bodyPost_ret (results_row_tmp rfl _ _ (w.heap.size + 1) 32 _ (0, 0) _ rfl hset Tryz.underlying32 rfl Tryz.sizeP) rfl ⟨grown_then (grown_then hG1 B1 hG1.size) hbset (by omega), Or.inr ⟨HN.out, _, _, _, _, rfl⟩⟩
    · have hpos := List.length_pos_iff.2 hxe
      have h0 : ¬ ((xs.length : Int) - 1 < 0) := by omega
      have BI : Below (w1.alloc (Obj.cells #[.slice av xs.length cv] 32)).heap.size (w1.alloc (Obj.cells #[.slice av xs.length cv] 32)) ((w1.alloc (Obj.cells #[.slice av xs.length cv] 32)).alloc (Obj.cells #[.int .i64 ((xs.length : Int) - 1)] 3)) := (Below.refl _ _).alloc (Nat.le_refl _) _
      have hsA : (w1.alloc (Obj.cells #[.slice av xs.length cv] 32)).heap.size = w1.heap.size + 1 := by simp
      have R3 : NRow w1 (.slice av xs.length cv) xs := NRow.of_own a3 (by omega) (ndok_max (pool_ndok hp))
      have RI : IRow ((w1.alloc (Obj.cells #[.slice av xs.length cv] 32)).alloc (Obj.cells #[.int .i64 ((xs.length : Int) - 1)] 3)) (.slice (some ⟨w1.heap.size + 1, 0, none⟩) 1 1) [(xs.length : Int) - 1] := by
        rw [← hsA]
        exact irow_one (heap_alloc_new _ _)
      have HK := iskept_any _ _ xs [(xs.length : Int) - 1] ((w1.alloc (Obj.cells #[.slice av xs.length cv] 32)).alloc (Obj.cells #[.int .i64 ((xs.length : Int) - 1)] 3)) ((R3.below B1).below BI) RI hp (last_in hxe)
      obtain ⟨kb, hkb⟩ : ∃ kb, Hid (allR xs [(xs.length : Int) - 1] = kb) := ⟨_, rfl⟩
      rw [hkb.out] at HK
      clear RI hsA
      go_wp2_with fail
      refine HK.mono ?_
      rintro e w4 ⟨rfl, hb4⟩
      have B4 : Below (w1.alloc (Obj.cells #[.slice av xs.length cv] 32)).heap.size (w1.alloc (Obj.cells #[.slice av xs.length cv] 32)) w4 := BI.trans (hb4.mono BI.size)
      have B14 : Below w1.heap.size w1 w4 := B1.trans (B4.mono B1.size)
      have z0 := (B14.block _ (by omega)).trans x0
      have z1 := (B14.block _ (by omega)).trans x1
      have z4 := (B4.block _ (Array.getElem?_eq_some_iff.1 y4).1).trans y4
      have zP := a4.below B14 a4.lt
      have zo := own_below a3 B14
      have hG4 : w.grownBy w4 (some P) := grown_then hG1 B14 hG1.size
      have hs4 := B14.size
      clear HK hb4 BI B4 B14 B1 y0 y1 y4 r0 rf hset hbset
      cases kb with
      | false =>
        have HN : Hid (vrR zs = none) := by unfold Hid; rw [HV.out, if_neg]; intro h; rw [hkb.out] at h; exact absurd h.2.2 (by simp)
        have r0 : w4.cell? ⟨w.heap.size + 1, 0, none⟩ = some (.slice none 0 0) := cell_of_row w4 _ 0 _ _ _ z1
        have rf : w4.frozen? ⟨w.heap.size + 1, 0, none⟩ = false := frozen_of_row w4 _ 0 _ _ z1
        have hset : (w4.setCell ⟨w.heap.size + 1, 0, none⟩ (.slice none 0 0)).heap[w.heap.size + 1]? = some (.cells #[.slice none 0 0] 32 (0, 0)) := heap_setCell_same w4 (w.heap.size + 1) 0 _ _ (.slice none 0 0) z1
        have hbset : Below (w.heap.size + 1) w4 (w4.setCell ⟨w.heap.size + 1, 0, none⟩ (.slice none 0 0)) := (Below.refl _ _).setCell (p := ⟨w.heap.size + 1, 0, none⟩) (Nat.le_refl _) _
        go_wp2
        exact bodyPost_ret (results_row_tmp rfl _ _ (w.heap.size + 1) 32 _ (0, 0) _ rfl hset Tryz.underlying32 rfl Tryz.sizeP) rfl ⟨grown_then hG4 hbset (by omega), Or.inr ⟨HN.out, _, _, _, _, rfl⟩⟩
      | true =>
        have HE := rend_any (.slice ao zs.length cap) zs P b w4.drew ⟨ao, cap, rfl⟩ zP
        have q0 : w4.cell? ⟨w.heap.size, 0, none⟩ = some (.slice ao zs.length cap) := cell_of_row w4 _ 0 _ _ _ z0
        have q1 : w4.cell? ⟨w.heap.size, 1, none⟩ = some (.pointer (some ⟨P, 0, none⟩)) := cell_of_row w4 _ 1 _ _ _ z0
        have q4 : w4.cell? ⟨w1.heap.size, 0, none⟩ = some (.slice av xs.length cv) := cell_of_row w4 _ 0 _ _ _ z4
        have r0 : w4.cell? ⟨w.heap.size + 1, 0, none⟩ = some (.slice none 0 0) := cell_of_row w4 _ 0 _ _ _ z1
        have rf : w4.frozen? ⟨w.heap.size + 1, 0, none⟩ = false := frozen_of_row w4 _ 0 _ _ z1
        have SS : ∀ w5 : World, Below w4.heap.size w4 w5 → (w5.heap[w.heap.size + 1]? = some (.cells #[.slice none 0 0] 32 (0, 0))) ∧ (w5.cell? ⟨w1.heap.size, 0, none⟩ = some (.slice av xs.length cv) ∧ w5.cell? ⟨w.heap.size, 0, none⟩ = some (.slice ao zs.length cap) ∧ w5.cell? ⟨w.heap.size, 1, none⟩ = some (.pointer (some ⟨P, 0, none⟩))) := by
          intro w5 hb5
          have l0 := (Array.getElem?_eq_some_iff.1 z0).1
          have l1 := (Array.getElem?_eq_some_iff.1 z1).1
          have l4 := (Array.getElem?_eq_some_iff.1 z4).1
          have p0 := (hb5.block _ l0).trans z0
          have p1 := (hb5.block _ l1).trans z1
          have p4 := (hb5.block _ l4).trans z4
          exact ⟨p1, cell_of_row w5 _ 0 _ _ _ p4, cell_of_row w5 _ 0 _ _ _ p0, cell_of_row w5 _ 1 _ _ _ p0⟩
        have S6 : ∀ w5 : World, (w5.cell? ⟨w1.heap.size, 0, none⟩ = some (.slice av xs.length cv) ∧ w5.cell? ⟨w.heap.size, 0, none⟩ = some (.slice ao zs.length cap) ∧ w5.cell? ⟨w.heap.size, 1, none⟩ = some (.pointer (some ⟨P, 0, none⟩))) → ((w5.setCell ⟨w.heap.size + 1, 0, none⟩ (.slice av xs.length cv)).cell? ⟨w1.heap.size, 0, none⟩ = some (.slice av xs.length cv) ∧ (w5.setCell ⟨w.heap.size + 1, 0, none⟩ (.slice av xs.length cv)).cell? ⟨w.heap.size, 0, none⟩ = some (.slice ao zs.length cap) ∧ (w5.setCell ⟨w.heap.size + 1, 0, none⟩ (.slice av xs.length cv)).cell? ⟨w.heap.size, 1, none⟩ = some (.pointer (some ⟨P, 0, none⟩))) := by
          rintro w5 ⟨a1, a2, a3⟩
          exact ⟨(World.cell?_of_block (heap_setCell_other w5 ⟨w.heap.size + 1, 0, none⟩ _ _ (by show w1.heap.size ≠ w.heap.size + 1; omega))).trans a1, (World.cell?_of_block (heap_setCell_other w5 ⟨w.heap.size + 1, 0, none⟩ _ _ (by show w.heap.size ≠ w.heap.size + 1; omega))).trans a2, (World.cell?_of_block (heap_setCell_other w5 ⟨w.heap.size + 1, 0, none⟩ _ _ (by show w.heap.size ≠ w.heap.size + 1; omega))).trans a3⟩
        have hd4 : Below w4.heap.size w4 w4.drew := (Below.refl _ _).drew
        go_wp2_with fail
        go_region_held (fun w' => w'.cell? ⟨w1.heap.size, 0, none⟩ = some (.slice av xs.length cv) ∧ w'.cell? ⟨w.heap.size, 0, none⟩ = some (.slice ao zs.length cap) ∧ w'.cell? ⟨w.heap.size, 1, none⟩ = some (.pointer (some ⟨P, 0, none⟩))) (first | exact s5 | exact s6 | go_keep) (first
          | (go_at_call 146; refine HE.mono ?_; rintro e w5 ⟨r, rfl, hE, hb5⟩; have s5' := SS w5 (hd4.trans (hb5.mono hd4.size)); have s5 := s5'.2; have r5 : w5.cell? ⟨w.heap.size + 1, 0, none⟩ = some (.slice none 0 0) := cell_of_row w5 _ 0 _ _ _ s5'.1; have rf5 : w5.frozen? ⟨w.heap.size + 1, 0, none⟩ = false := frozen_of_row w5 _ 0 _ _ s5'.1; have s6 := S6 w5 s5))
        all_goals
          have hb45 := hd4.trans (hb5.mono hd4.size)
          have hset : (w5.setCell ⟨w.heap.size + 1, 0, none⟩ (.slice av xs.length cv)).heap[w.heap.size + 1]? = some (.cells #[.slice av xs.length cv] 32 (0, 0)) := heap_setCell_same w5 (w.heap.size + 1) 0 _ _ (.slice av xs.length cv) s5'.1
          have hbset : Below (w.heap.size + 1) w5 (w5.setCell ⟨w.heap.size + 1, 0, none⟩ (.slice av xs.length cv)) := (Below.refl _ _).setCell (p := ⟨w.heap.size + 1, 0, none⟩) (Nat.le_refl _) _
          have hGF : w.grownBy (w5.setCell ⟨w.heap.size + 1, 0, none⟩ (.slice av xs.length cv)) (some P) := grown_then (grown_then hG4 hb45 hG4.size) hbset (by omega)
          have hoF := own_mono (ownsRow_setCell_below (own_below zo hb45) (a := ⟨w.heap.size + 1, 0, none⟩) hl1 (.slice av xs.length cv)) (show w.heap.size ≤ W2.heap.size by omega)
          have HF : Hid ((vrR zs = some xs ∧ r = .nilIface) ∨ (vrR zs = none ∧ ∃ p, r = badV p)) := by
            unfold Hid
            rw [HV.out]
            rcases hE with ⟨e1, e2⟩ | ⟨e1, e2⟩
            · rw [if_neg (fun h => by have := h.1; omega)]; exact Or.inr ⟨rfl, e2⟩
            · rw [if_pos ⟨by omega, hxe, hkb.out⟩]; exact Or.inl ⟨rfl, e2⟩
          clear HE SS S6 s5 s5' s6 hE r5 rf5 q0 q1 q4 r0 rf
          go_wp2
          refine bodyPost_ret (results_row_tmp rfl _ _ (w.heap.size + 1) 32 _ (0, 0) _ rfl hset Tryz.underlying32 rfl Tryz.sizeP) rfl ⟨hGF, ?_⟩
          rcases HF.out with ⟨f1, f2⟩ | ⟨f1, p, f2⟩
          · exact Or.inl ⟨xs, _, f1, by rw [← f2]; rfl, hoF⟩
          · exact Or.inr ⟨f1, _, _, _, p, by rw [← f2]; rfl⟩
  · have HN : Hid (vrR zs = none) := vr_none a1
    have B1 : Below w1.heap.size w1 (w1.alloc (Obj.cells #[.slice none 0 0] 32)) := (Below.refl _ _).alloc (Nat.le_refl _) _
    have y1 := (B1.block _ (by omega)).trans x1
    have r0 : (w1.alloc (Obj.cells #[.slice none 0 0] 32)).cell? ⟨w.heap.size + 1, 0, none⟩ = some (.slice none 0 0) := cell_of_row (w1.alloc (Obj.cells #[.slice none 0 0] 32)) _ 0 _ _ _ y1
    have rf : (w1.alloc (Obj.cells #[.slice none 0 0] 32)).frozen? ⟨w.heap.size + 1, 0, none⟩ = false := frozen_of_row (w1.alloc (Obj.cells #[.slice none 0 0] 32)) _ 0 _ _ y1
    have hset : ((w1.alloc (Obj.cells #[.slice none 0 0] 32)).setCell ⟨w.heap.size + 1, 0, none⟩ (.slice none 0 0)).heap[w.heap.size + 1]? = some (.cells #[.slice none 0 0] 32 (0, 0)) := heap_setCell_same (w1.alloc (Obj.cells #[.slice none 0 0] 32)) (w.heap.size + 1) 0 _ _ (.slice none 0 0) y1
    have hbset : Below (w.heap.size + 1) (w1.alloc (Obj.cells #[.slice none 0 0] 32)) ((w1.alloc (Obj.cells #[.slice none 0 0] 32)).setCell ⟨w.heap.size + 1, 0, none⟩ (.slice none 0 0)) := (Below.refl _ _).setCell (p := ⟨w.heap.size + 1, 0, none⟩) (Nat.le_refl _) _
    unfold badV
    go_wp2
    exact bodyPost_ret (results_row_tmp rfl _ _ (w.heap.size + 1) 32 _ (0, 0) _ rfl hset Tryz.underlying32 rfl Tryz.sizeP) rfl ⟨grown_then (grown_then hG1 B1 hG1.size) hbset (by omega), Or.inr ⟨HN.out, _, _, _, p, rfl⟩⟩
end Go.Proofs.YtbhfooafhbfniaaGreatDoor
