/-
  Texts that stood by themselves, laid into one.
-/
import Derived.Test.YtfmafkebddojjaaGreatDoorSWireM
import Derived.Test.YtfmafkebddojjaaGreatDoorSGTextM
import Derived.Test.YtfmafkebddojjaaGreatDoorIReachM
import Derived.Test.YtfmafkebddojjaaGreatDoorSbM
import Derived.LaidEql
import Derived.Stop.Asserts
import Derived.RowKitTokens
import Derived.Test.YtfmafkebddojjaaGreatDoorSR8M
import Derived.Deep.RegionHeld3
import Derived.RangeFuncNested
import Derived.RangeFuncBound
import Derived.RangeFuncCalls
import Derived.RangeFuncLeaves
import Derived.RangeFuncBox
import Derived.Shelf.Abstract
import Derived.Shelf.RegionOpen
import Derived.WalkKit
import Derived.OwnWalkIn
import Derived.TacticsInMore
import Derived.LoopNIn
import Derived.LoopIn
import Derived.Deep.AppendLies
import Derived.Test.YtfmafkebddojjaaGreatDoorSubM
import Derived.Deep.RegionLaw
/-
  Contracts of slices.Contains of bools, (impl.Pool).isKept and (impl.reader).end. No condition but that the pool is right.
-/
namespace Go.Proofs.YtfmafkebddojjaaGreatDoor
open Go.RowKit
set_option maxHeartbeats 800000 in
theorem Zgr (v : Value) (bs : List Bool) (w : World) (R : BRow w v bs) (hl : bs.length <= 4194304) :
  Calls Tryz.prog 281 #[v, .bool false] w fun e w' => ∃ r : Int, e = .returned (.int .i64 r) /\ (0 <= r <-> false ∈ bs) /\ w' = w := by
 obtain ⟨ao, cap, rfl, _, _, hcell⟩ := R
 go_enter Tryz.func281, Tryz.ntmps281
 go_wp2_with fail
 go_loopw [8] (fun i wr => ∃ k : Nat, k <= bs.length /\ i = .int .i64 k /\ Hid (∀ j, j < k -> bs[j]? = some true) /\ wr = w) (fun i _ => bs.length - (intOf i).toNat)
 case atStart => exact ⟨0, by omega, rfl, fun j hj => by omega, rfl⟩
 case round =>
  obtain ⟨k, hk, rfl, HA, rfl⟩ := hrel
  by_cases hlt : k < bs.length
  ·obtain ⟨g, o, rfl, hg, hcell⟩ := hcell (by intro e; subst e; simp at hlt)
   have hc := hcell k hlt
   clear hcell
   obtain ⟨b, hb⟩ : ∃ b, bs[k]? = some b := ⟨bs[k], by simp [hlt]⟩
   rw [show bs.getD k false = b by simp [List.getD, hb]] at hc
   cases b with
   | false =>
    have hm : false ∈ bs := List.mem_of_getElem? hb
    go_wp2
    go_ret
    exact ⟨k, rfl, ⟨fun _ => hm, fun _ => by omega⟩, rfl⟩
   | true =>
    have HA2 : Hid (∀ j, j < k + 1 -> bs[j]? = some true) := fun j hj => by
     rcases Nat.lt_or_ge j k with h | h
     ·exact HA.out j h
     ·obtain rfl : j = k := by omega
      exact hb
    go_wp2
    go_roundw
    case rel => exact ⟨k + 1, by omega, by go_num, HA2, by trivial⟩
    case measure => simp [intOf]; omega
  ·have hke : k = bs.length := by omega
   subst hke
   have hm : false ∉ bs := fun h => by
    obtain ⟨j, hj, he⟩ := List.getElem_of_mem h
    have := HA.out j hj
    rw [List.getElem?_eq_getElem hj, he] at this
    cases this
   go_wp2
   go_ret
   exact ⟨-1, rfl, ⟨fun h => by omega, fun h => absurd h hm⟩, rfl⟩
set_option maxHeartbeats 800000 in
theorem ZdQ (v : Value) (bs : List Bool) (w : World) (R : BRow w v bs) (hl : bs.length <= 4194304) :
  Calls Tryz.prog 260 #[v, .bool false] w fun e w' => e = .returned (.bool (bs.contains false)) /\ w' = w := by
 go_enter Tryz.func260, Tryz.ntmps260
 go_wp2_with fail
 refine (Zgr v bs w R hl).mono ?_
 rintro e w1 ⟨r, rfl, hr, rfl⟩
 have HE : Hid (bs.contains false = decide (0 <= r)) := by
  unfold Hid
  rw [Bool.eq_iff_iff, List.contains_iff_mem, decide_eq_true_eq]
  exact hr.symm
 clear hr
 go_wp2
 go_ret
 exact ⟨by rw [HE.out]; rfl, rfl⟩
set_option maxHeartbeats 800000 in
theorem Zgs (v vl : Value) (xs : List Nd) (rs : List Int) (w : World) (R : NRow w v xs) (L : IRow w vl rs) (hp : Zaq xs = true) (hr : allI xs rs = true) :
  Calls Tryz.prog 253 #[.agg #[v], vl] w fun e w' => e = .returned (.bool (allR xs rs)) /\ Below w.heap.size w w' := by
 obtain ⟨ao, cap, rfl, _⟩ := id R
 have hlen := Za0 hp
 have hB0 : Below w.heap.size w (w.alloc (Obj.cells #[.slice ao xs.length cap] 40)) := (Below.refl _ _).alloc (Nat.le_refl _) _
 go_enter Tryz.func253, Tryz.ntmps253
 go_wp2_with fail
 refine (ZgS ao cap vl xs rs _ (R.below hB0) (L.below hB0) hp hr).mono ?_
 rintro e w1 ⟨v1, rfl, ho, hb1⟩
 have hB1 := hB0.trans (hb1.mono hB0.size)
 have hrl := Za3 xs rs
 have HL : Hid ((Zat xs rs).length = xs.length) := hrl
 rw [<- hrl] at ho
 have RB := BRow.of_own ho (by omega)
 clear hrl
 have HC := ZdQ v1 (Zat xs rs) _ RB (by rw [HL.out]; omega)
 obtain ⟨cb, hcb⟩ : ∃ cb, Hid ((Zat xs rs).contains false = cb) := ⟨_, rfl⟩
 rw [hcb.out] at HC
 have HA : Hid (allR xs rs = !cb) := by unfold Hid allR; rw [hcb.out]
 clear hcb
 go_wp2_with fail
 refine HC.mono ?_
 rintro e w2 ⟨rfl, rfl⟩
 go_wp2
 go_ret
 exact ⟨by rw [HA.out]; rfl, hB1⟩
end Go.Proofs.YtfmafkebddojjaaGreatDoor
namespace Go.Proofs.YtfmafkebddojjaaGreatDoor
open Go.RowKit Go.Extern.Stop Go.Stop Go.Extern
theorem Zks (t : Value) (w : World) :
  Calls Tryz.prog 254 #[.nilIface, t] w fun e w' => e = .returned (.bool false) /\ w' = w := by
 go_enter Tryz.func254, Tryz.ntmps254
 go_wp2
 go_ret
 exact ⟨rfl, rfl⟩
theorem Tryz.asValueOfP (t : Addr) (w : World) : (ReflectliteValue.unpack (.iface 307 (.pointer (some t)))).run Tryz.prog w
  = .ok (.agg #[.pointer (some ⟨1, 307, none⟩), .pointer (some ⟨w.heap.size, 0, none⟩), .int .u64 150]) (w.alloc (.cells #[.pointer (some t)] 307)) := by kernel_rfl
theorem Tryz.asTypeP (a : Addr) (w : World) : (ReflectliteValue.methodAny (ReflectliteValue.valueError "reflectlite.Value.Type" 0) (fun t _ _ _ => ReflectliteType.toType t) #[.agg #[.pointer (some ⟨1, 307, none⟩), .pointer (some a), .int .u64 150]]).run Tryz.prog w
  = .ok (.iface 336 (.agg #[.pointer (some ⟨1, 307, none⟩)])) w := by kernel_rfl
theorem Tryz.asMethodKind (h : Value) (w : World) : (Go.method 479 336 (.agg #[h]) "Kind").run Tryz.prog w = .ok (303, h) w := by kernel_rfl
theorem Tryz.asKindP (w : World) : ((ReflectliteType.abiMethod fun t => (fun a : Nat => Value.int IntKind.u8 (a : Int)) <$> Rtype.kind t) #[.pointer (some ⟨1, 307, none⟩)]).run Tryz.prog w = .ok (.int .u8 22) w := by kernel_rfl
theorem Tryz.asKindT (w : World) : ((ReflectliteType.abiMethod fun t => (fun a : Nat => Value.int IntKind.u8 (a : Int)) <$> Rtype.kind t) #[.pointer (some ⟨1, 289, none⟩)]).run Tryz.prog w = .ok (.int .u8 25) w := by kernel_rfl
theorem rlm (z : Sem Value) (f : TypeId -> Addr -> Nat -> Nat -> Sem Value) (v : Value) :
  ReflectliteValue.method z f #[v] = (do match <- ReflectliteValue.parts v with | none => z | some (t, a, fl) => f t a fl (fl % 32)) := rfl
theorem Tryz.asPartsP (a : Addr) (w : World) : (ReflectliteValue.parts (.agg #[.pointer (some ⟨1, 307, none⟩), .pointer (some a), .int .u64 150])).run Tryz.prog w = .ok (some (307, a, 150)) w := by kernel_rfl
theorem Tryz.asIsNilP (a p : Addr) (W : World) (ha : W.cell? a = some (.pointer (some p))) :
  (ReflectliteValue.method (ReflectliteValue.valueError "reflectlite.Value.IsNil" 0) ReflectliteValue.isNil #[.agg #[.pointer (some ⟨1, 307, none⟩), .pointer (some a), .int .u64 150]]).run Tryz.prog W = .ok (.bool false) W := by
 rw [rlm]
 simp only [Sem.run_bind, Tryz.asPartsP, Result.andThen]
 simp [ReflectliteValue.isNil, loadVar, isAgg, underlying, Tryz.underlying307, ha, Result.andThen]
theorem Tryz.asMethodElem (h : Value) (w : World) : (Go.method 479 336 (.agg #[h]) "Elem").run Tryz.prog w = .ok (315, .agg #[h]) w := by kernel_rfl
theorem Tryz.asMethodImplements (h : Value) (w : World) : (Go.method 479 336 (.agg #[h]) "Implements").run Tryz.prog w = .ok (316, .agg #[h]) w := by kernel_rfl
theorem Tryz.asMethodAssignableTo (h : Value) (w : World) : (Go.method 479 336 (.agg #[h]) "AssignableTo").run Tryz.prog w = .ok (313, .agg #[h]) w := by kernel_rfl
theorem Tryz.asElemP (w : World) : (ReflectliteType.method ReflectliteType.elem #[.agg #[.pointer (some ⟨1, 307, none⟩)]]).run Tryz.prog w = .ok (.iface 336 (.agg #[.pointer (some ⟨1, 289, none⟩)])) w := by kernel_rfl
theorem Tryz.asImplementsT (w : World) : (ReflectliteType.relation "Implements" ReflectliteType.implements_ #[.agg #[.pointer (some ⟨1, 289, none⟩)], .iface 336 (.agg #[.pointer (some ⟨1, 259, none⟩)])]).run Tryz.prog w = .ok (.bool true) w := by kernel_rfl
theorem Tryz.asTypeOfT (v : Value) (w : World) : (ReflectliteType.typeOf #[.iface 289 v]).run Tryz.prog w = .ok (.iface 336 (.agg #[.pointer (some ⟨1, 289, none⟩)])) w := by kernel_rfl
theorem Tryz.asAssignableT (w : World) : (ReflectliteType.relation "AssignableTo" ReflectliteType.assignableTo #[.agg #[.pointer (some ⟨1, 289, none⟩)], .iface 336 (.agg #[.pointer (some ⟨1, 289, none⟩)])]).run Tryz.prog w = .ok (.bool true) w := by kernel_rfl
theorem Tryz.asValueOfT (p : Int) (w : World) : (ReflectliteValue.unpack (.iface 289 (.agg #[.int .i64 p]))).run Tryz.prog w
  = .ok (.agg #[.pointer (some ⟨1, 289, none⟩), .pointer (some ⟨w.heap.size, 0, none⟩), .int .u64 153]) (w.alloc (.cells #[.int .i64 p] 289)) := by kernel_rfl
theorem Tryz.asElemOfP (w : World) : (Rtype.elem? 307).run Tryz.prog w = .ok (some 289) w := by kernel_rfl
theorem Tryz.asMkT (p : Addr) (w : World) : (ReflectliteValue.mk 289 p ReflectliteValue.flagAddr).run Tryz.prog w = .ok (.agg #[.pointer (some ⟨1, 289, none⟩), .pointer (some p), .int .u64 409]) w := by kernel_rfl
theorem Tryz.asElemV (a p : Addr) (W : World) (ha : W.cell? a = some (.pointer (some p))) :
  (ReflectliteValue.method (ReflectliteValue.valueError "reflectlite.Value.Elem" 0) ReflectliteValue.elem #[.agg #[.pointer (some ⟨1, 307, none⟩), .pointer (some a), .int .u64 150]]).run Tryz.prog W
   = .ok (.agg #[.pointer (some ⟨1, 289, none⟩), .pointer (some p), .int .u64 409]) W := by
 rw [rlm]
 simp only [Sem.run_bind, Tryz.asPartsP, Result.andThen]
 simp [ReflectliteValue.elem, loadVar, isAgg, underlying, Tryz.underlying307, ha, Result.andThen, Tryz.asElemOfP, Tryz.asMkT]
theorem Tryz.asPartsA (a : Addr) (w : World) : (ReflectliteValue.parts (.agg #[.pointer (some ⟨1, 289, none⟩), .pointer (some a), .int .u64 409])).run Tryz.prog w = .ok (some (289, a, 409)) w := by kernel_rfl
theorem Tryz.asPartsT (a : Addr) (w : World) : (ReflectliteValue.parts (.agg #[.pointer (some ⟨1, 289, none⟩), .pointer (some a), .int .u64 153])).run Tryz.prog w = .ok (some (289, a, 153)) w := by kernel_rfl
theorem Tryz.asDirect (w : World) : (Rtype.directlyAssignable 289 289).run Tryz.prog w = .ok true w := by kernel_rfl
def ErrT (w : World) : Prop := w.cell? ⟨0, 0, none⟩ = some (.iface 336 (.agg #[.pointer (some ⟨1, 259, none⟩)]))
theorem ErrT.below {w w' : World} {B : Nat} (h : ErrT w) (hb : Below B w w') (hB : w.heap.size <= B) : ErrT w' := by
 have hl := World.block_lt_of_cell? _ _ h
 unfold ErrT
 rw [hb.cell (p := ⟨0, 0, none⟩) (Nat.lt_of_lt_of_le hl hB)]
 exact h
set_option maxRecDepth 100000 in
theorem Tryz.asSet (tb b : Nat) (p q : Int) (W : World) (hb : W.heap[b]? = some (.cells #[.int .i64 p] 289 (0, 0))) (ht : W.heap[tb]? = some (.cells #[.int .i64 q] 289 (0, 0))) :
  (ReflectliteValue.set #[.agg #[.pointer (some ⟨1, 289, none⟩), .pointer (some ⟨tb, 0, none⟩), .int .u64 409], .agg #[.pointer (some ⟨1, 289, none⟩), .pointer (some ⟨b, 0, none⟩), .int .u64 153]]).run Tryz.prog W
   = .ok (.tuple #[]) (W.setCell ⟨tb, 0, none⟩ (.int .i64 p)) := by
 have c0 : W.cell? ⟨b, 0, none⟩ = some (.int .i64 p) := cell_of_row _ _ 0 _ _ _ hb
 have c1 : W.cell? ⟨tb, 0, none⟩ = some (.int .i64 q) := cell_of_row _ _ 0 _ _ _ ht
 have f1 : W.frozen? ⟨tb, 0, none⟩ = false := frozen_of_row _ _ 0 _ _ ht
 show (ReflectliteValue.parts _ >>= _).run Tryz.prog W = _
 simp only [Sem.run_bind, Array.getLit, List.getElem_toArray, List.getElem_cons_zero, List.getElem_cons_succ, Tryz.asPartsA, Tryz.asPartsT, Result.andThen]
 simp [ReflectliteValue.flagAddr, loadVar, isAgg, underlying, Tryz.underlying289, Result.andThen, Tryz.asDirect, storeVar, Value.cells, storeCells, Addr.add]
 have hl : (loadCells ⟨b, 0, none⟩ 1).run Tryz.prog W = .ok #[.int .i64 p] W := run_loadCells_list (P := Tryz.prog) W ⟨b, 0, none⟩ [.int .i64 p] (fun j v hj => by
  cases j with
  | zero => cases hj; exact c0
  | succ j => simp at hj)
 rw [hl]
 simp [storeCells, Addr.add]
 rw [run_store Tryz.prog W ⟨tb, 0, none⟩ _ _ (by rfl)]
 simp [c1, f1]
set_option maxRecDepth 100000 in
set_option maxHeartbeats 4000000 in
theorem Zkr (p q : Int) (t : Nat) (w : World) (hg : ErrT w) (ht : w.heap[t]? = some (.cells #[.int .i64 q] 289 (0, 0))) :
  Calls Tryz.prog 254 #[.iface 289 (.agg #[.int .i64 p]), .iface 307 (.pointer (some ⟨t, 0, none⟩))] w fun ev w' => ev = .returned (.bool true) /\ w.grownBy w' (some t) := by
 have h6 := @run_callFunc_extern Tryz.prog 262 _ (fun args => ReflectliteValue.unpack (args.getD 0 (.tuple #[]))) Tryz.func262 (by kernel_rfl) (by kernel_rfl) (by kernel_rfl) (by kernel_rfl)
 have h7 := @run_callFunc_extern Tryz.prog 263 _ (ReflectliteValue.methodAny (ReflectliteValue.valueError "reflectlite.Value.Type" 0) (fun t _ _ _ => ReflectliteType.toType t)) Tryz.func263 (by kernel_rfl) (by kernel_rfl) (by kernel_rfl) (by kernel_rfl)
 have h8 := @run_callFunc_extern Tryz.prog 264 _ (ReflectliteValue.method (ReflectliteValue.valueError "reflectlite.Value.IsNil" 0) ReflectliteValue.isNil) Tryz.func264 (by kernel_rfl) (by kernel_rfl) (by kernel_rfl) (by kernel_rfl)
 have h27 := @run_callFunc_extern Tryz.prog 303 _ (ReflectliteType.abiMethod fun t => do pure (.int .u8 (<- Rtype.kind t))) Tryz.func303 (by kernel_rfl) (by kernel_rfl) (by kernel_rfl) (by kernel_rfl)
 have h37 := @run_callFunc_extern Tryz.prog 315 _ (ReflectliteType.method ReflectliteType.elem) Tryz.func315 (by kernel_rfl) (by kernel_rfl) (by kernel_rfl) (by kernel_rfl)
 have h38 := @run_callFunc_extern Tryz.prog 316 _ (ReflectliteType.relation "Implements" ReflectliteType.implements_) Tryz.func316 (by kernel_rfl) (by kernel_rfl) (by kernel_rfl) (by kernel_rfl)
 have h10 := @run_callFunc_extern Tryz.prog 282 _ ReflectliteType.typeOf Tryz.func282 (by kernel_rfl) (by kernel_rfl) (by kernel_rfl) (by kernel_rfl)
 have h35 := @run_callFunc_extern Tryz.prog 313 _ (ReflectliteType.relation "AssignableTo" ReflectliteType.assignableTo) Tryz.func313 (by kernel_rfl) (by kernel_rfl) (by kernel_rfl) (by kernel_rfl)
 have h11 := @run_callFunc_extern Tryz.prog 283 _ (ReflectliteValue.method (ReflectliteValue.valueError "reflectlite.Value.Elem" 0) ReflectliteValue.elem) Tryz.func283 (by kernel_rfl) (by kernel_rfl) (by kernel_rfl) (by kernel_rfl)
 have h12 := @run_callFunc_extern Tryz.prog 284 _ ReflectliteValue.set Tryz.func284 (by kernel_rfl) (by kernel_rfl) (by kernel_rfl) (by kernel_rfl)
 have tO := Tryz.asTypeOfT
 have mA := Tryz.asMethodAssignableTo
 have a25 := Tryz.asAssignableT
 have v25 := Tryz.asValueOfT
 have f6 := Tryz.asValueOfP
 have f7 := Tryz.asTypeP
 have mK := Tryz.asMethodKind
 have mE := Tryz.asMethodElem
 have mI := Tryz.asMethodImplements
 have k27 := Tryz.asKindP
 have k25 := Tryz.asKindT
 have e27 := Tryz.asElemP
 have i25 := Tryz.asImplementsT
 obtain ⟨t', ht'⟩ : ∃ t' : Addr, t' = ⟨t, 0, none⟩ := ⟨_, rfl⟩
 have n8 := Tryz.asIsNilP ⟨w.heap.size, 0, none⟩ ⟨t, 0, none⟩ ((w.alloc (.cells #[.pointer (some ⟨t, 0, none⟩)] 307)).alloc (.cells #[.pointer (some ⟨1, 307, none⟩), .pointer (some ⟨w.heap.size, 0, none⟩), .int .u64 150] 323)) (by simp)
 have hlt : 0 < w.heap.size := World.block_lt_of_cell? _ _ hg
 have hg2 : ((w.alloc (.cells #[.pointer (some ⟨t, 0, none⟩)] 307)).alloc (.cells #[.pointer (some ⟨1, 307, none⟩), .pointer (some ⟨w.heap.size, 0, none⟩), .int .u64 150] 323)).cell? ⟨0, 0, none⟩ = some (.iface 336 (.agg #[.pointer (some ⟨1, 259, none⟩)])) := by
  rw [World.cell?_alloc_lt _ _ ⟨0, 0, none⟩ (by simp <;> omega), World.cell?_alloc_lt _ _ ⟨0, 0, none⟩ hlt]; exact hg
 have htl : t < w.heap.size := (bl ht)
 have el := Tryz.asElemV ⟨w.heap.size, 0, none⟩ ⟨t, 0, none⟩ (((w.alloc (.cells #[.pointer (some ⟨t, 0, none⟩)] 307)).alloc (.cells #[.pointer (some ⟨1, 307, none⟩), .pointer (some ⟨w.heap.size, 0, none⟩), .int .u64 150] 323)).alloc (.cells #[.pointer (some ⟨1, 307, none⟩), .pointer (some ⟨w.heap.size, 0, none⟩), .int .u64 150] 323)) (by rw [World.cell?_alloc_lt _ _ ⟨w.heap.size, 0, none⟩ (by simp <;> omega)]; simp)
 have st := Tryz.asSet t (w.heap.size + 1 + 1 + 1) p q ((((w.alloc (.cells #[.pointer (some ⟨t, 0, none⟩)] 307)).alloc (.cells #[.pointer (some ⟨1, 307, none⟩), .pointer (some ⟨w.heap.size, 0, none⟩), .int .u64 150] 323)).alloc (.cells #[.pointer (some ⟨1, 307, none⟩), .pointer (some ⟨w.heap.size, 0, none⟩), .int .u64 150] 323)).alloc (.cells #[.int .i64 p] 289))
  (by have := heap_alloc_new (((w.alloc (.cells #[.pointer (some ⟨t, 0, none⟩)] 307)).alloc (.cells #[.pointer (some ⟨1, 307, none⟩), .pointer (some ⟨w.heap.size, 0, none⟩), .int .u64 150] 323)).alloc (.cells #[.pointer (some ⟨1, 307, none⟩), .pointer (some ⟨w.heap.size, 0, none⟩), .int .u64 150] 323)) (.cells #[.int .i64 p] 289); simpa using this)
  (by rw [heap_alloc_old _ _ (by simp <;> omega), heap_alloc_old _ _ (by simp <;> omega), heap_alloc_old _ _ (by simp <;> omega), heap_alloc_old _ _ htl]; exact ht)
 have hG : w.grownBy (((((w.alloc (.cells #[.pointer (some ⟨t, 0, none⟩)] 307)).alloc (.cells #[.pointer (some ⟨1, 307, none⟩), .pointer (some ⟨w.heap.size, 0, none⟩), .int .u64 150] 323)).alloc (.cells #[.pointer (some ⟨1, 307, none⟩), .pointer (some ⟨w.heap.size, 0, none⟩), .int .u64 150] 323)).alloc (.cells #[.int .i64 p] 289)).setCell ⟨t, 0, none⟩ (.int .i64 p)) (some t) :=
  Zai (Zai (Zai (Zai (World.grownBy_alloc w _ _) (World.grownBy_alloc _ _ _)) (World.grownBy_alloc _ _ _)) (World.grownBy_alloc _ _ _)) (Zae _ t 0 _)
 clear ht' t' hlt htl ht hg
 go_enter Tryz.func254, Tryz.ntmps254
 go_wp2
 refine wp_loop_rounds 1 ?_
 rw [rounds_succ]
 go_wp2
 go_ret
 exact ⟨rfl, hG⟩
set_option maxHeartbeats 800000 in
theorem Zig (w : World) : Calls Tryz.prog 246 #[.nilIface] w fun e w' => e = .returned (.bool false) /\ Below w.heap.size w w' := by
 go_enter Tryz.func246, Tryz.ntmps246
 go_wp2_with fail
 refine (Zks _ _).mono ?_
 rintro e w1 ⟨rfl, rfl⟩
 go_wp2
 go_ret
 exact ⟨rfl, (Below.refl _ _).alloc (Nat.le_refl _) _⟩
set_option maxHeartbeats 800000 in
theorem ZhF (p : Int) (w : World) (hg : ErrT w) : Calls Tryz.prog 246 #[.iface 289 (.agg #[.int .i64 p])] w fun e w' => e = .returned (.bool true) /\ Below w.heap.size w w' := by
 go_enter Tryz.func246, Tryz.ntmps246
 go_wp2_with fail
 have hB : Below w.heap.size w (w.alloc (Obj.cells #[.int .i64 0] 289)) := (Below.refl _ _).alloc (Nat.le_refl _) _
 refine (Zkr p 0 w.heap.size _ (hg.below hB (Nat.le_refl _)) (heap_alloc_new _ _)).mono ?_
 rintro e w1 ⟨rfl, hgr⟩
 go_wp2
 go_ret
 exact ⟨rfl, hB.grown hgr hB.size (fun k hk => by simp at hk; omega)⟩
end Go.Proofs.YtfmafkebddojjaaGreatDoor
namespace Go.Proofs.YtfmafkebddojjaaGreatDoor
open Go.RowKit
theorem ZiU (a : Nat) (xs : List Nd) (rs : List Int) (hp : Zaq xs = true) (ha : a + (mvN a xs rs).length <= 3000) : ∀ x ∈ mvN a xs rs, NdOk x := by
 have I := Zkd a xs (Zat xs rs) (fun i x h => ZbF hp h) (ZeC xs rs (fun i x h => ZbF hp h))
 intro x hx
 obtain ⟨j, hj⟩ := List.getElem?_of_mem hx
 have hjl : j < (mvN a xs rs).length := (List.getElem?_eq_some_iff.1 hj).1
 exact ZhT (I.ok j x hj) (by omega)
theorem ZgE {xs : List Nd} (h : Zaq xs = true) : xs.length <= 3000 := by simp only [Zaq, Bool.and_eq_true, decide_eq_true_eq] at h; exact h.1
theorem ZdT {xs : List Nd} (h : ∀ x ∈ xs, NdOk x) : ∀ x ∈ xs, x.s.size <= maxLen := fun x hx => by have := (h x hx).2.2.1; unfold maxLen; omega
theorem Zf4 {w : World} {z : Int} {g : Nat} (h : w.heap[g]? = some (.cells #[.int .i64 z] 3 (0, 0))) : IRow w (.slice (some ⟨g, 0, none⟩) 1 1) [z] := by
 refine ⟨_, 1, rfl, ⟨by simp, fun h => by cases h⟩, by simp, fun _ => ⟨g, 0, rfl, (bl h), fun i hi => ?_⟩⟩
 have : i = 0 := by simpa using hi
 subst this
 rw [cell_of_row w _ 0 _ _ _ h]
 rfl
theorem Lies.le {zs L : List Int} {a b : Int} (h : Lies zs a L b) (hl : L ≠ []) : b <= zs.length := by
 obtain ⟨h1, h2, r, h3⟩ := h
 have := congrArg List.length h3
 have hp := List.length_pos_iff.2 hl
 rw [List.length_drop, List.length_append] at this
 omega
theorem Zj0 {x : Int} (h : 0 <= x) : encI x ≠ [] := by
 rw [Zcn x h]
 intro e
 rcases Int.lt_or_le x 128 with h1 | h1
 ·rw [ZaY 8 x h1] at e; cases e
 ·rw [ZbX 8 x (by omega)] at e; cases e
theorem ZjI {zs : List Int} {xs : List Nd} {a b : Int} (hz : ∀ z ∈ zs, 0 <= z /\ z <= 255) (h : rdP zs a = some (xs, b)) : b <= zs.length /\ Zaq xs = true := by
 unfold rdP at h
 rw [Option.bind_eq_some_iff] at h
 obtain ⟨⟨n, a1⟩, h1, h2⟩ := h
 split at h2
 ·cases h2
 rw [Option.bind_eq_some_iff] at h2
 obtain ⟨⟨ys, c⟩, h3, h4⟩ := h2
 split at h4
 ·rename_i hp
  cases h4
  obtain ⟨L1, hn⟩ := Za9 hz h1
  obtain ⟨L2, hl⟩ := Zcq hz n.toNat a1 _ xs (by have := L1.1; have := L1.2.1; omega) h3
  exact ⟨(L1.append L2).le (by intro e; exact Zj0 hn (List.append_eq_nil_iff.1 e).1), hp⟩
 ·cases h4
theorem Zj2 {zs : List Int} (h : rdP zs 0 = none) : vrR zs = none := by unfold vrR; rw [h]; rfl
theorem Zj8 {zs : List Int} {xs : List Nd} {b : Int} (h : rdP zs 0 = some (xs, b)) : vrR zs = if b = zs.length /\ xs ≠ [] /\ allR xs [(xs.length : Int) - 1] = true then some xs else none := by unfold vrR; rw [h]; rfl
def VAns (B : Nat) (zs : List Int) (e : Ending) (w' : World) : Prop :=
 (∃ xs vs, vrR zs = some xs /\ e = .returned (.tuple #[.agg #[vs], .nilIface]) /\ w'.ownsRow B 210 5 vs xs.length (ncs xs)) \/ (vrR zs = none /\ ∃ ao n c p, e = .returned (.tuple #[.agg #[.slice ao n c], badV p]))
set_option maxRecDepth 100000 in
set_option maxHeartbeats 3200000 in
theorem Zhm (v : Value) (zs : List Int) (W0 w : World) (P : Nat) (R : Row W0 v zs) (hb : Below W0.heap.size W0 w) (hP : W0.heap.size <= P) (h1 : One w P 0) :
  Calls Tryz.prog 245 #[.agg #[v, .pointer (some ⟨P, 0, none⟩)]] w fun e w' => w.grownBy w' (some P) /\ VAns w.heap.size zs e w' := by
 obtain ⟨ao, cap, rfl, _, hml, hz, _⟩ := id R
 have hbs := hb.size
 have hPl := h1.lt
 obtain ⟨hB2, x0, x1⟩ := ZaB w (Obj.cells #[Value.slice ao zs.length cap, Value.pointer (some ⟨P, 0, none⟩)] 254) (Obj.cells #[.slice none 0 0] 40)
 go_enter Tryz.func245, Tryz.ntmps245
 go_wp2_with fail
 obtain ⟨W2, hW2⟩ : ∃ W2, (w.alloc (Obj.cells #[Value.slice ao zs.length cap, Value.pointer (some ⟨P, 0, none⟩)] 254)).alloc (Obj.cells #[.slice none 0 0] 40) = W2 := ⟨_, rfl⟩
 rw [hW2] at hB2 x0 x1 ⊢
 have hl1 := (bl x1)
 refine (ZgK _ zs W0 W2 P 0 R (hb.trans (hB2.mono hbs)) hP (h1.below hB2 hPl)).mono ?_
 rintro e w1 ⟨hgr, hans⟩
 have x0 := (hgr.block _ (by omega) (by simp; omega)).trans x0
 have x1 := (hgr.block _ (by omega) (by simp; omega)).trans x1
 have hG1 : w.grownBy w1 (some P) := Zai (ZcY hB2 _) hgr
 have hs1 := hgr.size
 rcases hans with ⟨xs, b, vs, a1, rfl, a3, a4⟩ | ⟨a1, ⟨p, rfl⟩, q, a3⟩
 ·obtain ⟨hbl, hp⟩ := ZjI hz a1
  have hlen := Za0 hp
  obtain ⟨av, cv, rfl⟩ := Zaf a3
  have HV : Hid (vrR zs = if b = zs.length /\ xs ≠ [] /\ allR xs [(xs.length : Int) - 1] = true then some xs else none) := Zj8 a1
  clear hW2 hgr
  have hs2 : (W2.heap.size : Nat) <= w1.heap.size := hs1
  have B1 : Below w1.heap.size w1 (w1.alloc (Obj.cells #[.slice av xs.length cv] 40)) := (Below.refl _ _).alloc (Nat.le_refl _) _
  have y0 := (B1.block _ (by omega)).trans x0
  have y1 := (B1.block _ (by omega)).trans x1
  have r0 : (w1.alloc (Obj.cells #[.slice av xs.length cv] 40)).cell? ⟨w.heap.size + 1, 0, none⟩ = some (.slice none 0 0) := cell_of_row (w1.alloc (Obj.cells #[.slice av xs.length cv] 40)) _ 0 _ _ _ y1
  have rf : (w1.alloc (Obj.cells #[.slice av xs.length cv] 40)).frozen? ⟨w.heap.size + 1, 0, none⟩ = false := frozen_of_row (w1.alloc (Obj.cells #[.slice av xs.length cv] 40)) _ 0 _ _ y1
  have hset : ((w1.alloc (Obj.cells #[.slice av xs.length cv] 40)).setCell ⟨w.heap.size + 1, 0, none⟩ (.slice none 0 0)).heap[w.heap.size + 1]? = some (.cells #[.slice none 0 0] 40 (0, 0)) := heap_setCell_same (w1.alloc (Obj.cells #[.slice av xs.length cv] 40)) (w.heap.size + 1) 0 _ _ (.slice none 0 0) y1
  have hbset : Below (w.heap.size + 1) (w1.alloc (Obj.cells #[.slice av xs.length cv] 40)) ((w1.alloc (Obj.cells #[.slice av xs.length cv] 40)).setCell ⟨w.heap.size + 1, 0, none⟩ (.slice none 0 0)) := (Below.refl _ _).setCell (p := ⟨w.heap.size + 1, 0, none⟩) (Nat.le_refl _) _
  have y4 : (w1.alloc (Obj.cells #[.slice av xs.length cv] 40)).heap[w1.heap.size]? = some (.cells #[.slice av xs.length cv] 40 (0, 0)) := heap_alloc_new _ _
  by_cases hxe : xs = []
  ·have HN : Hid (vrR zs = none) := by unfold Hid; rw [HV.out, if_neg]; intro h; exact h.2.1 hxe
   have h0 : (xs.length : Int) - 1 < 0 := by rw [hxe]; simp
   clear hxe
   go_wp2
   exact bodyPost_ret (Zah rfl _ _ (w.heap.size + 1) 40 _ (0, 0) _ rfl hset Tryz.underlying40 rfl Zlx) rfl ⟨Zak (Zak hG1 B1 hG1.size) hbset (by omega), Or.inr ⟨HN.out, _, _, _, _, rfl⟩⟩
  ·have hpos := List.length_pos_iff.2 hxe
   have h0 : ¬ ((xs.length : Int) - 1 < 0) := by omega
   have BI : Below (w1.alloc (Obj.cells #[.slice av xs.length cv] 40)).heap.size (w1.alloc (Obj.cells #[.slice av xs.length cv] 40)) ((w1.alloc (Obj.cells #[.slice av xs.length cv] 40)).alloc (Obj.cells #[.int .i64 ((xs.length : Int) - 1)] 3)) := (Below.refl _ _).alloc (Nat.le_refl _) _
   have hsA : (w1.alloc (Obj.cells #[.slice av xs.length cv] 40)).heap.size = w1.heap.size + 1 := by simp
   have R3 : NRow w1 (.slice av xs.length cv) xs := NRow.of_own a3 (by omega) (ZdT (Zen hp))
   have RI : IRow ((w1.alloc (Obj.cells #[.slice av xs.length cv] 40)).alloc (Obj.cells #[.int .i64 ((xs.length : Int) - 1)] 3)) (.slice (some ⟨w1.heap.size + 1, 0, none⟩) 1 1) [(xs.length : Int) - 1] := by
    rw [<- hsA]
    exact Zf4 (heap_alloc_new _ _)
   have HK := Zgs _ _ xs [(xs.length : Int) - 1] ((w1.alloc (Obj.cells #[.slice av xs.length cv] 40)).alloc (Obj.cells #[.int .i64 ((xs.length : Int) - 1)] 3)) ((R3.below B1).below BI) RI hp (Zfl hxe)
   obtain ⟨kb, hkb⟩ : ∃ kb, Hid (allR xs [(xs.length : Int) - 1] = kb) := ⟨_, rfl⟩
   rw [hkb.out] at HK
   clear RI hsA
   go_wp2_with fail
   refine HK.mono ?_
   rintro e w4 ⟨rfl, hb4⟩
   have B4 : Below (w1.alloc (Obj.cells #[.slice av xs.length cv] 40)).heap.size (w1.alloc (Obj.cells #[.slice av xs.length cv] 40)) w4 := BI.trans (hb4.mono BI.size)
   have B14 : Below w1.heap.size w1 w4 := B1.trans (B4.mono B1.size)
   have z0 := (B14.block _ (by omega)).trans x0
   have z1 := (B14.block _ (by omega)).trans x1
   have z4 := (bb y4 B4)
   have zP := a4.below B14 a4.lt
   have zo := Zad a3 B14
   have hG4 : w.grownBy w4 (some P) := Zak hG1 B14 hG1.size
   have hs4 := B14.size
   clear HK hb4 BI B4 B14 B1 y0 y1 y4 r0 rf hset hbset
   cases kb with
   | false =>
    have HN : Hid (vrR zs = none) := by unfold Hid; rw [HV.out, if_neg]; intro h; rw [hkb.out] at h; exact absurd h.2.2 (by simp)
    have r0 : w4.cell? ⟨w.heap.size + 1, 0, none⟩ = some (.slice none 0 0) := cell_of_row w4 _ 0 _ _ _ z1
    have rf : w4.frozen? ⟨w.heap.size + 1, 0, none⟩ = false := frozen_of_row w4 _ 0 _ _ z1
    have hset : (w4.setCell ⟨w.heap.size + 1, 0, none⟩ (.slice none 0 0)).heap[w.heap.size + 1]? = some (.cells #[.slice none 0 0] 40 (0, 0)) := heap_setCell_same w4 (w.heap.size + 1) 0 _ _ (.slice none 0 0) z1
    have hbset : Below (w.heap.size + 1) w4 (w4.setCell ⟨w.heap.size + 1, 0, none⟩ (.slice none 0 0)) := (Below.refl _ _).setCell (p := ⟨w.heap.size + 1, 0, none⟩) (Nat.le_refl _) _
    go_wp2
    exact bodyPost_ret (Zah rfl _ _ (w.heap.size + 1) 40 _ (0, 0) _ rfl hset Tryz.underlying40 rfl Zlx) rfl ⟨Zak hG4 hbset (by omega), Or.inr ⟨HN.out, _, _, _, _, rfl⟩⟩
   | true =>
    have HE := Zjo (.slice ao zs.length cap) zs P b w4.drew ⟨ao, cap, rfl⟩ zP
    have q0 : w4.cell? ⟨w.heap.size, 0, none⟩ = some (.slice ao zs.length cap) := cell_of_row w4 _ 0 _ _ _ z0
    have q1 : w4.cell? ⟨w.heap.size, 1, none⟩ = some (.pointer (some ⟨P, 0, none⟩)) := cell_of_row w4 _ 1 _ _ _ z0
    have q4 : w4.cell? ⟨w1.heap.size, 0, none⟩ = some (.slice av xs.length cv) := cell_of_row w4 _ 0 _ _ _ z4
    have r0 : w4.cell? ⟨w.heap.size + 1, 0, none⟩ = some (.slice none 0 0) := cell_of_row w4 _ 0 _ _ _ z1
    have rf : w4.frozen? ⟨w.heap.size + 1, 0, none⟩ = false := frozen_of_row w4 _ 0 _ _ z1
    have SS : ∀ w5 : World, Below w4.heap.size w4 w5 -> (w5.heap[w.heap.size + 1]? = some (.cells #[.slice none 0 0] 40 (0, 0))) /\ (w5.cell? ⟨w1.heap.size, 0, none⟩ = some (.slice av xs.length cv) /\ w5.cell? ⟨w.heap.size, 0, none⟩ = some (.slice ao zs.length cap) /\ w5.cell? ⟨w.heap.size, 1, none⟩ = some (.pointer (some ⟨P, 0, none⟩))) := by
     intro w5 hb5
     have l0 := (bl z0)
     have l1 := (bl z1)
     have l4 := (bl z4)
     have p0 := (hb5.block _ l0).trans z0
     have p1 := (hb5.block _ l1).trans z1
     have p4 := (hb5.block _ l4).trans z4
     exact ⟨p1, cell_of_row w5 _ 0 _ _ _ p4, cell_of_row w5 _ 0 _ _ _ p0, cell_of_row w5 _ 1 _ _ _ p0⟩
    have S6 : ∀ w5 : World, (w5.cell? ⟨w1.heap.size, 0, none⟩ = some (.slice av xs.length cv) /\ w5.cell? ⟨w.heap.size, 0, none⟩ = some (.slice ao zs.length cap) /\ w5.cell? ⟨w.heap.size, 1, none⟩ = some (.pointer (some ⟨P, 0, none⟩))) -> ((w5.setCell ⟨w.heap.size + 1, 0, none⟩ (.slice av xs.length cv)).cell? ⟨w1.heap.size, 0, none⟩ = some (.slice av xs.length cv) /\ (w5.setCell ⟨w.heap.size + 1, 0, none⟩ (.slice av xs.length cv)).cell? ⟨w.heap.size, 0, none⟩ = some (.slice ao zs.length cap) /\ (w5.setCell ⟨w.heap.size + 1, 0, none⟩ (.slice av xs.length cv)).cell? ⟨w.heap.size, 1, none⟩ = some (.pointer (some ⟨P, 0, none⟩))) := by
     rintro w5 ⟨a1, a2, a3⟩
     exact ⟨(World.cell?_of_block (heap_setCell_other w5 ⟨w.heap.size + 1, 0, none⟩ _ _ (by show w1.heap.size ≠ w.heap.size + 1; omega))).trans a1, (World.cell?_of_block (heap_setCell_other w5 ⟨w.heap.size + 1, 0, none⟩ _ _ (by show w.heap.size ≠ w.heap.size + 1; omega))).trans a2, (World.cell?_of_block (heap_setCell_other w5 ⟨w.heap.size + 1, 0, none⟩ _ _ (by show w.heap.size ≠ w.heap.size + 1; omega))).trans a3⟩
    have hd4 : Below w4.heap.size w4 w4.drew := (Below.refl _ _).drew
    go_wp2_with fail
    go_region_held (fun w' => w'.cell? ⟨w1.heap.size, 0, none⟩ = some (.slice av xs.length cv) /\ w'.cell? ⟨w.heap.size, 0, none⟩ = some (.slice ao zs.length cap) /\ w'.cell? ⟨w.heap.size, 1, none⟩ = some (.pointer (some ⟨P, 0, none⟩))) (first | exact s5 | exact s6 | go_keep) (first
     | (go_at_call 209; refine HE.mono ?_; rintro e w5 ⟨r, rfl, hE, hb5⟩; have s5' := SS w5 (hd4.trans (hb5.mono hd4.size)); have s5 := s5'.2; have r5 : w5.cell? ⟨w.heap.size + 1, 0, none⟩ = some (.slice none 0 0) := cell_of_row w5 _ 0 _ _ _ s5'.1; have rf5 : w5.frozen? ⟨w.heap.size + 1, 0, none⟩ = false := frozen_of_row w5 _ 0 _ _ s5'.1; have s6 := S6 w5 s5))
    all_goals
     have hb45 := hd4.trans (hb5.mono hd4.size)
     have hset : (w5.setCell ⟨w.heap.size + 1, 0, none⟩ (.slice av xs.length cv)).heap[w.heap.size + 1]? = some (.cells #[.slice av xs.length cv] 40 (0, 0)) := heap_setCell_same w5 (w.heap.size + 1) 0 _ _ (.slice av xs.length cv) s5'.1
     have hbset : Below (w.heap.size + 1) w5 (w5.setCell ⟨w.heap.size + 1, 0, none⟩ (.slice av xs.length cv)) := (Below.refl _ _).setCell (p := ⟨w.heap.size + 1, 0, none⟩) (Nat.le_refl _) _
     have hGF : w.grownBy (w5.setCell ⟨w.heap.size + 1, 0, none⟩ (.slice av xs.length cv)) (some P) := Zak (Zak hG4 hb45 hG4.size) hbset (by omega)
     have hoF := Zal (ownsRow_setCell_below (Zad zo hb45) (a := ⟨w.heap.size + 1, 0, none⟩) hl1 (.slice av xs.length cv)) (show w.heap.size <= W2.heap.size by omega)
     have HF : Hid ((vrR zs = some xs /\ r = .nilIface) \/ (vrR zs = none /\ ∃ p, r = badV p)) := by
      unfold Hid
      rw [HV.out]
      rcases hE with ⟨e1, e2⟩ | ⟨e1, e2⟩
      ·rw [if_neg (fun h => by have := h.1; omega)]; exact Or.inr ⟨rfl, e2⟩
      ·rw [if_pos ⟨by omega, hxe, hkb.out⟩]; exact Or.inl ⟨rfl, e2⟩
     clear HE SS S6 s5 s5' s6 hE r5 rf5 q0 q1 q4 r0 rf
     go_wp2
     refine bodyPost_ret (Zah rfl _ _ (w.heap.size + 1) 40 _ (0, 0) _ rfl hset Tryz.underlying40 rfl Zlx) rfl ⟨hGF, ?_⟩
     rcases HF.out with ⟨f1, f2⟩ | ⟨f1, p, f2⟩
     ·exact Or.inl ⟨xs, _, f1, by rw [<- f2]; rfl, hoF⟩
     ·exact Or.inr ⟨f1, _, _, _, p, by rw [<- f2]; rfl⟩
 ·have HN : Hid (vrR zs = none) := Zj2 a1
  have B1 : Below w1.heap.size w1 (w1.alloc (Obj.cells #[.slice none 0 0] 40)) := (Below.refl _ _).alloc (Nat.le_refl _) _
  have y1 := (B1.block _ (by omega)).trans x1
  have r0 : (w1.alloc (Obj.cells #[.slice none 0 0] 40)).cell? ⟨w.heap.size + 1, 0, none⟩ = some (.slice none 0 0) := cell_of_row (w1.alloc (Obj.cells #[.slice none 0 0] 40)) _ 0 _ _ _ y1
  have rf : (w1.alloc (Obj.cells #[.slice none 0 0] 40)).frozen? ⟨w.heap.size + 1, 0, none⟩ = false := frozen_of_row (w1.alloc (Obj.cells #[.slice none 0 0] 40)) _ 0 _ _ y1
  have hset : ((w1.alloc (Obj.cells #[.slice none 0 0] 40)).setCell ⟨w.heap.size + 1, 0, none⟩ (.slice none 0 0)).heap[w.heap.size + 1]? = some (.cells #[.slice none 0 0] 40 (0, 0)) := heap_setCell_same (w1.alloc (Obj.cells #[.slice none 0 0] 40)) (w.heap.size + 1) 0 _ _ (.slice none 0 0) y1
  have hbset : Below (w.heap.size + 1) (w1.alloc (Obj.cells #[.slice none 0 0] 40)) ((w1.alloc (Obj.cells #[.slice none 0 0] 40)).setCell ⟨w.heap.size + 1, 0, none⟩ (.slice none 0 0)) := (Below.refl _ _).setCell (p := ⟨w.heap.size + 1, 0, none⟩) (Nat.le_refl _) _
  unfold badV
  go_wp2
  exact bodyPost_ret (Zah rfl _ _ (w.heap.size + 1) 40 _ (0, 0) _ rfl hset Tryz.underlying40 rfl Zlx) rfl ⟨Zak (Zak hG1 B1 hG1.size) hbset (by omega), Or.inr ⟨HN.out, _, _, _, p, rfl⟩⟩
theorem ZaI {P : Program} {fn : Func} {p u u' : Tmp} {ty : TypeId} (h : fn.results = #[.cell p ty, .tmp u, .tmp u']) (tmps : Array Value) (w : World) (g : Nat) (t : TypeId) (cs : Array Value) (fr : Nat × Nat) (d : TypeDesc)
  (hp : tmps.getD p undef = .pointer (some ⟨g, 0, none⟩)) (hg : w.heap[g]? = some (.cells cs t fr))
  (hu : P.underlying ty = some d) (hd : (match d with | .struct _ | .array _ _ => true | _ => false) = true) (hi : (P.info? ty).map (·.size) = some cs.size) :
  (results fn tmps).run P w = .ok (.tuple #[.agg cs, tmps.getD u undef, tmps.getD u' undef]) w := by
 have hp' : tmps[p]?.getD undef = .pointer (some ⟨g, 0, none⟩) := by simpa using hp
 simp [results, h, hp', asAddr, run_loadVar_row w g t ty cs fr d hg hu hd hi]
def vrL (zs : List Int) : List Nd := (vrR zs).getD []
def vrI (zs : List Int) : Int := match vrR zs with | some xs => (xs.length : Int) - 1 | none => 0
def vrB (zs : List Int) : Bool := (vrR zs).isSome
theorem ZjJ {zs : List Int} {xs : List Nd} (h : vrR zs = some xs) : vrL zs = xs /\ vrI zs = (xs.length : Int) - 1 /\ vrB zs = true := by unfold vrL vrI vrB; rw [h]; exact ⟨rfl, rfl, rfl⟩
theorem Zi2 {zs : List Int} (h : vrR zs = none) : vrL zs = [] /\ vrI zs = 0 /\ vrB zs = false := by unfold vrL vrI vrB; rw [h]; exact ⟨rfl, rfl, rfl⟩
theorem Zj5 {zs : List Int} {xs : List Nd} (hz : ∀ z ∈ zs, 0 <= z /\ z <= 255) (h : vrR zs = some xs) : Zaq xs = true /\ xs ≠ [] := by
 unfold vrR at h
 rw [Option.bind_eq_some_iff] at h
 obtain ⟨⟨ys, b⟩, h1, h2⟩ := h
 split at h2
 ·rename_i hc
  cases h2
  exact ⟨(ZjI hz h1).2, hc.2.1⟩
 ·cases h2
def VrAns (B : Nat) (zs : List Int) (e : Ending) (w' : World) : Prop := ∃ v', e = .returned (.tuple #[.agg #[v'], .int .i64 (vrI zs), .bool (vrB zs)]) /\ w'.ownsRow B 210 5 v' (vrL zs).length (ncs (vrL zs))
theorem VrAns.intro {B : Nat} {zs : List Int} {e : Ending} {w' : World} (v' : Value) (h : e = .returned (.tuple #[.agg #[v'], .int .i64 (vrI zs), .bool (vrB zs)])) (k : w'.ownsRow B 210 5 v' (vrL zs).length (ncs (vrL zs))) : VrAns B zs e w' := ⟨v', h, k⟩
set_option maxRecDepth 100000 in
set_option maxHeartbeats 3200000 in
theorem Zg5 (s : ByteArray) (w : World) (hs : s.size <= 140737488351232) (hg : ErrT w) :
  Calls Tryz.prog 230 #[.string s] w fun e w' => VrAns w.heap.size (sb s) e w' /\ Below w.heap.size w w' := by
 have hB0 : Below w.heap.size w (w.alloc (Obj.cells #[.slice none 0 0] 40)) := (Below.refl _ _).alloc (Nat.le_refl _) _
 go_enter Tryz.func230, Tryz.ntmps230
 go_wp2_with fail
 refine (Ze1 s _ hs).mono ?_
 rintro e w1 ⟨v, W0, P, rfl, R, hbW, hb1, hP, hone⟩
 have hs0 : w.heap.size + 1 <= W0.heap.size := by have := hbW.size; simp at this; omega
 have B1 : Below (w.alloc (Obj.cells #[.slice none 0 0] 40)).heap.size (w.alloc (Obj.cells #[.slice none 0 0] 40)) w1 := hbW.trans (hb1.mono hbW.size)
 have x1 := (B1.block w.heap.size (by simp)).trans (heap_alloc_new w _)
 have B01 := hB0.trans (B1.mono hB0.size)
 have hs1 := hb1.size
 obtain ⟨ao, cap, rfl, _⟩ := id R
 go_wp2_with fail
 refine (Zhm _ (sb s) W0 w1 P R hb1 hP hone).mono ?_
 rintro e w2 ⟨hgr, hans⟩
 have x2 := (hgr.block w.heap.size (by omega) (by simp; omega)).trans x1
 have B02 : Below w.heap.size w w2 := B01.grown hgr B01.size (fun k hk => by simp at hk; omega)
 have hs2 := hgr.size
 clear hgr B1 B01 x1 hbW hb1 hone
 rcases hans with ⟨xs, vs, a1, rfl, a3⟩ | ⟨a1, av, n, c, p, rfl⟩
 ·obtain ⟨e1, e2, e3⟩ := ZjJ a1
  have hlen := Za0 (Zj5 (Zjn s) a1).1
  have HA : Hid (vrL (sb s) = xs /\ vrI (sb s) = (xs.length : Int) - 1 /\ vrB (sb s) = true) := ⟨e1, e2, e3⟩
  clear e1 e2 e3 a1
  obtain ⟨av, cv, rfl⟩ := Zaf a3
  have B3 : Below w2.heap.size w2 (w2.alloc (Obj.cells #[.slice av xs.length cv] 40)) := (Below.refl _ _).alloc (Nat.le_refl _) _
  have y4 : (w2.alloc (Obj.cells #[.slice av xs.length cv] 40)).heap[w2.heap.size]? = some (.cells #[.slice av xs.length cv] 40 (0, 0)) := heap_alloc_new _ _
  go_wp2_with fail
  refine (Zig _).mono ?_
  rintro e w4 ⟨rfl, hb4⟩
  have B24 : Below w2.heap.size w2 w4 := B3.trans (hb4.mono B3.size)
  have y4 := (bb y4 hb4)
  have x4 := (bb x2 B24)
  have a4 := Zad a3 B24
  have B04 := B02.trans (B24.mono B02.size)
  have q0 : w4.cell? ⟨w2.heap.size, 0, none⟩ = some (.slice av xs.length cv) := cell_of_row w4 _ 0 _ _ _ y4
  have r0 : w4.cell? ⟨w.heap.size, 0, none⟩ = some (.slice none 0 0) := cell_of_row w4 _ 0 _ _ _ x4
  have rf : w4.frozen? ⟨w.heap.size, 0, none⟩ = false := frozen_of_row w4 _ 0 _ _ x4
  have hne : w2.heap.size ≠ w.heap.size := by omega
  have hset := heap_setCell_same w4 w.heap.size 0 _ _ (.slice av xs.length cv) x4
  have hBF := B04.setCell (p := ⟨w.heap.size, 0, none⟩) (Nat.le_refl _) (.slice av xs.length cv)
  have hoF := Zal (ownsRow_setCell_below a4 (a := ⟨w.heap.size, 0, none⟩) (by show w.heap.size < w1.heap.size; omega) (.slice av xs.length cv)) (show w.heap.size <= w1.heap.size by omega)
  clear hb4 B3 B24 y4 x2 B02 a3 a4
  go_wp2_with fail
  go_region
  all_goals
   go_wp2
   refine bodyPost_ret (ZaI rfl _ _ w.heap.size 40 _ (0, 0) _ rfl hset Tryz.underlying40 rfl Zlx) rfl ⟨VrAns.intro (.slice av xs.length cv) ?_ ?_, hBF.drew⟩
   ·rw [HA.out.2.1, HA.out.2.2]; rfl
   ·rw [HA.out.1]; exact hoF
 ·obtain ⟨e1, e2, e3⟩ := Zi2 a1
  have HA : Hid (vrL (sb s) = [] /\ vrI (sb s) = 0 /\ vrB (sb s) = false) := ⟨e1, e2, e3⟩
  clear e1 e2 e3 a1
  have B3 : Below w2.heap.size w2 (w2.alloc (Obj.cells #[.slice av n c] 40)) := (Below.refl _ _).alloc (Nat.le_refl _) _
  have B03 := B02.trans (B3.mono B02.size)
  go_wp2_with fail
  refine (ZhF p _ (hg.below B03 (Nat.le_refl _))).mono ?_
  rintro e w4 ⟨rfl, hb4⟩
  have B24 : Below w2.heap.size w2 w4 := B3.trans (hb4.mono B3.size)
  have x4 := (bb x2 B24)
  have B04 := B02.trans (B24.mono B02.size)
  have r0 : w4.cell? ⟨w.heap.size, 0, none⟩ = some (.slice none 0 0) := cell_of_row w4 _ 0 _ _ _ x4
  have rf : w4.frozen? ⟨w.heap.size, 0, none⟩ = false := frozen_of_row w4 _ 0 _ _ x4
  have hset := heap_setCell_same w4 w.heap.size 0 _ _ (.slice none 0 0) x4
  have hBF := B04.setCell (p := ⟨w.heap.size, 0, none⟩) (Nat.le_refl _) (.slice none 0 0)
  go_wp2
  refine bodyPost_ret (ZaI rfl _ _ w.heap.size 40 _ (0, 0) _ rfl hset Tryz.underlying40 rfl Zlx) rfl ⟨VrAns.intro (.slice none 0 0) ?_ ?_, hBF⟩
  ·rw [HA.out.2.1, HA.out.2.2]; rfl
  ·rw [HA.out.1]; exact World.ownsRow_nil _ _ _ _
end Go.Proofs.YtfmafkebddojjaaGreatDoor
namespace Go.Proofs.YtfmafkebddojjaaGreatDoor
open Go.RowKit Go.Shelf
attribute [local go_sem] Oper.semAt_some
abbrev Itm (xs : List Nd) : Type := { p : Nat × Nd // xs[p.1]? = some p.2 }
def ienc {xs : List Nd} (p : Itm xs) : Array Value := #[.int .i64 (p.1.1 : Int), .agg #[.int .i64 p.1.2.k, .int .i64 p.1.2.n, .string p.1.2.s, .int .i64 p.1.2.a, .int .i64 p.1.2.b]]
def KpZ (Z : Nat -> Prop) (W W' : World) : Prop := ∀ b, Z b -> W'.heap[b]? = W.heap[b]?
theorem KpZ.trans {Z : Nat -> Prop} {A B C : World} (h : KpZ Z A B) (k : KpZ Z B C) : KpZ Z A C := fun b hb => (k b hb).trans (h b hb)
theorem KpZ.cell {Z : Nat -> Prop} {W W' : World} (h : KpZ Z W W') {p : Addr} (hp : Z p.block) : W'.cell? p = W.cell? p := World.cell?_of_block (w := W) (h p.block hp)
theorem KpZ.lt {Z : Nat -> Prop} {W W' : World} (h : KpZ Z W W') {b : Nat} (hp : Z b) (hb : b < W.heap.size) : b < W'.heap.size := by
 have := h b hp
 rw [Array.getElem?_eq_getElem hb] at this
 exact (bl this)
theorem KpZ.alloc {Z : Nat -> Prop} {W : World} (hZ : ∀ b, Z b -> b < W.heap.size) (o : Obj) : KpZ Z W (W.alloc o) := fun b hb => Below.heap_alloc W o b (hZ b hb)
attribute [local go_sem] Oper.semAt_some
attribute [local go_sem] Oper.semAt_some
end Go.Proofs.YtfmafkebddojjaaGreatDoor
namespace Go.Proofs.YtfmafkebddojjaaGreatDoor
open Go.RowKit
theorem ZdO (k : Int) : (hasA k = true <-> k = 5 \/ k = 6 \/ k = 7) /\ (hasB k = true <-> k = 5) := by
 unfold hasA hasB
 simp only [decide_eq_true_eq]
 exact ⟨trivial, trivial⟩
set_option maxRecDepth 100000 in
set_option maxHeartbeats 1600000 in
theorem Zff (ao : Option Addr) (cap : Nat) (vl : Value) (xs : List Nd) (rs : List Int) (w : World) (R : NRow w (.slice ao xs.length cap) xs) (L : IRow w vl rs) (hp : Zaq xs = true) (hr : allI xs rs = true) :
  Calls Tryz.prog 249 #[.agg #[.slice ao xs.length cap], vl] w fun e w' => ∃ v', e = .returned v' /\ w'.ownsRow w.heap.size 4 1 v' xs.length (vb (Zat xs rs)) /\ Below w.heap.size w w' := by
 have hlen := Za0 hp
 have hB0 : Below w.heap.size w (w.alloc (Obj.cells #[.slice ao xs.length cap] 40)) := (Below.refl _ _).alloc (Nat.le_refl _) _
 have hbx := heap_alloc_new w (Obj.cells #[.slice ao xs.length cap] 40)
 have R0 := R.below hB0
 have L0 := L.below hB0
 clear R L
 have hs0 : (w.alloc (Obj.cells #[.slice ao xs.length cap] 40)).heap.size = w.heap.size + 1 := by simp
 obtain ⟨i0, hi, hz0, hz1, hz2⟩ := info_parts Zld
 have hbytes : i0.bytes * xs.length <= 281474976710656 := by rw [hz2]; omega
 have hmax : xs.length <= maxLen := by unfold maxLen; omega
 go_enter Tryz.func249, Tryz.ntmps249
 go_wp2_with (at_make; refine wpList_make_full _ rfl _ _ 300 rfl (w.heap.size + 1) 4 i0 (.bool false) 1 Tryz.underlying300 hi hz0 hz1 _ _ _ _ xs.length rfl rfl rfl rfl hbytes hmax (by simp) ?_)
 intro w1 hown hgrow
 generalize w.alloc (Obj.cells #[.slice ao xs.length cap] 40) = w0 at *
 have hB1 : Below (w.heap.size + 1) w0 w1 := (Below.refl _ _).grown hgrow (by omega) (by intro k hk; cases hk)
 clear hgrow hbytes hmax
 obtain ⟨al, cl, rfl, hcl, _, hlc⟩ := L0
 go_wp2_with fail
 go_loopw [6] (fun i wr => ∃ (k : Nat) (bs : List Bool), k <= rs.length /\ i = .int .i64 k /\ bs.length = xs.length /\ Hid ((rs.drop k).foldl setB bs = Zde xs.length rs) /\ wr.ownsRow (w.heap.size + 1) 4 1 (.slice (some ⟨w.heap.size + 1, 0, none⟩) xs.length xs.length) xs.length (vb bs) /\ Below (w.heap.size + 1) w0 wr) (fun i _ => rs.length - (intOf i).toNat)
 case atStart => exact ⟨0, List.replicate xs.length false, by omega, rfl, by simp, rfl, by rw [Zij]; exact hown, hB1⟩
 case round =>
  clear hown hB1
  obtain ⟨k, bs, hk, rfl, hbl, HF, hown, hB⟩ := hrel
  by_cases hlt : k < rs.length
  ·obtain ⟨g, o, rfl, hg, hlc⟩ := hlc (by intro e; subst e; simp at hlt)
   have ez := (hB.cell (p := ⟨g, o + k, none⟩) (by simp; omega)).trans (hlc k hlt)
   obtain ⟨h1, h2⟩ := ZfE hr k hlt
   have HF2 : Hid ((rs.drop (k + 1)).foldl setB (setB bs (rs.getD k 0)) = Zde xs.length rs) := (Zes rs bs k hlt).symm.trans HF.out
   generalize rs.getD k 0 = z at ez h1 h2 HF2
   obtain ⟨nz, rfl⟩ := Int.eq_ofNat_of_zero_le h1
   have ec := hown.cellAt nz (by omega)
   rw [Zb3 _ _ (by omega)] at ec
   have ef := hown.frozenAt nz
   have hs := (hown.stored nz (.bool true)).1
   rw [ZdG] at hs
   clear hlc hr HF
   go_wp2
   go_roundw
   case rel => exact ⟨k + 1, setB bs nz, by omega, by go_num, by rw [Zbk, hbl], HF2, hs, hB.setCell (p := ⟨w.heap.size + 1, nz, none⟩) (Nat.le_refl _) _⟩
   case measure => simp [intOf]; omega
  ·have hkx : k = rs.length := by omega
   subst hkx
   have HR : Hid (down xs xs.length bs = Zat xs rs) := by
    have := HF.out
    rw [List.drop_length, List.foldl_nil] at this
    rw [this]
    rfl
   clear HF hk hlt hlc hr
   have ep := (hB.cell (p := ⟨w.heap.size, 0, none⟩) (by simp)).trans ((cell_of_row w0 _ 0 _ _ _ hbx).trans rfl)
   have hBw : w.heap.size + 1 < wr.heap.size := (hown.lt _ rfl).2
   go_wp2_with fail
   go_loopw [7] (fun i wq => ∃ (k : Nat) (cs : List Bool), k <= xs.length /\ i = .int .i64 ((k : Int) - 1) /\ cs.length = xs.length /\ Hid (down xs k cs = Zat xs rs) /\ wq.ownsRow (w.heap.size + 1) 4 1 (.slice (some ⟨w.heap.size + 1, 0, none⟩) xs.length xs.length) xs.length (vb cs) /\ Below (w.heap.size + 1) w0 wq) (fun i _ => (intOf i + 1).toNat)
   case atStart => exact ⟨xs.length, bs, Nat.le_refl _, rfl, hbl, HR, hown, hB⟩
   case round =>
    clear hown hB HR hbl ep hBw
    clear bs
    obtain ⟨k, bs, hk, rfl, hbl, HR, hown, hB⟩ := hrel
    have ep := (hB.cell (p := ⟨w.heap.size, 0, none⟩) (by simp)).trans ((cell_of_row w0 _ 0 _ _ _ hbx).trans rfl)
    have hBw : w.heap.size + 1 < wr.heap.size := (hown.lt _ rfl).2
    rcases Nat.eq_zero_or_pos k with rfl | hpos
    ·have HQ : Hid (bs = Zat xs rs) := HR
     clear HR
     go_wp2
     go_ret
     rw [HQ.out] at hown
     exact ⟨_, rfl, Zal hown (by omega), hB0.trans (hB.mono (by omega))⟩
    ·obtain ⟨j, rfl⟩ : ∃ j, k = j + 1 := ⟨k - 1, by omega⟩
     rw [show ((j + 1 : Nat) : Int) - 1 = (j : Int) by omega]
     obtain ⟨ao', cap', e', _, _, hz, hcell⟩ := R0
     simp only [Value.slice.injEq, true_and] at e'
     obtain ⟨rfl, rfl⟩ := e'
     obtain ⟨g, o, rfl, hg, hcell⟩ := hcell (by intro e; subst e; simp at hk)
     obtain ⟨x, hx⟩ : ∃ x, xs[j]? = some x := ⟨xs[j], by simp⟩
     obtain ⟨c0, c1, c2, c3, c4⟩ := (hcell j x hx).below hB (by rw [hs0] at hg; exact hg)
     have hnb := ZbF hp hx
     have hkd := ZdO x.k
     have HD : Hid (down xs j (Zan x (bs.getD j false) bs) = Zat xs rs) := (Zeh xs bs j x hx).symm.trans HR.out
     have hA : hasA x.k = true -> 0 <= x.a /\ x.a < (j : Int) := fun h => ZbM hnb h
     have hBb : hasB x.k = true -> 0 <= x.b /\ x.b < (j : Int) := fun h => ZbQ hnb h
     clear hcell hx HR hnb
     have hne4 : w.heap.size + 1 ≠ wr.heap.size := by omega
     have e0 := hown.cellAt j (by omega)
     rw [Zb3 _ _ (by omega)] at e0
     cases hb : bs.getD j false with
     | false =>
      rw [hb] at e0 HD
      have HE : Hid (Zan x false bs = bs) := by unfold Hid Zan; simp
      clear hA hBb hb
      go_wp2
      refine ⟨⟨j, bs, by omega, by go_num, hbl, by rw [HE.out] at HD; exact HD, hown.alloc _, hB.alloc (by omega) _⟩, by simp [intOf]⟩
     | true =>
      rw [hb] at e0 HD
      clear hb
      cases hAk : hasA x.k with
      | false =>
       have hBk : hasB x.k = false := by
        unfold hasA at hAk; unfold hasB
        simp only [decide_eq_false_iff_not] at hAk ⊢
        omega
       rw [hAk, hBk] at hkd
       have k5 : (x.k == 5) = false := by simp; intro e; have := hkd.2.2 e; cases this
       have k6 : (x.k == 6) = false := by simp; intro e; have := hkd.1.2 (Or.inr (Or.inl e)); cases this
       have k7 : (x.k == 7) = false := by simp; intro e; have := hkd.1.2 (Or.inr (Or.inr e)); cases this
       have HE : Hid (Zan x true bs = bs) := by unfold Hid Zan; rw [hAk, hBk]; simp
       clear hA hBb hkd
       go_wp2
       refine ⟨⟨j, bs, by omega, by go_num, hbl, by rw [HE.out] at HD; exact HD, hown.alloc _, hB.alloc (by omega) _⟩, by simp [intOf]⟩
      | true =>
       obtain ⟨ha1, ha2⟩ := hA hAk
       obtain ⟨na, hna⟩ := Int.eq_ofNat_of_zero_le ha1
       rw [hna] at c3 ha2
       have e1 := hown.cellAt na (by omega)
       rw [Zb3 _ _ (by omega)] at e1
       have f1 := hown.frozenAt na
       have hs1 := (hown.stored na (.bool true)).1
       rw [ZdG] at hs1
       have hnj : na ≠ j := by omega
       have hB5 := hB.setCell (p := ⟨w.heap.size + 1, na, none⟩) (Nat.le_refl _) (.bool true)
       cases hBk : hasB x.k with
       | false =>
        rw [hAk, hBk] at hkd
        have k5 : (x.k == 5) = false := by simp; intro e; have := hkd.2.2 e; cases this
        have HE : Hid (Zan x true bs = bs.set na true) := by unfold Hid Zan setB; rw [hAk, hBk, hna]; simp
        clear hA hBb
        rcases hkd.1.1 rfl with h5 | h6 | h7
        ·rw [h5] at k5; cases k5
        ·rw [h6] at c0
         clear hkd k5
         go_wp2
         refine ⟨⟨j, bs.set na true, by omega, by go_num, by simpa using hbl, by rw [HE.out] at HD; exact HD, hs1.alloc _, hB5.alloc (by simp; omega) _⟩, by simp [intOf]⟩
        ·rw [h7] at c0
         clear hkd k5
         go_wp2
         refine ⟨⟨j, bs.set na true, by omega, by go_num, by simpa using hbl, by rw [HE.out] at HD; exact HD, hs1.alloc _, hB5.alloc (by simp; omega) _⟩, by simp [intOf]⟩
       | true =>
        have h5 := hkd.2.1 hBk
        rw [h5] at c0
        obtain ⟨hb1, hb2⟩ := hBb hBk
        obtain ⟨nb', hnb'⟩ := Int.eq_ofNat_of_zero_le hb1
        rw [hnb'] at c4 hb2
        have HE : Hid (Zan x true bs = (bs.set na true).set nb' true) := by unfold Hid Zan setB; rw [hAk, hBk, hna, hnb']; simp
        have e2 := hs1.cellAt nb' (by omega)
        rw [Zb3 _ _ (by simp; omega)] at e2
        have f2 := hs1.frozenAt nb'
        have hs2 := (hs1.stored nb' (.bool true)).1
        rw [ZdG] at hs2
        have hB6 := hB5.setCell (p := ⟨w.heap.size + 1, nb', none⟩) (Nat.le_refl _) (.bool true)
        clear hA hBb hkd
        go_wp2
        refine ⟨⟨j, (bs.set na true).set nb' true, by omega, by go_num, by simpa using hbl, by rw [HE.out] at HD; exact HD, hs2.alloc _, hB6.alloc (by simp; omega) _⟩, by simp [intOf]⟩
end Go.Proofs.YtfmafkebddojjaaGreatDoor
