/-
  Texts that stood by themselves, laid into one.
-/
import Derived.Test.YtaojlmoppbknbaaGreatDoorSR8M
import Derived.Test.YtaojlmoppbknbaaGreatDoorRcWhyM
import Derived.Test.YtaojlmoppbknbaaGreatDoorRNodesM
import Derived.Test.YtaojlmoppbknbaaGreatDoorMv1M
import Derived.Test.YtaojlmoppbknbaaGreatDoorFormM
import Derived.LaidEql
import Derived.Stop.Asserts
import Derived.RowKitTokens
/-
  When what is read of bytes is a value: plain mathematics. Both ways of asking whether nothing else is there come to the same. No condition.
-/
namespace Go.Proofs.YtaojlmoppbknbaaGreatDoor
open Go.RowKit

theorem its_full (xs : List Nd) (bs : List Bool) (k : Nat) (h : (its xs bs k).length = xs.length) : ∀ i, i < xs.length → bs.getD (k + i) false = true := by
  induction xs generalizing k with
  | nil => intro i hi; simp at hi
  | cons x xs ih =>
    have hle := its_len xs bs (k + 1)
    simp only [its] at h
    split at h
    · rename_i hb
      simp only [List.length_cons, Nat.add_right_cancel_iff] at h
      intro i hi
      cases i with
      | zero => exact hb
      | succ i => rw [show k + (i + 1) = k + 1 + i by omega]; exact ih (k + 1) h i (by simpa using hi)
    · simp at h; omega
/-- Whether all is reached from the roots. -/
def allR (xs : List Nd) (rs : List Int) : Bool := !(reachL xs rs).contains false
theorem allR_iff (xs : List Nd) (rs : List Int) : allR xs rs = true ↔ ∀ i, i < xs.length → (reachL xs rs).getD i false = true := by
  unfold allR
  rw [Bool.not_eq_true', ← Bool.not_eq_true, List.contains_iff_mem]
  constructor
  · intro h i hi
    rw [List.getD_eq_getElem?_getD, List.getElem?_eq_getElem (by rw [reachL_length]; exact hi)]
    cases hb : (reachL xs rs)[i]'(by rw [reachL_length]; exact hi) with
    | true => rfl
    | false => exact absurd (by rw [← hb]; exact List.getElem_mem _) h
  · intro h hm
    obtain ⟨i, hi, he⟩ := List.getElem_of_mem hm
    have := h i (by rw [← reachL_length xs rs]; exact hi)
    rw [List.getD_eq_getElem?_getD, List.getElem?_eq_getElem hi, he] at this
    cases this
/-- Written again it is the same just where all is reached. -/
theorem again_iff (xs : List Nd) (rs : List Int) (hp : poolB xs = true) (hr : allI xs rs = true) : wireL (mvN 0 xs rs) = wireL xs ↔ allR xs rs = true := by
  rw [allR_iff]
  have hl := poolB_len hp
  constructor
  · intro h
    have hm := mvN_len 0 xs rs
    have e : ((mvN 0 xs rs).length : Int) = (xs.length : Int) := encI_head (by omega) (by omega) (by omega) (by omega) h
    have e2 : (its xs (reachL xs rs) 0).length = xs.length := by
      have : (mvN 0 xs rs).length = (its xs (reachL xs rs) 0).length := (mvF_len _ _ _).1
      omega
    intro i hi
    have := its_full xs (reachL xs rs) 0 e2 i hi
    rwa [Nat.zero_add] at this
  · intro h
    rw [(keep_same xs rs hp hr h).1]
/-- What is read of bytes as a value. -/
def vrR (zs : List Int) : Option (List Nd) :=
  (rdP zs 0).bind fun q => if q.2 = zs.length ∧ q.1 ≠ [] ∧ allR q.1 [(q.1.length : Int) - 1] = true then some q.1 else none
theorem last_in {xs : List Nd} (h : xs ≠ []) : allI xs [(xs.length : Int) - 1] = true := by
  have := List.length_pos_iff.2 h
  simp [allI, hasI]
  omega
/-- As the specification asks. -/
theorem vrR_spec (zs : List Int) (hz : ∀ z ∈ zs, 0 ≤ z ∧ z ≤ 255) (xs : List Nd) : vrR zs = some xs ↔ (sOk zs 0 true = true ∧ (sP zs 0 true).1 = xs) ∧ xs ≠ [] ∧ wireL (mvN 0 xs [(xs.length : Int) - 1]) = zs := by
  rw [sP_rdP]
  unfold vrR
  rw [Option.bind_eq_some_iff]
  constructor
  · rintro ⟨⟨ys, b⟩, h1, h2⟩
    split at h2
    · rename_i hc
      cases h2
      obtain ⟨c1, c2, c3⟩ := hc
      simp only at c1 c2 c3
      subst c1
      obtain ⟨hp, hw⟩ := rdP_wire hz h1
      exact ⟨h1, c2, ((again_iff ys _ hp (last_in c2)).2 c3).trans hw⟩
    · cases h2
  · rintro ⟨h1, h2, h3⟩
    obtain ⟨hp, hw⟩ := rdP_wire hz h1
    refine ⟨_, h1, ?_⟩
    rw [if_pos ⟨rfl, h2, (again_iff xs _ hp (last_in h2)).1 (h3.trans hw.symm)⟩]
end Go.Proofs.YtaojlmoppbknbaaGreatDoor

/-
  Contracts of slices.Contains of bools, (impl.Pool).isKept and (impl.reader).end. No condition but that the pool is right.
-/
namespace Go.Proofs.YtaojlmoppbknbaaGreatDoor
open Go.RowKit

set_option maxHeartbeats 800000 in
theorem bindex_any (v : Value) (bs : List Bool) (w : World) (R : BRow w v bs) (hl : bs.length ≤ 4194304) :
    Calls Tryz.prog 115 #[v, .bool false] w fun e w' => ∃ r : Int, e = .returned (.int .i64 r) ∧ (0 ≤ r ↔ false ∈ bs) ∧ w' = w := by
  obtain ⟨ao, cap, rfl, _, _, hcell⟩ := R
  go_enter Tryz.func115, Tryz.ntmps115
  go_wp2_with fail
  go_loopw [8] (fun i wr => ∃ k : Nat, k ≤ bs.length ∧ i = .int .i64 k ∧ Hid (∀ j, j < k → bs[j]? = some true) ∧ wr = w) (fun i _ => bs.length - (intOf i).toNat)
  case atStart => exact ⟨0, by omega, rfl, fun j hj => by omega, rfl⟩
  case round =>
    obtain ⟨k, hk, rfl, HA, rfl⟩ := hrel
    by_cases hlt : k < bs.length
    · obtain ⟨g, o, rfl, hg, hcell⟩ := hcell (by intro e; subst e; simp at hlt)
      have hc := hcell k hlt
      clear hcell
      obtain ⟨b, hb⟩ : ∃ b, bs[k]? = some b := ⟨bs[k], by simp [hlt]⟩
      rw [show bs.getD k false = b by simp [List.getD, hb]] at hc
      cases b with
      | false =>
        have hm : false ∈ bs := List.mem_of_getElem? hb
        go_wp2
        go_ret
        exact ⟨k, rfl, ⟨fun _ => hm, fun _ => by omega⟩, rfl⟩
      | true =>
        have HA2 : Hid (∀ j, j < k + 1 → bs[j]? = some true) := fun j hj => by
          rcases Nat.lt_or_ge j k with h | h
          · exact HA.out j h
          · obtain rfl : j = k := by omega
            exact hb
        go_wp2
        go_roundw
        case rel => exact ⟨k + 1, by omega, by go_num, HA2, by trivial⟩
        case measure => simp [intOf]; omega
    · have hke : k = bs.length := by omega
      subst hke
      have hm : false ∉ bs := fun h => by
        obtain ⟨j, hj, he⟩ := List.getElem_of_mem h
        have := HA.out j hj
        rw [List.getElem?_eq_getElem hj, he] at this
        cases this
      go_wp2
      go_ret
      exact ⟨-1, rfl, ⟨fun h => by omega, fun h => absurd h hm⟩, rfl⟩
set_option maxHeartbeats 800000 in
theorem bcontains_any (v : Value) (bs : List Bool) (w : World) (R : BRow w v bs) (hl : bs.length ≤ 4194304) :
    Calls Tryz.prog 76 #[v, .bool false] w fun e w' => e = .returned (.bool (bs.contains false)) ∧ w' = w := by
  go_enter Tryz.func76, Tryz.ntmps76
  go_wp2_with fail
  refine (bindex_any v bs w R hl).mono ?_
  rintro e w1 ⟨r, rfl, hr, rfl⟩
  have HE : Hid (bs.contains false = decide (0 ≤ r)) := by
    unfold Hid
    rw [Bool.eq_iff_iff, List.contains_iff_mem, decide_eq_true_eq]
    exact hr.symm
  clear hr
  go_wp2
  go_ret
  exact ⟨by rw [HE.out]; rfl, rfl⟩
set_option maxHeartbeats 800000 in
theorem iskept_any (v vl : Value) (xs : List Nd) (rs : List Int) (w : World) (R : NRow w v xs) (L : IRow w vl rs) (hp : poolB xs = true) (hr : allI xs rs = true) :
    Calls Tryz.prog 48 #[.agg #[v], vl] w fun e w' => e = .returned (.bool (allR xs rs)) ∧ Below w.heap.size w w' := by
  obtain ⟨ao, cap, rfl, _⟩ := id R
  have hlen := poolB_len hp
  have hB0 : Below w.heap.size w (w.alloc (Obj.cells #[.slice ao xs.length cap] 32)) := (Below.refl _ _).alloc (Nat.le_refl _) _
  go_enter Tryz.func48, Tryz.ntmps48
  go_wp2_with fail
  refine (hungon_any ao cap vl xs rs _ (R.below hB0) (L.below hB0) hp hr).mono ?_
  rintro e w1 ⟨v1, rfl, ho, hb1⟩
  have hB1 := hB0.trans (hb1.mono hB0.size)
  have hrl := reachL_length xs rs
  have HL : Hid ((reachL xs rs).length = xs.length) := hrl
  rw [← hrl] at ho
  have RB := BRow.of_own ho (by omega)
  clear hrl
  have HC := bcontains_any v1 (reachL xs rs) _ RB (by rw [HL.out]; omega)
  obtain ⟨cb, hcb⟩ : ∃ cb, Hid ((reachL xs rs).contains false = cb) := ⟨_, rfl⟩
  rw [hcb.out] at HC
  have HA : Hid (allR xs rs = !cb) := by unfold Hid allR; rw [hcb.out]
  clear hcb
  go_wp2_with fail
  refine HC.mono ?_
  rintro e w2 ⟨rfl, rfl⟩
  go_wp2
  go_ret
  exact ⟨by rw [HA.out]; rfl, hB1⟩
/-- Whether all was read. -/
def EndAns (b : Int) (n : Nat) (r : Value) : Prop := (b < n ∧ ∃ p, r = badV p) ∨ (¬ b < n ∧ r = .nilIface)
set_option maxHeartbeats 800000 in
theorem rend_any (v : Value) (zs : List Int) (P : Nat) (b : Int) (w : World) (R : ∃ ao cap, v = .slice ao zs.length cap) (h1 : One w P b) :
    Calls Tryz.prog 50 #[.agg #[v, .pointer (some ⟨P, 0, none⟩)]] w fun e w' => ∃ r, e = .returned r ∧ EndAns b zs.length r ∧ Below w.heap.size w w' := by
  obtain ⟨ao, cap, rfl⟩ := R
  have hB0 : Below w.heap.size w (w.alloc (Obj.cells #[Value.slice ao zs.length cap, Value.pointer (some ⟨P, 0, none⟩)] 66)) := (Below.refl _ _).alloc (Nat.le_refl _) _
  have h2 := h1.below hB0 h1.lt
  have hc := h2.cell
  obtain ⟨W, hW⟩ : ∃ W, w.alloc (Obj.cells #[Value.slice ao zs.length cap, Value.pointer (some ⟨P, 0, none⟩)] 66) = W := ⟨_, rfl⟩
  have hx : W.heap[w.heap.size]? = some (.cells #[Value.slice ao zs.length cap, Value.pointer (some ⟨P, 0, none⟩)] 66 (0, 0)) := by rw [← hW]; exact heap_alloc_new _ _
  rw [hW] at hB0 h2 hc
  have b0 : W.cell? ⟨w.heap.size, 0, none⟩ = some (.slice ao zs.length cap) := cell_of_row W _ 0 _ _ _ hx
  have b1 : W.cell? ⟨w.heap.size, 1, none⟩ = some (.pointer (some ⟨P, 0, none⟩)) := cell_of_row W _ 1 _ _ _ hx
  go_enter Tryz.func50, Tryz.ntmps50
  go_wp2_with fail
  go_quiet (fail)
  by_cases hlt : b < zs.length
  · have HE : ∀ p, EndAns b zs.length (badV p) := fun p => Or.inl ⟨hlt, p, rfl⟩
    go_wp2
    go_ret
    exact ⟨_, rfl, HE _, hB0.trans ⟨rfl, rfl, rfl, Nat.le_refl _, fun _ _ => rfl⟩⟩
  · have HE : EndAns b zs.length .nilIface := Or.inr ⟨hlt, rfl⟩
    go_wp2
    go_ret
    exact ⟨_, rfl, HE, hB0.trans ⟨rfl, rfl, rfl, Nat.le_refl _, fun _ _ => rfl⟩⟩
end Go.Proofs.YtaojlmoppbknbaaGreatDoor

/-
  errors.As at a target that is a struct of one number (impl.badBytes): false of nil, true of such an error; and the contract of impl.isBadBytes. The variable errors.errorType reads as it is laid.
-/
namespace Go.Proofs.YtaojlmoppbknbaaGreatDoor
open Go.RowKit Go.Extern.Stop Go.Stop Go.Extern

theorem as_nil (t : Value) (w : World) :
    Calls Tryz.prog 51 #[.nilIface, t] w fun e w' => e = .returned (.bool false) ∧ w' = w := by
  go_enter Tryz.func51, Tryz.ntmps51
  go_wp2
  go_ret
  exact ⟨rfl, rfl⟩

theorem Tryz.asValueOfP (t : Addr) (w : World) : (ReflectliteValue.unpack (.iface 109 (.pointer (some t)))).run Tryz.prog w
    = .ok (.agg #[.pointer (some ⟨1, 109, none⟩), .pointer (some ⟨w.heap.size, 0, none⟩), .int .u64 150]) (w.alloc (.cells #[.pointer (some t)] 109)) := by kernel_rfl
theorem Tryz.asTypeP (a : Addr) (w : World) : (ReflectliteValue.methodAny (ReflectliteValue.valueError "reflectlite.Value.Type" 0) (fun t _ _ _ => ReflectliteType.toType t) #[.agg #[.pointer (some ⟨1, 109, none⟩), .pointer (some a), .int .u64 150]]).run Tryz.prog w
    = .ok (.iface 178 (.agg #[.pointer (some ⟨1, 109, none⟩)])) w := by kernel_rfl
theorem Tryz.asMethodKind (h : Value) (w : World) : (Go.method 332 178 (.agg #[h]) "Kind").run Tryz.prog w = .ok (154, h) w := by kernel_rfl
theorem Tryz.asKindP (w : World) : ((ReflectliteType.abiMethod fun t => (fun a : Nat => Value.int IntKind.u8 (a : Int)) <$> Rtype.kind t) #[.pointer (some ⟨1, 109, none⟩)]).run Tryz.prog w = .ok (.int .u8 22) w := by kernel_rfl
theorem Tryz.asKindT (w : World) : ((ReflectliteType.abiMethod fun t => (fun a : Nat => Value.int IntKind.u8 (a : Int)) <$> Rtype.kind t) #[.pointer (some ⟨1, 106, none⟩)]).run Tryz.prog w = .ok (.int .u8 25) w := by kernel_rfl
theorem rlm (z : Sem Value) (f : TypeId → Addr → Nat → Nat → Sem Value) (v : Value) :
    ReflectliteValue.method z f #[v] = (do match ← ReflectliteValue.parts v with | none => z | some (t, a, fl) => f t a fl (fl % 32)) := rfl
theorem Tryz.asPartsP (a : Addr) (w : World) : (ReflectliteValue.parts (.agg #[.pointer (some ⟨1, 109, none⟩), .pointer (some a), .int .u64 150])).run Tryz.prog w = .ok (some (109, a, 150)) w := by kernel_rfl
theorem Tryz.asIsNilP (a p : Addr) (W : World) (ha : W.cell? a = some (.pointer (some p))) :
    (ReflectliteValue.method (ReflectliteValue.valueError "reflectlite.Value.IsNil" 0) ReflectliteValue.isNil #[.agg #[.pointer (some ⟨1, 109, none⟩), .pointer (some a), .int .u64 150]]).run Tryz.prog W = .ok (.bool false) W := by
  rw [rlm]
  simp only [Sem.run_bind, Tryz.asPartsP, Result.andThen]
  simp [ReflectliteValue.isNil, loadVar, isAgg, underlying, Tryz.underlying109, ha, Result.andThen]
theorem Tryz.asMethodElem (h : Value) (w : World) : (Go.method 332 178 (.agg #[h]) "Elem").run Tryz.prog w = .ok (165, .agg #[h]) w := by kernel_rfl
theorem Tryz.asMethodImplements (h : Value) (w : World) : (Go.method 332 178 (.agg #[h]) "Implements").run Tryz.prog w = .ok (166, .agg #[h]) w := by kernel_rfl
theorem Tryz.asMethodAssignableTo (h : Value) (w : World) : (Go.method 332 178 (.agg #[h]) "AssignableTo").run Tryz.prog w = .ok (163, .agg #[h]) w := by kernel_rfl
theorem Tryz.asElemP (w : World) : (ReflectliteType.method ReflectliteType.elem #[.agg #[.pointer (some ⟨1, 109, none⟩)]]).run Tryz.prog w = .ok (.iface 178 (.agg #[.pointer (some ⟨1, 106, none⟩)])) w := by kernel_rfl
theorem Tryz.asImplementsT (w : World) : (ReflectliteType.relation "Implements" ReflectliteType.implements_ #[.agg #[.pointer (some ⟨1, 106, none⟩)], .iface 178 (.agg #[.pointer (some ⟨1, 62, none⟩)])]).run Tryz.prog w = .ok (.bool true) w := by kernel_rfl
theorem Tryz.asTypeOfT (v : Value) (w : World) : (ReflectliteType.typeOf #[.iface 106 v]).run Tryz.prog w = .ok (.iface 178 (.agg #[.pointer (some ⟨1, 106, none⟩)])) w := by kernel_rfl
theorem Tryz.asAssignableT (w : World) : (ReflectliteType.relation "AssignableTo" ReflectliteType.assignableTo #[.agg #[.pointer (some ⟨1, 106, none⟩)], .iface 178 (.agg #[.pointer (some ⟨1, 106, none⟩)])]).run Tryz.prog w = .ok (.bool true) w := by kernel_rfl
theorem Tryz.asValueOfT (p : Int) (w : World) : (ReflectliteValue.unpack (.iface 106 (.agg #[.int .i64 p]))).run Tryz.prog w
    = .ok (.agg #[.pointer (some ⟨1, 106, none⟩), .pointer (some ⟨w.heap.size, 0, none⟩), .int .u64 153]) (w.alloc (.cells #[.int .i64 p] 106)) := by kernel_rfl
theorem Tryz.asElemOfP (w : World) : (Rtype.elem? 109).run Tryz.prog w = .ok (some 106) w := by kernel_rfl
theorem Tryz.asMkT (p : Addr) (w : World) : (ReflectliteValue.mk 106 p ReflectliteValue.flagAddr).run Tryz.prog w = .ok (.agg #[.pointer (some ⟨1, 106, none⟩), .pointer (some p), .int .u64 409]) w := by kernel_rfl
theorem Tryz.asElemV (a p : Addr) (W : World) (ha : W.cell? a = some (.pointer (some p))) :
    (ReflectliteValue.method (ReflectliteValue.valueError "reflectlite.Value.Elem" 0) ReflectliteValue.elem #[.agg #[.pointer (some ⟨1, 109, none⟩), .pointer (some a), .int .u64 150]]).run Tryz.prog W
      = .ok (.agg #[.pointer (some ⟨1, 106, none⟩), .pointer (some p), .int .u64 409]) W := by
  rw [rlm]
  simp only [Sem.run_bind, Tryz.asPartsP, Result.andThen]
  simp [ReflectliteValue.elem, loadVar, isAgg, underlying, Tryz.underlying109, ha, Result.andThen, Tryz.asElemOfP, Tryz.asMkT]
theorem Tryz.asPartsA (a : Addr) (w : World) : (ReflectliteValue.parts (.agg #[.pointer (some ⟨1, 106, none⟩), .pointer (some a), .int .u64 409])).run Tryz.prog w = .ok (some (106, a, 409)) w := by kernel_rfl
theorem Tryz.asPartsT (a : Addr) (w : World) : (ReflectliteValue.parts (.agg #[.pointer (some ⟨1, 106, none⟩), .pointer (some a), .int .u64 153])).run Tryz.prog w = .ok (some (106, a, 153)) w := by kernel_rfl
theorem Tryz.asDirect (w : World) : (Rtype.directlyAssignable 106 106).run Tryz.prog w = .ok true w := by kernel_rfl
theorem Tryz.asSize (w : World) : (sizeOf 106).run Tryz.prog w = .ok 1 w := by kernel_rfl
end Go.Proofs.YtaojlmoppbknbaaGreatDoor
