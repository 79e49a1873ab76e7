/-
  errors.Is by its contracts, where the target is the error of what is no line: of nil, of itself, of what errors.Join makes of it. No condition.
-/
import Derived.Test.YtkoiccocgejmcaaDoorIDp4
namespace Go.Proofs.YtkoiccocgejmcaaDoor
open Go.RowKit Go.Extern.Stop Go.Stop Go.Extern

theorem Tryd.isTypeOf (v : Value) (w : World) : (ReflectliteType.typeOf #[.iface 115 v]).run Tryd.prog w = .ok (.iface 63 (.agg #[.pointer (some ⟨8, 115, none⟩)])) w := by kernel_rfl
theorem Tryd.isComparable (w : World) : ((ReflectliteType.method fun t => do Rtype.noPackHeld "Comparable" t; (fun a => Value.bool a.comparable) <$> typeInfo t) #[.agg #[.pointer (some ⟨8, 115, none⟩)]]).run Tryd.prog w = .ok (.bool true) w := by kernel_rfl
theorem Tryd.isMethodComparable (v : Value) (w : World) : (Go.method 250 63 v "Comparable").run Tryd.prog w = .ok (84, v) w := by kernel_rfl
theorem Tryd.isComp : (Tryd.prog.info? 115).map (·.comparable) = some true := by kernel_rfl
theorem Tryd.isSize : (Tryd.prog.info? 117).map (·.size) = some 1 := by kernel_rfl
theorem Tryd.noIsJ (v : Value) (xT : TypeId) (w : World) : (Instr.typeAssert (.iface 92 v) xT 65 true).run Tryd.prog w = .ok (.tuple #[.nilIface, .bool false]) w := run_typeAssert_lacksB Tryd.underlying65 (by kernel_rfl) (by kernel_rfl) v xT w
theorem Tryd.noUnwrapJ (v : Value) (xT : TypeId) (w : World) : (Instr.typeAssert (.iface 92 v) xT 68 true).run Tryd.prog w = .ok (.tuple #[.nilIface, .bool false]) w := run_typeAssert_lacksB Tryd.underlying68 (by kernel_rfl) (by kernel_rfl) v xT w
theorem Tryd.hasUnwrapsJ (v : Value) (xT : TypeId) (w : World) : (Instr.typeAssert (.iface 92 v) xT 70 true).run Tryd.prog w = .ok (.tuple #[.iface 92 v, .bool true]) w := run_typeAssert_hasB Tryd.underlying70 (by kernel_rfl) v xT w
theorem Tryd.methodUnwrapJ (v : Value) (w : World) : (Go.method 250 92 v "Unwrap").run Tryd.prog w = .ok (94, v) w := by kernel_rfl

theorem is2_same (a : Addr) (w : World) :
    Calls Tryd.prog 27 #[NL a, NL a, .bool true] w fun e w' => e = .returned (.bool true) ∧ w' = w := by
  obtain ⟨i, hi, hcmp⟩ := Option.map_eq_some_iff.1 Tryd.isComp
  obtain ⟨j, hj, hjs⟩ := Option.map_eq_some_iff.1 Tryd.isSize
  have heq := run_eql_iface_ptr_same (P := Tryd.prog) w a Tryd.underlying42 Tryd.underlying115 hi hcmp hj
  go_enter Tryd.func27, Tryd.ntmps27
  go_wp2
  refine wp_loop_rounds 1 ?_
  rw [rounds_succ]
  go_wp2
  go_ret
  exact ⟨rfl, rfl⟩

set_option maxRecDepth 100000 in
theorem is2_join (a : Addr) (j s m c : Nat) (w : World) (hj : w.heap[j]? = some (.cells #[.slice (some ⟨s, 0, none⟩) m c] 94 (0, 0))) (hm : 1 ≤ m) (hmc : m ≤ c ∧ m ≤ 2) (hs : w.cell? ⟨s, 0, none⟩ = some (NL a)) :
    Calls Tryd.prog 27 #[.iface 92 (.pointer (some ⟨j, 0, none⟩)), NL a, .bool true] w fun e w' => e = .returned (.bool true) ∧ w' = w := by
  have nW := Tryd.noIsJ
  have uW := Tryd.noUnwrapJ
  have vW := Tryd.hasUnwrapsJ
  have mU := Tryd.methodUnwrapJ
  have hty := run_eql_iface_types (P := Tryd.prog) 92 115 (.pointer (some ⟨j, 0, none⟩)) (.pointer (some a)) Tryd.underlying42 (by decide) w
  have cj : w.cell? ⟨j, 0, none⟩ = some (.slice (some ⟨s, 0, none⟩) m c) := cell_of_row w j 0 _ _ _ hj
  have m0 : (0 : Int) < (m : Int) := by omega
  have S := is2_same a w
  clear hj
  go_enter Tryd.func27, Tryd.ntmps27
  go_wp2
  refine wp_loop_rounds 1 ?_
  rw [rounds_succ]
  go_wp2
  refine wp_loop_rounds 1 ?_
  rw [rounds_succ]
  go_wp2_with fail
  refine S.mono ?_
  rintro e w' ⟨rfl, rfl⟩
  go_wp2_with fail
  go_ret
  exact ⟨rfl, rfl⟩

theorem eis_nil (a : Addr) (w : World) :
    Calls Tryd.prog 21 #[.nilIface, NL a] w fun e w' => e = .returned (.bool false) ∧ w' = w := by
  have hn := run_eql_iface_nil_left (P := Tryd.prog) w 115 (.pointer (some a)) Tryd.underlying42
  go_enter Tryd.func21, Tryd.ntmps21
  go_wp2_with fail
  go_ret
  exact ⟨rfl, rfl⟩

set_option maxRecDepth 100000 in
theorem eis_some (a : Addr) (t : TypeId) (v : Value) (w : World) (h : Calls Tryd.prog 27 #[.iface t v, NL a, .bool true] w fun e w' => e = .returned (.bool true) ∧ w' = w) :
    Calls Tryd.prog 21 #[.iface t v, NL a] w fun e w' => e = .returned (.bool true) ∧ w' = w := by
  have h8 := @run_callFunc_extern Tryd.prog 26 _ ReflectliteType.typeOf Tryd.func26 (by kernel_rfl) (by kernel_rfl) (by kernel_rfl) (by kernel_rfl)
  have h32 := @run_callFunc_extern Tryd.prog 84 _ (ReflectliteType.method fun t => do Rtype.noPackHeld "Comparable" t; pure (.bool (← typeInfo t).comparable)) Tryd.func84 (by kernel_rfl) (by kernel_rfl) (by kernel_rfl) (by kernel_rfl)
  have tT := Tryd.isTypeOf
  have cT := Tryd.isComparable
  have mR := Tryd.isMethodComparable
  go_enter Tryd.func21, Tryd.ntmps21
  go_wp2_with (first
    | (go_at_call 27; refine h.mono ?_; rintro e w' ⟨rfl, rfl⟩)
    | go_in)
  go_ret
  exact ⟨rfl, rfl⟩

theorem eis_any (b : Nat) (a : Addr) (ok : Bool) (ev : Value) (w : World) (h : ErrA b w a ok ev) :
    Calls Tryd.prog 21 #[ev, NL a] w fun e w' => e = .returned (.bool (!ok)) ∧ w' = w := by
  cases ok with
  | true =>
    obtain rfl := h.1 rfl
    exact eis_nil a w
  | false =>
    rcases h.2 rfl with rfl | ⟨j, s, m, c, _, rfl, h1, h2, h3, h4, _⟩
    · exact eis_some a _ _ w (is2_same a w)
    · exact eis_some a _ _ w (is2_join a j s m c w h1 h2 h3 h4)
end Go.Proofs.YtkoiccocgejmcaaDoor
