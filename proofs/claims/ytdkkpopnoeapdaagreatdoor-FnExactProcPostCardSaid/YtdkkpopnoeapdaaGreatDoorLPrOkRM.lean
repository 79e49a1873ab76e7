/-
  The regions of the law FnExactProcOk that draw their order, each alone. No condition but bounds.
-/
import Derived.Test.YtdkkpopnoeapdaaGreatDoorShapeM
import Derived.Test.YtdkkpopnoeapdaaGreatDoorPrToM
import Derived.Test.YtdkkpopnoeapdaaGreatDoorPrOkSM
namespace Go.Proofs.YtdkkpopnoeapdaaGreatDoor
open Go.RowKit

theorem Tryz.sizeLCode : (Tryz.prog.info? 28).map (·.size) = some 3 := by kernel_rfl
theorem Tryz.sizeLProc : (Tryz.prog.info? 33).map (·.size) = some 11 := by kernel_rfl

set_option maxRecDepth 100000 in
set_option maxHeartbeats 6400000 in
theorem prok_r8 {t0 t1 t4 t5 t6 t7 t8 t9 t10 t11 t12 t13 t14 t15 t16 t17 t18 t19 t20 t21 t22 t23 t24 t25 t26 t27 t28 t29 t30 t31 t32 t33 t34 t35 t36 t37 t38 t39 t40 t41 t42 t43 t44 : Value} {fs : List Deferred} (b0 b1x : Nat) (a1 a2 a3 ao ab ac : Option Addr) (c1 c2 c3 cap cb cc : Nat) (ns : List Nd) (is : List In) (ds : List Df) (i : Int) (xs : List Nd) (m : Mc) (bx ox : List ByteArray) (w : World) (Q : Exit → Act → World → Prop)
    (hk : w.heap[b0]? = some (.cells #[.slice a1 ns.length c1, .slice a2 is.length c2, .slice a3 ds.length c3] 28 (0, 0))) (hx : w.heap[b1x]? = some (.cells #[.int .i64 i, .slice ao xs.length cap, .int .i64 m.p, .int .i64 m.s, .int .i64 m.e, .int .i64 m.d, .int .i64 m.t, .int .i64 m.q, .int .i64 m.r, .slice ab bx.length cb, .slice ac ox.length cc] 33 (0, 0))) (R1 : NRow w (.slice a1 ns.length c1) ns) (R2 : InRow w (.slice a2 is.length c2) is) (R3 : DfRow w (.slice a3 ds.length c3) ds) (R : NRow w (.slice ao xs.length cap) xs) (Rb : StRow w (.slice ab bx.length cb) bx) (Ro : StRow w (.slice ac ox.length cc) ox) (l1 : ns.length ≤ 2097152) (l2 : is.length ≤ 2097152) (l3 : ds.length ≤ 2097152) (l4 : xs.length ≤ 2097152) (l5 : bx.length ≤ 2097152) (l6 : ox.length ≤ 2097152) (hzx : ∀ x ∈ xs, x.s.size ≤ maxLen) (hzb : ∀ x ∈ bx, x.size ≤ maxLen) (hzo : ∀ x ∈ ox, x.size ≤ maxLen) (hz7 : ∀ x ∈ bx, x.size ≤ 140737488351232)
    (hQ : ∀ u20 u21 u22 u23 u24 (W : World), Below w.heap.size w W → Q .normal ⟨#[t0, t1, .pointer (some ⟨b0, 0, none⟩), .pointer (some ⟨b1x, 0, none⟩), t4, t5, .bool (procB ns is ds i xs m bx ox), t7, t8, t9, t10, t11, t12, t13, t14, t15, t16, t17, t18, t19, u20, u21, u22, u23, u24, t25, t26, t27, t28, t29, t30, t31, t32, t33, t34, t35, t36, t37, t38, t39, t40, t41, t42, t43, t44], fs⟩ W) :
    (Code.region 8 (List.toArray (({ dst := some 20, op := Op.load 28 (Operand.tmp 2), type := 28, pos := "exact.go:3742", after := #[], guard := none } : Oper) :: ({ dst := some 21, op := Op.call { callee := Callee.value (Operand.func 9), args := #[Operand.tmp 20], argTypes := #[28] }, type := 43, pos := "exact.go:3742", after := #[{ on := 0, ground := Ground.data }], guard := none } : Oper) :: ({ dst := some 22, op := Op.load 33 (Operand.tmp 3), type := 33, pos := "exact.go:3742", after := #[], guard := none } : Oper) :: ({ dst := some 23, op := Op.call { callee := Callee.value (Operand.func 10), args := #[Operand.tmp 22], argTypes := #[33] }, type := 48, pos := "exact.go:3742", after := #[{ on := 2, ground := Ground.data }, { on := 1, ground := Ground.chain }], guard := none } : Oper) :: ({ dst := some 24, op := Op.call { callee := Callee.value (Operand.func 8), args := #[Operand.tmp 21, Operand.tmp 23], argTypes := #[43, 48] }, type := 4, pos := "exact.go:3742", after := #[{ on := 1, ground := Ground.data }, { on := 3, ground := Ground.data }, { on := 3, ground := Ground.chain }], guard := none } : Oper) :: ({ dst := some 6, op := Op.assign (Operand.tmp 24), type := 4, pos := "exact.go:3742", after := #[{ on := 4, ground := Ground.data }, { on := 4, ground := Ground.chain }, { on := 0, ground := Ground.phase }, { on := 1, ground := Ground.phase }, { on := 2, ground := Ground.phase }, { on := 3, ground := Ground.phase }, { on := 4, ground := Ground.phase }], guard := none } : Oper) :: [])) true).wp Tryz.prog Q ⟨#[t0, t1, .pointer (some ⟨b0, 0, none⟩), .pointer (some ⟨b1x, 0, none⟩), t4, t5, t6, t7, t8, t9, t10, t11, t12, t13, t14, t15, t16, t17, t18, t19, t20, t21, t22, t23, t24, t25, t26, t27, t28, t29, t30, t31, t32, t33, t34, t35, t36, t37, t38, t39, t40, t41, t42, t43, t44], fs⟩ w := by
  have hS : ∀ w', Below w.heap.size w w' → (w'.heap[b0]? = some (.cells #[.slice a1 ns.length c1, .slice a2 is.length c2, .slice a3 ds.length c3] 28 (0, 0)) ∧ w'.heap[b1x]? = some (.cells #[.int .i64 i, .slice ao xs.length cap, .int .i64 m.p, .int .i64 m.s, .int .i64 m.e, .int .i64 m.d, .int .i64 m.t, .int .i64 m.q, .int .i64 m.r, .slice ab bx.length cb, .slice ac ox.length cc] 33 (0, 0))) := fun w' hb => ⟨blk_bel hk hb, blk_bel hx hb⟩
  have B : Below w.heap.size w w.drew := drew_bel w
  refine wp_region_noPanic ?_
  refine wp_region_held_drew (S := fun w' => w'.heap[b0]? = some (.cells #[.slice a1 ns.length c1, .slice a2 is.length c2, .slice a3 ds.length c3] 28 (0, 0)) ∧ w'.heap[b1x]? = some (.cells #[.int .i64 i, .slice ao xs.length cap, .int .i64 m.p, .int .i64 m.s, .int .i64 m.e, .int .i64 m.d, .int .i64 m.t, .int .i64 m.q, .int .i64 m.r, .slice ab bx.length cb, .slice ac ox.length cc] 33 (0, 0))) (by kernel_rfl) (hS _ B) (fun hHeld => ?_)
  refine wpAnyH_take (i := 0) (oi := ({ dst := some 20, op := Op.load 28 (Operand.tmp 2), type := 28, pos := "exact.go:3742", after := #[], guard := none } : Oper)) (v := .agg #[.slice a1 ns.length c1, .slice a2 is.length c2, .slice a3 ds.length c3]) rfl (by kernel_rfl) (by kernel_rfl) (by kernel_rfl) (fun _ _ _ h => h) (yields_row (by rfl) 28 _ rfl b0 rfl #[.slice a1 ns.length c1, .slice a2 is.length c2, .slice a3 ds.length c3] 28 _ (fun _ h => h.1) Tryz.underlying28 rfl Tryz.sizeLCode) (by assumption) ?_
  simp only [Act.put, List.setIfInBounds_toArray, List.set_cons_zero, List.set_cons_succ]
  refine wpAnyH_take (i := 2) (oi := ({ dst := some 22, op := Op.load 33 (Operand.tmp 3), type := 33, pos := "exact.go:3742", after := #[], guard := none } : Oper)) (v := .agg #[.int .i64 i, .slice ao xs.length cap, .int .i64 m.p, .int .i64 m.s, .int .i64 m.e, .int .i64 m.d, .int .i64 m.t, .int .i64 m.q, .int .i64 m.r, .slice ab bx.length cb, .slice ac ox.length cc]) rfl (by kernel_rfl) (by kernel_rfl) (by kernel_rfl) (fun _ _ _ h => h) (yields_row (by rfl) 33 _ rfl b1x rfl #[.int .i64 i, .slice ao xs.length cap, .int .i64 m.p, .int .i64 m.s, .int .i64 m.e, .int .i64 m.d, .int .i64 m.t, .int .i64 m.q, .int .i64 m.r, .slice ab bx.length cb, .slice ac ox.length cc] 33 _ (fun _ h => h.2) Tryz.underlying33 rfl Tryz.sizeLProc) (by assumption) ?_
  simp only [Act.put, List.setIfInBounds_toArray, List.set_cons_zero, List.set_cons_succ]
  refine wpAnyH_ready (rs := [1]) (by kernel_rfl) (by simp) ?_
  refine AllReadyH.cons rfl (fun K hK => ?_) AllReadyH.nil
  go_simp
  go_wp2_with (go_at_call 9; with_reducible refine (tocode_any _ _ _ ns is ds _ (R1.below B) (R2.below B) (R3.below B) l1 l2 l3).mono ?_; rintro e wA ⟨u1, u2, u3, rfl, S1, S2, S3, hb⟩)
  replace B := B.trans (hb.mono B.size)
  obtain ⟨b1, d1, rfl⟩ := S1.small
  obtain ⟨b2, d2, rfl⟩ := S2.small
  obtain ⟨b3, d3, rfl⟩ := S3.small
  clear hb
  refine hK.out _ _ (hS _ B) (fun hHeld => ?_)
  clear hK
  refine wpAnyH_ready (rs := [3]) (by kernel_rfl) (by simp) ?_
  refine AllReadyH.cons rfl (fun K hK => ?_) AllReadyH.nil
  go_simp
  go_wp2_with (go_at_call 10; with_reducible refine (toproc_any i _ _ _ xs m bx ox _ (R.below B) (Rb.below B) (Ro.below B) l4 l5 l6).mono ?_; rintro e wP ⟨y1, y2, y3, rfl, P1, P2, P3, hap, hb⟩)
  replace S1 := S1.below hb
  replace S2 := S2.below hb
  replace S3 := S3.below hb
  replace B := B.trans (hb.mono B.size)
  obtain ⟨bo, dap, rfl⟩ := own_form P1
  obtain ⟨bb, db, rfl⟩ := own_form P2
  obtain ⟨bc, dc, rfl⟩ := own_form P3
  have Y := NRow.of_own P1 (by omega) hzx
  have Yb := StRow.of_own P2 (by omega) hzb
  have Yo := StRow.of_own P3 (by omega) hzo
  clear P1 P2 P3 hap
  clear hb
  refine hK.out _ _ (hS _ B) (fun hHeld => ?_)
  clear hK
  refine wpAnyH_ready (rs := [4]) (by kernel_rfl) (by simp) ?_
  refine AllReadyH.cons rfl (fun K hK => ?_) AllReadyH.nil
  go_simp
  go_wp2_with (go_at_call 8; with_reducible refine (sprocok_any _ _ _ _ _ _ ns is ds i xs m bx ox _ S1 S2 S3 Y Yb Yo hz7).mono ?_; rintro e wZ ⟨rfl, hb⟩)
  replace S1 := S1.below hb
  replace S2 := S2.below hb
  replace S3 := S3.below hb
  replace Y := Y.below hb
  replace Yb := Yb.below hb
  replace Yo := Yo.below hb
  replace B := B.trans (hb.mono B.size)
  clear hb
  refine hK.out _ _ (hS _ B) (fun hHeld => ?_)
  clear hK
  refine wpAnyH_take (i := 5) (oi := ({ dst := some 6, op := Op.assign (Operand.tmp 24), type := 4, pos := "exact.go:3742", after := #[{ on := 4, ground := Ground.data }, { on := 4, ground := Ground.chain }, { on := 0, ground := Ground.phase }, { on := 1, ground := Ground.phase }, { on := 2, ground := Ground.phase }, { on := 3, ground := Ground.phase }, { on := 4, ground := Ground.phase }], guard := none } : Oper)) (v := .bool (procB ns is ds i xs m bx ox)) rfl (by kernel_rfl) (by kernel_rfl) (by kernel_rfl) (fun _ _ _ h => h) (Or.inl ⟨by rfl, by intro w hSw; go_simp⟩) (by assumption) ?_
  simp only [Act.put, List.setIfInBounds_toArray, List.set_cons_zero, List.set_cons_succ]
  refine wpAnyH_done (by kernel_rfl) ?_ _
  exact NoPanic.normal (hQ _ _ _ _ _ _ B)

set_option maxRecDepth 100000 in
set_option maxHeartbeats 6400000 in
theorem prok_r14 {t0 t1 t3 t4 t5 t6 t8 t9 t10 t11 t12 t13 t14 t15 t16 t17 t18 t19 t20 t21 t22 t23 t24 t25 t26 t27 t28 t29 t30 t31 t32 t33 t34 t35 t36 t37 t38 t39 t40 t41 t42 t43 t44 : Value} {fs : List Deferred} (y0 b0 : Nat) (e1 e2 e3 a1 a2 a3 : Option Addr) (f1 f2 f3 c1 c2 c3 : Nat) (ns : List Nd) (is : List In) (ds : List Df) (w : World) (Q : Exit → Act → World → Prop)
    (hy : w.heap[y0]? = some (.cells #[.slice e1 ns.length f1, .slice e2 is.length f2, .slice e3 ds.length f3] 43 (0, 0))) (hk : w.heap[b0]? = some (.cells #[.slice a1 ns.length c1, .slice a2 is.length c2, .slice a3 ds.length c3] 28 (0, 0))) (E1 : NRow w (.slice e1 ns.length f1) ns) (E2 : InRow w (.slice e2 is.length f2) is) (E3 : DfRow w (.slice e3 ds.length f3) ds) (R1 : NRow w (.slice a1 ns.length c1) ns) (R2 : InRow w (.slice a2 is.length c2) is) (R3 : DfRow w (.slice a3 ds.length c3) ds) (l1 : ns.length ≤ 2097152) (l2 : is.length ≤ 2097152) (l3 : ds.length ≤ 2097152)
    (hQ : ∀ u35 u36 u37 u38 (W : World), Below w.heap.size w W → Q .normal ⟨#[t0, t1, .pointer (some ⟨b0, 0, none⟩), t3, t4, t5, t6, .pointer (some ⟨y0, 0, none⟩), t8, t9, t10, t11, t12, t13, t14, t15, t16, t17, t18, t19, t20, t21, t22, t23, t24, t25, t26, t27, t28, t29, t30, t31, t32, t33, t34, u35, u36, u37, u38, .bool false, t40, t41, t42, t43, t44], fs⟩ W) :
    (Code.region 14 (List.toArray (({ dst := some 35, op := Op.load 43 (Operand.tmp 7), type := 43, pos := "exact.go:3749", after := #[], guard := none } : Oper) :: ({ dst := some 36, op := Op.load 28 (Operand.tmp 2), type := 28, pos := "exact.go:3749", after := #[], guard := none } : Oper) :: ({ dst := some 37, op := Op.call { callee := Callee.value (Operand.func 9), args := #[Operand.tmp 36], argTypes := #[28] }, type := 43, pos := "exact.go:3749", after := #[{ on := 1, ground := Ground.data }], guard := none } : Oper) :: ({ dst := some 38, op := Op.call { callee := Callee.value (Operand.func 12), args := #[Operand.tmp 35, Operand.tmp 37], argTypes := #[43, 43] }, type := 4, pos := "exact.go:3749", after := #[{ on := 0, ground := Ground.data }, { on := 2, ground := Ground.data }, { on := 2, ground := Ground.chain }], guard := none } : Oper) :: ({ dst := some 39, op := Op.unOp UnOp.not 4 (Operand.tmp 38), type := 4, pos := "exact.go:3749", after := #[{ on := 3, ground := Ground.data }], guard := none } : Oper) :: [])) true).wp Tryz.prog Q ⟨#[t0, t1, .pointer (some ⟨b0, 0, none⟩), t3, t4, t5, t6, .pointer (some ⟨y0, 0, none⟩), t8, t9, t10, t11, t12, t13, t14, t15, t16, t17, t18, t19, t20, t21, t22, t23, t24, t25, t26, t27, t28, t29, t30, t31, t32, t33, t34, t35, t36, t37, t38, t39, t40, t41, t42, t43, t44], fs⟩ w := by
  have hS : ∀ w', Below w.heap.size w w' → (w'.heap[y0]? = some (.cells #[.slice e1 ns.length f1, .slice e2 is.length f2, .slice e3 ds.length f3] 43 (0, 0)) ∧ w'.heap[b0]? = some (.cells #[.slice a1 ns.length c1, .slice a2 is.length c2, .slice a3 ds.length c3] 28 (0, 0))) := fun w' hb => ⟨blk_bel hy hb, blk_bel hk hb⟩
  have B : Below w.heap.size w w.drew := drew_bel w
  refine wp_region_noPanic ?_
  refine wp_region_held_drew (S := fun w' => w'.heap[y0]? = some (.cells #[.slice e1 ns.length f1, .slice e2 is.length f2, .slice e3 ds.length f3] 43 (0, 0)) ∧ w'.heap[b0]? = some (.cells #[.slice a1 ns.length c1, .slice a2 is.length c2, .slice a3 ds.length c3] 28 (0, 0))) (by kernel_rfl) (hS _ B) (fun hHeld => ?_)
  refine wpAnyH_take (i := 0) (oi := ({ dst := some 35, op := Op.load 43 (Operand.tmp 7), type := 43, pos := "exact.go:3749", after := #[], guard := none } : Oper)) (v := .agg #[.slice e1 ns.length f1, .slice e2 is.length f2, .slice e3 ds.length f3]) rfl (by kernel_rfl) (by kernel_rfl) (by kernel_rfl) (fun _ _ _ h => h) (yields_row (by rfl) 43 _ rfl y0 rfl #[.slice e1 ns.length f1, .slice e2 is.length f2, .slice e3 ds.length f3] 43 _ (fun _ h => h.1) Tryz.underlying43 rfl Tryz.sizeCode) (by assumption) ?_
  simp only [Act.put, List.setIfInBounds_toArray, List.set_cons_zero, List.set_cons_succ]
  refine wpAnyH_take (i := 1) (oi := ({ dst := some 36, op := Op.load 28 (Operand.tmp 2), type := 28, pos := "exact.go:3749", after := #[], guard := none } : Oper)) (v := .agg #[.slice a1 ns.length c1, .slice a2 is.length c2, .slice a3 ds.length c3]) rfl (by kernel_rfl) (by kernel_rfl) (by kernel_rfl) (fun _ _ _ h => h) (yields_row (by rfl) 28 _ rfl b0 rfl #[.slice a1 ns.length c1, .slice a2 is.length c2, .slice a3 ds.length c3] 28 _ (fun _ h => h.2) Tryz.underlying28 rfl Tryz.sizeLCode) (by assumption) ?_
  simp only [Act.put, List.setIfInBounds_toArray, List.set_cons_zero, List.set_cons_succ]
  refine wpAnyH_ready (rs := [2]) (by kernel_rfl) (by simp) ?_
  refine AllReadyH.cons rfl (fun K hK => ?_) AllReadyH.nil
  go_simp
  go_wp2_with (go_at_call 9; with_reducible refine (tocode_any _ _ _ ns is ds _ (R1.below B) (R2.below B) (R3.below B) l1 l2 l3).mono ?_; rintro e wA ⟨u1, u2, u3, rfl, S1, S2, S3, hb⟩)
  replace B := B.trans (hb.mono B.size)
  obtain ⟨b1, d1, rfl⟩ := S1.small
  obtain ⟨b2, d2, rfl⟩ := S2.small
  obtain ⟨b3, d3, rfl⟩ := S3.small
  clear hb
  refine hK.out _ _ (hS _ B) (fun hHeld => ?_)
  clear hK
  refine wpAnyH_ready (rs := [3]) (by kernel_rfl) (by simp) ?_
  refine AllReadyH.cons rfl (fun K hK => ?_) AllReadyH.nil
  go_simp
  go_wp2_with (go_at_call 12; with_reducible refine (eqcode_any _ _ _ _ _ _ ns is ds _ (E1.below B) (E2.below B) (E3.below B) S1 S2 S3).mono ?_; rintro e wZ ⟨rfl, hb⟩)
  replace S1 := S1.below hb
  replace S2 := S2.below hb
  replace S3 := S3.below hb
  replace B := B.trans (hb.mono B.size)
  clear hb
  refine hK.out _ _ (hS _ B) (fun hHeld => ?_)
  clear hK
  refine wpAnyH_take (i := 4) (oi := ({ dst := some 39, op := Op.unOp UnOp.not 4 (Operand.tmp 38), type := 4, pos := "exact.go:3749", after := #[{ on := 3, ground := Ground.data }], guard := none } : Oper)) (v := .bool false) rfl (by kernel_rfl) (by kernel_rfl) (by kernel_rfl) (fun _ _ _ h => h) (Or.inl ⟨by rfl, by intro w hSw; go_simp⟩) (by assumption) ?_
  simp only [Act.put, List.setIfInBounds_toArray, List.set_cons_zero, List.set_cons_succ]
  refine wpAnyH_done (by kernel_rfl) ?_ _
  exact NoPanic.normal (hQ _ _ _ _ _ B)

set_option maxRecDepth 100000 in
set_option maxHeartbeats 6400000 in
theorem prok_r16 {t0 t1 t2 t4 t5 t6 t7 t9 t10 t11 t12 t13 t14 t15 t16 t17 t18 t19 t20 t21 t22 t23 t24 t25 t26 t27 t28 t29 t30 t31 t32 t33 t34 t35 t36 t37 t38 t39 t40 t41 t42 t43 t44 : Value} {fs : List Deferred} (y0 b1x : Nat) (eo eb ec ao ab ac : Option Addr) (fo fb fc cap cb cc : Nat) (i : Int) (xs : List Nd) (m : Mc) (bx ox : List ByteArray) (w : World) (Q : Exit → Act → World → Prop)
    (hy : w.heap[y0]? = some (.cells #[.int .i64 i, .slice eo xs.length fo, .int .i64 m.p, .int .i64 m.s, .int .i64 m.e, .int .i64 m.d, .int .i64 m.t, .int .i64 m.q, .int .i64 m.r, .slice eb bx.length fb, .slice ec ox.length fc] 48 (0, 0))) (hx : w.heap[b1x]? = some (.cells #[.int .i64 i, .slice ao xs.length cap, .int .i64 m.p, .int .i64 m.s, .int .i64 m.e, .int .i64 m.d, .int .i64 m.t, .int .i64 m.q, .int .i64 m.r, .slice ab bx.length cb, .slice ac ox.length cc] 33 (0, 0))) (E : NRow w (.slice eo xs.length fo) xs) (Eb : StRow w (.slice eb bx.length fb) bx) (Eo : StRow w (.slice ec ox.length fc) ox) (R : NRow w (.slice ao xs.length cap) xs) (Rb : StRow w (.slice ab bx.length cb) bx) (Ro : StRow w (.slice ac ox.length cc) ox) (l4 : xs.length ≤ 2097152) (l5 : bx.length ≤ 2097152) (l6 : ox.length ≤ 2097152) (hzx : ∀ x ∈ xs, x.s.size ≤ maxLen) (hzb : ∀ x ∈ bx, x.size ≤ maxLen) (hzo : ∀ x ∈ ox, x.size ≤ maxLen)
    (hQ : ∀ u40 u41 u42 u43 (W : World), Below w.heap.size w W → Q .normal ⟨#[t0, t1, t2, .pointer (some ⟨b1x, 0, none⟩), t4, t5, t6, t7, .pointer (some ⟨y0, 0, none⟩), t9, t10, t11, t12, t13, t14, t15, t16, t17, t18, t19, t20, t21, t22, t23, t24, t25, t26, t27, t28, t29, t30, t31, t32, t33, t34, t35, t36, t37, t38, t39, u40, u41, u42, u43, .bool false], fs⟩ W) :
    (Code.region 16 (List.toArray (({ dst := some 40, op := Op.load 48 (Operand.tmp 8), type := 48, pos := "exact.go:3752", after := #[], guard := none } : Oper) :: ({ dst := some 41, op := Op.load 33 (Operand.tmp 3), type := 33, pos := "exact.go:3752", after := #[], guard := none } : Oper) :: ({ dst := some 42, op := Op.call { callee := Callee.value (Operand.func 10), args := #[Operand.tmp 41], argTypes := #[33] }, type := 48, pos := "exact.go:3752", after := #[{ on := 1, ground := Ground.data }], guard := none } : Oper) :: ({ dst := some 43, op := Op.call { callee := Callee.value (Operand.func 13), args := #[Operand.tmp 40, Operand.tmp 42], argTypes := #[48, 48] }, type := 4, pos := "exact.go:3752", after := #[{ on := 0, ground := Ground.data }, { on := 2, ground := Ground.data }, { on := 2, ground := Ground.chain }], guard := none } : Oper) :: ({ dst := some 44, op := Op.unOp UnOp.not 4 (Operand.tmp 43), type := 4, pos := "exact.go:3752", after := #[{ on := 3, ground := Ground.data }], guard := none } : Oper) :: [])) true).wp Tryz.prog Q ⟨#[t0, t1, t2, .pointer (some ⟨b1x, 0, none⟩), t4, t5, t6, t7, .pointer (some ⟨y0, 0, none⟩), t9, t10, t11, t12, t13, t14, t15, t16, t17, t18, t19, t20, t21, t22, t23, t24, t25, t26, t27, t28, t29, t30, t31, t32, t33, t34, t35, t36, t37, t38, t39, t40, t41, t42, t43, t44], fs⟩ w := by
  have hS : ∀ w', Below w.heap.size w w' → (w'.heap[y0]? = some (.cells #[.int .i64 i, .slice eo xs.length fo, .int .i64 m.p, .int .i64 m.s, .int .i64 m.e, .int .i64 m.d, .int .i64 m.t, .int .i64 m.q, .int .i64 m.r, .slice eb bx.length fb, .slice ec ox.length fc] 48 (0, 0)) ∧ w'.heap[b1x]? = some (.cells #[.int .i64 i, .slice ao xs.length cap, .int .i64 m.p, .int .i64 m.s, .int .i64 m.e, .int .i64 m.d, .int .i64 m.t, .int .i64 m.q, .int .i64 m.r, .slice ab bx.length cb, .slice ac ox.length cc] 33 (0, 0))) := fun w' hb => ⟨blk_bel hy hb, blk_bel hx hb⟩
  have B : Below w.heap.size w w.drew := drew_bel w
  refine wp_region_noPanic ?_
  refine wp_region_held_drew (S := fun w' => w'.heap[y0]? = some (.cells #[.int .i64 i, .slice eo xs.length fo, .int .i64 m.p, .int .i64 m.s, .int .i64 m.e, .int .i64 m.d, .int .i64 m.t, .int .i64 m.q, .int .i64 m.r, .slice eb bx.length fb, .slice ec ox.length fc] 48 (0, 0)) ∧ w'.heap[b1x]? = some (.cells #[.int .i64 i, .slice ao xs.length cap, .int .i64 m.p, .int .i64 m.s, .int .i64 m.e, .int .i64 m.d, .int .i64 m.t, .int .i64 m.q, .int .i64 m.r, .slice ab bx.length cb, .slice ac ox.length cc] 33 (0, 0))) (by kernel_rfl) (hS _ B) (fun hHeld => ?_)
  refine wpAnyH_take (i := 0) (oi := ({ dst := some 40, op := Op.load 48 (Operand.tmp 8), type := 48, pos := "exact.go:3752", after := #[], guard := none } : Oper)) (v := .agg #[.int .i64 i, .slice eo xs.length fo, .int .i64 m.p, .int .i64 m.s, .int .i64 m.e, .int .i64 m.d, .int .i64 m.t, .int .i64 m.q, .int .i64 m.r, .slice eb bx.length fb, .slice ec ox.length fc]) rfl (by kernel_rfl) (by kernel_rfl) (by kernel_rfl) (fun _ _ _ h => h) (yields_row (by rfl) 48 _ rfl y0 rfl #[.int .i64 i, .slice eo xs.length fo, .int .i64 m.p, .int .i64 m.s, .int .i64 m.e, .int .i64 m.d, .int .i64 m.t, .int .i64 m.q, .int .i64 m.r, .slice eb bx.length fb, .slice ec ox.length fc] 48 _ (fun _ h => h.1) Tryz.underlying48 rfl Tryz.sizeProc) (by assumption) ?_
  simp only [Act.put, List.setIfInBounds_toArray, List.set_cons_zero, List.set_cons_succ]
  refine wpAnyH_take (i := 1) (oi := ({ dst := some 41, op := Op.load 33 (Operand.tmp 3), type := 33, pos := "exact.go:3752", after := #[], guard := none } : Oper)) (v := .agg #[.int .i64 i, .slice ao xs.length cap, .int .i64 m.p, .int .i64 m.s, .int .i64 m.e, .int .i64 m.d, .int .i64 m.t, .int .i64 m.q, .int .i64 m.r, .slice ab bx.length cb, .slice ac ox.length cc]) rfl (by kernel_rfl) (by kernel_rfl) (by kernel_rfl) (fun _ _ _ h => h) (yields_row (by rfl) 33 _ rfl b1x rfl #[.int .i64 i, .slice ao xs.length cap, .int .i64 m.p, .int .i64 m.s, .int .i64 m.e, .int .i64 m.d, .int .i64 m.t, .int .i64 m.q, .int .i64 m.r, .slice ab bx.length cb, .slice ac ox.length cc] 33 _ (fun _ h => h.2) Tryz.underlying33 rfl Tryz.sizeLProc) (by assumption) ?_
  simp only [Act.put, List.setIfInBounds_toArray, List.set_cons_zero, List.set_cons_succ]
  refine wpAnyH_ready (rs := [2]) (by kernel_rfl) (by simp) ?_
  refine AllReadyH.cons rfl (fun K hK => ?_) AllReadyH.nil
  go_simp
  go_wp2_with (go_at_call 10; with_reducible refine (toproc_any i _ _ _ xs m bx ox _ (R.below B) (Rb.below B) (Ro.below B) l4 l5 l6).mono ?_; rintro e wP ⟨y1, y2, y3, rfl, P1, P2, P3, hap, hb⟩)
  replace B := B.trans (hb.mono B.size)
  obtain ⟨bo, dap, rfl⟩ := own_form P1
  obtain ⟨bb, db, rfl⟩ := own_form P2
  obtain ⟨bc, dc, rfl⟩ := own_form P3
  have Y := NRow.of_own P1 (by omega) hzx
  have Yb := StRow.of_own P2 (by omega) hzb
  have Yo := StRow.of_own P3 (by omega) hzo
  clear P1 P2 P3 hap
  clear hb
  refine hK.out _ _ (hS _ B) (fun hHeld => ?_)
  clear hK
  refine wpAnyH_ready (rs := [3]) (by kernel_rfl) (by simp) ?_
  refine AllReadyH.cons rfl (fun K hK => ?_) AllReadyH.nil
  go_simp
  go_wp2_with (go_at_call 13; with_reducible refine (eqproc_any i _ _ _ _ _ _ xs m bx ox _ (E.below B) (Eb.below B) (Eo.below B) Y Yb Yo).mono ?_; rintro e wZ ⟨rfl, hb⟩)
  replace Y := Y.below hb
  replace Yb := Yb.below hb
  replace Yo := Yo.below hb
  replace B := B.trans (hb.mono B.size)
  clear hb
  refine hK.out _ _ (hS _ B) (fun hHeld => ?_)
  clear hK
  refine wpAnyH_take (i := 4) (oi := ({ dst := some 44, op := Op.unOp UnOp.not 4 (Operand.tmp 43), type := 4, pos := "exact.go:3752", after := #[{ on := 3, ground := Ground.data }], guard := none } : Oper)) (v := .bool false) rfl (by kernel_rfl) (by kernel_rfl) (by kernel_rfl) (fun _ _ _ h => h) (Or.inl ⟨by rfl, by intro w hSw; go_simp⟩) (by assumption) ?_
  simp only [Act.put, List.setIfInBounds_toArray, List.set_cons_zero, List.set_cons_succ]
  refine wpAnyH_done (by kernel_rfl) ?_ _
  exact NoPanic.normal (hQ _ _ _ _ _ B)

end Go.Proofs.YtdkkpopnoeapdaaGreatDoor
