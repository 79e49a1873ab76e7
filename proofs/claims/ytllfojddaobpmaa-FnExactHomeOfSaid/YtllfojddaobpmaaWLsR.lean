/-
  The regions of the laws' eqHomeS, eqLinkS, eqGramS, eqParkedS, eqStringSS that draw their order. No condition.
-/
import Derived.Test.YtllfojddaobpmaaWEl
import Derived.Test.YtllfojddaobpmaaLink
import Derived.Test.YtllfojddaobpmaaPrReg
namespace Go.Proofs.Ytllfojddaobpmaa
open Go.RowKit

set_option maxRecDepth 100000 in
set_option maxHeartbeats 6400000 in
theorem eqr_Hm {t2 t3 t4 t6 t7 t8 t9 t10 t11 t12 t13 t14 t15 t16 t17 t18 t19 t20 t21 t22 t23 t24 t25 t26 : Value} {fs : List Deferred} (ga oa gb ob n ca cb j : Nat) (cs ds : List Value) (w : World) (Q : Exit → Act → World → Prop)
    (hj : j < n) (hcs : cs.length = 12) (hds : ds.length = 12) (hga : ga < w.heap.size) (hgb : gb < w.heap.size) (ra : w.rangeAt ga (oa + j * 12) cs) (rb : w.rangeAt gb (ob + j * 12) ds) (HC : ∀ W, Below w.heap.size w W → Calls Try.prog 59 #[.agg cs.toArray, .agg ds.toArray] W fun e w' => e = .returned (.bool true) ∧ Below W.heap.size W w')
    (hQ : ∀ u17 u18 u19 u20 u21 u22 u23 u24 u25 (W : World), Below w.heap.size w W → Q .normal ⟨#[.slice (some ⟨ga, oa, none⟩) n ca, .slice (some ⟨gb, ob, none⟩) n cb, t2, t3, t4, .int .i64 (j : Nat), t6, t7, t8, t9, t10, t11, t12, t13, t14, t15, t16, u17, u18, u19, u20, u21, u22, u23, u24, u25, .bool false], fs⟩ W) :
    (Code.region 6 (List.toArray (({ dst := some 17, op := Op.move (Operand.tmp 0), type := 49, pos := "exact.go:1304", after := #[], guard := none } : Oper) :: ({ dst := some 18, op := Op.move (Operand.tmp 5), type := 3, pos := "exact.go:1304", after := #[], guard := none } : Oper) :: ({ dst := some 19, op := Op.indexAddr 49 (Operand.tmp 17) (Operand.tmp 18), type := 0, pos := "exact.go:1304", after := #[{ on := 0, ground := Ground.data }, { on := 1, ground := Ground.data }], guard := none } : Oper) :: ({ dst := some 20, op := Op.load 74 (Operand.tmp 19), type := 74, pos := "exact.go:1304", after := #[{ on := 2, ground := Ground.data }], guard := none } : Oper) :: ({ dst := some 21, op := Op.move (Operand.tmp 1), type := 49, pos := "exact.go:1304", after := #[], guard := none } : Oper) :: ({ dst := some 22, op := Op.move (Operand.tmp 5), type := 3, pos := "exact.go:1304", after := #[], guard := none } : Oper) :: ({ dst := some 23, op := Op.indexAddr 49 (Operand.tmp 21) (Operand.tmp 22), type := 0, pos := "exact.go:1304", after := #[{ on := 4, ground := Ground.data }, { on := 5, ground := Ground.data }], guard := none } : Oper) :: ({ dst := some 24, op := Op.load 74 (Operand.tmp 23), type := 74, pos := "exact.go:1304", after := #[{ on := 6, ground := Ground.data }], guard := none } : Oper) :: ({ dst := some 25, op := Op.call { callee := Callee.value (Operand.func 59), args := #[Operand.tmp 20, Operand.tmp 24], argTypes := #[74, 74] }, type := 4, pos := "exact.go:1304", after := #[{ on := 3, ground := Ground.data }, { on := 7, ground := Ground.data }], guard := none } : Oper) :: ({ dst := some 26, op := Op.unOp UnOp.not 4 (Operand.tmp 25), type := 4, pos := "exact.go:1304", after := #[{ on := 8, ground := Ground.data }], guard := none } : Oper) :: [])) true).wp Try.prog Q ⟨#[.slice (some ⟨ga, oa, none⟩) n ca, .slice (some ⟨gb, ob, none⟩) n cb, t2, t3, t4, .int .i64 (j : Nat), t6, t7, t8, t9, t10, t11, t12, t13, t14, t15, t16, t17, t18, t19, t20, t21, t22, t23, t24, t25, t26], fs⟩ w := by
  have hS : ∀ w', Below w.heap.size w w' → (w'.rangeAt ga (oa + j * 12) cs ∧ w'.rangeAt gb (ob + j * 12) ds) := fun w' hb => ⟨range_below ra hb hga, range_below rb hb hgb⟩
  have hj1 : (j : Int) < (n : Int) := by omega
  have B : Below w.heap.size w w.drew := drew_bel w
  refine wp_region_noPanic ?_
  refine wp_region_held_drew (S := fun w' => w'.rangeAt ga (oa + j * 12) cs ∧ w'.rangeAt gb (ob + j * 12) ds) (by kernel_rfl) (hS _ B) (fun hHeld => ?_)
  refine wpAnyH_take (i := 0) (oi := ({ dst := some 17, op := Op.move (Operand.tmp 0), type := 49, pos := "exact.go:1304", after := #[], guard := none } : Oper)) (v := .slice (some ⟨ga, oa, none⟩) n ca) rfl (by kernel_rfl) (by kernel_rfl) (by kernel_rfl) (fun _ _ _ h => h) (Or.inl ⟨by rfl, by intro w hSw; go_simp⟩) (by assumption) ?_
  simp only [Act.put, List.setIfInBounds_toArray, List.set_cons_zero, List.set_cons_succ]
  refine wpAnyH_take (i := 1) (oi := ({ dst := some 18, op := Op.move (Operand.tmp 5), type := 3, pos := "exact.go:1304", after := #[], guard := none } : Oper)) (v := .int .i64 (j : Nat)) rfl (by kernel_rfl) (by kernel_rfl) (by kernel_rfl) (fun _ _ _ h => h) (Or.inl ⟨by rfl, by intro w hSw; go_simp⟩) (by assumption) ?_
  simp only [Act.put, List.setIfInBounds_toArray, List.set_cons_zero, List.set_cons_succ]
  refine wpAnyH_take (i := 2) (oi := ({ dst := some 19, op := Op.indexAddr 49 (Operand.tmp 17) (Operand.tmp 18), type := 0, pos := "exact.go:1304", after := #[{ on := 0, ground := Ground.data }, { on := 1, ground := Ground.data }], guard := none } : Oper)) (v := .pointer (some ⟨ga, oa + j * 12, none⟩)) rfl (by kernel_rfl) (by kernel_rfl) (by kernel_rfl) (fun _ _ _ h => h) (Or.inl ⟨by rfl, by intro w hSw; go_simp⟩) (by assumption) ?_
  simp only [Act.put, List.setIfInBounds_toArray, List.set_cons_zero, List.set_cons_succ]
  refine wpAnyH_take (i := 3) (oi := ({ dst := some 20, op := Op.load 74 (Operand.tmp 19), type := 74, pos := "exact.go:1304", after := #[{ on := 2, ground := Ground.data }], guard := none } : Oper)) (v := .agg cs.toArray) rfl (by kernel_rfl) (by kernel_rfl) (by kernel_rfl) (fun _ _ _ h => h) (yieldsIf_load_mid (by rfl) 74 _ rfl ga (oa + j * 12) rfl cs _ (fun _ h => h.1) Try.underlying74 rfl (by rw [hcs]; exact Try.sizeHm)) (by assumption) ?_
  simp only [Act.put, List.setIfInBounds_toArray, List.set_cons_zero, List.set_cons_succ]
  refine wpAnyH_take (i := 4) (oi := ({ dst := some 21, op := Op.move (Operand.tmp 1), type := 49, pos := "exact.go:1304", after := #[], guard := none } : Oper)) (v := .slice (some ⟨gb, ob, none⟩) n cb) rfl (by kernel_rfl) (by kernel_rfl) (by kernel_rfl) (fun _ _ _ h => h) (Or.inl ⟨by rfl, by intro w hSw; go_simp⟩) (by assumption) ?_
  simp only [Act.put, List.setIfInBounds_toArray, List.set_cons_zero, List.set_cons_succ]
  refine wpAnyH_take (i := 5) (oi := ({ dst := some 22, op := Op.move (Operand.tmp 5), type := 3, pos := "exact.go:1304", after := #[], guard := none } : Oper)) (v := .int .i64 (j : Nat)) rfl (by kernel_rfl) (by kernel_rfl) (by kernel_rfl) (fun _ _ _ h => h) (Or.inl ⟨by rfl, by intro w hSw; go_simp⟩) (by assumption) ?_
  simp only [Act.put, List.setIfInBounds_toArray, List.set_cons_zero, List.set_cons_succ]
  refine wpAnyH_take (i := 6) (oi := ({ dst := some 23, op := Op.indexAddr 49 (Operand.tmp 21) (Operand.tmp 22), type := 0, pos := "exact.go:1304", after := #[{ on := 4, ground := Ground.data }, { on := 5, ground := Ground.data }], guard := none } : Oper)) (v := .pointer (some ⟨gb, ob + j * 12, none⟩)) rfl (by kernel_rfl) (by kernel_rfl) (by kernel_rfl) (fun _ _ _ h => h) (Or.inl ⟨by rfl, by intro w hSw; go_simp⟩) (by assumption) ?_
  simp only [Act.put, List.setIfInBounds_toArray, List.set_cons_zero, List.set_cons_succ]
  refine wpAnyH_take (i := 7) (oi := ({ dst := some 24, op := Op.load 74 (Operand.tmp 23), type := 74, pos := "exact.go:1304", after := #[{ on := 6, ground := Ground.data }], guard := none } : Oper)) (v := .agg ds.toArray) rfl (by kernel_rfl) (by kernel_rfl) (by kernel_rfl) (fun _ _ _ h => h) (yieldsIf_load_mid (by rfl) 74 _ rfl gb (ob + j * 12) rfl ds _ (fun _ h => h.2) Try.underlying74 rfl (by rw [hds]; exact Try.sizeHm)) (by assumption) ?_
  simp only [Act.put, List.setIfInBounds_toArray, List.set_cons_zero, List.set_cons_succ]
  refine wpAnyH_ready (rs := [8]) (by kernel_rfl) (by simp) ?_
  refine AllReadyH.cons rfl (fun K hK => ?_) AllReadyH.nil
  go_simp
  go_wp2_with (go_at_call 59; with_reducible refine (HC _ B).mono ?_; rintro e wE ⟨rfl, hb⟩)
  replace B := B.trans (hb.mono B.size)
  clear hb
  refine hK.out _ _ (hS _ B) (fun hHeld => ?_)
  clear hK
  refine wpAnyH_take (i := 9) (oi := ({ dst := some 26, op := Op.unOp UnOp.not 4 (Operand.tmp 25), type := 4, pos := "exact.go:1304", after := #[{ on := 8, ground := Ground.data }], guard := none } : Oper)) (v := .bool false) rfl (by kernel_rfl) (by kernel_rfl) (by kernel_rfl) (fun _ _ _ h => h) (Or.inl ⟨by rfl, by intro w hSw; go_simp⟩) (by assumption) ?_
  simp only [Act.put, List.setIfInBounds_toArray, List.set_cons_zero, List.set_cons_succ]
  refine wpAnyH_done (by kernel_rfl) ?_ _
  exact NoPanic.normal (hQ _ _ _ _ _ _ _ _ _ _ B)


set_option maxRecDepth 100000 in
set_option maxHeartbeats 6400000 in
theorem eqr_Lk {t2 t3 t4 t6 t7 t8 t9 t10 t11 t12 t13 t14 t15 t16 t17 t18 t19 t20 t21 t22 t23 t24 t25 t26 : Value} {fs : List Deferred} (ga oa gb ob n ca cb j : Nat) (cs ds : List Value) (w : World) (Q : Exit → Act → World → Prop)
    (hj : j < n) (hcs : cs.length = 5) (hds : ds.length = 5) (hga : ga < w.heap.size) (hgb : gb < w.heap.size) (ra : w.rangeAt ga (oa + j * 5) cs) (rb : w.rangeAt gb (ob + j * 5) ds) (HC : ∀ W, Below w.heap.size w W → Calls Try.prog 60 #[.agg cs.toArray, .agg ds.toArray] W fun e w' => e = .returned (.bool true) ∧ Below W.heap.size W w')
    (hQ : ∀ u17 u18 u19 u20 u21 u22 u23 u24 u25 (W : World), Below w.heap.size w W → Q .normal ⟨#[.slice (some ⟨ga, oa, none⟩) n ca, .slice (some ⟨gb, ob, none⟩) n cb, t2, t3, t4, .int .i64 (j : Nat), t6, t7, t8, t9, t10, t11, t12, t13, t14, t15, t16, u17, u18, u19, u20, u21, u22, u23, u24, u25, .bool false], fs⟩ W) :
    (Code.region 6 (List.toArray (({ dst := some 17, op := Op.move (Operand.tmp 0), type := 50, pos := "exact.go:1316", after := #[], guard := none } : Oper) :: ({ dst := some 18, op := Op.move (Operand.tmp 5), type := 3, pos := "exact.go:1316", after := #[], guard := none } : Oper) :: ({ dst := some 19, op := Op.indexAddr 50 (Operand.tmp 17) (Operand.tmp 18), type := 0, pos := "exact.go:1316", after := #[{ on := 0, ground := Ground.data }, { on := 1, ground := Ground.data }], guard := none } : Oper) :: ({ dst := some 20, op := Op.load 119 (Operand.tmp 19), type := 119, pos := "exact.go:1316", after := #[{ on := 2, ground := Ground.data }], guard := none } : Oper) :: ({ dst := some 21, op := Op.move (Operand.tmp 1), type := 50, pos := "exact.go:1316", after := #[], guard := none } : Oper) :: ({ dst := some 22, op := Op.move (Operand.tmp 5), type := 3, pos := "exact.go:1316", after := #[], guard := none } : Oper) :: ({ dst := some 23, op := Op.indexAddr 50 (Operand.tmp 21) (Operand.tmp 22), type := 0, pos := "exact.go:1316", after := #[{ on := 4, ground := Ground.data }, { on := 5, ground := Ground.data }], guard := none } : Oper) :: ({ dst := some 24, op := Op.load 119 (Operand.tmp 23), type := 119, pos := "exact.go:1316", after := #[{ on := 6, ground := Ground.data }], guard := none } : Oper) :: ({ dst := some 25, op := Op.call { callee := Callee.value (Operand.func 60), args := #[Operand.tmp 20, Operand.tmp 24], argTypes := #[119, 119] }, type := 4, pos := "exact.go:1316", after := #[{ on := 3, ground := Ground.data }, { on := 7, ground := Ground.data }], guard := none } : Oper) :: ({ dst := some 26, op := Op.unOp UnOp.not 4 (Operand.tmp 25), type := 4, pos := "exact.go:1316", after := #[{ on := 8, ground := Ground.data }], guard := none } : Oper) :: [])) true).wp Try.prog Q ⟨#[.slice (some ⟨ga, oa, none⟩) n ca, .slice (some ⟨gb, ob, none⟩) n cb, t2, t3, t4, .int .i64 (j : Nat), t6, t7, t8, t9, t10, t11, t12, t13, t14, t15, t16, t17, t18, t19, t20, t21, t22, t23, t24, t25, t26], fs⟩ w := by
  have hS : ∀ w', Below w.heap.size w w' → (w'.rangeAt ga (oa + j * 5) cs ∧ w'.rangeAt gb (ob + j * 5) ds) := fun w' hb => ⟨range_below ra hb hga, range_below rb hb hgb⟩
  have hj1 : (j : Int) < (n : Int) := by omega
  have B : Below w.heap.size w w.drew := drew_bel w
  refine wp_region_noPanic ?_
  refine wp_region_held_drew (S := fun w' => w'.rangeAt ga (oa + j * 5) cs ∧ w'.rangeAt gb (ob + j * 5) ds) (by kernel_rfl) (hS _ B) (fun hHeld => ?_)
  refine wpAnyH_take (i := 0) (oi := ({ dst := some 17, op := Op.move (Operand.tmp 0), type := 50, pos := "exact.go:1316", after := #[], guard := none } : Oper)) (v := .slice (some ⟨ga, oa, none⟩) n ca) rfl (by kernel_rfl) (by kernel_rfl) (by kernel_rfl) (fun _ _ _ h => h) (Or.inl ⟨by rfl, by intro w hSw; go_simp⟩) (by assumption) ?_
  simp only [Act.put, List.setIfInBounds_toArray, List.set_cons_zero, List.set_cons_succ]
  refine wpAnyH_take (i := 1) (oi := ({ dst := some 18, op := Op.move (Operand.tmp 5), type := 3, pos := "exact.go:1316", after := #[], guard := none } : Oper)) (v := .int .i64 (j : Nat)) rfl (by kernel_rfl) (by kernel_rfl) (by kernel_rfl) (fun _ _ _ h => h) (Or.inl ⟨by rfl, by intro w hSw; go_simp⟩) (by assumption) ?_
  simp only [Act.put, List.setIfInBounds_toArray, List.set_cons_zero, List.set_cons_succ]
  refine wpAnyH_take (i := 2) (oi := ({ dst := some 19, op := Op.indexAddr 50 (Operand.tmp 17) (Operand.tmp 18), type := 0, pos := "exact.go:1316", after := #[{ on := 0, ground := Ground.data }, { on := 1, ground := Ground.data }], guard := none } : Oper)) (v := .pointer (some ⟨ga, oa + j * 5, none⟩)) rfl (by kernel_rfl) (by kernel_rfl) (by kernel_rfl) (fun _ _ _ h => h) (Or.inl ⟨by rfl, by intro w hSw; go_simp⟩) (by assumption) ?_
  simp only [Act.put, List.setIfInBounds_toArray, List.set_cons_zero, List.set_cons_succ]
  refine wpAnyH_take (i := 3) (oi := ({ dst := some 20, op := Op.load 119 (Operand.tmp 19), type := 119, pos := "exact.go:1316", after := #[{ on := 2, ground := Ground.data }], guard := none } : Oper)) (v := .agg cs.toArray) rfl (by kernel_rfl) (by kernel_rfl) (by kernel_rfl) (fun _ _ _ h => h) (yieldsIf_load_mid (by rfl) 119 _ rfl ga (oa + j * 5) rfl cs _ (fun _ h => h.1) Try.underlying119 rfl (by rw [hcs]; exact Try.sizeLk)) (by assumption) ?_
  simp only [Act.put, List.setIfInBounds_toArray, List.set_cons_zero, List.set_cons_succ]
  refine wpAnyH_take (i := 4) (oi := ({ dst := some 21, op := Op.move (Operand.tmp 1), type := 50, pos := "exact.go:1316", after := #[], guard := none } : Oper)) (v := .slice (some ⟨gb, ob, none⟩) n cb) rfl (by kernel_rfl) (by kernel_rfl) (by kernel_rfl) (fun _ _ _ h => h) (Or.inl ⟨by rfl, by intro w hSw; go_simp⟩) (by assumption) ?_
  simp only [Act.put, List.setIfInBounds_toArray, List.set_cons_zero, List.set_cons_succ]
  refine wpAnyH_take (i := 5) (oi := ({ dst := some 22, op := Op.move (Operand.tmp 5), type := 3, pos := "exact.go:1316", after := #[], guard := none } : Oper)) (v := .int .i64 (j : Nat)) rfl (by kernel_rfl) (by kernel_rfl) (by kernel_rfl) (fun _ _ _ h => h) (Or.inl ⟨by rfl, by intro w hSw; go_simp⟩) (by assumption) ?_
  simp only [Act.put, List.setIfInBounds_toArray, List.set_cons_zero, List.set_cons_succ]
  refine wpAnyH_take (i := 6) (oi := ({ dst := some 23, op := Op.indexAddr 50 (Operand.tmp 21) (Operand.tmp 22), type := 0, pos := "exact.go:1316", after := #[{ on := 4, ground := Ground.data }, { on := 5, ground := Ground.data }], guard := none } : Oper)) (v := .pointer (some ⟨gb, ob + j * 5, none⟩)) rfl (by kernel_rfl) (by kernel_rfl) (by kernel_rfl) (fun _ _ _ h => h) (Or.inl ⟨by rfl, by intro w hSw; go_simp⟩) (by assumption) ?_
  simp only [Act.put, List.setIfInBounds_toArray, List.set_cons_zero, List.set_cons_succ]
  refine wpAnyH_take (i := 7) (oi := ({ dst := some 24, op := Op.load 119 (Operand.tmp 23), type := 119, pos := "exact.go:1316", after := #[{ on := 6, ground := Ground.data }], guard := none } : Oper)) (v := .agg ds.toArray) rfl (by kernel_rfl) (by kernel_rfl) (by kernel_rfl) (fun _ _ _ h => h) (yieldsIf_load_mid (by rfl) 119 _ rfl gb (ob + j * 5) rfl ds _ (fun _ h => h.2) Try.underlying119 rfl (by rw [hds]; exact Try.sizeLk)) (by assumption) ?_
  simp only [Act.put, List.setIfInBounds_toArray, List.set_cons_zero, List.set_cons_succ]
  refine wpAnyH_ready (rs := [8]) (by kernel_rfl) (by simp) ?_
  refine AllReadyH.cons rfl (fun K hK => ?_) AllReadyH.nil
  go_simp
  go_wp2_with (go_at_call 60; with_reducible refine (HC _ B).mono ?_; rintro e wE ⟨rfl, hb⟩)
  replace B := B.trans (hb.mono B.size)
  clear hb
  refine hK.out _ _ (hS _ B) (fun hHeld => ?_)
  clear hK
  refine wpAnyH_take (i := 9) (oi := ({ dst := some 26, op := Op.unOp UnOp.not 4 (Operand.tmp 25), type := 4, pos := "exact.go:1316", after := #[{ on := 8, ground := Ground.data }], guard := none } : Oper)) (v := .bool false) rfl (by kernel_rfl) (by kernel_rfl) (by kernel_rfl) (fun _ _ _ h => h) (Or.inl ⟨by rfl, by intro w hSw; go_simp⟩) (by assumption) ?_
  simp only [Act.put, List.setIfInBounds_toArray, List.set_cons_zero, List.set_cons_succ]
  refine wpAnyH_done (by kernel_rfl) ?_ _
  exact NoPanic.normal (hQ _ _ _ _ _ _ _ _ _ _ B)


set_option maxRecDepth 100000 in
set_option maxHeartbeats 6400000 in
theorem eqr_Gm {t2 t3 t4 t6 t7 t8 t9 t10 t11 t12 t13 t14 t15 t16 t17 t18 t19 t20 t21 t22 t23 t24 t25 t26 : Value} {fs : List Deferred} (ga oa gb ob n ca cb j : Nat) (cs ds : List Value) (w : World) (Q : Exit → Act → World → Prop)
    (hj : j < n) (hcs : cs.length = 5) (hds : ds.length = 5) (hga : ga < w.heap.size) (hgb : gb < w.heap.size) (ra : w.rangeAt ga (oa + j * 5) cs) (rb : w.rangeAt gb (ob + j * 5) ds) (HC : ∀ W, Below w.heap.size w W → Calls Try.prog 61 #[.agg cs.toArray, .agg ds.toArray] W fun e w' => e = .returned (.bool true) ∧ Below W.heap.size W w')
    (hQ : ∀ u17 u18 u19 u20 u21 u22 u23 u24 u25 (W : World), Below w.heap.size w W → Q .normal ⟨#[.slice (some ⟨ga, oa, none⟩) n ca, .slice (some ⟨gb, ob, none⟩) n cb, t2, t3, t4, .int .i64 (j : Nat), t6, t7, t8, t9, t10, t11, t12, t13, t14, t15, t16, u17, u18, u19, u20, u21, u22, u23, u24, u25, .bool false], fs⟩ W) :
    (Code.region 6 (List.toArray (({ dst := some 17, op := Op.move (Operand.tmp 0), type := 51, pos := "exact.go:1344", after := #[], guard := none } : Oper) :: ({ dst := some 18, op := Op.move (Operand.tmp 5), type := 3, pos := "exact.go:1344", after := #[], guard := none } : Oper) :: ({ dst := some 19, op := Op.indexAddr 51 (Operand.tmp 17) (Operand.tmp 18), type := 0, pos := "exact.go:1344", after := #[{ on := 0, ground := Ground.data }, { on := 1, ground := Ground.data }], guard := none } : Oper) :: ({ dst := some 20, op := Op.load 123 (Operand.tmp 19), type := 123, pos := "exact.go:1344", after := #[{ on := 2, ground := Ground.data }], guard := none } : Oper) :: ({ dst := some 21, op := Op.move (Operand.tmp 1), type := 51, pos := "exact.go:1344", after := #[], guard := none } : Oper) :: ({ dst := some 22, op := Op.move (Operand.tmp 5), type := 3, pos := "exact.go:1344", after := #[], guard := none } : Oper) :: ({ dst := some 23, op := Op.indexAddr 51 (Operand.tmp 21) (Operand.tmp 22), type := 0, pos := "exact.go:1344", after := #[{ on := 4, ground := Ground.data }, { on := 5, ground := Ground.data }], guard := none } : Oper) :: ({ dst := some 24, op := Op.load 123 (Operand.tmp 23), type := 123, pos := "exact.go:1344", after := #[{ on := 6, ground := Ground.data }], guard := none } : Oper) :: ({ dst := some 25, op := Op.call { callee := Callee.value (Operand.func 61), args := #[Operand.tmp 20, Operand.tmp 24], argTypes := #[123, 123] }, type := 4, pos := "exact.go:1344", after := #[{ on := 3, ground := Ground.data }, { on := 7, ground := Ground.data }], guard := none } : Oper) :: ({ dst := some 26, op := Op.unOp UnOp.not 4 (Operand.tmp 25), type := 4, pos := "exact.go:1344", after := #[{ on := 8, ground := Ground.data }], guard := none } : Oper) :: [])) true).wp Try.prog Q ⟨#[.slice (some ⟨ga, oa, none⟩) n ca, .slice (some ⟨gb, ob, none⟩) n cb, t2, t3, t4, .int .i64 (j : Nat), t6, t7, t8, t9, t10, t11, t12, t13, t14, t15, t16, t17, t18, t19, t20, t21, t22, t23, t24, t25, t26], fs⟩ w := by
  have hS : ∀ w', Below w.heap.size w w' → (w'.rangeAt ga (oa + j * 5) cs ∧ w'.rangeAt gb (ob + j * 5) ds) := fun w' hb => ⟨range_below ra hb hga, range_below rb hb hgb⟩
  have hj1 : (j : Int) < (n : Int) := by omega
  have B : Below w.heap.size w w.drew := drew_bel w
  refine wp_region_noPanic ?_
  refine wp_region_held_drew (S := fun w' => w'.rangeAt ga (oa + j * 5) cs ∧ w'.rangeAt gb (ob + j * 5) ds) (by kernel_rfl) (hS _ B) (fun hHeld => ?_)
  refine wpAnyH_take (i := 0) (oi := ({ dst := some 17, op := Op.move (Operand.tmp 0), type := 51, pos := "exact.go:1344", after := #[], guard := none } : Oper)) (v := .slice (some ⟨ga, oa, none⟩) n ca) rfl (by kernel_rfl) (by kernel_rfl) (by kernel_rfl) (fun _ _ _ h => h) (Or.inl ⟨by rfl, by intro w hSw; go_simp⟩) (by assumption) ?_
  simp only [Act.put, List.setIfInBounds_toArray, List.set_cons_zero, List.set_cons_succ]
  refine wpAnyH_take (i := 1) (oi := ({ dst := some 18, op := Op.move (Operand.tmp 5), type := 3, pos := "exact.go:1344", after := #[], guard := none } : Oper)) (v := .int .i64 (j : Nat)) rfl (by kernel_rfl) (by kernel_rfl) (by kernel_rfl) (fun _ _ _ h => h) (Or.inl ⟨by rfl, by intro w hSw; go_simp⟩) (by assumption) ?_
  simp only [Act.put, List.setIfInBounds_toArray, List.set_cons_zero, List.set_cons_succ]
  refine wpAnyH_take (i := 2) (oi := ({ dst := some 19, op := Op.indexAddr 51 (Operand.tmp 17) (Operand.tmp 18), type := 0, pos := "exact.go:1344", after := #[{ on := 0, ground := Ground.data }, { on := 1, ground := Ground.data }], guard := none } : Oper)) (v := .pointer (some ⟨ga, oa + j * 5, none⟩)) rfl (by kernel_rfl) (by kernel_rfl) (by kernel_rfl) (fun _ _ _ h => h) (Or.inl ⟨by rfl, by intro w hSw; go_simp⟩) (by assumption) ?_
  simp only [Act.put, List.setIfInBounds_toArray, List.set_cons_zero, List.set_cons_succ]
  refine wpAnyH_take (i := 3) (oi := ({ dst := some 20, op := Op.load 123 (Operand.tmp 19), type := 123, pos := "exact.go:1344", after := #[{ on := 2, ground := Ground.data }], guard := none } : Oper)) (v := .agg cs.toArray) rfl (by kernel_rfl) (by kernel_rfl) (by kernel_rfl) (fun _ _ _ h => h) (yieldsIf_load_mid (by rfl) 123 _ rfl ga (oa + j * 5) rfl cs _ (fun _ h => h.1) Try.underlying123 rfl (by rw [hcs]; exact Try.sizeGm)) (by assumption) ?_
  simp only [Act.put, List.setIfInBounds_toArray, List.set_cons_zero, List.set_cons_succ]
  refine wpAnyH_take (i := 4) (oi := ({ dst := some 21, op := Op.move (Operand.tmp 1), type := 51, pos := "exact.go:1344", after := #[], guard := none } : Oper)) (v := .slice (some ⟨gb, ob, none⟩) n cb) rfl (by kernel_rfl) (by kernel_rfl) (by kernel_rfl) (fun _ _ _ h => h) (Or.inl ⟨by rfl, by intro w hSw; go_simp⟩) (by assumption) ?_
  simp only [Act.put, List.setIfInBounds_toArray, List.set_cons_zero, List.set_cons_succ]
  refine wpAnyH_take (i := 5) (oi := ({ dst := some 22, op := Op.move (Operand.tmp 5), type := 3, pos := "exact.go:1344", after := #[], guard := none } : Oper)) (v := .int .i64 (j : Nat)) rfl (by kernel_rfl) (by kernel_rfl) (by kernel_rfl) (fun _ _ _ h => h) (Or.inl ⟨by rfl, by intro w hSw; go_simp⟩) (by assumption) ?_
  simp only [Act.put, List.setIfInBounds_toArray, List.set_cons_zero, List.set_cons_succ]
  refine wpAnyH_take (i := 6) (oi := ({ dst := some 23, op := Op.indexAddr 51 (Operand.tmp 21) (Operand.tmp 22), type := 0, pos := "exact.go:1344", after := #[{ on := 4, ground := Ground.data }, { on := 5, ground := Ground.data }], guard := none } : Oper)) (v := .pointer (some ⟨gb, ob + j * 5, none⟩)) rfl (by kernel_rfl) (by kernel_rfl) (by kernel_rfl) (fun _ _ _ h => h) (Or.inl ⟨by rfl, by intro w hSw; go_simp⟩) (by assumption) ?_
  simp only [Act.put, List.setIfInBounds_toArray, List.set_cons_zero, List.set_cons_succ]
  refine wpAnyH_take (i := 7) (oi := ({ dst := some 24, op := Op.load 123 (Operand.tmp 23), type := 123, pos := "exact.go:1344", after := #[{ on := 6, ground := Ground.data }], guard := none } : Oper)) (v := .agg ds.toArray) rfl (by kernel_rfl) (by kernel_rfl) (by kernel_rfl) (fun _ _ _ h => h) (yieldsIf_load_mid (by rfl) 123 _ rfl gb (ob + j * 5) rfl ds _ (fun _ h => h.2) Try.underlying123 rfl (by rw [hds]; exact Try.sizeGm)) (by assumption) ?_
  simp only [Act.put, List.setIfInBounds_toArray, List.set_cons_zero, List.set_cons_succ]
  refine wpAnyH_ready (rs := [8]) (by kernel_rfl) (by simp) ?_
  refine AllReadyH.cons rfl (fun K hK => ?_) AllReadyH.nil
  go_simp
  go_wp2_with (go_at_call 61; with_reducible refine (HC _ B).mono ?_; rintro e wE ⟨rfl, hb⟩)
  replace B := B.trans (hb.mono B.size)
  clear hb
  refine hK.out _ _ (hS _ B) (fun hHeld => ?_)
  clear hK
  refine wpAnyH_take (i := 9) (oi := ({ dst := some 26, op := Op.unOp UnOp.not 4 (Operand.tmp 25), type := 4, pos := "exact.go:1344", after := #[{ on := 8, ground := Ground.data }], guard := none } : Oper)) (v := .bool false) rfl (by kernel_rfl) (by kernel_rfl) (by kernel_rfl) (fun _ _ _ h => h) (Or.inl ⟨by rfl, by intro w hSw; go_simp⟩) (by assumption) ?_
  simp only [Act.put, List.setIfInBounds_toArray, List.set_cons_zero, List.set_cons_succ]
  refine wpAnyH_done (by kernel_rfl) ?_ _
  exact NoPanic.normal (hQ _ _ _ _ _ _ _ _ _ _ B)


set_option maxRecDepth 100000 in
set_option maxHeartbeats 6400000 in
theorem eqr_Pd {t2 t3 t4 t6 t7 t8 t9 t10 t11 t12 t13 t14 t15 t16 t17 t18 t19 t20 t21 t22 t23 t24 t25 t26 : Value} {fs : List Deferred} (ga oa gb ob n ca cb j : Nat) (cs ds : List Value) (w : World) (Q : Exit → Act → World → Prop)
    (hj : j < n) (hcs : cs.length = 3) (hds : ds.length = 3) (hga : ga < w.heap.size) (hgb : gb < w.heap.size) (ra : w.rangeAt ga (oa + j * 3) cs) (rb : w.rangeAt gb (ob + j * 3) ds) (HC : ∀ W, Below w.heap.size w W → Calls Try.prog 62 #[.agg cs.toArray, .agg ds.toArray] W fun e w' => e = .returned (.bool true) ∧ Below W.heap.size W w')
    (hQ : ∀ u17 u18 u19 u20 u21 u22 u23 u24 u25 (W : World), Below w.heap.size w W → Q .normal ⟨#[.slice (some ⟨ga, oa, none⟩) n ca, .slice (some ⟨gb, ob, none⟩) n cb, t2, t3, t4, .int .i64 (j : Nat), t6, t7, t8, t9, t10, t11, t12, t13, t14, t15, t16, u17, u18, u19, u20, u21, u22, u23, u24, u25, .bool false], fs⟩ W) :
    (Code.region 6 (List.toArray (({ dst := some 17, op := Op.move (Operand.tmp 0), type := 52, pos := "exact.go:1369", after := #[], guard := none } : Oper) :: ({ dst := some 18, op := Op.move (Operand.tmp 5), type := 3, pos := "exact.go:1369", after := #[], guard := none } : Oper) :: ({ dst := some 19, op := Op.indexAddr 52 (Operand.tmp 17) (Operand.tmp 18), type := 0, pos := "exact.go:1369", after := #[{ on := 0, ground := Ground.data }, { on := 1, ground := Ground.data }], guard := none } : Oper) :: ({ dst := some 20, op := Op.load 125 (Operand.tmp 19), type := 125, pos := "exact.go:1369", after := #[{ on := 2, ground := Ground.data }], guard := none } : Oper) :: ({ dst := some 21, op := Op.move (Operand.tmp 1), type := 52, pos := "exact.go:1369", after := #[], guard := none } : Oper) :: ({ dst := some 22, op := Op.move (Operand.tmp 5), type := 3, pos := "exact.go:1369", after := #[], guard := none } : Oper) :: ({ dst := some 23, op := Op.indexAddr 52 (Operand.tmp 21) (Operand.tmp 22), type := 0, pos := "exact.go:1369", after := #[{ on := 4, ground := Ground.data }, { on := 5, ground := Ground.data }], guard := none } : Oper) :: ({ dst := some 24, op := Op.load 125 (Operand.tmp 23), type := 125, pos := "exact.go:1369", after := #[{ on := 6, ground := Ground.data }], guard := none } : Oper) :: ({ dst := some 25, op := Op.call { callee := Callee.value (Operand.func 62), args := #[Operand.tmp 20, Operand.tmp 24], argTypes := #[125, 125] }, type := 4, pos := "exact.go:1369", after := #[{ on := 3, ground := Ground.data }, { on := 7, ground := Ground.data }], guard := none } : Oper) :: ({ dst := some 26, op := Op.unOp UnOp.not 4 (Operand.tmp 25), type := 4, pos := "exact.go:1369", after := #[{ on := 8, ground := Ground.data }], guard := none } : Oper) :: [])) true).wp Try.prog Q ⟨#[.slice (some ⟨ga, oa, none⟩) n ca, .slice (some ⟨gb, ob, none⟩) n cb, t2, t3, t4, .int .i64 (j : Nat), t6, t7, t8, t9, t10, t11, t12, t13, t14, t15, t16, t17, t18, t19, t20, t21, t22, t23, t24, t25, t26], fs⟩ w := by
  have hS : ∀ w', Below w.heap.size w w' → (w'.rangeAt ga (oa + j * 3) cs ∧ w'.rangeAt gb (ob + j * 3) ds) := fun w' hb => ⟨range_below ra hb hga, range_below rb hb hgb⟩
  have hj1 : (j : Int) < (n : Int) := by omega
  have B : Below w.heap.size w w.drew := drew_bel w
  refine wp_region_noPanic ?_
  refine wp_region_held_drew (S := fun w' => w'.rangeAt ga (oa + j * 3) cs ∧ w'.rangeAt gb (ob + j * 3) ds) (by kernel_rfl) (hS _ B) (fun hHeld => ?_)
  refine wpAnyH_take (i := 0) (oi := ({ dst := some 17, op := Op.move (Operand.tmp 0), type := 52, pos := "exact.go:1369", after := #[], guard := none } : Oper)) (v := .slice (some ⟨ga, oa, none⟩) n ca) rfl (by kernel_rfl) (by kernel_rfl) (by kernel_rfl) (fun _ _ _ h => h) (Or.inl ⟨by rfl, by intro w hSw; go_simp⟩) (by assumption) ?_
  simp only [Act.put, List.setIfInBounds_toArray, List.set_cons_zero, List.set_cons_succ]
  refine wpAnyH_take (i := 1) (oi := ({ dst := some 18, op := Op.move (Operand.tmp 5), type := 3, pos := "exact.go:1369", after := #[], guard := none } : Oper)) (v := .int .i64 (j : Nat)) rfl (by kernel_rfl) (by kernel_rfl) (by kernel_rfl) (fun _ _ _ h => h) (Or.inl ⟨by rfl, by intro w hSw; go_simp⟩) (by assumption) ?_
  simp only [Act.put, List.setIfInBounds_toArray, List.set_cons_zero, List.set_cons_succ]
  refine wpAnyH_take (i := 2) (oi := ({ dst := some 19, op := Op.indexAddr 52 (Operand.tmp 17) (Operand.tmp 18), type := 0, pos := "exact.go:1369", after := #[{ on := 0, ground := Ground.data }, { on := 1, ground := Ground.data }], guard := none } : Oper)) (v := .pointer (some ⟨ga, oa + j * 3, none⟩)) rfl (by kernel_rfl) (by kernel_rfl) (by kernel_rfl) (fun _ _ _ h => h) (Or.inl ⟨by rfl, by intro w hSw; go_simp⟩) (by assumption) ?_
  simp only [Act.put, List.setIfInBounds_toArray, List.set_cons_zero, List.set_cons_succ]
  refine wpAnyH_take (i := 3) (oi := ({ dst := some 20, op := Op.load 125 (Operand.tmp 19), type := 125, pos := "exact.go:1369", after := #[{ on := 2, ground := Ground.data }], guard := none } : Oper)) (v := .agg cs.toArray) rfl (by kernel_rfl) (by kernel_rfl) (by kernel_rfl) (fun _ _ _ h => h) (yieldsIf_load_mid (by rfl) 125 _ rfl ga (oa + j * 3) rfl cs _ (fun _ h => h.1) Try.underlying125 rfl (by rw [hcs]; exact Try.sizePd)) (by assumption) ?_
  simp only [Act.put, List.setIfInBounds_toArray, List.set_cons_zero, List.set_cons_succ]
  refine wpAnyH_take (i := 4) (oi := ({ dst := some 21, op := Op.move (Operand.tmp 1), type := 52, pos := "exact.go:1369", after := #[], guard := none } : Oper)) (v := .slice (some ⟨gb, ob, none⟩) n cb) rfl (by kernel_rfl) (by kernel_rfl) (by kernel_rfl) (fun _ _ _ h => h) (Or.inl ⟨by rfl, by intro w hSw; go_simp⟩) (by assumption) ?_
  simp only [Act.put, List.setIfInBounds_toArray, List.set_cons_zero, List.set_cons_succ]
  refine wpAnyH_take (i := 5) (oi := ({ dst := some 22, op := Op.move (Operand.tmp 5), type := 3, pos := "exact.go:1369", after := #[], guard := none } : Oper)) (v := .int .i64 (j : Nat)) rfl (by kernel_rfl) (by kernel_rfl) (by kernel_rfl) (fun _ _ _ h => h) (Or.inl ⟨by rfl, by intro w hSw; go_simp⟩) (by assumption) ?_
  simp only [Act.put, List.setIfInBounds_toArray, List.set_cons_zero, List.set_cons_succ]
  refine wpAnyH_take (i := 6) (oi := ({ dst := some 23, op := Op.indexAddr 52 (Operand.tmp 21) (Operand.tmp 22), type := 0, pos := "exact.go:1369", after := #[{ on := 4, ground := Ground.data }, { on := 5, ground := Ground.data }], guard := none } : Oper)) (v := .pointer (some ⟨gb, ob + j * 3, none⟩)) rfl (by kernel_rfl) (by kernel_rfl) (by kernel_rfl) (fun _ _ _ h => h) (Or.inl ⟨by rfl, by intro w hSw; go_simp⟩) (by assumption) ?_
  simp only [Act.put, List.setIfInBounds_toArray, List.set_cons_zero, List.set_cons_succ]
  refine wpAnyH_take (i := 7) (oi := ({ dst := some 24, op := Op.load 125 (Operand.tmp 23), type := 125, pos := "exact.go:1369", after := #[{ on := 6, ground := Ground.data }], guard := none } : Oper)) (v := .agg ds.toArray) rfl (by kernel_rfl) (by kernel_rfl) (by kernel_rfl) (fun _ _ _ h => h) (yieldsIf_load_mid (by rfl) 125 _ rfl gb (ob + j * 3) rfl ds _ (fun _ h => h.2) Try.underlying125 rfl (by rw [hds]; exact Try.sizePd)) (by assumption) ?_
  simp only [Act.put, List.setIfInBounds_toArray, List.set_cons_zero, List.set_cons_succ]
  refine wpAnyH_ready (rs := [8]) (by kernel_rfl) (by simp) ?_
  refine AllReadyH.cons rfl (fun K hK => ?_) AllReadyH.nil
  go_simp
  go_wp2_with (go_at_call 62; with_reducible refine (HC _ B).mono ?_; rintro e wE ⟨rfl, hb⟩)
  replace B := B.trans (hb.mono B.size)
  clear hb
  refine hK.out _ _ (hS _ B) (fun hHeld => ?_)
  clear hK
  refine wpAnyH_take (i := 9) (oi := ({ dst := some 26, op := Op.unOp UnOp.not 4 (Operand.tmp 25), type := 4, pos := "exact.go:1369", after := #[{ on := 8, ground := Ground.data }], guard := none } : Oper)) (v := .bool false) rfl (by kernel_rfl) (by kernel_rfl) (by kernel_rfl) (fun _ _ _ h => h) (Or.inl ⟨by rfl, by intro w hSw; go_simp⟩) (by assumption) ?_
  simp only [Act.put, List.setIfInBounds_toArray, List.set_cons_zero, List.set_cons_succ]
  refine wpAnyH_done (by kernel_rfl) ?_ _
  exact NoPanic.normal (hQ _ _ _ _ _ _ _ _ _ _ B)


set_option maxRecDepth 100000 in
set_option maxHeartbeats 6400000 in
theorem eqr_Ss {t2 t3 t4 t6 t7 t8 t9 t10 t11 t12 t13 t14 t15 t16 t17 t18 t19 t20 t21 t22 t23 t24 t25 t26 : Value} {fs : List Deferred} (ga oa gb ob n ca cb j : Nat) (va vb : Value) (w : World) (Q : Exit → Act → World → Prop)
    (hj : j < n) (hga : ga < w.heap.size) (hgb : gb < w.heap.size) (ra : w.cell? ⟨ga, oa + j, none⟩ = some va) (rb : w.cell? ⟨gb, ob + j, none⟩ = some vb) (HC : ∀ W, Below w.heap.size w W → Calls Try.prog 63 #[va, vb] W fun e w' => e = .returned (.bool true) ∧ Below W.heap.size W w')
    (hQ : ∀ u17 u18 u19 u20 u21 u22 u23 u24 u25 (W : World), Below w.heap.size w W → Q .normal ⟨#[.slice (some ⟨ga, oa, none⟩) n ca, .slice (some ⟨gb, ob, none⟩) n cb, t2, t3, t4, .int .i64 (j : Nat), t6, t7, t8, t9, t10, t11, t12, t13, t14, t15, t16, u17, u18, u19, u20, u21, u22, u23, u24, u25, .bool false], fs⟩ W) :
    (Code.region 6 (List.toArray (({ dst := some 17, op := Op.move (Operand.tmp 0), type := 37, pos := "exact.go:1381", after := #[], guard := none } : Oper) :: ({ dst := some 18, op := Op.move (Operand.tmp 5), type := 3, pos := "exact.go:1381", after := #[], guard := none } : Oper) :: ({ dst := some 19, op := Op.indexAddr 37 (Operand.tmp 17) (Operand.tmp 18), type := 0, pos := "exact.go:1381", after := #[{ on := 0, ground := Ground.data }, { on := 1, ground := Ground.data }], guard := none } : Oper) :: ({ dst := some 20, op := Op.load 70 (Operand.tmp 19), type := 70, pos := "exact.go:1381", after := #[{ on := 2, ground := Ground.data }], guard := none } : Oper) :: ({ dst := some 21, op := Op.move (Operand.tmp 1), type := 37, pos := "exact.go:1381", after := #[], guard := none } : Oper) :: ({ dst := some 22, op := Op.move (Operand.tmp 5), type := 3, pos := "exact.go:1381", after := #[], guard := none } : Oper) :: ({ dst := some 23, op := Op.indexAddr 37 (Operand.tmp 21) (Operand.tmp 22), type := 0, pos := "exact.go:1381", after := #[{ on := 4, ground := Ground.data }, { on := 5, ground := Ground.data }], guard := none } : Oper) :: ({ dst := some 24, op := Op.load 70 (Operand.tmp 23), type := 70, pos := "exact.go:1381", after := #[{ on := 6, ground := Ground.data }], guard := none } : Oper) :: ({ dst := some 25, op := Op.call { callee := Callee.value (Operand.func 63), args := #[Operand.tmp 20, Operand.tmp 24], argTypes := #[70, 70] }, type := 4, pos := "exact.go:1381", after := #[{ on := 3, ground := Ground.data }, { on := 7, ground := Ground.data }], guard := none } : Oper) :: ({ dst := some 26, op := Op.unOp UnOp.not 4 (Operand.tmp 25), type := 4, pos := "exact.go:1381", after := #[{ on := 8, ground := Ground.data }], guard := none } : Oper) :: [])) true).wp Try.prog Q ⟨#[.slice (some ⟨ga, oa, none⟩) n ca, .slice (some ⟨gb, ob, none⟩) n cb, t2, t3, t4, .int .i64 (j : Nat), t6, t7, t8, t9, t10, t11, t12, t13, t14, t15, t16, t17, t18, t19, t20, t21, t22, t23, t24, t25, t26], fs⟩ w := by
  have hS : ∀ w', Below w.heap.size w w' → (w'.cell? ⟨ga, oa + j, none⟩ = some va ∧ w'.cell? ⟨gb, ob + j, none⟩ = some vb) := fun w' hb => ⟨(hb.cell (p := ⟨ga, oa + j, none⟩) hga).trans ra, (hb.cell (p := ⟨gb, ob + j, none⟩) hgb).trans rb⟩
  have hj1 : (j : Int) < (n : Int) := by omega
  have B : Below w.heap.size w w.drew := drew_bel w
  refine wp_region_noPanic ?_
  refine wp_region_held_drew (S := fun w' => w'.cell? ⟨ga, oa + j, none⟩ = some va ∧ w'.cell? ⟨gb, ob + j, none⟩ = some vb) (by kernel_rfl) (hS _ B) (fun hHeld => ?_)
  refine wpAnyH_take (i := 0) (oi := ({ dst := some 17, op := Op.move (Operand.tmp 0), type := 37, pos := "exact.go:1381", after := #[], guard := none } : Oper)) (v := .slice (some ⟨ga, oa, none⟩) n ca) rfl (by kernel_rfl) (by kernel_rfl) (by kernel_rfl) (fun _ _ _ h => h) (Or.inl ⟨by rfl, by intro w hSw; go_simp⟩) (by assumption) ?_
  simp only [Act.put, List.setIfInBounds_toArray, List.set_cons_zero, List.set_cons_succ]
  refine wpAnyH_take (i := 1) (oi := ({ dst := some 18, op := Op.move (Operand.tmp 5), type := 3, pos := "exact.go:1381", after := #[], guard := none } : Oper)) (v := .int .i64 (j : Nat)) rfl (by kernel_rfl) (by kernel_rfl) (by kernel_rfl) (fun _ _ _ h => h) (Or.inl ⟨by rfl, by intro w hSw; go_simp⟩) (by assumption) ?_
  simp only [Act.put, List.setIfInBounds_toArray, List.set_cons_zero, List.set_cons_succ]
  refine wpAnyH_take (i := 2) (oi := ({ dst := some 19, op := Op.indexAddr 37 (Operand.tmp 17) (Operand.tmp 18), type := 0, pos := "exact.go:1381", after := #[{ on := 0, ground := Ground.data }, { on := 1, ground := Ground.data }], guard := none } : Oper)) (v := .pointer (some ⟨ga, oa + j, none⟩)) rfl (by kernel_rfl) (by kernel_rfl) (by kernel_rfl) (fun _ _ _ h => h) (Or.inl ⟨by rfl, by intro w hSw; go_simp⟩) (by assumption) ?_
  simp only [Act.put, List.setIfInBounds_toArray, List.set_cons_zero, List.set_cons_succ]
  refine wpAnyH_take (i := 3) (oi := ({ dst := some 20, op := Op.load 70 (Operand.tmp 19), type := 70, pos := "exact.go:1381", after := #[{ on := 2, ground := Ground.data }], guard := none } : Oper)) (v := va) rfl (by kernel_rfl) (by kernel_rfl) (by kernel_rfl) (fun _ _ _ h => h) (Or.inl ⟨by rfl, by intro w' hSw; have c := hSw.1; go_simp⟩) (by assumption) ?_
  simp only [Act.put, List.setIfInBounds_toArray, List.set_cons_zero, List.set_cons_succ]
  refine wpAnyH_take (i := 4) (oi := ({ dst := some 21, op := Op.move (Operand.tmp 1), type := 37, pos := "exact.go:1381", after := #[], guard := none } : Oper)) (v := .slice (some ⟨gb, ob, none⟩) n cb) rfl (by kernel_rfl) (by kernel_rfl) (by kernel_rfl) (fun _ _ _ h => h) (Or.inl ⟨by rfl, by intro w hSw; go_simp⟩) (by assumption) ?_
  simp only [Act.put, List.setIfInBounds_toArray, List.set_cons_zero, List.set_cons_succ]
  refine wpAnyH_take (i := 5) (oi := ({ dst := some 22, op := Op.move (Operand.tmp 5), type := 3, pos := "exact.go:1381", after := #[], guard := none } : Oper)) (v := .int .i64 (j : Nat)) rfl (by kernel_rfl) (by kernel_rfl) (by kernel_rfl) (fun _ _ _ h => h) (Or.inl ⟨by rfl, by intro w hSw; go_simp⟩) (by assumption) ?_
  simp only [Act.put, List.setIfInBounds_toArray, List.set_cons_zero, List.set_cons_succ]
  refine wpAnyH_take (i := 6) (oi := ({ dst := some 23, op := Op.indexAddr 37 (Operand.tmp 21) (Operand.tmp 22), type := 0, pos := "exact.go:1381", after := #[{ on := 4, ground := Ground.data }, { on := 5, ground := Ground.data }], guard := none } : Oper)) (v := .pointer (some ⟨gb, ob + j, none⟩)) rfl (by kernel_rfl) (by kernel_rfl) (by kernel_rfl) (fun _ _ _ h => h) (Or.inl ⟨by rfl, by intro w hSw; go_simp⟩) (by assumption) ?_
  simp only [Act.put, List.setIfInBounds_toArray, List.set_cons_zero, List.set_cons_succ]
  refine wpAnyH_take (i := 7) (oi := ({ dst := some 24, op := Op.load 70 (Operand.tmp 23), type := 70, pos := "exact.go:1381", after := #[{ on := 6, ground := Ground.data }], guard := none } : Oper)) (v := vb) rfl (by kernel_rfl) (by kernel_rfl) (by kernel_rfl) (fun _ _ _ h => h) (Or.inl ⟨by rfl, by intro w' hSw; have c := hSw.2; go_simp⟩) (by assumption) ?_
  simp only [Act.put, List.setIfInBounds_toArray, List.set_cons_zero, List.set_cons_succ]
  refine wpAnyH_ready (rs := [8]) (by kernel_rfl) (by simp) ?_
  refine AllReadyH.cons rfl (fun K hK => ?_) AllReadyH.nil
  go_simp
  go_wp2_with (go_at_call 63; with_reducible refine (HC _ B).mono ?_; rintro e wE ⟨rfl, hb⟩)
  replace B := B.trans (hb.mono B.size)
  clear hb
  refine hK.out _ _ (hS _ B) (fun hHeld => ?_)
  clear hK
  refine wpAnyH_take (i := 9) (oi := ({ dst := some 26, op := Op.unOp UnOp.not 4 (Operand.tmp 25), type := 4, pos := "exact.go:1381", after := #[{ on := 8, ground := Ground.data }], guard := none } : Oper)) (v := .bool false) rfl (by kernel_rfl) (by kernel_rfl) (by kernel_rfl) (fun _ _ _ h => h) (Or.inl ⟨by rfl, by intro w hSw; go_simp⟩) (by assumption) ?_
  simp only [Act.put, List.setIfInBounds_toArray, List.set_cons_zero, List.set_cons_succ]
  refine wpAnyH_done (by kernel_rfl) ?_ _
  exact NoPanic.normal (hQ _ _ _ _ _ _ _ _ _ _ B)


end Go.Proofs.Ytllfojddaobpmaa
