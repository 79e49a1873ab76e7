/-
  The regions of the laws' eqHomeS, eqLinkS, eqGramS, eqParkedS, eqStringSS that draw their order. No condition.
-/
import Derived.Test.YtbhfooafhbfniaaGreatDoorSOwnM
import Derived.Test.YtbhfooafhbfniaaGreatDoorPrRegM
namespace Go.Proofs.YtbhfooafhbfniaaGreatDoor
open Go.RowKit
set_option maxRecDepth 100000 in
set_option maxHeartbeats 6400000 in
theorem eqr_Hm {t2 t3 t4 t6 t7 t8 t9 t10 t11 t12 t13 t14 t15 t16 t17 t18 t19 t20 t21 t22 t23 t24 t25 t26 : Value} {fs : List Deferred} (ga oa gb ob n ca cb j : Nat) (cs ds : List Value) (w : World) (Q : Exit → Act → World → Prop)
    (hj : j < n) (hcs : cs.length = 12) (hds : ds.length = 12) (hga : ga < w.heap.size) (hgb : gb < w.heap.size) (ra : w.rangeAt ga (oa + j * 12) cs) (rb : w.rangeAt gb (ob + j * 12) ds) (HC : ∀ W, Below w.heap.size w W → Calls Tryz.prog 60 #[.agg cs.toArray, .agg ds.toArray] W fun e w' => e = .returned (.bool true) ∧ Below W.heap.size W w')
    (hQ : ∀ u17 u18 u19 u20 u21 u22 u23 u24 u25 (W : World), Below w.heap.size w W → Q .normal ⟨#[.slice (some ⟨ga, oa, none⟩) n ca, .slice (some ⟨gb, ob, none⟩) n cb, t2, t3, t4, .int .i64 (j : Nat), t6, t7, t8, t9, t10, t11, t12, t13, t14, t15, t16, u17, u18, u19, u20, u21, u22, u23, u24, u25, .bool false], fs⟩ W) :
    (Code.region 6 (List.toArray (⟨some 17, .move (.tmp 0), 37, "exact.go:1304", #[], none⟩ :: ⟨some 18, .move (.tmp 5), 3, "exact.go:1304", #[], none⟩ :: ⟨some 19, .indexAddr 37 (.tmp 17) (.tmp 18), 0, "exact.go:1304", #[⟨0, .data⟩, ⟨1, .data⟩], none⟩ :: ⟨some 20, .load 65 (.tmp 19), 65, "exact.go:1304", #[⟨2, .data⟩], none⟩ :: ⟨some 21, .move (.tmp 1), 37, "exact.go:1304", #[], none⟩ :: ⟨some 22, .move (.tmp 5), 3, "exact.go:1304", #[], none⟩ :: ⟨some 23, .indexAddr 37 (.tmp 21) (.tmp 22), 0, "exact.go:1304", #[⟨4, .data⟩, ⟨5, .data⟩], none⟩ :: ⟨some 24, .load 65 (.tmp 23), 65, "exact.go:1304", #[⟨6, .data⟩], none⟩ :: ⟨some 25, .call { callee := .value (.func 60), args := #[.tmp 20, .tmp 24], argTypes := #[65, 65] }, 4, "exact.go:1304", #[⟨3, .data⟩, ⟨7, .data⟩], none⟩ :: ⟨some 26, .unOp .not 4 (.tmp 25), 4, "exact.go:1304", #[⟨8, .data⟩], none⟩ :: [])) true).wp Tryz.prog Q ⟨#[.slice (some ⟨ga, oa, none⟩) n ca, .slice (some ⟨gb, ob, none⟩) n cb, t2, t3, t4, .int .i64 (j : Nat), t6, t7, t8, t9, t10, t11, t12, t13, t14, t15, t16, t17, t18, t19, t20, t21, t22, t23, t24, t25, t26], fs⟩ w := by
  have hS : ∀ w', Below w.heap.size w w' → (w'.rangeAt ga (oa + j * 12) cs ∧ w'.rangeAt gb (ob + j * 12) ds) := fun w' hb => ⟨range_below ra hb hga, range_below rb hb hgb⟩
  have hj1 : (j : Int) < (n : Int) := by omega
  have B : Below w.heap.size w w.drew := drew_bel w
  refine wp_region_noPanic ?_
  refine wp_region_held_drew (S := fun w' => w'.rangeAt ga (oa + j * 12) cs ∧ w'.rangeAt gb (ob + j * 12) ds) (by kernel_rfl) (hS _ B) (fun hHeld => ?_)
  refine wpAnyH_take (i := 0) (oi := ⟨some 17, .move (.tmp 0), 37, "exact.go:1304", #[], none⟩) (v := .slice (some ⟨ga, oa, none⟩) n ca) rfl (by kernel_rfl) (by kernel_rfl) (by kernel_rfl) (fun _ _ _ h => h) (Or.inl ⟨by rfl, by intro w hSw; go_simp⟩) (by assumption) ?_
  simp only [Act.put, List.setIfInBounds_toArray, List.set_cons_zero, List.set_cons_succ]
  refine wpAnyH_take (i := 1) (oi := ⟨some 18, .move (.tmp 5), 3, "exact.go:1304", #[], none⟩) (v := .int .i64 (j : Nat)) rfl (by kernel_rfl) (by kernel_rfl) (by kernel_rfl) (fun _ _ _ h => h) (Or.inl ⟨by rfl, by intro w hSw; go_simp⟩) (by assumption) ?_
  simp only [Act.put, List.setIfInBounds_toArray, List.set_cons_zero, List.set_cons_succ]
  refine wpAnyH_take (i := 2) (oi := ⟨some 19, .indexAddr 37 (.tmp 17) (.tmp 18), 0, "exact.go:1304", #[⟨0, .data⟩, ⟨1, .data⟩], none⟩) (v := .pointer (some ⟨ga, oa + j * 12, none⟩)) rfl (by kernel_rfl) (by kernel_rfl) (by kernel_rfl) (fun _ _ _ h => h) (Or.inl ⟨by rfl, by intro w hSw; go_simp⟩) (by assumption) ?_
  simp only [Act.put, List.setIfInBounds_toArray, List.set_cons_zero, List.set_cons_succ]
  refine wpAnyH_take (i := 3) (oi := ⟨some 20, .load 65 (.tmp 19), 65, "exact.go:1304", #[⟨2, .data⟩], none⟩) (v := .agg cs.toArray) rfl (by kernel_rfl) (by kernel_rfl) (by kernel_rfl) (fun _ _ _ h => h) (yieldsIf_load_mid (by rfl) 65 _ rfl ga (oa + j * 12) rfl cs _ (fun _ h => h.1) Tryz.underlying65 rfl (by rw [hcs]; exact Tryz.sizeHm)) (by assumption) ?_
  simp only [Act.put, List.setIfInBounds_toArray, List.set_cons_zero, List.set_cons_succ]
  refine wpAnyH_take (i := 4) (oi := ⟨some 21, .move (.tmp 1), 37, "exact.go:1304", #[], none⟩) (v := .slice (some ⟨gb, ob, none⟩) n cb) rfl (by kernel_rfl) (by kernel_rfl) (by kernel_rfl) (fun _ _ _ h => h) (Or.inl ⟨by rfl, by intro w hSw; go_simp⟩) (by assumption) ?_
  simp only [Act.put, List.setIfInBounds_toArray, List.set_cons_zero, List.set_cons_succ]
  refine wpAnyH_take (i := 5) (oi := ⟨some 22, .move (.tmp 5), 3, "exact.go:1304", #[], none⟩) (v := .int .i64 (j : Nat)) rfl (by kernel_rfl) (by kernel_rfl) (by kernel_rfl) (fun _ _ _ h => h) (Or.inl ⟨by rfl, by intro w hSw; go_simp⟩) (by assumption) ?_
  simp only [Act.put, List.setIfInBounds_toArray, List.set_cons_zero, List.set_cons_succ]
  refine wpAnyH_take (i := 6) (oi := ⟨some 23, .indexAddr 37 (.tmp 21) (.tmp 22), 0, "exact.go:1304", #[⟨4, .data⟩, ⟨5, .data⟩], none⟩) (v := .pointer (some ⟨gb, ob + j * 12, none⟩)) rfl (by kernel_rfl) (by kernel_rfl) (by kernel_rfl) (fun _ _ _ h => h) (Or.inl ⟨by rfl, by intro w hSw; go_simp⟩) (by assumption) ?_
  simp only [Act.put, List.setIfInBounds_toArray, List.set_cons_zero, List.set_cons_succ]
  refine wpAnyH_take (i := 7) (oi := ⟨some 24, .load 65 (.tmp 23), 65, "exact.go:1304", #[⟨6, .data⟩], none⟩) (v := .agg ds.toArray) rfl (by kernel_rfl) (by kernel_rfl) (by kernel_rfl) (fun _ _ _ h => h) (yieldsIf_load_mid (by rfl) 65 _ rfl gb (ob + j * 12) rfl ds _ (fun _ h => h.2) Tryz.underlying65 rfl (by rw [hds]; exact Tryz.sizeHm)) (by assumption) ?_
  simp only [Act.put, List.setIfInBounds_toArray, List.set_cons_zero, List.set_cons_succ]
  refine wpAnyH_ready (rs := [8]) (by kernel_rfl) (by simp) ?_
  refine AllReadyH.cons rfl (fun K hK => ?_) AllReadyH.nil
  go_simp
  go_wp2_with (go_at_call 60; with_reducible refine (HC _ B).mono ?_; rintro e wE ⟨rfl, hb⟩)
  replace B := B.trans (hb.mono B.size)
  clear hb
  refine hK.out _ _ (hS _ B) (fun hHeld => ?_)
  clear hK
  refine wpAnyH_take (i := 9) (oi := ⟨some 26, .unOp .not 4 (.tmp 25), 4, "exact.go:1304", #[⟨8, .data⟩], none⟩) (v := .bool false) rfl (by kernel_rfl) (by kernel_rfl) (by kernel_rfl) (fun _ _ _ h => h) (Or.inl ⟨by rfl, by intro w hSw; go_simp⟩) (by assumption) ?_
  simp only [Act.put, List.setIfInBounds_toArray, List.set_cons_zero, List.set_cons_succ]
  refine wpAnyH_done (by kernel_rfl) ?_ _
  exact NoPanic.normal (hQ _ _ _ _ _ _ _ _ _ _ B)
set_option maxRecDepth 100000 in
set_option maxHeartbeats 6400000 in
theorem eqr_Lk {t2 t3 t4 t6 t7 t8 t9 t10 t11 t12 t13 t14 t15 t16 t17 t18 t19 t20 t21 t22 t23 t24 t25 t26 : Value} {fs : List Deferred} (ga oa gb ob n ca cb j : Nat) (cs ds : List Value) (w : World) (Q : Exit → Act → World → Prop)
    (hj : j < n) (hcs : cs.length = 5) (hds : ds.length = 5) (hga : ga < w.heap.size) (hgb : gb < w.heap.size) (ra : w.rangeAt ga (oa + j * 5) cs) (rb : w.rangeAt gb (ob + j * 5) ds) (HC : ∀ W, Below w.heap.size w W → Calls Tryz.prog 61 #[.agg cs.toArray, .agg ds.toArray] W fun e w' => e = .returned (.bool true) ∧ Below W.heap.size W w')
    (hQ : ∀ u17 u18 u19 u20 u21 u22 u23 u24 u25 (W : World), Below w.heap.size w W → Q .normal ⟨#[.slice (some ⟨ga, oa, none⟩) n ca, .slice (some ⟨gb, ob, none⟩) n cb, t2, t3, t4, .int .i64 (j : Nat), t6, t7, t8, t9, t10, t11, t12, t13, t14, t15, t16, u17, u18, u19, u20, u21, u22, u23, u24, u25, .bool false], fs⟩ W) :
    (Code.region 6 (List.toArray (⟨some 17, .move (.tmp 0), 38, "exact.go:1316", #[], none⟩ :: ⟨some 18, .move (.tmp 5), 3, "exact.go:1316", #[], none⟩ :: ⟨some 19, .indexAddr 38 (.tmp 17) (.tmp 18), 0, "exact.go:1316", #[⟨0, .data⟩, ⟨1, .data⟩], none⟩ :: ⟨some 20, .load 106 (.tmp 19), 106, "exact.go:1316", #[⟨2, .data⟩], none⟩ :: ⟨some 21, .move (.tmp 1), 38, "exact.go:1316", #[], none⟩ :: ⟨some 22, .move (.tmp 5), 3, "exact.go:1316", #[], none⟩ :: ⟨some 23, .indexAddr 38 (.tmp 21) (.tmp 22), 0, "exact.go:1316", #[⟨4, .data⟩, ⟨5, .data⟩], none⟩ :: ⟨some 24, .load 106 (.tmp 23), 106, "exact.go:1316", #[⟨6, .data⟩], none⟩ :: ⟨some 25, .call { callee := .value (.func 61), args := #[.tmp 20, .tmp 24], argTypes := #[106, 106] }, 4, "exact.go:1316", #[⟨3, .data⟩, ⟨7, .data⟩], none⟩ :: ⟨some 26, .unOp .not 4 (.tmp 25), 4, "exact.go:1316", #[⟨8, .data⟩], none⟩ :: [])) true).wp Tryz.prog Q ⟨#[.slice (some ⟨ga, oa, none⟩) n ca, .slice (some ⟨gb, ob, none⟩) n cb, t2, t3, t4, .int .i64 (j : Nat), t6, t7, t8, t9, t10, t11, t12, t13, t14, t15, t16, t17, t18, t19, t20, t21, t22, t23, t24, t25, t26], fs⟩ w := by
  have hS : ∀ w', Below w.heap.size w w' → (w'.rangeAt ga (oa + j * 5) cs ∧ w'.rangeAt gb (ob + j * 5) ds) := fun w' hb => ⟨range_below ra hb hga, range_below rb hb hgb⟩
  have hj1 : (j : Int) < (n : Int) := by omega
  have B : Below w.heap.size w w.drew := drew_bel w
  refine wp_region_noPanic ?_
  refine wp_region_held_drew (S := fun w' => w'.rangeAt ga (oa + j * 5) cs ∧ w'.rangeAt gb (ob + j * 5) ds) (by kernel_rfl) (hS _ B) (fun hHeld => ?_)
  refine wpAnyH_take (i := 0) (oi := ⟨some 17, .move (.tmp 0), 38, "exact.go:1316", #[], none⟩) (v := .slice (some ⟨ga, oa, none⟩) n ca) rfl (by kernel_rfl) (by kernel_rfl) (by kernel_rfl) (fun _ _ _ h => h) (Or.inl ⟨by rfl, by intro w hSw; go_simp⟩) (by assumption) ?_
  simp only [Act.put, List.setIfInBounds_toArray, List.set_cons_zero, List.set_cons_succ]
  refine wpAnyH_take (i := 1) (oi := ⟨some 18, .move (.tmp 5), 3, "exact.go:1316", #[], none⟩) (v := .int .i64 (j : Nat)) rfl (by kernel_rfl) (by kernel_rfl) (by kernel_rfl) (fun _ _ _ h => h) (Or.inl ⟨by rfl, by intro w hSw; go_simp⟩) (by assumption) ?_
  simp only [Act.put, List.setIfInBounds_toArray, List.set_cons_zero, List.set_cons_succ]
  refine wpAnyH_take (i := 2) (oi := ⟨some 19, .indexAddr 38 (.tmp 17) (.tmp 18), 0, "exact.go:1316", #[⟨0, .data⟩, ⟨1, .data⟩], none⟩) (v := .pointer (some ⟨ga, oa + j * 5, none⟩)) rfl (by kernel_rfl) (by kernel_rfl) (by kernel_rfl) (fun _ _ _ h => h) (Or.inl ⟨by rfl, by intro w hSw; go_simp⟩) (by assumption) ?_
  simp only [Act.put, List.setIfInBounds_toArray, List.set_cons_zero, List.set_cons_succ]
  refine wpAnyH_take (i := 3) (oi := ⟨some 20, .load 106 (.tmp 19), 106, "exact.go:1316", #[⟨2, .data⟩], none⟩) (v := .agg cs.toArray) rfl (by kernel_rfl) (by kernel_rfl) (by kernel_rfl) (fun _ _ _ h => h) (yieldsIf_load_mid (by rfl) 106 _ rfl ga (oa + j * 5) rfl cs _ (fun _ h => h.1) Tryz.underlying106 rfl (by rw [hcs]; exact Tryz.sizeLk)) (by assumption) ?_
  simp only [Act.put, List.setIfInBounds_toArray, List.set_cons_zero, List.set_cons_succ]
  refine wpAnyH_take (i := 4) (oi := ⟨some 21, .move (.tmp 1), 38, "exact.go:1316", #[], none⟩) (v := .slice (some ⟨gb, ob, none⟩) n cb) rfl (by kernel_rfl) (by kernel_rfl) (by kernel_rfl) (fun _ _ _ h => h) (Or.inl ⟨by rfl, by intro w hSw; go_simp⟩) (by assumption) ?_
  simp only [Act.put, List.setIfInBounds_toArray, List.set_cons_zero, List.set_cons_succ]
  refine wpAnyH_take (i := 5) (oi := ⟨some 22, .move (.tmp 5), 3, "exact.go:1316", #[], none⟩) (v := .int .i64 (j : Nat)) rfl (by kernel_rfl) (by kernel_rfl) (by kernel_rfl) (fun _ _ _ h => h) (Or.inl ⟨by rfl, by intro w hSw; go_simp⟩) (by assumption) ?_
  simp only [Act.put, List.setIfInBounds_toArray, List.set_cons_zero, List.set_cons_succ]
  refine wpAnyH_take (i := 6) (oi := ⟨some 23, .indexAddr 38 (.tmp 21) (.tmp 22), 0, "exact.go:1316", #[⟨4, .data⟩, ⟨5, .data⟩], none⟩) (v := .pointer (some ⟨gb, ob + j * 5, none⟩)) rfl (by kernel_rfl) (by kernel_rfl) (by kernel_rfl) (fun _ _ _ h => h) (Or.inl ⟨by rfl, by intro w hSw; go_simp⟩) (by assumption) ?_
  simp only [Act.put, List.setIfInBounds_toArray, List.set_cons_zero, List.set_cons_succ]
  refine wpAnyH_take (i := 7) (oi := ⟨some 24, .load 106 (.tmp 23), 106, "exact.go:1316", #[⟨6, .data⟩], none⟩) (v := .agg ds.toArray) rfl (by kernel_rfl) (by kernel_rfl) (by kernel_rfl) (fun _ _ _ h => h) (yieldsIf_load_mid (by rfl) 106 _ rfl gb (ob + j * 5) rfl ds _ (fun _ h => h.2) Tryz.underlying106 rfl (by rw [hds]; exact Tryz.sizeLk)) (by assumption) ?_
  simp only [Act.put, List.setIfInBounds_toArray, List.set_cons_zero, List.set_cons_succ]
  refine wpAnyH_ready (rs := [8]) (by kernel_rfl) (by simp) ?_
  refine AllReadyH.cons rfl (fun K hK => ?_) AllReadyH.nil
  go_simp
  go_wp2_with (go_at_call 61; with_reducible refine (HC _ B).mono ?_; rintro e wE ⟨rfl, hb⟩)
  replace B := B.trans (hb.mono B.size)
  clear hb
  refine hK.out _ _ (hS _ B) (fun hHeld => ?_)
  clear hK
  refine wpAnyH_take (i := 9) (oi := ⟨some 26, .unOp .not 4 (.tmp 25), 4, "exact.go:1316", #[⟨8, .data⟩], none⟩) (v := .bool false) rfl (by kernel_rfl) (by kernel_rfl) (by kernel_rfl) (fun _ _ _ h => h) (Or.inl ⟨by rfl, by intro w hSw; go_simp⟩) (by assumption) ?_
  simp only [Act.put, List.setIfInBounds_toArray, List.set_cons_zero, List.set_cons_succ]
  refine wpAnyH_done (by kernel_rfl) ?_ _
  exact NoPanic.normal (hQ _ _ _ _ _ _ _ _ _ _ B)
set_option maxRecDepth 100000 in
set_option maxHeartbeats 6400000 in
theorem eqr_Gm {t2 t3 t4 t6 t7 t8 t9 t10 t11 t12 t13 t14 t15 t16 t17 t18 t19 t20 t21 t22 t23 t24 t25 t26 : Value} {fs : List Deferred} (ga oa gb ob n ca cb j : Nat) (cs ds : List Value) (w : World) (Q : Exit → Act → World → Prop)
    (hj : j < n) (hcs : cs.length = 5) (hds : ds.length = 5) (hga : ga < w.heap.size) (hgb : gb < w.heap.size) (ra : w.rangeAt ga (oa + j * 5) cs) (rb : w.rangeAt gb (ob + j * 5) ds) (HC : ∀ W, Below w.heap.size w W → Calls Tryz.prog 62 #[.agg cs.toArray, .agg ds.toArray] W fun e w' => e = .returned (.bool true) ∧ Below W.heap.size W w')
    (hQ : ∀ u17 u18 u19 u20 u21 u22 u23 u24 u25 (W : World), Below w.heap.size w W → Q .normal ⟨#[.slice (some ⟨ga, oa, none⟩) n ca, .slice (some ⟨gb, ob, none⟩) n cb, t2, t3, t4, .int .i64 (j : Nat), t6, t7, t8, t9, t10, t11, t12, t13, t14, t15, t16, u17, u18, u19, u20, u21, u22, u23, u24, u25, .bool false], fs⟩ W) :
    (Code.region 6 (List.toArray (⟨some 17, .move (.tmp 0), 39, "exact.go:1344", #[], none⟩ :: ⟨some 18, .move (.tmp 5), 3, "exact.go:1344", #[], none⟩ :: ⟨some 19, .indexAddr 39 (.tmp 17) (.tmp 18), 0, "exact.go:1344", #[⟨0, .data⟩, ⟨1, .data⟩], none⟩ :: ⟨some 20, .load 113 (.tmp 19), 113, "exact.go:1344", #[⟨2, .data⟩], none⟩ :: ⟨some 21, .move (.tmp 1), 39, "exact.go:1344", #[], none⟩ :: ⟨some 22, .move (.tmp 5), 3, "exact.go:1344", #[], none⟩ :: ⟨some 23, .indexAddr 39 (.tmp 21) (.tmp 22), 0, "exact.go:1344", #[⟨4, .data⟩, ⟨5, .data⟩], none⟩ :: ⟨some 24, .load 113 (.tmp 23), 113, "exact.go:1344", #[⟨6, .data⟩], none⟩ :: ⟨some 25, .call { callee := .value (.func 62), args := #[.tmp 20, .tmp 24], argTypes := #[113, 113] }, 4, "exact.go:1344", #[⟨3, .data⟩, ⟨7, .data⟩], none⟩ :: ⟨some 26, .unOp .not 4 (.tmp 25), 4, "exact.go:1344", #[⟨8, .data⟩], none⟩ :: [])) true).wp Tryz.prog Q ⟨#[.slice (some ⟨ga, oa, none⟩) n ca, .slice (some ⟨gb, ob, none⟩) n cb, t2, t3, t4, .int .i64 (j : Nat), t6, t7, t8, t9, t10, t11, t12, t13, t14, t15, t16, t17, t18, t19, t20, t21, t22, t23, t24, t25, t26], fs⟩ w := by
  have hS : ∀ w', Below w.heap.size w w' → (w'.rangeAt ga (oa + j * 5) cs ∧ w'.rangeAt gb (ob + j * 5) ds) := fun w' hb => ⟨range_below ra hb hga, range_below rb hb hgb⟩
  have hj1 : (j : Int) < (n : Int) := by omega
  have B : Below w.heap.size w w.drew := drew_bel w
  refine wp_region_noPanic ?_
  refine wp_region_held_drew (S := fun w' => w'.rangeAt ga (oa + j * 5) cs ∧ w'.rangeAt gb (ob + j * 5) ds) (by kernel_rfl) (hS _ B) (fun hHeld => ?_)
  refine wpAnyH_take (i := 0) (oi := ⟨some 17, .move (.tmp 0), 39, "exact.go:1344", #[], none⟩) (v := .slice (some ⟨ga, oa, none⟩) n ca) rfl (by kernel_rfl) (by kernel_rfl) (by kernel_rfl) (fun _ _ _ h => h) (Or.inl ⟨by rfl, by intro w hSw; go_simp⟩) (by assumption) ?_
  simp only [Act.put, List.setIfInBounds_toArray, List.set_cons_zero, List.set_cons_succ]
  refine wpAnyH_take (i := 1) (oi := ⟨some 18, .move (.tmp 5), 3, "exact.go:1344", #[], none⟩) (v := .int .i64 (j : Nat)) rfl (by kernel_rfl) (by kernel_rfl) (by kernel_rfl) (fun _ _ _ h => h) (Or.inl ⟨by rfl, by intro w hSw; go_simp⟩) (by assumption) ?_
  simp only [Act.put, List.setIfInBounds_toArray, List.set_cons_zero, List.set_cons_succ]
  refine wpAnyH_take (i := 2) (oi := ⟨some 19, .indexAddr 39 (.tmp 17) (.tmp 18), 0, "exact.go:1344", #[⟨0, .data⟩, ⟨1, .data⟩], none⟩) (v := .pointer (some ⟨ga, oa + j * 5, none⟩)) rfl (by kernel_rfl) (by kernel_rfl) (by kernel_rfl) (fun _ _ _ h => h) (Or.inl ⟨by rfl, by intro w hSw; go_simp⟩) (by assumption) ?_
  simp only [Act.put, List.setIfInBounds_toArray, List.set_cons_zero, List.set_cons_succ]
  refine wpAnyH_take (i := 3) (oi := ⟨some 20, .load 113 (.tmp 19), 113, "exact.go:1344", #[⟨2, .data⟩], none⟩) (v := .agg cs.toArray) rfl (by kernel_rfl) (by kernel_rfl) (by kernel_rfl) (fun _ _ _ h => h) (yieldsIf_load_mid (by rfl) 113 _ rfl ga (oa + j * 5) rfl cs _ (fun _ h => h.1) Tryz.underlying113 rfl (by rw [hcs]; exact Tryz.sizeGm)) (by assumption) ?_
  simp only [Act.put, List.setIfInBounds_toArray, List.set_cons_zero, List.set_cons_succ]
  refine wpAnyH_take (i := 4) (oi := ⟨some 21, .move (.tmp 1), 39, "exact.go:1344", #[], none⟩) (v := .slice (some ⟨gb, ob, none⟩) n cb) rfl (by kernel_rfl) (by kernel_rfl) (by kernel_rfl) (fun _ _ _ h => h) (Or.inl ⟨by rfl, by intro w hSw; go_simp⟩) (by assumption) ?_
  simp only [Act.put, List.setIfInBounds_toArray, List.set_cons_zero, List.set_cons_succ]
  refine wpAnyH_take (i := 5) (oi := ⟨some 22, .move (.tmp 5), 3, "exact.go:1344", #[], none⟩) (v := .int .i64 (j : Nat)) rfl (by kernel_rfl) (by kernel_rfl) (by kernel_rfl) (fun _ _ _ h => h) (Or.inl ⟨by rfl, by intro w hSw; go_simp⟩) (by assumption) ?_
  simp only [Act.put, List.setIfInBounds_toArray, List.set_cons_zero, List.set_cons_succ]
  refine wpAnyH_take (i := 6) (oi := ⟨some 23, .indexAddr 39 (.tmp 21) (.tmp 22), 0, "exact.go:1344", #[⟨4, .data⟩, ⟨5, .data⟩], none⟩) (v := .pointer (some ⟨gb, ob + j * 5, none⟩)) rfl (by kernel_rfl) (by kernel_rfl) (by kernel_rfl) (fun _ _ _ h => h) (Or.inl ⟨by rfl, by intro w hSw; go_simp⟩) (by assumption) ?_
  simp only [Act.put, List.setIfInBounds_toArray, List.set_cons_zero, List.set_cons_succ]
  refine wpAnyH_take (i := 7) (oi := ⟨some 24, .load 113 (.tmp 23), 113, "exact.go:1344", #[⟨6, .data⟩], none⟩) (v := .agg ds.toArray) rfl (by kernel_rfl) (by kernel_rfl) (by kernel_rfl) (fun _ _ _ h => h) (yieldsIf_load_mid (by rfl) 113 _ rfl gb (ob + j * 5) rfl ds _ (fun _ h => h.2) Tryz.underlying113 rfl (by rw [hds]; exact Tryz.sizeGm)) (by assumption) ?_
  simp only [Act.put, List.setIfInBounds_toArray, List.set_cons_zero, List.set_cons_succ]
  refine wpAnyH_ready (rs := [8]) (by kernel_rfl) (by simp) ?_
  refine AllReadyH.cons rfl (fun K hK => ?_) AllReadyH.nil
  go_simp
  go_wp2_with (go_at_call 62; with_reducible refine (HC _ B).mono ?_; rintro e wE ⟨rfl, hb⟩)
  replace B := B.trans (hb.mono B.size)
  clear hb
  refine hK.out _ _ (hS _ B) (fun hHeld => ?_)
  clear hK
  refine wpAnyH_take (i := 9) (oi := ⟨some 26, .unOp .not 4 (.tmp 25), 4, "exact.go:1344", #[⟨8, .data⟩], none⟩) (v := .bool false) rfl (by kernel_rfl) (by kernel_rfl) (by kernel_rfl) (fun _ _ _ h => h) (Or.inl ⟨by rfl, by intro w hSw; go_simp⟩) (by assumption) ?_
  simp only [Act.put, List.setIfInBounds_toArray, List.set_cons_zero, List.set_cons_succ]
  refine wpAnyH_done (by kernel_rfl) ?_ _
  exact NoPanic.normal (hQ _ _ _ _ _ _ _ _ _ _ B)
set_option maxRecDepth 100000 in
set_option maxHeartbeats 6400000 in
theorem eqr_Pd {t2 t3 t4 t6 t7 t8 t9 t10 t11 t12 t13 t14 t15 t16 t17 t18 t19 t20 t21 t22 t23 t24 t25 t26 : Value} {fs : List Deferred} (ga oa gb ob n ca cb j : Nat) (cs ds : List Value) (w : World) (Q : Exit → Act → World → Prop)
    (hj : j < n) (hcs : cs.length = 3) (hds : ds.length = 3) (hga : ga < w.heap.size) (hgb : gb < w.heap.size) (ra : w.rangeAt ga (oa + j * 3) cs) (rb : w.rangeAt gb (ob + j * 3) ds) (HC : ∀ W, Below w.heap.size w W → Calls Tryz.prog 63 #[.agg cs.toArray, .agg ds.toArray] W fun e w' => e = .returned (.bool true) ∧ Below W.heap.size W w')
    (hQ : ∀ u17 u18 u19 u20 u21 u22 u23 u24 u25 (W : World), Below w.heap.size w W → Q .normal ⟨#[.slice (some ⟨ga, oa, none⟩) n ca, .slice (some ⟨gb, ob, none⟩) n cb, t2, t3, t4, .int .i64 (j : Nat), t6, t7, t8, t9, t10, t11, t12, t13, t14, t15, t16, u17, u18, u19, u20, u21, u22, u23, u24, u25, .bool false], fs⟩ W) :
    (Code.region 6 (List.toArray (⟨some 17, .move (.tmp 0), 40, "exact.go:1369", #[], none⟩ :: ⟨some 18, .move (.tmp 5), 3, "exact.go:1369", #[], none⟩ :: ⟨some 19, .indexAddr 40 (.tmp 17) (.tmp 18), 0, "exact.go:1369", #[⟨0, .data⟩, ⟨1, .data⟩], none⟩ :: ⟨some 20, .load 116 (.tmp 19), 116, "exact.go:1369", #[⟨2, .data⟩], none⟩ :: ⟨some 21, .move (.tmp 1), 40, "exact.go:1369", #[], none⟩ :: ⟨some 22, .move (.tmp 5), 3, "exact.go:1369", #[], none⟩ :: ⟨some 23, .indexAddr 40 (.tmp 21) (.tmp 22), 0, "exact.go:1369", #[⟨4, .data⟩, ⟨5, .data⟩], none⟩ :: ⟨some 24, .load 116 (.tmp 23), 116, "exact.go:1369", #[⟨6, .data⟩], none⟩ :: ⟨some 25, .call { callee := .value (.func 63), args := #[.tmp 20, .tmp 24], argTypes := #[116, 116] }, 4, "exact.go:1369", #[⟨3, .data⟩, ⟨7, .data⟩], none⟩ :: ⟨some 26, .unOp .not 4 (.tmp 25), 4, "exact.go:1369", #[⟨8, .data⟩], none⟩ :: [])) true).wp Tryz.prog Q ⟨#[.slice (some ⟨ga, oa, none⟩) n ca, .slice (some ⟨gb, ob, none⟩) n cb, t2, t3, t4, .int .i64 (j : Nat), t6, t7, t8, t9, t10, t11, t12, t13, t14, t15, t16, t17, t18, t19, t20, t21, t22, t23, t24, t25, t26], fs⟩ w := by
  have hS : ∀ w', Below w.heap.size w w' → (w'.rangeAt ga (oa + j * 3) cs ∧ w'.rangeAt gb (ob + j * 3) ds) := fun w' hb => ⟨range_below ra hb hga, range_below rb hb hgb⟩
  have hj1 : (j : Int) < (n : Int) := by omega
  have B : Below w.heap.size w w.drew := drew_bel w
  refine wp_region_noPanic ?_
  refine wp_region_held_drew (S := fun w' => w'.rangeAt ga (oa + j * 3) cs ∧ w'.rangeAt gb (ob + j * 3) ds) (by kernel_rfl) (hS _ B) (fun hHeld => ?_)
  refine wpAnyH_take (i := 0) (oi := ⟨some 17, .move (.tmp 0), 40, "exact.go:1369", #[], none⟩) (v := .slice (some ⟨ga, oa, none⟩) n ca) rfl (by kernel_rfl) (by kernel_rfl) (by kernel_rfl) (fun _ _ _ h => h) (Or.inl ⟨by rfl, by intro w hSw; go_simp⟩) (by assumption) ?_
  simp only [Act.put, List.setIfInBounds_toArray, List.set_cons_zero, List.set_cons_succ]
  refine wpAnyH_take (i := 1) (oi := ⟨some 18, .move (.tmp 5), 3, "exact.go:1369", #[], none⟩) (v := .int .i64 (j : Nat)) rfl (by kernel_rfl) (by kernel_rfl) (by kernel_rfl) (fun _ _ _ h => h) (Or.inl ⟨by rfl, by intro w hSw; go_simp⟩) (by assumption) ?_
  simp only [Act.put, List.setIfInBounds_toArray, List.set_cons_zero, List.set_cons_succ]
  refine wpAnyH_take (i := 2) (oi := ⟨some 19, .indexAddr 40 (.tmp 17) (.tmp 18), 0, "exact.go:1369", #[⟨0, .data⟩, ⟨1, .data⟩], none⟩) (v := .pointer (some ⟨ga, oa + j * 3, none⟩)) rfl (by kernel_rfl) (by kernel_rfl) (by kernel_rfl) (fun _ _ _ h => h) (Or.inl ⟨by rfl, by intro w hSw; go_simp⟩) (by assumption) ?_
  simp only [Act.put, List.setIfInBounds_toArray, List.set_cons_zero, List.set_cons_succ]
  refine wpAnyH_take (i := 3) (oi := ⟨some 20, .load 116 (.tmp 19), 116, "exact.go:1369", #[⟨2, .data⟩], none⟩) (v := .agg cs.toArray) rfl (by kernel_rfl) (by kernel_rfl) (by kernel_rfl) (fun _ _ _ h => h) (yieldsIf_load_mid (by rfl) 116 _ rfl ga (oa + j * 3) rfl cs _ (fun _ h => h.1) Tryz.underlying116 rfl (by rw [hcs]; exact Tryz.sizePd)) (by assumption) ?_
  simp only [Act.put, List.setIfInBounds_toArray, List.set_cons_zero, List.set_cons_succ]
  refine wpAnyH_take (i := 4) (oi := ⟨some 21, .move (.tmp 1), 40, "exact.go:1369", #[], none⟩) (v := .slice (some ⟨gb, ob, none⟩) n cb) rfl (by kernel_rfl) (by kernel_rfl) (by kernel_rfl) (fun _ _ _ h => h) (Or.inl ⟨by rfl, by intro w hSw; go_simp⟩) (by assumption) ?_
  simp only [Act.put, List.setIfInBounds_toArray, List.set_cons_zero, List.set_cons_succ]
  refine wpAnyH_take (i := 5) (oi := ⟨some 22, .move (.tmp 5), 3, "exact.go:1369", #[], none⟩) (v := .int .i64 (j : Nat)) rfl (by kernel_rfl) (by kernel_rfl) (by kernel_rfl) (fun _ _ _ h => h) (Or.inl ⟨by rfl, by intro w hSw; go_simp⟩) (by assumption) ?_
  simp only [Act.put, List.setIfInBounds_toArray, List.set_cons_zero, List.set_cons_succ]
  refine wpAnyH_take (i := 6) (oi := ⟨some 23, .indexAddr 40 (.tmp 21) (.tmp 22), 0, "exact.go:1369", #[⟨4, .data⟩, ⟨5, .data⟩], none⟩) (v := .pointer (some ⟨gb, ob + j * 3, none⟩)) rfl (by kernel_rfl) (by kernel_rfl) (by kernel_rfl) (fun _ _ _ h => h) (Or.inl ⟨by rfl, by intro w hSw; go_simp⟩) (by assumption) ?_
  simp only [Act.put, List.setIfInBounds_toArray, List.set_cons_zero, List.set_cons_succ]
  refine wpAnyH_take (i := 7) (oi := ⟨some 24, .load 116 (.tmp 23), 116, "exact.go:1369", #[⟨6, .data⟩], none⟩) (v := .agg ds.toArray) rfl (by kernel_rfl) (by kernel_rfl) (by kernel_rfl) (fun _ _ _ h => h) (yieldsIf_load_mid (by rfl) 116 _ rfl gb (ob + j * 3) rfl ds _ (fun _ h => h.2) Tryz.underlying116 rfl (by rw [hds]; exact Tryz.sizePd)) (by assumption) ?_
  simp only [Act.put, List.setIfInBounds_toArray, List.set_cons_zero, List.set_cons_succ]
  refine wpAnyH_ready (rs := [8]) (by kernel_rfl) (by simp) ?_
  refine AllReadyH.cons rfl (fun K hK => ?_) AllReadyH.nil
  go_simp
  go_wp2_with (go_at_call 63; with_reducible refine (HC _ B).mono ?_; rintro e wE ⟨rfl, hb⟩)
  replace B := B.trans (hb.mono B.size)
  clear hb
  refine hK.out _ _ (hS _ B) (fun hHeld => ?_)
  clear hK
  refine wpAnyH_take (i := 9) (oi := ⟨some 26, .unOp .not 4 (.tmp 25), 4, "exact.go:1369", #[⟨8, .data⟩], none⟩) (v := .bool false) rfl (by kernel_rfl) (by kernel_rfl) (by kernel_rfl) (fun _ _ _ h => h) (Or.inl ⟨by rfl, by intro w hSw; go_simp⟩) (by assumption) ?_
  simp only [Act.put, List.setIfInBounds_toArray, List.set_cons_zero, List.set_cons_succ]
  refine wpAnyH_done (by kernel_rfl) ?_ _
  exact NoPanic.normal (hQ _ _ _ _ _ _ _ _ _ _ B)
set_option maxRecDepth 100000 in
set_option maxHeartbeats 6400000 in
theorem eqr_Ss {t2 t3 t4 t6 t7 t8 t9 t10 t11 t12 t13 t14 t15 t16 t17 t18 t19 t20 t21 t22 t23 t24 t25 t26 : Value} {fs : List Deferred} (ga oa gb ob n ca cb j : Nat) (va vb : Value) (w : World) (Q : Exit → Act → World → Prop)
    (hj : j < n) (hga : ga < w.heap.size) (hgb : gb < w.heap.size) (ra : w.cell? ⟨ga, oa + j, none⟩ = some va) (rb : w.cell? ⟨gb, ob + j, none⟩ = some vb) (HC : ∀ W, Below w.heap.size w W → Calls Tryz.prog 64 #[va, vb] W fun e w' => e = .returned (.bool true) ∧ Below W.heap.size W w')
    (hQ : ∀ u17 u18 u19 u20 u21 u22 u23 u24 u25 (W : World), Below w.heap.size w W → Q .normal ⟨#[.slice (some ⟨ga, oa, none⟩) n ca, .slice (some ⟨gb, ob, none⟩) n cb, t2, t3, t4, .int .i64 (j : Nat), t6, t7, t8, t9, t10, t11, t12, t13, t14, t15, t16, u17, u18, u19, u20, u21, u22, u23, u24, u25, .bool false], fs⟩ W) :
    (Code.region 6 (List.toArray (⟨some 17, .move (.tmp 0), 41, "exact.go:1381", #[], none⟩ :: ⟨some 18, .move (.tmp 5), 3, "exact.go:1381", #[], none⟩ :: ⟨some 19, .indexAddr 41 (.tmp 17) (.tmp 18), 0, "exact.go:1381", #[⟨0, .data⟩, ⟨1, .data⟩], none⟩ :: ⟨some 20, .load 57 (.tmp 19), 57, "exact.go:1381", #[⟨2, .data⟩], none⟩ :: ⟨some 21, .move (.tmp 1), 41, "exact.go:1381", #[], none⟩ :: ⟨some 22, .move (.tmp 5), 3, "exact.go:1381", #[], none⟩ :: ⟨some 23, .indexAddr 41 (.tmp 21) (.tmp 22), 0, "exact.go:1381", #[⟨4, .data⟩, ⟨5, .data⟩], none⟩ :: ⟨some 24, .load 57 (.tmp 23), 57, "exact.go:1381", #[⟨6, .data⟩], none⟩ :: ⟨some 25, .call { callee := .value (.func 64), args := #[.tmp 20, .tmp 24], argTypes := #[57, 57] }, 4, "exact.go:1381", #[⟨3, .data⟩, ⟨7, .data⟩], none⟩ :: ⟨some 26, .unOp .not 4 (.tmp 25), 4, "exact.go:1381", #[⟨8, .data⟩], none⟩ :: [])) true).wp Tryz.prog Q ⟨#[.slice (some ⟨ga, oa, none⟩) n ca, .slice (some ⟨gb, ob, none⟩) n cb, t2, t3, t4, .int .i64 (j : Nat), t6, t7, t8, t9, t10, t11, t12, t13, t14, t15, t16, t17, t18, t19, t20, t21, t22, t23, t24, t25, t26], fs⟩ w := by
  have hS : ∀ w', Below w.heap.size w w' → (w'.cell? ⟨ga, oa + j, none⟩ = some va ∧ w'.cell? ⟨gb, ob + j, none⟩ = some vb) := fun w' hb => ⟨(hb.cell (p := ⟨ga, oa + j, none⟩) hga).trans ra, (hb.cell (p := ⟨gb, ob + j, none⟩) hgb).trans rb⟩
  have hj1 : (j : Int) < (n : Int) := by omega
  have B : Below w.heap.size w w.drew := drew_bel w
  refine wp_region_noPanic ?_
  refine wp_region_held_drew (S := fun w' => w'.cell? ⟨ga, oa + j, none⟩ = some va ∧ w'.cell? ⟨gb, ob + j, none⟩ = some vb) (by kernel_rfl) (hS _ B) (fun hHeld => ?_)
  refine wpAnyH_take (i := 0) (oi := ⟨some 17, .move (.tmp 0), 41, "exact.go:1381", #[], none⟩) (v := .slice (some ⟨ga, oa, none⟩) n ca) rfl (by kernel_rfl) (by kernel_rfl) (by kernel_rfl) (fun _ _ _ h => h) (Or.inl ⟨by rfl, by intro w hSw; go_simp⟩) (by assumption) ?_
  simp only [Act.put, List.setIfInBounds_toArray, List.set_cons_zero, List.set_cons_succ]
  refine wpAnyH_take (i := 1) (oi := ⟨some 18, .move (.tmp 5), 3, "exact.go:1381", #[], none⟩) (v := .int .i64 (j : Nat)) rfl (by kernel_rfl) (by kernel_rfl) (by kernel_rfl) (fun _ _ _ h => h) (Or.inl ⟨by rfl, by intro w hSw; go_simp⟩) (by assumption) ?_
  simp only [Act.put, List.setIfInBounds_toArray, List.set_cons_zero, List.set_cons_succ]
  refine wpAnyH_take (i := 2) (oi := ⟨some 19, .indexAddr 41 (.tmp 17) (.tmp 18), 0, "exact.go:1381", #[⟨0, .data⟩, ⟨1, .data⟩], none⟩) (v := .pointer (some ⟨ga, oa + j, none⟩)) rfl (by kernel_rfl) (by kernel_rfl) (by kernel_rfl) (fun _ _ _ h => h) (Or.inl ⟨by rfl, by intro w hSw; go_simp⟩) (by assumption) ?_
  simp only [Act.put, List.setIfInBounds_toArray, List.set_cons_zero, List.set_cons_succ]
  refine wpAnyH_take (i := 3) (oi := ⟨some 20, .load 57 (.tmp 19), 57, "exact.go:1381", #[⟨2, .data⟩], none⟩) (v := va) rfl (by kernel_rfl) (by kernel_rfl) (by kernel_rfl) (fun _ _ _ h => h) (Or.inl ⟨by rfl, by intro w' hSw; have c := hSw.1; go_simp⟩) (by assumption) ?_
  simp only [Act.put, List.setIfInBounds_toArray, List.set_cons_zero, List.set_cons_succ]
  refine wpAnyH_take (i := 4) (oi := ⟨some 21, .move (.tmp 1), 41, "exact.go:1381", #[], none⟩) (v := .slice (some ⟨gb, ob, none⟩) n cb) rfl (by kernel_rfl) (by kernel_rfl) (by kernel_rfl) (fun _ _ _ h => h) (Or.inl ⟨by rfl, by intro w hSw; go_simp⟩) (by assumption) ?_
  simp only [Act.put, List.setIfInBounds_toArray, List.set_cons_zero, List.set_cons_succ]
  refine wpAnyH_take (i := 5) (oi := ⟨some 22, .move (.tmp 5), 3, "exact.go:1381", #[], none⟩) (v := .int .i64 (j : Nat)) rfl (by kernel_rfl) (by kernel_rfl) (by kernel_rfl) (fun _ _ _ h => h) (Or.inl ⟨by rfl, by intro w hSw; go_simp⟩) (by assumption) ?_
  simp only [Act.put, List.setIfInBounds_toArray, List.set_cons_zero, List.set_cons_succ]
  refine wpAnyH_take (i := 6) (oi := ⟨some 23, .indexAddr 41 (.tmp 21) (.tmp 22), 0, "exact.go:1381", #[⟨4, .data⟩, ⟨5, .data⟩], none⟩) (v := .pointer (some ⟨gb, ob + j, none⟩)) rfl (by kernel_rfl) (by kernel_rfl) (by kernel_rfl) (fun _ _ _ h => h) (Or.inl ⟨by rfl, by intro w hSw; go_simp⟩) (by assumption) ?_
  simp only [Act.put, List.setIfInBounds_toArray, List.set_cons_zero, List.set_cons_succ]
  refine wpAnyH_take (i := 7) (oi := ⟨some 24, .load 57 (.tmp 23), 57, "exact.go:1381", #[⟨6, .data⟩], none⟩) (v := vb) rfl (by kernel_rfl) (by kernel_rfl) (by kernel_rfl) (fun _ _ _ h => h) (Or.inl ⟨by rfl, by intro w' hSw; have c := hSw.2; go_simp⟩) (by assumption) ?_
  simp only [Act.put, List.setIfInBounds_toArray, List.set_cons_zero, List.set_cons_succ]
  refine wpAnyH_ready (rs := [8]) (by kernel_rfl) (by simp) ?_
  refine AllReadyH.cons rfl (fun K hK => ?_) AllReadyH.nil
  go_simp
  go_wp2_with (go_at_call 64; with_reducible refine (HC _ B).mono ?_; rintro e wE ⟨rfl, hb⟩)
  replace B := B.trans (hb.mono B.size)
  clear hb
  refine hK.out _ _ (hS _ B) (fun hHeld => ?_)
  clear hK
  refine wpAnyH_take (i := 9) (oi := ⟨some 26, .unOp .not 4 (.tmp 25), 4, "exact.go:1381", #[⟨8, .data⟩], none⟩) (v := .bool false) rfl (by kernel_rfl) (by kernel_rfl) (by kernel_rfl) (fun _ _ _ h => h) (Or.inl ⟨by rfl, by intro w hSw; go_simp⟩) (by assumption) ?_
  simp only [Act.put, List.setIfInBounds_toArray, List.set_cons_zero, List.set_cons_succ]
  refine wpAnyH_done (by kernel_rfl) ?_ _
  exact NoPanic.normal (hQ _ _ _ _ _ _ _ _ _ _ B)
end Go.Proofs.YtbhfooafhbfniaaGreatDoor
