/-
  The regions of impl.MailRead that draw their order: what was read is told, and whether it is a payload. No condition.
-/
import Derived.Test.YtfmafkebddojjaaGreatDoorXRM
import Derived.Test.YtfmafkebddojjaaGreatDoorSPTextM
import Derived.Test.YtfmafkebddojjaaGreatDoorMRgM
set_option maxRecDepth 100000
set_option maxHeartbeats 6400000
namespace Go.Proofs.YtfmafkebddojjaaGreatDoor
open Go.RowKit
theorem ZaU {w : World} {b : Nat} (v : Value) {t : TypeId} (h : w.heap[b]? = some (.cells #[v] t (0, 0))) : w.setCell ⟨b, 0, none⟩ v = w := by
 have e : (w.setCell ⟨b, 0, none⟩ v).heap = w.heap := by
  apply Array.ext_getElem?
  intro i
  by_cases hi : i = b
  ·subst hi
   rw [heap_setCell_same w i 0 _ _ v h, h]
   rfl
  ·exact heap_setCell_other w ⟨b, 0, none⟩ i v hi
 have : ∀ {x y : World}, x.heap = y.heap -> x.tape = y.tape -> x.drawn = y.drawn -> x.os = y.os -> x.output = y.output -> x = y := by
  intro x y h1 h2 h3 h4 h5
  cases x; cases y; simp_all
 exact this e rfl rfl rfl rfl
theorem ZfN {t0 t1 t6 t7 t8 t9 t10 t11 t12 t13 t14 t15 t16 t17 t18 t19 t20 t21 t22 t23 t24 t25 t26 t27 t28 t29 t30 t31 t32 t33 t34 t35 t36 t37 t38 t39 t40 t41 t42 t43 t44 t45 t46 t47 t48 t49 t50 t51 : Value} {fs : List Deferred} (b : Nat) (k p : Int) (t : ByteArray) (w : World) (Q : Exit -> Act -> World -> Prop)
  (h0 : w.heap[b]? = some (.cells #[.int .i64 k] 3 (0, 0))) (h1 : w.heap[b + 1]? = some (.cells #[.int .i64 p] 3 (0, 0))) (h2 : w.heap[b + 1 + 1]? = some (.cells #[.string t] 9 (0, 0))) (ok : Bool) (h3 : w.heap[b + 1 + 1 + 1]? = some (.cells #[.bool ok] 4 (0, 0)))
  (hQ : ∀ u35 u36 u37 W, W.heap[b]? = some (.cells #[.int .i64 k] 3 (0, 0)) -> W.heap[b + 1]? = some (.cells #[.int .i64 p] 3 (0, 0)) -> W.heap[b + 1 + 1]? = some (.cells #[.string t] 9 (0, 0)) -> W.heap[b + 1 + 1 + 1]? = some (.cells #[.bool false] 4 (0, 0)) -> Below b w W -> Q .normal ⟨#[t0, t1, .pointer (some ⟨b, 0, none⟩), .pointer (some ⟨b + 1, 0, none⟩), .pointer (some ⟨b + 1 + 1, 0, none⟩), .pointer (some ⟨b + 1 + 1 + 1, 0, none⟩), t6, t7, t8, t9, t10, t11, t12, t13, t14, t15, t16, t17, t18, t19, t20, t21, t22, t23, t24, t25, t26, t27, t28, t29, t30, t31, t32, t33, t34, u35, u36, u37, t38, t39, t40, t41, t42, t43, t44, t45, t46, t47, t48, t49, t50, t51], fs⟩ W) :
  (Code.region 7 (List.toArray (⟨some 35, .load 3 (.tmp 2), 3, "l13_world.go:81", #[], none⟩ :: ⟨some 36, .load 3 (.tmp 3), 3, "l13_world.go:81", #[], none⟩ :: ⟨some 37, .load 9 (.tmp 4), 9, "l13_world.go:81", #[], none⟩ :: ⟨none, .store 3 (.tmp 2) (.tmp 35), 0, "l13_world.go:81", #[⟨0, .data⟩, ⟨0, .phase⟩, { on := 1, ground := Ground.textOnly Departure.lateStoresUnsure }, { on := 2, ground := Ground.textOnly Departure.lateStoresUnsure }], none⟩ :: ⟨none, .store 3 (.tmp 3) (.tmp 36), 0, "l13_world.go:81", #[⟨1, .data⟩, ⟨3, .chain⟩, ⟨0, .phase⟩, ⟨1, .phase⟩, { on := 2, ground := Ground.textOnly Departure.lateStoresUnsure }, ⟨3, .phase⟩], none⟩ :: ⟨none, .store 9 (.tmp 4) (.tmp 37), 0, "l13_world.go:81", #[⟨2, .data⟩, ⟨4, .chain⟩, ⟨0, .phase⟩, ⟨1, .phase⟩, ⟨2, .phase⟩, ⟨3, .phase⟩, ⟨4, .phase⟩], none⟩ :: ⟨none, .store 4 (.tmp 5) (.const (.bool false)), 0, "l13_world.go:81", #[⟨5, .chain⟩, ⟨0, .phase⟩, ⟨1, .phase⟩, ⟨2, .phase⟩, ⟨3, .phase⟩, ⟨4, .phase⟩, ⟨5, .phase⟩], none⟩ :: [])) true).wp Tryz.prog Q ⟨#[t0, t1, .pointer (some ⟨b, 0, none⟩), .pointer (some ⟨b + 1, 0, none⟩), .pointer (some ⟨b + 1 + 1, 0, none⟩), .pointer (some ⟨b + 1 + 1 + 1, 0, none⟩), t6, t7, t8, t9, t10, t11, t12, t13, t14, t15, t16, t17, t18, t19, t20, t21, t22, t23, t24, t25, t26, t27, t28, t29, t30, t31, t32, t33, t34, t35, t36, t37, t38, t39, t40, t41, t42, t43, t44, t45, t46, t47, t48, t49, t50, t51], fs⟩ w := by
 have LB : b <= w.heap.size := Nat.le_of_lt (Zao h0)
 have B : Below w.heap.size w w.drew := ZaX w
 have X0 := Zal h0 B
 have X1 := Zal h1 B
 have X2 := Zal h2 B
 have X3 := Zal h3 B
 refine wp_region_noPanic ?_
 refine wp_region_held_drew (S := fun w' => w'.heap[b]? = some (.cells #[.int .i64 k] 3 (0, 0)) /\ w'.heap[b + 1]? = some (.cells #[.int .i64 p] 3 (0, 0)) /\ w'.heap[b + 1 + 1]? = some (.cells #[.string t] 9 (0, 0))) (by kernel_rfl) ⟨X0, X1, X2⟩ (fun hHeld => ?_)
 refine wpAnyH_take (i := 0) (oi := ⟨some 35, .load 3 (.tmp 2), 3, "l13_world.go:81", #[], none⟩) (v := .int .i64 k) rfl (by kernel_rfl) (by kernel_rfl) (by kernel_rfl) (fun _ _ _ h => h) (Or.inl ⟨by rfl, by intro w' hSw; have c := cell_of_row w' (b) 0 _ _ _ hSw.1; go_simp⟩) (by assumption) ?_
 simp only [Act.put, sit, sc0, scs]
 refine wpAnyH_take (i := 1) (oi := ⟨some 36, .load 3 (.tmp 3), 3, "l13_world.go:81", #[], none⟩) (v := .int .i64 p) rfl (by kernel_rfl) (by kernel_rfl) (by kernel_rfl) (fun _ _ _ h => h) (Or.inl ⟨by rfl, by intro w' hSw; have c := cell_of_row w' (b + 1) 0 _ _ _ hSw.2.1; go_simp⟩) (by assumption) ?_
 simp only [Act.put, sit, sc0, scs]
 refine wpAnyH_take (i := 2) (oi := ⟨some 37, .load 9 (.tmp 4), 9, "l13_world.go:81", #[], none⟩) (v := .string t) rfl (by kernel_rfl) (by kernel_rfl) (by kernel_rfl) (fun _ _ _ h => h) (Or.inl ⟨by rfl, by intro w' hSw; have c := cell_of_row w' (b + 1 + 1) 0 _ _ _ hSw.2.2; go_simp⟩) (by assumption) ?_
 simp only [Act.put, sit, sc0, scs]
 refine wpAnyH_ready (rs := [3]) (by kernel_rfl) (by simp) ?_
 refine AllReadyH.cons rfl (fun K hK => ?_) AllReadyH.nil
 have kc := cell_of_row _ (b) 0 _ _ _ X0
 have kf := frozen_of_row _ (b) 0 _ _ X0
 have ke := ZaU (.int .i64 k) X0
 go_simp
 go_wp2_with fail
 try rw [ke]
 clear kc kf ke
 refine hK.out _ _ ⟨X0, X1, X2⟩ (fun hHeld => ?_)
 clear hK
 try simp only [Act.put]
 refine wpAnyH_ready (rs := [4]) (by kernel_rfl) (by simp) ?_
 refine AllReadyH.cons rfl (fun K hK => ?_) AllReadyH.nil
 have kc := cell_of_row _ (b + 1) 0 _ _ _ X1
 have kf := frozen_of_row _ (b + 1) 0 _ _ X1
 have ke := ZaU (.int .i64 p) X1
 go_simp
 go_wp2_with fail
 try rw [ke]
 clear kc kf ke
 refine hK.out _ _ ⟨X0, X1, X2⟩ (fun hHeld => ?_)
 clear hK
 try simp only [Act.put]
 refine wpAnyH_ready (rs := [5]) (by kernel_rfl) (by simp) ?_
 refine AllReadyH.cons rfl (fun K hK => ?_) AllReadyH.nil
 have kc := cell_of_row _ (b + 1 + 1) 0 _ _ _ X2
 have kf := frozen_of_row _ (b + 1 + 1) 0 _ _ X2
 have ke := ZaU (.string t) X2
 go_simp
 go_wp2_with fail
 try rw [ke]
 clear kc kf ke
 refine hK.out _ _ ⟨X0, X1, X2⟩ (fun hHeld => ?_)
 clear hK
 try simp only [Act.put]
 refine wpAnyH_ready (rs := [6]) (by kernel_rfl) (by simp) ?_
 refine AllReadyH.cons rfl (fun K hK => ?_) AllReadyH.nil
 have kc := cell_of_row _ (b + 1 + 1 + 1) 0 _ _ _ X3
 have kf := frozen_of_row _ (b + 1 + 1 + 1) 0 _ _ X3
 go_simp
 go_wp2_with fail
 clear kc kf
 have Y0 := (heap_setCell_other _ ⟨b + 1 + 1 + 1, 0, none⟩ b (.bool false) (by show b ≠ b + 1 + 1 + 1; omega)).trans X0
 have Y1 := (heap_setCell_other _ ⟨b + 1 + 1 + 1, 0, none⟩ (b + 1) (.bool false) (by show b + 1 ≠ b + 1 + 1 + 1; omega)).trans X1
 have Y2 := (heap_setCell_other _ ⟨b + 1 + 1 + 1, 0, none⟩ (b + 1 + 1) (.bool false) (by show b + 1 + 1 ≠ b + 1 + 1 + 1; omega)).trans X2
 have Y3 := heap_setCell_same _ (b + 1 + 1 + 1) 0 _ _ (.bool false) X3
 replace B : Below b w _ := (B.mono LB).setCell (p := ⟨b + 1 + 1 + 1, 0, none⟩) (by show b <= b + 1 + 1 + 1; omega) (.bool false)
 refine hK.out _ _ ⟨Y0, Y1, Y2⟩ (fun hHeld => ?_)
 clear hK
 try simp only [Act.put]
 refine wpAnyH_done (by kernel_rfl) ?_ _
 exact NoPanic.normal (hQ _ _ _ _ Y0 Y1 Y2 Y3 B)
theorem Zgz {t0 t1 t6 t7 t8 t9 t10 t11 t12 t13 t14 t15 t16 t17 t18 t19 t20 t21 t22 t23 t24 t25 t26 t27 t28 t29 t30 t31 t32 t33 t34 t35 t36 t37 t38 t39 t40 t41 t42 t43 t44 t45 t46 t47 t48 t49 t50 t51 : Value} {fs : List Deferred} (b : Nat) (k p : Int) (t : ByteArray) (w : World) (Q : Exit -> Act -> World -> Prop)
  (h0 : w.heap[b]? = some (.cells #[.int .i64 k] 3 (0, 0))) (h1 : w.heap[b + 1]? = some (.cells #[.int .i64 p] 3 (0, 0))) (h2 : w.heap[b + 1 + 1]? = some (.cells #[.string t] 9 (0, 0))) (h3 : w.heap[b + 1 + 1 + 1]? = some (.cells #[.bool false] 4 (0, 0)))
  (hQ : ∀ u43 u44 u45 u46 u47 u48 u49 u50 u51 W, W.heap[b]? = some (.cells #[.int .i64 k] 3 (0, 0)) -> W.heap[b + 1]? = some (.cells #[.int .i64 p] 3 (0, 0)) -> W.heap[b + 1 + 1]? = some (.cells #[.string t] 9 (0, 0)) -> W.heap[b + 1 + 1 + 1]? = some (.cells #[.bool false] 4 (0, 0)) -> Below b w W -> Q .normal ⟨#[t0, t1, .pointer (some ⟨b, 0, none⟩), .pointer (some ⟨b + 1, 0, none⟩), .pointer (some ⟨b + 1 + 1, 0, none⟩), .pointer (some ⟨b + 1 + 1 + 1, 0, none⟩), t6, t7, t8, t9, t10, t11, t12, t13, t14, t15, t16, t17, t18, t19, t20, t21, t22, t23, t24, t25, t26, t27, t28, t29, t30, t31, t32, t33, t34, t35, t36, t37, t38, t39, t40, t41, t42, u43, u44, u45, u46, u47, u48, u49, u50, u51], fs⟩ W) :
  (Code.region 9 (List.toArray (⟨some 43, .load 3 (.tmp 2), 3, "l13_world.go:84", #[], none⟩ :: ⟨some 44, .load 3 (.tmp 3), 3, "l13_world.go:84", #[], none⟩ :: ⟨some 45, .load 9 (.tmp 4), 9, "l13_world.go:84", #[], none⟩ :: ⟨some 46, .load 4 (.tmp 5), 4, "l13_world.go:84", #[], none⟩ :: ⟨some 47, .move (.tmp 46), 4, "l13_world.go:84", #[⟨3, .data⟩], none⟩ :: ⟨some 48, .load 254 (.tmp 6), 254, "l13_world.go:84", #[⟨4, .guard⟩], some (4, true)⟩ :: ⟨some 49, .call { callee := .value (.func 209), args := #[.tmp 48], argTypes := #[254] }, 259, "l13_world.go:84", #[⟨5, .data⟩, ⟨4, .chain⟩, ⟨4, .guard⟩], some (4, true)⟩ :: ⟨some 50, .binOp .eql 259 (.tmp 49) (.const .nilIface) 259, 4, "l13_world.go:84", #[⟨6, .data⟩, ⟨4, .guard⟩], some (4, true)⟩ :: ⟨some 51, .pick (.tmp 47) (.tmp 50) (.const (.bool false)), 4, "l13_world.go:84", #[⟨4, .data⟩, ⟨7, .data⟩], none⟩ :: ⟨none, .store 3 (.tmp 2) (.tmp 43), 0, "l13_world.go:84", #[⟨0, .data⟩, ⟨6, .chain⟩, ⟨0, .phase⟩, { on := 1, ground := Ground.textOnly Departure.lateStoresUnsure }, { on := 2, ground := Ground.textOnly Departure.lateStoresUnsure }, { on := 3, ground := Ground.textOnly Departure.lateStoresUnsure }, { on := 4, ground := Ground.textOnly Departure.lateStoresUnsure }, { on := 5, ground := Ground.textOnly Departure.lateStoresUnsure }, { on := 6, ground := Ground.textOnly Departure.lateStoresUnsure }, { on := 7, ground := Ground.textOnly Departure.lateStoresUnsure }, { on := 8, ground := Ground.textOnly Departure.lateStoresUnsure }], none⟩ :: ⟨none, .store 3 (.tmp 3) (.tmp 44), 0, "l13_world.go:84", #[⟨1, .data⟩, ⟨9, .chain⟩, ⟨0, .phase⟩, ⟨1, .phase⟩, { on := 2, ground := Ground.textOnly Departure.lateStoresUnsure }, { on := 3, ground := Ground.textOnly Departure.lateStoresUnsure }, { on := 4, ground := Ground.textOnly Departure.lateStoresUnsure }, { on := 5, ground := Ground.textOnly Departure.lateStoresUnsure }, { on := 6, ground := Ground.textOnly Departure.lateStoresUnsure }, { on := 7, ground := Ground.textOnly Departure.lateStoresUnsure }, { on := 8, ground := Ground.textOnly Departure.lateStoresUnsure }, ⟨9, .phase⟩], none⟩ :: ⟨none, .store 9 (.tmp 4) (.tmp 45), 0, "l13_world.go:84", #[⟨2, .data⟩, ⟨10, .chain⟩, ⟨0, .phase⟩, ⟨1, .phase⟩, ⟨2, .phase⟩, { on := 3, ground := Ground.textOnly Departure.lateStoresUnsure }, { on := 4, ground := Ground.textOnly Departure.lateStoresUnsure }, { on := 5, ground := Ground.textOnly Departure.lateStoresUnsure }, { on := 6, ground := Ground.textOnly Departure.lateStoresUnsure }, { on := 7, ground := Ground.textOnly Departure.lateStoresUnsure }, { on := 8, ground := Ground.textOnly Departure.lateStoresUnsure }, ⟨9, .phase⟩, ⟨10, .phase⟩], none⟩ :: ⟨none, .store 4 (.tmp 5) (.tmp 51), 0, "l13_world.go:84", #[⟨8, .data⟩, ⟨11, .chain⟩, ⟨0, .phase⟩, ⟨1, .phase⟩, ⟨2, .phase⟩, ⟨3, .phase⟩, ⟨4, .phase⟩, ⟨5, .phase⟩, ⟨6, .phase⟩, ⟨7, .phase⟩, ⟨8, .phase⟩, ⟨9, .phase⟩, ⟨10, .phase⟩, ⟨11, .phase⟩], none⟩ :: [])) true).wp Tryz.prog Q ⟨#[t0, t1, .pointer (some ⟨b, 0, none⟩), .pointer (some ⟨b + 1, 0, none⟩), .pointer (some ⟨b + 1 + 1, 0, none⟩), .pointer (some ⟨b + 1 + 1 + 1, 0, none⟩), t6, t7, t8, t9, t10, t11, t12, t13, t14, t15, t16, t17, t18, t19, t20, t21, t22, t23, t24, t25, t26, t27, t28, t29, t30, t31, t32, t33, t34, t35, t36, t37, t38, t39, t40, t41, t42, t43, t44, t45, t46, t47, t48, t49, t50, t51], fs⟩ w := by
 have LB : b <= w.heap.size := Nat.le_of_lt (Zao h0)
 have B : Below w.heap.size w w.drew := ZaX w
 have X0 := Zal h0 B
 have X1 := Zal h1 B
 have X2 := Zal h2 B
 have X3 := Zal h3 B
 refine wp_region_noPanic ?_
 refine wp_region_held_drew (S := fun w' => w'.heap[b]? = some (.cells #[.int .i64 k] 3 (0, 0)) /\ w'.heap[b + 1]? = some (.cells #[.int .i64 p] 3 (0, 0)) /\ w'.heap[b + 1 + 1]? = some (.cells #[.string t] 9 (0, 0))) (by kernel_rfl) ⟨X0, X1, X2⟩ (fun hHeld => ?_)
 refine wpAnyH_take (i := 0) (oi := ⟨some 43, .load 3 (.tmp 2), 3, "l13_world.go:84", #[], none⟩) (v := .int .i64 k) rfl (by kernel_rfl) (by kernel_rfl) (by kernel_rfl) (fun _ _ _ h => h) (Or.inl ⟨by rfl, by intro w' hSw; have c := cell_of_row w' (b) 0 _ _ _ hSw.1; go_simp⟩) (by assumption) ?_
 simp only [Act.put, sit, sc0, scs]
 refine wpAnyH_take (i := 1) (oi := ⟨some 44, .load 3 (.tmp 3), 3, "l13_world.go:84", #[], none⟩) (v := .int .i64 p) rfl (by kernel_rfl) (by kernel_rfl) (by kernel_rfl) (fun _ _ _ h => h) (Or.inl ⟨by rfl, by intro w' hSw; have c := cell_of_row w' (b + 1) 0 _ _ _ hSw.2.1; go_simp⟩) (by assumption) ?_
 simp only [Act.put, sit, sc0, scs]
 refine wpAnyH_take (i := 2) (oi := ⟨some 45, .load 9 (.tmp 4), 9, "l13_world.go:84", #[], none⟩) (v := .string t) rfl (by kernel_rfl) (by kernel_rfl) (by kernel_rfl) (fun _ _ _ h => h) (Or.inl ⟨by rfl, by intro w' hSw; have c := cell_of_row w' (b + 1 + 1) 0 _ _ _ hSw.2.2; go_simp⟩) (by assumption) ?_
 simp only [Act.put, sit, sc0, scs]
 refine wpAnyH_ready (rs := [3]) (by kernel_rfl) (by simp) ?_
 refine AllReadyH.cons rfl (fun K hK => ?_) AllReadyH.nil
 have kc := cell_of_row _ (b + 1 + 1 + 1) 0 _ _ _ X3
 go_simp
 go_wp2_with fail
 clear kc
 refine hK.out _ _ ⟨X0, X1, X2⟩ (fun hHeld => ?_)
 clear hK
 refine wpAnyH_take (i := 4) (oi := ⟨some 47, .move (.tmp 46), 4, "l13_world.go:84", #[⟨3, .data⟩], none⟩) (v := .bool false) rfl (by kernel_rfl) (by kernel_rfl) (by kernel_rfl) (fun _ _ _ h => h) (Or.inl ⟨by rfl, by intro w hSw; go_simp⟩) (by assumption) ?_
 simp only [Act.put, sit, sc0, scs]
 refine wpAnyH_take (i := 5) (oi := ⟨some 48, .load 254 (.tmp 6), 254, "l13_world.go:84", #[⟨4, .guard⟩], some (4, true)⟩) (v := undef) rfl (by kernel_rfl) (by kernel_rfl) (by kernel_rfl) (fun _ _ _ h => h) (Or.inr ⟨by rfl, rfl⟩) (by assumption) ?_
 simp only [Act.put, sit, sc0, scs]
 refine wpAnyH_take (i := 6) (oi := ⟨some 49, .call { callee := .value (.func 209), args := #[.tmp 48], argTypes := #[254] }, 259, "l13_world.go:84", #[⟨5, .data⟩, ⟨4, .chain⟩, ⟨4, .guard⟩], some (4, true)⟩) (v := undef) rfl (by kernel_rfl) (by kernel_rfl) (by kernel_rfl) (fun _ _ _ h => h) (Or.inr ⟨by rfl, rfl⟩) (by assumption) ?_
 simp only [Act.put, sit, sc0, scs]
 refine wpAnyH_take (i := 7) (oi := ⟨some 50, .binOp .eql 259 (.tmp 49) (.const .nilIface) 259, 4, "l13_world.go:84", #[⟨6, .data⟩, ⟨4, .guard⟩], some (4, true)⟩) (v := undef) rfl (by kernel_rfl) (by kernel_rfl) (by kernel_rfl) (fun _ _ _ h => h) (Or.inr ⟨by rfl, rfl⟩) (by assumption) ?_
 simp only [Act.put, sit, sc0, scs]
 refine wpAnyH_take (i := 8) (oi := ⟨some 51, .pick (.tmp 47) (.tmp 50) (.const (.bool false)), 4, "l13_world.go:84", #[⟨4, .data⟩, ⟨7, .data⟩], none⟩) (v := .bool false) rfl (by kernel_rfl) (by kernel_rfl) (by kernel_rfl) (fun _ _ _ h => h) (Or.inl ⟨by rfl, by intro w hSw; go_simp⟩) (by assumption) ?_
 simp only [Act.put, sit, sc0, scs]
 refine wpAnyH_ready (rs := [9]) (by kernel_rfl) (by simp) ?_
 refine AllReadyH.cons rfl (fun K hK => ?_) AllReadyH.nil
 have kc := cell_of_row _ (b) 0 _ _ _ X0
 have kf := frozen_of_row _ (b) 0 _ _ X0
 have ke := ZaU (.int .i64 k) X0
 go_simp
 go_wp2_with fail
 try rw [ke]
 clear kc kf ke
 refine hK.out _ _ ⟨X0, X1, X2⟩ (fun hHeld => ?_)
 clear hK
 try simp only [Act.put]
 refine wpAnyH_ready (rs := [10]) (by kernel_rfl) (by simp) ?_
 refine AllReadyH.cons rfl (fun K hK => ?_) AllReadyH.nil
 have kc := cell_of_row _ (b + 1) 0 _ _ _ X1
 have kf := frozen_of_row _ (b + 1) 0 _ _ X1
 have ke := ZaU (.int .i64 p) X1
 go_simp
 go_wp2_with fail
 try rw [ke]
 clear kc kf ke
 refine hK.out _ _ ⟨X0, X1, X2⟩ (fun hHeld => ?_)
 clear hK
 try simp only [Act.put]
 refine wpAnyH_ready (rs := [11]) (by kernel_rfl) (by simp) ?_
 refine AllReadyH.cons rfl (fun K hK => ?_) AllReadyH.nil
 have kc := cell_of_row _ (b + 1 + 1) 0 _ _ _ X2
 have kf := frozen_of_row _ (b + 1 + 1) 0 _ _ X2
 have ke := ZaU (.string t) X2
 go_simp
 go_wp2_with fail
 try rw [ke]
 clear kc kf ke
 refine hK.out _ _ ⟨X0, X1, X2⟩ (fun hHeld => ?_)
 clear hK
 try simp only [Act.put]
 refine wpAnyH_ready (rs := [12]) (by kernel_rfl) (by simp) ?_
 refine AllReadyH.cons rfl (fun K hK => ?_) AllReadyH.nil
 have kc := cell_of_row _ (b + 1 + 1 + 1) 0 _ _ _ X3
 have kf := frozen_of_row _ (b + 1 + 1 + 1) 0 _ _ X3
 go_simp
 go_wp2_with fail
 clear kc kf
 have Y0 := (heap_setCell_other _ ⟨b + 1 + 1 + 1, 0, none⟩ b (.bool false) (by show b ≠ b + 1 + 1 + 1; omega)).trans X0
 have Y1 := (heap_setCell_other _ ⟨b + 1 + 1 + 1, 0, none⟩ (b + 1) (.bool false) (by show b + 1 ≠ b + 1 + 1 + 1; omega)).trans X1
 have Y2 := (heap_setCell_other _ ⟨b + 1 + 1 + 1, 0, none⟩ (b + 1 + 1) (.bool false) (by show b + 1 + 1 ≠ b + 1 + 1 + 1; omega)).trans X2
 have Y3 := heap_setCell_same _ (b + 1 + 1 + 1) 0 _ _ (.bool false) X3
 replace B : Below b w _ := (B.mono LB).setCell (p := ⟨b + 1 + 1 + 1, 0, none⟩) (by show b <= b + 1 + 1 + 1; omega) (.bool false)
 refine hK.out _ _ ⟨Y0, Y1, Y2⟩ (fun hHeld => ?_)
 clear hK
 try simp only [Act.put]
 refine wpAnyH_done (by kernel_rfl) ?_ _
 exact NoPanic.normal (hQ _ _ _ _ _ _ _ _ _ _ Y0 Y1 Y2 Y3 B)
theorem ZgW {t0 t1 t7 t8 t9 t10 t11 t12 t13 t14 t15 t16 t17 t18 t19 t20 t21 t22 t23 t24 t25 t26 t27 t28 t29 t30 t31 t32 t33 t34 t35 t36 t37 t38 t39 t40 t41 t42 t43 t44 t45 t46 t47 t48 t49 t50 t51 : Value} {fs : List Deferred} (b : Nat) (k p : Int) (t : ByteArray) (w : World) (Q : Exit -> Act -> World -> Prop)
  (h0 : w.heap[b]? = some (.cells #[.int .i64 k] 3 (0, 0))) (h1 : w.heap[b + 1]? = some (.cells #[.int .i64 p] 3 (0, 0))) (h2 : w.heap[b + 1 + 1]? = some (.cells #[.string t] 9 (0, 0))) (h3 : w.heap[b + 1 + 1 + 1]? = some (.cells #[.bool true] 4 (0, 0))) (rb P : Nat) (a : Int) (v : Value) (zs : List Int) (hv : ∃ ao cap, v = .slice ao zs.length cap) (h5 : w.heap[rb]? = some (.cells #[v, .pointer (some ⟨P, 0, none⟩)] 254 (0, 0))) (h6 : One w P a) (hrb : rb ≠ b + 1 + 1 + 1)
  (hQ : ∀ u43 u44 u45 u46 u47 u48 u49 u50 u51 W, W.heap[b]? = some (.cells #[.int .i64 k] 3 (0, 0)) -> W.heap[b + 1]? = some (.cells #[.int .i64 p] 3 (0, 0)) -> W.heap[b + 1 + 1]? = some (.cells #[.string t] 9 (0, 0)) -> W.heap[b + 1 + 1 + 1]? = some (.cells #[.bool (decide (zs.length <= a))] 4 (0, 0)) -> Below b w W -> Q .normal ⟨#[t0, t1, .pointer (some ⟨b, 0, none⟩), .pointer (some ⟨b + 1, 0, none⟩), .pointer (some ⟨b + 1 + 1, 0, none⟩), .pointer (some ⟨b + 1 + 1 + 1, 0, none⟩), .pointer (some ⟨rb, 0, none⟩), t7, t8, t9, t10, t11, t12, t13, t14, t15, t16, t17, t18, t19, t20, t21, t22, t23, t24, t25, t26, t27, t28, t29, t30, t31, t32, t33, t34, t35, t36, t37, t38, t39, t40, t41, t42, u43, u44, u45, u46, u47, u48, u49, u50, u51], fs⟩ W) :
  (Code.region 9 (List.toArray (⟨some 43, .load 3 (.tmp 2), 3, "l13_world.go:84", #[], none⟩ :: ⟨some 44, .load 3 (.tmp 3), 3, "l13_world.go:84", #[], none⟩ :: ⟨some 45, .load 9 (.tmp 4), 9, "l13_world.go:84", #[], none⟩ :: ⟨some 46, .load 4 (.tmp 5), 4, "l13_world.go:84", #[], none⟩ :: ⟨some 47, .move (.tmp 46), 4, "l13_world.go:84", #[⟨3, .data⟩], none⟩ :: ⟨some 48, .load 254 (.tmp 6), 254, "l13_world.go:84", #[⟨4, .guard⟩], some (4, true)⟩ :: ⟨some 49, .call { callee := .value (.func 209), args := #[.tmp 48], argTypes := #[254] }, 259, "l13_world.go:84", #[⟨5, .data⟩, ⟨4, .chain⟩, ⟨4, .guard⟩], some (4, true)⟩ :: ⟨some 50, .binOp .eql 259 (.tmp 49) (.const .nilIface) 259, 4, "l13_world.go:84", #[⟨6, .data⟩, ⟨4, .guard⟩], some (4, true)⟩ :: ⟨some 51, .pick (.tmp 47) (.tmp 50) (.const (.bool false)), 4, "l13_world.go:84", #[⟨4, .data⟩, ⟨7, .data⟩], none⟩ :: ⟨none, .store 3 (.tmp 2) (.tmp 43), 0, "l13_world.go:84", #[⟨0, .data⟩, ⟨6, .chain⟩, ⟨0, .phase⟩, { on := 1, ground := Ground.textOnly Departure.lateStoresUnsure }, { on := 2, ground := Ground.textOnly Departure.lateStoresUnsure }, { on := 3, ground := Ground.textOnly Departure.lateStoresUnsure }, { on := 4, ground := Ground.textOnly Departure.lateStoresUnsure }, { on := 5, ground := Ground.textOnly Departure.lateStoresUnsure }, { on := 6, ground := Ground.textOnly Departure.lateStoresUnsure }, { on := 7, ground := Ground.textOnly Departure.lateStoresUnsure }, { on := 8, ground := Ground.textOnly Departure.lateStoresUnsure }], none⟩ :: ⟨none, .store 3 (.tmp 3) (.tmp 44), 0, "l13_world.go:84", #[⟨1, .data⟩, ⟨9, .chain⟩, ⟨0, .phase⟩, ⟨1, .phase⟩, { on := 2, ground := Ground.textOnly Departure.lateStoresUnsure }, { on := 3, ground := Ground.textOnly Departure.lateStoresUnsure }, { on := 4, ground := Ground.textOnly Departure.lateStoresUnsure }, { on := 5, ground := Ground.textOnly Departure.lateStoresUnsure }, { on := 6, ground := Ground.textOnly Departure.lateStoresUnsure }, { on := 7, ground := Ground.textOnly Departure.lateStoresUnsure }, { on := 8, ground := Ground.textOnly Departure.lateStoresUnsure }, ⟨9, .phase⟩], none⟩ :: ⟨none, .store 9 (.tmp 4) (.tmp 45), 0, "l13_world.go:84", #[⟨2, .data⟩, ⟨10, .chain⟩, ⟨0, .phase⟩, ⟨1, .phase⟩, ⟨2, .phase⟩, { on := 3, ground := Ground.textOnly Departure.lateStoresUnsure }, { on := 4, ground := Ground.textOnly Departure.lateStoresUnsure }, { on := 5, ground := Ground.textOnly Departure.lateStoresUnsure }, { on := 6, ground := Ground.textOnly Departure.lateStoresUnsure }, { on := 7, ground := Ground.textOnly Departure.lateStoresUnsure }, { on := 8, ground := Ground.textOnly Departure.lateStoresUnsure }, ⟨9, .phase⟩, ⟨10, .phase⟩], none⟩ :: ⟨none, .store 4 (.tmp 5) (.tmp 51), 0, "l13_world.go:84", #[⟨8, .data⟩, ⟨11, .chain⟩, ⟨0, .phase⟩, ⟨1, .phase⟩, ⟨2, .phase⟩, ⟨3, .phase⟩, ⟨4, .phase⟩, ⟨5, .phase⟩, ⟨6, .phase⟩, ⟨7, .phase⟩, ⟨8, .phase⟩, ⟨9, .phase⟩, ⟨10, .phase⟩, ⟨11, .phase⟩], none⟩ :: [])) true).wp Tryz.prog Q ⟨#[t0, t1, .pointer (some ⟨b, 0, none⟩), .pointer (some ⟨b + 1, 0, none⟩), .pointer (some ⟨b + 1 + 1, 0, none⟩), .pointer (some ⟨b + 1 + 1 + 1, 0, none⟩), .pointer (some ⟨rb, 0, none⟩), t7, t8, t9, t10, t11, t12, t13, t14, t15, t16, t17, t18, t19, t20, t21, t22, t23, t24, t25, t26, t27, t28, t29, t30, t31, t32, t33, t34, t35, t36, t37, t38, t39, t40, t41, t42, t43, t44, t45, t46, t47, t48, t49, t50, t51], fs⟩ w := by
 have LB : b <= w.heap.size := Nat.le_of_lt (Zao h0)
 have B : Below w.heap.size w w.drew := ZaX w
 have X0 := Zal h0 B
 have X1 := Zal h1 B
 have X2 := Zal h2 B
 have X3 := Zal h3 B
 refine wp_region_noPanic ?_
 have X5 := Zal h5 B
 replace h6 := h6.below B h6.lt
 refine wp_region_held_drew (S := fun w' => w'.heap[b]? = some (.cells #[.int .i64 k] 3 (0, 0)) /\ w'.heap[b + 1]? = some (.cells #[.int .i64 p] 3 (0, 0)) /\ w'.heap[b + 1 + 1]? = some (.cells #[.string t] 9 (0, 0)) /\ w'.heap[rb]? = some (.cells #[v, .pointer (some ⟨P, 0, none⟩)] 254 (0, 0))) (by kernel_rfl) ⟨X0, X1, X2, X5⟩ (fun hHeld => ?_)
 refine wpAnyH_take (i := 0) (oi := ⟨some 43, .load 3 (.tmp 2), 3, "l13_world.go:84", #[], none⟩) (v := .int .i64 k) rfl (by kernel_rfl) (by kernel_rfl) (by kernel_rfl) (fun _ _ _ h => h) (Or.inl ⟨by rfl, by intro w' hSw; have c := cell_of_row w' (b) 0 _ _ _ hSw.1; go_simp⟩) (by assumption) ?_
 simp only [Act.put, sit, sc0, scs]
 refine wpAnyH_take (i := 1) (oi := ⟨some 44, .load 3 (.tmp 3), 3, "l13_world.go:84", #[], none⟩) (v := .int .i64 p) rfl (by kernel_rfl) (by kernel_rfl) (by kernel_rfl) (fun _ _ _ h => h) (Or.inl ⟨by rfl, by intro w' hSw; have c := cell_of_row w' (b + 1) 0 _ _ _ hSw.2.1; go_simp⟩) (by assumption) ?_
 simp only [Act.put, sit, sc0, scs]
 refine wpAnyH_take (i := 2) (oi := ⟨some 45, .load 9 (.tmp 4), 9, "l13_world.go:84", #[], none⟩) (v := .string t) rfl (by kernel_rfl) (by kernel_rfl) (by kernel_rfl) (fun _ _ _ h => h) (Or.inl ⟨by rfl, by intro w' hSw; have c := cell_of_row w' (b + 1 + 1) 0 _ _ _ hSw.2.2.1; go_simp⟩) (by assumption) ?_
 simp only [Act.put, sit, sc0, scs]
 refine wpAnyH_ready (rs := [3]) (by kernel_rfl) (by simp) ?_
 refine AllReadyH.cons rfl (fun K hK => ?_) AllReadyH.nil
 have kc := cell_of_row _ (b + 1 + 1 + 1) 0 _ _ _ X3
 go_simp
 go_wp2_with fail
 clear kc
 refine hK.out _ _ ⟨X0, X1, X2, X5⟩ (fun hHeld => ?_)
 clear hK
 refine wpAnyH_take (i := 4) (oi := ⟨some 47, .move (.tmp 46), 4, "l13_world.go:84", #[⟨3, .data⟩], none⟩) (v := .bool true) rfl (by kernel_rfl) (by kernel_rfl) (by kernel_rfl) (fun _ _ _ h => h) (Or.inl ⟨by rfl, by intro w hSw; go_simp⟩) (by assumption) ?_
 simp only [Act.put, sit, sc0, scs]
 refine wpAnyH_take (i := 5) (oi := ⟨some 48, .load 254 (.tmp 6), 254, "l13_world.go:84", #[⟨4, .guard⟩], some (4, true)⟩) (v := .agg #[v, .pointer (some ⟨P, 0, none⟩)]) rfl (by kernel_rfl) (by kernel_rfl) (by kernel_rfl) (fun _ _ _ h => h) (ZbD (by rfl) 254 _ rfl rb rfl #[v, .pointer (some ⟨P, 0, none⟩)] 254 _ (fun _ h => h.2.2.2) Tryz.underlying254 rfl Zms) (by assumption) ?_
 simp only [Act.put, sit, sc0, scs]
 refine wpAnyH_ready (rs := [6]) (by kernel_rfl) (by simp) ?_
 refine AllReadyH.cons rfl (fun K hK => ?_) AllReadyH.nil
 go_simp
 go_wp2_with (go_at_call 209; with_reducible refine (Zc4 v zs P a _ hv h6).mono ?_; rintro e wE ⟨r, rfl, he, hb⟩)
 replace X0 := Zal X0 hb
 replace X1 := Zal X1 hb
 replace X2 := Zal X2 hb
 replace X3 := Zal X3 hb
 replace X5 := Zal X5 hb
 replace B := B.trans (hb.mono B.size)
 clear hb
 refine hK.out _ _ ⟨X0, X1, X2, X5⟩ (fun hHeld => ?_)
 clear hK
 rcases he with ⟨hlt, pp, rfl⟩ | ⟨hlt, rfl⟩
 ·unfold badV
  rw [show decide (zs.length <= a) = false by simp; omega] at hQ
  refine wpAnyH_take (i := 7) (oi := ⟨some 50, .binOp .eql 259 (.tmp 49) (.const .nilIface) 259, 4, "l13_world.go:84", #[⟨6, .data⟩, ⟨4, .guard⟩], some (4, true)⟩) (v := .bool false) rfl (by kernel_rfl) (by kernel_rfl) (by kernel_rfl) (fun _ _ _ h => h) (Or.inl ⟨by rfl, by intro w hSw; go_simp⟩) (by assumption) ?_
  simp only [Act.put, sit, sc0, scs]
  refine wpAnyH_take (i := 8) (oi := ⟨some 51, .pick (.tmp 47) (.tmp 50) (.const (.bool false)), 4, "l13_world.go:84", #[⟨4, .data⟩, ⟨7, .data⟩], none⟩) (v := .bool false) rfl (by kernel_rfl) (by kernel_rfl) (by kernel_rfl) (fun _ _ _ h => h) (Or.inl ⟨by rfl, by intro w hSw; go_simp⟩) (by assumption) ?_
  simp only [Act.put, sit, sc0, scs]
  refine wpAnyH_ready (rs := [9]) (by kernel_rfl) (by simp) ?_
  refine AllReadyH.cons rfl (fun K hK => ?_) AllReadyH.nil
  have kc := cell_of_row _ (b) 0 _ _ _ X0
  have kf := frozen_of_row _ (b) 0 _ _ X0
  have ke := ZaU (.int .i64 k) X0
  go_simp
  go_wp2_with fail
  try rw [ke]
  clear kc kf ke
  refine hK.out _ _ ⟨X0, X1, X2, X5⟩ (fun hHeld => ?_)
  clear hK
  try simp only [Act.put]
  refine wpAnyH_ready (rs := [10]) (by kernel_rfl) (by simp) ?_
  refine AllReadyH.cons rfl (fun K hK => ?_) AllReadyH.nil
  have kc := cell_of_row _ (b + 1) 0 _ _ _ X1
  have kf := frozen_of_row _ (b + 1) 0 _ _ X1
  have ke := ZaU (.int .i64 p) X1
  go_simp
  go_wp2_with fail
  try rw [ke]
  clear kc kf ke
  refine hK.out _ _ ⟨X0, X1, X2, X5⟩ (fun hHeld => ?_)
  clear hK
  try simp only [Act.put]
  refine wpAnyH_ready (rs := [11]) (by kernel_rfl) (by simp) ?_
  refine AllReadyH.cons rfl (fun K hK => ?_) AllReadyH.nil
  have kc := cell_of_row _ (b + 1 + 1) 0 _ _ _ X2
  have kf := frozen_of_row _ (b + 1 + 1) 0 _ _ X2
  have ke := ZaU (.string t) X2
  go_simp
  go_wp2_with fail
  try rw [ke]
  clear kc kf ke
  refine hK.out _ _ ⟨X0, X1, X2, X5⟩ (fun hHeld => ?_)
  clear hK
  try simp only [Act.put]
  refine wpAnyH_ready (rs := [12]) (by kernel_rfl) (by simp) ?_
  refine AllReadyH.cons rfl (fun K hK => ?_) AllReadyH.nil
  have kc := cell_of_row _ (b + 1 + 1 + 1) 0 _ _ _ X3
  have kf := frozen_of_row _ (b + 1 + 1 + 1) 0 _ _ X3
  go_simp
  go_wp2_with fail
  clear kc kf
  have Y0 := (heap_setCell_other _ ⟨b + 1 + 1 + 1, 0, none⟩ b (.bool false) (by show b ≠ b + 1 + 1 + 1; omega)).trans X0
  have Y1 := (heap_setCell_other _ ⟨b + 1 + 1 + 1, 0, none⟩ (b + 1) (.bool false) (by show b + 1 ≠ b + 1 + 1 + 1; omega)).trans X1
  have Y2 := (heap_setCell_other _ ⟨b + 1 + 1 + 1, 0, none⟩ (b + 1 + 1) (.bool false) (by show b + 1 + 1 ≠ b + 1 + 1 + 1; omega)).trans X2
  have Y5 := (heap_setCell_other _ ⟨b + 1 + 1 + 1, 0, none⟩ rb (.bool false) (by simpa using hrb)).trans X5
  have Y3 := heap_setCell_same _ (b + 1 + 1 + 1) 0 _ _ (.bool false) X3
  replace B : Below b w _ := (B.mono LB).setCell (p := ⟨b + 1 + 1 + 1, 0, none⟩) (by show b <= b + 1 + 1 + 1; omega) (.bool false)
  refine hK.out _ _ ⟨Y0, Y1, Y2, Y5⟩ (fun hHeld => ?_)
  clear hK
  try simp only [Act.put]
  refine wpAnyH_done (by kernel_rfl) ?_ _
  exact NoPanic.normal (hQ _ _ _ _ _ _ _ _ _ _ Y0 Y1 Y2 Y3 B)
 ·rw [show decide (zs.length <= a) = true by simp; omega] at hQ
  refine wpAnyH_take (i := 7) (oi := ⟨some 50, .binOp .eql 259 (.tmp 49) (.const .nilIface) 259, 4, "l13_world.go:84", #[⟨6, .data⟩, ⟨4, .guard⟩], some (4, true)⟩) (v := .bool true) rfl (by kernel_rfl) (by kernel_rfl) (by kernel_rfl) (fun _ _ _ h => h) (Or.inl ⟨by rfl, by intro w hSw; go_simp⟩) (by assumption) ?_
  simp only [Act.put, sit, sc0, scs]
  refine wpAnyH_take (i := 8) (oi := ⟨some 51, .pick (.tmp 47) (.tmp 50) (.const (.bool false)), 4, "l13_world.go:84", #[⟨4, .data⟩, ⟨7, .data⟩], none⟩) (v := .bool true) rfl (by kernel_rfl) (by kernel_rfl) (by kernel_rfl) (fun _ _ _ h => h) (Or.inl ⟨by rfl, by intro w hSw; go_simp⟩) (by assumption) ?_
  simp only [Act.put, sit, sc0, scs]
  refine wpAnyH_ready (rs := [9]) (by kernel_rfl) (by simp) ?_
  refine AllReadyH.cons rfl (fun K hK => ?_) AllReadyH.nil
  have kc := cell_of_row _ (b) 0 _ _ _ X0
  have kf := frozen_of_row _ (b) 0 _ _ X0
  have ke := ZaU (.int .i64 k) X0
  go_simp
  go_wp2_with fail
  try rw [ke]
  clear kc kf ke
  refine hK.out _ _ ⟨X0, X1, X2, X5⟩ (fun hHeld => ?_)
  clear hK
  try simp only [Act.put]
  refine wpAnyH_ready (rs := [10]) (by kernel_rfl) (by simp) ?_
  refine AllReadyH.cons rfl (fun K hK => ?_) AllReadyH.nil
  have kc := cell_of_row _ (b + 1) 0 _ _ _ X1
  have kf := frozen_of_row _ (b + 1) 0 _ _ X1
  have ke := ZaU (.int .i64 p) X1
  go_simp
  go_wp2_with fail
  try rw [ke]
  clear kc kf ke
  refine hK.out _ _ ⟨X0, X1, X2, X5⟩ (fun hHeld => ?_)
  clear hK
  try simp only [Act.put]
  refine wpAnyH_ready (rs := [11]) (by kernel_rfl) (by simp) ?_
  refine AllReadyH.cons rfl (fun K hK => ?_) AllReadyH.nil
  have kc := cell_of_row _ (b + 1 + 1) 0 _ _ _ X2
  have kf := frozen_of_row _ (b + 1 + 1) 0 _ _ X2
  have ke := ZaU (.string t) X2
  go_simp
  go_wp2_with fail
  try rw [ke]
  clear kc kf ke
  refine hK.out _ _ ⟨X0, X1, X2, X5⟩ (fun hHeld => ?_)
  clear hK
  try simp only [Act.put]
  refine wpAnyH_ready (rs := [12]) (by kernel_rfl) (by simp) ?_
  refine AllReadyH.cons rfl (fun K hK => ?_) AllReadyH.nil
  have kc := cell_of_row _ (b + 1 + 1 + 1) 0 _ _ _ X3
  have kf := frozen_of_row _ (b + 1 + 1 + 1) 0 _ _ X3
  go_simp
  go_wp2_with fail
  clear kc kf
  have Y0 := (heap_setCell_other _ ⟨b + 1 + 1 + 1, 0, none⟩ b (.bool true) (by show b ≠ b + 1 + 1 + 1; omega)).trans X0
  have Y1 := (heap_setCell_other _ ⟨b + 1 + 1 + 1, 0, none⟩ (b + 1) (.bool true) (by show b + 1 ≠ b + 1 + 1 + 1; omega)).trans X1
  have Y2 := (heap_setCell_other _ ⟨b + 1 + 1 + 1, 0, none⟩ (b + 1 + 1) (.bool true) (by show b + 1 + 1 ≠ b + 1 + 1 + 1; omega)).trans X2
  have Y5 := (heap_setCell_other _ ⟨b + 1 + 1 + 1, 0, none⟩ rb (.bool true) (by simpa using hrb)).trans X5
  have Y3 := heap_setCell_same _ (b + 1 + 1 + 1) 0 _ _ (.bool true) X3
  replace B : Below b w _ := (B.mono LB).setCell (p := ⟨b + 1 + 1 + 1, 0, none⟩) (by show b <= b + 1 + 1 + 1; omega) (.bool true)
  refine hK.out _ _ ⟨Y0, Y1, Y2, Y5⟩ (fun hHeld => ?_)
  clear hK
  try simp only [Act.put]
  refine wpAnyH_done (by kernel_rfl) ?_ _
  exact NoPanic.normal (hQ _ _ _ _ _ _ _ _ _ _ Y0 Y1 Y2 Y3 B)
end Go.Proofs.YtfmafkebddojjaaGreatDoor
