/-
  The regions of impl.MailRead that draw their order: what was read is told, and whether it is a payload. No condition.
-/
import Derived.Test.YtpkpednemkagiaaMlMM
import Derived.Test.YtpkpednemkagiaaRdr8M
import Derived.Test.YtpkpednemkagiaaSMlRM
namespace Go.Proofs.Ytpkpednemkagiaa
open Go.RowKit

/-- A variable that is given what it has is as it was. -/
theorem set_same {w : World} {b : Nat} (v : Value) {t : TypeId} (h : w.heap[b]? = some (.cells #[v] t (0, 0))) : w.setCell ⟨b, 0, none⟩ v = w := by
  have e : (w.setCell ⟨b, 0, none⟩ v).heap = w.heap := by
    apply Array.ext_getElem?
    intro i
    by_cases hi : i = b
    · subst hi
      rw [heap_setCell_same w i 0 _ _ v h, h]
      rfl
    · exact heap_setCell_other w ⟨b, 0, none⟩ i v hi
  have : ∀ {x y : World}, x.heap = y.heap → x.tape = y.tape → x.drawn = y.drawn → x.os = y.os → x.output = y.output → x = y := by
    intro x y h1 h2 h3 h4 h5
    cases x; cases y; simp_all
  exact this e rfl rfl rfl rfl

set_option maxRecDepth 100000 in
set_option maxHeartbeats 6400000 in
theorem imlr_r7 {t0 t1 t6 t7 t8 t9 t10 t11 t12 t13 t14 t15 t16 t17 t18 t19 t20 t21 t22 t23 t24 t25 t26 t27 t28 t29 t30 t31 t32 t33 t34 t35 t36 t37 t38 t39 t40 t41 t42 t43 t44 t45 t46 t47 t48 t49 t50 t51 : Value} {fs : List Deferred} (b : Nat) (k p : Int) (t : ByteArray) (w : World) (Q : Exit → Act → World → Prop)
    (h0 : w.heap[b]? = some (.cells #[.int .i64 k] 3 (0, 0))) (h1 : w.heap[b + 1]? = some (.cells #[.int .i64 p] 3 (0, 0))) (h2 : w.heap[b + 1 + 1]? = some (.cells #[.string t] 9 (0, 0))) (ok : Bool) (h3 : w.heap[b + 1 + 1 + 1]? = some (.cells #[.bool ok] 4 (0, 0)))
    (hQ : ∀ u35 u36 u37 W, W.heap[b]? = some (.cells #[.int .i64 k] 3 (0, 0)) → W.heap[b + 1]? = some (.cells #[.int .i64 p] 3 (0, 0)) → W.heap[b + 1 + 1]? = some (.cells #[.string t] 9 (0, 0)) → W.heap[b + 1 + 1 + 1]? = some (.cells #[.bool false] 4 (0, 0)) → Below b w W → Q .normal ⟨#[t0, t1, .pointer (some ⟨b, 0, none⟩), .pointer (some ⟨b + 1, 0, none⟩), .pointer (some ⟨b + 1 + 1, 0, none⟩), .pointer (some ⟨b + 1 + 1 + 1, 0, none⟩), t6, t7, t8, t9, t10, t11, t12, t13, t14, t15, t16, t17, t18, t19, t20, t21, t22, t23, t24, t25, t26, t27, t28, t29, t30, t31, t32, t33, t34, u35, u36, u37, t38, t39, t40, t41, t42, t43, t44, t45, t46, t47, t48, t49, t50, t51], fs⟩ W) :
    (Code.region 7 (List.toArray (({ dst := some 35, op := Op.load 3 (Operand.tmp 2), type := 3, pos := "l13_world.go:81", after := #[], guard := none } : Oper) :: ({ dst := some 36, op := Op.load 3 (Operand.tmp 3), type := 3, pos := "l13_world.go:81", after := #[], guard := none } : Oper) :: ({ dst := some 37, op := Op.load 9 (Operand.tmp 4), type := 9, pos := "l13_world.go:81", after := #[], guard := none } : Oper) :: ({ dst := none, op := Op.store 3 (Operand.tmp 2) (Operand.tmp 35), type := 0, pos := "l13_world.go:81", after := #[{ on := 0, ground := Ground.data }, { on := 0, ground := Ground.phase }, { on := 1, ground := Ground.textOnly Departure.lateStoresUnsure }, { on := 2, ground := Ground.textOnly Departure.lateStoresUnsure }], guard := none } : Oper) :: ({ dst := none, op := Op.store 3 (Operand.tmp 3) (Operand.tmp 36), type := 0, pos := "l13_world.go:81", after := #[{ on := 1, ground := Ground.data }, { on := 3, ground := Ground.chain }, { on := 0, ground := Ground.phase }, { on := 1, ground := Ground.phase }, { on := 2, ground := Ground.textOnly Departure.lateStoresUnsure }, { on := 3, ground := Ground.phase }], guard := none } : Oper) :: ({ dst := none, op := Op.store 9 (Operand.tmp 4) (Operand.tmp 37), type := 0, pos := "l13_world.go:81", after := #[{ on := 2, ground := Ground.data }, { on := 4, ground := Ground.chain }, { on := 0, ground := Ground.phase }, { on := 1, ground := Ground.phase }, { on := 2, ground := Ground.phase }, { on := 3, ground := Ground.phase }, { on := 4, ground := Ground.phase }], guard := none } : Oper) :: ({ dst := none, op := Op.store 4 (Operand.tmp 5) (Operand.const (Value.bool false)), type := 0, pos := "l13_world.go:81", after := #[{ on := 5, ground := Ground.chain }, { on := 0, ground := Ground.phase }, { on := 1, ground := Ground.phase }, { on := 2, ground := Ground.phase }, { on := 3, ground := Ground.phase }, { on := 4, ground := Ground.phase }, { on := 5, ground := Ground.phase }], guard := none } : Oper) :: [])) true).wp Try.prog Q ⟨#[t0, t1, .pointer (some ⟨b, 0, none⟩), .pointer (some ⟨b + 1, 0, none⟩), .pointer (some ⟨b + 1 + 1, 0, none⟩), .pointer (some ⟨b + 1 + 1 + 1, 0, none⟩), t6, t7, t8, t9, t10, t11, t12, t13, t14, t15, t16, t17, t18, t19, t20, t21, t22, t23, t24, t25, t26, t27, t28, t29, t30, t31, t32, t33, t34, t35, t36, t37, t38, t39, t40, t41, t42, t43, t44, t45, t46, t47, t48, t49, t50, t51], fs⟩ w := by
  have LB : b ≤ w.heap.size := Nat.le_of_lt (blk_lt h0)
  have B : Below w.heap.size w w.drew := drew_bel w
  have X0 := blk_bel h0 B
  have X1 := blk_bel h1 B
  have X2 := blk_bel h2 B
  have X3 := blk_bel h3 B
  refine wp_region_noPanic ?_
  refine wp_region_held_drew (S := fun w' => w'.heap[b]? = some (.cells #[.int .i64 k] 3 (0, 0)) ∧ w'.heap[b + 1]? = some (.cells #[.int .i64 p] 3 (0, 0)) ∧ w'.heap[b + 1 + 1]? = some (.cells #[.string t] 9 (0, 0))) (by kernel_rfl) ⟨X0, X1, X2⟩ (fun hHeld => ?_)
  refine wpAnyH_take (i := 0) (oi := ({ dst := some 35, op := Op.load 3 (Operand.tmp 2), type := 3, pos := "l13_world.go:81", after := #[], guard := none } : Oper)) (v := .int .i64 k) rfl (by kernel_rfl) (by kernel_rfl) (by kernel_rfl) (fun _ _ _ h => h) (Or.inl ⟨by rfl, by intro w' hSw; have c := cell_of_row w' (b) 0 _ _ _ hSw.1; go_simp⟩) (by assumption) ?_
  simp only [Act.put, List.setIfInBounds_toArray, List.set_cons_zero, List.set_cons_succ]
  refine wpAnyH_take (i := 1) (oi := ({ dst := some 36, op := Op.load 3 (Operand.tmp 3), type := 3, pos := "l13_world.go:81", after := #[], guard := none } : Oper)) (v := .int .i64 p) rfl (by kernel_rfl) (by kernel_rfl) (by kernel_rfl) (fun _ _ _ h => h) (Or.inl ⟨by rfl, by intro w' hSw; have c := cell_of_row w' (b + 1) 0 _ _ _ hSw.2.1; go_simp⟩) (by assumption) ?_
  simp only [Act.put, List.setIfInBounds_toArray, List.set_cons_zero, List.set_cons_succ]
  refine wpAnyH_take (i := 2) (oi := ({ dst := some 37, op := Op.load 9 (Operand.tmp 4), type := 9, pos := "l13_world.go:81", after := #[], guard := none } : Oper)) (v := .string t) rfl (by kernel_rfl) (by kernel_rfl) (by kernel_rfl) (fun _ _ _ h => h) (Or.inl ⟨by rfl, by intro w' hSw; have c := cell_of_row w' (b + 1 + 1) 0 _ _ _ hSw.2.2; go_simp⟩) (by assumption) ?_
  simp only [Act.put, List.setIfInBounds_toArray, List.set_cons_zero, List.set_cons_succ]
  refine wpAnyH_ready (rs := [3]) (by kernel_rfl) (by simp) ?_
  refine AllReadyH.cons rfl (fun K hK => ?_) AllReadyH.nil
  have kc := cell_of_row _ (b) 0 _ _ _ X0
  have kf := frozen_of_row _ (b) 0 _ _ X0
  have ke := set_same (.int .i64 k) X0
  go_simp
  go_wp2_with fail
  try rw [ke]
  clear kc kf ke
  refine hK.out _ _ ⟨X0, X1, X2⟩ (fun hHeld => ?_)
  clear hK
  try simp only [Act.put]
  refine wpAnyH_ready (rs := [4]) (by kernel_rfl) (by simp) ?_
  refine AllReadyH.cons rfl (fun K hK => ?_) AllReadyH.nil
  have kc := cell_of_row _ (b + 1) 0 _ _ _ X1
  have kf := frozen_of_row _ (b + 1) 0 _ _ X1
  have ke := set_same (.int .i64 p) X1
  go_simp
  go_wp2_with fail
  try rw [ke]
  clear kc kf ke
  refine hK.out _ _ ⟨X0, X1, X2⟩ (fun hHeld => ?_)
  clear hK
  try simp only [Act.put]
  refine wpAnyH_ready (rs := [5]) (by kernel_rfl) (by simp) ?_
  refine AllReadyH.cons rfl (fun K hK => ?_) AllReadyH.nil
  have kc := cell_of_row _ (b + 1 + 1) 0 _ _ _ X2
  have kf := frozen_of_row _ (b + 1 + 1) 0 _ _ X2
  have ke := set_same (.string t) X2
  go_simp
  go_wp2_with fail
  try rw [ke]
  clear kc kf ke
  refine hK.out _ _ ⟨X0, X1, X2⟩ (fun hHeld => ?_)
  clear hK
  try simp only [Act.put]
  refine wpAnyH_ready (rs := [6]) (by kernel_rfl) (by simp) ?_
  refine AllReadyH.cons rfl (fun K hK => ?_) AllReadyH.nil
  have kc := cell_of_row _ (b + 1 + 1 + 1) 0 _ _ _ X3
  have kf := frozen_of_row _ (b + 1 + 1 + 1) 0 _ _ X3
  go_simp
  go_wp2_with fail
  clear kc kf
  have Y0 := (heap_setCell_other _ ⟨b + 1 + 1 + 1, 0, none⟩ b (.bool false) (by show b ≠ b + 1 + 1 + 1; omega)).trans X0
  have Y1 := (heap_setCell_other _ ⟨b + 1 + 1 + 1, 0, none⟩ (b + 1) (.bool false) (by show b + 1 ≠ b + 1 + 1 + 1; omega)).trans X1
  have Y2 := (heap_setCell_other _ ⟨b + 1 + 1 + 1, 0, none⟩ (b + 1 + 1) (.bool false) (by show b + 1 + 1 ≠ b + 1 + 1 + 1; omega)).trans X2
  have Y3 := heap_setCell_same _ (b + 1 + 1 + 1) 0 _ _ (.bool false) X3
  replace B : Below b w _ := (B.mono LB).setCell (p := ⟨b + 1 + 1 + 1, 0, none⟩) (by show b ≤ b + 1 + 1 + 1; omega) (.bool false)
  refine hK.out _ _ ⟨Y0, Y1, Y2⟩ (fun hHeld => ?_)
  clear hK
  try simp only [Act.put]
  refine wpAnyH_done (by kernel_rfl) ?_ _
  exact NoPanic.normal (hQ _ _ _ _ Y0 Y1 Y2 Y3 B)

set_option maxRecDepth 100000 in
set_option maxHeartbeats 6400000 in
theorem imlr_r9n {t0 t1 t6 t7 t8 t9 t10 t11 t12 t13 t14 t15 t16 t17 t18 t19 t20 t21 t22 t23 t24 t25 t26 t27 t28 t29 t30 t31 t32 t33 t34 t35 t36 t37 t38 t39 t40 t41 t42 t43 t44 t45 t46 t47 t48 t49 t50 t51 : Value} {fs : List Deferred} (b : Nat) (k p : Int) (t : ByteArray) (w : World) (Q : Exit → Act → World → Prop)
    (h0 : w.heap[b]? = some (.cells #[.int .i64 k] 3 (0, 0))) (h1 : w.heap[b + 1]? = some (.cells #[.int .i64 p] 3 (0, 0))) (h2 : w.heap[b + 1 + 1]? = some (.cells #[.string t] 9 (0, 0))) (h3 : w.heap[b + 1 + 1 + 1]? = some (.cells #[.bool false] 4 (0, 0)))
    (hQ : ∀ u43 u44 u45 u46 u47 u48 u49 u50 u51 W, W.heap[b]? = some (.cells #[.int .i64 k] 3 (0, 0)) → W.heap[b + 1]? = some (.cells #[.int .i64 p] 3 (0, 0)) → W.heap[b + 1 + 1]? = some (.cells #[.string t] 9 (0, 0)) → W.heap[b + 1 + 1 + 1]? = some (.cells #[.bool false] 4 (0, 0)) → Below b w W → Q .normal ⟨#[t0, t1, .pointer (some ⟨b, 0, none⟩), .pointer (some ⟨b + 1, 0, none⟩), .pointer (some ⟨b + 1 + 1, 0, none⟩), .pointer (some ⟨b + 1 + 1 + 1, 0, none⟩), t6, t7, t8, t9, t10, t11, t12, t13, t14, t15, t16, t17, t18, t19, t20, t21, t22, t23, t24, t25, t26, t27, t28, t29, t30, t31, t32, t33, t34, t35, t36, t37, t38, t39, t40, t41, t42, u43, u44, u45, u46, u47, u48, u49, u50, u51], fs⟩ W) :
    (Code.region 9 (List.toArray (({ dst := some 43, op := Op.load 3 (Operand.tmp 2), type := 3, pos := "l13_world.go:84", after := #[], guard := none } : Oper) :: ({ dst := some 44, op := Op.load 3 (Operand.tmp 3), type := 3, pos := "l13_world.go:84", after := #[], guard := none } : Oper) :: ({ dst := some 45, op := Op.load 9 (Operand.tmp 4), type := 9, pos := "l13_world.go:84", after := #[], guard := none } : Oper) :: ({ dst := some 46, op := Op.load 4 (Operand.tmp 5), type := 4, pos := "l13_world.go:84", after := #[], guard := none } : Oper) :: ({ dst := some 47, op := Op.move (Operand.tmp 46), type := 4, pos := "l13_world.go:84", after := #[{ on := 3, ground := Ground.data }], guard := none } : Oper) :: ({ dst := some 48, op := Op.load 40 (Operand.tmp 6), type := 40, pos := "l13_world.go:84", after := #[{ on := 4, ground := Ground.guard }], guard := some (4, true) } : Oper) :: ({ dst := some 49, op := Op.call { callee := Callee.value (Operand.func 20), args := #[Operand.tmp 48], argTypes := #[40] }, type := 47, pos := "l13_world.go:84", after := #[{ on := 5, ground := Ground.data }, { on := 4, ground := Ground.chain }, { on := 4, ground := Ground.guard }], guard := some (4, true) } : Oper) :: ({ dst := some 50, op := Op.binOp BinOp.eql 47 (Operand.tmp 49) (Operand.const Value.nilIface) 47, type := 4, pos := "l13_world.go:84", after := #[{ on := 6, ground := Ground.data }, { on := 4, ground := Ground.guard }], guard := some (4, true) } : Oper) :: ({ dst := some 51, op := Op.pick (Operand.tmp 47) (Operand.tmp 50) (Operand.const (Value.bool false)), type := 4, pos := "l13_world.go:84", after := #[{ on := 4, ground := Ground.data }, { on := 7, ground := Ground.data }], guard := none } : Oper) :: ({ dst := none, op := Op.store 3 (Operand.tmp 2) (Operand.tmp 43), type := 0, pos := "l13_world.go:84", after := #[{ on := 0, ground := Ground.data }, { on := 6, ground := Ground.chain }, { on := 0, ground := Ground.phase }, { on := 1, ground := Ground.textOnly Departure.lateStoresUnsure }, { on := 2, ground := Ground.textOnly Departure.lateStoresUnsure }, { on := 3, ground := Ground.textOnly Departure.lateStoresUnsure }, { on := 4, ground := Ground.textOnly Departure.lateStoresUnsure }, { on := 5, ground := Ground.textOnly Departure.lateStoresUnsure }, { on := 6, ground := Ground.textOnly Departure.lateStoresUnsure }, { on := 7, ground := Ground.textOnly Departure.lateStoresUnsure }, { on := 8, ground := Ground.textOnly Departure.lateStoresUnsure }], guard := none } : Oper) :: ({ dst := none, op := Op.store 3 (Operand.tmp 3) (Operand.tmp 44), type := 0, pos := "l13_world.go:84", after := #[{ on := 1, ground := Ground.data }, { on := 9, ground := Ground.chain }, { on := 0, ground := Ground.phase }, { on := 1, ground := Ground.phase }, { on := 2, ground := Ground.textOnly Departure.lateStoresUnsure }, { on := 3, ground := Ground.textOnly Departure.lateStoresUnsure }, { on := 4, ground := Ground.textOnly Departure.lateStoresUnsure }, { on := 5, ground := Ground.textOnly Departure.lateStoresUnsure }, { on := 6, ground := Ground.textOnly Departure.lateStoresUnsure }, { on := 7, ground := Ground.textOnly Departure.lateStoresUnsure }, { on := 8, ground := Ground.textOnly Departure.lateStoresUnsure }, { on := 9, ground := Ground.phase }], guard := none } : Oper) :: ({ dst := none, op := Op.store 9 (Operand.tmp 4) (Operand.tmp 45), type := 0, pos := "l13_world.go:84", after := #[{ on := 2, ground := Ground.data }, { on := 10, ground := Ground.chain }, { on := 0, ground := Ground.phase }, { on := 1, ground := Ground.phase }, { on := 2, ground := Ground.phase }, { on := 3, ground := Ground.textOnly Departure.lateStoresUnsure }, { on := 4, ground := Ground.textOnly Departure.lateStoresUnsure }, { on := 5, ground := Ground.textOnly Departure.lateStoresUnsure }, { on := 6, ground := Ground.textOnly Departure.lateStoresUnsure }, { on := 7, ground := Ground.textOnly Departure.lateStoresUnsure }, { on := 8, ground := Ground.textOnly Departure.lateStoresUnsure }, { on := 9, ground := Ground.phase }, { on := 10, ground := Ground.phase }], guard := none } : Oper) :: ({ dst := none, op := Op.store 4 (Operand.tmp 5) (Operand.tmp 51), type := 0, pos := "l13_world.go:84", after := #[{ on := 8, ground := Ground.data }, { on := 11, ground := Ground.chain }, { on := 0, ground := Ground.phase }, { on := 1, ground := Ground.phase }, { on := 2, ground := Ground.phase }, { on := 3, ground := Ground.phase }, { on := 4, ground := Ground.phase }, { on := 5, ground := Ground.phase }, { on := 6, ground := Ground.phase }, { on := 7, ground := Ground.phase }, { on := 8, ground := Ground.phase }, { on := 9, ground := Ground.phase }, { on := 10, ground := Ground.phase }, { on := 11, ground := Ground.phase }], guard := none } : Oper) :: [])) true).wp Try.prog Q ⟨#[t0, t1, .pointer (some ⟨b, 0, none⟩), .pointer (some ⟨b + 1, 0, none⟩), .pointer (some ⟨b + 1 + 1, 0, none⟩), .pointer (some ⟨b + 1 + 1 + 1, 0, none⟩), t6, t7, t8, t9, t10, t11, t12, t13, t14, t15, t16, t17, t18, t19, t20, t21, t22, t23, t24, t25, t26, t27, t28, t29, t30, t31, t32, t33, t34, t35, t36, t37, t38, t39, t40, t41, t42, t43, t44, t45, t46, t47, t48, t49, t50, t51], fs⟩ w := by
  have LB : b ≤ w.heap.size := Nat.le_of_lt (blk_lt h0)
  have B : Below w.heap.size w w.drew := drew_bel w
  have X0 := blk_bel h0 B
  have X1 := blk_bel h1 B
  have X2 := blk_bel h2 B
  have X3 := blk_bel h3 B
  refine wp_region_noPanic ?_
  refine wp_region_held_drew (S := fun w' => w'.heap[b]? = some (.cells #[.int .i64 k] 3 (0, 0)) ∧ w'.heap[b + 1]? = some (.cells #[.int .i64 p] 3 (0, 0)) ∧ w'.heap[b + 1 + 1]? = some (.cells #[.string t] 9 (0, 0))) (by kernel_rfl) ⟨X0, X1, X2⟩ (fun hHeld => ?_)
  refine wpAnyH_take (i := 0) (oi := ({ dst := some 43, op := Op.load 3 (Operand.tmp 2), type := 3, pos := "l13_world.go:84", after := #[], guard := none } : Oper)) (v := .int .i64 k) rfl (by kernel_rfl) (by kernel_rfl) (by kernel_rfl) (fun _ _ _ h => h) (Or.inl ⟨by rfl, by intro w' hSw; have c := cell_of_row w' (b) 0 _ _ _ hSw.1; go_simp⟩) (by assumption) ?_
  simp only [Act.put, List.setIfInBounds_toArray, List.set_cons_zero, List.set_cons_succ]
  refine wpAnyH_take (i := 1) (oi := ({ dst := some 44, op := Op.load 3 (Operand.tmp 3), type := 3, pos := "l13_world.go:84", after := #[], guard := none } : Oper)) (v := .int .i64 p) rfl (by kernel_rfl) (by kernel_rfl) (by kernel_rfl) (fun _ _ _ h => h) (Or.inl ⟨by rfl, by intro w' hSw; have c := cell_of_row w' (b + 1) 0 _ _ _ hSw.2.1; go_simp⟩) (by assumption) ?_
  simp only [Act.put, List.setIfInBounds_toArray, List.set_cons_zero, List.set_cons_succ]
  refine wpAnyH_take (i := 2) (oi := ({ dst := some 45, op := Op.load 9 (Operand.tmp 4), type := 9, pos := "l13_world.go:84", after := #[], guard := none } : Oper)) (v := .string t) rfl (by kernel_rfl) (by kernel_rfl) (by kernel_rfl) (fun _ _ _ h => h) (Or.inl ⟨by rfl, by intro w' hSw; have c := cell_of_row w' (b + 1 + 1) 0 _ _ _ hSw.2.2; go_simp⟩) (by assumption) ?_
  simp only [Act.put, List.setIfInBounds_toArray, List.set_cons_zero, List.set_cons_succ]
  refine wpAnyH_ready (rs := [3]) (by kernel_rfl) (by simp) ?_
  refine AllReadyH.cons rfl (fun K hK => ?_) AllReadyH.nil
  have kc := cell_of_row _ (b + 1 + 1 + 1) 0 _ _ _ X3
  go_simp
  go_wp2_with fail
  clear kc
  refine hK.out _ _ ⟨X0, X1, X2⟩ (fun hHeld => ?_)
  clear hK
  refine wpAnyH_take (i := 4) (oi := ({ dst := some 47, op := Op.move (Operand.tmp 46), type := 4, pos := "l13_world.go:84", after := #[{ on := 3, ground := Ground.data }], guard := none } : Oper)) (v := .bool false) rfl (by kernel_rfl) (by kernel_rfl) (by kernel_rfl) (fun _ _ _ h => h) (Or.inl ⟨by rfl, by intro w hSw; go_simp⟩) (by assumption) ?_
  simp only [Act.put, List.setIfInBounds_toArray, List.set_cons_zero, List.set_cons_succ]
  refine wpAnyH_take (i := 5) (oi := ({ dst := some 48, op := Op.load 40 (Operand.tmp 6), type := 40, pos := "l13_world.go:84", after := #[{ on := 4, ground := Ground.guard }], guard := some (4, true) } : Oper)) (v := undef) rfl (by kernel_rfl) (by kernel_rfl) (by kernel_rfl) (fun _ _ _ h => h) (Or.inr ⟨by rfl, rfl⟩) (by assumption) ?_
  simp only [Act.put, List.setIfInBounds_toArray, List.set_cons_zero, List.set_cons_succ]
  refine wpAnyH_take (i := 6) (oi := ({ dst := some 49, op := Op.call { callee := Callee.value (Operand.func 20), args := #[Operand.tmp 48], argTypes := #[40] }, type := 47, pos := "l13_world.go:84", after := #[{ on := 5, ground := Ground.data }, { on := 4, ground := Ground.chain }, { on := 4, ground := Ground.guard }], guard := some (4, true) } : Oper)) (v := undef) rfl (by kernel_rfl) (by kernel_rfl) (by kernel_rfl) (fun _ _ _ h => h) (Or.inr ⟨by rfl, rfl⟩) (by assumption) ?_
  simp only [Act.put, List.setIfInBounds_toArray, List.set_cons_zero, List.set_cons_succ]
  refine wpAnyH_take (i := 7) (oi := ({ dst := some 50, op := Op.binOp BinOp.eql 47 (Operand.tmp 49) (Operand.const Value.nilIface) 47, type := 4, pos := "l13_world.go:84", after := #[{ on := 6, ground := Ground.data }, { on := 4, ground := Ground.guard }], guard := some (4, true) } : Oper)) (v := undef) rfl (by kernel_rfl) (by kernel_rfl) (by kernel_rfl) (fun _ _ _ h => h) (Or.inr ⟨by rfl, rfl⟩) (by assumption) ?_
  simp only [Act.put, List.setIfInBounds_toArray, List.set_cons_zero, List.set_cons_succ]
  refine wpAnyH_take (i := 8) (oi := ({ dst := some 51, op := Op.pick (Operand.tmp 47) (Operand.tmp 50) (Operand.const (Value.bool false)), type := 4, pos := "l13_world.go:84", after := #[{ on := 4, ground := Ground.data }, { on := 7, ground := Ground.data }], guard := none } : Oper)) (v := .bool false) rfl (by kernel_rfl) (by kernel_rfl) (by kernel_rfl) (fun _ _ _ h => h) (Or.inl ⟨by rfl, by intro w hSw; go_simp⟩) (by assumption) ?_
  simp only [Act.put, List.setIfInBounds_toArray, List.set_cons_zero, List.set_cons_succ]
  refine wpAnyH_ready (rs := [9]) (by kernel_rfl) (by simp) ?_
  refine AllReadyH.cons rfl (fun K hK => ?_) AllReadyH.nil
  have kc := cell_of_row _ (b) 0 _ _ _ X0
  have kf := frozen_of_row _ (b) 0 _ _ X0
  have ke := set_same (.int .i64 k) X0
  go_simp
  go_wp2_with fail
  try rw [ke]
  clear kc kf ke
  refine hK.out _ _ ⟨X0, X1, X2⟩ (fun hHeld => ?_)
  clear hK
  try simp only [Act.put]
  refine wpAnyH_ready (rs := [10]) (by kernel_rfl) (by simp) ?_
  refine AllReadyH.cons rfl (fun K hK => ?_) AllReadyH.nil
  have kc := cell_of_row _ (b + 1) 0 _ _ _ X1
  have kf := frozen_of_row _ (b + 1) 0 _ _ X1
  have ke := set_same (.int .i64 p) X1
  go_simp
  go_wp2_with fail
  try rw [ke]
  clear kc kf ke
  refine hK.out _ _ ⟨X0, X1, X2⟩ (fun hHeld => ?_)
  clear hK
  try simp only [Act.put]
  refine wpAnyH_ready (rs := [11]) (by kernel_rfl) (by simp) ?_
  refine AllReadyH.cons rfl (fun K hK => ?_) AllReadyH.nil
  have kc := cell_of_row _ (b + 1 + 1) 0 _ _ _ X2
  have kf := frozen_of_row _ (b + 1 + 1) 0 _ _ X2
  have ke := set_same (.string t) X2
  go_simp
  go_wp2_with fail
  try rw [ke]
  clear kc kf ke
  refine hK.out _ _ ⟨X0, X1, X2⟩ (fun hHeld => ?_)
  clear hK
  try simp only [Act.put]
  refine wpAnyH_ready (rs := [12]) (by kernel_rfl) (by simp) ?_
  refine AllReadyH.cons rfl (fun K hK => ?_) AllReadyH.nil
  have kc := cell_of_row _ (b + 1 + 1 + 1) 0 _ _ _ X3
  have kf := frozen_of_row _ (b + 1 + 1 + 1) 0 _ _ X3
  go_simp
  go_wp2_with fail
  clear kc kf
  have Y0 := (heap_setCell_other _ ⟨b + 1 + 1 + 1, 0, none⟩ b (.bool false) (by show b ≠ b + 1 + 1 + 1; omega)).trans X0
  have Y1 := (heap_setCell_other _ ⟨b + 1 + 1 + 1, 0, none⟩ (b + 1) (.bool false) (by show b + 1 ≠ b + 1 + 1 + 1; omega)).trans X1
  have Y2 := (heap_setCell_other _ ⟨b + 1 + 1 + 1, 0, none⟩ (b + 1 + 1) (.bool false) (by show b + 1 + 1 ≠ b + 1 + 1 + 1; omega)).trans X2
  have Y3 := heap_setCell_same _ (b + 1 + 1 + 1) 0 _ _ (.bool false) X3
  replace B : Below b w _ := (B.mono LB).setCell (p := ⟨b + 1 + 1 + 1, 0, none⟩) (by show b ≤ b + 1 + 1 + 1; omega) (.bool false)
  refine hK.out _ _ ⟨Y0, Y1, Y2⟩ (fun hHeld => ?_)
  clear hK
  try simp only [Act.put]
  refine wpAnyH_done (by kernel_rfl) ?_ _
  exact NoPanic.normal (hQ _ _ _ _ _ _ _ _ _ _ Y0 Y1 Y2 Y3 B)

set_option maxRecDepth 100000 in
set_option maxHeartbeats 6400000 in
theorem imlr_r9y {t0 t1 t7 t8 t9 t10 t11 t12 t13 t14 t15 t16 t17 t18 t19 t20 t21 t22 t23 t24 t25 t26 t27 t28 t29 t30 t31 t32 t33 t34 t35 t36 t37 t38 t39 t40 t41 t42 t43 t44 t45 t46 t47 t48 t49 t50 t51 : Value} {fs : List Deferred} (b : Nat) (k p : Int) (t : ByteArray) (w : World) (Q : Exit → Act → World → Prop)
    (h0 : w.heap[b]? = some (.cells #[.int .i64 k] 3 (0, 0))) (h1 : w.heap[b + 1]? = some (.cells #[.int .i64 p] 3 (0, 0))) (h2 : w.heap[b + 1 + 1]? = some (.cells #[.string t] 9 (0, 0))) (h3 : w.heap[b + 1 + 1 + 1]? = some (.cells #[.bool true] 4 (0, 0))) (rb P : Nat) (a : Int) (v : Value) (zs : List Int) (hv : ∃ ao cap, v = .slice ao zs.length cap) (h5 : w.heap[rb]? = some (.cells #[v, .pointer (some ⟨P, 0, none⟩)] 40 (0, 0))) (h6 : One w P a) (hrb : rb ≠ b + 1 + 1 + 1)
    (hQ : ∀ u43 u44 u45 u46 u47 u48 u49 u50 u51 W, W.heap[b]? = some (.cells #[.int .i64 k] 3 (0, 0)) → W.heap[b + 1]? = some (.cells #[.int .i64 p] 3 (0, 0)) → W.heap[b + 1 + 1]? = some (.cells #[.string t] 9 (0, 0)) → W.heap[b + 1 + 1 + 1]? = some (.cells #[.bool (decide (zs.length ≤ a))] 4 (0, 0)) → Below b w W → Q .normal ⟨#[t0, t1, .pointer (some ⟨b, 0, none⟩), .pointer (some ⟨b + 1, 0, none⟩), .pointer (some ⟨b + 1 + 1, 0, none⟩), .pointer (some ⟨b + 1 + 1 + 1, 0, none⟩), .pointer (some ⟨rb, 0, none⟩), t7, t8, t9, t10, t11, t12, t13, t14, t15, t16, t17, t18, t19, t20, t21, t22, t23, t24, t25, t26, t27, t28, t29, t30, t31, t32, t33, t34, t35, t36, t37, t38, t39, t40, t41, t42, u43, u44, u45, u46, u47, u48, u49, u50, u51], fs⟩ W) :
    (Code.region 9 (List.toArray (({ dst := some 43, op := Op.load 3 (Operand.tmp 2), type := 3, pos := "l13_world.go:84", after := #[], guard := none } : Oper) :: ({ dst := some 44, op := Op.load 3 (Operand.tmp 3), type := 3, pos := "l13_world.go:84", after := #[], guard := none } : Oper) :: ({ dst := some 45, op := Op.load 9 (Operand.tmp 4), type := 9, pos := "l13_world.go:84", after := #[], guard := none } : Oper) :: ({ dst := some 46, op := Op.load 4 (Operand.tmp 5), type := 4, pos := "l13_world.go:84", after := #[], guard := none } : Oper) :: ({ dst := some 47, op := Op.move (Operand.tmp 46), type := 4, pos := "l13_world.go:84", after := #[{ on := 3, ground := Ground.data }], guard := none } : Oper) :: ({ dst := some 48, op := Op.load 40 (Operand.tmp 6), type := 40, pos := "l13_world.go:84", after := #[{ on := 4, ground := Ground.guard }], guard := some (4, true) } : Oper) :: ({ dst := some 49, op := Op.call { callee := Callee.value (Operand.func 20), args := #[Operand.tmp 48], argTypes := #[40] }, type := 47, pos := "l13_world.go:84", after := #[{ on := 5, ground := Ground.data }, { on := 4, ground := Ground.chain }, { on := 4, ground := Ground.guard }], guard := some (4, true) } : Oper) :: ({ dst := some 50, op := Op.binOp BinOp.eql 47 (Operand.tmp 49) (Operand.const Value.nilIface) 47, type := 4, pos := "l13_world.go:84", after := #[{ on := 6, ground := Ground.data }, { on := 4, ground := Ground.guard }], guard := some (4, true) } : Oper) :: ({ dst := some 51, op := Op.pick (Operand.tmp 47) (Operand.tmp 50) (Operand.const (Value.bool false)), type := 4, pos := "l13_world.go:84", after := #[{ on := 4, ground := Ground.data }, { on := 7, ground := Ground.data }], guard := none } : Oper) :: ({ dst := none, op := Op.store 3 (Operand.tmp 2) (Operand.tmp 43), type := 0, pos := "l13_world.go:84", after := #[{ on := 0, ground := Ground.data }, { on := 6, ground := Ground.chain }, { on := 0, ground := Ground.phase }, { on := 1, ground := Ground.textOnly Departure.lateStoresUnsure }, { on := 2, ground := Ground.textOnly Departure.lateStoresUnsure }, { on := 3, ground := Ground.textOnly Departure.lateStoresUnsure }, { on := 4, ground := Ground.textOnly Departure.lateStoresUnsure }, { on := 5, ground := Ground.textOnly Departure.lateStoresUnsure }, { on := 6, ground := Ground.textOnly Departure.lateStoresUnsure }, { on := 7, ground := Ground.textOnly Departure.lateStoresUnsure }, { on := 8, ground := Ground.textOnly Departure.lateStoresUnsure }], guard := none } : Oper) :: ({ dst := none, op := Op.store 3 (Operand.tmp 3) (Operand.tmp 44), type := 0, pos := "l13_world.go:84", after := #[{ on := 1, ground := Ground.data }, { on := 9, ground := Ground.chain }, { on := 0, ground := Ground.phase }, { on := 1, ground := Ground.phase }, { on := 2, ground := Ground.textOnly Departure.lateStoresUnsure }, { on := 3, ground := Ground.textOnly Departure.lateStoresUnsure }, { on := 4, ground := Ground.textOnly Departure.lateStoresUnsure }, { on := 5, ground := Ground.textOnly Departure.lateStoresUnsure }, { on := 6, ground := Ground.textOnly Departure.lateStoresUnsure }, { on := 7, ground := Ground.textOnly Departure.lateStoresUnsure }, { on := 8, ground := Ground.textOnly Departure.lateStoresUnsure }, { on := 9, ground := Ground.phase }], guard := none } : Oper) :: ({ dst := none, op := Op.store 9 (Operand.tmp 4) (Operand.tmp 45), type := 0, pos := "l13_world.go:84", after := #[{ on := 2, ground := Ground.data }, { on := 10, ground := Ground.chain }, { on := 0, ground := Ground.phase }, { on := 1, ground := Ground.phase }, { on := 2, ground := Ground.phase }, { on := 3, ground := Ground.textOnly Departure.lateStoresUnsure }, { on := 4, ground := Ground.textOnly Departure.lateStoresUnsure }, { on := 5, ground := Ground.textOnly Departure.lateStoresUnsure }, { on := 6, ground := Ground.textOnly Departure.lateStoresUnsure }, { on := 7, ground := Ground.textOnly Departure.lateStoresUnsure }, { on := 8, ground := Ground.textOnly Departure.lateStoresUnsure }, { on := 9, ground := Ground.phase }, { on := 10, ground := Ground.phase }], guard := none } : Oper) :: ({ dst := none, op := Op.store 4 (Operand.tmp 5) (Operand.tmp 51), type := 0, pos := "l13_world.go:84", after := #[{ on := 8, ground := Ground.data }, { on := 11, ground := Ground.chain }, { on := 0, ground := Ground.phase }, { on := 1, ground := Ground.phase }, { on := 2, ground := Ground.phase }, { on := 3, ground := Ground.phase }, { on := 4, ground := Ground.phase }, { on := 5, ground := Ground.phase }, { on := 6, ground := Ground.phase }, { on := 7, ground := Ground.phase }, { on := 8, ground := Ground.phase }, { on := 9, ground := Ground.phase }, { on := 10, ground := Ground.phase }, { on := 11, ground := Ground.phase }], guard := none } : Oper) :: [])) true).wp Try.prog Q ⟨#[t0, t1, .pointer (some ⟨b, 0, none⟩), .pointer (some ⟨b + 1, 0, none⟩), .pointer (some ⟨b + 1 + 1, 0, none⟩), .pointer (some ⟨b + 1 + 1 + 1, 0, none⟩), .pointer (some ⟨rb, 0, none⟩), t7, t8, t9, t10, t11, t12, t13, t14, t15, t16, t17, t18, t19, t20, t21, t22, t23, t24, t25, t26, t27, t28, t29, t30, t31, t32, t33, t34, t35, t36, t37, t38, t39, t40, t41, t42, t43, t44, t45, t46, t47, t48, t49, t50, t51], fs⟩ w := by
  have LB : b ≤ w.heap.size := Nat.le_of_lt (blk_lt h0)
  have B : Below w.heap.size w w.drew := drew_bel w
  have X0 := blk_bel h0 B
  have X1 := blk_bel h1 B
  have X2 := blk_bel h2 B
  have X3 := blk_bel h3 B
  refine wp_region_noPanic ?_
  have X5 := blk_bel h5 B
  replace h6 := h6.below B h6.lt
  refine wp_region_held_drew (S := fun w' => w'.heap[b]? = some (.cells #[.int .i64 k] 3 (0, 0)) ∧ w'.heap[b + 1]? = some (.cells #[.int .i64 p] 3 (0, 0)) ∧ w'.heap[b + 1 + 1]? = some (.cells #[.string t] 9 (0, 0)) ∧ w'.heap[rb]? = some (.cells #[v, .pointer (some ⟨P, 0, none⟩)] 40 (0, 0))) (by kernel_rfl) ⟨X0, X1, X2, X5⟩ (fun hHeld => ?_)
  refine wpAnyH_take (i := 0) (oi := ({ dst := some 43, op := Op.load 3 (Operand.tmp 2), type := 3, pos := "l13_world.go:84", after := #[], guard := none } : Oper)) (v := .int .i64 k) rfl (by kernel_rfl) (by kernel_rfl) (by kernel_rfl) (fun _ _ _ h => h) (Or.inl ⟨by rfl, by intro w' hSw; have c := cell_of_row w' (b) 0 _ _ _ hSw.1; go_simp⟩) (by assumption) ?_
  simp only [Act.put, List.setIfInBounds_toArray, List.set_cons_zero, List.set_cons_succ]
  refine wpAnyH_take (i := 1) (oi := ({ dst := some 44, op := Op.load 3 (Operand.tmp 3), type := 3, pos := "l13_world.go:84", after := #[], guard := none } : Oper)) (v := .int .i64 p) rfl (by kernel_rfl) (by kernel_rfl) (by kernel_rfl) (fun _ _ _ h => h) (Or.inl ⟨by rfl, by intro w' hSw; have c := cell_of_row w' (b + 1) 0 _ _ _ hSw.2.1; go_simp⟩) (by assumption) ?_
  simp only [Act.put, List.setIfInBounds_toArray, List.set_cons_zero, List.set_cons_succ]
  refine wpAnyH_take (i := 2) (oi := ({ dst := some 45, op := Op.load 9 (Operand.tmp 4), type := 9, pos := "l13_world.go:84", after := #[], guard := none } : Oper)) (v := .string t) rfl (by kernel_rfl) (by kernel_rfl) (by kernel_rfl) (fun _ _ _ h => h) (Or.inl ⟨by rfl, by intro w' hSw; have c := cell_of_row w' (b + 1 + 1) 0 _ _ _ hSw.2.2.1; go_simp⟩) (by assumption) ?_
  simp only [Act.put, List.setIfInBounds_toArray, List.set_cons_zero, List.set_cons_succ]
  refine wpAnyH_ready (rs := [3]) (by kernel_rfl) (by simp) ?_
  refine AllReadyH.cons rfl (fun K hK => ?_) AllReadyH.nil
  have kc := cell_of_row _ (b + 1 + 1 + 1) 0 _ _ _ X3
  go_simp
  go_wp2_with fail
  clear kc
  refine hK.out _ _ ⟨X0, X1, X2, X5⟩ (fun hHeld => ?_)
  clear hK
  refine wpAnyH_take (i := 4) (oi := ({ dst := some 47, op := Op.move (Operand.tmp 46), type := 4, pos := "l13_world.go:84", after := #[{ on := 3, ground := Ground.data }], guard := none } : Oper)) (v := .bool true) rfl (by kernel_rfl) (by kernel_rfl) (by kernel_rfl) (fun _ _ _ h => h) (Or.inl ⟨by rfl, by intro w hSw; go_simp⟩) (by assumption) ?_
  simp only [Act.put, List.setIfInBounds_toArray, List.set_cons_zero, List.set_cons_succ]
  refine wpAnyH_take (i := 5) (oi := ({ dst := some 48, op := Op.load 40 (Operand.tmp 6), type := 40, pos := "l13_world.go:84", after := #[{ on := 4, ground := Ground.guard }], guard := some (4, true) } : Oper)) (v := .agg #[v, .pointer (some ⟨P, 0, none⟩)]) rfl (by kernel_rfl) (by kernel_rfl) (by kernel_rfl) (fun _ _ _ h => h) (yields_row (by rfl) 40 _ rfl rb rfl #[v, .pointer (some ⟨P, 0, none⟩)] 40 _ (fun _ h => h.2.2.2) Try.underlying40 rfl Try.sizeRd) (by assumption) ?_
  simp only [Act.put, List.setIfInBounds_toArray, List.set_cons_zero, List.set_cons_succ]
  refine wpAnyH_ready (rs := [6]) (by kernel_rfl) (by simp) ?_
  refine AllReadyH.cons rfl (fun K hK => ?_) AllReadyH.nil
  go_simp
  go_wp2_with (go_at_call 20; with_reducible refine (rend_any v zs P a _ hv h6).mono ?_; rintro e wE ⟨r, rfl, he, hb⟩)
  replace X0 := blk_bel X0 hb
  replace X1 := blk_bel X1 hb
  replace X2 := blk_bel X2 hb
  replace X3 := blk_bel X3 hb
  replace X5 := blk_bel X5 hb
  replace B := B.trans (hb.mono B.size)
  clear hb
  refine hK.out _ _ ⟨X0, X1, X2, X5⟩ (fun hHeld => ?_)
  clear hK
  rcases he with ⟨hlt, pp, rfl⟩ | ⟨hlt, rfl⟩
  · unfold badV
    rw [show decide (zs.length ≤ a) = false by simp; omega] at hQ
    refine wpAnyH_take (i := 7) (oi := ({ dst := some 50, op := Op.binOp BinOp.eql 47 (Operand.tmp 49) (Operand.const Value.nilIface) 47, type := 4, pos := "l13_world.go:84", after := #[{ on := 6, ground := Ground.data }, { on := 4, ground := Ground.guard }], guard := some (4, true) } : Oper)) (v := .bool false) rfl (by kernel_rfl) (by kernel_rfl) (by kernel_rfl) (fun _ _ _ h => h) (Or.inl ⟨by rfl, by intro w hSw; go_simp⟩) (by assumption) ?_
    simp only [Act.put, List.setIfInBounds_toArray, List.set_cons_zero, List.set_cons_succ]
    refine wpAnyH_take (i := 8) (oi := ({ dst := some 51, op := Op.pick (Operand.tmp 47) (Operand.tmp 50) (Operand.const (Value.bool false)), type := 4, pos := "l13_world.go:84", after := #[{ on := 4, ground := Ground.data }, { on := 7, ground := Ground.data }], guard := none } : Oper)) (v := .bool false) rfl (by kernel_rfl) (by kernel_rfl) (by kernel_rfl) (fun _ _ _ h => h) (Or.inl ⟨by rfl, by intro w hSw; go_simp⟩) (by assumption) ?_
    simp only [Act.put, List.setIfInBounds_toArray, List.set_cons_zero, List.set_cons_succ]
    refine wpAnyH_ready (rs := [9]) (by kernel_rfl) (by simp) ?_
    refine AllReadyH.cons rfl (fun K hK => ?_) AllReadyH.nil
    have kc := cell_of_row _ (b) 0 _ _ _ X0
    have kf := frozen_of_row _ (b) 0 _ _ X0
    have ke := set_same (.int .i64 k) X0
    go_simp
    go_wp2_with fail
    try rw [ke]
    clear kc kf ke
    refine hK.out _ _ ⟨X0, X1, X2, X5⟩ (fun hHeld => ?_)
    clear hK
    try simp only [Act.put]
    refine wpAnyH_ready (rs := [10]) (by kernel_rfl) (by simp) ?_
    refine AllReadyH.cons rfl (fun K hK => ?_) AllReadyH.nil
    have kc := cell_of_row _ (b + 1) 0 _ _ _ X1
    have kf := frozen_of_row _ (b + 1) 0 _ _ X1
    have ke := set_same (.int .i64 p) X1
    go_simp
    go_wp2_with fail
    try rw [ke]
    clear kc kf ke
    refine hK.out _ _ ⟨X0, X1, X2, X5⟩ (fun hHeld => ?_)
    clear hK
    try simp only [Act.put]
    refine wpAnyH_ready (rs := [11]) (by kernel_rfl) (by simp) ?_
    refine AllReadyH.cons rfl (fun K hK => ?_) AllReadyH.nil
    have kc := cell_of_row _ (b + 1 + 1) 0 _ _ _ X2
    have kf := frozen_of_row _ (b + 1 + 1) 0 _ _ X2
    have ke := set_same (.string t) X2
    go_simp
    go_wp2_with fail
    try rw [ke]
    clear kc kf ke
    refine hK.out _ _ ⟨X0, X1, X2, X5⟩ (fun hHeld => ?_)
    clear hK
    try simp only [Act.put]
    refine wpAnyH_ready (rs := [12]) (by kernel_rfl) (by simp) ?_
    refine AllReadyH.cons rfl (fun K hK => ?_) AllReadyH.nil
    have kc := cell_of_row _ (b + 1 + 1 + 1) 0 _ _ _ X3
    have kf := frozen_of_row _ (b + 1 + 1 + 1) 0 _ _ X3
    go_simp
    go_wp2_with fail
    clear kc kf
    have Y0 := (heap_setCell_other _ ⟨b + 1 + 1 + 1, 0, none⟩ b (.bool false) (by show b ≠ b + 1 + 1 + 1; omega)).trans X0
    have Y1 := (heap_setCell_other _ ⟨b + 1 + 1 + 1, 0, none⟩ (b + 1) (.bool false) (by show b + 1 ≠ b + 1 + 1 + 1; omega)).trans X1
    have Y2 := (heap_setCell_other _ ⟨b + 1 + 1 + 1, 0, none⟩ (b + 1 + 1) (.bool false) (by show b + 1 + 1 ≠ b + 1 + 1 + 1; omega)).trans X2
    have Y5 := (heap_setCell_other _ ⟨b + 1 + 1 + 1, 0, none⟩ rb (.bool false) (by simpa using hrb)).trans X5
    have Y3 := heap_setCell_same _ (b + 1 + 1 + 1) 0 _ _ (.bool false) X3
    replace B : Below b w _ := (B.mono LB).setCell (p := ⟨b + 1 + 1 + 1, 0, none⟩) (by show b ≤ b + 1 + 1 + 1; omega) (.bool false)
    refine hK.out _ _ ⟨Y0, Y1, Y2, Y5⟩ (fun hHeld => ?_)
    clear hK
    try simp only [Act.put]
    refine wpAnyH_done (by kernel_rfl) ?_ _
    exact NoPanic.normal (hQ _ _ _ _ _ _ _ _ _ _ Y0 Y1 Y2 Y3 B)
  · rw [show decide (zs.length ≤ a) = true by simp; omega] at hQ
    refine wpAnyH_take (i := 7) (oi := ({ dst := some 50, op := Op.binOp BinOp.eql 47 (Operand.tmp 49) (Operand.const Value.nilIface) 47, type := 4, pos := "l13_world.go:84", after := #[{ on := 6, ground := Ground.data }, { on := 4, ground := Ground.guard }], guard := some (4, true) } : Oper)) (v := .bool true) rfl (by kernel_rfl) (by kernel_rfl) (by kernel_rfl) (fun _ _ _ h => h) (Or.inl ⟨by rfl, by intro w hSw; go_simp⟩) (by assumption) ?_
    simp only [Act.put, List.setIfInBounds_toArray, List.set_cons_zero, List.set_cons_succ]
    refine wpAnyH_take (i := 8) (oi := ({ dst := some 51, op := Op.pick (Operand.tmp 47) (Operand.tmp 50) (Operand.const (Value.bool false)), type := 4, pos := "l13_world.go:84", after := #[{ on := 4, ground := Ground.data }, { on := 7, ground := Ground.data }], guard := none } : Oper)) (v := .bool true) rfl (by kernel_rfl) (by kernel_rfl) (by kernel_rfl) (fun _ _ _ h => h) (Or.inl ⟨by rfl, by intro w hSw; go_simp⟩) (by assumption) ?_
    simp only [Act.put, List.setIfInBounds_toArray, List.set_cons_zero, List.set_cons_succ]
    refine wpAnyH_ready (rs := [9]) (by kernel_rfl) (by simp) ?_
    refine AllReadyH.cons rfl (fun K hK => ?_) AllReadyH.nil
    have kc := cell_of_row _ (b) 0 _ _ _ X0
    have kf := frozen_of_row _ (b) 0 _ _ X0
    have ke := set_same (.int .i64 k) X0
    go_simp
    go_wp2_with fail
    try rw [ke]
    clear kc kf ke
    refine hK.out _ _ ⟨X0, X1, X2, X5⟩ (fun hHeld => ?_)
    clear hK
    try simp only [Act.put]
    refine wpAnyH_ready (rs := [10]) (by kernel_rfl) (by simp) ?_
    refine AllReadyH.cons rfl (fun K hK => ?_) AllReadyH.nil
    have kc := cell_of_row _ (b + 1) 0 _ _ _ X1
    have kf := frozen_of_row _ (b + 1) 0 _ _ X1
    have ke := set_same (.int .i64 p) X1
    go_simp
    go_wp2_with fail
    try rw [ke]
    clear kc kf ke
    refine hK.out _ _ ⟨X0, X1, X2, X5⟩ (fun hHeld => ?_)
    clear hK
    try simp only [Act.put]
    refine wpAnyH_ready (rs := [11]) (by kernel_rfl) (by simp) ?_
    refine AllReadyH.cons rfl (fun K hK => ?_) AllReadyH.nil
    have kc := cell_of_row _ (b + 1 + 1) 0 _ _ _ X2
    have kf := frozen_of_row _ (b + 1 + 1) 0 _ _ X2
    have ke := set_same (.string t) X2
    go_simp
    go_wp2_with fail
    try rw [ke]
    clear kc kf ke
    refine hK.out _ _ ⟨X0, X1, X2, X5⟩ (fun hHeld => ?_)
    clear hK
    try simp only [Act.put]
    refine wpAnyH_ready (rs := [12]) (by kernel_rfl) (by simp) ?_
    refine AllReadyH.cons rfl (fun K hK => ?_) AllReadyH.nil
    have kc := cell_of_row _ (b + 1 + 1 + 1) 0 _ _ _ X3
    have kf := frozen_of_row _ (b + 1 + 1 + 1) 0 _ _ X3
    go_simp
    go_wp2_with fail
    clear kc kf
    have Y0 := (heap_setCell_other _ ⟨b + 1 + 1 + 1, 0, none⟩ b (.bool true) (by show b ≠ b + 1 + 1 + 1; omega)).trans X0
    have Y1 := (heap_setCell_other _ ⟨b + 1 + 1 + 1, 0, none⟩ (b + 1) (.bool true) (by show b + 1 ≠ b + 1 + 1 + 1; omega)).trans X1
    have Y2 := (heap_setCell_other _ ⟨b + 1 + 1 + 1, 0, none⟩ (b + 1 + 1) (.bool true) (by show b + 1 + 1 ≠ b + 1 + 1 + 1; omega)).trans X2
    have Y5 := (heap_setCell_other _ ⟨b + 1 + 1 + 1, 0, none⟩ rb (.bool true) (by simpa using hrb)).trans X5
    have Y3 := heap_setCell_same _ (b + 1 + 1 + 1) 0 _ _ (.bool true) X3
    replace B : Below b w _ := (B.mono LB).setCell (p := ⟨b + 1 + 1 + 1, 0, none⟩) (by show b ≤ b + 1 + 1 + 1; omega) (.bool true)
    refine hK.out _ _ ⟨Y0, Y1, Y2, Y5⟩ (fun hHeld => ?_)
    clear hK
    try simp only [Act.put]
    refine wpAnyH_done (by kernel_rfl) ?_ _
    exact NoPanic.normal (hQ _ _ _ _ _ _ _ _ _ _ Y0 Y1 Y2 Y3 B)

end Go.Proofs.Ytpkpednemkagiaa
