/-
  Texts that stood by themselves, laid into one.
-/
import Derived.Test.YtacbhbmjhlgflaaMOf2M
import Derived.Test.YtacbhbmjhlgflaaLMakeM
import Derived.Test.YtacbhbmjhlgflaaMcTM
import Derived.Deep.RegionHeld3
/-
  The contract of (impl.Code).canBegin: whether it is a function that begins somewhere. No condition but bounds.
-/
namespace Go.Proofs.Ytacbhbmjhlgflaa
open Go.RowKit

set_option maxRecDepth 100000 in
set_option maxHeartbeats 3200000 in
theorem canbegin_any (a1 a2 a3 : Option Addr) (n1 n2 n3 c1 c2 c3 : Nat) (x : Nd) (w : World) (hn : x.k = 6 → 0 ≤ x.n ∧ x.n ≤ 1000000000) :
    Calls Try.prog 39 #[.agg #[.slice a1 n1 c1, .slice a2 n2 c2, .slice a3 n3 c3], .agg #[.int .i64 x.k, .int .i64 x.n, .string x.s, .int .i64 x.a, .int .i64 x.b]] w fun e w' =>
      e = .returned (.bool (decide (x.k = 6) && decide (x.n % 8 = 0) && decide (x.n / 8 < (n2 : Int)))) ∧ Below w.heap.size w w' := by
  obtain ⟨hB0, hk0, hx0⟩ := two_boxes w (Obj.cells #[.slice a1 n1 c1, .slice a2 n2 c2, .slice a3 n3 c3] 41) (Obj.cells #[.int .i64 x.k, .int .i64 x.n, .string x.s, .int .i64 x.a, .int .i64 x.b] 63)
  go_enter Try.func39, Try.ntmps39
  go_wp2_with fail
  obtain ⟨W, hW⟩ : ∃ W, (w.alloc (Obj.cells #[.slice a1 n1 c1, .slice a2 n2 c2, .slice a3 n3 c3] 41)).alloc (Obj.cells #[.int .i64 x.k, .int .i64 x.n, .string x.s, .int .i64 x.a, .int .i64 x.b] 63) = W := ⟨_, rfl⟩
  rw [hW] at hB0 hk0 hx0
  rw [hW]
  have S : W.cell? ⟨w.heap.size + 1, 0, none⟩ = some (.int .i64 x.k) ∧ W.cell? ⟨w.heap.size + 1, 1, none⟩ = some (.int .i64 x.n) ∧ W.cell? ⟨w.heap.size + 1, 2, none⟩ = some (.string x.s) ∧ W.cell? ⟨w.heap.size + 1, 3, none⟩ = some (.int .i64 x.a) ∧ W.cell? ⟨w.heap.size + 1, 4, none⟩ = some (.int .i64 x.b) ∧ W.cell? ⟨w.heap.size, 0, none⟩ = some (.slice a1 n1 c1) ∧ W.cell? ⟨w.heap.size, 1, none⟩ = some (.slice a2 n2 c2) ∧ W.cell? ⟨w.heap.size, 2, none⟩ = some (.slice a3 n3 c3) := ⟨cell_of_row _ _ 0 _ _ _ hx0, cell_of_row _ _ 1 _ _ _ hx0, cell_of_row _ _ 2 _ _ _ hx0, cell_of_row _ _ 3 _ _ _ hx0, cell_of_row _ _ 4 _ _ _ hx0, cell_of_row _ _ 0 _ _ _ hk0, cell_of_row _ _ 1 _ _ _ hk0, cell_of_row _ _ 2 _ _ _ hk0⟩
  have h0 := (Array.getElem?_eq_some_iff.1 hk0).1
  have h2 := (Array.getElem?_eq_some_iff.1 hx0).1
  have hS : ∀ w', Below W.heap.size W w' → (w'.cell? ⟨w.heap.size + 1, 0, none⟩ = some (.int .i64 x.k) ∧ w'.cell? ⟨w.heap.size + 1, 1, none⟩ = some (.int .i64 x.n) ∧ w'.cell? ⟨w.heap.size + 1, 2, none⟩ = some (.string x.s) ∧ w'.cell? ⟨w.heap.size + 1, 3, none⟩ = some (.int .i64 x.a) ∧ w'.cell? ⟨w.heap.size + 1, 4, none⟩ = some (.int .i64 x.b) ∧ w'.cell? ⟨w.heap.size, 0, none⟩ = some (.slice a1 n1 c1) ∧ w'.cell? ⟨w.heap.size, 1, none⟩ = some (.slice a2 n2 c2) ∧ w'.cell? ⟨w.heap.size, 2, none⟩ = some (.slice a3 n3 c3)) := fun w' hb => ⟨(hb.cell (p := ⟨w.heap.size + 1, 0, none⟩) h2).trans S.1, (hb.cell (p := ⟨w.heap.size + 1, 1, none⟩) h2).trans S.2.1, (hb.cell (p := ⟨w.heap.size + 1, 2, none⟩) h2).trans S.2.2.1, (hb.cell (p := ⟨w.heap.size + 1, 3, none⟩) h2).trans S.2.2.2.1, (hb.cell (p := ⟨w.heap.size + 1, 4, none⟩) h2).trans S.2.2.2.2.1, (hb.cell (p := ⟨w.heap.size, 0, none⟩) h0).trans S.2.2.2.2.2.1, (hb.cell (p := ⟨w.heap.size, 1, none⟩) h0).trans S.2.2.2.2.2.2.1, (hb.cell (p := ⟨w.heap.size, 2, none⟩) h0).trans S.2.2.2.2.2.2.2⟩
  clear hk0 hx0 hW
  by_cases h6 : x.k = 6
  · obtain ⟨hn1, hn2⟩ := hn h6
    have h6' : (x.k == 6) = true := by simp [h6]
    by_cases hr : x.n % 8 = 0
    · have hr' : (x.n % 8 == 0) = true := by simp [hr]
      obtain ⟨bq, hbq⟩ : ∃ bq, Hid (decide (x.n / 8 < (n2 : Int)) = bq) := ⟨_, rfl⟩
      have HQ : Hid ((decide (x.k = 6) && decide (x.n % 8 = 0) && decide (x.n / 8 < (n2 : Int))) = bq) := by unfold Hid; rw [hbq.out]; simp [h6, hr]
      have HP : Hid ((decide (0 ≤ x.n / 8) && decide (x.n / 8 < (n2 : Int))) = bq) := by unfold Hid; rw [hbq.out]; simp; omega
      clear h6 hr hn hbq
      go_region_held3 (fun w' => w'.cell? ⟨w.heap.size + 1, 0, none⟩ = some (.int .i64 x.k) ∧ w'.cell? ⟨w.heap.size + 1, 1, none⟩ = some (.int .i64 x.n) ∧ w'.cell? ⟨w.heap.size + 1, 2, none⟩ = some (.string x.s) ∧ w'.cell? ⟨w.heap.size + 1, 3, none⟩ = some (.int .i64 x.a) ∧ w'.cell? ⟨w.heap.size + 1, 4, none⟩ = some (.int .i64 x.b) ∧ w'.cell? ⟨w.heap.size, 0, none⟩ = some (.slice a1 n1 c1) ∧ w'.cell? ⟨w.heap.size, 1, none⟩ = some (.slice a2 n2 c2) ∧ w'.cell? ⟨w.heap.size, 2, none⟩ = some (.slice a3 n3 c3)) (first | (with_reducible exact S8) | (with_reducible exact S7) | (with_reducible exact S6) | go_keep) (first | (go_at_call 76; with_reducible refine (takes_any x _ hn1 hn2).mono ?_; rintro e w6 ⟨rfl, hb6⟩; have t6 := (by with_reducible exact step_drew hb6 : Below W.heap.size W w6); have S6 := hS _ t6) | (go_at_call 41; with_reducible refine (begins_any x _ hn1 hn2).mono ?_; rintro e w7 ⟨rfl, hb7⟩; have t7 := t6.trans (hb7.mono t6.size); have S7 := hS _ t7) | (go_at_call 77; with_reducible refine (isplace_any _ _ _ _ _ _ _ _ _ _ _).mono ?_; rintro e w8 ⟨rfl, hb8⟩; rw [HP.out]; have t8 := t7.trans (hb8.mono t7.size); have S8 := hS _ t8))
      all_goals
        go_wp2
        go_ret
        exact ⟨by rw [HQ.out]; rfl, hB0.trans (t8.mono hB0.size)⟩
    · have hr' : (x.n % 8 == 0) = false := by simp [hr]
      have HQ : Hid ((decide (x.k = 6) && decide (x.n % 8 = 0) && decide (x.n / 8 < (n2 : Int))) = false) := by unfold Hid; simp [hr]
      clear h6 hn
      obtain ⟨s0, s1, s2, s3, s4, s5, s6, s7⟩ := S
      go_region_with (first | (go_at_call 76; with_reducible refine (takes_any x _ hn1 hn2).mono ?_; rintro e w6 ⟨rfl, hb6⟩; have t6 := (by with_reducible exact step_drew hb6 : Below W.heap.size W w6); have S6 := hS _ t6))
      all_goals
        go_wp2
        go_ret
        exact ⟨by rw [HQ.out]; rfl, hB0.trans (t6.mono hB0.size)⟩
  · have h6' : (x.k == 6) = false := by simp [h6]
    have HQ : Hid ((decide (x.k = 6) && decide (x.n % 8 = 0) && decide (x.n / 8 < (n2 : Int))) = false) := by unfold Hid; simp [h6]
    clear hn
    obtain ⟨s0, s1, s2, s3, s4, s5, s6, s7⟩ := S
    go_quiet (fail)
    all_goals
      go_wp2
      go_ret
      exact ⟨by rw [HQ.out]; rfl, hB0.trans ⟨rfl, rfl, rfl, Nat.le_refl _, fun _ _ => rfl⟩⟩
end Go.Proofs.Ytacbhbmjhlgflaa

/-
  The region of impl.MachineOf that makes the registers. No condition but bounds.
-/
namespace Go.Proofs.Ytacbhbmjhlgflaa
open Go.RowKit

theorem sixC {w w' : World} {b1 b2 : Nat} {u0 u1 u2 u3 u4 u5 : Value} (h : w.cell? ⟨b1, 0, none⟩ = some u0 ∧ w.cell? ⟨b2, 0, none⟩ = some u1 ∧ w.cell? ⟨b2, 1, none⟩ = some u2 ∧ w.cell? ⟨b2, 2, none⟩ = some u3 ∧ w.cell? ⟨b2, 3, none⟩ = some u4 ∧ w.cell? ⟨b2, 4, none⟩ = some u5) (hb : Below w.heap.size w w') (h1 : b1 < w.heap.size) (h2 : b2 < w.heap.size) : w'.cell? ⟨b1, 0, none⟩ = some u0 ∧ w'.cell? ⟨b2, 0, none⟩ = some u1 ∧ w'.cell? ⟨b2, 1, none⟩ = some u2 ∧ w'.cell? ⟨b2, 2, none⟩ = some u3 ∧ w'.cell? ⟨b2, 3, none⟩ = some u4 ∧ w'.cell? ⟨b2, 4, none⟩ = some u5 :=
  ⟨(hb.cell (p := ⟨b1, 0, none⟩) h1).trans h.1, (hb.cell (p := ⟨b2, 0, none⟩) h2).trans h.2.1, (hb.cell (p := ⟨b2, 1, none⟩) h2).trans h.2.2.1, (hb.cell (p := ⟨b2, 2, none⟩) h2).trans h.2.2.2.1, (hb.cell (p := ⟨b2, 3, none⟩) h2).trans h.2.2.2.2.1, (hb.cell (p := ⟨b2, 4, none⟩) h2).trans h.2.2.2.2.2⟩
theorem fiveZ {w : World} {b : Nat} (h : w.heap[b]? = some (.cells #[.slice none 0 0, .int .i64 0, .int .i64 0, .int .i64 0, .int .i64 0] 81 (0, 0))) : w.cell? ⟨b, 0, none⟩ = some (.slice none 0 0) ∧ w.cell? ⟨b, 1, none⟩ = some (.int .i64 0) ∧ w.cell? ⟨b, 2, none⟩ = some (.int .i64 0) ∧ w.cell? ⟨b, 3, none⟩ = some (.int .i64 0) ∧ w.cell? ⟨b, 4, none⟩ = some (.int .i64 0) ∧ w.frozen? ⟨b, 0, none⟩ = false ∧ w.frozen? ⟨b, 1, none⟩ = false ∧ w.frozen? ⟨b, 2, none⟩ = false ∧ w.frozen? ⟨b, 3, none⟩ = false ∧ w.frozen? ⟨b, 4, none⟩ = false :=
  ⟨cell_of_row w _ 0 _ _ _ h, cell_of_row w _ 1 _ _ _ h, cell_of_row w _ 2 _ _ _ h, cell_of_row w _ 3 _ _ _ h, cell_of_row w _ 4 _ _ _ h, frozen_of_row w _ 0 _ _ h, frozen_of_row w _ 1 _ _ h, frozen_of_row w _ 2 _ _ h, frozen_of_row w _ 3 _ _ h, frozen_of_row w _ 4 _ _ h⟩
theorem sixset {w : World} {b1 b2 b : Nat} {u0 u1 u2 u3 u4 u5 v0 v1 v2 v3 v4 : Value} (h : w.cell? ⟨b1, 0, none⟩ = some u0 ∧ w.cell? ⟨b2, 0, none⟩ = some u1 ∧ w.cell? ⟨b2, 1, none⟩ = some u2 ∧ w.cell? ⟨b2, 2, none⟩ = some u3 ∧ w.cell? ⟨b2, 3, none⟩ = some u4 ∧ w.cell? ⟨b2, 4, none⟩ = some u5) (h1 : b1 < b) (h2 : b2 < b) :
    let W := ((((w.setCell ⟨b, 0, none⟩ v0).setCell ⟨b, 1, none⟩ v1).setCell ⟨b, 2, none⟩ v2).setCell ⟨b, 3, none⟩ v3).setCell ⟨b, 4, none⟩ v4
    W.cell? ⟨b1, 0, none⟩ = some u0 ∧ W.cell? ⟨b2, 0, none⟩ = some u1 ∧ W.cell? ⟨b2, 1, none⟩ = some u2 ∧ W.cell? ⟨b2, 2, none⟩ = some u3 ∧ W.cell? ⟨b2, 3, none⟩ = some u4 ∧ W.cell? ⟨b2, 4, none⟩ = some u5 := by
  have hB : Below b w (((((w.setCell ⟨b, 0, none⟩ v0).setCell ⟨b, 1, none⟩ v1).setCell ⟨b, 2, none⟩ v2).setCell ⟨b, 3, none⟩ v3).setCell ⟨b, 4, none⟩ v4) := (((((Below.refl b w).setCell (p := ⟨b, 0, none⟩) (Nat.le_refl _) v0).setCell (p := ⟨b, 1, none⟩) (Nat.le_refl _) v1).setCell (p := ⟨b, 2, none⟩) (Nat.le_refl _) v2).setCell (p := ⟨b, 3, none⟩) (Nat.le_refl _) v3).setCell (p := ⟨b, 4, none⟩) (Nat.le_refl _) v4
  exact ⟨(hB.cell (p := ⟨b1, 0, none⟩) h1).trans h.1, (hB.cell (p := ⟨b2, 0, none⟩) h2).trans h.2.1, (hB.cell (p := ⟨b2, 1, none⟩) h2).trans h.2.2.1, (hB.cell (p := ⟨b2, 2, none⟩) h2).trans h.2.2.2.1, (hB.cell (p := ⟨b2, 3, none⟩) h2).trans h.2.2.2.2.1, (hB.cell (p := ⟨b2, 4, none⟩) h2).trans h.2.2.2.2.2⟩
theorem stepM {w2 w3 : World} (h : Below w2.drew.heap.size w2.drew w3) : Below w2.heap.size w2 w3 := (Below.refl _ _).drew.trans h
theorem nrow_drew {w : World} {v : Value} {xs : List Nd} (h : NRow w v xs) : NRow w.drew v xs := h.below ((Below.refl _ _).drew)
theorem nrow_drewA {w : World} {v : Value} {xs : List Nd} (h : NRow w v xs) (o : Obj) : NRow (w.alloc o).drew v xs := h.below ((Below.refl _ _).alloc (Nat.le_refl _) _).drew
theorem stepA {w2 w3 : World} {o : Obj} (h : Below (w2.alloc o).drew.heap.size (w2.alloc o).drew w3) : Below w2.heap.size w2 w3 := ((Below.refl _ _).alloc (Nat.le_refl _) _).drew.trans (h.mono (by simp [World.drew]))
theorem nrow_nothing (w : World) : NRow w (.slice none 0 0) [] := ⟨Option.none, 0, rfl, by simp, by simp, by simp, fun h => absurd rfl h⟩
theorem blkA {w w' : World} {o : Obj} (h : Below (w.alloc o).drew.heap.size (w.alloc o).drew w') : w'.heap[w.heap.size]? = some o := (h.block _ (by simp [World.drew])).trans (heap_alloc_new w o)

theorem five_put {w wb : World} {B b base n : Nat} {v v0 v1 v2 v3 v4 : Value} {L : List Value} (q : wb.heap[b]? = some (.cells #[.slice none 0 0, .int .i64 0, .int .i64 0, .int .i64 0, .int .i64 0] 81 (0, 0))) (ho : wb.ownsRow base 63 5 v n L) (hB : Below B w wb) (hb : B ≤ b) :
    let W := ((((wb.setCell ⟨b, 0, none⟩ v0).setCell ⟨b, 1, none⟩ v1).setCell ⟨b, 2, none⟩ v2).setCell ⟨b, 3, none⟩ v3).setCell ⟨b, 4, none⟩ v4
    W.heap[b]? = some (.cells #[v0, v1, v2, v3, v4] 81 (0, 0)) ∧ W.ownsRow base 63 5 v n L ∧ Below B w W := by
  have hne := own_ne ho q (by decide)
  have q0 := heap_setCell_same wb b 0 _ _ v0 q
  have q1 := heap_setCell_same _ b 1 _ _ v1 q0
  have q2 := heap_setCell_same _ b 2 _ _ v2 q1
  have q3 := heap_setCell_same _ b 3 _ _ v3 q2
  have q4 := heap_setCell_same _ b 4 _ _ v4 q3
  exact ⟨q4, ownsRow_setCell_other (ownsRow_setCell_other (ownsRow_setCell_other (ownsRow_setCell_other (ownsRow_setCell_other ho (a := ⟨b, 0, none⟩) hne v0) (a := ⟨b, 1, none⟩) hne v1) (a := ⟨b, 2, none⟩) hne v2) (a := ⟨b, 3, none⟩) hne v3) (a := ⟨b, 4, none⟩) hne v4,
    ((((hB.setCell (p := ⟨b, 0, none⟩) hb v0).setCell (p := ⟨b, 1, none⟩) hb v1).setCell (p := ⟨b, 2, none⟩) hb v2).setCell (p := ⟨b, 3, none⟩) hb v3).setCell (p := ⟨b, 4, none⟩) hb v4⟩

set_option maxRecDepth 100000 in
set_option maxHeartbeats 3200000 in
theorem mof_reg {t0 t1 t2 t3 t5 t6 t7 t9 t10 t11 t12 t13 t14 t15 t16 t17 t18 t19 t20 t21 t22 t23 t24 t25 t26 t27 t28 t29 t30 t31 t32 t33 t34 t35 t36 t37 t38 t39 t40 t41 t42 t43 t44 t45 t46 t47 t48 t49 t50 t51 t52 t53 t54 t55 t56 t57 t58 t59 t60 t61 t62 t63 t64 t65 t66 : Value} {ds : List Deferred} (b1 b2 : Nat) (ao : Option Addr) (cap : Nat) (xs : List Nd) (x : Nd) (w : World) (Q : Exit → Act → World → Prop) (hn1 : 0 ≤ x.n) (hn2 : x.n ≤ 1000000000)
    (R : NRow w (.slice ao xs.length cap) xs) (hl : xs.length ≤ 3000) (S : w.cell? ⟨b1, 0, none⟩ = some (.slice ao xs.length cap) ∧ w.cell? ⟨b2, 0, none⟩ = some (.int .i64 x.k) ∧ w.cell? ⟨b2, 1, none⟩ = some (.int .i64 x.n) ∧ w.cell? ⟨b2, 2, none⟩ = some (.string x.s) ∧ w.cell? ⟨b2, 3, none⟩ = some (.int .i64 x.a) ∧ w.cell? ⟨b2, 4, none⟩ = some (.int .i64 x.b)) (h1 : b1 < w.heap.size) (h2 : b2 < w.heap.size)
    (hQ : ∀ u47 u48 u49 u50 u51 v' b wx, w.heap.size ≤ b → wx.heap[b]? = some (.cells #[v', .int .i64 (x.n / 8), .int .i64 0, .int .i64 0, .int .i64 0] 81 (0, 0)) → wx.ownsRow w.heap.size 63 5 v' xs.length (ncs xs) → Below w.heap.size w wx → Q .normal ⟨#[t0, t1, t2, t3, .pointer (some ⟨b1, 0, none⟩), t5, t6, t7, .pointer (some ⟨b2, 0, none⟩), .pointer (some ⟨b, 0, none⟩), t10, t11, t12, t13, t14, t15, t16, t17, t18, t19, t20, t21, t22, t23, t24, t25, t26, t27, t28, t29, t30, t31, t32, t33, t34, t35, u47, u48, u49, u50, u51, t41, t42, t43, t44, t45, t46, t47, t48, t49, t50, t51, t52, t53, t54, t55, t56, t57, t58, t59, t60, t61, t62, t63, t64, t65, t66], ds⟩ wx) :
    (Code.region 6 #[{ dst := some 36, op := Op.load 33 (Operand.tmp 4), type := 33, pos := "l06_machine.go:82", after := #[], guard := none },
        { dst := some 37, op := Op.call { callee := Callee.value (Operand.func 40), args := #[Operand.tmp 36, Operand.const (Value.slice none 0 0)], argTypes := #[33, 31] }, type := 33, pos := "l06_machine.go:82", after := #[{ on := 0, ground := Ground.data }], guard := none },
        { dst := some 38, op := Op.load 63 (Operand.tmp 8), type := 63, pos := "l06_machine.go:82", after := #[], guard := none },
        { dst := some 39, op := Op.call { callee := Callee.value (Operand.func 41), args := #[Operand.tmp 38], argTypes := #[63] }, type := 3, pos := "l06_machine.go:82", after := #[{ on := 2, ground := Ground.data }, { on := 1, ground := Ground.chain }], guard := none },
        { dst := some 40, op := Op.build 81 #[(0, Operand.tmp 37), (1, Operand.tmp 39)], type := 81, pos := "l06_machine.go:82", after := #[{ on := 1, ground := Ground.data }, { on := 3, ground := Ground.data }], guard := none },
        { dst := some 9, op := Op.alloc 81, type := 0, pos := "l06_machine.go:82", after := #[], guard := none },
        { dst := none, op := Op.store 81 (Operand.tmp 9) (Operand.tmp 40), type := 0, pos := "l06_machine.go:82",
          after := #[{ on := 5, ground := Ground.data }, { on := 4, ground := Ground.data }, { on := 3, ground := Ground.chain }, { on := 0, ground := Ground.phase }, { on := 1, ground := Ground.phase }, { on := 2, ground := Ground.phase }, { on := 3, ground := Ground.phase }, { on := 4, ground := Ground.phase }, { on := 5, ground := Ground.phase }], guard := none }] true).wp Try.prog Q ⟨#[t0, t1, t2, t3, .pointer (some ⟨b1, 0, none⟩), t5, t6, t7, .pointer (some ⟨b2, 0, none⟩), t9, t10, t11, t12, t13, t14, t15, t16, t17, t18, t19, t20, t21, t22, t23, t24, t25, t26, t27, t28, t29, t30, t31, t32, t33, t34, t35, t36, t37, t38, t39, t40, t41, t42, t43, t44, t45, t46, t47, t48, t49, t50, t51, t52, t53, t54, t55, t56, t57, t58, t59, t60, t61, t62, t63, t64, t65, t66], ds⟩ w := by
  go_region_held3 (fun w' => w'.cell? ⟨b1, 0, none⟩ = some (.slice ao xs.length cap) ∧ w'.cell? ⟨b2, 0, none⟩ = some (.int .i64 x.k) ∧ w'.cell? ⟨b2, 1, none⟩ = some (.int .i64 x.n) ∧ w'.cell? ⟨b2, 2, none⟩ = some (.string x.s) ∧ w'.cell? ⟨b2, 3, none⟩ = some (.int .i64 x.a) ∧ w'.cell? ⟨b2, 4, none⟩ = some (.int .i64 x.b)) (first | (with_reducible exact sB) | (with_reducible exact sW) | (with_reducible exact sixset sB (by have := tW.size; omega) (by have := tW.size; omega)) | go_keep) (first
    | (go_at_call 40; with_reducible refine (with_any _ _ xs [] _ ?_ (nrow_nothing _) ?_).mono ?_; (with_reducible first | exact nrow_drew R | exact nrow_drewA R _); (simp; omega); rintro e wp ⟨vp, rfl, hop, hbp⟩
       rw [List.append_nil] at hop
       obtain ⟨ap, kp, rfl⟩ := own_form hop
       have tW : Below w.heap.size w wp := (by with_reducible first | exact stepM hbp | exact stepA hbp)
       have sW := sixC S tW h1 h2
       (with_reducible first | have qp := blkA hbp | skip))
    | (go_at_call 41; with_reducible refine (begins_any x _ hn1 hn2).mono ?_; rintro e wb ⟨rfl, hbb⟩
       have tB : Below w.heap.size w wb := (by with_reducible first | exact tW.trans (hbb.mono tW.size) | exact tW.trans ((step_alloc hbb).mono tW.size))
       have sB := sixC S tB h1 h2
       have zB := tB.size
       first
         | (have qb := (by with_reducible exact block_new hbb : wb.heap[wp.heap.size]? = some (.cells #[.slice none 0 0, .int .i64 0, .int .i64 0, .int .i64 0, .int .i64 0] 81 (0, 0))); obtain ⟨e0, e1, e2, e3, e4, f0, f1, f2, f3, f4⟩ := fiveZ qb)
         | (have qb : wb.heap[w.heap.size]? = some (.cells #[.slice none 0 0, .int .i64 0, .int .i64 0, .int .i64 0, .int .i64 0] 81 (0, 0)) := (by with_reducible exact (hbb.block _ (Array.getElem?_eq_some_iff.1 qp).1).trans qp); obtain ⟨e0, e1, e2, e3, e4, f0, f1, f2, f3, f4⟩ := fiveZ qb)
         | skip))
  case _ =>
    exact hQ _ _ _ _ _ _ _ _ tB.size (heap_alloc_new _ _) (own_mono ((own_below hop hbb).alloc _) (Nat.le_refl _)) (tB.alloc tB.size _)
  case _ =>
    obtain ⟨z1, z2, z3⟩ := five_put (v0 := .slice ap xs.length kp) (v1 := .int .i64 (x.n / 8)) (v2 := .int .i64 0) (v3 := .int .i64 0) (v4 := .int .i64 0) qb (own_below (hop.alloc _) hbb) tB tW.size
    exact hQ _ _ _ _ _ _ _ _ tW.size z1 (own_mono z2 (Nat.le_refl _)) z3
  case _ =>
    obtain ⟨z1, z2, z3⟩ := five_put (v0 := .slice ap xs.length kp) (v1 := .int .i64 (x.n / 8)) (v2 := .int .i64 0) (v3 := .int .i64 0) (v4 := .int .i64 0) qb (own_below hop hbb) tB (Nat.le_refl _)
    exact hQ _ _ _ _ _ _ _ _ (Nat.le_refl _) z1 (own_mono z2 (by simp [World.drew])) z3
end Go.Proofs.Ytacbhbmjhlgflaa
