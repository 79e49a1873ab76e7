/-
  The regions of spec.l4Draw that draw their order, each alone: one field of an instruction is turned. No condition.
-/
import Derived.Test.YtmbomhcnmjhbnaaGreatDoorDRtM
import Derived.Test.YtmbomhcnmjhbnaaGreatDoorNameM
import Derived.Test.YtmbomhcnmjhbnaaGreatDoorDraw10M
import Derived.Deep.RegionHeld3
namespace Go.Proofs.YtmbomhcnmjhbnaaGreatDoor
open Go.RowKit

/-- What there is while code is drawn: the answer's box, the code's variable, its rows, the cursor. -/
structure DX (w0 : World) (v : Value) (zs : List Int) (P : Nat) (w : World) (bx : Nat) (v1 v2 v3 : Value) (ns : List Nd) (is : List In) (ds : List Df) (W : World) : Prop where
  res : W.heap[w.heap.size]? = some (.cells #[.slice none 0 0, .slice none 0 0, .slice none 0 0] 30 (0, 0))
  box : W.heap[bx]? = some (.cells #[v1, v2, v3] 30 (0, 0))
  own : Own3 W (w.heap.size + 1) v1 v2 v3 ns is ds
  cur : Cur w0 v zs W P
  grown : w.grownBy W (some P)
  hP : P < w.heap.size
  hbx : w.heap.size < bx
theorem DX.turn {w0 w W W' : World} {v v1 v2 v3 : Value} {zs : List Int} {P bx : Nat} {ns : List Nd} {is : List In} {ds : List Df} (h : DX w0 v zs P w bx v1 v2 v3 ns is ds W) (c : Cur w0 v zs W' P) (g : W.grownBy W' (some P)) : DX w0 v zs P w bx v1 v2 v3 ns is ds W' :=
  have hP := h.hP
  have hb := h.hbx
  ⟨(g.block _ (Array.getElem?_eq_some_iff.1 h.res).1 (by simp; omega)).trans h.res, (g.block _ (Array.getElem?_eq_some_iff.1 h.box).1 (by simp; omega)).trans h.box,
    ⟨h.own.1.kept g (own_not h.own.1 (by omega)), h.own.2.1.kept g (own_not h.own.2.1 (by omega)), h.own.2.2.kept g (own_not h.own.2.2 (by omega))⟩, c, grown_trans h.grown g, hP, hb⟩
theorem DX.on {w0 w W W' : World} {v v1 v2 v3 : Value} {zs : List Int} {P bx : Nat} {ns : List Nd} {is : List In} {ds : List Df} (h : DX w0 v zs P w bx v1 v2 v3 ns is ds W) (hb : Below W.heap.size W W') : DX w0 v zs P w bx v1 v2 v3 ns is ds W' := by
  obtain ⟨c, g⟩ := draw_done h.cur h.grown (hb.mono h.grown.size) h.hP
  exact ⟨(hb.block _ (Array.getElem?_eq_some_iff.1 h.res).1).trans h.res, (hb.block _ (Array.getElem?_eq_some_iff.1 h.box).1).trans h.box, h.own.below hb, c, g, h.hP, h.hbx⟩
theorem DX.cell1 {w0 w W : World} {v v1 v2 v3 : Value} {zs : List Int} {P bx : Nat} {ns : List Nd} {is : List In} {ds : List Df} (h : DX w0 v zs P w bx v1 v2 v3 ns is ds W) : W.cell? ⟨bx, 1, none⟩ = some v2 := cell_of_row _ _ 1 _ _ _ h.box
theorem DX.cell2 {w0 w W : World} {v v1 v2 v3 : Value} {zs : List Int} {P bx : Nat} {ns : List Nd} {is : List In} {ds : List Df} (h : DX w0 v zs P w bx v1 v2 v3 ns is ds W) : W.cell? ⟨bx, 2, none⟩ = some v3 := cell_of_row _ _ 2 _ _ _ h.box
/-- One field of one instruction is turned. -/
theorem DX.op {w0 w W : World} {v v1 v3 : Value} {zs : List Int} {P bx g2 q2 : Nat} {ns : List Nd} {is : List In} {ds : List Df} (h : DX w0 v zs P w bx v1 (.slice (some ⟨g2, 0, none⟩) is.length q2) v3 ns is ds W) (i j : Nat) (x y : In) (u : Value) (hx : is[i]? = some x) (hj : j < 4) (hy : x.cs.set j u = y.cs) :
    DX w0 v zs P w bx v1 (.slice (some ⟨g2, 0, none⟩) (is.set i y).length q2) v3 ns (is.set i y) ds (W.setCell ⟨g2, i * 4 + j, none⟩ u) := by
  have s := h.own.2.1.stored (i * 4 + j) u
  rw [incs_set is i x y hx j hj u hy] at s
  have hl : is.length = (is.set i y).length := by simp
  have hg := (h.own.2.1.lt g2 rfl).1
  have hB : Below (w.heap.size + 1) W (W.setCell ⟨g2, i * 4 + j, none⟩ u) := (Below.refl _ _).setCell (p := ⟨g2, i * 4 + j, none⟩) hg u
  obtain ⟨c, g⟩ := draw_done h.cur h.grown (hB.mono (by omega)) h.hP
  have ne1 : v1.ownBlock ≠ some g2 := by
    rcases h.own.2.1.2 with ⟨e, _⟩ | ⟨g', cap, cur, e, _, hc, _⟩
    · cases e
    · cases e; exact own_ne h.own.1 hc (by decide)
  have ne3 : v3.ownBlock ≠ some g2 := by
    rcases h.own.2.1.2 with ⟨e, _⟩ | ⟨g', cap, cur, e, _, hc, _⟩
    · cases e
    · cases e; exact own_ne h.own.2.2 hc (by decide)
  have neb : bx ≠ g2 := fun e => own_ne h.own.2.1 h.box (by decide) (by rw [e]; rfl)
  rw [hl] at s
  refine ⟨(hB.block _ (by omega)).trans h.res, ?_, ⟨ownsRow_setCell_other h.own.1 (a := ⟨g2, i * 4 + j, none⟩) ne1 u, s.1, ownsRow_setCell_other h.own.2.2 (a := ⟨g2, i * 4 + j, none⟩) ne3 u⟩, c, g, h.hP, h.hbx⟩
  rw [heap_setCell_other W ⟨g2, i * 4 + j, none⟩ _ _ neb, h.box, hl]
theorem DX.ne {w0 w W : World} {v v1 v3 : Value} {zs : List Int} {P bx g2 q2 : Nat} {ns : List Nd} {is : List In} {ds : List Df} (h : DX w0 v zs P w bx v1 (.slice (some ⟨g2, 0, none⟩) is.length q2) v3 ns is ds W) : bx ≠ g2 := fun e => own_ne h.own.2.1 h.box (by decide) (by rw [e]; rfl)
theorem DX.at {w0 w W : World} {v v1 v3 : Value} {zs : List Int} {P bx g2 q2 : Nat} {ns : List Nd} {is : List In} {ds : List Df} (h : DX w0 v zs P w bx v1 (.slice (some ⟨g2, 0, none⟩) is.length q2) v3 ns is ds W) (i j : Nat) (hi : i < is.length) (hj : j < 4) : (∃ u, W.cell? ⟨g2, i * 4 + j, none⟩ = some u) ∧ W.frozen? ⟨g2, i * 4 + j, none⟩ = false :=
  ⟨⟨_, (h.own.2.1.cellAt (i * 4 + j) (by omega)).trans (List.getElem?_eq_getElem (by rw [incs_length]; omega))⟩, h.own.2.1.frozenAt (i * 4 + j)⟩
theorem far1 {W : World} {b g k j : Nat} {u z : Value} (h : W.cell? ⟨b, j, none⟩ = some u) (hn : b ≠ g) : (W.setCell ⟨g, k, none⟩ z).cell? ⟨b, j, none⟩ = some u := (World.cell?_setCell_far W ⟨g, k, none⟩ ⟨b, j, none⟩ z (fun e => hn e.symm)).trans h
theorem cur_drew {w0 W : World} {v : Value} {zs : List Int} {P : Nat} (c : Cur w0 v zs W P) : Cur w0 v zs W.drew P := c.kept ((Below.refl _ _).drew)
theorem cur_drewA {w0 W : World} {v : Value} {zs : List Int} {P : Nat} (c : Cur w0 v zs W P) (ob : Obj) : Cur w0 v zs (W.alloc ob).drew P := c.kept (((Below.refl _ _).alloc c.lt _).drew)
theorem grown_drew {W W' : World} {P : Nat} (g : W.drew.grownBy W' (some P)) : W.grownBy W' (some P) := draw_step ((Below.refl _ _).drew) g
theorem grown_drewA {W W' : World} {P : Nat} {ob : Obj} (g : (W.alloc ob).drew.grownBy W' (some P)) : W.grownBy W' (some P) := draw_step (((Below.refl _ _).alloc (Nat.le_refl _) _).drew) g

set_option maxRecDepth 100000 in
set_option maxHeartbeats 3200000 in
theorem dd_reg5 {t1 t2 t5 t6 t7 t8 t9 t10 t11 t12 t13 t14 t15 t16 t17 t18 t19 t20 t21 t22 t23 t24 t25 t26 t27 t28 t29 t30 t31 t32 t33 t34 t35 t36 t37 t38 t39 t40 t41 t42 t43 t44 t45 t46 t47 t48 t49 t50 t51 t52 t53 t54 t55 t56 t57 t58 t59 t60 t61 t62 t63 t64 t65 t66 t67 t68 t69 t70 t71 t72 t73 t74 t75 t76 t77 t78 t79 t80 t81 t82 t83 : Value} {fs : List Deferred} (w0 : World) (v : Value) (zs : List Int) (P : Nat) (w : World) (bx : Nat) (v1 v3 : Value) (g2 q2 : Nat) (ns : List Nd) (is : List In) (ds : List Df) (i : Nat) (W : World) (Q : Exit → Act → World → Prop) (D : DX w0 v zs P w bx v1 (.slice (some ⟨g2, 0, none⟩) is.length q2) v3 ns is ds W) (hi : i < is.length)
    (hQ : ∀ u16 u17 u18 u19 u20 u21 u22 y wx, y.s.size ≤ maxLen ∨ is[i]?.map (·.s) = some y.s → DX w0 v zs P w bx v1 (.slice (some ⟨g2, 0, none⟩) (is.set i y).length q2) v3 ns (is.set i y) ds wx → Q .normal ⟨#[.pointer (some ⟨P, 0, none⟩), t1, t2, .pointer (some ⟨bx, 0, none⟩), .int .i64 i, t5, t6, t7, t8, t9, t10, t11, t12, t13, t14, t15, u16, u17, u18, u19, u20, u21, u22, t23, t24, t25, t26, t27, t28, t29, t30, t31, t32, t33, t34, t35, t36, t37, t38, t39, t40, t41, t42, t43, t44, t45, t46, t47, t48, t49, t50, t51, t52, t53, t54, t55, t56, t57, t58, t59, t60, t61, t62, t63, t64, t65, t66, t67, t68, t69, t70, t71, t72, t73, t74, t75, t76, t77, t78, t79, t80, t81, t82, t83], fs⟩ wx) :
    (Code.region 5 #[{ dst := some 16, op := Op.fieldAddr 30 (Operand.tmp 3) 1, type := 0, pos := "l04_code.go:371", after := #[], guard := none }, { dst := some 17, op := Op.load 27 (Operand.tmp 16), type := 27, pos := "l04_code.go:371", after := #[{ on := 0, ground := Ground.data }], guard := none }, { dst := some 18, op := Op.move (Operand.tmp 4), type := 3, pos := "l04_code.go:371", after := #[], guard := none }, { dst := some 19, op := Op.move (Operand.tmp 0), type := 41, pos := "l04_code.go:371", after := #[], guard := none }, { dst := some 20, op := Op.call { callee := Callee.value (Operand.func 12), args := #[Operand.tmp 19, Operand.const (Value.int IntKind.i64 11)], argTypes := #[41, 3] }, type := 3, pos := "l04_code.go:371", after := #[{ on := 3, ground := Ground.data }], guard := none }, { dst := some 21, op := Op.indexAddr 27 (Operand.tmp 17) (Operand.tmp 18), type := 0, pos := "l04_code.go:371", after := #[{ on := 1, ground := Ground.data }, { on := 2, ground := Ground.data }, { on := 0, ground := Ground.phase }, { on := 1, ground := Ground.phase }, { on := 2, ground := Ground.phase }, { on := 3, ground := Ground.phase }, { on := 4, ground := Ground.phase }], guard := none }, { dst := some 22, op := Op.fieldAddr 54 (Operand.tmp 21) 0, type := 0, pos := "l04_code.go:371", after := #[{ on := 5, ground := Ground.data }, { on := 0, ground := Ground.phase }, { on := 1, ground := Ground.phase }, { on := 2, ground := Ground.phase }, { on := 3, ground := Ground.phase }, { on := 4, ground := Ground.phase }], guard := none }, { dst := none, op := Op.store 3 (Operand.tmp 22) (Operand.tmp 20), type := 0, pos := "l04_code.go:371", after := #[{ on := 6, ground := Ground.data }, { on := 4, ground := Ground.data }, { on := 4, ground := Ground.chain }, { on := 0, ground := Ground.phase }, { on := 1, ground := Ground.phase }, { on := 2, ground := Ground.phase }, { on := 3, ground := Ground.phase }, { on := 4, ground := Ground.phase }], guard := none }] true).wp Tryz.prog Q ⟨#[.pointer (some ⟨P, 0, none⟩), t1, t2, .pointer (some ⟨bx, 0, none⟩), .int .i64 i, t5, t6, t7, t8, t9, t10, t11, t12, t13, t14, t15, t16, t17, t18, t19, t20, t21, t22, t23, t24, t25, t26, t27, t28, t29, t30, t31, t32, t33, t34, t35, t36, t37, t38, t39, t40, t41, t42, t43, t44, t45, t46, t47, t48, t49, t50, t51, t52, t53, t54, t55, t56, t57, t58, t59, t60, t61, t62, t63, t64, t65, t66, t67, t68, t69, t70, t71, t72, t73, t74, t75, t76, t77, t78, t79, t80, t81, t82, t83], fs⟩ W := by
  have hlt : (i : Int) < is.length := by omega
  have hP := D.hP
  have hbx := D.hbx
  have neb := D.ne
  have neP : g2 ≠ P := by have := (D.own.2.1.lt g2 rfl).1; omega
  have bP : bx ≠ P := by omega
  obtain ⟨x, hx⟩ : ∃ x, is[i]? = some x := ⟨is[i], by simp [hi]⟩
  have s0 := D.cell1
  go_region_held3 (fun w' => w'.cell? ⟨bx, 1, none⟩ = some (.slice (some ⟨g2, 0, none⟩) is.length q2)) (first | (with_reducible exact s1) | (with_reducible exact far1 s1 neb) | go_keep) (first
    | (go_at_call 12; with_reducible refine (below_any w0 v zs _ P 11 ?_ (by omega)).mono ?_; (with_reducible exact cur_drew D.cur); rintro e w2 ⟨z, rfl, hz0, hz1, c2, g2'⟩
       have D1 := D.turn c2 (grown_drew g2')
       have s1 := D1.cell1
       obtain ⟨⟨uu, cc⟩, ff⟩ := D1.at i 0 hi (by omega)
       try simp only [Nat.add_zero] at cc ff))
  all_goals
    have D2 := D1.op i 0 x ⟨z, x.n, x.i, x.s⟩ (.int .i64 z) hx (by omega) rfl
    exact hQ _ _ _ _ _ _ _ ⟨z, x.n, x.i, x.s⟩ _ (Or.inr (by rw [hx]; rfl)) D2

set_option maxRecDepth 100000 in
set_option maxHeartbeats 3200000 in
theorem dd_reg9 {t1 t2 t5 t6 t7 t8 t9 t10 t11 t12 t13 t14 t15 t16 t17 t18 t19 t20 t21 t22 t23 t24 t25 t26 t27 t28 t29 t30 t31 t32 t33 t34 t35 t36 t37 t38 t39 t40 t41 t42 t43 t44 t45 t46 t47 t48 t49 t50 t51 t52 t53 t54 t55 t56 t57 t58 t59 t60 t61 t62 t63 t64 t65 t66 t67 t68 t69 t70 t71 t72 t73 t74 t75 t76 t77 t78 t79 t80 t81 t82 t83 : Value} {fs : List Deferred} (w0 : World) (v : Value) (zs : List Int) (P : Nat) (w : World) (bx : Nat) (v1 v3 : Value) (g2 q2 : Nat) (ns : List Nd) (is : List In) (ds : List Df) (i : Nat) (W : World) (Q : Exit → Act → World → Prop) (D : DX w0 v zs P w bx v1 (.slice (some ⟨g2, 0, none⟩) is.length q2) v3 ns is ds W) (hi : i < is.length)
    (hQ : ∀ u45 u46 u47 u48 u49 u50 u51 u52 y wx, y.s.size ≤ maxLen ∨ is[i]?.map (·.s) = some y.s → DX w0 v zs P w bx v1 (.slice (some ⟨g2, 0, none⟩) (is.set i y).length q2) v3 ns (is.set i y) ds wx → Q .normal ⟨#[.pointer (some ⟨P, 0, none⟩), t1, t2, .pointer (some ⟨bx, 0, none⟩), .int .i64 i, t5, t6, t7, t8, t9, t10, t11, t12, t13, t14, t15, t16, t17, t18, t19, t20, t21, t22, t23, t24, t25, t26, t27, t28, t29, t30, t31, t32, t33, t34, t35, t36, t37, t38, t39, t40, t41, t42, t43, t44, u45, u46, u47, u48, u49, u50, u51, u52, t53, t54, t55, t56, t57, t58, t59, t60, t61, t62, t63, t64, t65, t66, t67, t68, t69, t70, t71, t72, t73, t74, t75, t76, t77, t78, t79, t80, t81, t82, t83], fs⟩ wx) :
    (Code.region 9 #[{ dst := some 45, op := Op.fieldAddr 30 (Operand.tmp 3) 1, type := 0, pos := "l04_code.go:375", after := #[], guard := none }, { dst := some 46, op := Op.load 27 (Operand.tmp 45), type := 27, pos := "l04_code.go:375", after := #[{ on := 0, ground := Ground.data }], guard := none }, { dst := some 47, op := Op.move (Operand.tmp 4), type := 3, pos := "l04_code.go:375", after := #[], guard := none }, { dst := some 48, op := Op.move (Operand.tmp 0), type := 41, pos := "l04_code.go:375", after := #[], guard := none }, { dst := some 49, op := Op.call { callee := Callee.value (Operand.func 12), args := #[Operand.tmp 48, Operand.const (Value.int IntKind.i64 7)], argTypes := #[41, 3] }, type := 3, pos := "l04_code.go:375", after := #[{ on := 3, ground := Ground.data }], guard := none }, { dst := some 50, op := Op.binOp BinOp.sub 3 (Operand.tmp 49) (Operand.const (Value.int IntKind.i64 1)) 3, type := 3, pos := "l04_code.go:375", after := #[{ on := 4, ground := Ground.data }], guard := none }, { dst := some 51, op := Op.indexAddr 27 (Operand.tmp 46) (Operand.tmp 47), type := 0, pos := "l04_code.go:375", after := #[{ on := 1, ground := Ground.data }, { on := 2, ground := Ground.data }, { on := 0, ground := Ground.phase }, { on := 1, ground := Ground.phase }, { on := 2, ground := Ground.phase }, { on := 3, ground := Ground.phase }, { on := 4, ground := Ground.phase }, { on := 5, ground := Ground.phase }], guard := none }, { dst := some 52, op := Op.fieldAddr 54 (Operand.tmp 51) 2, type := 0, pos := "l04_code.go:375", after := #[{ on := 6, ground := Ground.data }, { on := 0, ground := Ground.phase }, { on := 1, ground := Ground.phase }, { on := 2, ground := Ground.phase }, { on := 3, ground := Ground.phase }, { on := 4, ground := Ground.phase }, { on := 5, ground := Ground.phase }], guard := none }, { dst := none, op := Op.store 3 (Operand.tmp 52) (Operand.tmp 50), type := 0, pos := "l04_code.go:375", after := #[{ on := 7, ground := Ground.data }, { on := 5, ground := Ground.data }, { on := 4, ground := Ground.chain }, { on := 0, ground := Ground.phase }, { on := 1, ground := Ground.phase }, { on := 2, ground := Ground.phase }, { on := 3, ground := Ground.phase }, { on := 4, ground := Ground.phase }, { on := 5, ground := Ground.phase }], guard := none }] true).wp Tryz.prog Q ⟨#[.pointer (some ⟨P, 0, none⟩), t1, t2, .pointer (some ⟨bx, 0, none⟩), .int .i64 i, t5, t6, t7, t8, t9, t10, t11, t12, t13, t14, t15, t16, t17, t18, t19, t20, t21, t22, t23, t24, t25, t26, t27, t28, t29, t30, t31, t32, t33, t34, t35, t36, t37, t38, t39, t40, t41, t42, t43, t44, t45, t46, t47, t48, t49, t50, t51, t52, t53, t54, t55, t56, t57, t58, t59, t60, t61, t62, t63, t64, t65, t66, t67, t68, t69, t70, t71, t72, t73, t74, t75, t76, t77, t78, t79, t80, t81, t82, t83], fs⟩ W := by
  have hlt : (i : Int) < is.length := by omega
  have hP := D.hP
  have hbx := D.hbx
  have neb := D.ne
  have neP : g2 ≠ P := by have := (D.own.2.1.lt g2 rfl).1; omega
  have bP : bx ≠ P := by omega
  obtain ⟨x, hx⟩ : ∃ x, is[i]? = some x := ⟨is[i], by simp [hi]⟩
  have s0 := D.cell1
  go_region_held3 (fun w' => w'.cell? ⟨bx, 1, none⟩ = some (.slice (some ⟨g2, 0, none⟩) is.length q2)) (first | (with_reducible exact s1) | (with_reducible exact far1 s1 neb) | go_keep) (first
    | (go_at_call 12; with_reducible refine (below_any w0 v zs _ P 7 ?_ (by omega)).mono ?_; (with_reducible exact cur_drew D.cur); rintro e w2 ⟨z, rfl, hz0, hz1, c2, g2'⟩
       have D1 := D.turn c2 (grown_drew g2')
       have s1 := D1.cell1
       obtain ⟨⟨uu, cc⟩, ff⟩ := D1.at i 2 hi (by omega)
       try simp only [Nat.add_zero] at cc ff))
  all_goals
    have D2 := D1.op i 2 x ⟨x.o, x.n, IntKind.i64.wrap (z - 1), x.s⟩ (.int .i64 (IntKind.i64.wrap (z - 1))) hx (by omega) rfl
    exact hQ _ _ _ _ _ _ _ _ ⟨x.o, x.n, IntKind.i64.wrap (z - 1), x.s⟩ _ (Or.inr (by rw [hx]; rfl)) D2

set_option maxRecDepth 100000 in
set_option maxHeartbeats 3200000 in
theorem dd_reg7 {t1 t2 t5 t6 t7 t8 t9 t10 t11 t12 t13 t14 t15 t16 t17 t18 t19 t20 t21 t22 t23 t24 t25 t26 t27 t28 t29 t30 t31 t32 t33 t34 t35 t36 t37 t38 t39 t40 t41 t42 t43 t44 t45 t46 t47 t48 t49 t50 t51 t52 t53 t54 t55 t56 t57 t58 t59 t60 t61 t62 t63 t64 t65 t66 t67 t68 t69 t70 t71 t72 t73 t74 t75 t76 t77 t78 t79 t80 t81 t82 t83 : Value} {fs : List Deferred} (w0 : World) (v : Value) (zs : List Int) (P : Nat) (w : World) (bx : Nat) (v1 v3 : Value) (g2 q2 : Nat) (ns : List Nd) (is : List In) (ds : List Df) (i : Nat) (W : World) (Q : Exit → Act → World → Prop) (D : DX w0 v zs P w bx v1 (.slice (some ⟨g2, 0, none⟩) is.length q2) v3 ns is ds W) (hi : i < is.length) (hl : is.length ≤ 4000)
    (hQ : ∀ u25 u26 u27 u28 u29 u30 u31 u32 u33 u34 u35 u36 u37 u38 u39 u40 u41 u42 y wx, y.s.size ≤ maxLen ∨ is[i]?.map (·.s) = some y.s → DX w0 v zs P w bx v1 (.slice (some ⟨g2, 0, none⟩) (is.set i y).length q2) v3 ns (is.set i y) ds wx → Q .normal ⟨#[.pointer (some ⟨P, 0, none⟩), t1, t2, .pointer (some ⟨bx, 0, none⟩), .int .i64 i, t5, t6, t7, t8, t9, t10, t11, t12, t13, t14, t15, t16, t17, t18, t19, t20, t21, t22, t23, t24, u25, u26, u27, u28, u29, u30, u31, u32, u33, u34, u35, u36, u37, u38, u39, u40, u41, u42, t43, t44, t45, t46, t47, t48, t49, t50, t51, t52, t53, t54, t55, t56, t57, t58, t59, t60, t61, t62, t63, t64, t65, t66, t67, t68, t69, t70, t71, t72, t73, t74, t75, t76, t77, t78, t79, t80, t81, t82, t83], fs⟩ wx) :
    (Code.region 7 #[{ dst := some 25, op := Op.fieldAddr 30 (Operand.tmp 3) 1, type := 0, pos := "l04_code.go:373", after := #[], guard := none }, { dst := some 26, op := Op.load 27 (Operand.tmp 25), type := 27, pos := "l04_code.go:373", after := #[{ on := 0, ground := Ground.data }], guard := none }, { dst := some 27, op := Op.move (Operand.tmp 4), type := 3, pos := "l04_code.go:373", after := #[], guard := none }, { dst := some 28, op := Op.move (Operand.tmp 0), type := 41, pos := "l04_code.go:373", after := #[], guard := none }, { dst := some 29, op := Op.move (Operand.tmp 4), type := 3, pos := "l04_code.go:373", after := #[], guard := none }, { dst := some 30, op := Op.move (Operand.tmp 4), type := 3, pos := "l04_code.go:373", after := #[], guard := none }, { dst := some 31, op := Op.binOp BinOp.add 3 (Operand.tmp 30) (Operand.const (Value.int IntKind.i64 1)) 3, type := 3, pos := "l04_code.go:373", after := #[{ on := 5, ground := Ground.data }], guard := none }, { dst := some 32, op := Op.fieldAddr 30 (Operand.tmp 3) 1, type := 0, pos := "l04_code.go:373", after := #[], guard := none }, { dst := some 33, op := Op.load 27 (Operand.tmp 32), type := 27, pos := "l04_code.go:373", after := #[{ on := 7, ground := Ground.data }], guard := none }, { dst := some 34, op := Op.call { callee := Callee.builtin Builtin.len, args := #[Operand.tmp 33], argTypes := #[27] }, type := 3, pos := "l04_code.go:373", after := #[{ on := 8, ground := Ground.data }], guard := none }, { dst := some 35, op := Op.fieldAddr 30 (Operand.tmp 3) 1, type := 0, pos := "l04_code.go:373", after := #[], guard := none }, { dst := some 36, op := Op.load 27 (Operand.tmp 35), type := 27, pos := "l04_code.go:373", after := #[{ on := 10, ground := Ground.data }], guard := none }, { dst := some 37, op := Op.call { callee := Callee.builtin Builtin.len, args := #[Operand.tmp 36], argTypes := #[27] }, type := 3, pos := "l04_code.go:373", after := #[{ on := 11, ground := Ground.data }], guard := none }, { dst := some 38, op := Op.binOp BinOp.add 3 (Operand.tmp 37) (Operand.const (Value.int IntKind.i64 1)) 3, type := 3, pos := "l04_code.go:373", after := #[{ on := 12, ground := Ground.data }], guard := none }, { dst := some 39, op := Op.buildSlice 56 6 #[(0, Operand.const (Value.int IntKind.i64 (-1))), (1, Operand.const (Value.int IntKind.i64 0)), (2, Operand.tmp 29), (3, Operand.tmp 31), (4, Operand.tmp 34), (5, Operand.tmp 38)], type := 56, pos := "l04_code.go:373", after := #[{ on := 4, ground := Ground.data }, { on := 6, ground := Ground.data }, { on := 9, ground := Ground.data }, { on := 13, ground := Ground.data }], guard := none }, { dst := some 40, op := Op.call { callee := Callee.value (Operand.func 21), args := #[Operand.tmp 28, Operand.tmp 39], argTypes := #[41, 56] }, type := 3, pos := "l04_code.go:373", after := #[{ on := 3, ground := Ground.data }, { on := 14, ground := Ground.data }], guard := none }, { dst := some 41, op := Op.indexAddr 27 (Operand.tmp 26) (Operand.tmp 27), type := 0, pos := "l04_code.go:373", after := #[{ on := 1, ground := Ground.data }, { on := 2, ground := Ground.data }, { on := 0, ground := Ground.phase }, { on := 1, ground := Ground.phase }, { on := 2, ground := Ground.phase }, { on := 3, ground := Ground.phase }, { on := 4, ground := Ground.phase }, { on := 5, ground := Ground.phase }, { on := 6, ground := Ground.phase }, { on := 7, ground := Ground.phase }, { on := 8, ground := Ground.phase }, { on := 9, ground := Ground.phase }, { on := 10, ground := Ground.phase }, { on := 11, ground := Ground.phase }, { on := 12, ground := Ground.phase }, { on := 13, ground := Ground.phase }, { on := 14, ground := Ground.phase }, { on := 15, ground := Ground.phase }], guard := none }, { dst := some 42, op := Op.fieldAddr 54 (Operand.tmp 41) 1, type := 0, pos := "l04_code.go:373", after := #[{ on := 16, ground := Ground.data }, { on := 0, ground := Ground.phase }, { on := 1, ground := Ground.phase }, { on := 2, ground := Ground.phase }, { on := 3, ground := Ground.phase }, { on := 4, ground := Ground.phase }, { on := 5, ground := Ground.phase }, { on := 6, ground := Ground.phase }, { on := 7, ground := Ground.phase }, { on := 8, ground := Ground.phase }, { on := 9, ground := Ground.phase }, { on := 10, ground := Ground.phase }, { on := 11, ground := Ground.phase }, { on := 12, ground := Ground.phase }, { on := 13, ground := Ground.phase }, { on := 14, ground := Ground.phase }, { on := 15, ground := Ground.phase }], guard := none }, { dst := none, op := Op.store 3 (Operand.tmp 42) (Operand.tmp 40), type := 0, pos := "l04_code.go:373", after := #[{ on := 17, ground := Ground.data }, { on := 15, ground := Ground.data }, { on := 15, ground := Ground.chain }, { on := 0, ground := Ground.phase }, { on := 1, ground := Ground.phase }, { on := 2, ground := Ground.phase }, { on := 3, ground := Ground.phase }, { on := 4, ground := Ground.phase }, { on := 5, ground := Ground.phase }, { on := 6, ground := Ground.phase }, { on := 7, ground := Ground.phase }, { on := 8, ground := Ground.phase }, { on := 9, ground := Ground.phase }, { on := 10, ground := Ground.phase }, { on := 11, ground := Ground.phase }, { on := 12, ground := Ground.phase }, { on := 13, ground := Ground.phase }, { on := 14, ground := Ground.phase }, { on := 15, ground := Ground.phase }], guard := none }] true).wp Tryz.prog Q ⟨#[.pointer (some ⟨P, 0, none⟩), t1, t2, .pointer (some ⟨bx, 0, none⟩), .int .i64 i, t5, t6, t7, t8, t9, t10, t11, t12, t13, t14, t15, t16, t17, t18, t19, t20, t21, t22, t23, t24, t25, t26, t27, t28, t29, t30, t31, t32, t33, t34, t35, t36, t37, t38, t39, t40, t41, t42, t43, t44, t45, t46, t47, t48, t49, t50, t51, t52, t53, t54, t55, t56, t57, t58, t59, t60, t61, t62, t63, t64, t65, t66, t67, t68, t69, t70, t71, t72, t73, t74, t75, t76, t77, t78, t79, t80, t81, t82, t83], fs⟩ W := by
  have hlt : (i : Int) < is.length := by omega
  have hP := D.hP
  have hbx := D.hbx
  have neb := D.ne
  have neP : g2 ≠ P := by have := (D.own.2.1.lt g2 rfl).1; omega
  have bP : bx ≠ P := by omega
  obtain ⟨x, hx⟩ : ∃ x, is[i]? = some x := ⟨is[i], by simp [hi]⟩
  have s0 := D.cell1
  have hWP : W.heap.size ≠ P := by have := D.cur.lt; omega
  have hw1 := wrapB ((i : Int) + 1)
  have hw2 := wrapB ((is.length : Int) + 1)
  go_region_held3 (fun w' => w'.cell? ⟨bx, 1, none⟩ = some (.slice (some ⟨g2, 0, none⟩) is.length q2)) (first | (with_reducible exact s1) | (with_reducible exact far1 s1 neb) | go_keep) (first
    | (go_at_call 21; refine (pick_any w0 v zs _ P W.heap.size 6 [-1, 0, (i : Int), IntKind.i64.wrap ((i : Int) + 1), (is.length : Int), IntKind.i64.wrap ((is.length : Int) + 1)] ?_ (by omega) (by simp) (by simp) ?_ ?_).mono ?_; (with_reducible exact cur_drewA D.cur _); (intro x hx; simp only [List.mem_cons, List.not_mem_nil, or_false] at hx; omega); (intro j hj; exact ints_new W [-1, 0, (i : Int), IntKind.i64.wrap ((i : Int) + 1), (is.length : Int), IntKind.i64.wrap ((is.length : Int) + 1)] 3 j hj); rintro e w2 ⟨z, rfl, hz0, hz1, c2, g2'⟩
       have D1 := D.turn c2 (grown_drewA g2')
       have s1 := D1.cell1
       obtain ⟨⟨uu, cc⟩, ff⟩ := D1.at i 1 hi (by omega)
       try simp only [Nat.add_zero] at cc ff))
  all_goals
    have D2 := D1.op i 1 x ⟨x.o, z, x.i, x.s⟩ (.int .i64 z) hx (by omega) rfl
    exact hQ _ _ _ _ _ _ _ _ _ _ _ _ _ _ _ _ _ _ ⟨x.o, z, x.i, x.s⟩ _ (Or.inr (by rw [hx]; rfl)) D2

set_option maxRecDepth 100000 in
set_option maxHeartbeats 3200000 in
theorem dd_reg11 {t1 t2 t5 t6 t7 t8 t9 t10 t11 t12 t13 t14 t15 t16 t17 t18 t19 t20 t21 t22 t23 t24 t25 t26 t27 t28 t29 t30 t31 t32 t33 t34 t35 t36 t37 t38 t39 t40 t41 t42 t43 t44 t45 t46 t47 t48 t49 t50 t51 t52 t53 t54 t55 t56 t57 t58 t59 t60 t61 t62 t63 t64 t65 t66 t67 t68 t69 t70 t71 t72 t73 t74 t75 t76 t77 t78 t79 t80 t81 t82 t83 : Value} {fs : List Deferred} (w0 : World) (v : Value) (zs : List Int) (P : Nat) (w : World) (bx : Nat) (v1 v3 : Value) (g2 q2 : Nat) (ns : List Nd) (is : List In) (ds : List Df) (i : Nat) (W : World) (Q : Exit → Act → World → Prop) (D : DX w0 v zs P w bx v1 (.slice (some ⟨g2, 0, none⟩) is.length q2) v3 ns is ds W) (hi : i < is.length)
    (hQ : ∀ u55 u56 u57 u58 u59 u60 u61 u62 y wx, y.s.size ≤ maxLen ∨ is[i]?.map (·.s) = some y.s → DX w0 v zs P w bx v1 (.slice (some ⟨g2, 0, none⟩) (is.set i y).length q2) v3 ns (is.set i y) ds wx → Q .normal ⟨#[.pointer (some ⟨P, 0, none⟩), t1, t2, .pointer (some ⟨bx, 0, none⟩), .int .i64 i, t5, t6, t7, t8, t9, t10, t11, t12, t13, t14, t15, t16, t17, t18, t19, t20, t21, t22, t23, t24, t25, t26, t27, t28, t29, t30, t31, t32, t33, t34, t35, t36, t37, t38, t39, t40, t41, t42, t43, t44, t45, t46, t47, t48, t49, t50, t51, t52, t53, t54, u55, u56, u57, u58, u59, u60, u61, u62, t63, t64, t65, t66, t67, t68, t69, t70, t71, t72, t73, t74, t75, t76, t77, t78, t79, t80, t81, t82, t83], fs⟩ wx) :
    (Code.region 11 #[{ dst := some 55, op := Op.fieldAddr 30 (Operand.tmp 3) 1, type := 0, pos := "l04_code.go:377", after := #[], guard := none }, { dst := some 56, op := Op.load 27 (Operand.tmp 55), type := 27, pos := "l04_code.go:377", after := #[{ on := 0, ground := Ground.data }], guard := none }, { dst := some 57, op := Op.move (Operand.tmp 4), type := 3, pos := "l04_code.go:377", after := #[], guard := none }, { dst := some 58, op := Op.move (Operand.tmp 0), type := 41, pos := "l04_code.go:377", after := #[], guard := none }, { dst := some 59, op := Op.buildSlice 35 3 #[(0, Operand.const (Value.string { data := #[] })), (1, Operand.const (Value.string { data := #[97] })), (2, Operand.const (Value.string { data := #[65] }))], type := 35, pos := "l04_code.go:377", after := #[], guard := none }, { dst := some 60, op := Op.call { callee := Callee.value (Operand.func 11), args := #[Operand.tmp 58, Operand.tmp 59], argTypes := #[41, 35] }, type := 9, pos := "l04_code.go:377", after := #[{ on := 3, ground := Ground.data }, { on := 4, ground := Ground.data }], guard := none }, { dst := some 61, op := Op.indexAddr 27 (Operand.tmp 56) (Operand.tmp 57), type := 0, pos := "l04_code.go:377", after := #[{ on := 1, ground := Ground.data }, { on := 2, ground := Ground.data }, { on := 0, ground := Ground.phase }, { on := 1, ground := Ground.phase }, { on := 2, ground := Ground.phase }, { on := 3, ground := Ground.phase }, { on := 4, ground := Ground.phase }, { on := 5, ground := Ground.phase }], guard := none }, { dst := some 62, op := Op.fieldAddr 54 (Operand.tmp 61) 3, type := 0, pos := "l04_code.go:377", after := #[{ on := 6, ground := Ground.data }, { on := 0, ground := Ground.phase }, { on := 1, ground := Ground.phase }, { on := 2, ground := Ground.phase }, { on := 3, ground := Ground.phase }, { on := 4, ground := Ground.phase }, { on := 5, ground := Ground.phase }], guard := none }, { dst := none, op := Op.store 9 (Operand.tmp 62) (Operand.tmp 60), type := 0, pos := "l04_code.go:377", after := #[{ on := 7, ground := Ground.data }, { on := 5, ground := Ground.data }, { on := 5, ground := Ground.chain }, { on := 0, ground := Ground.phase }, { on := 1, ground := Ground.phase }, { on := 2, ground := Ground.phase }, { on := 3, ground := Ground.phase }, { on := 4, ground := Ground.phase }, { on := 5, ground := Ground.phase }], guard := none }] true).wp Tryz.prog Q ⟨#[.pointer (some ⟨P, 0, none⟩), t1, t2, .pointer (some ⟨bx, 0, none⟩), .int .i64 i, t5, t6, t7, t8, t9, t10, t11, t12, t13, t14, t15, t16, t17, t18, t19, t20, t21, t22, t23, t24, t25, t26, t27, t28, t29, t30, t31, t32, t33, t34, t35, t36, t37, t38, t39, t40, t41, t42, t43, t44, t45, t46, t47, t48, t49, t50, t51, t52, t53, t54, t55, t56, t57, t58, t59, t60, t61, t62, t63, t64, t65, t66, t67, t68, t69, t70, t71, t72, t73, t74, t75, t76, t77, t78, t79, t80, t81, t82, t83], fs⟩ W := by
  have hlt : (i : Int) < is.length := by omega
  have hP := D.hP
  have hbx := D.hbx
  have neb := D.ne
  have neP : g2 ≠ P := by have := (D.own.2.1.lt g2 rfl).1; omega
  have bP : bx ≠ P := by omega
  obtain ⟨x, hx⟩ : ∃ x, is[i]? = some x := ⟨is[i], by simp [hi]⟩
  have s0 := D.cell1
  have hWP : W.heap.size ≠ P := by have := D.cur.lt; omega
  go_region_held3 (fun w' => w'.cell? ⟨bx, 1, none⟩ = some (.slice (some ⟨g2, 0, none⟩) is.length q2)) (first | (with_reducible exact s1) | (with_reducible exact far1 s1 neb) | go_keep) (first
    | (go_at_call 11; refine (picks_any w0 v zs _ P W.heap.size 3 [ByteArray.mk #[], ByteArray.mk #[97], ByteArray.mk #[65]] ?_ (by omega) (by decide) (by decide) ?_).mono ?_; (with_reducible exact cur_drewA D.cur _); (intro j hj; exact strs_new W [ByteArray.mk #[], ByteArray.mk #[97], ByteArray.mk #[65]] 9 j hj); rintro e w2 ⟨z, hz, rfl, c2, g2'⟩
       have D1 := D.turn c2 (grown_drewA g2')
       have s1 := D1.cell1
       obtain ⟨⟨uu, cc⟩, ff⟩ := D1.at i 3 hi (by omega)
       try simp only [Nat.add_zero] at cc ff))
  all_goals
    have D2 := D1.op i 3 x ⟨x.o, x.n, x.i, z⟩ (.string z) hx (by omega) rfl
    exact hQ _ _ _ _ _ _ _ _ ⟨x.o, x.n, x.i, z⟩ _ (Or.inl (by simp only [List.mem_cons, List.not_mem_nil, or_false] at hz; rcases hz with rfl | rfl | rfl <;> (unfold maxLen; simp [ByteArray.size]))) D2

end Go.Proofs.YtmbomhcnmjhbnaaGreatDoor
