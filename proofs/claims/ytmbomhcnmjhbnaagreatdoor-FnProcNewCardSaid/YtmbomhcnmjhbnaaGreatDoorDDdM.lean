/-
  The region of spec.l4Draw that draws one definition more. No condition.
-/
import Derived.Test.YtmbomhcnmjhbnaaGreatDoorDDrM
import Derived.Deep.AppendLies
import Derived.Deep.RegionLaw
namespace Go.Proofs.YtmbomhcnmjhbnaaGreatDoor
open Go.RowKit

theorem DX.def {w0 w W W' : World} {v v1 v2 v3 v3' : Value} {zs : List Int} {P bx : Nat} {ns : List Nd} {is : List In} {ds ds' : List Df} (h : DX w0 v zs P w bx v1 v2 v3 ns is ds W) (ho : W'.ownsRow (w.heap.size + 1) 58 3 v3' ds'.length (dfcs ds')) (hg : W.grownBy W' v3.ownBlock) :
    DX w0 v zs P w bx v1 v2 v3' ns is ds' (W'.setCell ⟨bx, 2, none⟩ v3') := by
  have hP := h.hP
  have hb := h.hbx
  have n1 : v3.ownBlock ≠ some w.heap.size := own_ne h.own.2.2 h.res (by decide)
  have n2 : v3.ownBlock ≠ some bx := own_ne h.own.2.2 h.box (by decide)
  have hB : Below w.heap.size W W' := (Below.refl _ _).grown hg h.grown.size (fun k hk => by have := (h.own.2.2.lt k hk).1; omega)
  have hb' := (hg.block _ (Array.getElem?_eq_some_iff.1 h.box).1 (fun e => n2 e.symm)).trans h.box
  have hr' := (hg.block _ (Array.getElem?_eq_some_iff.1 h.res).1 (fun e => n1 e.symm)).trans h.res
  have hB2 := hB.setCell (p := ⟨bx, 2, none⟩) (Nat.le_of_lt hb) v3'
  obtain ⟨c, g⟩ := draw_done h.cur h.grown hB2 hP
  have k1 : v1.ownBlock = none ∨ v1.ownBlock ≠ v3.ownBlock := by
    rcases h.own.1.2 with ⟨rfl, _⟩ | ⟨g1, cap1, cur1, rfl, _, hc1, _⟩
    · exact Or.inl rfl
    · exact Or.inr fun e => own_ne h.own.2.2 hc1 (by decide) e.symm
  have k2 : v2.ownBlock = none ∨ v2.ownBlock ≠ v3.ownBlock := by
    rcases h.own.2.1.2 with ⟨rfl, _⟩ | ⟨g1, cap1, cur1, rfl, _, hc1, _⟩
    · exact Or.inl rfl
    · exact Or.inr fun e => own_ne h.own.2.2 hc1 (by decide) e.symm
  have p1 := h.own.1.kept hg k1
  have p2 := h.own.2.1.kept hg k2
  exact ⟨(heap_setCell_other W' ⟨bx, 2, none⟩ _ _ (by simp; omega)).trans hr', heap_setCell_same W' bx 2 _ _ v3' hb',
    ⟨ownsRow_setCell_other p1 (a := ⟨bx, 2, none⟩) (own_ne p1 hb' (by decide)) v3', ownsRow_setCell_other p2 (a := ⟨bx, 2, none⟩) (own_ne p2 hb' (by decide)) v3', ownsRow_setCell_other ho (a := ⟨bx, 2, none⟩) (own_ne ho hb' (by decide)) v3'⟩, c, g, hP, hb⟩

set_option maxRecDepth 100000 in
set_option maxHeartbeats 3200000 in
theorem dd_reg13 {t1 t2 t4 t5 t6 t7 t8 t9 t10 t11 t12 t13 t14 t15 t16 t17 t18 t19 t20 t21 t22 t23 t24 t25 t26 t27 t28 t29 t30 t31 t32 t33 t34 t35 t36 t37 t38 t39 t40 t41 t42 t43 t44 t45 t46 t47 t48 t49 t50 t51 t52 t53 t54 t55 t56 t57 t58 t59 t60 t61 t62 t63 t64 t65 t66 t67 t68 t69 t70 t71 t72 t73 t74 t75 t76 t77 t78 t79 t80 t81 t82 t83 : Value} {fs : List Deferred} (w0 : World) (v : Value) (zs : List Int) (P : Nat) (w : World) (bx : Nat) (v1 v2 : Value) (a3 : Option Addr) (q3 : Nat) (ns : List Nd) (is : List In) (ds : List Df) (W : World) (Q : Exit → Act → World → Prop) (D : DX w0 v zs P w bx v1 v2 (.slice a3 ds.length q3) ns is ds W) (hl : ds.length ≤ 4000)
    (hQ : ∀ u65 u66 u67 u68 u69 u70 u71 u72 u73 u74 u75 u76 u77 v3' y wx, y.s.size ≤ maxLen → DX w0 v zs P w bx v1 v2 v3' ns is (ds ++ [y]) wx → Q .normal ⟨#[.pointer (some ⟨P, 0, none⟩), t1, t2, .pointer (some ⟨bx, 0, none⟩), t4, t5, t6, t7, t8, t9, t10, t11, t12, t13, t14, t15, t16, t17, t18, t19, t20, t21, t22, t23, t24, t25, t26, t27, t28, t29, t30, t31, t32, t33, t34, t35, t36, t37, t38, t39, t40, t41, t42, t43, t44, t45, t46, t47, t48, t49, t50, t51, t52, t53, t54, t55, t56, t57, t58, t59, t60, t61, t62, t63, t64, u65, u66, u67, u68, u69, u70, u71, u72, u73, u74, u75, u76, u77, t78, t79, t80, t81, t82, t83], fs⟩ wx) :
    (Code.region 13 #[{ dst := some 65, op := Op.fieldAddr 30 (Operand.tmp 3) 2, type := 0, pos := "l04_code.go:379", after := #[], guard := none }, { dst := some 66, op := Op.load 28 (Operand.tmp 65), type := 28, pos := "l04_code.go:379", after := #[{ on := 0, ground := Ground.data }], guard := none }, { dst := some 67, op := Op.move (Operand.tmp 0), type := 41, pos := "l04_code.go:379", after := #[], guard := none }, { dst := some 68, op := Op.buildSlice 35 4 #[(0, Operand.const (Value.string { data := #[102] })), (1, Operand.const (Value.string { data := #[109, 97, 105, 110] })), (2, Operand.const (Value.string { data := #[122, 122] })), (3, Operand.const (Value.string { data := #[65] }))], type := 35, pos := "l04_code.go:379", after := #[], guard := none }, { dst := some 69, op := Op.call { callee := Callee.value (Operand.func 11), args := #[Operand.tmp 67, Operand.tmp 68], argTypes := #[41, 35] }, type := 9, pos := "l04_code.go:379", after := #[{ on := 2, ground := Ground.data }, { on := 3, ground := Ground.data }], guard := none }, { dst := some 70, op := Op.move (Operand.tmp 0), type := 41, pos := "l04_code.go:379", after := #[], guard := none }, { dst := some 71, op := Op.call { callee := Callee.value (Operand.func 12), args := #[Operand.tmp 70, Operand.const (Value.int IntKind.i64 60)], argTypes := #[41, 3] }, type := 3, pos := "l04_code.go:379", after := #[{ on := 5, ground := Ground.data }, { on := 4, ground := Ground.chain }], guard := none }, { dst := some 72, op := Op.move (Operand.tmp 0), type := 41, pos := "l04_code.go:379", after := #[], guard := none }, { dst := some 73, op := Op.call { callee := Callee.value (Operand.func 12), args := #[Operand.tmp 72, Operand.const (Value.int IntKind.i64 6)], argTypes := #[41, 3] }, type := 3, pos := "l04_code.go:379", after := #[{ on := 7, ground := Ground.data }, { on := 6, ground := Ground.chain }], guard := none }, { dst := some 74, op := Op.build 58 #[(0, Operand.tmp 69), (1, Operand.tmp 71), (2, Operand.tmp 73)], type := 58, pos := "l04_code.go:379", after := #[{ on := 4, ground := Ground.data }, { on := 6, ground := Ground.data }, { on := 8, ground := Ground.data }], guard := none }, { dst := some 75, op := Op.buildSlice 28 1 #[(0, Operand.tmp 74)], type := 28, pos := "l04_code.go:379", after := #[{ on := 9, ground := Ground.data }], guard := none }, { dst := some 76, op := Op.call { callee := Callee.builtin Builtin.append, args := #[Operand.tmp 66, Operand.tmp 75], argTypes := #[28, 28] }, type := 28, pos := "l04_code.go:379", after := #[{ on := 1, ground := Ground.data }, { on := 10, ground := Ground.data }, { on := 8, ground := Ground.chain }], guard := none }, { dst := some 77, op := Op.fieldAddr 30 (Operand.tmp 3) 2, type := 0, pos := "l04_code.go:379", after := #[{ on := 0, ground := Ground.phase }, { on := 1, ground := Ground.phase }, { on := 2, ground := Ground.phase }, { on := 3, ground := Ground.phase }, { on := 4, ground := Ground.phase }, { on := 5, ground := Ground.phase }, { on := 6, ground := Ground.phase }, { on := 7, ground := Ground.phase }, { on := 8, ground := Ground.phase }, { on := 9, ground := Ground.phase }, { on := 10, ground := Ground.phase }, { on := 11, ground := Ground.phase }], guard := none }, { dst := none, op := Op.store 28 (Operand.tmp 77) (Operand.tmp 76), type := 0, pos := "l04_code.go:379", after := #[{ on := 12, ground := Ground.data }, { on := 11, ground := Ground.data }, { on := 11, ground := Ground.chain }, { on := 0, ground := Ground.phase }, { on := 1, ground := Ground.phase }, { on := 2, ground := Ground.phase }, { on := 3, ground := Ground.phase }, { on := 4, ground := Ground.phase }, { on := 5, ground := Ground.phase }, { on := 6, ground := Ground.phase }, { on := 7, ground := Ground.phase }, { on := 8, ground := Ground.phase }, { on := 9, ground := Ground.phase }, { on := 10, ground := Ground.phase }, { on := 11, ground := Ground.phase }], guard := none }] true).wp Tryz.prog Q ⟨#[.pointer (some ⟨P, 0, none⟩), t1, t2, .pointer (some ⟨bx, 0, none⟩), t4, t5, t6, t7, t8, t9, t10, t11, t12, t13, t14, t15, t16, t17, t18, t19, t20, t21, t22, t23, t24, t25, t26, t27, t28, t29, t30, t31, t32, t33, t34, t35, t36, t37, t38, t39, t40, t41, t42, t43, t44, t45, t46, t47, t48, t49, t50, t51, t52, t53, t54, t55, t56, t57, t58, t59, t60, t61, t62, t63, t64, t65, t66, t67, t68, t69, t70, t71, t72, t73, t74, t75, t76, t77, t78, t79, t80, t81, t82, t83], fs⟩ W := by
  obtain ⟨i0, hi, hz0, hz1, hz2⟩ := info_parts Tryz.infoDf
  have hP := D.hP
  have hbx := D.hbx
  have hWP : W.heap.size ≠ P := by have := D.cur.lt; omega
  have s0 := D.cell2
  have lb : bx < W.heap.size := (Array.getElem?_eq_some_iff.1 D.box).1
  have ls : ∀ ob : Obj, (W.alloc ob).cell? ⟨bx, 2, none⟩ = some (.slice a3 ds.length q3) := fun ob => (D.on ((Below.refl _ _).alloc (Nat.le_refl _) ob)).cell2
  refine wp_region_noPanic ?_
  go_region_law (first
    | (go_simp; go_at_call 11; refine (picks_any w0 v zs _ P W.heap.size 4 [ByteArray.mk #[102], ByteArray.mk #[109, 97, 105, 110], ByteArray.mk #[122, 122], ByteArray.mk #[65]] ?_ (by omega) (by decide) (by decide) ?_).mono ?_; (with_reducible exact cur_drewA D.cur _); (intro j hj; exact strs_new W [ByteArray.mk #[102], ByteArray.mk #[109, 97, 105, 110], ByteArray.mk #[122, 122], ByteArray.mk #[65]] 9 j hj); rintro e w2 ⟨s, hs, rfl, c2, g2⟩
       have D1 := D.turn c2 (grown_drewA g2)
       have s1 := D1.cell2)
    | (go_simp; go_at_call 12; with_reducible refine (below_any w0 v zs _ P 60 D1.cur (by omega)).mono ?_; rintro e w3 ⟨z1, rfl, _, _, c3, g3⟩
       have D2 := D1.turn c3 g3
       have s2 := D2.cell2)
    | (go_simp; go_at_call 12; with_reducible refine (below_any w0 v zs _ P 6 D2.cur (by omega)).mono ?_; rintro e w4 ⟨z2, rfl, _, _, c4, g4⟩
       have D3 := D2.turn c4 g4
       have s3 := D3.cell2
       have lb4 : bx < w4.heap.size := (Array.getElem?_eq_some_iff.1 D3.box).1
       have hn4 := heap_alloc_new w4 (Obj.cells #[.string s, .int .i64 z1, .int .i64 z2] 58)
       have D4 := D3.on ((Below.refl _ _).alloc (Nat.le_refl _) (Obj.cells #[.string s, .int .i64 z1, .int .i64 z2] 58))
       have hbs := D4.grown.size)
    | (refine step_append_lies _ rfl _ _ 28 rfl (w.heap.size + 1) 58 i0 _ 3 32 Tryz.underlying28 hi hz0 hz1 hz2 rfl (by decide) _ _ _ rfl D4.own.2.2 ⟨w4.heap.size, 0, none⟩ 1 1 (dfcs [⟨s, z1, z2⟩]) rfl rfl (World.news_of_block (cs := #[.string s, .int .i64 z1, .int .i64 z2]) (t := 58) (fr := (0, 0)) hn4) (dfcs_one _) (by omega) (by unfold maxLen; omega) (by omega) (by have := (Array.getElem?_eq_some_iff.1 D4.box).1; omega) (w4.heap.size + 1) (by simp) ?_
       intro g capg w5 hown hgrow hat hgl
       have n2 := own_ne D4.own.2.2 D4.box (by decide)
       have hb5 := (hgrow.block _ (Array.getElem?_eq_some_iff.1 D4.box).1 (fun e => n2 e.symm)).trans D4.box
       have s5 : w5.cell? ⟨bx, 2, none⟩ = some (.slice a3 ds.length q3) := cell_of_row _ _ 2 _ _ _ hb5
       have f5 : w5.frozen? ⟨bx, 2, none⟩ = false := frozen_of_row _ _ 2 _ _ hb5))
  all_goals
    have hown2 : w5.ownsRow (w.heap.size + 1) 58 3 (.slice (some ⟨g, 0, none⟩) (ds.length + 1) capg) (ds ++ [(⟨s, z1, z2⟩ : Df)]).length (dfcs (ds ++ [(⟨s, z1, z2⟩ : Df)])) := by
      rw [dfcs_append, List.length_append]
      exact hown
    have hsz : s.size ≤ maxLen := by
      simp only [List.mem_cons, List.not_mem_nil, or_false] at hs
      unfold maxLen
      rcases hs with rfl | rfl | rfl | rfl <;> simp [ByteArray.size]
    exact NoPanic.normal <| hQ _ _ _ _ _ _ _ _ _ _ _ _ _ _ ⟨s, z1, z2⟩ _ hsz (D4.def hown2 hgrow)
end Go.Proofs.YtmbomhcnmjhbnaaGreatDoor
