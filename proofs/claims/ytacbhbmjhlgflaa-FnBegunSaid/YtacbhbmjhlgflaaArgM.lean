/-
  Texts that stood by themselves, laid into one.
-/
import Derived.Test.YtacbhbmjhlgflaaLFBeM
import Derived.Deep.RegionHeld3
import Derived.Test.YtacbhbmjhlgflaaDDnM
import Derived.Test.YtacbhbmjhlgflaaKeyM
import Derived.Test.YtacbhbmjhlgflaaBsM
import Derived.Test.YtacbhbmjhlgflaaShapeM
import Derived.ProofKit
import Derived.OpenShut
import Derived.ShutString
import Derived.ChangeOld
import Derived.Below
/-
  A region of the law FnBegun that draws its order, alone, where nothing is to be asked. No condition.
-/
namespace Go.Proofs.Ytacbhbmjhlgflaa
open Go.RowKit

set_option maxRecDepth 100000 in
set_option maxHeartbeats 6400000 in
theorem beg_reg13n {t0 t1 t2 t3 t4 t5 t6 t7 t8 t9 t10 t11 t14 t15 t16 t17 t18 t19 t20 t21 t22 t23 t24 t25 t26 t27 t28 t29 t30 t31 t32 t33 t34 t35 t36 t37 t38 t39 t40 t41 t42 t43 t44 t45 t46 t47 t48 t49 t50 t51 t52 t53 t54 t55 t56 t57 t58 t59 t60 t61 t62 t63 t64 t65 t66 t67 t68 t69 t70 t71 t72 t73 t74 t75 t76 t77 t78 t79 t80 t81 t82 t83 t84 t85 t86 t87 t88 t89 t90 t91 t92 t93 t94 t95 t96 t97 t98 t99 t100 t101 t102 t103 t104 t105 t106 t107 t108 t109 t110 t111 t112 t113 t114 t115 t116 t117 t118 t119 t120 t121 t122 t123 t124 t125 t126 t127 t128 t129 t130 t131 t132 t133 t134 t135 t136 t137 t138 t139 t140 t141 t142 t143 : Value} {fs : List Deferred} (bn : Nat) (aL : Option Addr) (qL : Nat) (w : World) (Q : Exit → Act → World → Prop) (S : w.cell? ⟨bn, 0, none⟩ = some (.slice aL 0 qL))
    (hQ : ∀ u110 u111 u112 u113 u114 u115 u116 u117 u118 u119 u120 u121 u122 u123 u124 u125 u126 u127 u128 u129 u130 u131 u132 u133 u134 u135 u136 u137 u138 u139 u140 u141 u142 u143 wx, Below w.heap.size w wx → Q .normal ⟨#[t0, t1, .bool true, t3, t4, t5, t6, t7, t8, t9, t10, t11, .pointer (some ⟨bn, 0, none⟩), .bool false, t14, t15, t16, t17, t18, t19, t20, t21, t22, t23, t24, t25, t26, t27, t28, t29, t30, t31, t32, t33, t34, t35, t36, t37, t38, t39, t40, t41, t42, t43, t44, t45, t46, t47, t48, t49, t50, t51, t52, t53, t54, t55, t56, t57, t58, t59, t60, t61, t62, t63, t64, t65, t66, t67, t68, t69, t70, t71, t72, t73, t74, t75, t76, t77, t78, t79, t80, t81, t82, t83, t84, t85, t86, t87, t88, t89, t90, t91, t92, t93, t94, t95, t96, t97, t98, t99, t100, t101, t102, t103, t104, t105, t106, t107, t108, t109, u110, u111, u112, u113, u114, u115, u116, u117, u118, u119, u120, u121, u122, u123, u124, u125, u126, u127, u128, u129, u130, u131, u132, u133, u134, u135, u136, u137, u138, u139, u140, u141, u142, u143], fs⟩ wx) :
    (Code.region 13 (List.toArray (({ dst := some 110, op := Op.move (Operand.tmp 13), type := 4, pos := "laws.go:535", after := #[], guard := none } : Oper) :: ({ dst := some 111, op := Op.unOp UnOp.not 4 (Operand.tmp 110), type := 4, pos := "laws.go:535", after := #[{ on := 0, ground := Ground.data }], guard := none } : Oper) :: ({ dst := some 112, op := Op.move (Operand.tmp 111), type := 4, pos := "laws.go:535", after := #[{ on := 1, ground := Ground.data }], guard := none } : Oper) :: ({ dst := some 113, op := Op.fieldAddr 35 (Operand.tmp 12) 0, type := 0, pos := "laws.go:535", after := #[{ on := 2, ground := Ground.guard }], guard := some (2, true) } : Oper) :: ({ dst := some 114, op := Op.fieldAddr 33 (Operand.tmp 113) 0, type := 0, pos := "laws.go:535", after := #[{ on := 3, ground := Ground.data }, { on := 2, ground := Ground.guard }], guard := some (2, true) } : Oper) :: ({ dst := some 115, op := Op.load 31 (Operand.tmp 114), type := 31, pos := "laws.go:535", after := #[{ on := 4, ground := Ground.data }, { on := 2, ground := Ground.guard }], guard := some (2, true) } : Oper) :: ({ dst := some 116, op := Op.call { callee := Callee.builtin Builtin.len, args := #[Operand.tmp 115], argTypes := #[31] }, type := 3, pos := "laws.go:535", after := #[{ on := 5, ground := Ground.data }, { on := 2, ground := Ground.guard }], guard := some (2, true) } : Oper) :: ({ dst := some 117, op := Op.binOp BinOp.eql 3 (Operand.tmp 116) (Operand.const (Value.int IntKind.i64 0)) 3, type := 4, pos := "laws.go:535", after := #[{ on := 6, ground := Ground.data }, { on := 2, ground := Ground.guard }], guard := some (2, true) } : Oper) :: ({ dst := some 118, op := Op.pick (Operand.tmp 112) (Operand.tmp 117) (Operand.const (Value.bool false)), type := 4, pos := "laws.go:535", after := #[{ on := 2, ground := Ground.data }, { on := 7, ground := Ground.data }], guard := none } : Oper) :: ({ dst := some 119, op := Op.move (Operand.tmp 118), type := 4, pos := "laws.go:535", after := #[{ on := 8, ground := Ground.data }, { on := 2, ground := Ground.chain }], guard := none } : Oper) :: ({ dst := some 120, op := Op.move (Operand.tmp 13), type := 4, pos := "laws.go:535", after := #[{ on := 9, ground := Ground.guard }], guard := some (9, false) } : Oper) :: ({ dst := some 121, op := Op.move (Operand.tmp 120), type := 4, pos := "laws.go:535", after := #[{ on := 10, ground := Ground.data }, { on := 9, ground := Ground.chain }, { on := 9, ground := Ground.guard }], guard := some (9, false) } : Oper) :: ({ dst := some 122, op := Op.load 41 (Operand.tmp 9), type := 41, pos := "laws.go:535", after := #[{ on := 11, ground := Ground.guard }], guard := some (11, true) } : Oper) :: ({ dst := some 123, op := Op.load 35 (Operand.tmp 12), type := 35, pos := "laws.go:535", after := #[{ on := 11, ground := Ground.guard }], guard := some (11, true) } : Oper) :: ({ dst := some 124, op := Op.call { callee := Callee.value (Operand.func 23), args := #[Operand.tmp 122, Operand.tmp 123], argTypes := #[41, 35] }, type := 4, pos := "laws.go:535", after := #[{ on := 12, ground := Ground.data }, { on := 13, ground := Ground.data }, { on := 11, ground := Ground.chain }, { on := 11, ground := Ground.guard }], guard := some (11, true) } : Oper) :: ({ dst := some 125, op := Op.pick (Operand.tmp 121) (Operand.tmp 124) (Operand.const (Value.bool false)), type := 4, pos := "laws.go:535", after := #[{ on := 11, ground := Ground.data }, { on := 14, ground := Ground.data }, { on := 9, ground := Ground.guard }], guard := some (9, false) } : Oper) :: ({ dst := some 126, op := Op.move (Operand.tmp 125), type := 4, pos := "laws.go:535", after := #[{ on := 15, ground := Ground.data }, { on := 14, ground := Ground.chain }, { on := 9, ground := Ground.guard }], guard := some (9, false) } : Oper) :: ({ dst := some 127, op := Op.fieldAddr 35 (Operand.tmp 12) 5, type := 0, pos := "laws.go:535", after := #[{ on := 16, ground := Ground.guard }], guard := some (16, true) } : Oper) :: ({ dst := some 128, op := Op.load 3 (Operand.tmp 127), type := 3, pos := "laws.go:535", after := #[{ on := 17, ground := Ground.data }, { on := 16, ground := Ground.guard }], guard := some (16, true) } : Oper) :: ({ dst := some 129, op := Op.binOp BinOp.eql 3 (Operand.tmp 128) (Operand.const (Value.int IntKind.i64 0)) 3, type := 4, pos := "laws.go:535", after := #[{ on := 18, ground := Ground.data }, { on := 16, ground := Ground.guard }], guard := some (16, true) } : Oper) :: ({ dst := some 130, op := Op.pick (Operand.tmp 126) (Operand.tmp 129) (Operand.const (Value.bool false)), type := 4, pos := "laws.go:535", after := #[{ on := 16, ground := Ground.data }, { on := 19, ground := Ground.data }, { on := 9, ground := Ground.guard }], guard := some (9, false) } : Oper) :: ({ dst := some 131, op := Op.move (Operand.tmp 130), type := 4, pos := "laws.go:535", after := #[{ on := 20, ground := Ground.data }, { on := 16, ground := Ground.chain }, { on := 9, ground := Ground.guard }], guard := some (9, false) } : Oper) :: ({ dst := some 132, op := Op.fieldAddr 35 (Operand.tmp 12) 1, type := 0, pos := "laws.go:535", after := #[{ on := 21, ground := Ground.guard }], guard := some (21, true) } : Oper) :: ({ dst := some 133, op := Op.load 3 (Operand.tmp 132), type := 3, pos := "laws.go:535", after := #[{ on := 22, ground := Ground.data }, { on := 21, ground := Ground.guard }], guard := some (21, true) } : Oper) :: ({ dst := some 134, op := Op.fieldAddr 33 (Operand.tmp 10) 0, type := 0, pos := "laws.go:535", after := #[{ on := 21, ground := Ground.guard }], guard := some (21, true) } : Oper) :: ({ dst := some 135, op := Op.load 31 (Operand.tmp 134), type := 31, pos := "laws.go:535", after := #[{ on := 24, ground := Ground.data }, { on := 21, ground := Ground.guard }], guard := some (21, true) } : Oper) :: ({ dst := some 136, op := Op.move (Operand.tmp 11), type := 3, pos := "laws.go:535", after := #[{ on := 21, ground := Ground.guard }], guard := some (21, true) } : Oper) :: ({ dst := some 137, op := Op.indexAddr 31 (Operand.tmp 135) (Operand.tmp 136), type := 0, pos := "laws.go:535", after := #[{ on := 25, ground := Ground.data }, { on := 26, ground := Ground.data }, { on := 21, ground := Ground.guard }], guard := some (21, true) } : Oper) :: ({ dst := some 138, op := Op.fieldAddr 63 (Operand.tmp 137) 1, type := 0, pos := "laws.go:535", after := #[{ on := 27, ground := Ground.data }, { on := 21, ground := Ground.guard }], guard := some (21, true) } : Oper) :: ({ dst := some 139, op := Op.load 3 (Operand.tmp 138), type := 3, pos := "laws.go:535", after := #[{ on := 28, ground := Ground.data }, { on := 21, ground := Ground.guard }], guard := some (21, true) } : Oper) :: ({ dst := some 140, op := Op.binOp BinOp.quo 3 (Operand.tmp 139) (Operand.const (Value.int IntKind.i64 8)) 3, type := 3, pos := "laws.go:535", after := #[{ on := 29, ground := Ground.data }, { on := 21, ground := Ground.guard }], guard := some (21, true) } : Oper) :: ({ dst := some 141, op := Op.binOp BinOp.eql 3 (Operand.tmp 133) (Operand.tmp 140) 3, type := 4, pos := "laws.go:535", after := #[{ on := 23, ground := Ground.data }, { on := 30, ground := Ground.data }, { on := 21, ground := Ground.guard }], guard := some (21, true) } : Oper) :: ({ dst := some 142, op := Op.pick (Operand.tmp 131) (Operand.tmp 141) (Operand.const (Value.bool false)), type := 4, pos := "laws.go:535", after := #[{ on := 21, ground := Ground.data }, { on := 31, ground := Ground.data }, { on := 9, ground := Ground.guard }], guard := some (9, false) } : Oper) :: ({ dst := some 143, op := Op.pick (Operand.tmp 119) (Operand.const (Value.bool true)) (Operand.tmp 142), type := 4, pos := "laws.go:535", after := #[{ on := 9, ground := Ground.data }, { on := 32, ground := Ground.data }], guard := none } : Oper) :: ({ dst := some 2, op := Op.assign (Operand.tmp 143), type := 4, pos := "laws.go:535", after := #[{ on := 33, ground := Ground.data }, { on := 21, ground := Ground.chain }, { on := 0, ground := Ground.phase }, { on := 1, ground := Ground.phase }, { on := 2, ground := Ground.phase }, { on := 3, ground := Ground.phase }, { on := 4, ground := Ground.phase }, { on := 5, ground := Ground.phase }, { on := 6, ground := Ground.phase }, { on := 7, ground := Ground.phase }, { on := 8, ground := Ground.phase }, { on := 9, ground := Ground.phase }, { on := 10, ground := Ground.phase }, { on := 11, ground := Ground.phase }, { on := 12, ground := Ground.phase }, { on := 13, ground := Ground.phase }, { on := 14, ground := Ground.phase }, { on := 15, ground := Ground.phase }, { on := 16, ground := Ground.phase }, { on := 17, ground := Ground.phase }, { on := 18, ground := Ground.phase }, { on := 19, ground := Ground.phase }, { on := 20, ground := Ground.phase }, { on := 21, ground := Ground.phase }, { on := 22, ground := Ground.phase }, { on := 23, ground := Ground.phase }, { on := 24, ground := Ground.phase }, { on := 25, ground := Ground.phase }, { on := 26, ground := Ground.phase }, { on := 27, ground := Ground.phase }, { on := 28, ground := Ground.phase }, { on := 29, ground := Ground.phase }, { on := 30, ground := Ground.phase }, { on := 31, ground := Ground.phase }, { on := 32, ground := Ground.phase }, { on := 33, ground := Ground.phase }], guard := none } : Oper) :: [])) true).wp Try.prog Q ⟨#[t0, t1, t2, t3, t4, t5, t6, t7, t8, t9, t10, t11, .pointer (some ⟨bn, 0, none⟩), .bool false, t14, t15, t16, t17, t18, t19, t20, t21, t22, t23, t24, t25, t26, t27, t28, t29, t30, t31, t32, t33, t34, t35, t36, t37, t38, t39, t40, t41, t42, t43, t44, t45, t46, t47, t48, t49, t50, t51, t52, t53, t54, t55, t56, t57, t58, t59, t60, t61, t62, t63, t64, t65, t66, t67, t68, t69, t70, t71, t72, t73, t74, t75, t76, t77, t78, t79, t80, t81, t82, t83, t84, t85, t86, t87, t88, t89, t90, t91, t92, t93, t94, t95, t96, t97, t98, t99, t100, t101, t102, t103, t104, t105, t106, t107, t108, t109, t110, t111, t112, t113, t114, t115, t116, t117, t118, t119, t120, t121, t122, t123, t124, t125, t126, t127, t128, t129, t130, t131, t132, t133, t134, t135, t136, t137, t138, t139, t140, t141, t142, t143], fs⟩ w := by
  refine wp_region_noPanic ?_
  refine wp_region_held_drew (S := fun w' => w'.cell? ⟨bn, 0, none⟩ = some (.slice aL 0 qL)) (by kernel_rfl) S (fun hHeld => ?_)
  refine wpAnyH_take (i := 0) (oi := ({ dst := some 110, op := Op.move (Operand.tmp 13), type := 4, pos := "laws.go:535", after := #[], guard := none } : Oper)) (v := .bool false) rfl (by kernel_rfl) (by kernel_rfl) (by kernel_rfl) (fun _ _ _ h => h) (Or.inl ⟨by rfl, by intro w hSw; go_simp⟩) (by assumption) ?_
  simp only [Act.put, List.setIfInBounds_toArray, List.set_cons_zero, List.set_cons_succ]
  refine wpAnyH_take (i := 1) (oi := ({ dst := some 111, op := Op.unOp UnOp.not 4 (Operand.tmp 110), type := 4, pos := "laws.go:535", after := #[{ on := 0, ground := Ground.data }], guard := none } : Oper)) (v := .bool true) rfl (by kernel_rfl) (by kernel_rfl) (by kernel_rfl) (fun _ _ _ h => h) (Or.inl ⟨by rfl, by intro w hSw; go_simp⟩) (by assumption) ?_
  simp only [Act.put, List.setIfInBounds_toArray, List.set_cons_zero, List.set_cons_succ]
  refine wpAnyH_take (i := 2) (oi := ({ dst := some 112, op := Op.move (Operand.tmp 111), type := 4, pos := "laws.go:535", after := #[{ on := 1, ground := Ground.data }], guard := none } : Oper)) (v := .bool true) rfl (by kernel_rfl) (by kernel_rfl) (by kernel_rfl) (fun _ _ _ h => h) (Or.inl ⟨by rfl, by intro w hSw; go_simp⟩) (by assumption) ?_
  simp only [Act.put, List.setIfInBounds_toArray, List.set_cons_zero, List.set_cons_succ]
  refine wpAnyH_take (i := 3) (oi := ({ dst := some 113, op := Op.fieldAddr 35 (Operand.tmp 12) 0, type := 0, pos := "laws.go:535", after := #[{ on := 2, ground := Ground.guard }], guard := some (2, true) } : Oper)) (v := .pointer (some ⟨bn, 0, none⟩)) rfl (by kernel_rfl) (by kernel_rfl) (by kernel_rfl) (fun _ _ _ h => h) (Or.inl ⟨by rfl, by intro w hSw; go_simp⟩) (by assumption) ?_
  simp only [Act.put, List.setIfInBounds_toArray, List.set_cons_zero, List.set_cons_succ]
  refine wpAnyH_take (i := 4) (oi := ({ dst := some 114, op := Op.fieldAddr 33 (Operand.tmp 113) 0, type := 0, pos := "laws.go:535", after := #[{ on := 3, ground := Ground.data }, { on := 2, ground := Ground.guard }], guard := some (2, true) } : Oper)) (v := .pointer (some ⟨bn, 0, none⟩)) rfl (by kernel_rfl) (by kernel_rfl) (by kernel_rfl) (fun _ _ _ h => h) (Or.inl ⟨by rfl, by intro w hSw; go_simp⟩) (by assumption) ?_
  simp only [Act.put, List.setIfInBounds_toArray, List.set_cons_zero, List.set_cons_succ]
  refine wpAnyH_take (i := 5) (oi := ({ dst := some 115, op := Op.load 31 (Operand.tmp 114), type := 31, pos := "laws.go:535", after := #[{ on := 4, ground := Ground.data }, { on := 2, ground := Ground.guard }], guard := some (2, true) } : Oper)) (v := .slice aL 0 qL) rfl (by kernel_rfl) (by kernel_rfl) (by kernel_rfl) (fun _ _ _ h => h) (Or.inl ⟨by rfl, by intro w hSw; go_simp⟩) (by assumption) ?_
  simp only [Act.put, List.setIfInBounds_toArray, List.set_cons_zero, List.set_cons_succ]
  refine wpAnyH_take (i := 6) (oi := ({ dst := some 116, op := Op.call { callee := Callee.builtin Builtin.len, args := #[Operand.tmp 115], argTypes := #[31] }, type := 3, pos := "laws.go:535", after := #[{ on := 5, ground := Ground.data }, { on := 2, ground := Ground.guard }], guard := some (2, true) } : Oper)) (v := .int .i64 0) rfl (by kernel_rfl) (by kernel_rfl) (by kernel_rfl) (fun _ _ _ h => h) (Or.inl ⟨by rfl, by intro w hSw; go_simp⟩) (by assumption) ?_
  simp only [Act.put, List.setIfInBounds_toArray, List.set_cons_zero, List.set_cons_succ]
  refine wpAnyH_take (i := 7) (oi := ({ dst := some 117, op := Op.binOp BinOp.eql 3 (Operand.tmp 116) (Operand.const (Value.int IntKind.i64 0)) 3, type := 4, pos := "laws.go:535", after := #[{ on := 6, ground := Ground.data }, { on := 2, ground := Ground.guard }], guard := some (2, true) } : Oper)) (v := .bool true) rfl (by kernel_rfl) (by kernel_rfl) (by kernel_rfl) (fun _ _ _ h => h) (Or.inl ⟨by rfl, by intro w hSw; go_simp⟩) (by assumption) ?_
  simp only [Act.put, List.setIfInBounds_toArray, List.set_cons_zero, List.set_cons_succ]
  refine wpAnyH_take (i := 8) (oi := ({ dst := some 118, op := Op.pick (Operand.tmp 112) (Operand.tmp 117) (Operand.const (Value.bool false)), type := 4, pos := "laws.go:535", after := #[{ on := 2, ground := Ground.data }, { on := 7, ground := Ground.data }], guard := none } : Oper)) (v := .bool true) rfl (by kernel_rfl) (by kernel_rfl) (by kernel_rfl) (fun _ _ _ h => h) (Or.inl ⟨by rfl, by intro w hSw; go_simp⟩) (by assumption) ?_
  simp only [Act.put, List.setIfInBounds_toArray, List.set_cons_zero, List.set_cons_succ]
  refine wpAnyH_take (i := 9) (oi := ({ dst := some 119, op := Op.move (Operand.tmp 118), type := 4, pos := "laws.go:535", after := #[{ on := 8, ground := Ground.data }, { on := 2, ground := Ground.chain }], guard := none } : Oper)) (v := .bool true) rfl (by kernel_rfl) (by kernel_rfl) (by kernel_rfl) (fun _ _ _ h => h) (Or.inl ⟨by rfl, by intro w hSw; go_simp⟩) (by assumption) ?_
  simp only [Act.put, List.setIfInBounds_toArray, List.set_cons_zero, List.set_cons_succ]
  refine wpAnyH_take (i := 10) (oi := ({ dst := some 120, op := Op.move (Operand.tmp 13), type := 4, pos := "laws.go:535", after := #[{ on := 9, ground := Ground.guard }], guard := some (9, false) } : Oper)) (v := undef) rfl (by kernel_rfl) (by kernel_rfl) (by kernel_rfl) (fun _ _ _ h => h) (Or.inr ⟨by rfl, rfl⟩) (by assumption) ?_
  simp only [Act.put, List.setIfInBounds_toArray, List.set_cons_zero, List.set_cons_succ]
  refine wpAnyH_take (i := 11) (oi := ({ dst := some 121, op := Op.move (Operand.tmp 120), type := 4, pos := "laws.go:535", after := #[{ on := 10, ground := Ground.data }, { on := 9, ground := Ground.chain }, { on := 9, ground := Ground.guard }], guard := some (9, false) } : Oper)) (v := undef) rfl (by kernel_rfl) (by kernel_rfl) (by kernel_rfl) (fun _ _ _ h => h) (Or.inr ⟨by rfl, rfl⟩) (by assumption) ?_
  simp only [Act.put, List.setIfInBounds_toArray, List.set_cons_zero, List.set_cons_succ]
  refine wpAnyH_take (i := 12) (oi := ({ dst := some 122, op := Op.load 41 (Operand.tmp 9), type := 41, pos := "laws.go:535", after := #[{ on := 11, ground := Ground.guard }], guard := some (11, true) } : Oper)) (v := undef) rfl (by kernel_rfl) (by kernel_rfl) (by kernel_rfl) (fun _ _ _ h => h) (Or.inr ⟨by rfl, rfl⟩) (by assumption) ?_
  simp only [Act.put, List.setIfInBounds_toArray, List.set_cons_zero, List.set_cons_succ]
  refine wpAnyH_take (i := 13) (oi := ({ dst := some 123, op := Op.load 35 (Operand.tmp 12), type := 35, pos := "laws.go:535", after := #[{ on := 11, ground := Ground.guard }], guard := some (11, true) } : Oper)) (v := undef) rfl (by kernel_rfl) (by kernel_rfl) (by kernel_rfl) (fun _ _ _ h => h) (Or.inr ⟨by rfl, rfl⟩) (by assumption) ?_
  simp only [Act.put, List.setIfInBounds_toArray, List.set_cons_zero, List.set_cons_succ]
  refine wpAnyH_take (i := 14) (oi := ({ dst := some 124, op := Op.call { callee := Callee.value (Operand.func 23), args := #[Operand.tmp 122, Operand.tmp 123], argTypes := #[41, 35] }, type := 4, pos := "laws.go:535", after := #[{ on := 12, ground := Ground.data }, { on := 13, ground := Ground.data }, { on := 11, ground := Ground.chain }, { on := 11, ground := Ground.guard }], guard := some (11, true) } : Oper)) (v := undef) rfl (by kernel_rfl) (by kernel_rfl) (by kernel_rfl) (fun _ _ _ h => h) (Or.inr ⟨by rfl, rfl⟩) (by assumption) ?_
  simp only [Act.put, List.setIfInBounds_toArray, List.set_cons_zero, List.set_cons_succ]
  refine wpAnyH_take (i := 15) (oi := ({ dst := some 125, op := Op.pick (Operand.tmp 121) (Operand.tmp 124) (Operand.const (Value.bool false)), type := 4, pos := "laws.go:535", after := #[{ on := 11, ground := Ground.data }, { on := 14, ground := Ground.data }, { on := 9, ground := Ground.guard }], guard := some (9, false) } : Oper)) (v := undef) rfl (by kernel_rfl) (by kernel_rfl) (by kernel_rfl) (fun _ _ _ h => h) (Or.inr ⟨by rfl, rfl⟩) (by assumption) ?_
  simp only [Act.put, List.setIfInBounds_toArray, List.set_cons_zero, List.set_cons_succ]
  refine wpAnyH_take (i := 16) (oi := ({ dst := some 126, op := Op.move (Operand.tmp 125), type := 4, pos := "laws.go:535", after := #[{ on := 15, ground := Ground.data }, { on := 14, ground := Ground.chain }, { on := 9, ground := Ground.guard }], guard := some (9, false) } : Oper)) (v := undef) rfl (by kernel_rfl) (by kernel_rfl) (by kernel_rfl) (fun _ _ _ h => h) (Or.inr ⟨by rfl, rfl⟩) (by assumption) ?_
  simp only [Act.put, List.setIfInBounds_toArray, List.set_cons_zero, List.set_cons_succ]
  refine wpAnyH_take (i := 17) (oi := ({ dst := some 127, op := Op.fieldAddr 35 (Operand.tmp 12) 5, type := 0, pos := "laws.go:535", after := #[{ on := 16, ground := Ground.guard }], guard := some (16, true) } : Oper)) (v := undef) rfl (by kernel_rfl) (by kernel_rfl) (by kernel_rfl) (fun _ _ _ h => h) (Or.inr ⟨by rfl, rfl⟩) (by assumption) ?_
  simp only [Act.put, List.setIfInBounds_toArray, List.set_cons_zero, List.set_cons_succ]
  refine wpAnyH_take (i := 18) (oi := ({ dst := some 128, op := Op.load 3 (Operand.tmp 127), type := 3, pos := "laws.go:535", after := #[{ on := 17, ground := Ground.data }, { on := 16, ground := Ground.guard }], guard := some (16, true) } : Oper)) (v := undef) rfl (by kernel_rfl) (by kernel_rfl) (by kernel_rfl) (fun _ _ _ h => h) (Or.inr ⟨by rfl, rfl⟩) (by assumption) ?_
  simp only [Act.put, List.setIfInBounds_toArray, List.set_cons_zero, List.set_cons_succ]
  refine wpAnyH_take (i := 19) (oi := ({ dst := some 129, op := Op.binOp BinOp.eql 3 (Operand.tmp 128) (Operand.const (Value.int IntKind.i64 0)) 3, type := 4, pos := "laws.go:535", after := #[{ on := 18, ground := Ground.data }, { on := 16, ground := Ground.guard }], guard := some (16, true) } : Oper)) (v := undef) rfl (by kernel_rfl) (by kernel_rfl) (by kernel_rfl) (fun _ _ _ h => h) (Or.inr ⟨by rfl, rfl⟩) (by assumption) ?_
  simp only [Act.put, List.setIfInBounds_toArray, List.set_cons_zero, List.set_cons_succ]
  refine wpAnyH_take (i := 20) (oi := ({ dst := some 130, op := Op.pick (Operand.tmp 126) (Operand.tmp 129) (Operand.const (Value.bool false)), type := 4, pos := "laws.go:535", after := #[{ on := 16, ground := Ground.data }, { on := 19, ground := Ground.data }, { on := 9, ground := Ground.guard }], guard := some (9, false) } : Oper)) (v := undef) rfl (by kernel_rfl) (by kernel_rfl) (by kernel_rfl) (fun _ _ _ h => h) (Or.inr ⟨by rfl, rfl⟩) (by assumption) ?_
  simp only [Act.put, List.setIfInBounds_toArray, List.set_cons_zero, List.set_cons_succ]
  refine wpAnyH_take (i := 21) (oi := ({ dst := some 131, op := Op.move (Operand.tmp 130), type := 4, pos := "laws.go:535", after := #[{ on := 20, ground := Ground.data }, { on := 16, ground := Ground.chain }, { on := 9, ground := Ground.guard }], guard := some (9, false) } : Oper)) (v := undef) rfl (by kernel_rfl) (by kernel_rfl) (by kernel_rfl) (fun _ _ _ h => h) (Or.inr ⟨by rfl, rfl⟩) (by assumption) ?_
  simp only [Act.put, List.setIfInBounds_toArray, List.set_cons_zero, List.set_cons_succ]
  refine wpAnyH_take (i := 22) (oi := ({ dst := some 132, op := Op.fieldAddr 35 (Operand.tmp 12) 1, type := 0, pos := "laws.go:535", after := #[{ on := 21, ground := Ground.guard }], guard := some (21, true) } : Oper)) (v := undef) rfl (by kernel_rfl) (by kernel_rfl) (by kernel_rfl) (fun _ _ _ h => h) (Or.inr ⟨by rfl, rfl⟩) (by assumption) ?_
  simp only [Act.put, List.setIfInBounds_toArray, List.set_cons_zero, List.set_cons_succ]
  refine wpAnyH_take (i := 23) (oi := ({ dst := some 133, op := Op.load 3 (Operand.tmp 132), type := 3, pos := "laws.go:535", after := #[{ on := 22, ground := Ground.data }, { on := 21, ground := Ground.guard }], guard := some (21, true) } : Oper)) (v := undef) rfl (by kernel_rfl) (by kernel_rfl) (by kernel_rfl) (fun _ _ _ h => h) (Or.inr ⟨by rfl, rfl⟩) (by assumption) ?_
  simp only [Act.put, List.setIfInBounds_toArray, List.set_cons_zero, List.set_cons_succ]
  refine wpAnyH_take (i := 24) (oi := ({ dst := some 134, op := Op.fieldAddr 33 (Operand.tmp 10) 0, type := 0, pos := "laws.go:535", after := #[{ on := 21, ground := Ground.guard }], guard := some (21, true) } : Oper)) (v := undef) rfl (by kernel_rfl) (by kernel_rfl) (by kernel_rfl) (fun _ _ _ h => h) (Or.inr ⟨by rfl, rfl⟩) (by assumption) ?_
  simp only [Act.put, List.setIfInBounds_toArray, List.set_cons_zero, List.set_cons_succ]
  refine wpAnyH_take (i := 25) (oi := ({ dst := some 135, op := Op.load 31 (Operand.tmp 134), type := 31, pos := "laws.go:535", after := #[{ on := 24, ground := Ground.data }, { on := 21, ground := Ground.guard }], guard := some (21, true) } : Oper)) (v := undef) rfl (by kernel_rfl) (by kernel_rfl) (by kernel_rfl) (fun _ _ _ h => h) (Or.inr ⟨by rfl, rfl⟩) (by assumption) ?_
  simp only [Act.put, List.setIfInBounds_toArray, List.set_cons_zero, List.set_cons_succ]
  refine wpAnyH_take (i := 26) (oi := ({ dst := some 136, op := Op.move (Operand.tmp 11), type := 3, pos := "laws.go:535", after := #[{ on := 21, ground := Ground.guard }], guard := some (21, true) } : Oper)) (v := undef) rfl (by kernel_rfl) (by kernel_rfl) (by kernel_rfl) (fun _ _ _ h => h) (Or.inr ⟨by rfl, rfl⟩) (by assumption) ?_
  simp only [Act.put, List.setIfInBounds_toArray, List.set_cons_zero, List.set_cons_succ]
  refine wpAnyH_take (i := 27) (oi := ({ dst := some 137, op := Op.indexAddr 31 (Operand.tmp 135) (Operand.tmp 136), type := 0, pos := "laws.go:535", after := #[{ on := 25, ground := Ground.data }, { on := 26, ground := Ground.data }, { on := 21, ground := Ground.guard }], guard := some (21, true) } : Oper)) (v := undef) rfl (by kernel_rfl) (by kernel_rfl) (by kernel_rfl) (fun _ _ _ h => h) (Or.inr ⟨by rfl, rfl⟩) (by assumption) ?_
  simp only [Act.put, List.setIfInBounds_toArray, List.set_cons_zero, List.set_cons_succ]
  refine wpAnyH_take (i := 28) (oi := ({ dst := some 138, op := Op.fieldAddr 63 (Operand.tmp 137) 1, type := 0, pos := "laws.go:535", after := #[{ on := 27, ground := Ground.data }, { on := 21, ground := Ground.guard }], guard := some (21, true) } : Oper)) (v := undef) rfl (by kernel_rfl) (by kernel_rfl) (by kernel_rfl) (fun _ _ _ h => h) (Or.inr ⟨by rfl, rfl⟩) (by assumption) ?_
  simp only [Act.put, List.setIfInBounds_toArray, List.set_cons_zero, List.set_cons_succ]
  refine wpAnyH_take (i := 29) (oi := ({ dst := some 139, op := Op.load 3 (Operand.tmp 138), type := 3, pos := "laws.go:535", after := #[{ on := 28, ground := Ground.data }, { on := 21, ground := Ground.guard }], guard := some (21, true) } : Oper)) (v := undef) rfl (by kernel_rfl) (by kernel_rfl) (by kernel_rfl) (fun _ _ _ h => h) (Or.inr ⟨by rfl, rfl⟩) (by assumption) ?_
  simp only [Act.put, List.setIfInBounds_toArray, List.set_cons_zero, List.set_cons_succ]
  refine wpAnyH_take (i := 30) (oi := ({ dst := some 140, op := Op.binOp BinOp.quo 3 (Operand.tmp 139) (Operand.const (Value.int IntKind.i64 8)) 3, type := 3, pos := "laws.go:535", after := #[{ on := 29, ground := Ground.data }, { on := 21, ground := Ground.guard }], guard := some (21, true) } : Oper)) (v := undef) rfl (by kernel_rfl) (by kernel_rfl) (by kernel_rfl) (fun _ _ _ h => h) (Or.inr ⟨by rfl, rfl⟩) (by assumption) ?_
  simp only [Act.put, List.setIfInBounds_toArray, List.set_cons_zero, List.set_cons_succ]
  refine wpAnyH_take (i := 31) (oi := ({ dst := some 141, op := Op.binOp BinOp.eql 3 (Operand.tmp 133) (Operand.tmp 140) 3, type := 4, pos := "laws.go:535", after := #[{ on := 23, ground := Ground.data }, { on := 30, ground := Ground.data }, { on := 21, ground := Ground.guard }], guard := some (21, true) } : Oper)) (v := undef) rfl (by kernel_rfl) (by kernel_rfl) (by kernel_rfl) (fun _ _ _ h => h) (Or.inr ⟨by rfl, rfl⟩) (by assumption) ?_
  simp only [Act.put, List.setIfInBounds_toArray, List.set_cons_zero, List.set_cons_succ]
  refine wpAnyH_take (i := 32) (oi := ({ dst := some 142, op := Op.pick (Operand.tmp 131) (Operand.tmp 141) (Operand.const (Value.bool false)), type := 4, pos := "laws.go:535", after := #[{ on := 21, ground := Ground.data }, { on := 31, ground := Ground.data }, { on := 9, ground := Ground.guard }], guard := some (9, false) } : Oper)) (v := undef) rfl (by kernel_rfl) (by kernel_rfl) (by kernel_rfl) (fun _ _ _ h => h) (Or.inr ⟨by rfl, rfl⟩) (by assumption) ?_
  simp only [Act.put, List.setIfInBounds_toArray, List.set_cons_zero, List.set_cons_succ]
  refine wpAnyH_take (i := 33) (oi := ({ dst := some 143, op := Op.pick (Operand.tmp 119) (Operand.const (Value.bool true)) (Operand.tmp 142), type := 4, pos := "laws.go:535", after := #[{ on := 9, ground := Ground.data }, { on := 32, ground := Ground.data }], guard := none } : Oper)) (v := .bool true) rfl (by kernel_rfl) (by kernel_rfl) (by kernel_rfl) (fun _ _ _ h => h) (Or.inl ⟨by rfl, by intro w hSw; go_simp⟩) (by assumption) ?_
  simp only [Act.put, List.setIfInBounds_toArray, List.set_cons_zero, List.set_cons_succ]
  refine wpAnyH_take (i := 34) (oi := ({ dst := some 2, op := Op.assign (Operand.tmp 143), type := 4, pos := "laws.go:535", after := #[{ on := 33, ground := Ground.data }, { on := 21, ground := Ground.chain }, { on := 0, ground := Ground.phase }, { on := 1, ground := Ground.phase }, { on := 2, ground := Ground.phase }, { on := 3, ground := Ground.phase }, { on := 4, ground := Ground.phase }, { on := 5, ground := Ground.phase }, { on := 6, ground := Ground.phase }, { on := 7, ground := Ground.phase }, { on := 8, ground := Ground.phase }, { on := 9, ground := Ground.phase }, { on := 10, ground := Ground.phase }, { on := 11, ground := Ground.phase }, { on := 12, ground := Ground.phase }, { on := 13, ground := Ground.phase }, { on := 14, ground := Ground.phase }, { on := 15, ground := Ground.phase }, { on := 16, ground := Ground.phase }, { on := 17, ground := Ground.phase }, { on := 18, ground := Ground.phase }, { on := 19, ground := Ground.phase }, { on := 20, ground := Ground.phase }, { on := 21, ground := Ground.phase }, { on := 22, ground := Ground.phase }, { on := 23, ground := Ground.phase }, { on := 24, ground := Ground.phase }, { on := 25, ground := Ground.phase }, { on := 26, ground := Ground.phase }, { on := 27, ground := Ground.phase }, { on := 28, ground := Ground.phase }, { on := 29, ground := Ground.phase }, { on := 30, ground := Ground.phase }, { on := 31, ground := Ground.phase }, { on := 32, ground := Ground.phase }, { on := 33, ground := Ground.phase }], guard := none } : Oper)) (v := .bool true) rfl (by kernel_rfl) (by kernel_rfl) (by kernel_rfl) (fun _ _ _ h => h) (Or.inl ⟨by rfl, by intro w hSw; go_simp⟩) (by assumption) ?_
  simp only [Act.put, List.setIfInBounds_toArray, List.set_cons_zero, List.set_cons_succ]
  refine wpAnyH_done (by kernel_rfl) ?_ _
  exact NoPanic.normal <| hQ _ _ _ _ _ _ _ _ _ _ _ _ _ _ _ _ _ _ _ _ _ _ _ _ _ _ _ _ _ _ _ _ _ _ _ ⟨rfl, rfl, rfl, Nat.le_refl _, fun _ _ => rfl⟩
end Go.Proofs.Ytacbhbmjhlgflaa

/-
  The law FnBegun, walked: at every argument it returns true.
-/
namespace Go.Proofs.Ytacbhbmjhlgflaa
open Go.RowKit

set_option maxRecDepth 100000 in
set_option maxHeartbeats 400000 in
theorem fbegun_big (ao : Option Addr) (len cap : Nat) (w : World) (hl : 1048576 < len) (hm : len ≤ 9223372036854775807) :
    Calls Try.prog 4 #[.slice ao len cap] w fun e w' => e = .returned (.bool true) ∧ Below w.heap.size w w' := by
  go_enter Try.func4, Try.ntmps4
  go_wp2_with (go_at_call 18; go_in)
  go_ret
  exact ⟨rfl, Below.refl _ _⟩

set_option maxRecDepth 100000 in
set_option maxHeartbeats 6400000 in
theorem fbegun_small (ao : Option Addr) (cap : Nat) (zs : List Int) (w : World) (R : Row w (.slice ao zs.length cap) zs) (hl : zs.length ≤ 1048576) :
    Calls Try.prog 4 #[.slice ao zs.length cap] w fun e w' => e = .returned (.bool true) ∧ Below w.heap.size w w' := by
  go_enter Try.func4, Try.ntmps4
  go_wp2_with (go_at_call 18; go_in)
  refine (ddn_any _ zs w R hl).mono ?_
  rintro e w1 ⟨v1, v2, v3, ns, is, ds, s, rfl, hS, hs, O1, b1⟩
  obtain ⟨a1, q1, rfl⟩ := own_form O1.1
  obtain ⟨a2, q2, rfl⟩ := own_form O1.2.1
  obtain ⟨a3, q3, rfl⟩ := own_form O1.2.2
  have h1 := hS.l1
  have h2 := hS.l2
  have h3 := hS.l3
  have hBx : Below w1.heap.size w1 (w1.alloc (Obj.cells #[.slice a1 ns.length q1, .slice a2 is.length q2, .slice a3 ds.length q3] 41)) := (Below.refl _ _).alloc (Nat.le_refl _) _
  have hc2 := heap_alloc_new w1 (Obj.cells #[.slice a1 ns.length q1, .slice a2 is.length q2, .slice a3 ds.length q3] 41)
  have O2 := O1.below hBx
  have R1 := NRow.of_own O2.1 (by omega) hS.z1
  have R2 := InRow.of_own O2.2.1 (by omega) hS.z2
  have R3 := DfRow.of_own O2.2.2 (by omega) hS.z3
  have hB2 := b1.trans (hBx.mono b1.size)
  clear O1 O2 b1 hBx
  go_wp2_with fail
  generalize w1.alloc (Obj.cells #[.slice a1 ns.length q1, .slice a2 is.length q2, .slice a3 ds.length q3] 41) = w2 at *
  generalize w1.heap.size = bc at *
  have hlm : (newL (newD ns is ds s)).length ≤ 2 := by cases newD ns is ds s <;> simp [newL]
  refine (imachnew_any _ _ _ ns is ds s _ R1 R2 R3).mono ?_
  rintro e w3 ⟨v4, rfl, ho3, hb3⟩
  obtain ⟨a4, q4, rfl⟩ := own_form ho3
  have hc3 := (hb3.block _ (Array.getElem?_eq_some_iff.1 hc2).1).trans hc2
  replace R1 := R1.below hb3
  replace R2 := R2.below hb3
  replace R3 := R3.below hb3
  have hB3 := hB2.trans (hb3.mono hB2.size)
  clear hB2 hb3 hc2
  go_wp2_with (refine wpList_store_own rfl 35 _ _ rfl w3.heap.size #[.slice a4 (newL (newD ns is ds s)).length q4, .int .i64 (newM (newD ns is ds s)).p, .int .i64 (newM (newD ns is ds s)).s, .int .i64 (newM (newD ns is ds s)).e, .int .i64 (newM (newD ns is ds s)).d, .int .i64 (newM (newD ns is ds s)).t, .int .i64 (newM (newD ns is ds s)).q, .int .i64 (newM (newD ns is ds s)).r] rfl rfl 35 _ (heap_alloc_new _ _) Try.sizeMach rfl (by simp [Value.oneCell']) ?_)
  intro w4 hnw4 hbw4 hsw4
  have hd4 : Below w3.heap.size w3 w4 := ((Below.refl _ _).alloc (Nat.le_refl _) _).trans hbw4
  have VM := VarM.new ho3 hd4 hnw4
  have hc4 := (hd4.block _ (Array.getElem?_eq_some_iff.1 hc3).1).trans hc3
  replace R1 := R1.below hd4
  replace R2 := R2.below hd4
  replace R3 := R3.below hd4
  have hB4 := hB3.trans (hd4.mono hB3.size)
  clear hB3 hc3 ho3 hnw4 hbw4 hsw4 hd4
  generalize w3.heap.size = bm at *
  obtain ⟨y0, y1, y2, _, _, _⟩ := cells3 hc4
  go_wp2_with fail
  refine (smachnew_any _ _ _ ns is ds s _ R1 R2 R3).mono ?_
  rintro e w5 ⟨v5, rfl, ho5, hb5⟩
  obtain ⟨a5, q5, rfl⟩ := own_form ho5
  have hc5 := (hb5.block _ (Array.getElem?_eq_some_iff.1 hc4).1).trans hc4
  replace R1 := R1.below hb5
  replace R2 := R2.below hb5
  replace R3 := R3.below hb5
  replace VM := VM.below hb5
  have hB5 := hB4.trans (hb5.mono hB4.size)
  clear hB4 hb5 hc4 y0 y1 y2
  go_wp2_with (refine wpList_store_own rfl 35 _ _ rfl w5.heap.size #[.slice a5 (newL (newD ns is ds s)).length q5, .int .i64 (newM (newD ns is ds s)).p, .int .i64 (newM (newD ns is ds s)).s, .int .i64 (newM (newD ns is ds s)).e, .int .i64 (newM (newD ns is ds s)).d, .int .i64 (newM (newD ns is ds s)).t, .int .i64 (newM (newD ns is ds s)).q, .int .i64 (newM (newD ns is ds s)).r] rfl rfl 35 _ (heap_alloc_new _ _) Try.sizeMach rfl (by simp [Value.oneCell']) ?_)
  intro w6 hnw6 hbw6 hsw6
  have hd6 : Below w5.heap.size w5 w6 := ((Below.refl _ _).alloc (Nat.le_refl _) _).trans hbw6
  have hc6 := (hd6.block _ (Array.getElem?_eq_some_iff.1 hc5).1).trans hc5
  replace R1 := R1.below hd6
  replace R2 := R2.below hd6
  replace R3 := R3.below hd6
  replace VM := VM.below hd6
  have hB6 := hB5.trans (hd6.mono hB5.size)
  clear hB5 hc5 ho5 hnw6 hbw6 hsw6 hd6
  go_wp2_with fail
  refine (dmachof_any _ zs w6 (R.below hB6) hl).mono ?_
  rintro e w7 ⟨v1', v2', v3', vp, xns, xis, xds, xs, f, rfl, hX, hxl, hxz, OX, hop, hb7⟩
  obtain ⟨xa1, xq1, rfl⟩ := own_form OX.1
  obtain ⟨xa2, xq2, rfl⟩ := own_form OX.2.1
  obtain ⟨xa3, xq3, rfl⟩ := own_form OX.2.2
  obtain ⟨ap, qp, rfl⟩ := own_form hop
  have x1 := hX.l1
  have x2 := hX.l2
  have x3 := hX.l3
  obtain ⟨hBy, hx8, hp8⟩ := two_boxes w7 (Obj.cells #[.slice xa1 xns.length xq1, .slice xa2 xis.length xq2, .slice xa3 xds.length xq3] 41) (Obj.cells #[.slice ap xs.length qp] 33)
  have hb78 := hb7.trans (hBy.mono hb7.size)
  have hc8 := (hb78.block _ (Array.getElem?_eq_some_iff.1 hc6).1).trans hc6
  replace R1 := R1.below hb78
  replace R2 := R2.below hb78
  replace R3 := R3.below hb78
  replace VM := VM.below hb78
  have X1 := NRow.of_own (own_below OX.1 hBy) (by omega) hX.z1
  have X2 := InRow.of_own (own_below OX.2.1 hBy) (by omega) hX.z2
  have X3 := DfRow.of_own (own_below OX.2.2 hBy) (by omega) hX.z3
  have XP := NRow.of_own (own_below hop hBy) (by omega) hxz
  have hB8 := hB6.trans (hb78.mono hB6.size)
  clear hB6 hc6 OX hop hb7 hb78 hBy
  go_wp2_with fail
  generalize (w7.alloc (Obj.cells #[.slice xa1 xns.length xq1, .slice xa2 xis.length xq2, .slice xa3 xds.length xq3] 41)).alloc (Obj.cells #[.slice ap xs.length qp] 33) = w8 at *
  generalize w7.heap.size = bx at *
  refine (imachof_any _ _ _ _ xns xis xds xs f _ X1 X2 X3 XP).mono ?_
  rintro e w9 ⟨v9, rfl, ho9, hb9⟩
  obtain ⟨a9, q9, rfl⟩ := own_form ho9
  have hc9 := (hb9.block _ (Array.getElem?_eq_some_iff.1 hc8).1).trans hc8
  have hx9 := (hb9.block _ (Array.getElem?_eq_some_iff.1 hx8).1).trans hx8
  have hp9 := (hb9.block _ (Array.getElem?_eq_some_iff.1 hp8).1).trans hp8
  replace R1 := R1.below hb9
  replace R2 := R2.below hb9
  replace R3 := R3.below hb9
  replace X1 := X1.below hb9
  replace X2 := X2.below hb9
  replace X3 := X3.below hb9
  replace XP := XP.below hb9
  replace VM := VM.below hb9
  have hB9 := hB8.trans (hb9.mono hB8.size)
  clear hB8 hc8 hx8 hp8 hb9
  go_wp2_with (refine wpList_store_own rfl 35 _ _ rfl w9.heap.size #[.slice a9 (ofL xs (ofD xns xis xds xs f)).length q9, .int .i64 (ofM xs (ofD xns xis xds xs f)).p, .int .i64 (ofM xs (ofD xns xis xds xs f)).s, .int .i64 (ofM xs (ofD xns xis xds xs f)).e, .int .i64 (ofM xs (ofD xns xis xds xs f)).d, .int .i64 (ofM xs (ofD xns xis xds xs f)).t, .int .i64 (ofM xs (ofD xns xis xds xs f)).q, .int .i64 (ofM xs (ofD xns xis xds xs f)).r] rfl rfl 35 _ (heap_alloc_new _ _) Try.sizeMach rfl (by simp [Value.oneCell']) ?_)
  intro wa hnwa hbwa hswa
  have hda : Below w9.heap.size w9 wa := ((Below.refl _ _).alloc (Nat.le_refl _) _).trans hbwa
  have VN := VarM.new ho9 hda hnwa
  have hca := (hda.block _ (Array.getElem?_eq_some_iff.1 hc9).1).trans hc9
  have hxa := (hda.block _ (Array.getElem?_eq_some_iff.1 hx9).1).trans hx9
  have hpa := (hda.block _ (Array.getElem?_eq_some_iff.1 hp9).1).trans hp9
  replace R1 := R1.below hda
  replace R2 := R2.below hda
  replace R3 := R3.below hda
  replace X1 := X1.below hda
  replace X2 := X2.below hda
  replace X3 := X3.below hda
  replace XP := XP.below hda
  replace VM := VM.below hda
  have hBa := hB9.trans (hda.mono hB9.size)
  clear hB9 hc9 hx9 hp9 ho9 hnwa hbwa hswa hda
  generalize w9.heap.size = bn at *
  obtain ⟨y0, y1, y2, _, _, _⟩ := cells3 hxa
  have yp : wa.cell? ⟨bx + 1, 0, none⟩ = some (.slice ap xs.length qp) := cell_of_row _ _ 0 _ _ _ hpa
  go_wp2_with fail
  refine (smachof_any _ _ _ _ xns xis xds xs f _ X1 X2 X3 XP).mono ?_
  rintro e wb ⟨vb, rfl, hob, hbb⟩
  obtain ⟨ab, qb, rfl⟩ := own_form hob
  have hcb := (hbb.block _ (Array.getElem?_eq_some_iff.1 hca).1).trans hca
  have hxb := (hbb.block _ (Array.getElem?_eq_some_iff.1 hxa).1).trans hxa
  have hpb := (hbb.block _ (Array.getElem?_eq_some_iff.1 hpa).1).trans hpa
  replace R1 := R1.below hbb
  replace R2 := R2.below hbb
  replace R3 := R3.below hbb
  replace X1 := X1.below hbb
  replace X2 := X2.below hbb
  replace X3 := X3.below hbb
  replace XP := XP.below hbb
  replace VM := VM.below hbb
  replace VN := VN.below hbb
  have hBb := hBa.trans (hbb.mono hBa.size)
  clear hBa hca hxa hpa hbb y0 y1 y2 yp
  go_wp2_with (refine wpList_store_own rfl 35 _ _ rfl wb.heap.size #[.slice ab (ofL xs (ofD xns xis xds xs f)).length qb, .int .i64 (ofM xs (ofD xns xis xds xs f)).p, .int .i64 (ofM xs (ofD xns xis xds xs f)).s, .int .i64 (ofM xs (ofD xns xis xds xs f)).e, .int .i64 (ofM xs (ofD xns xis xds xs f)).d, .int .i64 (ofM xs (ofD xns xis xds xs f)).t, .int .i64 (ofM xs (ofD xns xis xds xs f)).q, .int .i64 (ofM xs (ofD xns xis xds xs f)).r] rfl rfl 35 _ (heap_alloc_new _ _) Try.sizeMach rfl (by simp [Value.oneCell']) ?_)
  intro wc hnwc hbwc hswc
  have hdc : Below wb.heap.size wb wc := ((Below.refl _ _).alloc (Nat.le_refl _) _).trans hbwc
  have hcc := (hdc.block _ (Array.getElem?_eq_some_iff.1 hcb).1).trans hcb
  have hxc := (hdc.block _ (Array.getElem?_eq_some_iff.1 hxb).1).trans hxb
  have hpc := (hdc.block _ (Array.getElem?_eq_some_iff.1 hpb).1).trans hpb
  replace R1 := R1.below hdc
  replace R2 := R2.below hdc
  replace R3 := R3.below hdc
  replace X1 := X1.below hdc
  replace X2 := X2.below hdc
  replace X3 := X3.below hdc
  replace XP := XP.below hdc
  replace VM := VM.below hdc
  replace VN := VN.below hdc
  have hBc := hBb.trans (hdc.mono hBb.size)
  clear hBb hcb hxb hpb hob hnwc hbwc hswc hdc R
  have hLz : ∀ y ∈ ofL xs (ofD xns xis xds xs f), y.s.size ≤ maxLen := by
    intro y hy
    cases hod : ofD xns xis xds xs f with
    | none => rw [hod] at hy; simp [ofL] at hy
    | some x =>
      rw [hod] at hy
      simp only [ofL, List.mem_append, List.mem_singleton] at hy
      rcases hy with (hy | rfl) | rfl
      · exact hxz y hy
      · exact Nat.zero_le _
      · exact Nat.zero_le _
  generalize hND : newD ns is ds s = nd at *
  generalize hOD : ofD xns xis xds xs f = od at *
  cases nd with
  | none =>
    go_wp2_with fail
    refine beg_reg11n bc bm wc _ ?_
    intro u63 u64 u65 u66 u67 u68 u69 u70 u71 u72 u73 u74 u75 u76 u77 u78 u79 u80 u81 u82 u83 u84 u85 u86 u87 u88 u89 u90 u91 u92 u93 u94 u95 u96 u97 u98 u99 u100 u101 u102 u103 u104 u105 u106 u107 u108 wy hb
    have hBy := hBc.trans (hb.mono hBc.size)
    have VY := VN.below hb
    have Y1 := X1.below hb
    have Y2 := X2.below hb
    have Y3 := X3.below hb
    have YP := XP.below hb
    have hxy := (hb.block _ (Array.getElem?_eq_some_iff.1 hxc).1).trans hxc
    have hpy := (hb.block _ (Array.getElem?_eq_some_iff.1 hpc).1).trans hpc
    clear hBc VN X1 X2 X3 XP hxc hpc hb VM R1 R2 R3 hcc
    cases od with
    | none =>
      go_wp2_with fail
      refine beg_reg13n bn a9 q9 wy _ (cell_of_row _ _ 0 _ _ _ VY.1) ?_
      intro r110 r111 r112 r113 r114 r115 r116 r117 r118 r119 r120 r121 r122 r123 r124 r125 r126 r127 r128 r129 r130 r131 r132 r133 r134 r135 r136 r137 r138 r139 r140 r141 r142 r143 wz hz
      have hBz := hBy.trans (hz.mono hBy.size)
      go_wp2
      go_ret
      exact ⟨rfl, hBz⟩
    | some x =>
      obtain ⟨hm, hf0, hf1, hxx, hn1, hn2⟩ := of_good hOD
      obtain ⟨fk, rfl⟩ := Int.eq_ofNat_of_zero_le hf0
      have hfk : fk < xs.length := by omega
      rw [Int.toNat_natCast] at hxx
      obtain ⟨aoP, capP, eP, _, _, _, hcP⟩ := YP
      obtain ⟨gp, op, rfl, hgp, hcP⟩ := hcP (by intro e; subst e; simp at hfk)
      obtain ⟨rfl, rfl⟩ : ap = some ⟨gp, op, none⟩ ∧ qp = capP := by cases eP; exact ⟨rfl, rfl⟩
      obtain ⟨_, nd1, _, _, _⟩ := hcP fk x hxx
      have YL := VY.row (by simp [ofL]; omega) hLz
      go_wp2_with fail
      refine beg_reg13 bx (bx + 1) bn gp op qp fk q9 xs.length ((xs.length + 1 : Nat) : Int) xa1 xa2 xa3 a9 xq1 xq2 xq3 xns xis xds xs (ofL xs (some x)) x wy _ Y1 Y2 Y3 YL hm hfk hn1 hn2 ⟨cell_of_row _ _ 0 _ _ _ hxy, cell_of_row _ _ 1 _ _ _ hxy, cell_of_row _ _ 2 _ _ _ hxy, cell_of_row _ _ 0 _ _ _ VY.1, cell_of_row _ _ 1 _ _ _ VY.1, cell_of_row _ _ 2 _ _ _ VY.1, cell_of_row _ _ 3 _ _ _ VY.1, cell_of_row _ _ 4 _ _ _ VY.1, cell_of_row _ _ 5 _ _ _ VY.1, cell_of_row _ _ 6 _ _ _ VY.1, cell_of_row _ _ 7 _ _ _ VY.1, cell_of_row _ _ 0 _ _ _ hpy, nd1⟩ (Array.getElem?_eq_some_iff.1 hxy).1 VY.lt (Array.getElem?_eq_some_iff.1 hpy).1 hgp ?_
      intro r110 r111 r112 r113 r114 r115 r116 r117 r118 r119 r120 r121 r122 r123 r124 r125 r126 r127 r128 r129 r130 r131 r132 r133 r134 r135 r136 r137 r138 r139 r140 r141 r142 r143 wz hz
      have hBz := hBy.trans (hz.mono hBy.size)
      go_wp2
      go_ret
      exact ⟨rfl, hBz⟩
  | some d =>
    obtain ⟨hm1, hk0, hkd⟩ := new_good hND
    obtain ⟨k, hk⟩ := Int.eq_ofNat_of_zero_le hk0
    rw [hk, Int.toNat_natCast] at hkd
    have hkl : k < ds.length := (List.getElem?_eq_some_iff.1 hkd).1
    have R3' := R3
    obtain ⟨ao3, cap3, e3, _, _, _, hc3⟩ := R3'
    obtain ⟨g3, o3, rfl, hg3, hc3⟩ := hc3 (by intro e; subst e; simp at hkl)
    obtain ⟨rfl, rfl⟩ : a3 = some ⟨g3, o3, none⟩ ∧ q3 = cap3 := by cases e3; exact ⟨rfl, rfl⟩
    obtain ⟨_, dd1, _⟩ := hc3 k d hkd
    have RM := VM.row (by simp [newL]) (by intro y hy; simp only [newL, List.mem_cons, List.not_mem_nil, or_false] at hy; rcases hy with rfl | rfl <;> exact Nat.zero_le _)
    have RM' := RM
    obtain ⟨aoN, capN, eN, _, _, _, hcN⟩ := RM'
    obtain ⟨gN, oN, rfl, hgN, hcN⟩ := hcN (by simp [newL])
    obtain ⟨rfl, rfl⟩ : a4 = some ⟨gN, oN, none⟩ ∧ q4 = capN := by cases eN; exact ⟨rfl, rfl⟩
    obtain ⟨nk, _, _, _, _⟩ := hcN 0 _ rfl
    rw [Nat.zero_mul, Nat.add_zero] at nk
    go_wp2_with fail
    refine beg_reg11 bc bm g3 o3 gN oN q4 k a1 a2 q1 q2 q3 ns is ds s d wc _ R1 R2 R3 RM hm1 hk hkl ⟨cell_of_row _ _ 0 _ _ _ hcc, cell_of_row _ _ 1 _ _ _ hcc, cell_of_row _ _ 2 _ _ _ hcc, cell_of_row _ _ 0 _ _ _ VM.1, cell_of_row _ _ 1 _ _ _ VM.1, cell_of_row _ _ 2 _ _ _ VM.1, cell_of_row _ _ 3 _ _ _ VM.1, cell_of_row _ _ 4 _ _ _ VM.1, cell_of_row _ _ 5 _ _ _ VM.1, cell_of_row _ _ 6 _ _ _ VM.1, cell_of_row _ _ 7 _ _ _ VM.1, dd1, nk⟩ (Array.getElem?_eq_some_iff.1 hcc).1 VM.lt hg3 hgN ?_
    intro u63 u64 u65 u66 u67 u68 u69 u70 u71 u72 u73 u74 u75 u76 u77 u78 u79 u80 u81 u82 u83 u84 u85 u86 u87 u88 u89 u90 u91 u92 u93 u94 u95 u96 u97 u98 u99 u100 u101 u102 u103 u104 u105 u106 u107 u108 wy hb
    have hBy := hBc.trans (hb.mono hBc.size)
    have VY := VN.below hb
    have Y1 := X1.below hb
    have Y2 := X2.below hb
    have Y3 := X3.below hb
    have YP := XP.below hb
    have hxy := (hb.block _ (Array.getElem?_eq_some_iff.1 hxc).1).trans hxc
    have hpy := (hb.block _ (Array.getElem?_eq_some_iff.1 hpc).1).trans hpc
    clear hBc VN X1 X2 X3 XP hxc hpc hb VM R1 R2 R3 hcc
    cases od with
    | none =>
      go_wp2_with fail
      refine beg_reg13n bn a9 q9 wy _ (cell_of_row _ _ 0 _ _ _ VY.1) ?_
      intro r110 r111 r112 r113 r114 r115 r116 r117 r118 r119 r120 r121 r122 r123 r124 r125 r126 r127 r128 r129 r130 r131 r132 r133 r134 r135 r136 r137 r138 r139 r140 r141 r142 r143 wz hz
      have hBz := hBy.trans (hz.mono hBy.size)
      go_wp2
      go_ret
      exact ⟨rfl, hBz⟩
    | some x =>
      obtain ⟨hm, hf0, hf1, hxx, hn1, hn2⟩ := of_good hOD
      obtain ⟨fk, rfl⟩ := Int.eq_ofNat_of_zero_le hf0
      have hfk : fk < xs.length := by omega
      rw [Int.toNat_natCast] at hxx
      obtain ⟨aoP, capP, eP, _, _, _, hcP⟩ := YP
      obtain ⟨gp, op, rfl, hgp, hcP⟩ := hcP (by intro e; subst e; simp at hfk)
      obtain ⟨rfl, rfl⟩ : ap = some ⟨gp, op, none⟩ ∧ qp = capP := by cases eP; exact ⟨rfl, rfl⟩
      obtain ⟨_, nd1, _, _, _⟩ := hcP fk x hxx
      have YL := VY.row (by simp [ofL]; omega) hLz
      go_wp2_with fail
      refine beg_reg13 bx (bx + 1) bn gp op qp fk q9 xs.length ((xs.length + 1 : Nat) : Int) xa1 xa2 xa3 a9 xq1 xq2 xq3 xns xis xds xs (ofL xs (some x)) x wy _ Y1 Y2 Y3 YL hm hfk hn1 hn2 ⟨cell_of_row _ _ 0 _ _ _ hxy, cell_of_row _ _ 1 _ _ _ hxy, cell_of_row _ _ 2 _ _ _ hxy, cell_of_row _ _ 0 _ _ _ VY.1, cell_of_row _ _ 1 _ _ _ VY.1, cell_of_row _ _ 2 _ _ _ VY.1, cell_of_row _ _ 3 _ _ _ VY.1, cell_of_row _ _ 4 _ _ _ VY.1, cell_of_row _ _ 5 _ _ _ VY.1, cell_of_row _ _ 6 _ _ _ VY.1, cell_of_row _ _ 7 _ _ _ VY.1, cell_of_row _ _ 0 _ _ _ hpy, nd1⟩ (Array.getElem?_eq_some_iff.1 hxy).1 VY.lt (Array.getElem?_eq_some_iff.1 hpy).1 hgp ?_
      intro r110 r111 r112 r113 r114 r115 r116 r117 r118 r119 r120 r121 r122 r123 r124 r125 r126 r127 r128 r129 r130 r131 r132 r133 r134 r135 r136 r137 r138 r139 r140 r141 r142 r143 wz hz
      have hBz := hBy.trans (hz.mono hBy.size)
      go_wp2
      go_ret
      exact ⟨rfl, hBz⟩
end Go.Proofs.Ytacbhbmjhlgflaa

/-
  What a slice of bytes that came in reads as. Nothing of the program; no condition.
-/
namespace Go.Proofs.Ytacbhbmjhlgflaa
open Go.ChangeShapes Go.WideShapes Go.ChangeAt Go.RowKit

theorem ownKnob_none : ownKnob Try.prog.godebug = none := by kernel_rfl
theorem laidOut_true : laidOutB Try.prog = true := by kernel_rfl

/-- A slice of integers that came in: nil, or a row of 'cap' cells, the numbers zs, the first 'len' its elements. -/
def IsRow (k : IntKind) (w : World) (a : Option Addr) (len cap : Nat) (zs : List Int) : Prop :=
  (a = none ∧ len = 0 ∧ cap = 0 ∧ zs = []) ∨
  ∃ x, a = some x ∧ len ≤ cap ∧ cap ≤ maxLen ∧ zs.length = cap ∧ (∀ i, i < zs.length → w.cell? (x.add i) = some (.int k (zs.getD i 0))) ∧ ∀ n ∈ zs, (Lit.int k n).wf = true

theorem IsRow.len {w : World} {a : Option Addr} {len cap : Nat} {zs : List Int} (h : IsRow .u8 w a len cap zs) : len ≤ 9223372036854775807 ∧ (zs.take len).length = len := by
  rcases h with ⟨rfl, rfl, rfl, rfl⟩ | ⟨x, rfl, hl, hm, hz, _⟩
  · simp
  · unfold maxLen at hm
    simp only [List.length_take]
    omega

theorem IsRow.row {w : World} {a : Option Addr} {len cap : Nat} {zs : List Int} (h : IsRow .u8 w a len cap zs) (hm : len ≤ 140737488351232) : Row w (.slice a (zs.take len).length cap) (zs.take len) := by
  have hlen := h.len.2
  rcases h with ⟨rfl, rfl, rfl, rfl⟩ | ⟨x, rfl, hl, _, hz, hcell, hwf⟩
  · exact ⟨none, 0, rfl, by simp, by simp, by simp, fun h => absurd rfl h⟩
  · refine ⟨some x, cap, rfl, by omega, by omega, fun z hz' => bounds_u8 (hwf z (List.mem_of_mem_take hz')), fun hne => ?_⟩
    have hpos : 0 < len := by
      rcases Nat.eq_zero_or_pos len with h0 | h0
      · subst h0; simp at hne
      · exact h0
    obtain ⟨b, off, spot⟩ := x
    have hc := hcell 0 (by omega)
    have hspot : spot = none := by simpa [Addr.add] using World.cell?_spot hc
    subst hspot
    have hb := World.block_lt_of_cell? _ _ hc
    refine ⟨b, off, rfl, by simpa [Addr.add_lit] using hb, fun i hi => ?_⟩
    have hc := hcell i (by omega)
    rw [Addr.add_lit] at hc
    rw [hc]
    simp only [List.getD_eq_getElem?_getD, List.getElem?_take]
    rw [if_pos (by omega)]

end Go.Proofs.Ytacbhbmjhlgflaa
