/-
  Texts that stood by themselves, laid into one.
-/
import Derived.Test.YtfmafkebddojjaaGreatDoorSR8M
import Derived.Test.YtfmafkebddojjaaGreatDoorSubM
import Derived.Deep.RegionHeld3
import Derived.Test.YtfmafkebddojjaaGreatDoorMcTM
/-
  The last region of spec.l8Read, which draws its order, alone, by what is right so far. No condition.
-/
namespace Go.Proofs.YtfmafkebddojjaaGreatDoor
open Go.RowKit
set_option maxRecDepth 100000 in
set_option maxHeartbeats 6400000 in
theorem Zck {t1 t2 t4 t5 t6 t7 t8 t9 t10 t11 t12 t13 t14 t15 t16 t17 t18 t19 t20 t21 t22 t23 t24 t25 t26 t27 t28 t29 t30 t31 t32 t33 t34 t35 t36 t37 t38 t39 t40 t41 t42 t43 t44 t45 t46 t47 t48 t49 t50 t51 t52 t53 t54 t55 t56 t57 t58 t59 t60 t61 t62 t63 t64 t65 t66 t67 t68 t69 t70 t71 t72 t73 t74 t75 t76 t77 t78 t79 t80 t81 t82 t83 t84 t85 t86 t87 t88 t89 t90 t91 t92 t93 t94 t95 t96 t97 t98 t99 t100 t101 t102 t103 t104 t105 t106 t107 t108 t109 t110 t111 t112 t113 t114 t115 t116 t117 t118 t119 t120 t121 t122 t123 t124 t125 t126 t127 t128 : Value} {fs : List Deferred} (C Pb n cap m cv : Nat) (ao av : Option Addr) (at_ : Int) (w : World) (Q : Exit -> Act -> World -> Prop) (hne : C ≠ Pb) (hC : w.heap[C]? = some (.cells #[.slice ao n cap, .int .i64 at_, .bool false] 197 (0, 0))) (hP : w.heap[Pb]? = some (.cells #[.slice av m cv] 40 (0, 0)))
  (hQ : ∀ u105 u106 u107 u108 u109 u110 u111 u112 u113 u114 u115 u116 u117 u118 u119 u120 u121 u122 u123 u124 u125 u126 u127 (W : World), Below w.heap.size w W -> W.heap[C]? = some (.cells #[.slice ao n cap, .int .i64 at_, .bool false] 197 (0, 0)) -> Q .normal ⟨#[.pointer (some ⟨C, 0, none⟩), t1, t2, .pointer (some ⟨Pb, 0, none⟩), t4, t5, t6, t7, t8, t9, t10, t11, t12, t13, t14, t15, t16, t17, t18, t19, t20, t21, t22, t23, t24, t25, t26, t27, t28, t29, t30, t31, t32, t33, t34, t35, t36, t37, t38, t39, t40, t41, t42, t43, t44, t45, t46, t47, t48, t49, t50, t51, t52, t53, t54, t55, t56, t57, t58, t59, t60, t61, t62, t63, t64, t65, t66, t67, t68, t69, t70, t71, t72, t73, t74, t75, t76, t77, t78, t79, t80, t81, t82, t83, t84, t85, t86, t87, t88, t89, t90, t91, t92, t93, t94, t95, t96, t97, t98, t99, t100, t101, t102, t103, t104, u105, u106, u107, u108, u109, u110, u111, u112, u113, u114, u115, u116, u117, u118, u119, u120, u121, u122, u123, u124, u125, u126, u127, t128], fs⟩ (W.setCell ⟨C, 2, none⟩ (.bool false))) :
  (Code.region 30 (List.toArray (⟨some 105, .move (.tmp 0), 195, "l08_wire.go:84", #[], none⟩ :: ⟨some 106, .move (.tmp 0), 195, "l08_wire.go:84", #[], none⟩ :: ⟨some 107, .nilCheck (.tmp 106), 0, "l08_wire.go:84", #[⟨1, .data⟩], none⟩ :: ⟨some 108, .fieldAddr 197 (.tmp 107) 2, 0, "l08_wire.go:84", #[⟨2, .data⟩], none⟩ :: ⟨some 109, .load 4 (.tmp 108), 4, "l08_wire.go:84", #[⟨3, .data⟩], none⟩ :: ⟨some 110, .move (.tmp 109), 4, "l08_wire.go:84", #[⟨4, .data⟩], none⟩ :: ⟨some 111, .move (.tmp 0), 195, "l08_wire.go:84", #[⟨5, .guard⟩], some (5, true)⟩ :: ⟨some 112, .nilCheck (.tmp 111), 0, "l08_wire.go:84", #[⟨6, .data⟩, ⟨5, .guard⟩], some (5, true)⟩ :: ⟨some 113, .fieldAddr 197 (.tmp 112) 1, 0, "l08_wire.go:84", #[⟨7, .data⟩, ⟨5, .guard⟩], some (5, true)⟩ :: ⟨some 114, .load 3 (.tmp 113), 3, "l08_wire.go:84", #[⟨8, .data⟩, ⟨5, .guard⟩], some (5, true)⟩ :: ⟨some 115, .move (.tmp 0), 195, "l08_wire.go:84", #[⟨5, .guard⟩], some (5, true)⟩ :: ⟨some 116, .nilCheck (.tmp 115), 0, "l08_wire.go:84", #[⟨10, .data⟩, ⟨5, .guard⟩], some (5, true)⟩ :: ⟨some 117, .fieldAddr 197 (.tmp 116) 0, 0, "l08_wire.go:84", #[⟨11, .data⟩, ⟨5, .guard⟩], some (5, true)⟩ :: ⟨some 118, .load 162 (.tmp 117), 162, "l08_wire.go:84", #[⟨12, .data⟩, ⟨5, .guard⟩], some (5, true)⟩ :: ⟨some 119, .call { callee := .builtin .len, args := #[.tmp 118], argTypes := #[162] }, 3, "l08_wire.go:84", #[⟨13, .data⟩, ⟨5, .guard⟩], some (5, true)⟩ :: ⟨some 120, .binOp .eql 3 (.tmp 114) (.tmp 119) 3, 4, "l08_wire.go:84", #[⟨9, .data⟩, ⟨14, .data⟩, ⟨5, .guard⟩], some (5, true)⟩ :: ⟨some 121, .pick (.tmp 110) (.tmp 120) (.const (.bool false)), 4, "l08_wire.go:84", #[⟨5, .data⟩, ⟨15, .data⟩], none⟩ :: ⟨some 122, .move (.tmp 121), 4, "l08_wire.go:84", #[⟨16, .data⟩, ⟨5, .chain⟩], none⟩ :: ⟨some 123, .load 40 (.tmp 3), 40, "l08_wire.go:84", #[⟨17, .guard⟩], some (17, true)⟩ :: ⟨some 124, .call { callee := .value (.func 125), args := #[.tmp 123], argTypes := #[40] }, 4, "l08_wire.go:84", #[⟨18, .data⟩, ⟨17, .chain⟩, ⟨17, .guard⟩], some (17, true)⟩ :: ⟨some 125, .pick (.tmp 122) (.tmp 124) (.const (.bool false)), 4, "l08_wire.go:84", #[⟨17, .data⟩, ⟨19, .data⟩], none⟩ :: ⟨some 126, .nilCheck (.tmp 105), 0, "l08_wire.go:84", #[⟨0, .data⟩, ⟨0, .phase⟩, ⟨1, .phase⟩, ⟨2, .phase⟩, ⟨3, .phase⟩, ⟨4, .phase⟩, ⟨5, .phase⟩, ⟨6, .phase⟩, ⟨7, .phase⟩, ⟨8, .phase⟩, ⟨9, .phase⟩, ⟨10, .phase⟩, ⟨11, .phase⟩, ⟨12, .phase⟩, ⟨13, .phase⟩, ⟨14, .phase⟩, ⟨15, .phase⟩, ⟨16, .phase⟩, ⟨17, .phase⟩, ⟨18, .phase⟩, ⟨19, .phase⟩, ⟨20, .phase⟩], none⟩ :: ⟨some 127, .fieldAddr 197 (.tmp 126) 2, 0, "l08_wire.go:84", #[⟨21, .data⟩, ⟨0, .phase⟩, ⟨1, .phase⟩, ⟨2, .phase⟩, ⟨3, .phase⟩, ⟨4, .phase⟩, ⟨5, .phase⟩, ⟨6, .phase⟩, ⟨7, .phase⟩, ⟨8, .phase⟩, ⟨9, .phase⟩, ⟨10, .phase⟩, ⟨11, .phase⟩, ⟨12, .phase⟩, ⟨13, .phase⟩, ⟨14, .phase⟩, ⟨15, .phase⟩, ⟨16, .phase⟩, ⟨17, .phase⟩, ⟨18, .phase⟩, ⟨19, .phase⟩, ⟨20, .phase⟩], none⟩ :: ⟨none, .store 4 (.tmp 127) (.tmp 125), 0, "l08_wire.go:84", #[⟨22, .data⟩, ⟨20, .data⟩, ⟨19, .chain⟩, ⟨0, .phase⟩, ⟨1, .phase⟩, ⟨2, .phase⟩, ⟨3, .phase⟩, ⟨4, .phase⟩, ⟨5, .phase⟩, ⟨6, .phase⟩, ⟨7, .phase⟩, ⟨8, .phase⟩, ⟨9, .phase⟩, ⟨10, .phase⟩, ⟨11, .phase⟩, ⟨12, .phase⟩, ⟨13, .phase⟩, ⟨14, .phase⟩, ⟨15, .phase⟩, ⟨16, .phase⟩, ⟨17, .phase⟩, ⟨18, .phase⟩, ⟨19, .phase⟩, ⟨20, .phase⟩], none⟩ :: [])) true).wp Tryz.prog Q ⟨#[.pointer (some ⟨C, 0, none⟩), t1, t2, .pointer (some ⟨Pb, 0, none⟩), t4, t5, t6, t7, t8, t9, t10, t11, t12, t13, t14, t15, t16, t17, t18, t19, t20, t21, t22, t23, t24, t25, t26, t27, t28, t29, t30, t31, t32, t33, t34, t35, t36, t37, t38, t39, t40, t41, t42, t43, t44, t45, t46, t47, t48, t49, t50, t51, t52, t53, t54, t55, t56, t57, t58, t59, t60, t61, t62, t63, t64, t65, t66, t67, t68, t69, t70, t71, t72, t73, t74, t75, t76, t77, t78, t79, t80, t81, t82, t83, t84, t85, t86, t87, t88, t89, t90, t91, t92, t93, t94, t95, t96, t97, t98, t99, t100, t101, t102, t103, t104, t105, t106, t107, t108, t109, t110, t111, t112, t113, t114, t115, t116, t117, t118, t119, t120, t121, t122, t123, t124, t125, t126, t127, t128], fs⟩ w := by
 have lC := (bl hC)
 have lP := (bl hP)
 have hd : Below w.heap.size w w.drew := (Below.refl _ _).drew
 have hS : ∀ w' : World, w'.heap[C]? = some (.cells #[.slice ao n cap, .int .i64 at_, .bool false] 197 (0, 0)) -> w'.heap[Pb]? = some (.cells #[.slice av m cv] 40 (0, 0)) -> (w'.cell? ⟨C, 0, none⟩ = some (.slice ao n cap) /\ w'.cell? ⟨C, 1, none⟩ = some (.int .i64 at_) /\ w'.cell? ⟨Pb, 0, none⟩ = some (.slice av m cv)) := fun w' h1 h2 => ⟨cell_of_row w' _ 0 _ _ _ h1, cell_of_row w' _ 1 _ _ _ h1, cell_of_row w' _ 0 _ _ _ h2⟩
 have hS2 : ∀ w' : World, w'.heap[C]? = some (.cells #[.slice ao n cap, .int .i64 at_, .bool false] 197 (0, 0)) -> w'.heap[Pb]? = some (.cells #[.slice av m cv] 40 (0, 0)) -> ∀ b : Bool, ((w'.setCell ⟨C, 2, none⟩ (.bool b)).cell? ⟨C, 0, none⟩ = some (.slice ao n cap) /\ (w'.setCell ⟨C, 2, none⟩ (.bool b)).cell? ⟨C, 1, none⟩ = some (.int .i64 at_) /\ (w'.setCell ⟨C, 2, none⟩ (.bool b)).cell? ⟨Pb, 0, none⟩ = some (.slice av m cv)) := fun w' h1 h2 b => by
  have q1 := heap_setCell_same w' C 2 _ _ (.bool b) h1
  have q2 := (heap_setCell_other w' ⟨C, 2, none⟩ Pb (.bool b) (fun e => hne e.symm)).trans h2
  exact ⟨cell_of_row _ _ 0 _ _ _ q1, cell_of_row _ _ 1 _ _ _ q1, cell_of_row _ _ 0 _ _ _ q2⟩
 have hC1 := (hd.block _ lC).trans hC
 have hP1 := (hd.block _ lP).trans hP
 have S := hS _ hC1 hP1
 have c2 : w.drew.cell? ⟨C, 2, none⟩ = some (.bool false) := cell_of_row _ _ 2 _ _ _ hC1
 refine wp_region_noPanic ?_
 refine wp_region_held_drew (S := fun w' => w'.cell? ⟨C, 0, none⟩ = some (.slice ao n cap) /\ w'.cell? ⟨C, 1, none⟩ = some (.int .i64 at_) /\ w'.cell? ⟨Pb, 0, none⟩ = some (.slice av m cv)) (by kernel_rfl) S (fun hHeld => ?_)
 refine wpAnyH_take (i := 0) (oi := ⟨some 105, .move (.tmp 0), 195, "l08_wire.go:84", #[], none⟩) (v := .pointer (some ⟨C, 0, none⟩)) rfl (by kernel_rfl) (by kernel_rfl) (by kernel_rfl) (fun _ _ _ h => h) (Or.inl ⟨by rfl, by intro w hSw; (try dsimp only at hSw); go_simp⟩) (by assumption) ?_
 simp only [Act.put, sit, sc0, scs]
 refine wpAnyH_take (i := 1) (oi := ⟨some 106, .move (.tmp 0), 195, "l08_wire.go:84", #[], none⟩) (v := .pointer (some ⟨C, 0, none⟩)) rfl (by kernel_rfl) (by kernel_rfl) (by kernel_rfl) (fun _ _ _ h => h) (Or.inl ⟨by rfl, by intro w hSw; (try dsimp only at hSw); go_simp⟩) (by assumption) ?_
 simp only [Act.put, sit, sc0, scs]
 refine wpAnyH_take (i := 2) (oi := ⟨some 107, .nilCheck (.tmp 106), 0, "l08_wire.go:84", #[⟨1, .data⟩], none⟩) (v := .pointer (some ⟨C, 0, none⟩)) rfl (by kernel_rfl) (by kernel_rfl) (by kernel_rfl) (fun _ _ _ h => h) (Or.inl ⟨by rfl, by intro w hSw; (try dsimp only at hSw); go_simp⟩) (by assumption) ?_
 simp only [Act.put, sit, sc0, scs]
 refine wpAnyH_take (i := 3) (oi := ⟨some 108, .fieldAddr 197 (.tmp 107) 2, 0, "l08_wire.go:84", #[⟨2, .data⟩], none⟩) (v := .pointer (some ⟨C, 2, none⟩)) rfl (by kernel_rfl) (by kernel_rfl) (by kernel_rfl) (fun _ _ _ h => h) (Or.inl ⟨by rfl, by intro w hSw; (try dsimp only at hSw); go_simp⟩) (by assumption) ?_
 simp only [Act.put, sit, sc0, scs]
 refine wpAnyH_ready (rs := [4]) (by kernel_rfl) (by simp) ?_
 refine AllReadyH.cons rfl (fun K hK => ?_) AllReadyH.nil
 go_simp
 refine hK.out _ _ S (fun hHeld2 => ?_)
 clear hK
 refine wpAnyH_take (i := 5) (oi := ⟨some 110, .move (.tmp 109), 4, "l08_wire.go:84", #[⟨4, .data⟩], none⟩) (v := .bool false) rfl (by kernel_rfl) (by kernel_rfl) (by kernel_rfl) (fun _ _ _ h => h) (Or.inl ⟨by rfl, by intro w hSw; (try dsimp only at hSw); go_simp⟩) (by assumption) ?_
 simp only [Act.put, sit, sc0, scs]
 refine wpAnyH_take (i := 6) (oi := ⟨some 111, .move (.tmp 0), 195, "l08_wire.go:84", #[⟨5, .guard⟩], some (5, true)⟩) (v := undef) rfl (by kernel_rfl) (by kernel_rfl) (by kernel_rfl) (fun _ _ _ h => h) (Or.inr ⟨by rfl, rfl⟩) (by assumption) ?_
 simp only [Act.put, sit, sc0, scs]
 refine wpAnyH_take (i := 7) (oi := ⟨some 112, .nilCheck (.tmp 111), 0, "l08_wire.go:84", #[⟨6, .data⟩, ⟨5, .guard⟩], some (5, true)⟩) (v := undef) rfl (by kernel_rfl) (by kernel_rfl) (by kernel_rfl) (fun _ _ _ h => h) (Or.inr ⟨by rfl, rfl⟩) (by assumption) ?_
 simp only [Act.put, sit, sc0, scs]
 refine wpAnyH_take (i := 8) (oi := ⟨some 113, .fieldAddr 197 (.tmp 112) 1, 0, "l08_wire.go:84", #[⟨7, .data⟩, ⟨5, .guard⟩], some (5, true)⟩) (v := undef) rfl (by kernel_rfl) (by kernel_rfl) (by kernel_rfl) (fun _ _ _ h => h) (Or.inr ⟨by rfl, rfl⟩) (by assumption) ?_
 simp only [Act.put, sit, sc0, scs]
 refine wpAnyH_take (i := 9) (oi := ⟨some 114, .load 3 (.tmp 113), 3, "l08_wire.go:84", #[⟨8, .data⟩, ⟨5, .guard⟩], some (5, true)⟩) (v := undef) rfl (by kernel_rfl) (by kernel_rfl) (by kernel_rfl) (fun _ _ _ h => h) (Or.inr ⟨by rfl, rfl⟩) (by assumption) ?_
 simp only [Act.put, sit, sc0, scs]
 refine wpAnyH_take (i := 10) (oi := ⟨some 115, .move (.tmp 0), 195, "l08_wire.go:84", #[⟨5, .guard⟩], some (5, true)⟩) (v := undef) rfl (by kernel_rfl) (by kernel_rfl) (by kernel_rfl) (fun _ _ _ h => h) (Or.inr ⟨by rfl, rfl⟩) (by assumption) ?_
 simp only [Act.put, sit, sc0, scs]
 refine wpAnyH_take (i := 11) (oi := ⟨some 116, .nilCheck (.tmp 115), 0, "l08_wire.go:84", #[⟨10, .data⟩, ⟨5, .guard⟩], some (5, true)⟩) (v := undef) rfl (by kernel_rfl) (by kernel_rfl) (by kernel_rfl) (fun _ _ _ h => h) (Or.inr ⟨by rfl, rfl⟩) (by assumption) ?_
 simp only [Act.put, sit, sc0, scs]
 refine wpAnyH_take (i := 12) (oi := ⟨some 117, .fieldAddr 197 (.tmp 116) 0, 0, "l08_wire.go:84", #[⟨11, .data⟩, ⟨5, .guard⟩], some (5, true)⟩) (v := undef) rfl (by kernel_rfl) (by kernel_rfl) (by kernel_rfl) (fun _ _ _ h => h) (Or.inr ⟨by rfl, rfl⟩) (by assumption) ?_
 simp only [Act.put, sit, sc0, scs]
 refine wpAnyH_take (i := 13) (oi := ⟨some 118, .load 162 (.tmp 117), 162, "l08_wire.go:84", #[⟨12, .data⟩, ⟨5, .guard⟩], some (5, true)⟩) (v := undef) rfl (by kernel_rfl) (by kernel_rfl) (by kernel_rfl) (fun _ _ _ h => h) (Or.inr ⟨by rfl, rfl⟩) (by assumption) ?_
 simp only [Act.put, sit, sc0, scs]
 refine wpAnyH_take (i := 14) (oi := ⟨some 119, .call { callee := .builtin .len, args := #[.tmp 118], argTypes := #[162] }, 3, "l08_wire.go:84", #[⟨13, .data⟩, ⟨5, .guard⟩], some (5, true)⟩) (v := undef) rfl (by kernel_rfl) (by kernel_rfl) (by kernel_rfl) (fun _ _ _ h => h) (Or.inr ⟨by rfl, rfl⟩) (by assumption) ?_
 simp only [Act.put, sit, sc0, scs]
 refine wpAnyH_take (i := 15) (oi := ⟨some 120, .binOp .eql 3 (.tmp 114) (.tmp 119) 3, 4, "l08_wire.go:84", #[⟨9, .data⟩, ⟨14, .data⟩, ⟨5, .guard⟩], some (5, true)⟩) (v := undef) rfl (by kernel_rfl) (by kernel_rfl) (by kernel_rfl) (fun _ _ _ h => h) (Or.inr ⟨by rfl, rfl⟩) (by assumption) ?_
 simp only [Act.put, sit, sc0, scs]
 refine wpAnyH_take (i := 16) (oi := ⟨some 121, .pick (.tmp 110) (.tmp 120) (.const (.bool false)), 4, "l08_wire.go:84", #[⟨5, .data⟩, ⟨15, .data⟩], none⟩) (v := .bool false) rfl (by kernel_rfl) (by kernel_rfl) (by kernel_rfl) (fun _ _ _ h => h) (Or.inl ⟨by rfl, by intro w hSw; (try dsimp only at hSw); go_simp⟩) (by assumption) ?_
 simp only [Act.put, sit, sc0, scs]
 refine wpAnyH_take (i := 17) (oi := ⟨some 122, .move (.tmp 121), 4, "l08_wire.go:84", #[⟨16, .data⟩, ⟨5, .chain⟩], none⟩) (v := .bool false) rfl (by kernel_rfl) (by kernel_rfl) (by kernel_rfl) (fun _ _ _ h => h) (Or.inl ⟨by rfl, by intro w hSw; (try dsimp only at hSw); go_simp⟩) (by assumption) ?_
 simp only [Act.put, sit, sc0, scs]
 refine wpAnyH_take (i := 18) (oi := ⟨some 123, .load 40 (.tmp 3), 40, "l08_wire.go:84", #[⟨17, .guard⟩], some (17, true)⟩) (v := undef) rfl (by kernel_rfl) (by kernel_rfl) (by kernel_rfl) (fun _ _ _ h => h) (Or.inr ⟨by rfl, rfl⟩) (by assumption) ?_
 simp only [Act.put, sit, sc0, scs]
 refine wpAnyH_take (i := 19) (oi := ⟨some 124, .call { callee := .value (.func 125), args := #[.tmp 123], argTypes := #[40] }, 4, "l08_wire.go:84", #[⟨18, .data⟩, ⟨17, .chain⟩, ⟨17, .guard⟩], some (17, true)⟩) (v := undef) rfl (by kernel_rfl) (by kernel_rfl) (by kernel_rfl) (fun _ _ _ h => h) (Or.inr ⟨by rfl, rfl⟩) (by assumption) ?_
 simp only [Act.put, sit, sc0, scs]
 refine wpAnyH_take (i := 20) (oi := ⟨some 125, .pick (.tmp 122) (.tmp 124) (.const (.bool false)), 4, "l08_wire.go:84", #[⟨17, .data⟩, ⟨19, .data⟩], none⟩) (v := .bool false) rfl (by kernel_rfl) (by kernel_rfl) (by kernel_rfl) (fun _ _ _ h => h) (Or.inl ⟨by rfl, by intro w hSw; (try dsimp only at hSw); go_simp⟩) (by assumption) ?_
 simp only [Act.put, sit, sc0, scs]
 refine wpAnyH_take (i := 21) (oi := ⟨some 126, .nilCheck (.tmp 105), 0, "l08_wire.go:84", #[⟨0, .data⟩, ⟨0, .phase⟩, ⟨1, .phase⟩, ⟨2, .phase⟩, ⟨3, .phase⟩, ⟨4, .phase⟩, ⟨5, .phase⟩, ⟨6, .phase⟩, ⟨7, .phase⟩, ⟨8, .phase⟩, ⟨9, .phase⟩, ⟨10, .phase⟩, ⟨11, .phase⟩, ⟨12, .phase⟩, ⟨13, .phase⟩, ⟨14, .phase⟩, ⟨15, .phase⟩, ⟨16, .phase⟩, ⟨17, .phase⟩, ⟨18, .phase⟩, ⟨19, .phase⟩, ⟨20, .phase⟩], none⟩) (v := .pointer (some ⟨C, 0, none⟩)) rfl (by kernel_rfl) (by kernel_rfl) (by kernel_rfl) (fun _ _ _ h => h) (Or.inl ⟨by rfl, by intro w hSw; (try dsimp only at hSw); go_simp⟩) (by assumption) ?_
 simp only [Act.put, sit, sc0, scs]
 refine wpAnyH_take (i := 22) (oi := ⟨some 127, .fieldAddr 197 (.tmp 126) 2, 0, "l08_wire.go:84", #[⟨21, .data⟩, ⟨0, .phase⟩, ⟨1, .phase⟩, ⟨2, .phase⟩, ⟨3, .phase⟩, ⟨4, .phase⟩, ⟨5, .phase⟩, ⟨6, .phase⟩, ⟨7, .phase⟩, ⟨8, .phase⟩, ⟨9, .phase⟩, ⟨10, .phase⟩, ⟨11, .phase⟩, ⟨12, .phase⟩, ⟨13, .phase⟩, ⟨14, .phase⟩, ⟨15, .phase⟩, ⟨16, .phase⟩, ⟨17, .phase⟩, ⟨18, .phase⟩, ⟨19, .phase⟩, ⟨20, .phase⟩], none⟩) (v := .pointer (some ⟨C, 2, none⟩)) rfl (by kernel_rfl) (by kernel_rfl) (by kernel_rfl) (fun _ _ _ h => h) (Or.inl ⟨by rfl, by intro w hSw; (try dsimp only at hSw); go_simp⟩) (by assumption) ?_
 simp only [Act.put, sit, sc0, scs]
 refine wpAnyH_ready (rs := [23]) (by kernel_rfl) (by simp) ?_
 refine AllReadyH.cons rfl (fun K hK => ?_) AllReadyH.nil
 have k2 : w.drew.cell? ⟨C, 2, none⟩ = some (.bool false) := cell_of_row _ _ 2 _ _ _ hC1
 have f2 : w.drew.frozen? ⟨C, 2, none⟩ = false := frozen_of_row _ _ 2 _ _ hC1
 go_simp
 refine hK.out _ _ (hS2 _ hC1 hP1 _) (fun hHeld4 => ?_)
 refine wpAnyH_done (by kernel_rfl) ?_ _
 exact NoPanic.normal <| hQ _ _ _ _ _ _ _ _ _ _ _ _ _ _ _ _ _ _ _ _ _ _ _ _ hd hC1
set_option maxRecDepth 100000 in
set_option maxHeartbeats 6400000 in
theorem Zi3 {t1 t2 t4 t5 t6 t7 t8 t9 t10 t11 t12 t13 t14 t15 t16 t17 t18 t19 t20 t21 t22 t23 t24 t25 t26 t27 t28 t29 t30 t31 t32 t33 t34 t35 t36 t37 t38 t39 t40 t41 t42 t43 t44 t45 t46 t47 t48 t49 t50 t51 t52 t53 t54 t55 t56 t57 t58 t59 t60 t61 t62 t63 t64 t65 t66 t67 t68 t69 t70 t71 t72 t73 t74 t75 t76 t77 t78 t79 t80 t81 t82 t83 t84 t85 t86 t87 t88 t89 t90 t91 t92 t93 t94 t95 t96 t97 t98 t99 t100 t101 t102 t103 t104 t105 t106 t107 t108 t109 t110 t111 t112 t113 t114 t115 t116 t117 t118 t119 t120 t121 t122 t123 t124 t125 t126 t127 t128 : Value} {fs : List Deferred} (C Pb n cap m cv : Nat) (ao av : Option Addr) (at_ : Int) (w : World) (Q : Exit -> Act -> World -> Prop) (hat : at_ ≠ (n : Int)) (hne : C ≠ Pb) (hC : w.heap[C]? = some (.cells #[.slice ao n cap, .int .i64 at_, .bool true] 197 (0, 0))) (hP : w.heap[Pb]? = some (.cells #[.slice av m cv] 40 (0, 0)))
  (hQ : ∀ u105 u106 u107 u108 u109 u110 u111 u112 u113 u114 u115 u116 u117 u118 u119 u120 u121 u122 u123 u124 u125 u126 u127 (W : World), Below w.heap.size w W -> W.heap[C]? = some (.cells #[.slice ao n cap, .int .i64 at_, .bool true] 197 (0, 0)) -> Q .normal ⟨#[.pointer (some ⟨C, 0, none⟩), t1, t2, .pointer (some ⟨Pb, 0, none⟩), t4, t5, t6, t7, t8, t9, t10, t11, t12, t13, t14, t15, t16, t17, t18, t19, t20, t21, t22, t23, t24, t25, t26, t27, t28, t29, t30, t31, t32, t33, t34, t35, t36, t37, t38, t39, t40, t41, t42, t43, t44, t45, t46, t47, t48, t49, t50, t51, t52, t53, t54, t55, t56, t57, t58, t59, t60, t61, t62, t63, t64, t65, t66, t67, t68, t69, t70, t71, t72, t73, t74, t75, t76, t77, t78, t79, t80, t81, t82, t83, t84, t85, t86, t87, t88, t89, t90, t91, t92, t93, t94, t95, t96, t97, t98, t99, t100, t101, t102, t103, t104, u105, u106, u107, u108, u109, u110, u111, u112, u113, u114, u115, u116, u117, u118, u119, u120, u121, u122, u123, u124, u125, u126, u127, t128], fs⟩ (W.setCell ⟨C, 2, none⟩ (.bool false))) :
  (Code.region 30 (List.toArray (⟨some 105, .move (.tmp 0), 195, "l08_wire.go:84", #[], none⟩ :: ⟨some 106, .move (.tmp 0), 195, "l08_wire.go:84", #[], none⟩ :: ⟨some 107, .nilCheck (.tmp 106), 0, "l08_wire.go:84", #[⟨1, .data⟩], none⟩ :: ⟨some 108, .fieldAddr 197 (.tmp 107) 2, 0, "l08_wire.go:84", #[⟨2, .data⟩], none⟩ :: ⟨some 109, .load 4 (.tmp 108), 4, "l08_wire.go:84", #[⟨3, .data⟩], none⟩ :: ⟨some 110, .move (.tmp 109), 4, "l08_wire.go:84", #[⟨4, .data⟩], none⟩ :: ⟨some 111, .move (.tmp 0), 195, "l08_wire.go:84", #[⟨5, .guard⟩], some (5, true)⟩ :: ⟨some 112, .nilCheck (.tmp 111), 0, "l08_wire.go:84", #[⟨6, .data⟩, ⟨5, .guard⟩], some (5, true)⟩ :: ⟨some 113, .fieldAddr 197 (.tmp 112) 1, 0, "l08_wire.go:84", #[⟨7, .data⟩, ⟨5, .guard⟩], some (5, true)⟩ :: ⟨some 114, .load 3 (.tmp 113), 3, "l08_wire.go:84", #[⟨8, .data⟩, ⟨5, .guard⟩], some (5, true)⟩ :: ⟨some 115, .move (.tmp 0), 195, "l08_wire.go:84", #[⟨5, .guard⟩], some (5, true)⟩ :: ⟨some 116, .nilCheck (.tmp 115), 0, "l08_wire.go:84", #[⟨10, .data⟩, ⟨5, .guard⟩], some (5, true)⟩ :: ⟨some 117, .fieldAddr 197 (.tmp 116) 0, 0, "l08_wire.go:84", #[⟨11, .data⟩, ⟨5, .guard⟩], some (5, true)⟩ :: ⟨some 118, .load 162 (.tmp 117), 162, "l08_wire.go:84", #[⟨12, .data⟩, ⟨5, .guard⟩], some (5, true)⟩ :: ⟨some 119, .call { callee := .builtin .len, args := #[.tmp 118], argTypes := #[162] }, 3, "l08_wire.go:84", #[⟨13, .data⟩, ⟨5, .guard⟩], some (5, true)⟩ :: ⟨some 120, .binOp .eql 3 (.tmp 114) (.tmp 119) 3, 4, "l08_wire.go:84", #[⟨9, .data⟩, ⟨14, .data⟩, ⟨5, .guard⟩], some (5, true)⟩ :: ⟨some 121, .pick (.tmp 110) (.tmp 120) (.const (.bool false)), 4, "l08_wire.go:84", #[⟨5, .data⟩, ⟨15, .data⟩], none⟩ :: ⟨some 122, .move (.tmp 121), 4, "l08_wire.go:84", #[⟨16, .data⟩, ⟨5, .chain⟩], none⟩ :: ⟨some 123, .load 40 (.tmp 3), 40, "l08_wire.go:84", #[⟨17, .guard⟩], some (17, true)⟩ :: ⟨some 124, .call { callee := .value (.func 125), args := #[.tmp 123], argTypes := #[40] }, 4, "l08_wire.go:84", #[⟨18, .data⟩, ⟨17, .chain⟩, ⟨17, .guard⟩], some (17, true)⟩ :: ⟨some 125, .pick (.tmp 122) (.tmp 124) (.const (.bool false)), 4, "l08_wire.go:84", #[⟨17, .data⟩, ⟨19, .data⟩], none⟩ :: ⟨some 126, .nilCheck (.tmp 105), 0, "l08_wire.go:84", #[⟨0, .data⟩, ⟨0, .phase⟩, ⟨1, .phase⟩, ⟨2, .phase⟩, ⟨3, .phase⟩, ⟨4, .phase⟩, ⟨5, .phase⟩, ⟨6, .phase⟩, ⟨7, .phase⟩, ⟨8, .phase⟩, ⟨9, .phase⟩, ⟨10, .phase⟩, ⟨11, .phase⟩, ⟨12, .phase⟩, ⟨13, .phase⟩, ⟨14, .phase⟩, ⟨15, .phase⟩, ⟨16, .phase⟩, ⟨17, .phase⟩, ⟨18, .phase⟩, ⟨19, .phase⟩, ⟨20, .phase⟩], none⟩ :: ⟨some 127, .fieldAddr 197 (.tmp 126) 2, 0, "l08_wire.go:84", #[⟨21, .data⟩, ⟨0, .phase⟩, ⟨1, .phase⟩, ⟨2, .phase⟩, ⟨3, .phase⟩, ⟨4, .phase⟩, ⟨5, .phase⟩, ⟨6, .phase⟩, ⟨7, .phase⟩, ⟨8, .phase⟩, ⟨9, .phase⟩, ⟨10, .phase⟩, ⟨11, .phase⟩, ⟨12, .phase⟩, ⟨13, .phase⟩, ⟨14, .phase⟩, ⟨15, .phase⟩, ⟨16, .phase⟩, ⟨17, .phase⟩, ⟨18, .phase⟩, ⟨19, .phase⟩, ⟨20, .phase⟩], none⟩ :: ⟨none, .store 4 (.tmp 127) (.tmp 125), 0, "l08_wire.go:84", #[⟨22, .data⟩, ⟨20, .data⟩, ⟨19, .chain⟩, ⟨0, .phase⟩, ⟨1, .phase⟩, ⟨2, .phase⟩, ⟨3, .phase⟩, ⟨4, .phase⟩, ⟨5, .phase⟩, ⟨6, .phase⟩, ⟨7, .phase⟩, ⟨8, .phase⟩, ⟨9, .phase⟩, ⟨10, .phase⟩, ⟨11, .phase⟩, ⟨12, .phase⟩, ⟨13, .phase⟩, ⟨14, .phase⟩, ⟨15, .phase⟩, ⟨16, .phase⟩, ⟨17, .phase⟩, ⟨18, .phase⟩, ⟨19, .phase⟩, ⟨20, .phase⟩], none⟩ :: [])) true).wp Tryz.prog Q ⟨#[.pointer (some ⟨C, 0, none⟩), t1, t2, .pointer (some ⟨Pb, 0, none⟩), t4, t5, t6, t7, t8, t9, t10, t11, t12, t13, t14, t15, t16, t17, t18, t19, t20, t21, t22, t23, t24, t25, t26, t27, t28, t29, t30, t31, t32, t33, t34, t35, t36, t37, t38, t39, t40, t41, t42, t43, t44, t45, t46, t47, t48, t49, t50, t51, t52, t53, t54, t55, t56, t57, t58, t59, t60, t61, t62, t63, t64, t65, t66, t67, t68, t69, t70, t71, t72, t73, t74, t75, t76, t77, t78, t79, t80, t81, t82, t83, t84, t85, t86, t87, t88, t89, t90, t91, t92, t93, t94, t95, t96, t97, t98, t99, t100, t101, t102, t103, t104, t105, t106, t107, t108, t109, t110, t111, t112, t113, t114, t115, t116, t117, t118, t119, t120, t121, t122, t123, t124, t125, t126, t127, t128], fs⟩ w := by
 have lC := (bl hC)
 have lP := (bl hP)
 have hd : Below w.heap.size w w.drew := (Below.refl _ _).drew
 have hS : ∀ w' : World, w'.heap[C]? = some (.cells #[.slice ao n cap, .int .i64 at_, .bool true] 197 (0, 0)) -> w'.heap[Pb]? = some (.cells #[.slice av m cv] 40 (0, 0)) -> (w'.cell? ⟨C, 0, none⟩ = some (.slice ao n cap) /\ w'.cell? ⟨C, 1, none⟩ = some (.int .i64 at_) /\ w'.cell? ⟨Pb, 0, none⟩ = some (.slice av m cv)) := fun w' h1 h2 => ⟨cell_of_row w' _ 0 _ _ _ h1, cell_of_row w' _ 1 _ _ _ h1, cell_of_row w' _ 0 _ _ _ h2⟩
 have hS2 : ∀ w' : World, w'.heap[C]? = some (.cells #[.slice ao n cap, .int .i64 at_, .bool true] 197 (0, 0)) -> w'.heap[Pb]? = some (.cells #[.slice av m cv] 40 (0, 0)) -> ∀ b : Bool, ((w'.setCell ⟨C, 2, none⟩ (.bool b)).cell? ⟨C, 0, none⟩ = some (.slice ao n cap) /\ (w'.setCell ⟨C, 2, none⟩ (.bool b)).cell? ⟨C, 1, none⟩ = some (.int .i64 at_) /\ (w'.setCell ⟨C, 2, none⟩ (.bool b)).cell? ⟨Pb, 0, none⟩ = some (.slice av m cv)) := fun w' h1 h2 b => by
  have q1 := heap_setCell_same w' C 2 _ _ (.bool b) h1
  have q2 := (heap_setCell_other w' ⟨C, 2, none⟩ Pb (.bool b) (fun e => hne e.symm)).trans h2
  exact ⟨cell_of_row _ _ 0 _ _ _ q1, cell_of_row _ _ 1 _ _ _ q1, cell_of_row _ _ 0 _ _ _ q2⟩
 have hC1 := (hd.block _ lC).trans hC
 have hP1 := (hd.block _ lP).trans hP
 have S := hS _ hC1 hP1
 have c2 : w.drew.cell? ⟨C, 2, none⟩ = some (.bool true) := cell_of_row _ _ 2 _ _ _ hC1
 refine wp_region_noPanic ?_
 refine wp_region_held_drew (S := fun w' => w'.cell? ⟨C, 0, none⟩ = some (.slice ao n cap) /\ w'.cell? ⟨C, 1, none⟩ = some (.int .i64 at_) /\ w'.cell? ⟨Pb, 0, none⟩ = some (.slice av m cv)) (by kernel_rfl) S (fun hHeld => ?_)
 refine wpAnyH_take (i := 0) (oi := ⟨some 105, .move (.tmp 0), 195, "l08_wire.go:84", #[], none⟩) (v := .pointer (some ⟨C, 0, none⟩)) rfl (by kernel_rfl) (by kernel_rfl) (by kernel_rfl) (fun _ _ _ h => h) (Or.inl ⟨by rfl, by intro w hSw; (try dsimp only at hSw); go_simp⟩) (by assumption) ?_
 simp only [Act.put, sit, sc0, scs]
 refine wpAnyH_take (i := 1) (oi := ⟨some 106, .move (.tmp 0), 195, "l08_wire.go:84", #[], none⟩) (v := .pointer (some ⟨C, 0, none⟩)) rfl (by kernel_rfl) (by kernel_rfl) (by kernel_rfl) (fun _ _ _ h => h) (Or.inl ⟨by rfl, by intro w hSw; (try dsimp only at hSw); go_simp⟩) (by assumption) ?_
 simp only [Act.put, sit, sc0, scs]
 refine wpAnyH_take (i := 2) (oi := ⟨some 107, .nilCheck (.tmp 106), 0, "l08_wire.go:84", #[⟨1, .data⟩], none⟩) (v := .pointer (some ⟨C, 0, none⟩)) rfl (by kernel_rfl) (by kernel_rfl) (by kernel_rfl) (fun _ _ _ h => h) (Or.inl ⟨by rfl, by intro w hSw; (try dsimp only at hSw); go_simp⟩) (by assumption) ?_
 simp only [Act.put, sit, sc0, scs]
 refine wpAnyH_take (i := 3) (oi := ⟨some 108, .fieldAddr 197 (.tmp 107) 2, 0, "l08_wire.go:84", #[⟨2, .data⟩], none⟩) (v := .pointer (some ⟨C, 2, none⟩)) rfl (by kernel_rfl) (by kernel_rfl) (by kernel_rfl) (fun _ _ _ h => h) (Or.inl ⟨by rfl, by intro w hSw; (try dsimp only at hSw); go_simp⟩) (by assumption) ?_
 simp only [Act.put, sit, sc0, scs]
 refine wpAnyH_ready (rs := [4]) (by kernel_rfl) (by simp) ?_
 refine AllReadyH.cons rfl (fun K hK => ?_) AllReadyH.nil
 go_simp
 refine hK.out _ _ S (fun hHeld2 => ?_)
 clear hK
 refine wpAnyH_take (i := 5) (oi := ⟨some 110, .move (.tmp 109), 4, "l08_wire.go:84", #[⟨4, .data⟩], none⟩) (v := .bool true) rfl (by kernel_rfl) (by kernel_rfl) (by kernel_rfl) (fun _ _ _ h => h) (Or.inl ⟨by rfl, by intro w hSw; (try dsimp only at hSw); go_simp⟩) (by assumption) ?_
 simp only [Act.put, sit, sc0, scs]
 refine wpAnyH_take (i := 6) (oi := ⟨some 111, .move (.tmp 0), 195, "l08_wire.go:84", #[⟨5, .guard⟩], some (5, true)⟩) (v := .pointer (some ⟨C, 0, none⟩)) rfl (by kernel_rfl) (by kernel_rfl) (by kernel_rfl) (fun _ _ _ h => h) (Or.inl ⟨by rfl, by intro w hSw; (try dsimp only at hSw); go_simp⟩) (by assumption) ?_
 simp only [Act.put, sit, sc0, scs]
 refine wpAnyH_take (i := 7) (oi := ⟨some 112, .nilCheck (.tmp 111), 0, "l08_wire.go:84", #[⟨6, .data⟩, ⟨5, .guard⟩], some (5, true)⟩) (v := .pointer (some ⟨C, 0, none⟩)) rfl (by kernel_rfl) (by kernel_rfl) (by kernel_rfl) (fun _ _ _ h => h) (Or.inl ⟨by rfl, by intro w hSw; (try dsimp only at hSw); go_simp⟩) (by assumption) ?_
 simp only [Act.put, sit, sc0, scs]
 refine wpAnyH_take (i := 8) (oi := ⟨some 113, .fieldAddr 197 (.tmp 112) 1, 0, "l08_wire.go:84", #[⟨7, .data⟩, ⟨5, .guard⟩], some (5, true)⟩) (v := .pointer (some ⟨C, 1, none⟩)) rfl (by kernel_rfl) (by kernel_rfl) (by kernel_rfl) (fun _ _ _ h => h) (Or.inl ⟨by rfl, by intro w hSw; (try dsimp only at hSw); go_simp⟩) (by assumption) ?_
 simp only [Act.put, sit, sc0, scs]
 refine wpAnyH_take (i := 9) (oi := ⟨some 114, .load 3 (.tmp 113), 3, "l08_wire.go:84", #[⟨8, .data⟩, ⟨5, .guard⟩], some (5, true)⟩) (v := .int .i64 at_) rfl (by kernel_rfl) (by kernel_rfl) (by kernel_rfl) (fun _ _ _ h => h) (Or.inl ⟨by rfl, by intro w hSw; (try dsimp only at hSw); go_simp⟩) (by assumption) ?_
 simp only [Act.put, sit, sc0, scs]
 refine wpAnyH_take (i := 10) (oi := ⟨some 115, .move (.tmp 0), 195, "l08_wire.go:84", #[⟨5, .guard⟩], some (5, true)⟩) (v := .pointer (some ⟨C, 0, none⟩)) rfl (by kernel_rfl) (by kernel_rfl) (by kernel_rfl) (fun _ _ _ h => h) (Or.inl ⟨by rfl, by intro w hSw; (try dsimp only at hSw); go_simp⟩) (by assumption) ?_
 simp only [Act.put, sit, sc0, scs]
 refine wpAnyH_take (i := 11) (oi := ⟨some 116, .nilCheck (.tmp 115), 0, "l08_wire.go:84", #[⟨10, .data⟩, ⟨5, .guard⟩], some (5, true)⟩) (v := .pointer (some ⟨C, 0, none⟩)) rfl (by kernel_rfl) (by kernel_rfl) (by kernel_rfl) (fun _ _ _ h => h) (Or.inl ⟨by rfl, by intro w hSw; (try dsimp only at hSw); go_simp⟩) (by assumption) ?_
 simp only [Act.put, sit, sc0, scs]
 refine wpAnyH_take (i := 12) (oi := ⟨some 117, .fieldAddr 197 (.tmp 116) 0, 0, "l08_wire.go:84", #[⟨11, .data⟩, ⟨5, .guard⟩], some (5, true)⟩) (v := .pointer (some ⟨C, 0, none⟩)) rfl (by kernel_rfl) (by kernel_rfl) (by kernel_rfl) (fun _ _ _ h => h) (Or.inl ⟨by rfl, by intro w hSw; (try dsimp only at hSw); go_simp⟩) (by assumption) ?_
 simp only [Act.put, sit, sc0, scs]
 refine wpAnyH_take (i := 13) (oi := ⟨some 118, .load 162 (.tmp 117), 162, "l08_wire.go:84", #[⟨12, .data⟩, ⟨5, .guard⟩], some (5, true)⟩) (v := .slice ao n cap) rfl (by kernel_rfl) (by kernel_rfl) (by kernel_rfl) (fun _ _ _ h => h) (Or.inl ⟨by rfl, by intro w hSw; (try dsimp only at hSw); go_simp⟩) (by assumption) ?_
 simp only [Act.put, sit, sc0, scs]
 refine wpAnyH_take (i := 14) (oi := ⟨some 119, .call { callee := .builtin .len, args := #[.tmp 118], argTypes := #[162] }, 3, "l08_wire.go:84", #[⟨13, .data⟩, ⟨5, .guard⟩], some (5, true)⟩) (v := .int .i64 n) rfl (by kernel_rfl) (by kernel_rfl) (by kernel_rfl) (fun _ _ _ h => h) (Or.inl ⟨by rfl, by intro w hSw; (try dsimp only at hSw); go_simp⟩) (by assumption) ?_
 simp only [Act.put, sit, sc0, scs]
 refine wpAnyH_take (i := 15) (oi := ⟨some 120, .binOp .eql 3 (.tmp 114) (.tmp 119) 3, 4, "l08_wire.go:84", #[⟨9, .data⟩, ⟨14, .data⟩, ⟨5, .guard⟩], some (5, true)⟩) (v := .bool false) rfl (by kernel_rfl) (by kernel_rfl) (by kernel_rfl) (fun _ _ _ h => h) (Or.inl ⟨by rfl, by intro w hSw; (try dsimp only at hSw); go_simp⟩) (by assumption) ?_
 simp only [Act.put, sit, sc0, scs]
 refine wpAnyH_take (i := 16) (oi := ⟨some 121, .pick (.tmp 110) (.tmp 120) (.const (.bool false)), 4, "l08_wire.go:84", #[⟨5, .data⟩, ⟨15, .data⟩], none⟩) (v := .bool false) rfl (by kernel_rfl) (by kernel_rfl) (by kernel_rfl) (fun _ _ _ h => h) (Or.inl ⟨by rfl, by intro w hSw; (try dsimp only at hSw); go_simp⟩) (by assumption) ?_
 simp only [Act.put, sit, sc0, scs]
 refine wpAnyH_take (i := 17) (oi := ⟨some 122, .move (.tmp 121), 4, "l08_wire.go:84", #[⟨16, .data⟩, ⟨5, .chain⟩], none⟩) (v := .bool false) rfl (by kernel_rfl) (by kernel_rfl) (by kernel_rfl) (fun _ _ _ h => h) (Or.inl ⟨by rfl, by intro w hSw; (try dsimp only at hSw); go_simp⟩) (by assumption) ?_
 simp only [Act.put, sit, sc0, scs]
 refine wpAnyH_take (i := 18) (oi := ⟨some 123, .load 40 (.tmp 3), 40, "l08_wire.go:84", #[⟨17, .guard⟩], some (17, true)⟩) (v := undef) rfl (by kernel_rfl) (by kernel_rfl) (by kernel_rfl) (fun _ _ _ h => h) (Or.inr ⟨by rfl, rfl⟩) (by assumption) ?_
 simp only [Act.put, sit, sc0, scs]
 refine wpAnyH_take (i := 19) (oi := ⟨some 124, .call { callee := .value (.func 125), args := #[.tmp 123], argTypes := #[40] }, 4, "l08_wire.go:84", #[⟨18, .data⟩, ⟨17, .chain⟩, ⟨17, .guard⟩], some (17, true)⟩) (v := undef) rfl (by kernel_rfl) (by kernel_rfl) (by kernel_rfl) (fun _ _ _ h => h) (Or.inr ⟨by rfl, rfl⟩) (by assumption) ?_
 simp only [Act.put, sit, sc0, scs]
 refine wpAnyH_take (i := 20) (oi := ⟨some 125, .pick (.tmp 122) (.tmp 124) (.const (.bool false)), 4, "l08_wire.go:84", #[⟨17, .data⟩, ⟨19, .data⟩], none⟩) (v := .bool false) rfl (by kernel_rfl) (by kernel_rfl) (by kernel_rfl) (fun _ _ _ h => h) (Or.inl ⟨by rfl, by intro w hSw; (try dsimp only at hSw); go_simp⟩) (by assumption) ?_
 simp only [Act.put, sit, sc0, scs]
 refine wpAnyH_take (i := 21) (oi := ⟨some 126, .nilCheck (.tmp 105), 0, "l08_wire.go:84", #[⟨0, .data⟩, ⟨0, .phase⟩, ⟨1, .phase⟩, ⟨2, .phase⟩, ⟨3, .phase⟩, ⟨4, .phase⟩, ⟨5, .phase⟩, ⟨6, .phase⟩, ⟨7, .phase⟩, ⟨8, .phase⟩, ⟨9, .phase⟩, ⟨10, .phase⟩, ⟨11, .phase⟩, ⟨12, .phase⟩, ⟨13, .phase⟩, ⟨14, .phase⟩, ⟨15, .phase⟩, ⟨16, .phase⟩, ⟨17, .phase⟩, ⟨18, .phase⟩, ⟨19, .phase⟩, ⟨20, .phase⟩], none⟩) (v := .pointer (some ⟨C, 0, none⟩)) rfl (by kernel_rfl) (by kernel_rfl) (by kernel_rfl) (fun _ _ _ h => h) (Or.inl ⟨by rfl, by intro w hSw; (try dsimp only at hSw); go_simp⟩) (by assumption) ?_
 simp only [Act.put, sit, sc0, scs]
 refine wpAnyH_take (i := 22) (oi := ⟨some 127, .fieldAddr 197 (.tmp 126) 2, 0, "l08_wire.go:84", #[⟨21, .data⟩, ⟨0, .phase⟩, ⟨1, .phase⟩, ⟨2, .phase⟩, ⟨3, .phase⟩, ⟨4, .phase⟩, ⟨5, .phase⟩, ⟨6, .phase⟩, ⟨7, .phase⟩, ⟨8, .phase⟩, ⟨9, .phase⟩, ⟨10, .phase⟩, ⟨11, .phase⟩, ⟨12, .phase⟩, ⟨13, .phase⟩, ⟨14, .phase⟩, ⟨15, .phase⟩, ⟨16, .phase⟩, ⟨17, .phase⟩, ⟨18, .phase⟩, ⟨19, .phase⟩, ⟨20, .phase⟩], none⟩) (v := .pointer (some ⟨C, 2, none⟩)) rfl (by kernel_rfl) (by kernel_rfl) (by kernel_rfl) (fun _ _ _ h => h) (Or.inl ⟨by rfl, by intro w hSw; (try dsimp only at hSw); go_simp⟩) (by assumption) ?_
 simp only [Act.put, sit, sc0, scs]
 refine wpAnyH_ready (rs := [23]) (by kernel_rfl) (by simp) ?_
 refine AllReadyH.cons rfl (fun K hK => ?_) AllReadyH.nil
 have k2 : w.drew.cell? ⟨C, 2, none⟩ = some (.bool true) := cell_of_row _ _ 2 _ _ _ hC1
 have f2 : w.drew.frozen? ⟨C, 2, none⟩ = false := frozen_of_row _ _ 2 _ _ hC1
 go_simp
 refine hK.out _ _ (hS2 _ hC1 hP1 _) (fun hHeld4 => ?_)
 refine wpAnyH_done (by kernel_rfl) ?_ _
 exact NoPanic.normal <| hQ _ _ _ _ _ _ _ _ _ _ _ _ _ _ _ _ _ _ _ _ _ _ _ _ hd hC1
set_option maxRecDepth 100000 in
set_option maxHeartbeats 6400000 in
theorem ZiO {t1 t2 t4 t5 t6 t7 t8 t9 t10 t11 t12 t13 t14 t15 t16 t17 t18 t19 t20 t21 t22 t23 t24 t25 t26 t27 t28 t29 t30 t31 t32 t33 t34 t35 t36 t37 t38 t39 t40 t41 t42 t43 t44 t45 t46 t47 t48 t49 t50 t51 t52 t53 t54 t55 t56 t57 t58 t59 t60 t61 t62 t63 t64 t65 t66 t67 t68 t69 t70 t71 t72 t73 t74 t75 t76 t77 t78 t79 t80 t81 t82 t83 t84 t85 t86 t87 t88 t89 t90 t91 t92 t93 t94 t95 t96 t97 t98 t99 t100 t101 t102 t103 t104 t105 t106 t107 t108 t109 t110 t111 t112 t113 t114 t115 t116 t117 t118 t119 t120 t121 t122 t123 t124 t125 t126 t127 t128 : Value} {fs : List Deferred} (C Pb n cap m cv : Nat) (ao av : Option Addr) (at_ : Int) (w : World) (Q : Exit -> Act -> World -> Prop) (hat : at_ = (n : Int)) (pb : Bool) (HP : ∀ W, Below w.heap.size w W -> Calls Tryz.prog 125 #[.agg #[.slice av m cv]] W fun e w' => e = .returned (.bool pb) /\ Below W.heap.size W w') (hne : C ≠ Pb) (hC : w.heap[C]? = some (.cells #[.slice ao n cap, .int .i64 at_, .bool true] 197 (0, 0))) (hP : w.heap[Pb]? = some (.cells #[.slice av m cv] 40 (0, 0)))
  (hQ : ∀ u105 u106 u107 u108 u109 u110 u111 u112 u113 u114 u115 u116 u117 u118 u119 u120 u121 u122 u123 u124 u125 u126 u127 (W : World), Below w.heap.size w W -> W.heap[C]? = some (.cells #[.slice ao n cap, .int .i64 at_, .bool true] 197 (0, 0)) -> Q .normal ⟨#[.pointer (some ⟨C, 0, none⟩), t1, t2, .pointer (some ⟨Pb, 0, none⟩), t4, t5, t6, t7, t8, t9, t10, t11, t12, t13, t14, t15, t16, t17, t18, t19, t20, t21, t22, t23, t24, t25, t26, t27, t28, t29, t30, t31, t32, t33, t34, t35, t36, t37, t38, t39, t40, t41, t42, t43, t44, t45, t46, t47, t48, t49, t50, t51, t52, t53, t54, t55, t56, t57, t58, t59, t60, t61, t62, t63, t64, t65, t66, t67, t68, t69, t70, t71, t72, t73, t74, t75, t76, t77, t78, t79, t80, t81, t82, t83, t84, t85, t86, t87, t88, t89, t90, t91, t92, t93, t94, t95, t96, t97, t98, t99, t100, t101, t102, t103, t104, u105, u106, u107, u108, u109, u110, u111, u112, u113, u114, u115, u116, u117, u118, u119, u120, u121, u122, u123, u124, u125, u126, u127, t128], fs⟩ (W.setCell ⟨C, 2, none⟩ (.bool pb))) :
  (Code.region 30 (List.toArray (⟨some 105, .move (.tmp 0), 195, "l08_wire.go:84", #[], none⟩ :: ⟨some 106, .move (.tmp 0), 195, "l08_wire.go:84", #[], none⟩ :: ⟨some 107, .nilCheck (.tmp 106), 0, "l08_wire.go:84", #[⟨1, .data⟩], none⟩ :: ⟨some 108, .fieldAddr 197 (.tmp 107) 2, 0, "l08_wire.go:84", #[⟨2, .data⟩], none⟩ :: ⟨some 109, .load 4 (.tmp 108), 4, "l08_wire.go:84", #[⟨3, .data⟩], none⟩ :: ⟨some 110, .move (.tmp 109), 4, "l08_wire.go:84", #[⟨4, .data⟩], none⟩ :: ⟨some 111, .move (.tmp 0), 195, "l08_wire.go:84", #[⟨5, .guard⟩], some (5, true)⟩ :: ⟨some 112, .nilCheck (.tmp 111), 0, "l08_wire.go:84", #[⟨6, .data⟩, ⟨5, .guard⟩], some (5, true)⟩ :: ⟨some 113, .fieldAddr 197 (.tmp 112) 1, 0, "l08_wire.go:84", #[⟨7, .data⟩, ⟨5, .guard⟩], some (5, true)⟩ :: ⟨some 114, .load 3 (.tmp 113), 3, "l08_wire.go:84", #[⟨8, .data⟩, ⟨5, .guard⟩], some (5, true)⟩ :: ⟨some 115, .move (.tmp 0), 195, "l08_wire.go:84", #[⟨5, .guard⟩], some (5, true)⟩ :: ⟨some 116, .nilCheck (.tmp 115), 0, "l08_wire.go:84", #[⟨10, .data⟩, ⟨5, .guard⟩], some (5, true)⟩ :: ⟨some 117, .fieldAddr 197 (.tmp 116) 0, 0, "l08_wire.go:84", #[⟨11, .data⟩, ⟨5, .guard⟩], some (5, true)⟩ :: ⟨some 118, .load 162 (.tmp 117), 162, "l08_wire.go:84", #[⟨12, .data⟩, ⟨5, .guard⟩], some (5, true)⟩ :: ⟨some 119, .call { callee := .builtin .len, args := #[.tmp 118], argTypes := #[162] }, 3, "l08_wire.go:84", #[⟨13, .data⟩, ⟨5, .guard⟩], some (5, true)⟩ :: ⟨some 120, .binOp .eql 3 (.tmp 114) (.tmp 119) 3, 4, "l08_wire.go:84", #[⟨9, .data⟩, ⟨14, .data⟩, ⟨5, .guard⟩], some (5, true)⟩ :: ⟨some 121, .pick (.tmp 110) (.tmp 120) (.const (.bool false)), 4, "l08_wire.go:84", #[⟨5, .data⟩, ⟨15, .data⟩], none⟩ :: ⟨some 122, .move (.tmp 121), 4, "l08_wire.go:84", #[⟨16, .data⟩, ⟨5, .chain⟩], none⟩ :: ⟨some 123, .load 40 (.tmp 3), 40, "l08_wire.go:84", #[⟨17, .guard⟩], some (17, true)⟩ :: ⟨some 124, .call { callee := .value (.func 125), args := #[.tmp 123], argTypes := #[40] }, 4, "l08_wire.go:84", #[⟨18, .data⟩, ⟨17, .chain⟩, ⟨17, .guard⟩], some (17, true)⟩ :: ⟨some 125, .pick (.tmp 122) (.tmp 124) (.const (.bool false)), 4, "l08_wire.go:84", #[⟨17, .data⟩, ⟨19, .data⟩], none⟩ :: ⟨some 126, .nilCheck (.tmp 105), 0, "l08_wire.go:84", #[⟨0, .data⟩, ⟨0, .phase⟩, ⟨1, .phase⟩, ⟨2, .phase⟩, ⟨3, .phase⟩, ⟨4, .phase⟩, ⟨5, .phase⟩, ⟨6, .phase⟩, ⟨7, .phase⟩, ⟨8, .phase⟩, ⟨9, .phase⟩, ⟨10, .phase⟩, ⟨11, .phase⟩, ⟨12, .phase⟩, ⟨13, .phase⟩, ⟨14, .phase⟩, ⟨15, .phase⟩, ⟨16, .phase⟩, ⟨17, .phase⟩, ⟨18, .phase⟩, ⟨19, .phase⟩, ⟨20, .phase⟩], none⟩ :: ⟨some 127, .fieldAddr 197 (.tmp 126) 2, 0, "l08_wire.go:84", #[⟨21, .data⟩, ⟨0, .phase⟩, ⟨1, .phase⟩, ⟨2, .phase⟩, ⟨3, .phase⟩, ⟨4, .phase⟩, ⟨5, .phase⟩, ⟨6, .phase⟩, ⟨7, .phase⟩, ⟨8, .phase⟩, ⟨9, .phase⟩, ⟨10, .phase⟩, ⟨11, .phase⟩, ⟨12, .phase⟩, ⟨13, .phase⟩, ⟨14, .phase⟩, ⟨15, .phase⟩, ⟨16, .phase⟩, ⟨17, .phase⟩, ⟨18, .phase⟩, ⟨19, .phase⟩, ⟨20, .phase⟩], none⟩ :: ⟨none, .store 4 (.tmp 127) (.tmp 125), 0, "l08_wire.go:84", #[⟨22, .data⟩, ⟨20, .data⟩, ⟨19, .chain⟩, ⟨0, .phase⟩, ⟨1, .phase⟩, ⟨2, .phase⟩, ⟨3, .phase⟩, ⟨4, .phase⟩, ⟨5, .phase⟩, ⟨6, .phase⟩, ⟨7, .phase⟩, ⟨8, .phase⟩, ⟨9, .phase⟩, ⟨10, .phase⟩, ⟨11, .phase⟩, ⟨12, .phase⟩, ⟨13, .phase⟩, ⟨14, .phase⟩, ⟨15, .phase⟩, ⟨16, .phase⟩, ⟨17, .phase⟩, ⟨18, .phase⟩, ⟨19, .phase⟩, ⟨20, .phase⟩], none⟩ :: [])) true).wp Tryz.prog Q ⟨#[.pointer (some ⟨C, 0, none⟩), t1, t2, .pointer (some ⟨Pb, 0, none⟩), t4, t5, t6, t7, t8, t9, t10, t11, t12, t13, t14, t15, t16, t17, t18, t19, t20, t21, t22, t23, t24, t25, t26, t27, t28, t29, t30, t31, t32, t33, t34, t35, t36, t37, t38, t39, t40, t41, t42, t43, t44, t45, t46, t47, t48, t49, t50, t51, t52, t53, t54, t55, t56, t57, t58, t59, t60, t61, t62, t63, t64, t65, t66, t67, t68, t69, t70, t71, t72, t73, t74, t75, t76, t77, t78, t79, t80, t81, t82, t83, t84, t85, t86, t87, t88, t89, t90, t91, t92, t93, t94, t95, t96, t97, t98, t99, t100, t101, t102, t103, t104, t105, t106, t107, t108, t109, t110, t111, t112, t113, t114, t115, t116, t117, t118, t119, t120, t121, t122, t123, t124, t125, t126, t127, t128], fs⟩ w := by
 have lC := (bl hC)
 have lP := (bl hP)
 have hd : Below w.heap.size w w.drew := (Below.refl _ _).drew
 have hS : ∀ w' : World, w'.heap[C]? = some (.cells #[.slice ao n cap, .int .i64 at_, .bool true] 197 (0, 0)) -> w'.heap[Pb]? = some (.cells #[.slice av m cv] 40 (0, 0)) -> (w'.cell? ⟨C, 0, none⟩ = some (.slice ao n cap) /\ w'.cell? ⟨C, 1, none⟩ = some (.int .i64 at_) /\ w'.cell? ⟨Pb, 0, none⟩ = some (.slice av m cv)) := fun w' h1 h2 => ⟨cell_of_row w' _ 0 _ _ _ h1, cell_of_row w' _ 1 _ _ _ h1, cell_of_row w' _ 0 _ _ _ h2⟩
 have hS2 : ∀ w' : World, w'.heap[C]? = some (.cells #[.slice ao n cap, .int .i64 at_, .bool true] 197 (0, 0)) -> w'.heap[Pb]? = some (.cells #[.slice av m cv] 40 (0, 0)) -> ∀ b : Bool, ((w'.setCell ⟨C, 2, none⟩ (.bool b)).cell? ⟨C, 0, none⟩ = some (.slice ao n cap) /\ (w'.setCell ⟨C, 2, none⟩ (.bool b)).cell? ⟨C, 1, none⟩ = some (.int .i64 at_) /\ (w'.setCell ⟨C, 2, none⟩ (.bool b)).cell? ⟨Pb, 0, none⟩ = some (.slice av m cv)) := fun w' h1 h2 b => by
  have q1 := heap_setCell_same w' C 2 _ _ (.bool b) h1
  have q2 := (heap_setCell_other w' ⟨C, 2, none⟩ Pb (.bool b) (fun e => hne e.symm)).trans h2
  exact ⟨cell_of_row _ _ 0 _ _ _ q1, cell_of_row _ _ 1 _ _ _ q1, cell_of_row _ _ 0 _ _ _ q2⟩
 have hC1 := (hd.block _ lC).trans hC
 have hP1 := (hd.block _ lP).trans hP
 have S := hS _ hC1 hP1
 have c2 : w.drew.cell? ⟨C, 2, none⟩ = some (.bool true) := cell_of_row _ _ 2 _ _ _ hC1
 refine wp_region_noPanic ?_
 refine wp_region_held_drew (S := fun w' => w'.cell? ⟨C, 0, none⟩ = some (.slice ao n cap) /\ w'.cell? ⟨C, 1, none⟩ = some (.int .i64 at_) /\ w'.cell? ⟨Pb, 0, none⟩ = some (.slice av m cv)) (by kernel_rfl) S (fun hHeld => ?_)
 refine wpAnyH_take (i := 0) (oi := ⟨some 105, .move (.tmp 0), 195, "l08_wire.go:84", #[], none⟩) (v := .pointer (some ⟨C, 0, none⟩)) rfl (by kernel_rfl) (by kernel_rfl) (by kernel_rfl) (fun _ _ _ h => h) (Or.inl ⟨by rfl, by intro w hSw; (try dsimp only at hSw); go_simp⟩) (by assumption) ?_
 simp only [Act.put, sit, sc0, scs]
 refine wpAnyH_take (i := 1) (oi := ⟨some 106, .move (.tmp 0), 195, "l08_wire.go:84", #[], none⟩) (v := .pointer (some ⟨C, 0, none⟩)) rfl (by kernel_rfl) (by kernel_rfl) (by kernel_rfl) (fun _ _ _ h => h) (Or.inl ⟨by rfl, by intro w hSw; (try dsimp only at hSw); go_simp⟩) (by assumption) ?_
 simp only [Act.put, sit, sc0, scs]
 refine wpAnyH_take (i := 2) (oi := ⟨some 107, .nilCheck (.tmp 106), 0, "l08_wire.go:84", #[⟨1, .data⟩], none⟩) (v := .pointer (some ⟨C, 0, none⟩)) rfl (by kernel_rfl) (by kernel_rfl) (by kernel_rfl) (fun _ _ _ h => h) (Or.inl ⟨by rfl, by intro w hSw; (try dsimp only at hSw); go_simp⟩) (by assumption) ?_
 simp only [Act.put, sit, sc0, scs]
 refine wpAnyH_take (i := 3) (oi := ⟨some 108, .fieldAddr 197 (.tmp 107) 2, 0, "l08_wire.go:84", #[⟨2, .data⟩], none⟩) (v := .pointer (some ⟨C, 2, none⟩)) rfl (by kernel_rfl) (by kernel_rfl) (by kernel_rfl) (fun _ _ _ h => h) (Or.inl ⟨by rfl, by intro w hSw; (try dsimp only at hSw); go_simp⟩) (by assumption) ?_
 simp only [Act.put, sit, sc0, scs]
 refine wpAnyH_ready (rs := [4]) (by kernel_rfl) (by simp) ?_
 refine AllReadyH.cons rfl (fun K hK => ?_) AllReadyH.nil
 go_simp
 refine hK.out _ _ S (fun hHeld2 => ?_)
 clear hK
 refine wpAnyH_take (i := 5) (oi := ⟨some 110, .move (.tmp 109), 4, "l08_wire.go:84", #[⟨4, .data⟩], none⟩) (v := .bool true) rfl (by kernel_rfl) (by kernel_rfl) (by kernel_rfl) (fun _ _ _ h => h) (Or.inl ⟨by rfl, by intro w hSw; (try dsimp only at hSw); go_simp⟩) (by assumption) ?_
 simp only [Act.put, sit, sc0, scs]
 refine wpAnyH_take (i := 6) (oi := ⟨some 111, .move (.tmp 0), 195, "l08_wire.go:84", #[⟨5, .guard⟩], some (5, true)⟩) (v := .pointer (some ⟨C, 0, none⟩)) rfl (by kernel_rfl) (by kernel_rfl) (by kernel_rfl) (fun _ _ _ h => h) (Or.inl ⟨by rfl, by intro w hSw; (try dsimp only at hSw); go_simp⟩) (by assumption) ?_
 simp only [Act.put, sit, sc0, scs]
 refine wpAnyH_take (i := 7) (oi := ⟨some 112, .nilCheck (.tmp 111), 0, "l08_wire.go:84", #[⟨6, .data⟩, ⟨5, .guard⟩], some (5, true)⟩) (v := .pointer (some ⟨C, 0, none⟩)) rfl (by kernel_rfl) (by kernel_rfl) (by kernel_rfl) (fun _ _ _ h => h) (Or.inl ⟨by rfl, by intro w hSw; (try dsimp only at hSw); go_simp⟩) (by assumption) ?_
 simp only [Act.put, sit, sc0, scs]
 refine wpAnyH_take (i := 8) (oi := ⟨some 113, .fieldAddr 197 (.tmp 112) 1, 0, "l08_wire.go:84", #[⟨7, .data⟩, ⟨5, .guard⟩], some (5, true)⟩) (v := .pointer (some ⟨C, 1, none⟩)) rfl (by kernel_rfl) (by kernel_rfl) (by kernel_rfl) (fun _ _ _ h => h) (Or.inl ⟨by rfl, by intro w hSw; (try dsimp only at hSw); go_simp⟩) (by assumption) ?_
 simp only [Act.put, sit, sc0, scs]
 refine wpAnyH_take (i := 9) (oi := ⟨some 114, .load 3 (.tmp 113), 3, "l08_wire.go:84", #[⟨8, .data⟩, ⟨5, .guard⟩], some (5, true)⟩) (v := .int .i64 at_) rfl (by kernel_rfl) (by kernel_rfl) (by kernel_rfl) (fun _ _ _ h => h) (Or.inl ⟨by rfl, by intro w hSw; (try dsimp only at hSw); go_simp⟩) (by assumption) ?_
 simp only [Act.put, sit, sc0, scs]
 refine wpAnyH_take (i := 10) (oi := ⟨some 115, .move (.tmp 0), 195, "l08_wire.go:84", #[⟨5, .guard⟩], some (5, true)⟩) (v := .pointer (some ⟨C, 0, none⟩)) rfl (by kernel_rfl) (by kernel_rfl) (by kernel_rfl) (fun _ _ _ h => h) (Or.inl ⟨by rfl, by intro w hSw; (try dsimp only at hSw); go_simp⟩) (by assumption) ?_
 simp only [Act.put, sit, sc0, scs]
 refine wpAnyH_take (i := 11) (oi := ⟨some 116, .nilCheck (.tmp 115), 0, "l08_wire.go:84", #[⟨10, .data⟩, ⟨5, .guard⟩], some (5, true)⟩) (v := .pointer (some ⟨C, 0, none⟩)) rfl (by kernel_rfl) (by kernel_rfl) (by kernel_rfl) (fun _ _ _ h => h) (Or.inl ⟨by rfl, by intro w hSw; (try dsimp only at hSw); go_simp⟩) (by assumption) ?_
 simp only [Act.put, sit, sc0, scs]
 refine wpAnyH_take (i := 12) (oi := ⟨some 117, .fieldAddr 197 (.tmp 116) 0, 0, "l08_wire.go:84", #[⟨11, .data⟩, ⟨5, .guard⟩], some (5, true)⟩) (v := .pointer (some ⟨C, 0, none⟩)) rfl (by kernel_rfl) (by kernel_rfl) (by kernel_rfl) (fun _ _ _ h => h) (Or.inl ⟨by rfl, by intro w hSw; (try dsimp only at hSw); go_simp⟩) (by assumption) ?_
 simp only [Act.put, sit, sc0, scs]
 refine wpAnyH_take (i := 13) (oi := ⟨some 118, .load 162 (.tmp 117), 162, "l08_wire.go:84", #[⟨12, .data⟩, ⟨5, .guard⟩], some (5, true)⟩) (v := .slice ao n cap) rfl (by kernel_rfl) (by kernel_rfl) (by kernel_rfl) (fun _ _ _ h => h) (Or.inl ⟨by rfl, by intro w hSw; (try dsimp only at hSw); go_simp⟩) (by assumption) ?_
 simp only [Act.put, sit, sc0, scs]
 refine wpAnyH_take (i := 14) (oi := ⟨some 119, .call { callee := .builtin .len, args := #[.tmp 118], argTypes := #[162] }, 3, "l08_wire.go:84", #[⟨13, .data⟩, ⟨5, .guard⟩], some (5, true)⟩) (v := .int .i64 n) rfl (by kernel_rfl) (by kernel_rfl) (by kernel_rfl) (fun _ _ _ h => h) (Or.inl ⟨by rfl, by intro w hSw; (try dsimp only at hSw); go_simp⟩) (by assumption) ?_
 simp only [Act.put, sit, sc0, scs]
 refine wpAnyH_take (i := 15) (oi := ⟨some 120, .binOp .eql 3 (.tmp 114) (.tmp 119) 3, 4, "l08_wire.go:84", #[⟨9, .data⟩, ⟨14, .data⟩, ⟨5, .guard⟩], some (5, true)⟩) (v := .bool true) rfl (by kernel_rfl) (by kernel_rfl) (by kernel_rfl) (fun _ _ _ h => h) (Or.inl ⟨by rfl, by intro w hSw; (try dsimp only at hSw); go_simp⟩) (by assumption) ?_
 simp only [Act.put, sit, sc0, scs]
 refine wpAnyH_take (i := 16) (oi := ⟨some 121, .pick (.tmp 110) (.tmp 120) (.const (.bool false)), 4, "l08_wire.go:84", #[⟨5, .data⟩, ⟨15, .data⟩], none⟩) (v := .bool true) rfl (by kernel_rfl) (by kernel_rfl) (by kernel_rfl) (fun _ _ _ h => h) (Or.inl ⟨by rfl, by intro w hSw; (try dsimp only at hSw); go_simp⟩) (by assumption) ?_
 simp only [Act.put, sit, sc0, scs]
 refine wpAnyH_take (i := 17) (oi := ⟨some 122, .move (.tmp 121), 4, "l08_wire.go:84", #[⟨16, .data⟩, ⟨5, .chain⟩], none⟩) (v := .bool true) rfl (by kernel_rfl) (by kernel_rfl) (by kernel_rfl) (fun _ _ _ h => h) (Or.inl ⟨by rfl, by intro w hSw; (try dsimp only at hSw); go_simp⟩) (by assumption) ?_
 simp only [Act.put, sit, sc0, scs]
 refine wpAnyH_take (i := 18) (oi := ⟨some 123, .load 40 (.tmp 3), 40, "l08_wire.go:84", #[⟨17, .guard⟩], some (17, true)⟩) (v := .agg #[.slice av m cv]) rfl (by kernel_rfl) (by kernel_rfl) (by kernel_rfl) (fun _ _ _ h => h) (Or.inl ⟨by rfl, by intro w hSw; (try dsimp only at hSw); go_simp⟩) (by assumption) ?_
 simp only [Act.put, sit, sc0, scs]
 refine wpAnyH_ready (rs := [19]) (by kernel_rfl) (by simp) ?_
 refine AllReadyH.cons rfl (fun K hK => ?_) AllReadyH.nil
 go_simp
 go_wp2_with (go_at_call 125; with_reducible refine (HP _ hd).mono ?_; rintro e wA ⟨rfl, hbA⟩)
 have tA : Below w.heap.size w wA := hd.trans (hbA.mono hd.size)
 have hC2 := (tA.block _ lC).trans hC
 have hP2 := (tA.block _ lP).trans hP
 refine hK.out _ _ (hS _ hC2 hP2) (fun hHeld3 => ?_)
 clear hK
 refine wpAnyH_take (i := 20) (oi := ⟨some 125, .pick (.tmp 122) (.tmp 124) (.const (.bool false)), 4, "l08_wire.go:84", #[⟨17, .data⟩, ⟨19, .data⟩], none⟩) (v := .bool pb) rfl (by kernel_rfl) (by kernel_rfl) (by kernel_rfl) (fun _ _ _ h => h) (Or.inl ⟨by rfl, by intro w hSw; (try dsimp only at hSw); go_simp⟩) (by assumption) ?_
 simp only [Act.put, sit, sc0, scs]
 refine wpAnyH_take (i := 21) (oi := ⟨some 126, .nilCheck (.tmp 105), 0, "l08_wire.go:84", #[⟨0, .data⟩, ⟨0, .phase⟩, ⟨1, .phase⟩, ⟨2, .phase⟩, ⟨3, .phase⟩, ⟨4, .phase⟩, ⟨5, .phase⟩, ⟨6, .phase⟩, ⟨7, .phase⟩, ⟨8, .phase⟩, ⟨9, .phase⟩, ⟨10, .phase⟩, ⟨11, .phase⟩, ⟨12, .phase⟩, ⟨13, .phase⟩, ⟨14, .phase⟩, ⟨15, .phase⟩, ⟨16, .phase⟩, ⟨17, .phase⟩, ⟨18, .phase⟩, ⟨19, .phase⟩, ⟨20, .phase⟩], none⟩) (v := .pointer (some ⟨C, 0, none⟩)) rfl (by kernel_rfl) (by kernel_rfl) (by kernel_rfl) (fun _ _ _ h => h) (Or.inl ⟨by rfl, by intro w hSw; (try dsimp only at hSw); go_simp⟩) (by assumption) ?_
 simp only [Act.put, sit, sc0, scs]
 refine wpAnyH_take (i := 22) (oi := ⟨some 127, .fieldAddr 197 (.tmp 126) 2, 0, "l08_wire.go:84", #[⟨21, .data⟩, ⟨0, .phase⟩, ⟨1, .phase⟩, ⟨2, .phase⟩, ⟨3, .phase⟩, ⟨4, .phase⟩, ⟨5, .phase⟩, ⟨6, .phase⟩, ⟨7, .phase⟩, ⟨8, .phase⟩, ⟨9, .phase⟩, ⟨10, .phase⟩, ⟨11, .phase⟩, ⟨12, .phase⟩, ⟨13, .phase⟩, ⟨14, .phase⟩, ⟨15, .phase⟩, ⟨16, .phase⟩, ⟨17, .phase⟩, ⟨18, .phase⟩, ⟨19, .phase⟩, ⟨20, .phase⟩], none⟩) (v := .pointer (some ⟨C, 2, none⟩)) rfl (by kernel_rfl) (by kernel_rfl) (by kernel_rfl) (fun _ _ _ h => h) (Or.inl ⟨by rfl, by intro w hSw; (try dsimp only at hSw); go_simp⟩) (by assumption) ?_
 simp only [Act.put, sit, sc0, scs]
 refine wpAnyH_ready (rs := [23]) (by kernel_rfl) (by simp) ?_
 refine AllReadyH.cons rfl (fun K hK => ?_) AllReadyH.nil
 have k2 : wA.cell? ⟨C, 2, none⟩ = some (.bool true) := cell_of_row _ _ 2 _ _ _ hC2
 have f2 : wA.frozen? ⟨C, 2, none⟩ = false := frozen_of_row _ _ 2 _ _ hC2
 go_simp
 refine hK.out _ _ (hS2 _ hC2 hP2 _) (fun hHeld4 => ?_)
 refine wpAnyH_done (by kernel_rfl) ?_ _
 exact NoPanic.normal <| hQ _ _ _ _ _ _ _ _ _ _ _ _ _ _ _ _ _ _ _ _ _ _ _ _ tA hC2
set_option maxRecDepth 100000 in
set_option maxHeartbeats 800000 in
theorem ZfU (v : Value) (zs : List Int) (P : Nat) (a : Int) (w0 w : World) (R : Row w0 v zs) (hb : Below w0.heap.size w0 w) (hP : w0.heap.size <= P) (h : One w P a) :
  Calls Tryz.prog 208 #[.agg #[v, .pointer (some ⟨P, 0, none⟩)]] w fun e w' =>
   e = .returned (.tuple #[.string (gT zs a).1, .bool (gT zs a).2.2]) /\ (∃ q, One w' P q /\ ((gT zs a).2.2 = true -> q = (gT zs a).2.1)) /\ w.grownBy w' (some P) := by
 have R' := R
 obtain ⟨ao, cap, rfl, hcap, hm, hz, hcell⟩ := R'
 clear hz
 have hPs := h.lt
 go_enter Tryz.func208, Tryz.ntmps208
 go_wp2_with fail
 have hbel : Below w0.heap.size w0 (w.alloc (Obj.cells #[Value.slice ao zs.length cap, Value.pointer (some ⟨P, 0, none⟩)] 254)) := hb.alloc hb.size _
 have hone : One (w.alloc (Obj.cells #[Value.slice ao zs.length cap, Value.pointer (some ⟨P, 0, none⟩)] 254)) P a := h.kept (World.grownBy_alloc w _ none) (by simp)
 refine (Zfu _ zs P a w0 _ R hbel hP hone).mono ?_
 rintro e w1 ⟨rfl, ⟨q, hone1, hq⟩, hgr⟩
 have hsz : w.heap.size < (w.alloc (Obj.cells #[Value.slice ao zs.length cap, Value.pointer (some ⟨P, 0, none⟩)] 254)).heap.size := by simp
 have hbox : w1.heap[w.heap.size]? = some (.cells #[Value.slice ao zs.length cap, Value.pointer (some ⟨P, 0, none⟩)] 254 (0, 0)) := (hgr.block _ hsz (by simp; omega)).trans (heap_alloc_new w _)
 have hb0 : w1.cell? ⟨w.heap.size, 0, none⟩ = some (.slice ao zs.length cap) := by rw [cell_of_row w1 _ 0 _ 254 (0, 0) hbox]; rfl
 have hb1 : w1.cell? ⟨w.heap.size, 1, none⟩ = some (.pointer (some ⟨P, 0, none⟩)) := by rw [cell_of_row w1 _ 1 _ 254 (0, 0) hbox]; rfl
 have hc := hone1.cell
 have hf := hone1.free
 have hgr1 : w.grownBy w1 (some P) := Zai (World.grownBy_alloc w _ _) hgr
 have hbel1 : Below w0.heap.size w0 w1 := hbel.grown hgr hbel.size (fun k hk => by simp at hk; omega)
 clear hbel hone hsz hbox hgr R
 generalize hg : gN zs a = r at hq ⊢
 obtain ⟨n, next, ok⟩ := r
 have HG : Hid (gN zs a = (n, next, ok)) := hg
 clear hg
 cases ok with
 | false =>
  have HT : Hid (gT zs a = (⟨#[]⟩, 0, false)) := ZiK zs a n next false HG.out (Or.inl rfl)
  clear hq
  go_wp2_with fail
  go_ret2
  exact ⟨by rw [HT.out]; rfl, ⟨q, hone1, by rw [HT.out]; intro h; cases h⟩, hgr1⟩
 | true =>
  obtain ⟨h1, h2, h3, h4⟩ := Zjt zs a n next HG.out
  obtain ⟨n, rfl⟩ := Int.eq_ofNat_of_zero_le h1
  obtain ⟨next, rfl⟩ := Int.eq_ofNat_of_zero_le h3
  obtain rfl : q = (next : Int) := hq rfl
  clear hq
  by_cases hout : (zs.length : Int) - next < n
  ·have HT : Hid (gT zs a = (⟨#[]⟩, 0, false)) := ZiK zs a _ _ true HG.out (Or.inr hout)
   go_wp2_with fail
   go_ret2
   exact ⟨by rw [HT.out]; rfl, ⟨_, hone1, by rw [HT.out]; intro h; cases h⟩, hgr1⟩
  ·have HT : Hid (gT zs a = (strOfNums ((zs.drop next).take n), (next : Int) + n, true)) := ZjD zs a n next HG.out (by omega)
   have hle : next + n <= zs.length := by omega
   have hcell2 : zs ≠ [] -> ∃ g o, ao = some ⟨g, o, none⟩ /\ g < (w1.setCell ⟨P, 0, none⟩ (.int .i64 ((next : Int) + n))).heap.size /\ ∀ i, i < zs.length -> (w1.setCell ⟨P, 0, none⟩ (.int .i64 ((next : Int) + n))).cell? ⟨g, o + i, none⟩ = some (.int .u8 (zs.getD i 0)) := by
    intro hne
    obtain ⟨g, o, rfl, hg, hcell⟩ := hcell hne
    have hs := hbel1.size
    refine ⟨g, o, rfl, by simp [World.setCell]; omega, fun i hi => ?_⟩
    rw [World.cell?_of_block (w := w1) (heap_setCell_other w1 ⟨P, 0, none⟩ g _ (by simp; omega)), hbel1.cell (p := ⟨g, o + i, none⟩) hg]
    exact hcell i hi
   clear hcell
   go_wp2_with (refine Zbl _ rfl _ 162 9 5 rfl Tryz.underlying162 Tryz.underlying9 Tryz.underlying5 _ _ _ ((zs.drop next).take n) rfl (by rw [ZdK zs next n hle]; omega) (by rw [Nat.add_sub_cancel_left]; simpa using ZeS hcell2 next n hle hcap) ?_)
   all_goals go_ret2
   all_goals exact ⟨by rw [HT.out]; rfl, ⟨_, hone1.set _, by rw [HT.out]; intro _; rfl⟩, Zai hgr1 (Zae w1 P 0 _)⟩
end Go.Proofs.YtfmafkebddojjaaGreatDoor
