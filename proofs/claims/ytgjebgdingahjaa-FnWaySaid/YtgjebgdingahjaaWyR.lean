/-
  The regions of the law FnWay that draw their order. No condition.
-/
import Derived.Test.YtgjebgdingahjaaWyA
import Derived.Test.YtgjebgdingahjaaILkSend
import Derived.Test.YtgjebgdingahjaaILkTake
import Derived.Test.YtgjebgdingahjaaILkShow
import Derived.Test.YtgjebgdingahjaaILkAck
namespace Go.Proofs.Ytgjebgdingahjaa
open Go.RowKit

theorem range_below {w w' : World} {g o B : Nat} {cs : List Value} (h : w.rangeAt g o cs) (hb : Below B w w') (hg : g < B) : w'.rangeAt g o cs :=
  fun j v hj => (hb.cell (p := ⟨g, o + j, none⟩) hg).trans (h j v hj)
theorem sown_mono9 {w : World} {B B' : Nat} {v : Value} {xs : List ByteArray} (h : SOwn w B v xs) (hB : B' ≤ B) : SOwn w B' v xs := by
  obtain ⟨ao, cap, rfl, hc, h⟩ := h
  refine ⟨ao, cap, rfl, hc, ?_⟩
  rcases h with h | ⟨g, CAP, N, pre, post, rfl, hN, ho⟩
  · exact Or.inl h
  · exact Or.inr ⟨g, CAP, N, pre, post, rfl, hN, own_mono ho hB⟩
theorem dg_size (n : Nat) : (dg n).size ≤ 2 := by
  unfold dg
  split
  · rw [strN1]; omega
  · rw [ByteArray.size_append, strN1, strN1]; omega

set_option maxRecDepth 100000 in
set_option maxHeartbeats 6400000 in
theorem way_r14 {t0 t1 t2 t4 t5 t6 t7 t8 t10 t11 t12 t13 t14 t15 t16 t17 t18 t19 t20 t21 t22 t23 t24 t25 t26 t27 t28 t29 t30 t31 t32 t33 t34 t35 t36 t37 t38 t39 t40 t41 t42 t43 t44 t45 t46 t47 t48 t49 t50 t51 t52 t53 t54 t55 t56 t57 t58 t59 t60 t61 t62 t63 t64 t65 t66 t67 t68 t69 t70 t71 t72 t73 t74 t75 t76 t77 t78 t79 t80 t81 t82 t83 t84 t85 t86 t87 t88 t89 t90 t91 t92 t93 t94 t95 t96 t97 t98 t99 t100 t101 t102 t103 t104 t105 t106 t107 t108 t109 t110 t111 t112 t113 t114 t115 t116 t117 t118 t119 t120 t121 t122 t123 t124 t125 t126 t127 t128 t129 t130 t131 t132 t133 t134 t135 t136 t137 t138 t139 t140 t141 t142 t143 t144 t145 t146 t147 t148 t149 t150 t151 t152 t153 t154 t155 t156 t157 t158 t159 t160 t161 t162 t163 t164 t165 t166 t167 t168 : Value} {fs : List Deferred} (b n : Nat) (v1 v2 : Value) (l : Lk) (r : Lk × Bool) (w : World) (Q : Exit → Act → World → Prop)
    (hx : w.heap[b]? = some (.cells #[.int .i64 l.sent, .int .i64 l.acked, v1, .int .i64 l.got, v2] 27 (0, 0))) (R1 : StRow w v1 l.q) (R2 : PcRow w v2 l.h) (hn : n < 100) (hs : (dg n).size ≤ maxLen) (hr : sendR l (dg n) = r)
    (hQ : ∀ s46 s47 s48 s49 s45 s50 s51 (u1 u2 : Value) (nb : Nat) (W : World), w.heap.size ≤ nb → W.heap[nb]? = some (.cells #[.int .i64 r.1.sent, .int .i64 r.1.acked, u1, .int .i64 r.1.got, u2] 27 (0, 0)) → SOwn W w.heap.size u1 r.1.q → W.ownsRow w.heap.size 36 2 u2 r.1.h.length (pccs r.1.h) → Below w.heap.size w W → Q .normal ⟨#[t0, t1, t2, .pointer (some ⟨b, 0, none⟩), t4, t5, t6, t7, t8, .int .i64 (n : Nat), t10, .pointer (some ⟨nb, 0, none⟩), .bool r.2, t13, t14, t15, t16, t17, t18, t19, t20, t21, t22, t23, t24, t25, t26, t27, t28, t29, t30, t31, t32, t33, t34, t35, t36, t37, t38, t39, t40, t41, t42, t43, t44, s45, s46, s47, s48, s49, s50, s51, t52, t53, t54, t55, t56, t57, t58, t59, t60, t61, t62, t63, t64, t65, t66, t67, t68, t69, t70, t71, t72, t73, t74, t75, t76, t77, t78, t79, t80, t81, t82, t83, t84, t85, t86, t87, t88, t89, t90, t91, t92, t93, t94, t95, t96, t97, t98, t99, t100, t101, t102, t103, t104, t105, t106, t107, t108, t109, t110, t111, t112, t113, t114, t115, t116, t117, t118, t119, t120, t121, t122, t123, t124, t125, t126, t127, t128, t129, t130, t131, t132, t133, t134, t135, t136, t137, t138, t139, t140, t141, t142, t143, t144, t145, t146, t147, t148, t149, t150, t151, t152, t153, t154, t155, t156, t157, t158, t159, t160, t161, t162, t163, t164, t165, t166, t167, t168], fs⟩ W) :
    (Code.region 14 (List.toArray (({ dst := some 46, op := Op.load 27 (Operand.tmp 3), type := 27, pos := "laws.go:829", after := #[], guard := none } : Oper) :: ({ dst := some 47, op := Op.move (Operand.tmp 9), type := 3, pos := "laws.go:829", after := #[], guard := none } : Oper) :: ({ dst := some 48, op := Op.call { callee := Callee.value (Operand.func 7), args := #[Operand.tmp 47], argTypes := #[3] }, type := 9, pos := "laws.go:829", after := #[{ on := 1, ground := Ground.data }], guard := none } : Oper) :: ({ dst := some 49, op := Op.call { callee := Callee.value (Operand.func 5), args := #[Operand.tmp 46, Operand.tmp 48], argTypes := #[27, 9] }, type := 28, pos := "laws.go:829", after := #[{ on := 0, ground := Ground.data }, { on := 2, ground := Ground.data }, { on := 2, ground := Ground.chain }], guard := none } : Oper) :: ({ dst := some 45, op := Op.move (Operand.tmp 49), type := 28, pos := "laws.go:829", after := #[{ on := 3, ground := Ground.data }], guard := none } : Oper) :: ({ dst := some 50, op := Op.extract (Operand.tmp 45) 0, type := 27, pos := "laws.go:829", after := #[{ on := 4, ground := Ground.data }], guard := none } : Oper) :: ({ dst := some 51, op := Op.extract (Operand.tmp 45) 1, type := 4, pos := "laws.go:829", after := #[{ on := 4, ground := Ground.data }, { on := 8, ground := Ground.gcOnly Departure.lateStores }], guard := none } : Oper) :: ({ dst := some 11, op := Op.alloc 27, type := 0, pos := "laws.go:829", after := #[], guard := none } : Oper) :: ({ dst := none, op := Op.store 27 (Operand.tmp 11) (Operand.tmp 50), type := 0, pos := "laws.go:829", after := #[{ on := 7, ground := Ground.data }, { on := 5, ground := Ground.data }, { on := 3, ground := Ground.chain }, { on := 0, ground := Ground.phase }, { on := 1, ground := Ground.phase }, { on := 2, ground := Ground.phase }, { on := 3, ground := Ground.phase }, { on := 4, ground := Ground.phase }, { on := 5, ground := Ground.phase }, { on := 6, ground := Ground.textOnly Departure.lateStores }, { on := 7, ground := Ground.phase }], guard := none } : Oper) :: ({ dst := some 12, op := Op.assign (Operand.tmp 51), type := 4, pos := "laws.go:829", after := #[{ on := 6, ground := Ground.data }, { on := 8, ground := Ground.chain }, { on := 0, ground := Ground.phase }, { on := 1, ground := Ground.phase }, { on := 2, ground := Ground.phase }, { on := 3, ground := Ground.phase }, { on := 4, ground := Ground.phase }, { on := 5, ground := Ground.phase }, { on := 6, ground := Ground.phase }, { on := 7, ground := Ground.phase }, { on := 8, ground := Ground.phase }], guard := none } : Oper) :: [])) true).wp Try.prog Q ⟨#[t0, t1, t2, .pointer (some ⟨b, 0, none⟩), t4, t5, t6, t7, t8, .int .i64 (n : Nat), t10, t11, t12, t13, t14, t15, t16, t17, t18, t19, t20, t21, t22, t23, t24, t25, t26, t27, t28, t29, t30, t31, t32, t33, t34, t35, t36, t37, t38, t39, t40, t41, t42, t43, t44, t45, t46, t47, t48, t49, t50, t51, t52, t53, t54, t55, t56, t57, t58, t59, t60, t61, t62, t63, t64, t65, t66, t67, t68, t69, t70, t71, t72, t73, t74, t75, t76, t77, t78, t79, t80, t81, t82, t83, t84, t85, t86, t87, t88, t89, t90, t91, t92, t93, t94, t95, t96, t97, t98, t99, t100, t101, t102, t103, t104, t105, t106, t107, t108, t109, t110, t111, t112, t113, t114, t115, t116, t117, t118, t119, t120, t121, t122, t123, t124, t125, t126, t127, t128, t129, t130, t131, t132, t133, t134, t135, t136, t137, t138, t139, t140, t141, t142, t143, t144, t145, t146, t147, t148, t149, t150, t151, t152, t153, t154, t155, t156, t157, t158, t159, t160, t161, t162, t163, t164, t165, t166, t167, t168], fs⟩ w := by
  have hS : ∀ w', Below w.heap.size w w' → (w'.heap[b]? = some (.cells #[.int .i64 l.sent, .int .i64 l.acked, v1, .int .i64 l.got, v2] 27 (0, 0)) ∧ True) := fun w' hb => ⟨blk_bel hx hb, trivial⟩
  have B : Below w.heap.size w w.drew := drew_bel w
  refine wp_region_noPanic ?_
  refine wp_region_held_drew (S := fun w' => w'.heap[b]? = some (.cells #[.int .i64 l.sent, .int .i64 l.acked, v1, .int .i64 l.got, v2] 27 (0, 0)) ∧ True) (by kernel_rfl) (hS _ B) (fun hHeld => ?_)
  refine wpAnyH_take (i := 0) (oi := ({ dst := some 46, op := Op.load 27 (Operand.tmp 3), type := 27, pos := "laws.go:829", after := #[], guard := none } : Oper)) (v := .agg #[.int .i64 l.sent, .int .i64 l.acked, v1, .int .i64 l.got, v2]) rfl (by kernel_rfl) (by kernel_rfl) (by kernel_rfl) (fun _ _ _ h => h) (yields_row (by rfl) 27 _ rfl b rfl #[.int .i64 l.sent, .int .i64 l.acked, v1, .int .i64 l.got, v2] 27 _ (fun _ h => h.1) Try.underlying27 rfl Try.sizeLk) (by assumption) ?_
  simp only [Act.put, List.setIfInBounds_toArray, List.set_cons_zero, List.set_cons_succ]
  refine wpAnyH_take (i := 1) (oi := ({ dst := some 47, op := Op.move (Operand.tmp 9), type := 3, pos := "laws.go:829", after := #[], guard := none } : Oper)) (v := .int .i64 (n : Nat)) rfl (by kernel_rfl) (by kernel_rfl) (by kernel_rfl) (fun _ _ _ h => h) (Or.inl ⟨by rfl, by intro w hSw; go_simp⟩) (by assumption) ?_
  simp only [Act.put, List.setIfInBounds_toArray, List.set_cons_zero, List.set_cons_succ]
  refine wpAnyH_ready (rs := [2, 7]) (by kernel_rfl) (by simp) ?_
  refine AllReadyH.cons rfl (fun K hK => ?_) (AllReadyH.cons rfl (fun K hK => ?_) AllReadyH.nil)
  · have hlo := B.size
    go_simp
    go_wp2_with fail
    refine (ldigits_any n _ hn).mono ?_
    rintro e wC ⟨rfl, hb⟩
    replace B := B.trans (hb.mono B.size)

    clear hb hlo
    refine hK.out _ _ (hS _ B) (fun hHeld => ?_)
    clear hK
    refine wpAnyH_ready (rs := [3, 7]) (by kernel_rfl) (by simp) ?_
    refine AllReadyH.cons rfl (fun K hK => ?_) (AllReadyH.cons rfl (fun K hK => ?_) AllReadyH.nil)
    · have hlo := B.size
      go_simp
      go_wp2_with fail
      refine (ilinksend_any v1 v2 l (dg n) _ (R1.below B) (R2.below B) hs).mono ?_
      rintro e wD ⟨u1, u2, rfl, U1, O2, hb⟩
      replace B := B.trans (hb.mono B.size)
      replace U1 := sown_mono9 U1 hlo
      replace O2 := own_mono O2 hlo
      rw [hr] at U1 O2 ⊢
      obtain ⟨a1, c1, rfl⟩ := U1.form
      obtain ⟨a2, c2, rfl⟩ := own_form O2
      clear hb hlo
      refine hK.out _ _ (hS _ B) (fun hHeld => ?_)
      clear hK
      refine wpAnyH_take (i := 4) (oi := ({ dst := some 45, op := Op.move (Operand.tmp 49), type := 28, pos := "laws.go:829", after := #[{ on := 3, ground := Ground.data }], guard := none } : Oper)) (v := .tuple #[.agg #[.int .i64 r.1.sent, .int .i64 r.1.acked, .slice a1 r.1.q.length c1, .int .i64 r.1.got, .slice a2 r.1.h.length c2], .bool r.2]) rfl (by kernel_rfl) (by kernel_rfl) (by kernel_rfl) (fun _ _ _ h => h) (Or.inl ⟨by rfl, by intro w hSw; go_simp⟩) (by assumption) ?_
      simp only [Act.put, List.setIfInBounds_toArray, List.set_cons_zero, List.set_cons_succ]
      refine wpAnyH_take (i := 5) (oi := ({ dst := some 50, op := Op.extract (Operand.tmp 45) 0, type := 27, pos := "laws.go:829", after := #[{ on := 4, ground := Ground.data }], guard := none } : Oper)) (v := .agg #[.int .i64 r.1.sent, .int .i64 r.1.acked, .slice a1 r.1.q.length c1, .int .i64 r.1.got, .slice a2 r.1.h.length c2]) rfl (by kernel_rfl) (by kernel_rfl) (by kernel_rfl) (fun _ _ _ h => h) (Or.inl ⟨by rfl, by intro w hSw; go_simp⟩) (by assumption) ?_
      simp only [Act.put, List.setIfInBounds_toArray, List.set_cons_zero, List.set_cons_succ]
      refine wpAnyH_take (i := 6) (oi := ({ dst := some 51, op := Op.extract (Operand.tmp 45) 1, type := 4, pos := "laws.go:829", after := #[{ on := 4, ground := Ground.data }, { on := 8, ground := Ground.gcOnly Departure.lateStores }], guard := none } : Oper)) (v := .bool r.2) rfl (by kernel_rfl) (by kernel_rfl) (by kernel_rfl) (fun _ _ _ h => h) (Or.inl ⟨by rfl, by intro w hSw; go_simp⟩) (by assumption) ?_
      simp only [Act.put, List.setIfInBounds_toArray, List.set_cons_zero, List.set_cons_succ]
      refine wpAnyH_ready (rs := [7]) (by kernel_rfl) (by simp) ?_
      refine AllReadyH.cons rfl (fun K hK => ?_) AllReadyH.nil
      go_simp
      go_wp2_with fail
      have XB : w.heap.size ≤ wD.heap.size := B.size
      have hb := alloc_bel wD (Obj.cells #[.int .i64 0, .int .i64 0, .slice none 0 0, .int .i64 0, .slice none 0 0] 27)
      have X : (wD.alloc (Obj.cells #[.int .i64 0, .int .i64 0, .slice none 0 0, .int .i64 0, .slice none 0 0] 27)).heap[wD.heap.size]? = some (Obj.cells #[.int .i64 0, .int .i64 0, .slice none 0 0, .int .i64 0, .slice none 0 0] 27) := heap_alloc_new _ _
      generalize wD.alloc (Obj.cells #[.int .i64 0, .int .i64 0, .slice none 0 0, .int .i64 0, .slice none 0 0] 27) = wL at hb X ⊢
      replace O2 := own_below O2 hb
      replace U1 := U1.below hb
      replace B := B.trans (hb.mono B.size)
      clear hb
      refine hK.out _ _ (hS _ B) (fun hHeld => ?_)
      clear hK
      refine wpAnyH_ready (rs := [8]) (by kernel_rfl) (by simp) ?_
      refine AllReadyH.cons rfl (fun K hK => ?_) AllReadyH.nil
      rw [if_pos (by rfl)]
      refine wp_store_row 27 _ _ rfl (wD.heap.size) #[.int .i64 r.1.sent, .int .i64 r.1.acked, .slice a1 r.1.q.length c1, .int .i64 r.1.got, .slice a2 r.1.h.length c2] rfl rfl 27 #[.int .i64 0, .int .i64 0, .slice none 0 0, .int .i64 0, .slice none 0 0] X Try.sizeLk rfl (by simp [Value.oneCell']) ?_
      replace B := below_setRow B (g := wD.heap.size) XB #[.int .i64 r.1.sent, .int .i64 r.1.acked, .slice a1 r.1.q.length c1, .int .i64 r.1.got, .slice a2 r.1.h.length c2]
      replace U1 := U1.box X (by decide) (fun j hj => setRow_other _ _ j #[.int .i64 r.1.sent, .int .i64 r.1.acked, .slice a1 r.1.q.length c1, .int .i64 r.1.got, .slice a2 r.1.h.length c2] hj) (Nat.le_refl _)
      replace O2 := own_other O2 (own_ne O2 X (by decide)) (fun j hj => setRow_other _ _ j #[.int .i64 r.1.sent, .int .i64 r.1.acked, .slice a1 r.1.q.length c1, .int .i64 r.1.got, .slice a2 r.1.h.length c2] hj)
      replace X := setRow_heap _ _ _ #[.int .i64 r.1.sent, .int .i64 r.1.acked, .slice a1 r.1.q.length c1, .int .i64 r.1.got, .slice a2 r.1.h.length c2] _ _ X
      refine hK.out _ _ (hS _ B) (fun hHeld => ?_)
      clear hK
      simp only [Act.put]
      refine wpAnyH_take (i := 9) (oi := ({ dst := some 12, op := Op.assign (Operand.tmp 51), type := 4, pos := "laws.go:829", after := #[{ on := 6, ground := Ground.data }, { on := 8, ground := Ground.chain }, { on := 0, ground := Ground.phase }, { on := 1, ground := Ground.phase }, { on := 2, ground := Ground.phase }, { on := 3, ground := Ground.phase }, { on := 4, ground := Ground.phase }, { on := 5, ground := Ground.phase }, { on := 6, ground := Ground.phase }, { on := 7, ground := Ground.phase }, { on := 8, ground := Ground.phase }], guard := none } : Oper)) (v := .bool r.2) rfl (by kernel_rfl) (by kernel_rfl) (by kernel_rfl) (fun _ _ _ h => h) (Or.inl ⟨by rfl, by intro w hSw; go_simp⟩) (by assumption) ?_
      simp only [Act.put, List.setIfInBounds_toArray]
      refine wpAnyH_done (by kernel_rfl) ?_ _
      exact NoPanic.normal (hQ _ _ _ _ _ _ _ _ _ _ _ XB X U1 O2 B)
    · go_simp
      go_wp2_with fail
      have XB : w.heap.size ≤ wC.heap.size := B.size
      have hb := alloc_bel wC (Obj.cells #[.int .i64 0, .int .i64 0, .slice none 0 0, .int .i64 0, .slice none 0 0] 27)
      have X : (wC.alloc (Obj.cells #[.int .i64 0, .int .i64 0, .slice none 0 0, .int .i64 0, .slice none 0 0] 27)).heap[wC.heap.size]? = some (Obj.cells #[.int .i64 0, .int .i64 0, .slice none 0 0, .int .i64 0, .slice none 0 0] 27) := heap_alloc_new _ _
      generalize wC.alloc (Obj.cells #[.int .i64 0, .int .i64 0, .slice none 0 0, .int .i64 0, .slice none 0 0] 27) = wL at hb X ⊢
      replace B := B.trans (hb.mono B.size)
      clear hb
      refine hK.out _ _ (hS _ B) (fun hHeld => ?_)
      clear hK
      refine wpAnyH_ready (rs := [3]) (by kernel_rfl) (by simp) ?_
      refine AllReadyH.cons rfl (fun K hK => ?_) AllReadyH.nil
      have hlo := B.size
      go_simp
      go_wp2_with fail
      refine (ilinksend_any v1 v2 l (dg n) _ (R1.below B) (R2.below B) hs).mono ?_
      rintro e wD ⟨u1, u2, rfl, U1, O2, hb⟩
      replace X := blk_bel X hb
      replace B := B.trans (hb.mono B.size)
      replace U1 := sown_mono9 U1 hlo
      replace O2 := own_mono O2 hlo
      rw [hr] at U1 O2 ⊢
      obtain ⟨a1, c1, rfl⟩ := U1.form
      obtain ⟨a2, c2, rfl⟩ := own_form O2
      clear hb hlo
      refine hK.out _ _ (hS _ B) (fun hHeld => ?_)
      clear hK
      refine wpAnyH_take (i := 4) (oi := ({ dst := some 45, op := Op.move (Operand.tmp 49), type := 28, pos := "laws.go:829", after := #[{ on := 3, ground := Ground.data }], guard := none } : Oper)) (v := .tuple #[.agg #[.int .i64 r.1.sent, .int .i64 r.1.acked, .slice a1 r.1.q.length c1, .int .i64 r.1.got, .slice a2 r.1.h.length c2], .bool r.2]) rfl (by kernel_rfl) (by kernel_rfl) (by kernel_rfl) (fun _ _ _ h => h) (Or.inl ⟨by rfl, by intro w hSw; go_simp⟩) (by assumption) ?_
      simp only [Act.put, List.setIfInBounds_toArray, List.set_cons_zero, List.set_cons_succ]
      refine wpAnyH_take (i := 5) (oi := ({ dst := some 50, op := Op.extract (Operand.tmp 45) 0, type := 27, pos := "laws.go:829", after := #[{ on := 4, ground := Ground.data }], guard := none } : Oper)) (v := .agg #[.int .i64 r.1.sent, .int .i64 r.1.acked, .slice a1 r.1.q.length c1, .int .i64 r.1.got, .slice a2 r.1.h.length c2]) rfl (by kernel_rfl) (by kernel_rfl) (by kernel_rfl) (fun _ _ _ h => h) (Or.inl ⟨by rfl, by intro w hSw; go_simp⟩) (by assumption) ?_
      simp only [Act.put, List.setIfInBounds_toArray, List.set_cons_zero, List.set_cons_succ]
      refine wpAnyH_take (i := 6) (oi := ({ dst := some 51, op := Op.extract (Operand.tmp 45) 1, type := 4, pos := "laws.go:829", after := #[{ on := 4, ground := Ground.data }, { on := 8, ground := Ground.gcOnly Departure.lateStores }], guard := none } : Oper)) (v := .bool r.2) rfl (by kernel_rfl) (by kernel_rfl) (by kernel_rfl) (fun _ _ _ h => h) (Or.inl ⟨by rfl, by intro w hSw; go_simp⟩) (by assumption) ?_
      simp only [Act.put, List.setIfInBounds_toArray, List.set_cons_zero, List.set_cons_succ]
      refine wpAnyH_ready (rs := [8]) (by kernel_rfl) (by simp) ?_
      refine AllReadyH.cons rfl (fun K hK => ?_) AllReadyH.nil
      rw [if_pos (by rfl)]
      refine wp_store_row 27 _ _ rfl (wC.heap.size) #[.int .i64 r.1.sent, .int .i64 r.1.acked, .slice a1 r.1.q.length c1, .int .i64 r.1.got, .slice a2 r.1.h.length c2] rfl rfl 27 #[.int .i64 0, .int .i64 0, .slice none 0 0, .int .i64 0, .slice none 0 0] X Try.sizeLk rfl (by simp [Value.oneCell']) ?_
      replace B := below_setRow B (g := wC.heap.size) XB #[.int .i64 r.1.sent, .int .i64 r.1.acked, .slice a1 r.1.q.length c1, .int .i64 r.1.got, .slice a2 r.1.h.length c2]
      replace U1 := U1.box X (by decide) (fun j hj => setRow_other _ _ j #[.int .i64 r.1.sent, .int .i64 r.1.acked, .slice a1 r.1.q.length c1, .int .i64 r.1.got, .slice a2 r.1.h.length c2] hj) (Nat.le_refl _)
      replace O2 := own_other O2 (own_ne O2 X (by decide)) (fun j hj => setRow_other _ _ j #[.int .i64 r.1.sent, .int .i64 r.1.acked, .slice a1 r.1.q.length c1, .int .i64 r.1.got, .slice a2 r.1.h.length c2] hj)
      replace X := setRow_heap _ _ _ #[.int .i64 r.1.sent, .int .i64 r.1.acked, .slice a1 r.1.q.length c1, .int .i64 r.1.got, .slice a2 r.1.h.length c2] _ _ X
      refine hK.out _ _ (hS _ B) (fun hHeld => ?_)
      clear hK
      simp only [Act.put]
      refine wpAnyH_take (i := 9) (oi := ({ dst := some 12, op := Op.assign (Operand.tmp 51), type := 4, pos := "laws.go:829", after := #[{ on := 6, ground := Ground.data }, { on := 8, ground := Ground.chain }, { on := 0, ground := Ground.phase }, { on := 1, ground := Ground.phase }, { on := 2, ground := Ground.phase }, { on := 3, ground := Ground.phase }, { on := 4, ground := Ground.phase }, { on := 5, ground := Ground.phase }, { on := 6, ground := Ground.phase }, { on := 7, ground := Ground.phase }, { on := 8, ground := Ground.phase }], guard := none } : Oper)) (v := .bool r.2) rfl (by kernel_rfl) (by kernel_rfl) (by kernel_rfl) (fun _ _ _ h => h) (Or.inl ⟨by rfl, by intro w hSw; go_simp⟩) (by assumption) ?_
      simp only [Act.put, List.setIfInBounds_toArray]
      refine wpAnyH_done (by kernel_rfl) ?_ _
      exact NoPanic.normal (hQ _ _ _ _ _ _ _ _ _ _ _ XB X U1 O2 B)
  · go_simp
    go_wp2_with fail
    have XB : w.heap.size ≤ w.heap.size := Nat.le_refl _
    have hb : Below w.heap.size w (w.alloc (Obj.cells #[.int .i64 0, .int .i64 0, .slice none 0 0, .int .i64 0, .slice none 0 0] 27)).drew := ((Below.refl _ _).alloc (Nat.le_refl _) _).drew
    have X : (w.alloc (Obj.cells #[.int .i64 0, .int .i64 0, .slice none 0 0, .int .i64 0, .slice none 0 0] 27)).drew.heap[w.heap.size]? = some (Obj.cells #[.int .i64 0, .int .i64 0, .slice none 0 0, .int .i64 0, .slice none 0 0] 27) := heap_alloc_new w _
    generalize (w.alloc (Obj.cells #[.int .i64 0, .int .i64 0, .slice none 0 0, .int .i64 0, .slice none 0 0] 27)).drew = wL at hb X ⊢
    replace B := hb
    clear hb
    refine hK.out _ _ (hS _ B) (fun hHeld => ?_)
    clear hK
    refine wpAnyH_ready (rs := [2]) (by kernel_rfl) (by simp) ?_
    refine AllReadyH.cons rfl (fun K hK => ?_) AllReadyH.nil
    have hlo := B.size
    go_simp
    go_wp2_with fail
    refine (ldigits_any n _ hn).mono ?_
    rintro e wC ⟨rfl, hb⟩
    replace X := blk_bel X hb
    replace B := B.trans (hb.mono B.size)

    clear hb hlo
    refine hK.out _ _ (hS _ B) (fun hHeld => ?_)
    clear hK
    refine wpAnyH_ready (rs := [3]) (by kernel_rfl) (by simp) ?_
    refine AllReadyH.cons rfl (fun K hK => ?_) AllReadyH.nil
    have hlo := B.size
    go_simp
    go_wp2_with fail
    refine (ilinksend_any v1 v2 l (dg n) _ (R1.below B) (R2.below B) hs).mono ?_
    rintro e wD ⟨u1, u2, rfl, U1, O2, hb⟩
    replace X := blk_bel X hb
    replace B := B.trans (hb.mono B.size)
    replace U1 := sown_mono9 U1 hlo
    replace O2 := own_mono O2 hlo
    rw [hr] at U1 O2 ⊢
    obtain ⟨a1, c1, rfl⟩ := U1.form
    obtain ⟨a2, c2, rfl⟩ := own_form O2
    clear hb hlo
    refine hK.out _ _ (hS _ B) (fun hHeld => ?_)
    clear hK
    refine wpAnyH_take (i := 4) (oi := ({ dst := some 45, op := Op.move (Operand.tmp 49), type := 28, pos := "laws.go:829", after := #[{ on := 3, ground := Ground.data }], guard := none } : Oper)) (v := .tuple #[.agg #[.int .i64 r.1.sent, .int .i64 r.1.acked, .slice a1 r.1.q.length c1, .int .i64 r.1.got, .slice a2 r.1.h.length c2], .bool r.2]) rfl (by kernel_rfl) (by kernel_rfl) (by kernel_rfl) (fun _ _ _ h => h) (Or.inl ⟨by rfl, by intro w hSw; go_simp⟩) (by assumption) ?_
    simp only [Act.put, List.setIfInBounds_toArray, List.set_cons_zero, List.set_cons_succ]
    refine wpAnyH_take (i := 5) (oi := ({ dst := some 50, op := Op.extract (Operand.tmp 45) 0, type := 27, pos := "laws.go:829", after := #[{ on := 4, ground := Ground.data }], guard := none } : Oper)) (v := .agg #[.int .i64 r.1.sent, .int .i64 r.1.acked, .slice a1 r.1.q.length c1, .int .i64 r.1.got, .slice a2 r.1.h.length c2]) rfl (by kernel_rfl) (by kernel_rfl) (by kernel_rfl) (fun _ _ _ h => h) (Or.inl ⟨by rfl, by intro w hSw; go_simp⟩) (by assumption) ?_
    simp only [Act.put, List.setIfInBounds_toArray, List.set_cons_zero, List.set_cons_succ]
    refine wpAnyH_take (i := 6) (oi := ({ dst := some 51, op := Op.extract (Operand.tmp 45) 1, type := 4, pos := "laws.go:829", after := #[{ on := 4, ground := Ground.data }, { on := 8, ground := Ground.gcOnly Departure.lateStores }], guard := none } : Oper)) (v := .bool r.2) rfl (by kernel_rfl) (by kernel_rfl) (by kernel_rfl) (fun _ _ _ h => h) (Or.inl ⟨by rfl, by intro w hSw; go_simp⟩) (by assumption) ?_
    simp only [Act.put, List.setIfInBounds_toArray, List.set_cons_zero, List.set_cons_succ]
    refine wpAnyH_ready (rs := [8]) (by kernel_rfl) (by simp) ?_
    refine AllReadyH.cons rfl (fun K hK => ?_) AllReadyH.nil
    rw [if_pos (by rfl)]
    refine wp_store_row 27 _ _ rfl (w.heap.size) #[.int .i64 r.1.sent, .int .i64 r.1.acked, .slice a1 r.1.q.length c1, .int .i64 r.1.got, .slice a2 r.1.h.length c2] rfl rfl 27 #[.int .i64 0, .int .i64 0, .slice none 0 0, .int .i64 0, .slice none 0 0] X Try.sizeLk rfl (by simp [Value.oneCell']) ?_
    replace B := below_setRow B (g := w.heap.size) XB #[.int .i64 r.1.sent, .int .i64 r.1.acked, .slice a1 r.1.q.length c1, .int .i64 r.1.got, .slice a2 r.1.h.length c2]
    replace U1 := U1.box X (by decide) (fun j hj => setRow_other _ _ j #[.int .i64 r.1.sent, .int .i64 r.1.acked, .slice a1 r.1.q.length c1, .int .i64 r.1.got, .slice a2 r.1.h.length c2] hj) (Nat.le_refl _)
    replace O2 := own_other O2 (own_ne O2 X (by decide)) (fun j hj => setRow_other _ _ j #[.int .i64 r.1.sent, .int .i64 r.1.acked, .slice a1 r.1.q.length c1, .int .i64 r.1.got, .slice a2 r.1.h.length c2] hj)
    replace X := setRow_heap _ _ _ #[.int .i64 r.1.sent, .int .i64 r.1.acked, .slice a1 r.1.q.length c1, .int .i64 r.1.got, .slice a2 r.1.h.length c2] _ _ X
    refine hK.out _ _ (hS _ B) (fun hHeld => ?_)
    clear hK
    simp only [Act.put]
    refine wpAnyH_take (i := 9) (oi := ({ dst := some 12, op := Op.assign (Operand.tmp 51), type := 4, pos := "laws.go:829", after := #[{ on := 6, ground := Ground.data }, { on := 8, ground := Ground.chain }, { on := 0, ground := Ground.phase }, { on := 1, ground := Ground.phase }, { on := 2, ground := Ground.phase }, { on := 3, ground := Ground.phase }, { on := 4, ground := Ground.phase }, { on := 5, ground := Ground.phase }, { on := 6, ground := Ground.phase }, { on := 7, ground := Ground.phase }, { on := 8, ground := Ground.phase }], guard := none } : Oper)) (v := .bool r.2) rfl (by kernel_rfl) (by kernel_rfl) (by kernel_rfl) (fun _ _ _ h => h) (Or.inl ⟨by rfl, by intro w hSw; go_simp⟩) (by assumption) ?_
    simp only [Act.put, List.setIfInBounds_toArray]
    refine wpAnyH_done (by kernel_rfl) ?_ _
    exact NoPanic.normal (hQ _ _ _ _ _ _ _ _ _ _ _ XB X U1 O2 B)


set_option maxRecDepth 100000 in
set_option maxHeartbeats 6400000 in
theorem way_r37 {t0 t1 t2 t4 t5 t6 t7 t8 t9 t10 t11 t12 t13 t14 t15 t16 t17 t20 t21 t22 t23 t24 t25 t26 t27 t28 t29 t30 t31 t32 t33 t34 t35 t36 t37 t38 t39 t40 t41 t42 t43 t44 t45 t46 t47 t48 t49 t50 t51 t52 t53 t54 t55 t56 t57 t58 t59 t60 t61 t62 t63 t64 t65 t66 t67 t68 t69 t70 t71 t72 t73 t74 t75 t76 t77 t78 t79 t80 t81 t82 t83 t84 t85 t86 t87 t88 t89 t90 t91 t92 t93 t94 t95 t96 t97 t98 t99 t100 t101 t102 t103 t104 t105 t106 t107 t108 t109 t110 t111 t112 t113 t114 t115 t116 t117 t118 t119 t120 t121 t122 t123 t124 t125 t126 t127 t128 t129 t130 t131 t132 t133 t134 t135 t136 t137 t138 t139 t140 t141 t142 t143 t144 t145 t146 t147 t148 t149 t150 t151 t152 t153 t154 t155 t156 t157 t158 t159 t160 t161 t162 t163 t164 t165 t166 t167 t168 : Value} {fs : List Deferred} (b g o j m cap : Nat) (v1 v2 : Value) (l : Lk) (x : Pc) (r : Lk × List ByteArray) (w : World) (Q : Exit → Act → World → Prop)
    (hx : w.heap[b]? = some (.cells #[.int .i64 l.sent, .int .i64 l.acked, v1, .int .i64 l.got, v2] 27 (0, 0))) (R1 : StRow w v1 l.q) (R2 : PcRow w v2 l.h) (h1 : l.q.length ≤ 2097152) (h2 : l.h.length ≤ 2097152) (hs : x.s.size ≤ maxLen) (hr : takeR l x = r) (hgl : g < w.heap.size) (hp : w.rangeAt g (o + j * 2) [.int .i64 x.n, .string x.s]) (hj : j < m)
    (hQ : ∀ s134 s135 s136 s137 s138 s139 s133 s140 s141 (u1 u2 u3 : Value) (nb : Nat) (W : World), w.heap.size ≤ nb → W.heap[nb]? = some (.cells #[.int .i64 r.1.sent, .int .i64 r.1.acked, u1, .int .i64 r.1.got, u2] 27 (0, 0)) → W.ownsRow w.heap.size 9 1 u1 r.1.q.length (stv r.1.q) → W.ownsRow w.heap.size 36 2 u2 r.1.h.length (pccs r.1.h) → W.ownsRow w.heap.size 9 1 u3 r.2.length (stv r.2) → (∀ g, u3.ownBlock = some g → u1.ownBlock ≠ some g) → Below w.heap.size w W → Q .normal ⟨#[t0, t1, t2, .pointer (some ⟨b, 0, none⟩), t4, t5, t6, t7, t8, t9, t10, t11, t12, t13, t14, t15, t16, t17, .slice (some ⟨g, o, none⟩) m cap, .int .i64 (j : Nat), .pointer (some ⟨nb, 0, none⟩), u3, t22, t23, t24, t25, t26, t27, t28, t29, t30, t31, t32, t33, t34, t35, t36, t37, t38, t39, t40, t41, t42, t43, t44, t45, t46, t47, t48, t49, t50, t51, t52, t53, t54, t55, t56, t57, t58, t59, t60, t61, t62, t63, t64, t65, t66, t67, t68, t69, t70, t71, t72, t73, t74, t75, t76, t77, t78, t79, t80, t81, t82, t83, t84, t85, t86, t87, t88, t89, t90, t91, t92, t93, t94, t95, t96, t97, t98, t99, t100, t101, t102, t103, t104, t105, t106, t107, t108, t109, t110, t111, t112, t113, t114, t115, t116, t117, t118, t119, t120, t121, t122, t123, t124, t125, t126, t127, t128, t129, t130, t131, t132, s133, s134, s135, s136, s137, s138, s139, s140, s141, t142, t143, t144, t145, t146, t147, t148, t149, t150, t151, t152, t153, t154, t155, t156, t157, t158, t159, t160, t161, t162, t163, t164, t165, t166, t167, t168], fs⟩ W) :
    (Code.region 37 (List.toArray (({ dst := some 134, op := Op.load 27 (Operand.tmp 3), type := 27, pos := "laws.go:852", after := #[], guard := none } : Oper) :: ({ dst := some 135, op := Op.move (Operand.tmp 18), type := 25, pos := "laws.go:852", after := #[], guard := none } : Oper) :: ({ dst := some 136, op := Op.move (Operand.tmp 19), type := 3, pos := "laws.go:852", after := #[], guard := none } : Oper) :: ({ dst := some 137, op := Op.indexAddr 25 (Operand.tmp 135) (Operand.tmp 136), type := 0, pos := "laws.go:852", after := #[{ on := 1, ground := Ground.data }, { on := 2, ground := Ground.data }], guard := none } : Oper) :: ({ dst := some 138, op := Op.load 36 (Operand.tmp 137), type := 36, pos := "laws.go:852", after := #[{ on := 3, ground := Ground.data }], guard := none } : Oper) :: ({ dst := some 139, op := Op.call { callee := Callee.value (Operand.func 9), args := #[Operand.tmp 134, Operand.tmp 138], argTypes := #[27, 36] }, type := 33, pos := "laws.go:852", after := #[{ on := 0, ground := Ground.data }, { on := 4, ground := Ground.data }], guard := none } : Oper) :: ({ dst := some 133, op := Op.move (Operand.tmp 139), type := 33, pos := "laws.go:852", after := #[{ on := 5, ground := Ground.data }], guard := none } : Oper) :: ({ dst := some 140, op := Op.extract (Operand.tmp 133) 0, type := 27, pos := "laws.go:852", after := #[{ on := 6, ground := Ground.data }], guard := none } : Oper) :: ({ dst := some 141, op := Op.extract (Operand.tmp 133) 1, type := 24, pos := "laws.go:852", after := #[{ on := 6, ground := Ground.data }, { on := 10, ground := Ground.gcOnly Departure.lateStores }], guard := none } : Oper) :: ({ dst := some 20, op := Op.alloc 27, type := 0, pos := "laws.go:852", after := #[], guard := none } : Oper) :: ({ dst := none, op := Op.store 27 (Operand.tmp 20) (Operand.tmp 140), type := 0, pos := "laws.go:852", after := #[{ on := 9, ground := Ground.data }, { on := 7, ground := Ground.data }, { on := 5, ground := Ground.chain }, { on := 0, ground := Ground.phase }, { on := 1, ground := Ground.phase }, { on := 2, ground := Ground.phase }, { on := 3, ground := Ground.phase }, { on := 4, ground := Ground.phase }, { on := 5, ground := Ground.phase }, { on := 6, ground := Ground.phase }, { on := 7, ground := Ground.phase }, { on := 8, ground := Ground.textOnly Departure.lateStores }, { on := 9, ground := Ground.phase }], guard := none } : Oper) :: ({ dst := some 21, op := Op.assign (Operand.tmp 141), type := 24, pos := "laws.go:852", after := #[{ on := 8, ground := Ground.data }, { on := 10, ground := Ground.chain }, { on := 0, ground := Ground.phase }, { on := 1, ground := Ground.phase }, { on := 2, ground := Ground.phase }, { on := 3, ground := Ground.phase }, { on := 4, ground := Ground.phase }, { on := 5, ground := Ground.phase }, { on := 6, ground := Ground.phase }, { on := 7, ground := Ground.phase }, { on := 8, ground := Ground.phase }, { on := 9, ground := Ground.phase }, { on := 10, ground := Ground.phase }], guard := none } : Oper) :: [])) true).wp Try.prog Q ⟨#[t0, t1, t2, .pointer (some ⟨b, 0, none⟩), t4, t5, t6, t7, t8, t9, t10, t11, t12, t13, t14, t15, t16, t17, .slice (some ⟨g, o, none⟩) m cap, .int .i64 (j : Nat), t20, t21, t22, t23, t24, t25, t26, t27, t28, t29, t30, t31, t32, t33, t34, t35, t36, t37, t38, t39, t40, t41, t42, t43, t44, t45, t46, t47, t48, t49, t50, t51, t52, t53, t54, t55, t56, t57, t58, t59, t60, t61, t62, t63, t64, t65, t66, t67, t68, t69, t70, t71, t72, t73, t74, t75, t76, t77, t78, t79, t80, t81, t82, t83, t84, t85, t86, t87, t88, t89, t90, t91, t92, t93, t94, t95, t96, t97, t98, t99, t100, t101, t102, t103, t104, t105, t106, t107, t108, t109, t110, t111, t112, t113, t114, t115, t116, t117, t118, t119, t120, t121, t122, t123, t124, t125, t126, t127, t128, t129, t130, t131, t132, t133, t134, t135, t136, t137, t138, t139, t140, t141, t142, t143, t144, t145, t146, t147, t148, t149, t150, t151, t152, t153, t154, t155, t156, t157, t158, t159, t160, t161, t162, t163, t164, t165, t166, t167, t168], fs⟩ w := by
  have hS : ∀ w', Below w.heap.size w w' → (w'.heap[b]? = some (.cells #[.int .i64 l.sent, .int .i64 l.acked, v1, .int .i64 l.got, v2] 27 (0, 0)) ∧ w'.rangeAt g (o + j * 2) [.int .i64 x.n, .string x.s]) := fun w' hb => ⟨blk_bel hx hb, range_below hp hb hgl⟩
  have hji : (j : Int) < (m : Int) := by omega
  have B : Below w.heap.size w w.drew := drew_bel w
  refine wp_region_noPanic ?_
  refine wp_region_held_drew (S := fun w' => w'.heap[b]? = some (.cells #[.int .i64 l.sent, .int .i64 l.acked, v1, .int .i64 l.got, v2] 27 (0, 0)) ∧ w'.rangeAt g (o + j * 2) [.int .i64 x.n, .string x.s]) (by kernel_rfl) (hS _ B) (fun hHeld => ?_)
  refine wpAnyH_take (i := 0) (oi := ({ dst := some 134, op := Op.load 27 (Operand.tmp 3), type := 27, pos := "laws.go:852", after := #[], guard := none } : Oper)) (v := .agg #[.int .i64 l.sent, .int .i64 l.acked, v1, .int .i64 l.got, v2]) rfl (by kernel_rfl) (by kernel_rfl) (by kernel_rfl) (fun _ _ _ h => h) (yields_row (by rfl) 27 _ rfl b rfl #[.int .i64 l.sent, .int .i64 l.acked, v1, .int .i64 l.got, v2] 27 _ (fun _ h => h.1) Try.underlying27 rfl Try.sizeLk) (by assumption) ?_
  simp only [Act.put, List.setIfInBounds_toArray, List.set_cons_zero, List.set_cons_succ]
  refine wpAnyH_take (i := 1) (oi := ({ dst := some 135, op := Op.move (Operand.tmp 18), type := 25, pos := "laws.go:852", after := #[], guard := none } : Oper)) (v := .slice (some ⟨g, o, none⟩) m cap) rfl (by kernel_rfl) (by kernel_rfl) (by kernel_rfl) (fun _ _ _ h => h) (Or.inl ⟨by rfl, by intro w hSw; go_simp⟩) (by assumption) ?_
  simp only [Act.put, List.setIfInBounds_toArray, List.set_cons_zero, List.set_cons_succ]
  refine wpAnyH_take (i := 2) (oi := ({ dst := some 136, op := Op.move (Operand.tmp 19), type := 3, pos := "laws.go:852", after := #[], guard := none } : Oper)) (v := .int .i64 (j : Nat)) rfl (by kernel_rfl) (by kernel_rfl) (by kernel_rfl) (fun _ _ _ h => h) (Or.inl ⟨by rfl, by intro w hSw; go_simp⟩) (by assumption) ?_
  simp only [Act.put, List.setIfInBounds_toArray, List.set_cons_zero, List.set_cons_succ]
  refine wpAnyH_take (i := 3) (oi := ({ dst := some 137, op := Op.indexAddr 25 (Operand.tmp 135) (Operand.tmp 136), type := 0, pos := "laws.go:852", after := #[{ on := 1, ground := Ground.data }, { on := 2, ground := Ground.data }], guard := none } : Oper)) (v := .pointer (some ⟨g, o + j * 2, none⟩)) rfl (by kernel_rfl) (by kernel_rfl) (by kernel_rfl) (fun _ _ _ h => h) (Or.inl ⟨by rfl, by intro w hSw; go_simp⟩) (by assumption) ?_
  simp only [Act.put, List.setIfInBounds_toArray, List.set_cons_zero, List.set_cons_succ]
  refine wpAnyH_take (i := 4) (oi := ({ dst := some 138, op := Op.load 36 (Operand.tmp 137), type := 36, pos := "laws.go:852", after := #[{ on := 3, ground := Ground.data }], guard := none } : Oper)) (v := .agg #[.int .i64 x.n, .string x.s]) rfl (by kernel_rfl) (by kernel_rfl) (by kernel_rfl) (fun _ _ _ h => h) (yieldsIf_load_mid (by rfl) 36 _ rfl g (o + j * 2) rfl [.int .i64 x.n, .string x.s] _ (fun _ h => h.2) Try.underlying36 rfl (by kernel_rfl)) (by assumption) ?_
  simp only [Act.put, List.setIfInBounds_toArray, List.set_cons_zero, List.set_cons_succ]
  refine wpAnyH_ready (rs := [5, 9]) (by kernel_rfl) (by simp) ?_
  refine AllReadyH.cons rfl (fun K hK => ?_) (AllReadyH.cons rfl (fun K hK => ?_) AllReadyH.nil)
  · have hlo := B.size
    go_simp
    go_wp2_with fail
    refine (ilinktake_any v1 v2 l x _ (R1.below B) (R2.below B) h1 h2 hs).mono ?_
    rintro e wD ⟨u1, u2, u3, rfl, O1, O2, O3, hap, hb⟩
    replace B := B.trans (hb.mono B.size)
    replace O1 := own_mono O1 hlo
    replace O2 := own_mono O2 hlo
    replace O3 := own_mono O3 hlo
    rw [hr] at O1 O2 O3 ⊢
    obtain ⟨a1, c1, rfl⟩ := own_form O1
    obtain ⟨a2, c2, rfl⟩ := own_form O2
    obtain ⟨a3, c3, rfl⟩ := own_form O3
    clear hb hlo
    refine hK.out _ _ (hS _ B) (fun hHeld => ?_)
    clear hK
    refine wpAnyH_take (i := 6) (oi := ({ dst := some 133, op := Op.move (Operand.tmp 139), type := 33, pos := "laws.go:852", after := #[{ on := 5, ground := Ground.data }], guard := none } : Oper)) (v := .tuple #[.agg #[.int .i64 r.1.sent, .int .i64 r.1.acked, .slice a1 r.1.q.length c1, .int .i64 r.1.got, .slice a2 r.1.h.length c2], .slice a3 r.2.length c3]) rfl (by kernel_rfl) (by kernel_rfl) (by kernel_rfl) (fun _ _ _ h => h) (Or.inl ⟨by rfl, by intro w hSw; go_simp⟩) (by assumption) ?_
    simp only [Act.put, List.setIfInBounds_toArray, List.set_cons_zero, List.set_cons_succ]
    refine wpAnyH_take (i := 7) (oi := ({ dst := some 140, op := Op.extract (Operand.tmp 133) 0, type := 27, pos := "laws.go:852", after := #[{ on := 6, ground := Ground.data }], guard := none } : Oper)) (v := .agg #[.int .i64 r.1.sent, .int .i64 r.1.acked, .slice a1 r.1.q.length c1, .int .i64 r.1.got, .slice a2 r.1.h.length c2]) rfl (by kernel_rfl) (by kernel_rfl) (by kernel_rfl) (fun _ _ _ h => h) (Or.inl ⟨by rfl, by intro w hSw; go_simp⟩) (by assumption) ?_
    simp only [Act.put, List.setIfInBounds_toArray, List.set_cons_zero, List.set_cons_succ]
    refine wpAnyH_take (i := 8) (oi := ({ dst := some 141, op := Op.extract (Operand.tmp 133) 1, type := 24, pos := "laws.go:852", after := #[{ on := 6, ground := Ground.data }, { on := 10, ground := Ground.gcOnly Departure.lateStores }], guard := none } : Oper)) (v := .slice a3 r.2.length c3) rfl (by kernel_rfl) (by kernel_rfl) (by kernel_rfl) (fun _ _ _ h => h) (Or.inl ⟨by rfl, by intro w hSw; go_simp⟩) (by assumption) ?_
    simp only [Act.put, List.setIfInBounds_toArray, List.set_cons_zero, List.set_cons_succ]
    refine wpAnyH_ready (rs := [9]) (by kernel_rfl) (by simp) ?_
    refine AllReadyH.cons rfl (fun K hK => ?_) AllReadyH.nil
    go_simp
    go_wp2_with fail
    have XB : w.heap.size ≤ wD.heap.size := B.size
    have hb := alloc_bel wD (Obj.cells #[.int .i64 0, .int .i64 0, .slice none 0 0, .int .i64 0, .slice none 0 0] 27)
    have X : (wD.alloc (Obj.cells #[.int .i64 0, .int .i64 0, .slice none 0 0, .int .i64 0, .slice none 0 0] 27)).heap[wD.heap.size]? = some (Obj.cells #[.int .i64 0, .int .i64 0, .slice none 0 0, .int .i64 0, .slice none 0 0] 27) := heap_alloc_new _ _
    generalize wD.alloc (Obj.cells #[.int .i64 0, .int .i64 0, .slice none 0 0, .int .i64 0, .slice none 0 0] 27) = wL at hb X ⊢
    replace O1 := own_below O1 hb
    replace O2 := own_below O2 hb
    replace O3 := own_below O3 hb
    replace B := B.trans (hb.mono B.size)
    clear hb
    refine hK.out _ _ (hS _ B) (fun hHeld => ?_)
    clear hK
    refine wpAnyH_ready (rs := [10]) (by kernel_rfl) (by simp) ?_
    refine AllReadyH.cons rfl (fun K hK => ?_) AllReadyH.nil
    rw [if_pos (by rfl)]
    refine wp_store_row 27 _ _ rfl (wD.heap.size) #[.int .i64 r.1.sent, .int .i64 r.1.acked, .slice a1 r.1.q.length c1, .int .i64 r.1.got, .slice a2 r.1.h.length c2] rfl rfl 27 #[.int .i64 0, .int .i64 0, .slice none 0 0, .int .i64 0, .slice none 0 0] X Try.sizeLk rfl (by simp [Value.oneCell']) ?_
    replace B := below_setRow B (g := wD.heap.size) XB #[.int .i64 r.1.sent, .int .i64 r.1.acked, .slice a1 r.1.q.length c1, .int .i64 r.1.got, .slice a2 r.1.h.length c2]
    replace O1 := own_other O1 (own_ne O1 X (by decide)) (fun j hj => setRow_other _ _ j #[.int .i64 r.1.sent, .int .i64 r.1.acked, .slice a1 r.1.q.length c1, .int .i64 r.1.got, .slice a2 r.1.h.length c2] hj)
    replace O2 := own_other O2 (own_ne O2 X (by decide)) (fun j hj => setRow_other _ _ j #[.int .i64 r.1.sent, .int .i64 r.1.acked, .slice a1 r.1.q.length c1, .int .i64 r.1.got, .slice a2 r.1.h.length c2] hj)
    replace O3 := own_other O3 (own_ne O3 X (by decide)) (fun j hj => setRow_other _ _ j #[.int .i64 r.1.sent, .int .i64 r.1.acked, .slice a1 r.1.q.length c1, .int .i64 r.1.got, .slice a2 r.1.h.length c2] hj)
    replace X := setRow_heap _ _ _ #[.int .i64 r.1.sent, .int .i64 r.1.acked, .slice a1 r.1.q.length c1, .int .i64 r.1.got, .slice a2 r.1.h.length c2] _ _ X
    refine hK.out _ _ (hS _ B) (fun hHeld => ?_)
    clear hK
    simp only [Act.put]
    refine wpAnyH_take (i := 11) (oi := ({ dst := some 21, op := Op.assign (Operand.tmp 141), type := 24, pos := "laws.go:852", after := #[{ on := 8, ground := Ground.data }, { on := 10, ground := Ground.chain }, { on := 0, ground := Ground.phase }, { on := 1, ground := Ground.phase }, { on := 2, ground := Ground.phase }, { on := 3, ground := Ground.phase }, { on := 4, ground := Ground.phase }, { on := 5, ground := Ground.phase }, { on := 6, ground := Ground.phase }, { on := 7, ground := Ground.phase }, { on := 8, ground := Ground.phase }, { on := 9, ground := Ground.phase }, { on := 10, ground := Ground.phase }], guard := none } : Oper)) (v := .slice a3 r.2.length c3) rfl (by kernel_rfl) (by kernel_rfl) (by kernel_rfl) (fun _ _ _ h => h) (Or.inl ⟨by rfl, by intro w hSw; go_simp⟩) (by assumption) ?_
    simp only [Act.put, List.setIfInBounds_toArray]
    refine wpAnyH_done (by kernel_rfl) ?_ _
    exact NoPanic.normal (hQ _ _ _ _ _ _ _ _ _ _ _ _ _ _ XB X O1 O2 O3 hap B)
  · go_simp
    go_wp2_with fail
    have XB : w.heap.size ≤ w.heap.size := Nat.le_refl _
    have hb : Below w.heap.size w (w.alloc (Obj.cells #[.int .i64 0, .int .i64 0, .slice none 0 0, .int .i64 0, .slice none 0 0] 27)).drew := ((Below.refl _ _).alloc (Nat.le_refl _) _).drew
    have X : (w.alloc (Obj.cells #[.int .i64 0, .int .i64 0, .slice none 0 0, .int .i64 0, .slice none 0 0] 27)).drew.heap[w.heap.size]? = some (Obj.cells #[.int .i64 0, .int .i64 0, .slice none 0 0, .int .i64 0, .slice none 0 0] 27) := heap_alloc_new w _
    generalize (w.alloc (Obj.cells #[.int .i64 0, .int .i64 0, .slice none 0 0, .int .i64 0, .slice none 0 0] 27)).drew = wL at hb X ⊢
    replace B := hb
    clear hb
    refine hK.out _ _ (hS _ B) (fun hHeld => ?_)
    clear hK
    refine wpAnyH_ready (rs := [5]) (by kernel_rfl) (by simp) ?_
    refine AllReadyH.cons rfl (fun K hK => ?_) AllReadyH.nil
    have hlo := B.size
    go_simp
    go_wp2_with fail
    refine (ilinktake_any v1 v2 l x _ (R1.below B) (R2.below B) h1 h2 hs).mono ?_
    rintro e wD ⟨u1, u2, u3, rfl, O1, O2, O3, hap, hb⟩
    replace X := blk_bel X hb
    replace B := B.trans (hb.mono B.size)
    replace O1 := own_mono O1 hlo
    replace O2 := own_mono O2 hlo
    replace O3 := own_mono O3 hlo
    rw [hr] at O1 O2 O3 ⊢
    obtain ⟨a1, c1, rfl⟩ := own_form O1
    obtain ⟨a2, c2, rfl⟩ := own_form O2
    obtain ⟨a3, c3, rfl⟩ := own_form O3
    clear hb hlo
    refine hK.out _ _ (hS _ B) (fun hHeld => ?_)
    clear hK
    refine wpAnyH_take (i := 6) (oi := ({ dst := some 133, op := Op.move (Operand.tmp 139), type := 33, pos := "laws.go:852", after := #[{ on := 5, ground := Ground.data }], guard := none } : Oper)) (v := .tuple #[.agg #[.int .i64 r.1.sent, .int .i64 r.1.acked, .slice a1 r.1.q.length c1, .int .i64 r.1.got, .slice a2 r.1.h.length c2], .slice a3 r.2.length c3]) rfl (by kernel_rfl) (by kernel_rfl) (by kernel_rfl) (fun _ _ _ h => h) (Or.inl ⟨by rfl, by intro w hSw; go_simp⟩) (by assumption) ?_
    simp only [Act.put, List.setIfInBounds_toArray, List.set_cons_zero, List.set_cons_succ]
    refine wpAnyH_take (i := 7) (oi := ({ dst := some 140, op := Op.extract (Operand.tmp 133) 0, type := 27, pos := "laws.go:852", after := #[{ on := 6, ground := Ground.data }], guard := none } : Oper)) (v := .agg #[.int .i64 r.1.sent, .int .i64 r.1.acked, .slice a1 r.1.q.length c1, .int .i64 r.1.got, .slice a2 r.1.h.length c2]) rfl (by kernel_rfl) (by kernel_rfl) (by kernel_rfl) (fun _ _ _ h => h) (Or.inl ⟨by rfl, by intro w hSw; go_simp⟩) (by assumption) ?_
    simp only [Act.put, List.setIfInBounds_toArray, List.set_cons_zero, List.set_cons_succ]
    refine wpAnyH_take (i := 8) (oi := ({ dst := some 141, op := Op.extract (Operand.tmp 133) 1, type := 24, pos := "laws.go:852", after := #[{ on := 6, ground := Ground.data }, { on := 10, ground := Ground.gcOnly Departure.lateStores }], guard := none } : Oper)) (v := .slice a3 r.2.length c3) rfl (by kernel_rfl) (by kernel_rfl) (by kernel_rfl) (fun _ _ _ h => h) (Or.inl ⟨by rfl, by intro w hSw; go_simp⟩) (by assumption) ?_
    simp only [Act.put, List.setIfInBounds_toArray, List.set_cons_zero, List.set_cons_succ]
    refine wpAnyH_ready (rs := [10]) (by kernel_rfl) (by simp) ?_
    refine AllReadyH.cons rfl (fun K hK => ?_) AllReadyH.nil
    rw [if_pos (by rfl)]
    refine wp_store_row 27 _ _ rfl (w.heap.size) #[.int .i64 r.1.sent, .int .i64 r.1.acked, .slice a1 r.1.q.length c1, .int .i64 r.1.got, .slice a2 r.1.h.length c2] rfl rfl 27 #[.int .i64 0, .int .i64 0, .slice none 0 0, .int .i64 0, .slice none 0 0] X Try.sizeLk rfl (by simp [Value.oneCell']) ?_
    replace B := below_setRow B (g := w.heap.size) XB #[.int .i64 r.1.sent, .int .i64 r.1.acked, .slice a1 r.1.q.length c1, .int .i64 r.1.got, .slice a2 r.1.h.length c2]
    replace O1 := own_other O1 (own_ne O1 X (by decide)) (fun j hj => setRow_other _ _ j #[.int .i64 r.1.sent, .int .i64 r.1.acked, .slice a1 r.1.q.length c1, .int .i64 r.1.got, .slice a2 r.1.h.length c2] hj)
    replace O2 := own_other O2 (own_ne O2 X (by decide)) (fun j hj => setRow_other _ _ j #[.int .i64 r.1.sent, .int .i64 r.1.acked, .slice a1 r.1.q.length c1, .int .i64 r.1.got, .slice a2 r.1.h.length c2] hj)
    replace O3 := own_other O3 (own_ne O3 X (by decide)) (fun j hj => setRow_other _ _ j #[.int .i64 r.1.sent, .int .i64 r.1.acked, .slice a1 r.1.q.length c1, .int .i64 r.1.got, .slice a2 r.1.h.length c2] hj)
    replace X := setRow_heap _ _ _ #[.int .i64 r.1.sent, .int .i64 r.1.acked, .slice a1 r.1.q.length c1, .int .i64 r.1.got, .slice a2 r.1.h.length c2] _ _ X
    refine hK.out _ _ (hS _ B) (fun hHeld => ?_)
    clear hK
    simp only [Act.put]
    refine wpAnyH_take (i := 11) (oi := ({ dst := some 21, op := Op.assign (Operand.tmp 141), type := 24, pos := "laws.go:852", after := #[{ on := 8, ground := Ground.data }, { on := 10, ground := Ground.chain }, { on := 0, ground := Ground.phase }, { on := 1, ground := Ground.phase }, { on := 2, ground := Ground.phase }, { on := 3, ground := Ground.phase }, { on := 4, ground := Ground.phase }, { on := 5, ground := Ground.phase }, { on := 6, ground := Ground.phase }, { on := 7, ground := Ground.phase }, { on := 8, ground := Ground.phase }, { on := 9, ground := Ground.phase }, { on := 10, ground := Ground.phase }], guard := none } : Oper)) (v := .slice a3 r.2.length c3) rfl (by kernel_rfl) (by kernel_rfl) (by kernel_rfl) (fun _ _ _ h => h) (Or.inl ⟨by rfl, by intro w hSw; go_simp⟩) (by assumption) ?_
    simp only [Act.put, List.setIfInBounds_toArray]
    refine wpAnyH_done (by kernel_rfl) ?_ _
    exact NoPanic.normal (hQ _ _ _ _ _ _ _ _ _ _ _ _ _ _ XB X O1 O2 O3 hap B)


set_option maxRecDepth 100000 in
set_option maxHeartbeats 6400000 in
theorem way_r21 {t0 t1 t2 t4 t5 t6 t7 t9 t11 t12 t13 t14 t15 t16 t17 t18 t19 t20 t21 t22 t23 t24 t25 t26 t27 t28 t29 t30 t31 t32 t33 t34 t35 t36 t37 t38 t39 t40 t41 t42 t43 t44 t45 t46 t47 t48 t49 t50 t51 t52 t53 t54 t55 t56 t57 t58 t59 t60 t61 t62 t63 t64 t65 t66 t67 t68 t69 t70 t71 t72 t73 t74 t75 t76 t77 t78 t79 t80 t81 t82 t83 t84 t85 t86 t87 t88 t89 t90 t91 t92 t93 t94 t95 t96 t97 t98 t99 t100 t101 t102 t103 t104 t105 t106 t107 t108 t109 t110 t111 t112 t113 t114 t115 t116 t117 t118 t119 t120 t121 t122 t123 t124 t125 t126 t127 t128 t129 t130 t131 t132 t133 t134 t135 t136 t137 t138 t139 t140 t141 t142 t143 t144 t145 t146 t147 t148 t149 t150 t151 t152 t153 t154 t155 t156 t157 t158 t159 t160 t161 t162 t163 t164 t165 t166 t167 t168 : Value} {fs : List Deferred} (b g o j m cap : Nat) (v1 v2 : Value) (l : Lk) (x : Pc) (r : Lk × List ByteArray) (y : Nat) (w : World) (Q : Exit → Act → World → Prop)
    (hx : w.heap[b]? = some (.cells #[.int .i64 l.sent, .int .i64 l.acked, v1, .int .i64 l.got, v2] 27 (0, 0))) (R1 : StRow w v1 l.q) (R2 : PcRow w v2 l.h) (h1 : l.q.length ≤ 2097152) (h2 : l.h.length ≤ 2097152) (hs : x.s.size ≤ maxLen) (hr : takeR l x = r) (hgl : g < w.heap.size) (hp : w.rangeAt g (o + j * 2) [.int .i64 x.n, .string x.s]) (hj : j < m) (hy : (y : Int) % (m : Int) = (j : Int))
    (hQ : ∀ s75 s76 s77 s78 s79 s80 s81 s82 s83 s74 s84 s85 (u1 u2 u3 : Value) (nb : Nat) (W : World), w.heap.size ≤ nb → W.heap[nb]? = some (.cells #[.int .i64 r.1.sent, .int .i64 r.1.acked, u1, .int .i64 r.1.got, u2] 27 (0, 0)) → W.ownsRow w.heap.size 9 1 u1 r.1.q.length (stv r.1.q) → W.ownsRow w.heap.size 36 2 u2 r.1.h.length (pccs r.1.h) → W.ownsRow w.heap.size 9 1 u3 r.2.length (stv r.2) → (∀ g, u3.ownBlock = some g → u1.ownBlock ≠ some g) → Below w.heap.size w W → Q .normal ⟨#[t0, t1, t2, .pointer (some ⟨b, 0, none⟩), t4, t5, t6, t7, .slice (some ⟨g, o, none⟩) m cap, t9, .int .i64 (y : Nat), t11, t12, .pointer (some ⟨nb, 0, none⟩), u3, t15, t16, t17, t18, t19, t20, t21, t22, t23, t24, t25, t26, t27, t28, t29, t30, t31, t32, t33, t34, t35, t36, t37, t38, t39, t40, t41, t42, t43, t44, t45, t46, t47, t48, t49, t50, t51, t52, t53, t54, t55, t56, t57, t58, t59, t60, t61, t62, t63, t64, t65, t66, t67, t68, t69, t70, t71, t72, t73, s74, s75, s76, s77, s78, s79, s80, s81, s82, s83, s84, s85, t86, t87, t88, t89, t90, t91, t92, t93, t94, t95, t96, t97, t98, t99, t100, t101, t102, t103, t104, t105, t106, t107, t108, t109, t110, t111, t112, t113, t114, t115, t116, t117, t118, t119, t120, t121, t122, t123, t124, t125, t126, t127, t128, t129, t130, t131, t132, t133, t134, t135, t136, t137, t138, t139, t140, t141, t142, t143, t144, t145, t146, t147, t148, t149, t150, t151, t152, t153, t154, t155, t156, t157, t158, t159, t160, t161, t162, t163, t164, t165, t166, t167, t168], fs⟩ W) :
    (Code.region 21 (List.toArray (({ dst := some 75, op := Op.load 27 (Operand.tmp 3), type := 27, pos := "laws.go:837", after := #[], guard := none } : Oper) :: ({ dst := some 76, op := Op.move (Operand.tmp 8), type := 25, pos := "laws.go:837", after := #[], guard := none } : Oper) :: ({ dst := some 77, op := Op.move (Operand.tmp 10), type := 3, pos := "laws.go:837", after := #[], guard := none } : Oper) :: ({ dst := some 78, op := Op.move (Operand.tmp 8), type := 25, pos := "laws.go:837", after := #[], guard := none } : Oper) :: ({ dst := some 79, op := Op.call { callee := Callee.builtin Builtin.len, args := #[Operand.tmp 78], argTypes := #[25] }, type := 3, pos := "laws.go:837", after := #[{ on := 3, ground := Ground.data }], guard := none } : Oper) :: ({ dst := some 80, op := Op.binOp BinOp.rem 3 (Operand.tmp 77) (Operand.tmp 79) 3, type := 3, pos := "laws.go:837", after := #[{ on := 2, ground := Ground.data }, { on := 4, ground := Ground.data }], guard := none } : Oper) :: ({ dst := some 81, op := Op.indexAddr 25 (Operand.tmp 76) (Operand.tmp 80), type := 0, pos := "laws.go:837", after := #[{ on := 1, ground := Ground.data }, { on := 5, ground := Ground.data }], guard := none } : Oper) :: ({ dst := some 82, op := Op.load 36 (Operand.tmp 81), type := 36, pos := "laws.go:837", after := #[{ on := 6, ground := Ground.data }], guard := none } : Oper) :: ({ dst := some 83, op := Op.call { callee := Callee.value (Operand.func 9), args := #[Operand.tmp 75, Operand.tmp 82], argTypes := #[27, 36] }, type := 33, pos := "laws.go:837", after := #[{ on := 0, ground := Ground.data }, { on := 7, ground := Ground.data }], guard := none } : Oper) :: ({ dst := some 74, op := Op.move (Operand.tmp 83), type := 33, pos := "laws.go:837", after := #[{ on := 8, ground := Ground.data }], guard := none } : Oper) :: ({ dst := some 84, op := Op.extract (Operand.tmp 74) 0, type := 27, pos := "laws.go:837", after := #[{ on := 9, ground := Ground.data }], guard := none } : Oper) :: ({ dst := some 85, op := Op.extract (Operand.tmp 74) 1, type := 24, pos := "laws.go:837", after := #[{ on := 9, ground := Ground.data }, { on := 13, ground := Ground.gcOnly Departure.lateStores }], guard := none } : Oper) :: ({ dst := some 13, op := Op.alloc 27, type := 0, pos := "laws.go:837", after := #[], guard := none } : Oper) :: ({ dst := none, op := Op.store 27 (Operand.tmp 13) (Operand.tmp 84), type := 0, pos := "laws.go:837", after := #[{ on := 12, ground := Ground.data }, { on := 10, ground := Ground.data }, { on := 8, ground := Ground.chain }, { on := 0, ground := Ground.phase }, { on := 1, ground := Ground.phase }, { on := 2, ground := Ground.phase }, { on := 3, ground := Ground.phase }, { on := 4, ground := Ground.phase }, { on := 5, ground := Ground.phase }, { on := 6, ground := Ground.phase }, { on := 7, ground := Ground.phase }, { on := 8, ground := Ground.phase }, { on := 9, ground := Ground.phase }, { on := 10, ground := Ground.phase }, { on := 11, ground := Ground.textOnly Departure.lateStores }, { on := 12, ground := Ground.phase }], guard := none } : Oper) :: ({ dst := some 14, op := Op.assign (Operand.tmp 85), type := 24, pos := "laws.go:837", after := #[{ on := 11, ground := Ground.data }, { on := 13, ground := Ground.chain }, { on := 0, ground := Ground.phase }, { on := 1, ground := Ground.phase }, { on := 2, ground := Ground.phase }, { on := 3, ground := Ground.phase }, { on := 4, ground := Ground.phase }, { on := 5, ground := Ground.phase }, { on := 6, ground := Ground.phase }, { on := 7, ground := Ground.phase }, { on := 8, ground := Ground.phase }, { on := 9, ground := Ground.phase }, { on := 10, ground := Ground.phase }, { on := 11, ground := Ground.phase }, { on := 12, ground := Ground.phase }, { on := 13, ground := Ground.phase }], guard := none } : Oper) :: [])) true).wp Try.prog Q ⟨#[t0, t1, t2, .pointer (some ⟨b, 0, none⟩), t4, t5, t6, t7, .slice (some ⟨g, o, none⟩) m cap, t9, .int .i64 (y : Nat), t11, t12, t13, t14, t15, t16, t17, t18, t19, t20, t21, t22, t23, t24, t25, t26, t27, t28, t29, t30, t31, t32, t33, t34, t35, t36, t37, t38, t39, t40, t41, t42, t43, t44, t45, t46, t47, t48, t49, t50, t51, t52, t53, t54, t55, t56, t57, t58, t59, t60, t61, t62, t63, t64, t65, t66, t67, t68, t69, t70, t71, t72, t73, t74, t75, t76, t77, t78, t79, t80, t81, t82, t83, t84, t85, t86, t87, t88, t89, t90, t91, t92, t93, t94, t95, t96, t97, t98, t99, t100, t101, t102, t103, t104, t105, t106, t107, t108, t109, t110, t111, t112, t113, t114, t115, t116, t117, t118, t119, t120, t121, t122, t123, t124, t125, t126, t127, t128, t129, t130, t131, t132, t133, t134, t135, t136, t137, t138, t139, t140, t141, t142, t143, t144, t145, t146, t147, t148, t149, t150, t151, t152, t153, t154, t155, t156, t157, t158, t159, t160, t161, t162, t163, t164, t165, t166, t167, t168], fs⟩ w := by
  have hS : ∀ w', Below w.heap.size w w' → (w'.heap[b]? = some (.cells #[.int .i64 l.sent, .int .i64 l.acked, v1, .int .i64 l.got, v2] 27 (0, 0)) ∧ w'.rangeAt g (o + j * 2) [.int .i64 x.n, .string x.s]) := fun w' hb => ⟨blk_bel hx hb, range_below hp hb hgl⟩
  have hji : (j : Int) < (m : Int) := by omega
  have B : Below w.heap.size w w.drew := drew_bel w
  refine wp_region_noPanic ?_
  refine wp_region_held_drew (S := fun w' => w'.heap[b]? = some (.cells #[.int .i64 l.sent, .int .i64 l.acked, v1, .int .i64 l.got, v2] 27 (0, 0)) ∧ w'.rangeAt g (o + j * 2) [.int .i64 x.n, .string x.s]) (by kernel_rfl) (hS _ B) (fun hHeld => ?_)
  refine wpAnyH_take (i := 0) (oi := ({ dst := some 75, op := Op.load 27 (Operand.tmp 3), type := 27, pos := "laws.go:837", after := #[], guard := none } : Oper)) (v := .agg #[.int .i64 l.sent, .int .i64 l.acked, v1, .int .i64 l.got, v2]) rfl (by kernel_rfl) (by kernel_rfl) (by kernel_rfl) (fun _ _ _ h => h) (yields_row (by rfl) 27 _ rfl b rfl #[.int .i64 l.sent, .int .i64 l.acked, v1, .int .i64 l.got, v2] 27 _ (fun _ h => h.1) Try.underlying27 rfl Try.sizeLk) (by assumption) ?_
  simp only [Act.put, List.setIfInBounds_toArray, List.set_cons_zero, List.set_cons_succ]
  refine wpAnyH_take (i := 1) (oi := ({ dst := some 76, op := Op.move (Operand.tmp 8), type := 25, pos := "laws.go:837", after := #[], guard := none } : Oper)) (v := .slice (some ⟨g, o, none⟩) m cap) rfl (by kernel_rfl) (by kernel_rfl) (by kernel_rfl) (fun _ _ _ h => h) (Or.inl ⟨by rfl, by intro w hSw; go_simp⟩) (by assumption) ?_
  simp only [Act.put, List.setIfInBounds_toArray, List.set_cons_zero, List.set_cons_succ]
  refine wpAnyH_take (i := 2) (oi := ({ dst := some 77, op := Op.move (Operand.tmp 10), type := 3, pos := "laws.go:837", after := #[], guard := none } : Oper)) (v := .int .i64 (y : Nat)) rfl (by kernel_rfl) (by kernel_rfl) (by kernel_rfl) (fun _ _ _ h => h) (Or.inl ⟨by rfl, by intro w hSw; go_simp⟩) (by assumption) ?_
  simp only [Act.put, List.setIfInBounds_toArray, List.set_cons_zero, List.set_cons_succ]
  refine wpAnyH_take (i := 3) (oi := ({ dst := some 78, op := Op.move (Operand.tmp 8), type := 25, pos := "laws.go:837", after := #[], guard := none } : Oper)) (v := .slice (some ⟨g, o, none⟩) m cap) rfl (by kernel_rfl) (by kernel_rfl) (by kernel_rfl) (fun _ _ _ h => h) (Or.inl ⟨by rfl, by intro w hSw; go_simp⟩) (by assumption) ?_
  simp only [Act.put, List.setIfInBounds_toArray, List.set_cons_zero, List.set_cons_succ]
  refine wpAnyH_take (i := 4) (oi := ({ dst := some 79, op := Op.call { callee := Callee.builtin Builtin.len, args := #[Operand.tmp 78], argTypes := #[25] }, type := 3, pos := "laws.go:837", after := #[{ on := 3, ground := Ground.data }], guard := none } : Oper)) (v := .int .i64 (m : Nat)) rfl (by kernel_rfl) (by kernel_rfl) (by kernel_rfl) (fun _ _ _ h => h) (Or.inl ⟨by rfl, by intro w hSw; go_simp⟩) (by assumption) ?_
  simp only [Act.put, List.setIfInBounds_toArray, List.set_cons_zero, List.set_cons_succ]
  refine wpAnyH_take (i := 5) (oi := ({ dst := some 80, op := Op.binOp BinOp.rem 3 (Operand.tmp 77) (Operand.tmp 79) 3, type := 3, pos := "laws.go:837", after := #[{ on := 2, ground := Ground.data }, { on := 4, ground := Ground.data }], guard := none } : Oper)) (v := .int .i64 (j : Nat)) rfl (by kernel_rfl) (by kernel_rfl) (by kernel_rfl) (fun _ _ _ h => h) (Or.inl ⟨by rfl, by intro w hSw; first | (go_simp; done) | (go_simp; rw [if_neg (by omega), Int.tmod_eq_emod_of_nonneg (by omega), hy])⟩) (by assumption) ?_
  simp only [Act.put, List.setIfInBounds_toArray, List.set_cons_zero, List.set_cons_succ]
  refine wpAnyH_take (i := 6) (oi := ({ dst := some 81, op := Op.indexAddr 25 (Operand.tmp 76) (Operand.tmp 80), type := 0, pos := "laws.go:837", after := #[{ on := 1, ground := Ground.data }, { on := 5, ground := Ground.data }], guard := none } : Oper)) (v := .pointer (some ⟨g, o + j * 2, none⟩)) rfl (by kernel_rfl) (by kernel_rfl) (by kernel_rfl) (fun _ _ _ h => h) (Or.inl ⟨by rfl, by intro w hSw; go_simp⟩) (by assumption) ?_
  simp only [Act.put, List.setIfInBounds_toArray, List.set_cons_zero, List.set_cons_succ]
  refine wpAnyH_take (i := 7) (oi := ({ dst := some 82, op := Op.load 36 (Operand.tmp 81), type := 36, pos := "laws.go:837", after := #[{ on := 6, ground := Ground.data }], guard := none } : Oper)) (v := .agg #[.int .i64 x.n, .string x.s]) rfl (by kernel_rfl) (by kernel_rfl) (by kernel_rfl) (fun _ _ _ h => h) (yieldsIf_load_mid (by rfl) 36 _ rfl g (o + j * 2) rfl [.int .i64 x.n, .string x.s] _ (fun _ h => h.2) Try.underlying36 rfl (by kernel_rfl)) (by assumption) ?_
  simp only [Act.put, List.setIfInBounds_toArray, List.set_cons_zero, List.set_cons_succ]
  refine wpAnyH_ready (rs := [8, 12]) (by kernel_rfl) (by simp) ?_
  refine AllReadyH.cons rfl (fun K hK => ?_) (AllReadyH.cons rfl (fun K hK => ?_) AllReadyH.nil)
  · have hlo := B.size
    go_simp
    go_wp2_with fail
    refine (ilinktake_any v1 v2 l x _ (R1.below B) (R2.below B) h1 h2 hs).mono ?_
    rintro e wD ⟨u1, u2, u3, rfl, O1, O2, O3, hap, hb⟩
    replace B := B.trans (hb.mono B.size)
    replace O1 := own_mono O1 hlo
    replace O2 := own_mono O2 hlo
    replace O3 := own_mono O3 hlo
    rw [hr] at O1 O2 O3 ⊢
    obtain ⟨a1, c1, rfl⟩ := own_form O1
    obtain ⟨a2, c2, rfl⟩ := own_form O2
    obtain ⟨a3, c3, rfl⟩ := own_form O3
    clear hb hlo
    refine hK.out _ _ (hS _ B) (fun hHeld => ?_)
    clear hK
    refine wpAnyH_take (i := 9) (oi := ({ dst := some 74, op := Op.move (Operand.tmp 83), type := 33, pos := "laws.go:837", after := #[{ on := 8, ground := Ground.data }], guard := none } : Oper)) (v := .tuple #[.agg #[.int .i64 r.1.sent, .int .i64 r.1.acked, .slice a1 r.1.q.length c1, .int .i64 r.1.got, .slice a2 r.1.h.length c2], .slice a3 r.2.length c3]) rfl (by kernel_rfl) (by kernel_rfl) (by kernel_rfl) (fun _ _ _ h => h) (Or.inl ⟨by rfl, by intro w hSw; go_simp⟩) (by assumption) ?_
    simp only [Act.put, List.setIfInBounds_toArray, List.set_cons_zero, List.set_cons_succ]
    refine wpAnyH_take (i := 10) (oi := ({ dst := some 84, op := Op.extract (Operand.tmp 74) 0, type := 27, pos := "laws.go:837", after := #[{ on := 9, ground := Ground.data }], guard := none } : Oper)) (v := .agg #[.int .i64 r.1.sent, .int .i64 r.1.acked, .slice a1 r.1.q.length c1, .int .i64 r.1.got, .slice a2 r.1.h.length c2]) rfl (by kernel_rfl) (by kernel_rfl) (by kernel_rfl) (fun _ _ _ h => h) (Or.inl ⟨by rfl, by intro w hSw; go_simp⟩) (by assumption) ?_
    simp only [Act.put, List.setIfInBounds_toArray, List.set_cons_zero, List.set_cons_succ]
    refine wpAnyH_take (i := 11) (oi := ({ dst := some 85, op := Op.extract (Operand.tmp 74) 1, type := 24, pos := "laws.go:837", after := #[{ on := 9, ground := Ground.data }, { on := 13, ground := Ground.gcOnly Departure.lateStores }], guard := none } : Oper)) (v := .slice a3 r.2.length c3) rfl (by kernel_rfl) (by kernel_rfl) (by kernel_rfl) (fun _ _ _ h => h) (Or.inl ⟨by rfl, by intro w hSw; go_simp⟩) (by assumption) ?_
    simp only [Act.put, List.setIfInBounds_toArray, List.set_cons_zero, List.set_cons_succ]
    refine wpAnyH_ready (rs := [12]) (by kernel_rfl) (by simp) ?_
    refine AllReadyH.cons rfl (fun K hK => ?_) AllReadyH.nil
    go_simp
    go_wp2_with fail
    have XB : w.heap.size ≤ wD.heap.size := B.size
    have hb := alloc_bel wD (Obj.cells #[.int .i64 0, .int .i64 0, .slice none 0 0, .int .i64 0, .slice none 0 0] 27)
    have X : (wD.alloc (Obj.cells #[.int .i64 0, .int .i64 0, .slice none 0 0, .int .i64 0, .slice none 0 0] 27)).heap[wD.heap.size]? = some (Obj.cells #[.int .i64 0, .int .i64 0, .slice none 0 0, .int .i64 0, .slice none 0 0] 27) := heap_alloc_new _ _
    generalize wD.alloc (Obj.cells #[.int .i64 0, .int .i64 0, .slice none 0 0, .int .i64 0, .slice none 0 0] 27) = wL at hb X ⊢
    replace O1 := own_below O1 hb
    replace O2 := own_below O2 hb
    replace O3 := own_below O3 hb
    replace B := B.trans (hb.mono B.size)
    clear hb
    refine hK.out _ _ (hS _ B) (fun hHeld => ?_)
    clear hK
    refine wpAnyH_ready (rs := [13]) (by kernel_rfl) (by simp) ?_
    refine AllReadyH.cons rfl (fun K hK => ?_) AllReadyH.nil
    rw [if_pos (by rfl)]
    refine wp_store_row 27 _ _ rfl (wD.heap.size) #[.int .i64 r.1.sent, .int .i64 r.1.acked, .slice a1 r.1.q.length c1, .int .i64 r.1.got, .slice a2 r.1.h.length c2] rfl rfl 27 #[.int .i64 0, .int .i64 0, .slice none 0 0, .int .i64 0, .slice none 0 0] X Try.sizeLk rfl (by simp [Value.oneCell']) ?_
    replace B := below_setRow B (g := wD.heap.size) XB #[.int .i64 r.1.sent, .int .i64 r.1.acked, .slice a1 r.1.q.length c1, .int .i64 r.1.got, .slice a2 r.1.h.length c2]
    replace O1 := own_other O1 (own_ne O1 X (by decide)) (fun j hj => setRow_other _ _ j #[.int .i64 r.1.sent, .int .i64 r.1.acked, .slice a1 r.1.q.length c1, .int .i64 r.1.got, .slice a2 r.1.h.length c2] hj)
    replace O2 := own_other O2 (own_ne O2 X (by decide)) (fun j hj => setRow_other _ _ j #[.int .i64 r.1.sent, .int .i64 r.1.acked, .slice a1 r.1.q.length c1, .int .i64 r.1.got, .slice a2 r.1.h.length c2] hj)
    replace O3 := own_other O3 (own_ne O3 X (by decide)) (fun j hj => setRow_other _ _ j #[.int .i64 r.1.sent, .int .i64 r.1.acked, .slice a1 r.1.q.length c1, .int .i64 r.1.got, .slice a2 r.1.h.length c2] hj)
    replace X := setRow_heap _ _ _ #[.int .i64 r.1.sent, .int .i64 r.1.acked, .slice a1 r.1.q.length c1, .int .i64 r.1.got, .slice a2 r.1.h.length c2] _ _ X
    refine hK.out _ _ (hS _ B) (fun hHeld => ?_)
    clear hK
    simp only [Act.put]
    refine wpAnyH_take (i := 14) (oi := ({ dst := some 14, op := Op.assign (Operand.tmp 85), type := 24, pos := "laws.go:837", after := #[{ on := 11, ground := Ground.data }, { on := 13, ground := Ground.chain }, { on := 0, ground := Ground.phase }, { on := 1, ground := Ground.phase }, { on := 2, ground := Ground.phase }, { on := 3, ground := Ground.phase }, { on := 4, ground := Ground.phase }, { on := 5, ground := Ground.phase }, { on := 6, ground := Ground.phase }, { on := 7, ground := Ground.phase }, { on := 8, ground := Ground.phase }, { on := 9, ground := Ground.phase }, { on := 10, ground := Ground.phase }, { on := 11, ground := Ground.phase }, { on := 12, ground := Ground.phase }, { on := 13, ground := Ground.phase }], guard := none } : Oper)) (v := .slice a3 r.2.length c3) rfl (by kernel_rfl) (by kernel_rfl) (by kernel_rfl) (fun _ _ _ h => h) (Or.inl ⟨by rfl, by intro w hSw; go_simp⟩) (by assumption) ?_
    simp only [Act.put, List.setIfInBounds_toArray]
    refine wpAnyH_done (by kernel_rfl) ?_ _
    exact NoPanic.normal (hQ _ _ _ _ _ _ _ _ _ _ _ _ _ _ _ _ _ XB X O1 O2 O3 hap B)
  · go_simp
    go_wp2_with fail
    have XB : w.heap.size ≤ w.heap.size := Nat.le_refl _
    have hb : Below w.heap.size w (w.alloc (Obj.cells #[.int .i64 0, .int .i64 0, .slice none 0 0, .int .i64 0, .slice none 0 0] 27)).drew := ((Below.refl _ _).alloc (Nat.le_refl _) _).drew
    have X : (w.alloc (Obj.cells #[.int .i64 0, .int .i64 0, .slice none 0 0, .int .i64 0, .slice none 0 0] 27)).drew.heap[w.heap.size]? = some (Obj.cells #[.int .i64 0, .int .i64 0, .slice none 0 0, .int .i64 0, .slice none 0 0] 27) := heap_alloc_new w _
    generalize (w.alloc (Obj.cells #[.int .i64 0, .int .i64 0, .slice none 0 0, .int .i64 0, .slice none 0 0] 27)).drew = wL at hb X ⊢
    replace B := hb
    clear hb
    refine hK.out _ _ (hS _ B) (fun hHeld => ?_)
    clear hK
    refine wpAnyH_ready (rs := [8]) (by kernel_rfl) (by simp) ?_
    refine AllReadyH.cons rfl (fun K hK => ?_) AllReadyH.nil
    have hlo := B.size
    go_simp
    go_wp2_with fail
    refine (ilinktake_any v1 v2 l x _ (R1.below B) (R2.below B) h1 h2 hs).mono ?_
    rintro e wD ⟨u1, u2, u3, rfl, O1, O2, O3, hap, hb⟩
    replace X := blk_bel X hb
    replace B := B.trans (hb.mono B.size)
    replace O1 := own_mono O1 hlo
    replace O2 := own_mono O2 hlo
    replace O3 := own_mono O3 hlo
    rw [hr] at O1 O2 O3 ⊢
    obtain ⟨a1, c1, rfl⟩ := own_form O1
    obtain ⟨a2, c2, rfl⟩ := own_form O2
    obtain ⟨a3, c3, rfl⟩ := own_form O3
    clear hb hlo
    refine hK.out _ _ (hS _ B) (fun hHeld => ?_)
    clear hK
    refine wpAnyH_take (i := 9) (oi := ({ dst := some 74, op := Op.move (Operand.tmp 83), type := 33, pos := "laws.go:837", after := #[{ on := 8, ground := Ground.data }], guard := none } : Oper)) (v := .tuple #[.agg #[.int .i64 r.1.sent, .int .i64 r.1.acked, .slice a1 r.1.q.length c1, .int .i64 r.1.got, .slice a2 r.1.h.length c2], .slice a3 r.2.length c3]) rfl (by kernel_rfl) (by kernel_rfl) (by kernel_rfl) (fun _ _ _ h => h) (Or.inl ⟨by rfl, by intro w hSw; go_simp⟩) (by assumption) ?_
    simp only [Act.put, List.setIfInBounds_toArray, List.set_cons_zero, List.set_cons_succ]
    refine wpAnyH_take (i := 10) (oi := ({ dst := some 84, op := Op.extract (Operand.tmp 74) 0, type := 27, pos := "laws.go:837", after := #[{ on := 9, ground := Ground.data }], guard := none } : Oper)) (v := .agg #[.int .i64 r.1.sent, .int .i64 r.1.acked, .slice a1 r.1.q.length c1, .int .i64 r.1.got, .slice a2 r.1.h.length c2]) rfl (by kernel_rfl) (by kernel_rfl) (by kernel_rfl) (fun _ _ _ h => h) (Or.inl ⟨by rfl, by intro w hSw; go_simp⟩) (by assumption) ?_
    simp only [Act.put, List.setIfInBounds_toArray, List.set_cons_zero, List.set_cons_succ]
    refine wpAnyH_take (i := 11) (oi := ({ dst := some 85, op := Op.extract (Operand.tmp 74) 1, type := 24, pos := "laws.go:837", after := #[{ on := 9, ground := Ground.data }, { on := 13, ground := Ground.gcOnly Departure.lateStores }], guard := none } : Oper)) (v := .slice a3 r.2.length c3) rfl (by kernel_rfl) (by kernel_rfl) (by kernel_rfl) (fun _ _ _ h => h) (Or.inl ⟨by rfl, by intro w hSw; go_simp⟩) (by assumption) ?_
    simp only [Act.put, List.setIfInBounds_toArray, List.set_cons_zero, List.set_cons_succ]
    refine wpAnyH_ready (rs := [13]) (by kernel_rfl) (by simp) ?_
    refine AllReadyH.cons rfl (fun K hK => ?_) AllReadyH.nil
    rw [if_pos (by rfl)]
    refine wp_store_row 27 _ _ rfl (w.heap.size) #[.int .i64 r.1.sent, .int .i64 r.1.acked, .slice a1 r.1.q.length c1, .int .i64 r.1.got, .slice a2 r.1.h.length c2] rfl rfl 27 #[.int .i64 0, .int .i64 0, .slice none 0 0, .int .i64 0, .slice none 0 0] X Try.sizeLk rfl (by simp [Value.oneCell']) ?_
    replace B := below_setRow B (g := w.heap.size) XB #[.int .i64 r.1.sent, .int .i64 r.1.acked, .slice a1 r.1.q.length c1, .int .i64 r.1.got, .slice a2 r.1.h.length c2]
    replace O1 := own_other O1 (own_ne O1 X (by decide)) (fun j hj => setRow_other _ _ j #[.int .i64 r.1.sent, .int .i64 r.1.acked, .slice a1 r.1.q.length c1, .int .i64 r.1.got, .slice a2 r.1.h.length c2] hj)
    replace O2 := own_other O2 (own_ne O2 X (by decide)) (fun j hj => setRow_other _ _ j #[.int .i64 r.1.sent, .int .i64 r.1.acked, .slice a1 r.1.q.length c1, .int .i64 r.1.got, .slice a2 r.1.h.length c2] hj)
    replace O3 := own_other O3 (own_ne O3 X (by decide)) (fun j hj => setRow_other _ _ j #[.int .i64 r.1.sent, .int .i64 r.1.acked, .slice a1 r.1.q.length c1, .int .i64 r.1.got, .slice a2 r.1.h.length c2] hj)
    replace X := setRow_heap _ _ _ #[.int .i64 r.1.sent, .int .i64 r.1.acked, .slice a1 r.1.q.length c1, .int .i64 r.1.got, .slice a2 r.1.h.length c2] _ _ X
    refine hK.out _ _ (hS _ B) (fun hHeld => ?_)
    clear hK
    simp only [Act.put]
    refine wpAnyH_take (i := 14) (oi := ({ dst := some 14, op := Op.assign (Operand.tmp 85), type := 24, pos := "laws.go:837", after := #[{ on := 11, ground := Ground.data }, { on := 13, ground := Ground.chain }, { on := 0, ground := Ground.phase }, { on := 1, ground := Ground.phase }, { on := 2, ground := Ground.phase }, { on := 3, ground := Ground.phase }, { on := 4, ground := Ground.phase }, { on := 5, ground := Ground.phase }, { on := 6, ground := Ground.phase }, { on := 7, ground := Ground.phase }, { on := 8, ground := Ground.phase }, { on := 9, ground := Ground.phase }, { on := 10, ground := Ground.phase }, { on := 11, ground := Ground.phase }, { on := 12, ground := Ground.phase }, { on := 13, ground := Ground.phase }], guard := none } : Oper)) (v := .slice a3 r.2.length c3) rfl (by kernel_rfl) (by kernel_rfl) (by kernel_rfl) (fun _ _ _ h => h) (Or.inl ⟨by rfl, by intro w hSw; go_simp⟩) (by assumption) ?_
    simp only [Act.put, List.setIfInBounds_toArray]
    refine wpAnyH_done (by kernel_rfl) ?_ _
    exact NoPanic.normal (hQ _ _ _ _ _ _ _ _ _ _ _ _ _ _ _ _ _ XB X O1 O2 O3 hap B)


end Go.Proofs.Ytgjebgdingahjaa
