/-
  The regions of the law FnExactLinkTake that draw their order and make a box, each alone. No condition but bounds.
-/
import Derived.Test.YtdmnpaoceimcdaaILkTake
import Derived.Test.YtdmnpaoceimcdaaSLkTake
import Derived.Deep.RegionHeld3
namespace Go.Proofs.Ytdmnpaoceimcdaa
open Go.RowKit

theorem stepM {w2 w3 : World} (h : Below w2.drew.heap.size w2.drew w3) : Below w2.heap.size w2 w3 := (Below.refl _ _).drew.trans h
theorem stepA {w2 w3 : World} {o : Obj} (h : Below (w2.alloc o).drew.heap.size (w2.alloc o).drew w3) : Below w2.heap.size w2 w3 := ((Below.refl _ _).alloc (Nat.le_refl _) _).drew.trans (h.mono (by simp [World.drew]))
theorem blkA {w w' : World} {o : Obj} (h : Below (w.alloc o).drew.heap.size (w.alloc o).drew w') : w'.heap[w.heap.size]? = some o := (h.block _ (by simp [World.drew])).trans (heap_alloc_new w o)
theorem step_alloc {w2 w3 : World} {o : Obj} (h : Below (w2.alloc o).heap.size (w2.alloc o) w3) : Below w2.heap.size w2 w3 := ((Below.refl _ _).alloc (Nat.le_refl _) _).trans (h.mono (by simp))
theorem block_new {w2 w3 : World} {o : Obj} (h : Below (w2.alloc o).heap.size (w2.alloc o) w3) : w3.heap[w2.heap.size]? = some o := (h.block _ (by simp)).trans (heap_alloc_new _ _)
theorem StRow.al {w : World} {v : Value} {xs : List ByteArray} (h : StRow w v xs) (o : Obj) : StRow (w.alloc o) v xs := h.below ((Below.refl _ _).alloc (Nat.le_refl _) _)
theorem PcRow.al {w : World} {v : Value} {xs : List Pc} (h : PcRow w v xs) (o : Obj) : PcRow (w.alloc o) v xs := h.below ((Below.refl _ _).alloc (Nat.le_refl _) _)
theorem strow_drew {w : World} {v : Value} {xs : List ByteArray} (h : StRow w v xs) : StRow w.drew v xs := h.below ((Below.refl _ _).drew)
theorem strow_drewA {w : World} {v : Value} {xs : List ByteArray} (h : StRow w v xs) (o : Obj) : StRow (w.alloc o).drew v xs := h.below ((Below.refl _ _).alloc (Nat.le_refl _) _).drew
theorem pcrow_drew {w : World} {v : Value} {xs : List Pc} (h : PcRow w v xs) : PcRow w.drew v xs := h.below ((Below.refl _ _).drew)
theorem pcrow_drewA {w : World} {v : Value} {xs : List Pc} (h : PcRow w v xs) (o : Obj) : PcRow (w.alloc o).drew v xs := h.below ((Below.refl _ _).alloc (Nat.le_refl _) _).drew
theorem sevC {w w' : World} {b0 b1 : Nat} {u0 u1 u2 u3 u4 u5 u6 : Value} (h : w.cell? ⟨b0, 0, none⟩ = some u0 ∧ w.cell? ⟨b0, 1, none⟩ = some u1 ∧ w.cell? ⟨b0, 2, none⟩ = some u2 ∧ w.cell? ⟨b0, 3, none⟩ = some u3 ∧ w.cell? ⟨b0, 4, none⟩ = some u4 ∧ w.cell? ⟨b1, 0, none⟩ = some u5 ∧ w.cell? ⟨b1, 1, none⟩ = some u6) (hb : Below w.heap.size w w') (h0 : b0 < w.heap.size) (h1 : b1 < w.heap.size) : w'.cell? ⟨b0, 0, none⟩ = some u0 ∧ w'.cell? ⟨b0, 1, none⟩ = some u1 ∧ w'.cell? ⟨b0, 2, none⟩ = some u2 ∧ w'.cell? ⟨b0, 3, none⟩ = some u3 ∧ w'.cell? ⟨b0, 4, none⟩ = some u4 ∧ w'.cell? ⟨b1, 0, none⟩ = some u5 ∧ w'.cell? ⟨b1, 1, none⟩ = some u6 :=
  ⟨(hb.cell (p := ⟨b0, 0, none⟩) h0).trans h.1, (hb.cell (p := ⟨b0, 1, none⟩) h0).trans h.2.1, (hb.cell (p := ⟨b0, 2, none⟩) h0).trans h.2.2.1, (hb.cell (p := ⟨b0, 3, none⟩) h0).trans h.2.2.2.1, (hb.cell (p := ⟨b0, 4, none⟩) h0).trans h.2.2.2.2.1, (hb.cell (p := ⟨b1, 0, none⟩) h1).trans h.2.2.2.2.2.1, (hb.cell (p := ⟨b1, 1, none⟩) h1).trans h.2.2.2.2.2.2⟩
theorem fiveZ {w : World} {b : Nat} (h : w.heap[b]? = some (.cells #[.int .i64 0, .int .i64 0, .slice none 0 0, .int .i64 0, .slice none 0 0] 27 (0, 0))) : w.cell? ⟨b, 0, none⟩ = some (.int .i64 0) ∧ w.cell? ⟨b, 1, none⟩ = some (.int .i64 0) ∧ w.cell? ⟨b, 2, none⟩ = some (.slice none 0 0) ∧ w.cell? ⟨b, 3, none⟩ = some (.int .i64 0) ∧ w.cell? ⟨b, 4, none⟩ = some (.slice none 0 0) ∧ w.frozen? ⟨b, 0, none⟩ = false ∧ w.frozen? ⟨b, 1, none⟩ = false ∧ w.frozen? ⟨b, 2, none⟩ = false ∧ w.frozen? ⟨b, 3, none⟩ = false ∧ w.frozen? ⟨b, 4, none⟩ = false :=
  ⟨cell_of_row w _ 0 _ _ _ h, cell_of_row w _ 1 _ _ _ h, cell_of_row w _ 2 _ _ _ h, cell_of_row w _ 3 _ _ _ h, cell_of_row w _ 4 _ _ _ h, frozen_of_row w _ 0 _ _ h, frozen_of_row w _ 1 _ _ h, frozen_of_row w _ 2 _ _ h, frozen_of_row w _ 3 _ _ h, frozen_of_row w _ 4 _ _ h⟩
theorem five_belowL {w wb : World} {B b : Nat} {v0 v1 v2 v3 v4 : Value} (hB : Below B w wb) (hb : B ≤ b) : Below B w (((((wb.setCell ⟨b, 0, none⟩ v0).setCell ⟨b, 1, none⟩ v1).setCell ⟨b, 2, none⟩ v2).setCell ⟨b, 3, none⟩ v3).setCell ⟨b, 4, none⟩ v4) := (((((hB.setCell (p := ⟨b, 0, none⟩) hb v0).setCell (p := ⟨b, 1, none⟩) hb v1).setCell (p := ⟨b, 2, none⟩) hb v2).setCell (p := ⟨b, 3, none⟩) hb v3).setCell (p := ⟨b, 4, none⟩) hb v4)
theorem five_growL {wb : World} {b : Nat} {v0 v1 v2 v3 v4 : Value} : wb.grownBy (((((wb.setCell ⟨b, 0, none⟩ v0).setCell ⟨b, 1, none⟩ v1).setCell ⟨b, 2, none⟩ v2).setCell ⟨b, 3, none⟩ v3).setCell ⟨b, 4, none⟩ v4) (some b) := (((((grown_set wb b 0 v0).trans (grown_set _ b 1 v1)).trans (grown_set _ b 2 v2)).trans (grown_set _ b 3 v3)).trans (grown_set _ b 4 v4))
set_option maxHeartbeats 3200000 in
theorem five_putL {w wb : World} {B b : Nat} {v0 v1 v2 v3 v4 : Value} (q : wb.heap[b]? = some (.cells #[.int .i64 0, .int .i64 0, .slice none 0 0, .int .i64 0, .slice none 0 0] 27 (0, 0))) (hB : Below B w wb) (hb : B ≤ b) :
    let W := (((((wb.setCell ⟨b, 0, none⟩ v0).setCell ⟨b, 1, none⟩ v1).setCell ⟨b, 2, none⟩ v2).setCell ⟨b, 3, none⟩ v3).setCell ⟨b, 4, none⟩ v4)
    W.heap[b]? = some (.cells #[v0, v1, v2, v3, v4] 27 (0, 0)) ∧ (∀ (base k m : Nat) (e : TypeId) (v : Value) (L : List Value), e ≠ 27 → wb.ownsRow base e k v m L → W.ownsRow base e k v m L) ∧ Below B w W := by
  have q0 := heap_setCell_same wb b 0 _ _ v0 q
  have q1 := heap_setCell_same _ b 1 _ _ v1 q0
  have q2 := heap_setCell_same _ b 2 _ _ v2 q1
  have q3 := heap_setCell_same _ b 3 _ _ v3 q2
  have q4 := heap_setCell_same _ b 4 _ _ v4 q3
  exact ⟨q4, fun base k m e v L he ho => ho.kept five_growL (Or.inr (own_ne ho q (fun h => he h.symm))), five_belowL hB hb⟩

/-- A link's variable and texts, both of one answer. -/
structure TkV (w : World) (b lo hi : Nat) (v1 v2 v3 : Value) (M : Lk) (ts : List ByteArray) : Prop where
  var : VarL w b lo hi v1 v2 M
  own : w.ownsRow lo 9 1 v3 ts.length (stv ts)
  top : ∀ k, v3.ownBlock = some k → k < hi
  apart : ∀ g, v3.ownBlock = some g → v1.ownBlock ≠ some g
theorem TkV.of {w : World} {b lo : Nat} {v1 v2 v3 : Value} {M : Lk} {ts : List ByteArray} (hb : w.heap[b]? = some (.cells #[.int .i64 M.sent, .int .i64 M.acked, v1, .int .i64 M.got, v2] 27 (0, 0))) (h1 : w.ownsRow lo 9 1 v1 M.q.length (stv M.q)) (h2 : w.ownsRow lo 29 2 v2 M.h.length (pccs M.h)) (h3 : w.ownsRow lo 9 1 v3 ts.length (stv ts)) (ha : ∀ g, v3.ownBlock = some g → v1.ownBlock ≠ some g) : TkV w b lo w.heap.size v1 v2 v3 M ts :=
  ⟨⟨hb, SOwn.of_own h1, h2, fun _ k hk => (h1.lt k hk).2, fun k hk => (h2.lt k hk).2, Nat.le_refl _⟩, h3, fun k hk => (h3.lt k hk).2, ha⟩

set_option maxRecDepth 100000 in
set_option maxHeartbeats 3200000 in
theorem tk_reg8 {t0 t1 t4 t5 t6 t7 t8 t9 t10 t11 t12 t13 t14 t15 t16 t17 t18 t19 t20 t21 t22 t23 t24 t25 t26 t27 t28 t29 t30 t31 t32 t33 t34 t35 t36 t37 t38 t39 t40 t41 t42 t43 t44 t45 t46 t47 t48 t49 t50 t51 t52 t53 t54 t55 t56 t57 t58 t59 t60 t61 t62 t63 t64 t65 t66 t67 t68 t69 t70 t71 t72 t73 t74 t75 t76 t77 t78 t79 t80 t81 t82 t83 t84 t85 t86 t87 t88 t89 t90 t91 t92 t93 t94 t95 t96 t97 t98 t99 t100 t101 t102 t103 t104 t105 t106 t107 t108 t109 t110 t111 t112 t113 t114 t115 t116 t117 t118 t119 t120 t121 t122 t123 t124 : Value} {fs : List Deferred} (b0 b1 : Nat) (a1 a2 : Option Addr) (c1 c2 : Nat) (l : Lk) (x : Pc) (M : Lk) (ts : List ByteArray) (w : World) (Q : Exit → Act → World → Prop)
    (C : ∀ (v1 v2 : Value) (w : World), StRow w v1 l.q → PcRow w v2 l.h → Calls Try.prog 9 #[.agg #[.int .i64 l.sent, .int .i64 l.acked, v1, .int .i64 l.got, v2], .agg #[.int .i64 x.n, .string x.s]] w fun e w' => TkAns w w' e (M, ts))
    (R1 : StRow w (.slice a1 l.q.length c1) l.q) (R2 : PcRow w (.slice a2 l.h.length c2) l.h) (l1 : l.q.length ≤ 1048576) (l2 : l.h.length ≤ 1048576)
    (S : w.cell? ⟨b0, 0, none⟩ = some (.int .i64 l.sent) ∧ w.cell? ⟨b0, 1, none⟩ = some (.int .i64 l.acked) ∧ w.cell? ⟨b0, 2, none⟩ = some (.slice a1 l.q.length c1) ∧ w.cell? ⟨b0, 3, none⟩ = some (.int .i64 l.got) ∧ w.cell? ⟨b0, 4, none⟩ = some (.slice a2 l.h.length c2) ∧ w.cell? ⟨b1, 0, none⟩ = some (.int .i64 x.n) ∧ w.cell? ⟨b1, 1, none⟩ = some (.string x.s)) (h0 : b0 < w.heap.size) (h1 : b1 < w.heap.size)
    (hQ : ∀ u26 u27 u28 u29 u30 u31 u32 u33 v1 v2 v3 b wx, w.heap.size ≤ b → TkV wx b w.heap.size wx.heap.size v1 v2 v3 M ts → Below w.heap.size w wx → Q .normal ⟨#[t0, t1, .pointer (some ⟨b0, 0, none⟩), .pointer (some ⟨b1, 0, none⟩), t4, t5, .pointer (some ⟨b, 0, none⟩), v3, t8, t9, t10, t11, t12, t13, t14, t15, t16, t17, t18, t19, t20, t21, t22, t23, t24, t25, u26, u27, u28, u29, u30, u31, u32, u33, t34, t35, t36, t37, t38, t39, t40, t41, t42, t43, t44, t45, t46, t47, t48, t49, t50, t51, t52, t53, t54, t55, t56, t57, t58, t59, t60, t61, t62, t63, t64, t65, t66, t67, t68, t69, t70, t71, t72, t73, t74, t75, t76, t77, t78, t79, t80, t81, t82, t83, t84, t85, t86, t87, t88, t89, t90, t91, t92, t93, t94, t95, t96, t97, t98, t99, t100, t101, t102, t103, t104, t105, t106, t107, t108, t109, t110, t111, t112, t113, t114, t115, t116, t117, t118, t119, t120, t121, t122, t123, t124], fs⟩ wx) :
    (Code.region 8 #[{ dst := some 27, op := Op.load 44 (Operand.tmp 2), type := 44, pos := "exact.go:3451", after := #[], guard := none }, { dst := some 28, op := Op.call { callee := Callee.value (Operand.func 20), args := #[Operand.tmp 27], argTypes := #[44] }, type := 27, pos := "exact.go:3451", after := #[{ on := 0, ground := Ground.data }], guard := none }, { dst := some 29, op := Op.load 45 (Operand.tmp 3), type := 45, pos := "exact.go:3451", after := #[], guard := none }, { dst := some 30, op := Op.call { callee := Callee.value (Operand.func 21), args := #[Operand.tmp 29], argTypes := #[45] }, type := 29, pos := "exact.go:3451", after := #[{ on := 2, ground := Ground.data }, { on := 1, ground := Ground.chain }], guard := none }, { dst := some 31, op := Op.call { callee := Callee.value (Operand.func 9), args := #[Operand.tmp 28, Operand.tmp 30], argTypes := #[27, 29] }, type := 32, pos := "exact.go:3451", after := #[{ on := 1, ground := Ground.data }, { on := 3, ground := Ground.data }, { on := 3, ground := Ground.chain }], guard := none }, { dst := some 26, op := Op.move (Operand.tmp 31), type := 32, pos := "exact.go:3451", after := #[{ on := 4, ground := Ground.data }], guard := none }, { dst := some 32, op := Op.extract (Operand.tmp 26) 0, type := 27, pos := "exact.go:3451", after := #[{ on := 5, ground := Ground.data }], guard := none }, { dst := some 33, op := Op.extract (Operand.tmp 26) 1, type := 24, pos := "exact.go:3451", after := #[{ on := 5, ground := Ground.data }, { on := 9, ground := Ground.gcOnly Departure.lateStores }], guard := none }, { dst := some 6, op := Op.alloc 27, type := 0, pos := "exact.go:3451", after := #[], guard := none }, { dst := none, op := Op.store 27 (Operand.tmp 6) (Operand.tmp 32), type := 0, pos := "exact.go:3451", after := #[{ on := 8, ground := Ground.data }, { on := 6, ground := Ground.data }, { on := 4, ground := Ground.chain }, { on := 0, ground := Ground.phase }, { on := 1, ground := Ground.phase }, { on := 2, ground := Ground.phase }, { on := 3, ground := Ground.phase }, { on := 4, ground := Ground.phase }, { on := 5, ground := Ground.phase }, { on := 6, ground := Ground.phase }, { on := 7, ground := Ground.textOnly Departure.lateStores }, { on := 8, ground := Ground.phase }], guard := none }, { dst := some 7, op := Op.assign (Operand.tmp 33), type := 24, pos := "exact.go:3451", after := #[{ on := 7, ground := Ground.data }, { on := 9, ground := Ground.chain }, { on := 0, ground := Ground.phase }, { on := 1, ground := Ground.phase }, { on := 2, ground := Ground.phase }, { on := 3, ground := Ground.phase }, { on := 4, ground := Ground.phase }, { on := 5, ground := Ground.phase }, { on := 6, ground := Ground.phase }, { on := 7, ground := Ground.phase }, { on := 8, ground := Ground.phase }, { on := 9, ground := Ground.phase }], guard := none }] true).wp Try.prog Q ⟨#[t0, t1, .pointer (some ⟨b0, 0, none⟩), .pointer (some ⟨b1, 0, none⟩), t4, t5, t6, t7, t8, t9, t10, t11, t12, t13, t14, t15, t16, t17, t18, t19, t20, t21, t22, t23, t24, t25, t26, t27, t28, t29, t30, t31, t32, t33, t34, t35, t36, t37, t38, t39, t40, t41, t42, t43, t44, t45, t46, t47, t48, t49, t50, t51, t52, t53, t54, t55, t56, t57, t58, t59, t60, t61, t62, t63, t64, t65, t66, t67, t68, t69, t70, t71, t72, t73, t74, t75, t76, t77, t78, t79, t80, t81, t82, t83, t84, t85, t86, t87, t88, t89, t90, t91, t92, t93, t94, t95, t96, t97, t98, t99, t100, t101, t102, t103, t104, t105, t106, t107, t108, t109, t110, t111, t112, t113, t114, t115, t116, t117, t118, t119, t120, t121, t122, t123, t124], fs⟩ w := by
  have hzq := R1.sz
  have hzh := R2.sz
  unfold TkAns at C
  go_region_held3 (fun w' => w'.cell? ⟨b0, 0, none⟩ = some (.int .i64 l.sent) ∧ w'.cell? ⟨b0, 1, none⟩ = some (.int .i64 l.acked) ∧ w'.cell? ⟨b0, 2, none⟩ = some (.slice a1 l.q.length c1) ∧ w'.cell? ⟨b0, 3, none⟩ = some (.int .i64 l.got) ∧ w'.cell? ⟨b0, 4, none⟩ = some (.slice a2 l.h.length c2) ∧ w'.cell? ⟨b1, 0, none⟩ = some (.int .i64 x.n) ∧ w'.cell? ⟨b1, 1, none⟩ = some (.string x.s)) (first | (with_reducible exact sF) | (with_reducible exact sP) | (with_reducible exact sA) | (with_reducible exact sevC S (five_belowL tF (by have := tA.size; have := tP.size; omega)) h0 h1) | go_keep) (first
    | (go_at_call 20; with_reducible refine (tolink_any _ _ l _ ?_ ?_ ?_ ?_).mono ?_; (with_reducible first | exact strow_drew R1 | exact strow_drewA R1 _); (with_reducible first | exact pcrow_drew R2 | exact pcrow_drewA R2 _); omega; omega; rintro e wA ⟨y1, y2, rfl, P1, P2, hbA⟩
       obtain ⟨f1, g1, rfl⟩ := own_form P1
       obtain ⟨f2, g2, rfl⟩ := own_form P2
       have tA : Below w.heap.size w wA := (by with_reducible first | exact stepM hbA | exact stepA hbA)
       have sA := sevC S tA h0 h1
       have K1 := StRow.of_own P1 (by omega) hzq
       have K2 := PcRow.of_own P2 (by omega) hzh
       first
         | (have qA := (by with_reducible exact blkA hbA : wA.heap[w.heap.size]? = some (.cells #[.int .i64 0, .int .i64 0, .slice none 0 0, .int .i64 0, .slice none 0 0] 27 (0, 0))))
         | skip)
    | (go_at_call 21; with_reducible refine (topc_any x _).mono ?_; rintro e wP ⟨rfl, hbP⟩
       have hbP' : Below wA.heap.size wA wP := (by with_reducible first | exact hbP | exact step_alloc hbP)
       have tP : Below w.heap.size w wP := tA.trans (hbP'.mono tA.size)
       have sP := sevC S tP h0 h1
       have O1 := K1.below hbP'
       have O2 := K2.below hbP'
       first
         | (have qP := (by with_reducible exact block_new hbP : wP.heap[wA.heap.size]? = some (.cells #[.int .i64 0, .int .i64 0, .slice none 0 0, .int .i64 0, .slice none 0 0] 27 (0, 0))))
         | (have qP : wP.heap[w.heap.size]? = some (.cells #[.int .i64 0, .int .i64 0, .slice none 0 0, .int .i64 0, .slice none 0 0] 27 (0, 0)) := (by with_reducible exact (hbP.block _ (Array.getElem?_eq_some_iff.1 qA).1).trans qA))
         | skip)
    | (go_at_call 9; with_reducible refine (C _ _ _ ?_ ?_).mono ?_; (with_reducible first | exact O1 | exact O1.al _); (with_reducible first | exact O2 | exact O2.al _); rintro e wF ⟨k1, k2, k3, rfl, o1, o2, o3, hap, hbF⟩
       obtain ⟨m1, m2, rfl⟩ := own_form o1
       obtain ⟨m3, m4, rfl⟩ := own_form o2
       obtain ⟨m5, m6, rfl⟩ := own_form o3
       have hbF' : Below wP.heap.size wP wF := (by with_reducible first | exact hbF | exact step_alloc hbF)
       have tF : Below w.heap.size w wF := tP.trans (hbF'.mono tP.size)
       have sF := sevC S tF h0 h1
       first
         | (have qF := (by with_reducible exact block_new hbF : wF.heap[wP.heap.size]? = some (.cells #[.int .i64 0, .int .i64 0, .slice none 0 0, .int .i64 0, .slice none 0 0] 27 (0, 0))); obtain ⟨e0, e1, e2, e3, e4, f0, f1, f2, f3, f4⟩ := fiveZ qF)
         | (have qF := (by with_reducible exact (hbF.block _ (Array.getElem?_eq_some_iff.1 qP).1).trans qP : wF.heap[wA.heap.size]? = some (.cells #[.int .i64 0, .int .i64 0, .slice none 0 0, .int .i64 0, .slice none 0 0] 27 (0, 0))); obtain ⟨e0, e1, e2, e3, e4, f0, f1, f2, f3, f4⟩ := fiveZ qF)
         | (have qF := (by with_reducible exact (hbF.block _ (Array.getElem?_eq_some_iff.1 qP).1).trans qP : wF.heap[w.heap.size]? = some (.cells #[.int .i64 0, .int .i64 0, .slice none 0 0, .int .i64 0, .slice none 0 0] 27 (0, 0))); obtain ⟨e0, e1, e2, e3, e4, f0, f1, f2, f3, f4⟩ := fiveZ qF)
         | skip))
  all_goals
    have hs1 := tA.size
    have hs2 := tP.size
    have p1 := own_mono (B' := w.heap.size) o1 (by first | omega | (simp; omega))
    have p2 := own_mono (B' := w.heap.size) o2 (by first | omega | (simp; omega))
    have p3 := own_mono (B' := w.heap.size) o3 (by first | omega | (simp; omega))
    first
      | exact hQ _ _ _ _ _ _ _ _ _ _ _ _ _ tF.size (TkV.of (heap_alloc_new _ _) (p1.alloc _) (p2.alloc _) (p3.alloc _) hap) (tF.alloc tF.size _)
      | (obtain ⟨z1, z2, z3⟩ := five_putL (v0 := .int .i64 M.sent) (v1 := .int .i64 M.acked) (v2 := .slice m1 M.q.length m2) (v3 := .int .i64 M.got) (v4 := .slice m3 M.h.length m4) qF tF (by omega)
         exact hQ _ _ _ _ _ _ _ _ _ _ _ _ _ (by omega) (TkV.of z1 (z2 _ _ _ _ _ _ (by decide) p1) (z2 _ _ _ _ _ _ (by decide) p2) (z2 _ _ _ _ _ _ (by decide) p3) hap) z3)

set_option maxRecDepth 100000 in
set_option maxHeartbeats 3200000 in
theorem tk_reg31 {t0 t1 t4 t5 t6 t7 t8 t9 t10 t11 t12 t13 t14 t15 t16 t17 t18 t19 t20 t21 t22 t23 t24 t25 t26 t27 t28 t29 t30 t31 t32 t33 t34 t35 t36 t37 t38 t39 t40 t41 t42 t43 t44 t45 t46 t47 t48 t49 t50 t51 t52 t53 t54 t55 t56 t57 t58 t59 t60 t61 t62 t63 t64 t65 t66 t67 t68 t69 t70 t71 t72 t73 t74 t75 t76 t77 t78 t79 t80 t81 t82 t83 t84 t85 t86 t87 t88 t89 t90 t91 t92 t93 t94 t95 t96 t97 t98 t99 t100 t101 t102 t103 t104 t105 t106 t107 t108 t109 t110 t111 t112 t113 t114 t115 t116 t117 t118 t119 t120 t121 t122 t123 t124 : Value} {fs : List Deferred} (b0 b1 : Nat) (a1 a2 : Option Addr) (c1 c2 : Nat) (l : Lk) (x : Pc) (M : Lk) (ts : List ByteArray) (w : World) (Q : Exit → Act → World → Prop)
    (C : ∀ (v1 v2 : Value) (w : World), StRow w v1 l.q → PcRow w v2 l.h → Calls Try.prog 8 #[.agg #[.int .i64 l.sent, .int .i64 l.acked, v1, .int .i64 l.got, v2], .agg #[.int .i64 x.n, .string x.s]] w fun e w' => TkAns w w' e (M, ts))
    (R1 : StRow w (.slice a1 l.q.length c1) l.q) (R2 : PcRow w (.slice a2 l.h.length c2) l.h) (l1 : l.q.length ≤ 1048576) (l2 : l.h.length ≤ 1048576)
    (S : w.cell? ⟨b0, 0, none⟩ = some (.int .i64 l.sent) ∧ w.cell? ⟨b0, 1, none⟩ = some (.int .i64 l.acked) ∧ w.cell? ⟨b0, 2, none⟩ = some (.slice a1 l.q.length c1) ∧ w.cell? ⟨b0, 3, none⟩ = some (.int .i64 l.got) ∧ w.cell? ⟨b0, 4, none⟩ = some (.slice a2 l.h.length c2) ∧ w.cell? ⟨b1, 0, none⟩ = some (.int .i64 x.n) ∧ w.cell? ⟨b1, 1, none⟩ = some (.string x.s)) (h0 : b0 < w.heap.size) (h1 : b1 < w.heap.size)
    (hQ : ∀ u94 u95 u96 u97 u98 u99 u100 u101 v1 v2 v3 b wx, w.heap.size ≤ b → TkV wx b w.heap.size wx.heap.size v1 v2 v3 M ts → Below w.heap.size w wx → Q .normal ⟨#[t0, t1, .pointer (some ⟨b0, 0, none⟩), .pointer (some ⟨b1, 0, none⟩), t4, t5, t6, t7, t8, t9, t10, t11, t12, t13, .pointer (some ⟨b, 0, none⟩), v3, t16, t17, t18, t19, t20, t21, t22, t23, t24, t25, t26, t27, t28, t29, t30, t31, t32, t33, t34, t35, t36, t37, t38, t39, t40, t41, t42, t43, t44, t45, t46, t47, t48, t49, t50, t51, t52, t53, t54, t55, t56, t57, t58, t59, t60, t61, t62, t63, t64, t65, t66, t67, t68, t69, t70, t71, t72, t73, t74, t75, t76, t77, t78, t79, t80, t81, t82, t83, t84, t85, t86, t87, t88, t89, t90, t91, t92, t93, u94, u95, u96, u97, u98, u99, u100, u101, t102, t103, t104, t105, t106, t107, t108, t109, t110, t111, t112, t113, t114, t115, t116, t117, t118, t119, t120, t121, t122, t123, t124], fs⟩ wx) :
    (Code.region 31 #[{ dst := some 95, op := Op.load 44 (Operand.tmp 2), type := 44, pos := "exact.go:3480", after := #[], guard := none }, { dst := some 96, op := Op.call { callee := Callee.value (Operand.func 20), args := #[Operand.tmp 95], argTypes := #[44] }, type := 27, pos := "exact.go:3480", after := #[{ on := 0, ground := Ground.data }], guard := none }, { dst := some 97, op := Op.load 45 (Operand.tmp 3), type := 45, pos := "exact.go:3480", after := #[], guard := none }, { dst := some 98, op := Op.call { callee := Callee.value (Operand.func 21), args := #[Operand.tmp 97], argTypes := #[45] }, type := 29, pos := "exact.go:3480", after := #[{ on := 2, ground := Ground.data }, { on := 1, ground := Ground.chain }], guard := none }, { dst := some 99, op := Op.call { callee := Callee.value (Operand.func 8), args := #[Operand.tmp 96, Operand.tmp 98], argTypes := #[27, 29] }, type := 32, pos := "exact.go:3480", after := #[{ on := 1, ground := Ground.data }, { on := 3, ground := Ground.data }, { on := 3, ground := Ground.chain }], guard := none }, { dst := some 94, op := Op.move (Operand.tmp 99), type := 32, pos := "exact.go:3480", after := #[{ on := 4, ground := Ground.data }], guard := none }, { dst := some 100, op := Op.extract (Operand.tmp 94) 0, type := 27, pos := "exact.go:3480", after := #[{ on := 5, ground := Ground.data }], guard := none }, { dst := some 101, op := Op.extract (Operand.tmp 94) 1, type := 24, pos := "exact.go:3480", after := #[{ on := 5, ground := Ground.data }, { on := 9, ground := Ground.gcOnly Departure.lateStores }], guard := none }, { dst := some 14, op := Op.alloc 27, type := 0, pos := "exact.go:3480", after := #[], guard := none }, { dst := none, op := Op.store 27 (Operand.tmp 14) (Operand.tmp 100), type := 0, pos := "exact.go:3480", after := #[{ on := 8, ground := Ground.data }, { on := 6, ground := Ground.data }, { on := 4, ground := Ground.chain }, { on := 0, ground := Ground.phase }, { on := 1, ground := Ground.phase }, { on := 2, ground := Ground.phase }, { on := 3, ground := Ground.phase }, { on := 4, ground := Ground.phase }, { on := 5, ground := Ground.phase }, { on := 6, ground := Ground.phase }, { on := 7, ground := Ground.textOnly Departure.lateStores }, { on := 8, ground := Ground.phase }], guard := none }, { dst := some 15, op := Op.assign (Operand.tmp 101), type := 24, pos := "exact.go:3480", after := #[{ on := 7, ground := Ground.data }, { on := 9, ground := Ground.chain }, { on := 0, ground := Ground.phase }, { on := 1, ground := Ground.phase }, { on := 2, ground := Ground.phase }, { on := 3, ground := Ground.phase }, { on := 4, ground := Ground.phase }, { on := 5, ground := Ground.phase }, { on := 6, ground := Ground.phase }, { on := 7, ground := Ground.phase }, { on := 8, ground := Ground.phase }, { on := 9, ground := Ground.phase }], guard := none }] true).wp Try.prog Q ⟨#[t0, t1, .pointer (some ⟨b0, 0, none⟩), .pointer (some ⟨b1, 0, none⟩), t4, t5, t6, t7, t8, t9, t10, t11, t12, t13, t14, t15, t16, t17, t18, t19, t20, t21, t22, t23, t24, t25, t26, t27, t28, t29, t30, t31, t32, t33, t34, t35, t36, t37, t38, t39, t40, t41, t42, t43, t44, t45, t46, t47, t48, t49, t50, t51, t52, t53, t54, t55, t56, t57, t58, t59, t60, t61, t62, t63, t64, t65, t66, t67, t68, t69, t70, t71, t72, t73, t74, t75, t76, t77, t78, t79, t80, t81, t82, t83, t84, t85, t86, t87, t88, t89, t90, t91, t92, t93, t94, t95, t96, t97, t98, t99, t100, t101, t102, t103, t104, t105, t106, t107, t108, t109, t110, t111, t112, t113, t114, t115, t116, t117, t118, t119, t120, t121, t122, t123, t124], fs⟩ w := by
  have hzq := R1.sz
  have hzh := R2.sz
  unfold TkAns at C
  go_region_held3 (fun w' => w'.cell? ⟨b0, 0, none⟩ = some (.int .i64 l.sent) ∧ w'.cell? ⟨b0, 1, none⟩ = some (.int .i64 l.acked) ∧ w'.cell? ⟨b0, 2, none⟩ = some (.slice a1 l.q.length c1) ∧ w'.cell? ⟨b0, 3, none⟩ = some (.int .i64 l.got) ∧ w'.cell? ⟨b0, 4, none⟩ = some (.slice a2 l.h.length c2) ∧ w'.cell? ⟨b1, 0, none⟩ = some (.int .i64 x.n) ∧ w'.cell? ⟨b1, 1, none⟩ = some (.string x.s)) (first | (with_reducible exact sF) | (with_reducible exact sP) | (with_reducible exact sA) | (with_reducible exact sevC S (five_belowL tF (by have := tA.size; have := tP.size; omega)) h0 h1) | go_keep) (first
    | (go_at_call 20; with_reducible refine (tolink_any _ _ l _ ?_ ?_ ?_ ?_).mono ?_; (with_reducible first | exact strow_drew R1 | exact strow_drewA R1 _); (with_reducible first | exact pcrow_drew R2 | exact pcrow_drewA R2 _); omega; omega; rintro e wA ⟨y1, y2, rfl, P1, P2, hbA⟩
       obtain ⟨f1, g1, rfl⟩ := own_form P1
       obtain ⟨f2, g2, rfl⟩ := own_form P2
       have tA : Below w.heap.size w wA := (by with_reducible first | exact stepM hbA | exact stepA hbA)
       have sA := sevC S tA h0 h1
       have K1 := StRow.of_own P1 (by omega) hzq
       have K2 := PcRow.of_own P2 (by omega) hzh
       first
         | (have qA := (by with_reducible exact blkA hbA : wA.heap[w.heap.size]? = some (.cells #[.int .i64 0, .int .i64 0, .slice none 0 0, .int .i64 0, .slice none 0 0] 27 (0, 0))))
         | skip)
    | (go_at_call 21; with_reducible refine (topc_any x _).mono ?_; rintro e wP ⟨rfl, hbP⟩
       have hbP' : Below wA.heap.size wA wP := (by with_reducible first | exact hbP | exact step_alloc hbP)
       have tP : Below w.heap.size w wP := tA.trans (hbP'.mono tA.size)
       have sP := sevC S tP h0 h1
       have O1 := K1.below hbP'
       have O2 := K2.below hbP'
       first
         | (have qP := (by with_reducible exact block_new hbP : wP.heap[wA.heap.size]? = some (.cells #[.int .i64 0, .int .i64 0, .slice none 0 0, .int .i64 0, .slice none 0 0] 27 (0, 0))))
         | (have qP : wP.heap[w.heap.size]? = some (.cells #[.int .i64 0, .int .i64 0, .slice none 0 0, .int .i64 0, .slice none 0 0] 27 (0, 0)) := (by with_reducible exact (hbP.block _ (Array.getElem?_eq_some_iff.1 qA).1).trans qA))
         | skip)
    | (go_at_call 8; with_reducible refine (C _ _ _ ?_ ?_).mono ?_; (with_reducible first | exact O1 | exact O1.al _); (with_reducible first | exact O2 | exact O2.al _); rintro e wF ⟨k1, k2, k3, rfl, o1, o2, o3, hap, hbF⟩
       obtain ⟨m1, m2, rfl⟩ := own_form o1
       obtain ⟨m3, m4, rfl⟩ := own_form o2
       obtain ⟨m5, m6, rfl⟩ := own_form o3
       have hbF' : Below wP.heap.size wP wF := (by with_reducible first | exact hbF | exact step_alloc hbF)
       have tF : Below w.heap.size w wF := tP.trans (hbF'.mono tP.size)
       have sF := sevC S tF h0 h1
       first
         | (have qF := (by with_reducible exact block_new hbF : wF.heap[wP.heap.size]? = some (.cells #[.int .i64 0, .int .i64 0, .slice none 0 0, .int .i64 0, .slice none 0 0] 27 (0, 0))); obtain ⟨e0, e1, e2, e3, e4, f0, f1, f2, f3, f4⟩ := fiveZ qF)
         | (have qF := (by with_reducible exact (hbF.block _ (Array.getElem?_eq_some_iff.1 qP).1).trans qP : wF.heap[wA.heap.size]? = some (.cells #[.int .i64 0, .int .i64 0, .slice none 0 0, .int .i64 0, .slice none 0 0] 27 (0, 0))); obtain ⟨e0, e1, e2, e3, e4, f0, f1, f2, f3, f4⟩ := fiveZ qF)
         | (have qF := (by with_reducible exact (hbF.block _ (Array.getElem?_eq_some_iff.1 qP).1).trans qP : wF.heap[w.heap.size]? = some (.cells #[.int .i64 0, .int .i64 0, .slice none 0 0, .int .i64 0, .slice none 0 0] 27 (0, 0))); obtain ⟨e0, e1, e2, e3, e4, f0, f1, f2, f3, f4⟩ := fiveZ qF)
         | skip))
  all_goals
    have hs1 := tA.size
    have hs2 := tP.size
    have p1 := own_mono (B' := w.heap.size) o1 (by first | omega | (simp; omega))
    have p2 := own_mono (B' := w.heap.size) o2 (by first | omega | (simp; omega))
    have p3 := own_mono (B' := w.heap.size) o3 (by first | omega | (simp; omega))
    first
      | exact hQ _ _ _ _ _ _ _ _ _ _ _ _ _ tF.size (TkV.of (heap_alloc_new _ _) (p1.alloc _) (p2.alloc _) (p3.alloc _) hap) (tF.alloc tF.size _)
      | (obtain ⟨z1, z2, z3⟩ := five_putL (v0 := .int .i64 M.sent) (v1 := .int .i64 M.acked) (v2 := .slice m1 M.q.length m2) (v3 := .int .i64 M.got) (v4 := .slice m3 M.h.length m4) qF tF (by omega)
         exact hQ _ _ _ _ _ _ _ _ _ _ _ _ _ (by omega) (TkV.of z1 (z2 _ _ _ _ _ _ (by decide) p1) (z2 _ _ _ _ _ _ (by decide) p2) (z2 _ _ _ _ _ _ (by decide) p3) hap) z3)

set_option maxRecDepth 100000 in
set_option maxHeartbeats 3200000 in
theorem tk_reg10 {t0 t1 t2 t4 t5 t6 t7 t9 t10 t11 t12 t13 t14 t15 t16 t17 t18 t19 t20 t21 t22 t23 t24 t25 t26 t27 t28 t29 t30 t31 t32 t33 t34 t35 t36 t37 t38 t39 t40 t41 t42 t43 t44 t45 t46 t47 t48 t49 t50 t51 t52 t53 t54 t55 t56 t57 t58 t59 t60 t61 t62 t63 t64 t65 t66 t67 t68 t69 t70 t71 t72 t73 t74 t75 t76 t77 t78 t79 t80 t81 t82 t83 t84 t85 t86 t87 t88 t89 t90 t91 t92 t93 t94 t95 t96 t97 t98 t99 t100 t101 t102 t103 t104 t105 t106 t107 t108 t109 t110 t111 t112 t113 t114 t115 t116 t117 t118 t119 t120 t121 t122 t123 t124 : Value} {fs : List Deferred} (b0 b1 : Nat) (a1 a2 : Option Addr) (c1 c2 : Nat) (l : Lk) (x : Pc) (M : Lk) (ts : List ByteArray) (w : World) (Q : Exit → Act → World → Prop)
    (C : ∀ (v1 v2 : Value) (w : World), StRow w v1 l.q → PcRow w v2 l.h → Calls Try.prog 8 #[.agg #[.int .i64 l.sent, .int .i64 l.acked, v1, .int .i64 l.got, v2], .agg #[.int .i64 x.n, .string x.s]] w fun e w' => TkAns w w' e (M, ts))
    (R1 : StRow w (.slice a1 l.q.length c1) l.q) (R2 : PcRow w (.slice a2 l.h.length c2) l.h) 
    (S : w.cell? ⟨b0, 0, none⟩ = some (.int .i64 l.sent) ∧ w.cell? ⟨b0, 1, none⟩ = some (.int .i64 l.acked) ∧ w.cell? ⟨b0, 2, none⟩ = some (.slice a1 l.q.length c1) ∧ w.cell? ⟨b0, 3, none⟩ = some (.int .i64 l.got) ∧ w.cell? ⟨b0, 4, none⟩ = some (.slice a2 l.h.length c2) ∧ w.cell? ⟨b1, 0, none⟩ = some (.int .i64 x.n) ∧ w.cell? ⟨b1, 1, none⟩ = some (.string x.s)) (h0 : b0 < w.heap.size) (h1 : b1 < w.heap.size)
    (hQ : ∀ u36 u37 u38 u39 u40 u41 u42 v1 v2 v3 b wx, w.heap.size ≤ b → TkV wx b w.heap.size wx.heap.size v1 v2 v3 M ts → Below w.heap.size w wx → Q .normal ⟨#[t0, t1, t2, .pointer (some ⟨b1, 0, none⟩), t4, t5, t6, t7, .pointer (some ⟨b0, 0, none⟩), .pointer (some ⟨b, 0, none⟩), v3, t11, t12, t13, t14, t15, t16, t17, t18, t19, t20, t21, t22, t23, t24, t25, t26, t27, t28, t29, t30, t31, t32, t33, t34, t35, u36, u37, u38, u39, u40, u41, u42, t43, t44, t45, t46, t47, t48, t49, t50, t51, t52, t53, t54, t55, t56, t57, t58, t59, t60, t61, t62, t63, t64, t65, t66, t67, t68, t69, t70, t71, t72, t73, t74, t75, t76, t77, t78, t79, t80, t81, t82, t83, t84, t85, t86, t87, t88, t89, t90, t91, t92, t93, t94, t95, t96, t97, t98, t99, t100, t101, t102, t103, t104, t105, t106, t107, t108, t109, t110, t111, t112, t113, t114, t115, t116, t117, t118, t119, t120, t121, t122, t123, t124], fs⟩ wx) :
    (Code.region 10 #[{ dst := some 37, op := Op.load 27 (Operand.tmp 8), type := 27, pos := "exact.go:3453", after := #[], guard := none }, { dst := some 38, op := Op.load 45 (Operand.tmp 3), type := 45, pos := "exact.go:3453", after := #[], guard := none }, { dst := some 39, op := Op.call { callee := Callee.value (Operand.func 21), args := #[Operand.tmp 38], argTypes := #[45] }, type := 29, pos := "exact.go:3453", after := #[{ on := 1, ground := Ground.data }], guard := none }, { dst := some 40, op := Op.call { callee := Callee.value (Operand.func 8), args := #[Operand.tmp 37, Operand.tmp 39], argTypes := #[27, 29] }, type := 32, pos := "exact.go:3453", after := #[{ on := 0, ground := Ground.data }, { on := 2, ground := Ground.data }, { on := 2, ground := Ground.chain }], guard := none }, { dst := some 36, op := Op.move (Operand.tmp 40), type := 32, pos := "exact.go:3453", after := #[{ on := 3, ground := Ground.data }], guard := none }, { dst := some 41, op := Op.extract (Operand.tmp 36) 0, type := 27, pos := "exact.go:3453", after := #[{ on := 4, ground := Ground.data }], guard := none }, { dst := some 42, op := Op.extract (Operand.tmp 36) 1, type := 24, pos := "exact.go:3453", after := #[{ on := 4, ground := Ground.data }, { on := 8, ground := Ground.gcOnly Departure.lateStores }], guard := none }, { dst := some 9, op := Op.alloc 27, type := 0, pos := "exact.go:3453", after := #[], guard := none }, { dst := none, op := Op.store 27 (Operand.tmp 9) (Operand.tmp 41), type := 0, pos := "exact.go:3453", after := #[{ on := 7, ground := Ground.data }, { on := 5, ground := Ground.data }, { on := 3, ground := Ground.chain }, { on := 0, ground := Ground.phase }, { on := 1, ground := Ground.phase }, { on := 2, ground := Ground.phase }, { on := 3, ground := Ground.phase }, { on := 4, ground := Ground.phase }, { on := 5, ground := Ground.phase }, { on := 6, ground := Ground.textOnly Departure.lateStores }, { on := 7, ground := Ground.phase }], guard := none }, { dst := some 10, op := Op.assign (Operand.tmp 42), type := 24, pos := "exact.go:3453", after := #[{ on := 6, ground := Ground.data }, { on := 8, ground := Ground.chain }, { on := 0, ground := Ground.phase }, { on := 1, ground := Ground.phase }, { on := 2, ground := Ground.phase }, { on := 3, ground := Ground.phase }, { on := 4, ground := Ground.phase }, { on := 5, ground := Ground.phase }, { on := 6, ground := Ground.phase }, { on := 7, ground := Ground.phase }, { on := 8, ground := Ground.phase }], guard := none }] true).wp Try.prog Q ⟨#[t0, t1, t2, .pointer (some ⟨b1, 0, none⟩), t4, t5, t6, t7, .pointer (some ⟨b0, 0, none⟩), t9, t10, t11, t12, t13, t14, t15, t16, t17, t18, t19, t20, t21, t22, t23, t24, t25, t26, t27, t28, t29, t30, t31, t32, t33, t34, t35, t36, t37, t38, t39, t40, t41, t42, t43, t44, t45, t46, t47, t48, t49, t50, t51, t52, t53, t54, t55, t56, t57, t58, t59, t60, t61, t62, t63, t64, t65, t66, t67, t68, t69, t70, t71, t72, t73, t74, t75, t76, t77, t78, t79, t80, t81, t82, t83, t84, t85, t86, t87, t88, t89, t90, t91, t92, t93, t94, t95, t96, t97, t98, t99, t100, t101, t102, t103, t104, t105, t106, t107, t108, t109, t110, t111, t112, t113, t114, t115, t116, t117, t118, t119, t120, t121, t122, t123, t124], fs⟩ w := by
  have hzq := R1.sz
  have hzh := R2.sz
  unfold TkAns at C
  go_region_held3 (fun w' => w'.cell? ⟨b0, 0, none⟩ = some (.int .i64 l.sent) ∧ w'.cell? ⟨b0, 1, none⟩ = some (.int .i64 l.acked) ∧ w'.cell? ⟨b0, 2, none⟩ = some (.slice a1 l.q.length c1) ∧ w'.cell? ⟨b0, 3, none⟩ = some (.int .i64 l.got) ∧ w'.cell? ⟨b0, 4, none⟩ = some (.slice a2 l.h.length c2) ∧ w'.cell? ⟨b1, 0, none⟩ = some (.int .i64 x.n) ∧ w'.cell? ⟨b1, 1, none⟩ = some (.string x.s)) (first | (with_reducible exact sF) | (with_reducible exact sP) | (with_reducible exact sevC S (five_belowL tF (by have := tP.size; omega)) h0 h1) | go_keep) (first
    | (go_at_call 21; with_reducible refine (topc_any x _).mono ?_; rintro e wP ⟨rfl, hbP⟩
       have tP : Below w.heap.size w wP := (by with_reducible first | exact stepM hbP | exact stepA hbP)
       have sP := sevC S tP h0 h1
       have O1 := R1.below tP
       have O2 := R2.below tP
       first
         | (have qP := (by with_reducible exact blkA hbP : wP.heap[w.heap.size]? = some (.cells #[.int .i64 0, .int .i64 0, .slice none 0 0, .int .i64 0, .slice none 0 0] 27 (0, 0))))
         | skip)
    | (go_at_call 8; with_reducible refine (C _ _ _ ?_ ?_).mono ?_; (with_reducible first | exact O1 | exact O1.al _); (with_reducible first | exact O2 | exact O2.al _); rintro e wF ⟨k1, k2, k3, rfl, o1, o2, o3, hap, hbF⟩
       obtain ⟨m1, m2, rfl⟩ := own_form o1
       obtain ⟨m3, m4, rfl⟩ := own_form o2
       obtain ⟨m5, m6, rfl⟩ := own_form o3
       have hbF' : Below wP.heap.size wP wF := (by with_reducible first | exact hbF | exact step_alloc hbF)
       have tF : Below w.heap.size w wF := tP.trans (hbF'.mono tP.size)
       have sF := sevC S tF h0 h1
       first
         | (have qF := (by with_reducible exact block_new hbF : wF.heap[wP.heap.size]? = some (.cells #[.int .i64 0, .int .i64 0, .slice none 0 0, .int .i64 0, .slice none 0 0] 27 (0, 0))); obtain ⟨e0, e1, e2, e3, e4, f0, f1, f2, f3, f4⟩ := fiveZ qF)
         | (have qF := (by with_reducible exact (hbF.block _ (Array.getElem?_eq_some_iff.1 qP).1).trans qP : wF.heap[w.heap.size]? = some (.cells #[.int .i64 0, .int .i64 0, .slice none 0 0, .int .i64 0, .slice none 0 0] 27 (0, 0))); obtain ⟨e0, e1, e2, e3, e4, f0, f1, f2, f3, f4⟩ := fiveZ qF)
         | skip))
  all_goals
    have hs2 := tP.size
    have p1 := own_mono (B' := w.heap.size) o1 (by first | omega | (simp; omega))
    have p2 := own_mono (B' := w.heap.size) o2 (by first | omega | (simp; omega))
    have p3 := own_mono (B' := w.heap.size) o3 (by first | omega | (simp; omega))
    first
      | exact hQ _ _ _ _ _ _ _ _ _ _ _ _ tF.size (TkV.of (heap_alloc_new _ _) (p1.alloc _) (p2.alloc _) (p3.alloc _) hap) (tF.alloc tF.size _)
      | (obtain ⟨z1, z2, z3⟩ := five_putL (v0 := .int .i64 M.sent) (v1 := .int .i64 M.acked) (v2 := .slice m1 M.q.length m2) (v3 := .int .i64 M.got) (v4 := .slice m3 M.h.length m4) qF tF (by omega)
         exact hQ _ _ _ _ _ _ _ _ _ _ _ _ (by omega) (TkV.of z1 (z2 _ _ _ _ _ _ (by decide) p1) (z2 _ _ _ _ _ _ (by decide) p2) (z2 _ _ _ _ _ _ (by decide) p3) hap) z3)

end Go.Proofs.Ytdmnpaoceimcdaa
