/-
  Texts that stood by themselves, laid into one.
-/
import Derived.Test.YtakjjmbkjdjdpaaDDm1M
import Derived.Deep.RegionLaw
import Derived.Test.YtakjjmbkjdjdpaaTo2M
import Derived.Test.YtakjjmbkjdjdpaaCodeM
import Derived.Laws.IdiomCopy
/-
  The region of spec.DrawMachineOf that adds a function. No condition.
-/
namespace Go.Proofs.Ytakjjmbkjdjdpaa
open Go.RowKit

set_option maxRecDepth 100000 in
set_option maxHeartbeats 3200000 in
theorem ddm_reg5 {t0 t1 t2 t3 t4 t8 t9 t10 t11 t12 t13 t14 t15 t16 t17 t18 t19 t20 t21 t22 t23 t24 t25 t26 t27 t28 t29 t30 t31 t32 t33 t34 t35 t36 t37 t38 t39 t40 t41 t42 t43 t44 t45 t46 t47 t48 t49 t50 t51 t52 t53 t54 t55 : Value} {fs : List Deferred} (w0 : World) (v : Value) (zs : List Int) (P b2 b6 b7 B Bp : Nat) (a1 a2 a3 ap : Option Addr) (q1 q2 q3 qp : Nat) (ns : List Nd) (is : List In) (ds : List Df) (xs : List Nd) (W : World) (Q : Exit → Act → World → Prop) (D : DY w0 v zs P b2 b6 b7 B Bp (.slice a1 ns.length q1) (.slice a2 is.length q2) (.slice a3 ds.length q3) (.slice ap xs.length qp) ns is ds xs W) (hl : xs.length ≤ 3001)
    (hQ : ∀ u34 u35 u36 u37 u38 u39 u40 u41 u42 u43 u44 u45 u46 u47 vp' y wx, y.s.size ≤ maxLen → Below b2 W wx → DY w0 v zs P b2 b6 b7 B Bp (.slice a1 ns.length q1) (.slice a2 is.length q2) (.slice a3 ds.length q3) vp' ns is ds (xs ++ [y]) wx → Q .normal ⟨#[t0, t1, t2, t3, t4, .pointer (some ⟨P, 0, none⟩), .pointer (some ⟨b6, 0, none⟩), .pointer (some ⟨b7, 0, none⟩), .int .i64 xs.length, t9, t10, t11, t12, t13, t14, t15, t16, t17, t18, t19, t20, t21, t22, t23, t24, t25, t26, t27, t28, t29, t30, t31, t32, t33, u34, u35, u36, u37, u38, u39, u40, u41, u42, u43, u44, u45, u46, u47, t48, t49, t50, t51, t52, t53, t54, t55], fs⟩ wx) :
    (Code.region 5 #[{ dst := some 34, op := Op.move (Operand.tmp 5), type := 46, pos := "l06_machine.go:382", after := #[], guard := none }, { dst := some 35, op := Op.fieldAddr 30 (Operand.tmp 6) 1, type := 0, pos := "l06_machine.go:382", after := #[], guard := none }, { dst := some 36, op := Op.load 27 (Operand.tmp 35), type := 27, pos := "l06_machine.go:382", after := #[{ on := 1, ground := Ground.data }], guard := none }, { dst := some 37, op := Op.call { callee := Callee.builtin Builtin.len, args := #[Operand.tmp 36], argTypes := #[27] }, type := 3, pos := "l06_machine.go:382", after := #[{ on := 2, ground := Ground.data }], guard := none }, { dst := some 38, op := Op.binOp BinOp.mul 3 (Operand.const (Value.int IntKind.i64 8)) (Operand.tmp 37) 3, type := 3, pos := "l06_machine.go:382", after := #[{ on := 3, ground := Ground.data }], guard := none }, { dst := some 39, op := Op.buildSlice 58 5 #[(0, Operand.const (Value.int IntKind.i64 0)), (1, Operand.const (Value.int IntKind.i64 8)), (2, Operand.const (Value.int IntKind.i64 16)), (3, Operand.const (Value.int IntKind.i64 9)), (4, Operand.tmp 38)], type := 58, pos := "l06_machine.go:382", after := #[{ on := 4, ground := Ground.data }], guard := none }, { dst := some 40, op := Op.call { callee := Callee.value (Operand.func 23), args := #[Operand.tmp 34, Operand.tmp 39], argTypes := #[46, 58] }, type := 3, pos := "l06_machine.go:382", after := #[{ on := 0, ground := Ground.data }, { on := 5, ground := Ground.data }], guard := none }, { dst := some 41, op := Op.move (Operand.tmp 5), type := 46, pos := "l06_machine.go:382", after := #[], guard := none }, { dst := some 42, op := Op.fieldAddr 26 (Operand.tmp 7) 0, type := 0, pos := "l06_machine.go:382", after := #[], guard := none }, { dst := some 43, op := Op.load 24 (Operand.tmp 42), type := 24, pos := "l06_machine.go:382", after := #[{ on := 8, ground := Ground.data }], guard := none }, { dst := some 44, op := Op.call { callee := Callee.builtin Builtin.len, args := #[Operand.tmp 43], argTypes := #[24] }, type := 3, pos := "l06_machine.go:382", after := #[{ on := 9, ground := Ground.data }], guard := none }, { dst := some 45, op := Op.call { callee := Callee.value (Operand.func 24), args := #[Operand.tmp 41, Operand.tmp 44], argTypes := #[46, 3] }, type := 3, pos := "l06_machine.go:382", after := #[{ on := 7, ground := Ground.data }, { on := 10, ground := Ground.data }, { on := 6, ground := Ground.chain }], guard := none }, { dst := some 46, op := Op.build 45 #[(0, Operand.const (Value.int IntKind.i64 6)), (1, Operand.tmp 40), (3, Operand.tmp 45)], type := 45, pos := "l06_machine.go:382", after := #[{ on := 6, ground := Ground.data }, { on := 11, ground := Ground.data }], guard := none }, { dst := some 47, op := Op.call { callee := Callee.value (Operand.func 22), args := #[Operand.tmp 7, Operand.tmp 46], argTypes := #[56, 45] }, type := 3, pos := "l06_machine.go:382", after := #[{ on := 12, ground := Ground.data }, { on := 11, ground := Ground.chain }], guard := none }, { dst := some 8, op := Op.assign (Operand.tmp 47), type := 3, pos := "l06_machine.go:382", after := #[{ on := 13, ground := Ground.data }, { on := 13, ground := Ground.chain }, { on := 0, ground := Ground.phase }, { on := 1, ground := Ground.phase }, { on := 2, ground := Ground.phase }, { on := 3, ground := Ground.phase }, { on := 4, ground := Ground.phase }, { on := 5, ground := Ground.phase }, { on := 6, ground := Ground.phase }, { on := 7, ground := Ground.phase }, { on := 8, ground := Ground.phase }, { on := 9, ground := Ground.phase }, { on := 10, ground := Ground.phase }, { on := 11, ground := Ground.phase }, { on := 12, ground := Ground.phase }, { on := 13, ground := Ground.phase }], guard := none }] true).wp Try.prog Q ⟨#[t0, t1, t2, t3, t4, .pointer (some ⟨P, 0, none⟩), .pointer (some ⟨b6, 0, none⟩), .pointer (some ⟨b7, 0, none⟩), t8, t9, t10, t11, t12, t13, t14, t15, t16, t17, t18, t19, t20, t21, t22, t23, t24, t25, t26, t27, t28, t29, t30, t31, t32, t33, t34, t35, t36, t37, t38, t39, t40, t41, t42, t43, t44, t45, t46, t47, t48, t49, t50, t51, t52, t53, t54, t55], fs⟩ W := by
  have hq1 := D.h2
  have hq2 := D.hB
  have hq3 := D.h6
  have hq4 := D.hp
  have hq5 := D.h7
  have hWP : W.heap.size ≠ P := by have := D.cur.lt; omega
  have hw1 := wrapB (8 * (is.length : Int))
  have s0 : W.cell? ⟨b6, 1, none⟩ = some (.slice a2 is.length q2) ∧ W.cell? ⟨b7, 0, none⟩ = some (.slice ap xs.length qp) := ⟨cell_of_row _ _ 1 _ _ _ D.box1, cell_of_row _ _ 0 _ _ _ D.box2⟩
  have lw := (Array.getElem?_eq_some_iff.1 D.res1).1
  obtain ⟨s0a, s0b⟩ := s0
  have lb6 : b6 < W.heap.size := (Array.getElem?_eq_some_iff.1 D.box1).1
  have lb7 : b7 < W.heap.size := (Array.getElem?_eq_some_iff.1 D.box2).1
  refine wp_region_noPanic ?_
  go_region_law (first
    | (go_simp; go_at_call 23; refine (pick_any w0 v zs _ P W.heap.size 5 [0, 8, 16, 9, IntKind.i64.wrap (8 * (is.length : Int))] ?_ (by omega) (by simp) (by simp) ?_ ?_).mono ?_; (with_reducible exact cur_drewA D.cur _); (intro x hx; simp only [List.mem_cons, List.not_mem_nil, or_false] at hx; omega); (intro j hj; exact ints_new W [0, 8, 16, 9, IntKind.i64.wrap (8 * (is.length : Int))] 3 j hj); rintro e w2 ⟨z, rfl, hz0, hz1, c2, g2⟩
       have D1 := D.turn c2 (grown_drewA g2)
       have s1 : w2.cell? ⟨b6, 1, none⟩ = some (.slice a2 is.length q2) ∧ w2.cell? ⟨b7, 0, none⟩ = some (.slice ap xs.length qp) := ⟨cell_of_row _ _ 1 _ _ _ D1.box1, cell_of_row _ _ 0 _ _ _ D1.box2⟩
       obtain ⟨s1a, s1b⟩ := s1)
    | (go_simp; go_at_call 24; with_reducible refine (below_any w0 v zs _ P xs.length D1.cur (by omega)).mono ?_; rintro e w3 ⟨y, rfl, _, _, c3, g3⟩
       have D2 := D1.turn c3 g3
       have s2 : w3.cell? ⟨b6, 1, none⟩ = some (.slice a2 is.length q2) ∧ w3.cell? ⟨b7, 0, none⟩ = some (.slice ap xs.length qp) := ⟨cell_of_row _ _ 1 _ _ _ D2.box1, cell_of_row _ _ 0 _ _ _ D2.box2⟩
       obtain ⟨s2a, s2b⟩ := s2)
    | (go_simp; go_at_call 22; refine (sadd_any b7 Bp ap qp xs ⟨6, z, ByteArray.empty, y, 0⟩ _ D2.box2 D2.ownp (by omega) D2.h7).mono ?_; rintro e w4 ⟨v4, rfl, hb4, ho4, bel4⟩))
  all_goals
    have D3 := D2.add bel4 hb4 ho4
    have hBw : Below b2 W w4 := (by have g := grown_trans (grown_drewA g2) g3; exact Below.trans ⟨g.os, g.tape, g.output, g.size, fun k hk => g.block k (by omega) (by simp; omega)⟩ (bel4.mono (by omega)))
    exact NoPanic.normal <| hQ _ _ _ _ _ _ _ _ _ _ _ _ _ _ v4 _ _ (Nat.zero_le _) hBw D3

end Go.Proofs.Ytakjjmbkjdjdpaa

/-
  The contract of the draw spec.DrawMachineOf: some code, some pool, and a number. No condition.
-/
namespace Go.Proofs.Ytakjjmbkjdjdpaa
open Go.RowKit

set_option maxRecDepth 100000 in
set_option maxHeartbeats 6400000 in
theorem dmachof_any (v : Value) (zs : List Int) (w : World) (R : Row w v zs) (hl : zs.length ≤ 1048576) :
    Calls Try.prog 8 #[v] w fun e w' => ∃ (v1 v2 v3 vp : Value) (ns : List Nd) (is : List In) (ds : List Df) (xs : List Nd) (f : Int), e = .returned (.tuple #[.agg #[v1, v2, v3], .agg #[vp], .int .i64 f]) ∧ Sz3 ns is ds ∧ xs.length ≤ 3002 ∧ (∀ x ∈ xs, x.s.size ≤ maxLen) ∧ Own3 w' w.heap.size v1 v2 v3 ns is ds ∧ w'.ownsRow w.heap.size 45 5 vp xs.length (ncs xs) ∧ Below w.heap.size w w' := by
  obtain ⟨hB0, hr0, hp0⟩ := two_boxes w (Obj.cells #[.slice none 0 0, .slice none 0 0, .slice none 0 0] 30) (Obj.cells #[.slice none 0 0] 26)
  have hA0 : Hid (((w.alloc (Obj.cells #[.slice none 0 0, .slice none 0 0, .slice none 0 0] 30)).alloc (Obj.cells #[.slice none 0 0] 26)).heap.size = w.heap.size + 1 + 1) := by unfold Hid; simp
  have R0 := R.below hB0
  go_enter Try.func8, Try.ntmps8
  go_wp2_with fail
  generalize (w.alloc (Obj.cells #[.slice none 0 0, .slice none 0 0, .slice none 0 0] 30)).alloc (Obj.cells #[.slice none 0 0] 26) = wA at hB0 hr0 hp0 R0 hA0 ⊢
  refine (new_any v zs wA R0 hl).mono ?_
  rintro e w1 ⟨rfl, c1, b1⟩
  have hP1 := c1.lt
  have hr1 := (c1.2.1.block _ (Array.getElem?_eq_some_iff.1 hr0).1).trans hr0
  have hp1 := (c1.2.1.block _ (Array.getElem?_eq_some_iff.1 hp0).1).trans hp0
  clear b1 hr0 hp0
  have hAP : w.heap.size + 1 < wA.heap.size := by rw [hA0.out]; omega
  clear hA0
  go_wp2_with fail
  generalize HP : wA.heap.size = P at c1 hAP hP1 ⊢
  refine (d4draw_any wA v zs P w1 c1).mono ?_
  rintro e w2 ⟨v1, v2, v3, ns, is, ds, rfl, hS, O2, c2, g2⟩
  obtain ⟨a1, q1, rfl⟩ := own_form O2.1
  obtain ⟨a2, q2, rfl⟩ := own_form O2.2.1
  obtain ⟨a3, q3, rfl⟩ := own_form O2.2.2
  have hr2 := (g2.block _ (Array.getElem?_eq_some_iff.1 hr1).1 (by simp; omega)).trans hr1
  have hp2 := (g2.block _ (Array.getElem?_eq_some_iff.1 hp1).1 (by simp; omega)).trans hp1
  have hs12 := g2.size
  have hBx : Below w2.heap.size w2 (w2.alloc (Obj.cells #[.slice a1 ns.length q1, .slice a2 is.length q2, .slice a3 ds.length q3] 30)) := (Below.refl _ _).alloc (Nat.le_refl _) _
  have hx3 := heap_alloc_new w2 (Obj.cells #[.slice a1 ns.length q1, .slice a2 is.length q2, .slice a3 ds.length q3] 30)
  have hsx : w2.heap.size < (w2.alloc (Obj.cells #[.slice a1 ns.length q1, .slice a2 is.length q2, .slice a3 ds.length q3] 30)).heap.size := by simp
  have c3 := c2.kept (hBx.mono (by omega))
  have hr3 := (hBx.block _ (Array.getElem?_eq_some_iff.1 hr2).1).trans hr2
  have hp3 := (hBx.block _ (Array.getElem?_eq_some_iff.1 hp2).1).trans hp2
  have O3 := O2.below hBx
  have lo1 : ∀ j, (Value.slice a1 ns.length q1).ownBlock = some j → j < w2.heap.size := fun j hj => (O2.1.lt j hj).2
  have lo2 : ∀ j, (Value.slice a2 is.length q2).ownBlock = some j → j < w2.heap.size := fun j hj => (O2.2.1.lt j hj).2
  have lo3 : ∀ j, (Value.slice a3 ds.length q3).ownBlock = some j → j < w2.heap.size := fun j hj => (O2.2.2.lt j hj).2
  clear hr1 hp1 g2 c1 c2 hr2 hp2 O2 hBx
  go_wp2_with fail
  generalize w2.alloc (Obj.cells #[.slice a1 ns.length q1, .slice a2 is.length q2, .slice a3 ds.length q3] 30) = w3 at *
  refine (ddraw_any wA v zs w3 P c3).mono ?_
  rintro e w4 ⟨v4, xs, rfl, hx1, hx2, ho4, c4, g4⟩
  obtain ⟨ap, qp, rfl⟩ := own_form ho4
  have hBy : Below w4.heap.size w4 (w4.alloc (Obj.cells #[.slice ap xs.length qp] 26)) := (Below.refl _ _).alloc (Nat.le_refl _) _
  have hy5 := heap_alloc_new w4 (Obj.cells #[.slice ap xs.length qp] 26)
  have hs34 := g4.size
  have c5 := c4.kept (hBy.mono c4.lt)
  have hr4 := (g4.block _ (Array.getElem?_eq_some_iff.1 hr3).1 (by simp; omega)).trans hr3
  have hp4 := (g4.block _ (Array.getElem?_eq_some_iff.1 hp3).1 (by simp; omega)).trans hp3
  have hx4 := (g4.block _ (Array.getElem?_eq_some_iff.1 hx3).1 (by simp; omega)).trans hx3
  have O4 : Own3 w4 w1.heap.size (.slice a1 ns.length q1) (.slice a2 is.length q2) (.slice a3 ds.length q3) ns is ds := ⟨O3.1.kept g4 (own_not O3.1 hP1), O3.2.1.kept g4 (own_not O3.2.1 hP1), O3.2.2.kept g4 (own_not O3.2.2 hP1)⟩
  have D : DY wA v zs P w.heap.size w2.heap.size w4.heap.size w1.heap.size w3.heap.size (.slice a1 ns.length q1) (.slice a2 is.length q2) (.slice a3 ds.length q3) (.slice ap xs.length qp) ns is ds xs (w4.alloc (Obj.cells #[.slice ap xs.length qp] 26)) :=
    ⟨(hBy.block _ (Array.getElem?_eq_some_iff.1 hr4).1).trans hr4, (hBy.block _ (Array.getElem?_eq_some_iff.1 hp4).1).trans hp4, (hBy.block _ (Array.getElem?_eq_some_iff.1 hx4).1).trans hx4, hy5, O4.below hBy, fun j hj => by have := lo1 j hj; omega, fun j hj => by have := lo2 j hj; omega, fun j hj => by have := lo3 j hj; omega, own_below ho4 hBy, c5, hAP, hP1, hs12, by omega, hs34⟩
  have hzx : ∀ x ∈ xs, x.s.size ≤ maxLen := fun x hx => by have := hx2 x hx; unfold maxLen; omega
  have hBA : Below w.heap.size w wA := hB0
  have k5 : (w4.alloc (Obj.cells #[.slice ap xs.length qp] 26)).cell? ⟨w4.heap.size, 0, none⟩ = some (.slice ap xs.length qp) := cell_of_row _ _ 0 _ _ _ hy5
  clear hr3 hp3 hx3 hr4 hp4 hx4 O3 O4 c3 c4 c5 g4 ho4 hy5 hBy lo1 lo2 lo3 hx2 hB0
  go_wp2_with fail
  generalize w4.alloc (Obj.cells #[.slice ap xs.length qp] 26) = w5 at *
  have R5 := NRow.of_own D.ownp (by omega) hzx
  refine (spool_any _ xs _ R5).mono ?_
  rintro e w6 ⟨rfl, hb6⟩
  replace D := D.on hb6
  have k6 : w6.cell? ⟨w4.heap.size, 0, none⟩ = some (.slice ap xs.length qp) := cell_of_row _ _ 0 _ _ _ D.box2
  clear k5 R5 hb6
  cases hpb : poolB xs with
  | false =>
    go_wp2_with fail
    refine ddm_reg7 wA v zs P w.heap.size w2.heap.size w4.heap.size w1.heap.size w3.heap.size a1 a2 a3 ap q1 q2 q3 qp ns is ds xs w6 _ D (by omega) ?_
    intro u51 u52 u53 u54 u55 f wx p1 p2 p3 p4 p5
    have hBW : Below w.heap.size w w6 := hBA.trans (D.cur.2.1.mono (by have := hBA.size; omega))
    go_wp2_with fail
    exact bodyPost_ret (results_code_pool rfl _ _ w.heap.size (w.heap.size + 1) 30 26 _ _ (0, 0) (0, 0) _ _ rfl p1 rfl p2 Try.underlying30 rfl Try.sizeC Try.underlying26 rfl Try.sizeP) rfl ⟨_, _, _, _, ns, is, ds, xs, f, rfl, hS, by omega, hzx, p3.mono (by omega), own_mono p4 (by omega), hBW.trans p5⟩
  | true =>
    by_cases h0 : xs.length = 0
    · have h0' : ¬ (0 : Int) < xs.length := by omega
      go_wp2_with fail
      refine ddm_reg7 wA v zs P w.heap.size w2.heap.size w4.heap.size w1.heap.size w3.heap.size a1 a2 a3 ap q1 q2 q3 qp ns is ds xs w6 _ D (by omega) ?_
      intro u51 u52 u53 u54 u55 f wx p1 p2 p3 p4 p5
      have hBW : Below w.heap.size w w6 := hBA.trans (D.cur.2.1.mono (by have := hBA.size; omega))
      go_wp2_with fail
      exact bodyPost_ret (results_code_pool rfl _ _ w.heap.size (w.heap.size + 1) 30 26 _ _ (0, 0) (0, 0) _ _ rfl p1 rfl p2 Try.underlying30 rfl Try.sizeC Try.underlying26 rfl Try.sizeP) rfl ⟨_, _, _, _, ns, is, ds, xs, f, rfl, hS, by omega, hzx, p3.mono (by omega), own_mono p4 (by omega), hBW.trans p5⟩
    · have h0' : (0 : Int) < xs.length := by omega
      by_cases h4 : xs.length < 40
      · have h4' : (xs.length : Int) < 40 := by omega
        go_wp2_with fail
        refine (once_any wA v zs _ P 4 D.cur (by omega)).mono ?_
        rintro e w7 ⟨bb, rfl, c7, g7⟩
        replace D := D.turn c7 g7
        clear k6 c7 g7
        cases bb with
        | true =>
          go_wp2_with fail
          refine ddm_reg7 wA v zs P w.heap.size w2.heap.size w4.heap.size w1.heap.size w3.heap.size a1 a2 a3 ap q1 q2 q3 qp ns is ds xs w7 _ D (by omega) ?_
          intro u51 u52 u53 u54 u55 f wx p1 p2 p3 p4 p5
          have hBW : Below w.heap.size w w7 := hBA.trans (D.cur.2.1.mono (by have := hBA.size; omega))
          go_wp2_with fail
          exact bodyPost_ret (results_code_pool rfl _ _ w.heap.size (w.heap.size + 1) 30 26 _ _ (0, 0) (0, 0) _ _ rfl p1 rfl p2 Try.underlying30 rfl Try.sizeC Try.underlying26 rfl Try.sizeP) rfl ⟨_, _, _, _, ns, is, ds, xs, f, rfl, hS, by omega, hzx, p3.mono (by omega), own_mono p4 (by omega), hBW.trans p5⟩
        | false =>
          go_wp2_with fail
          refine ddm_reg5 wA v zs P w.heap.size w2.heap.size w4.heap.size w1.heap.size w3.heap.size a1 a2 a3 ap q1 q2 q3 qp ns is ds xs w7 _ D (by omega) ?_
          intro u34 u35 u36 u37 u38 u39 u40 u41 u42 u43 u44 u45 u46 u47 v8 y w8 hy b8 D8
          have hBW : Below w.heap.size w w7 := hBA.trans (D.cur.2.1.mono (by have := hBA.size; omega))
          obtain ⟨a8, q8, rfl⟩ := own_form D8.ownp
          have hzy : ∀ x ∈ xs ++ [y], x.s.size ≤ maxLen := fun x hx => by
            rcases List.mem_append.1 hx with hx | hx
            · exact hzx x hx
            · rw [List.mem_singleton] at hx; subst hx; exact hy
          have hly : (xs ++ [y]).length ≤ 3002 := by simp; omega
          have hBW8 := hBW.trans b8
          generalize xs ++ [y] = ys at *
          go_wp2_with fail
          refine ddm_reg6 wA v zs P w.heap.size w2.heap.size w4.heap.size w1.heap.size w3.heap.size a1 a2 a3 a8 q1 q2 q3 q8 ns is ds ys w8 _ _ D8 ?_
          intro u48 u49 u50 wx p1 p2 p3 p4 p5
          go_wp2_with fail
          exact bodyPost_ret (results_code_pool rfl _ _ w.heap.size (w.heap.size + 1) 30 26 _ _ (0, 0) (0, 0) _ _ rfl p1 rfl p2 Try.underlying30 rfl Try.sizeC Try.underlying26 rfl Try.sizeP) rfl ⟨_, _, _, _, ns, is, ds, ys, _, rfl, hS, hly, hzy, p3.mono (by omega), own_mono p4 (by omega), hBW8.trans p5⟩
      · have h4' : ¬ (xs.length : Int) < 40 := by omega
        go_wp2_with fail
        refine ddm_reg7 wA v zs P w.heap.size w2.heap.size w4.heap.size w1.heap.size w3.heap.size a1 a2 a3 ap q1 q2 q3 qp ns is ds xs w6 _ D (by omega) ?_
        intro u51 u52 u53 u54 u55 f wx p1 p2 p3 p4 p5
        have hBW : Below w.heap.size w w6 := hBA.trans (D.cur.2.1.mono (by have := hBA.size; omega))
        go_wp2_with fail
        exact bodyPost_ret (results_code_pool rfl _ _ w.heap.size (w.heap.size + 1) 30 26 _ _ (0, 0) (0, 0) _ _ rfl p1 rfl p2 Try.underlying30 rfl Try.sizeC Try.underlying26 rfl Try.sizeP) rfl ⟨_, _, _, _, ns, is, ds, xs, f, rfl, hS, by omega, hzx, p3.mono (by omega), own_mono p4 (by omega), hBW.trans p5⟩

end Go.Proofs.Ytakjjmbkjdjdpaa

/-
  How great a pool is, whatever is left: contracts of the laws' own helpers szNodeS and szPool. Condition: what is left is no more than at the start.
-/
namespace Go.Proofs.Ytakjjmbkjdjdpaa
open Go.RowKit

end Go.Proofs.Ytakjjmbkjdjdpaa

/-
  A machine's records: how great, made of the law's, and alike. No condition.
-/
namespace Go.Proofs.Ytakjjmbkjdjdpaa
open Go.RowKit

/-- One cell stored: what is known of the world behind it. -/
theorem wpList_store_at {P : Program} {ops : Array Oper} {rest : List Oper} {o : Oper} {a : Act} {w : World} {Q : Exit → Act → World → Prop} (hgd : o.guard = none) (ty : TypeId) (x y : Operand) (ho : o.op = .store ty x y)
    (g i : Nat) (v : Value) (cs : Array Value) (hx : a.eval x = .pointer (some ⟨g, i, none⟩)) (hy : a.eval y = v) (hc : v.cells = #[cs.getD 0 undef]) (hv : (cs.getD 0 undef).oneCell' = true) (t : TypeId) (old new : Array Value) (hg : w.heap[g]? = some (.cells old t (0, 0))) (hl : i < old.size) (hi : (P.info? ty).map (·.size) = some 1) (hn : new = old.setIfInBounds i (cs.getD 0 undef))
    (h : ∀ w2 : World, w2.heap[g]? = some (.cells new t (0, 0)) → Below g w w2 → w2.heap.size = w.heap.size → (∀ k, k ≠ g → w2.heap[k]? = w.heap[k]?) → wpList P ops Q rest (a.put o.dst undef) w2) : wpList P ops Q (o :: rest) a w := by
  refine wpList_plain hgd fun K hK => ?_
  generalize cs.getD 0 undef = c at hc hv hn
  have hcell : (w.cell? ⟨g, i, none⟩).isSome = true := by rw [cell_of_row w g i _ _ _ hg]; simp [hl]
  have hrun := run_storeCells_cells (P := P) g i [c] 0 w (fun j hj => by have : j = 0 := by simpa using hj
                                                                         subst this; simpa using hcell) (fun j hj => frozen_of_row w g _ _ _ hg) (fun u hu => by simp at hu; subst hu; exact hv)
  have hst : (storeVar ty ⟨g, i, none⟩ v).run P w = .ok () (w.setCell ⟨g, i, none⟩ c) := by
    cases hq : P.info? ty with
    | none => simp [hq] at hi
    | some inf =>
      have hs : inf.size = 1 := by simpa [hq] using hi
      simp only [Nat.add_zero] at hrun
      simp [storeVar, sizeOf, typeInfo, hq, hc, hs, hrun, World.setCells]
  unfold Oper.wp execOp
  simp only [ho, hx, hy, Instr.storeAt, Instr.sureAddr, Sem.run_bind, Sem.run_pure, Result.andThen_ok, hst]
  refine hK _ _ (h _ ?_ ((Below.refl g w).setCell (p := ⟨g, i, none⟩) (Nat.le_refl _) _) (by simp [World.setCell]) (fun k hk => heap_setCell_other w ⟨g, i, none⟩ k _ hk))
  rw [hn]
  exact heap_setCell_same w g i _ _ _ hg

theorem wpList_store_own2 {P : Program} {ops : Array Oper} {rest : List Oper} {o : Oper} {a : Act} {w : World} {Q : Exit → Act → World → Prop} (hgd : o.guard = none) (ty : TypeId) (x y : Operand) (ho : o.op = .store ty x y)
    (g : Nat) (cells : Array Value) (hx : a.eval x = .pointer (some ⟨g, 0, none⟩)) (hy : a.eval y = .agg cells)
    (t : TypeId) (old : Array Value) (hg : w.heap[g]? = some (.cells old t (0, 0))) (hi : (P.info? ty).map (·.size) = some cells.size)
    (hold : old.size = cells.size) (h1 : cells.all (·.oneCell') = true)
    (h : ∀ w2 : World, w2.heap[g]? = some (.cells cells t (0, 0)) → Below g w w2 → w2.heap.size = w.heap.size → (∀ k, k ≠ g → w2.heap[k]? = w.heap[k]?) → wpList P ops Q rest (a.put o.dst undef) w2) : wpList P ops Q (o :: rest) a w :=
  wpList_store_row hgd ty x y ho g cells hx hy t old hg hi hold h1 (h _ (setRow_heap w g old _ t _ hg) (below_setRow (Below.refl _ _) (Nat.le_refl _) _) (size_setRow w g cells) (fun k hk => setRow_other w g k cells hk))

theorem own_keep {w w' : World} {B k n g : Nat} {e : TypeId} {v : Value} {l : List Value} (h : w.ownsRow B e k v n l) (hg : g < B) (hb : ∀ j, j ≠ g → w'.heap[j]? = w.heap[j]?) : w'.ownsRow B e k v n l := by
  refine ⟨h.1, ?_⟩
  rcases h.2 with ⟨rfl, h0⟩ | ⟨gg, cap, cur, rfl, hB, hgg, hr⟩
  · exact Or.inl ⟨rfl, h0⟩
  · exact Or.inr ⟨gg, cap, cur, rfl, hB, (hb gg (by omega)).trans hgg, hr⟩

end Go.Proofs.Ytakjjmbkjdjdpaa
