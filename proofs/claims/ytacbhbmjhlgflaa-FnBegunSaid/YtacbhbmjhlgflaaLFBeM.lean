/-
  Texts that stood by themselves, laid into one.
-/
import Derived.Test.YtacbhbmjhlgflaaDDnM
import Derived.Test.YtacbhbmjhlgflaaMcTM
import Derived.Deep.RegionLaw
import Derived.Test.YtacbhbmjhlgflaaDefOfM
import Derived.Test.YtacbhbmjhlgflaaMOf2M
import Derived.Test.YtacbhbmjhlgflaaMkListM
import Derived.Deep.RegionHeld3
/-
  The contract of the draw spec.DrawMachineOf: some code, some pool, and a number. No condition.
-/
namespace Go.Proofs.Ytacbhbmjhlgflaa
open Go.RowKit

theorem results_code_pool {P : Program} {fn : Func} {p p' u : Tmp} {ty ty' : TypeId} (h : fn.results = #[.cell p ty, .cell p' ty', .tmp u]) (tmps : Array Value) (w : World) (g g' : Nat) (t t' : TypeId) (cs cs' : Array Value) (fr fr' : Nat × Nat) (d d' : TypeDesc)
    (hp : tmps.getD p undef = .pointer (some ⟨g, 0, none⟩)) (hg : w.heap[g]? = some (.cells cs t fr)) (hp' : tmps.getD p' undef = .pointer (some ⟨g', 0, none⟩)) (hg' : w.heap[g']? = some (.cells cs' t' fr'))
    (hu : P.underlying ty = some d) (hd : (match d with | .struct _ | .array _ _ => true | _ => false) = true) (hi : (P.info? ty).map (·.size) = some cs.size)
    (hu' : P.underlying ty' = some d') (hd' : (match d' with | .struct _ | .array _ _ => true | _ => false) = true) (hi' : (P.info? ty').map (·.size) = some cs'.size) :
    (results fn tmps).run P w = .ok (.tuple #[.agg cs, .agg cs', tmps.getD u undef]) w := by
  have e : (results fn tmps).run P w = ((asAddr (tmps.getD p undef)).run P w).andThen fun a w₁ => ((loadVar ty a).run P w₁).andThen fun v w₂ => ((asAddr (tmps.getD p' undef)).run P w₂).andThen fun a' w₃ => ((loadVar ty' a').run P w₃).andThen fun v' w₄ => .ok (.tuple #[v, v', tmps.getD u undef]) w₄ := by
    simp only [results, h]
    simp [Sem.run_bind, Result.andThen]
  rw [e, hp, hp']
  simp [asAddr, run_loadVar_row w g t ty cs fr d hg hu hd hi, run_loadVar_row w g' t' ty' cs' fr' d' hg' hu' hd' hi']

theorem cell_dr (w : World) (a : Addr) : w.drew.cell? a = w.cell? a := rfl
theorem blk_dr {w : World} {b : Nat} {ob : Obj} (h : w.heap[b]? = some ob) : w.drew.heap[b]? = some ob := h
theorem own_dr {w : World} {B0 n k : Nat} {t : TypeId} {v : Value} {L : List Value} (h : w.ownsRow B0 t k v n L) : w.drew.ownsRow B0 t k v n L := h
theorem own3_dr {w : World} {B : Nat} {v1 v2 v3 : Value} {ns : List Nd} {is : List In} {ds : List Df} (h : Own3 w B v1 v2 v3 ns is ds) : Own3 w.drew B v1 v2 v3 ns is ds := ⟨own_dr h.1, own_dr h.2.1, own_dr h.2.2⟩
theorem own_low {w w' : World} {B0 B n k : Nat} {t : TypeId} {v : Value} {L : List Value} (h : w.ownsRow B0 t k v n L) (hb : Below B w w') (hk : ∀ j, v.ownBlock = some j → j < B) : w'.ownsRow B0 t k v n L := by
  obtain ⟨h1, h2⟩ := h
  rcases h2 with ⟨rfl, h0⟩ | ⟨g', cap, cur, rfl, hb', hg, r⟩
  · exact ⟨h1, Or.inl ⟨rfl, h0⟩⟩
  · exact ⟨h1, Or.inr ⟨g', cap, cur, rfl, hb', (hb.block g' (hk g' rfl)).trans hg, r⟩⟩
/-- What there is while a function's pool is drawn. -/
structure DY (w0 : World) (v : Value) (zs : List Int) (P b2 b6 b7 B Bp : Nat) (v1 v2 v3 vp : Value) (ns : List Nd) (is : List In) (ds : List Df) (xs : List Nd) (W : World) : Prop where
  res1 : W.heap[b2]? = some (.cells #[.slice none 0 0, .slice none 0 0, .slice none 0 0] 41 (0, 0))
  res2 : W.heap[b2 + 1]? = some (.cells #[.slice none 0 0] 33 (0, 0))
  box1 : W.heap[b6]? = some (.cells #[v1, v2, v3] 41 (0, 0))
  box2 : W.heap[b7]? = some (.cells #[vp] 33 (0, 0))
  own : Own3 W B v1 v2 v3 ns is ds
  low1 : ∀ j, v1.ownBlock = some j → j < Bp
  low2 : ∀ j, v2.ownBlock = some j → j < Bp
  low3 : ∀ j, v3.ownBlock = some j → j < Bp
  ownp : W.ownsRow Bp 63 5 vp xs.length (ncs xs)
  cur : Cur w0 v zs W P
  h2 : b2 + 1 < P
  hB : P < B
  h6 : B ≤ b6
  hp : b6 < Bp
  h7 : Bp ≤ b7
theorem DY.turn {w0 W W' : World} {v v1 v2 v3 vp : Value} {zs : List Int} {P b2 b6 b7 B Bp : Nat} {ns : List Nd} {is : List In} {ds : List Df} {xs : List Nd} (h : DY w0 v zs P b2 b6 b7 B Bp v1 v2 v3 vp ns is ds xs W) (c : Cur w0 v zs W' P) (g : W.grownBy W' (some P)) : DY w0 v zs P b2 b6 b7 B Bp v1 v2 v3 vp ns is ds xs W' :=
  have q1 := h.h2
  have q2 := h.hB
  have q3 := h.h6
  have q4 := h.hp
  have q5 := h.h7
  ⟨(g.block _ (Array.getElem?_eq_some_iff.1 h.res1).1 (by simp; omega)).trans h.res1, (g.block _ (Array.getElem?_eq_some_iff.1 h.res2).1 (by simp; omega)).trans h.res2, (g.block _ (Array.getElem?_eq_some_iff.1 h.box1).1 (by simp; omega)).trans h.box1, (g.block _ (Array.getElem?_eq_some_iff.1 h.box2).1 (by simp; omega)).trans h.box2,
    ⟨h.own.1.kept g (own_not h.own.1 (by omega)), h.own.2.1.kept g (own_not h.own.2.1 (by omega)), h.own.2.2.kept g (own_not h.own.2.2 (by omega))⟩, h.low1, h.low2, h.low3, h.ownp.kept g (own_not h.ownp (by omega)), c, q1, q2, q3, q4, q5⟩
theorem DY.on {w0 W W' : World} {v v1 v2 v3 vp : Value} {zs : List Int} {P b2 b6 b7 B Bp : Nat} {ns : List Nd} {is : List In} {ds : List Df} {xs : List Nd} (h : DY w0 v zs P b2 b6 b7 B Bp v1 v2 v3 vp ns is ds xs W) (hb : Below W.heap.size W W') : DY w0 v zs P b2 b6 b7 B Bp v1 v2 v3 vp ns is ds xs W' :=
  ⟨(hb.block _ (Array.getElem?_eq_some_iff.1 h.res1).1).trans h.res1, (hb.block _ (Array.getElem?_eq_some_iff.1 h.res2).1).trans h.res2, (hb.block _ (Array.getElem?_eq_some_iff.1 h.box1).1).trans h.box1, (hb.block _ (Array.getElem?_eq_some_iff.1 h.box2).1).trans h.box2,
    h.own.below hb, h.low1, h.low2, h.low3, own_below h.ownp hb, h.cur.kept (hb.mono h.cur.lt), h.h2, h.hB, h.h6, h.hp, h.h7⟩
/-- The pool is turned, and nothing below it. -/
theorem DY.add {w0 W W' : World} {v v1 v2 v3 vp vp' : Value} {zs : List Int} {P b2 b6 b7 B Bp : Nat} {ns : List Nd} {is : List In} {ds : List Df} {xs ys : List Nd} (h : DY w0 v zs P b2 b6 b7 B Bp v1 v2 v3 vp ns is ds xs W) (hb : Below Bp W W') (hx : W'.heap[b7]? = some (.cells #[vp'] 33 (0, 0))) (ho : W'.ownsRow Bp 63 5 vp' ys.length (ncs ys)) : DY w0 v zs P b2 b6 b7 B Bp v1 v2 v3 vp' ns is ds ys W' :=
  have q1 := h.h2
  have q2 := h.hB
  have q3 := h.h6
  have q4 := h.hp
  have q5 := h.h7
  ⟨(hb.block _ (by omega)).trans h.res1, (hb.block _ (by omega)).trans h.res2, (hb.block _ (by omega)).trans h.box1, hx, ⟨own_low h.own.1 hb h.low1, own_low h.own.2.1 hb h.low2, own_low h.own.2.2 hb h.low3⟩, h.low1, h.low2, h.low3, ho, h.cur.kept (hb.mono (by omega)), q1, q2, q3, q4, q5⟩

theorem DY.fin (w0 : World) (v : Value) (zs : List Int) (P b2 b6 b7 B Bp : Nat) (a1 a2 a3 ap : Option Addr) (q1 q2 q3 qp : Nat) (ns : List Nd) (is : List In) (ds : List Df) (xs : List Nd) (W : World) (D : DY w0 v zs P b2 b6 b7 B Bp (.slice a1 ns.length q1) (.slice a2 is.length q2) (.slice a3 ds.length q3) (.slice ap xs.length qp) ns is ds xs W) :
    let W' := (((W.setCell ⟨b2, 0, none⟩ (.slice a1 ns.length q1)).setCell ⟨b2, 1, none⟩ (.slice a2 is.length q2)).setCell ⟨b2, 2, none⟩ (.slice a3 ds.length q3)).setCell ⟨b2 + 1, 0, none⟩ (.slice ap xs.length qp)
    W'.heap[b2]? = some (.cells #[.slice a1 ns.length q1, .slice a2 is.length q2, .slice a3 ds.length q3] 41 (0, 0)) ∧ W'.heap[b2 + 1]? = some (.cells #[.slice ap xs.length qp] 33 (0, 0)) ∧ Own3 W' B (.slice a1 ns.length q1) (.slice a2 is.length q2) (.slice a3 ds.length q3) ns is ds ∧ W'.ownsRow Bp 63 5 (.slice ap xs.length qp) xs.length (ncs xs) ∧ Below b2 W W' := by
  have w1 := D.h2
  have w2 := D.hB
  have w3 := D.h6
  have w4 := D.hp
  have hB : Below b2 W ((((W.setCell ⟨b2, 0, none⟩ (.slice a1 ns.length q1)).setCell ⟨b2, 1, none⟩ (.slice a2 is.length q2)).setCell ⟨b2, 2, none⟩ (.slice a3 ds.length q3)).setCell ⟨b2 + 1, 0, none⟩ (.slice ap xs.length qp)) := ((((Below.refl _ _).setCell (p := ⟨b2, 0, none⟩) (Nat.le_refl _) _).setCell (p := ⟨b2, 1, none⟩) (Nat.le_refl _) _).setCell (p := ⟨b2, 2, none⟩) (Nat.le_refl _) _).setCell (p := ⟨b2 + 1, 0, none⟩) (by simp) _
  have hW3 := store3 D.res1 (.slice a1 ns.length q1) (.slice a2 is.length q2) (.slice a3 ds.length q3)
  have hr2 : (((W.setCell ⟨b2, 0, none⟩ (.slice a1 ns.length q1)).setCell ⟨b2, 1, none⟩ (.slice a2 is.length q2)).setCell ⟨b2, 2, none⟩ (.slice a3 ds.length q3)).heap[b2 + 1]? = some (.cells #[.slice none 0 0] 33 (0, 0)) :=
    (heap_setCell_other _ ⟨b2, 2, none⟩ _ _ (by simp)).trans ((heap_setCell_other _ ⟨b2, 1, none⟩ _ _ (by simp)).trans ((heap_setCell_other _ ⟨b2, 0, none⟩ _ _ (by simp)).trans D.res2))
  have far : ∀ (u : Value) (t : TypeId) (k n B' : Nat) (L : List Value), W.ownsRow B' t k u n L → P < B' → ((((W.setCell ⟨b2, 0, none⟩ (.slice a1 ns.length q1)).setCell ⟨b2, 1, none⟩ (.slice a2 is.length q2)).setCell ⟨b2, 2, none⟩ (.slice a3 ds.length q3)).setCell ⟨b2 + 1, 0, none⟩ (.slice ap xs.length qp)).ownsRow B' t k u n L := fun u t k n B' L h hb =>
    ownsRow_setCell_below (ownsRow_setCell_below (ownsRow_setCell_below (ownsRow_setCell_below h (a := ⟨b2, 0, none⟩) (by simp; omega) _) (a := ⟨b2, 1, none⟩) (by simp; omega) _) (a := ⟨b2, 2, none⟩) (by simp; omega) _) (a := ⟨b2 + 1, 0, none⟩) (by simp; omega) _
  exact ⟨(heap_setCell_other _ ⟨b2 + 1, 0, none⟩ _ _ (by simp)).trans hW3, heap_setCell_same _ (b2 + 1) 0 _ _ _ hr2, ⟨far _ _ _ _ _ _ D.own.1 w2, far _ _ _ _ _ _ D.own.2.1 w2, far _ _ _ _ _ _ D.own.2.2 w2⟩, far _ _ _ _ _ _ D.ownp (by omega), hB⟩

set_option maxRecDepth 100000 in
set_option maxHeartbeats 3200000 in
theorem ddm_reg6 {t0 t1 t4 t9 t10 t11 t12 t13 t14 t15 t16 t17 t18 t19 t20 t21 t22 t23 t24 t25 t26 t27 t28 t29 t30 t31 t32 t33 t34 t35 t36 t37 t38 t39 t40 t41 t42 t43 t44 t45 t46 t47 t48 t49 t50 t51 t52 t53 t54 t55 : Value} {fs : List Deferred} (w0 : World) (v : Value) (zs : List Int) (P b2 b6 b7 B Bp : Nat) (a1 a2 a3 ap : Option Addr) (q1 q2 q3 qp : Nat) (ns : List Nd) (is : List In) (ds : List Df) (xs : List Nd) (W : World) (Q : Exit → Act → World → Prop) (f : Int) (D : DY w0 v zs P b2 b6 b7 B Bp (.slice a1 ns.length q1) (.slice a2 is.length q2) (.slice a3 ds.length q3) (.slice ap xs.length qp) ns is ds xs W)
    (hQ : ∀ u48 u49 u50 wx, wx.heap[b2]? = some (.cells #[.slice a1 ns.length q1, .slice a2 is.length q2, .slice a3 ds.length q3] 41 (0, 0)) → wx.heap[b2 + 1]? = some (.cells #[.slice ap xs.length qp] 33 (0, 0)) → Own3 wx B (.slice a1 ns.length q1) (.slice a2 is.length q2) (.slice a3 ds.length q3) ns is ds → wx.ownsRow Bp 63 5 (.slice ap xs.length qp) xs.length (ncs xs) → Below b2 W wx → Q .normal ⟨#[t0, t1, .pointer (some ⟨b2, 0, none⟩), .pointer (some ⟨(b2 + 1), 0, none⟩), .int .i64 f, .pointer (some ⟨P, 0, none⟩), .pointer (some ⟨b6, 0, none⟩), .pointer (some ⟨b7, 0, none⟩), .int .i64 f, t9, t10, t11, t12, t13, t14, t15, t16, t17, t18, t19, t20, t21, t22, t23, t24, t25, t26, t27, t28, t29, t30, t31, t32, t33, t34, t35, t36, t37, t38, t39, t40, t41, t42, t43, t44, t45, t46, t47, u48, u49, u50, t51, t52, t53, t54, t55], fs⟩ wx) :
    (Code.region 6 #[{ dst := some 48, op := Op.load 41 (Operand.tmp 6), type := 41, pos := "l06_machine.go:383", after := #[], guard := none }, { dst := some 49, op := Op.load 33 (Operand.tmp 7), type := 33, pos := "l06_machine.go:383", after := #[{ on := 3, ground := Ground.gcOnly Departure.lateStores }], guard := none }, { dst := some 50, op := Op.move (Operand.tmp 8), type := 3, pos := "l06_machine.go:383", after := #[{ on := 4, ground := Ground.gcOnly Departure.lateStores }], guard := none }, { dst := none, op := Op.store 41 (Operand.tmp 2) (Operand.tmp 48), type := 0, pos := "l06_machine.go:383", after := #[{ on := 0, ground := Ground.data }, { on := 0, ground := Ground.phase }, { on := 1, ground := Ground.textOnly Departure.lateStores }, { on := 2, ground := Ground.textOnly Departure.lateStores }], guard := none }, { dst := none, op := Op.store 33 (Operand.tmp 3) (Operand.tmp 49), type := 0, pos := "l06_machine.go:383", after := #[{ on := 1, ground := Ground.data }, { on := 3, ground := Ground.chain }, { on := 0, ground := Ground.phase }, { on := 1, ground := Ground.phase }, { on := 2, ground := Ground.textOnly Departure.lateStores }, { on := 3, ground := Ground.phase }], guard := none }, { dst := some 4, op := Op.assign (Operand.tmp 50), type := 3, pos := "l06_machine.go:383", after := #[{ on := 2, ground := Ground.data }, { on := 4, ground := Ground.chain }, { on := 0, ground := Ground.phase }, { on := 1, ground := Ground.phase }, { on := 2, ground := Ground.phase }, { on := 3, ground := Ground.phase }, { on := 4, ground := Ground.phase }], guard := none }] true).wp Try.prog Q ⟨#[t0, t1, .pointer (some ⟨b2, 0, none⟩), .pointer (some ⟨(b2 + 1), 0, none⟩), t4, .pointer (some ⟨P, 0, none⟩), .pointer (some ⟨b6, 0, none⟩), .pointer (some ⟨b7, 0, none⟩), .int .i64 f, t9, t10, t11, t12, t13, t14, t15, t16, t17, t18, t19, t20, t21, t22, t23, t24, t25, t26, t27, t28, t29, t30, t31, t32, t33, t34, t35, t36, t37, t38, t39, t40, t41, t42, t43, t44, t45, t46, t47, t48, t49, t50, t51, t52, t53, t54, t55], fs⟩ W := by
  have hq1 := D.h2
  have hq2 := D.hB
  have hq3 := D.h6
  have hq4 := D.hp
  have hq5 := D.h7
  have n62 : b6 ≠ b2 := by omega
  have n72 : b7 ≠ b2 := by omega
  have n63 : b6 ≠ b2 + 1 := by omega
  have n73 : b7 ≠ b2 + 1 := by omega
  have sS : W.cell? ⟨b6, 0, none⟩ = some (.slice a1 ns.length q1) ∧ W.cell? ⟨b6, 1, none⟩ = some (.slice a2 is.length q2) ∧ W.cell? ⟨b6, 2, none⟩ = some (.slice a3 ds.length q3) ∧ W.cell? ⟨b7, 0, none⟩ = some (.slice ap xs.length qp) := ⟨cell_of_row _ _ 0 _ _ _ D.box1, cell_of_row _ _ 1 _ _ _ D.box1, cell_of_row _ _ 2 _ _ _ D.box1, cell_of_row _ _ 0 _ _ _ D.box2⟩
  obtain ⟨r0, r1, r2, z0, z1, z2⟩ := cells3 D.res1
  have rp : W.cell? ⟨b2 + 1, 0, none⟩ = some (.slice none 0 0) := cell_of_row _ _ 0 _ _ _ D.res2
  have zp : W.frozen? ⟨b2 + 1, 0, none⟩ = false := frozen_of_row _ _ 0 _ _ D.res2
  go_region_held3 (fun w' => w'.cell? ⟨b6, 0, none⟩ = some (.slice a1 ns.length q1) ∧ w'.cell? ⟨b6, 1, none⟩ = some (.slice a2 is.length q2) ∧ w'.cell? ⟨b6, 2, none⟩ = some (.slice a3 ds.length q3) ∧ w'.cell? ⟨b7, 0, none⟩ = some (.slice ap xs.length qp)) (first | ((try simp only [cell_dr]); first | (with_reducible exact sS) | (with_reducible exact ⟨far1 (far1 (far1 sS.1 n62) n62) n62, far1 (far1 (far1 sS.2.1 n62) n62) n62, far1 (far1 (far1 sS.2.2.1 n62) n62) n62, far1 (far1 (far1 sS.2.2.2 n72) n72) n72⟩) | (with_reducible exact ⟨far1 (far1 (far1 (far1 sS.1 n62) n62) n62) n63, far1 (far1 (far1 (far1 sS.2.1 n62) n62) n62) n63, far1 (far1 (far1 (far1 sS.2.2.1 n62) n62) n62) n63, far1 (far1 (far1 (far1 sS.2.2.2 n72) n72) n72) n73⟩)) | go_keep) (fail)
  all_goals
    obtain ⟨p1, p2, p3, p4, p5⟩ := D.fin
    first
      | exact hQ _ _ _ _ (blk_dr p1) (blk_dr p2) (own3_dr p3) (own_dr p4) p5.drew
      | exact hQ _ _ _ _ p1 p2 p3 p4 p5

set_option maxRecDepth 100000 in
set_option maxHeartbeats 3200000 in
theorem ddm_reg7 {t0 t1 t4 t8 t9 t10 t11 t12 t13 t14 t15 t16 t17 t18 t19 t20 t21 t22 t23 t24 t25 t26 t27 t28 t29 t30 t31 t32 t33 t34 t35 t36 t37 t38 t39 t40 t41 t42 t43 t44 t45 t46 t47 t48 t49 t50 t51 t52 t53 t54 t55 : Value} {fs : List Deferred} (w0 : World) (v : Value) (zs : List Int) (P b2 b6 b7 B Bp : Nat) (a1 a2 a3 ap : Option Addr) (q1 q2 q3 qp : Nat) (ns : List Nd) (is : List In) (ds : List Df) (xs : List Nd) (W : World) (Q : Exit → Act → World → Prop) (D : DY w0 v zs P b2 b6 b7 B Bp (.slice a1 ns.length q1) (.slice a2 is.length q2) (.slice a3 ds.length q3) (.slice ap xs.length qp) ns is ds xs W) (hl : xs.length ≤ 3001)
    (hQ : ∀ u51 u52 u53 u54 u55 f wx, wx.heap[b2]? = some (.cells #[.slice a1 ns.length q1, .slice a2 is.length q2, .slice a3 ds.length q3] 41 (0, 0)) → wx.heap[b2 + 1]? = some (.cells #[.slice ap xs.length qp] 33 (0, 0)) → Own3 wx B (.slice a1 ns.length q1) (.slice a2 is.length q2) (.slice a3 ds.length q3) ns is ds → wx.ownsRow Bp 63 5 (.slice ap xs.length qp) xs.length (ncs xs) → Below b2 W wx → Q .normal ⟨#[t0, t1, .pointer (some ⟨b2, 0, none⟩), .pointer (some ⟨(b2 + 1), 0, none⟩), .int .i64 f, .pointer (some ⟨P, 0, none⟩), .pointer (some ⟨b6, 0, none⟩), .pointer (some ⟨b7, 0, none⟩), t8, t9, t10, t11, t12, t13, t14, t15, t16, t17, t18, t19, t20, t21, t22, t23, t24, t25, t26, t27, t28, t29, t30, t31, t32, t33, t34, t35, t36, t37, t38, t39, t40, t41, t42, t43, t44, t45, t46, t47, t48, t49, t50, u51, u52, u53, u54, u55], fs⟩ wx) :
    (Code.region 7 #[{ dst := some 51, op := Op.load 41 (Operand.tmp 6), type := 41, pos := "l06_machine.go:385", after := #[], guard := none }, { dst := some 52, op := Op.load 33 (Operand.tmp 7), type := 33, pos := "l06_machine.go:385", after := #[{ on := 5, ground := Ground.gcOnly Departure.lateStores }], guard := none }, { dst := some 53, op := Op.move (Operand.tmp 5), type := 89, pos := "l06_machine.go:385", after := #[], guard := none }, { dst := some 54, op := Op.load 33 (Operand.tmp 7), type := 33, pos := "l06_machine.go:385", after := #[], guard := none }, { dst := some 55, op := Op.call { callee := Callee.value (Operand.func 58), args := #[Operand.tmp 53, Operand.tmp 54], argTypes := #[89, 33] }, type := 3, pos := "l06_machine.go:385", after := #[{ on := 2, ground := Ground.data }, { on := 3, ground := Ground.data }], guard := none }, { dst := none, op := Op.store 41 (Operand.tmp 2) (Operand.tmp 51), type := 0, pos := "l06_machine.go:385", after := #[{ on := 0, ground := Ground.data }, { on := 4, ground := Ground.chain }, { on := 0, ground := Ground.phase }, { on := 1, ground := Ground.textOnly Departure.lateStores }, { on := 2, ground := Ground.textOnly Departure.lateStores }, { on := 3, ground := Ground.textOnly Departure.lateStores }, { on := 4, ground := Ground.textOnly Departure.lateStoresUnsure }], guard := none }, { dst := none, op := Op.store 33 (Operand.tmp 3) (Operand.tmp 52), type := 0, pos := "l06_machine.go:385", after := #[{ on := 1, ground := Ground.data }, { on := 5, ground := Ground.chain }, { on := 0, ground := Ground.phase }, { on := 1, ground := Ground.phase }, { on := 2, ground := Ground.textOnly Departure.lateStores }, { on := 3, ground := Ground.textOnly Departure.lateStores }, { on := 4, ground := Ground.textOnly Departure.lateStoresUnsure }, { on := 5, ground := Ground.phase }], guard := none }, { dst := some 4, op := Op.assign (Operand.tmp 55), type := 3, pos := "l06_machine.go:385", after := #[{ on := 4, ground := Ground.data }, { on := 6, ground := Ground.chain }, { on := 0, ground := Ground.phase }, { on := 1, ground := Ground.phase }, { on := 2, ground := Ground.phase }, { on := 3, ground := Ground.phase }, { on := 4, ground := Ground.phase }, { on := 5, ground := Ground.phase }, { on := 6, ground := Ground.phase }], guard := none }] true).wp Try.prog Q ⟨#[t0, t1, .pointer (some ⟨b2, 0, none⟩), .pointer (some ⟨(b2 + 1), 0, none⟩), t4, .pointer (some ⟨P, 0, none⟩), .pointer (some ⟨b6, 0, none⟩), .pointer (some ⟨b7, 0, none⟩), t8, t9, t10, t11, t12, t13, t14, t15, t16, t17, t18, t19, t20, t21, t22, t23, t24, t25, t26, t27, t28, t29, t30, t31, t32, t33, t34, t35, t36, t37, t38, t39, t40, t41, t42, t43, t44, t45, t46, t47, t48, t49, t50, t51, t52, t53, t54, t55], fs⟩ W := by
  have hq1 := D.h2
  have hq2 := D.hB
  have hq3 := D.h6
  have hq4 := D.hp
  have hq5 := D.h7
  have n62 : b6 ≠ b2 := by omega
  have n72 : b7 ≠ b2 := by omega
  have n63 : b6 ≠ b2 + 1 := by omega
  have n73 : b7 ≠ b2 + 1 := by omega
  have s0 : W.cell? ⟨b6, 0, none⟩ = some (.slice a1 ns.length q1) ∧ W.cell? ⟨b6, 1, none⟩ = some (.slice a2 is.length q2) ∧ W.cell? ⟨b6, 2, none⟩ = some (.slice a3 ds.length q3) ∧ W.cell? ⟨b7, 0, none⟩ = some (.slice ap xs.length qp) := ⟨cell_of_row _ _ 0 _ _ _ D.box1, cell_of_row _ _ 1 _ _ _ D.box1, cell_of_row _ _ 2 _ _ _ D.box1, cell_of_row _ _ 0 _ _ _ D.box2⟩
  go_region_held3 (fun w' => w'.cell? ⟨b6, 0, none⟩ = some (.slice a1 ns.length q1) ∧ w'.cell? ⟨b6, 1, none⟩ = some (.slice a2 is.length q2) ∧ w'.cell? ⟨b6, 2, none⟩ = some (.slice a3 ds.length q3) ∧ w'.cell? ⟨b7, 0, none⟩ = some (.slice ap xs.length qp)) (first | (with_reducible exact sS) | (with_reducible exact ⟨far1 (far1 (far1 sS.1 n62) n62) n62, far1 (far1 (far1 sS.2.1 n62) n62) n62, far1 (far1 (far1 sS.2.2.1 n62) n62) n62, far1 (far1 (far1 sS.2.2.2 n72) n72) n72⟩) | (with_reducible exact ⟨far1 (far1 (far1 (far1 sS.1 n62) n62) n62) n63, far1 (far1 (far1 (far1 sS.2.1 n62) n62) n62) n63, far1 (far1 (far1 (far1 sS.2.2.1 n62) n62) n62) n63, far1 (far1 (far1 (far1 sS.2.2.2 n72) n72) n72) n73⟩) | go_keep) (first
    | (go_at_call 58; with_reducible refine (ddrawat_any w0 v zs _ P ap xs.length qp (cur_drew D.cur) (by omega)).mono ?_; rintro e w2 ⟨f, rfl, _, _, c2, g2⟩
       have D2 := D.turn c2 (grown_drew g2)
       have sS : w2.cell? ⟨b6, 0, none⟩ = some (.slice a1 ns.length q1) ∧ w2.cell? ⟨b6, 1, none⟩ = some (.slice a2 is.length q2) ∧ w2.cell? ⟨b6, 2, none⟩ = some (.slice a3 ds.length q3) ∧ w2.cell? ⟨b7, 0, none⟩ = some (.slice ap xs.length qp) := ⟨cell_of_row _ _ 0 _ _ _ D2.box1, cell_of_row _ _ 1 _ _ _ D2.box1, cell_of_row _ _ 2 _ _ _ D2.box1, cell_of_row _ _ 0 _ _ _ D2.box2⟩
       obtain ⟨r0, r1, r2, z0, z1, z2⟩ := cells3 D2.res1
       have rp : w2.cell? ⟨b2 + 1, 0, none⟩ = some (.slice none 0 0) := cell_of_row _ _ 0 _ _ _ D2.res2
       have zp : w2.frozen? ⟨b2 + 1, 0, none⟩ = false := frozen_of_row _ _ 0 _ _ D2.res2))
  all_goals
    obtain ⟨p1, p2, p3, p4, p5⟩ := D2.fin
    have hBw : Below b2 W w2 := (by have g := grown_drew g2; exact ⟨g.os, g.tape, g.output, g.size, fun k hk => g.block k (by have := (Array.getElem?_eq_some_iff.1 D.res1).1; omega) (by simp; omega)⟩)
    exact hQ _ _ _ _ _ f _ p1 p2 p3 p4 (hBw.trans p5)

end Go.Proofs.Ytacbhbmjhlgflaa

/-
  The region of spec.DrawMachineOf that adds a function. No condition.
-/
namespace Go.Proofs.Ytacbhbmjhlgflaa
open Go.RowKit

set_option maxRecDepth 100000 in
set_option maxHeartbeats 3200000 in
theorem ddm_reg5 {t0 t1 t2 t3 t4 t8 t9 t10 t11 t12 t13 t14 t15 t16 t17 t18 t19 t20 t21 t22 t23 t24 t25 t26 t27 t28 t29 t30 t31 t32 t33 t34 t35 t36 t37 t38 t39 t40 t41 t42 t43 t44 t45 t46 t47 t48 t49 t50 t51 t52 t53 t54 t55 : Value} {fs : List Deferred} (w0 : World) (v : Value) (zs : List Int) (P b2 b6 b7 B Bp : Nat) (a1 a2 a3 ap : Option Addr) (q1 q2 q3 qp : Nat) (ns : List Nd) (is : List In) (ds : List Df) (xs : List Nd) (W : World) (Q : Exit → Act → World → Prop) (D : DY w0 v zs P b2 b6 b7 B Bp (.slice a1 ns.length q1) (.slice a2 is.length q2) (.slice a3 ds.length q3) (.slice ap xs.length qp) ns is ds xs W) (hl : xs.length ≤ 3001)
    (hQ : ∀ u34 u35 u36 u37 u38 u39 u40 u41 u42 u43 u44 u45 u46 u47 vp' y wx, y.s.size ≤ maxLen → Below b2 W wx → DY w0 v zs P b2 b6 b7 B Bp (.slice a1 ns.length q1) (.slice a2 is.length q2) (.slice a3 ds.length q3) vp' ns is ds (xs ++ [y]) wx → Q .normal ⟨#[t0, t1, t2, t3, t4, .pointer (some ⟨P, 0, none⟩), .pointer (some ⟨b6, 0, none⟩), .pointer (some ⟨b7, 0, none⟩), .int .i64 xs.length, t9, t10, t11, t12, t13, t14, t15, t16, t17, t18, t19, t20, t21, t22, t23, t24, t25, t26, t27, t28, t29, t30, t31, t32, t33, u34, u35, u36, u37, u38, u39, u40, u41, u42, u43, u44, u45, u46, u47, t48, t49, t50, t51, t52, t53, t54, t55], fs⟩ wx) :
    (Code.region 5 #[{ dst := some 34, op := Op.move (Operand.tmp 5), type := 89, pos := "l06_machine.go:382", after := #[], guard := none }, { dst := some 35, op := Op.fieldAddr 41 (Operand.tmp 6) 1, type := 0, pos := "l06_machine.go:382", after := #[], guard := none }, { dst := some 36, op := Op.load 38 (Operand.tmp 35), type := 38, pos := "l06_machine.go:382", after := #[{ on := 1, ground := Ground.data }], guard := none }, { dst := some 37, op := Op.call { callee := Callee.builtin Builtin.len, args := #[Operand.tmp 36], argTypes := #[38] }, type := 3, pos := "l06_machine.go:382", after := #[{ on := 2, ground := Ground.data }], guard := none }, { dst := some 38, op := Op.binOp BinOp.mul 3 (Operand.const (Value.int IntKind.i64 8)) (Operand.tmp 37) 3, type := 3, pos := "l06_machine.go:382", after := #[{ on := 3, ground := Ground.data }], guard := none }, { dst := some 39, op := Op.buildSlice 97 5 #[(0, Operand.const (Value.int IntKind.i64 0)), (1, Operand.const (Value.int IntKind.i64 8)), (2, Operand.const (Value.int IntKind.i64 16)), (3, Operand.const (Value.int IntKind.i64 9)), (4, Operand.tmp 38)], type := 97, pos := "l06_machine.go:382", after := #[{ on := 4, ground := Ground.data }], guard := none }, { dst := some 40, op := Op.call { callee := Callee.value (Operand.func 56), args := #[Operand.tmp 34, Operand.tmp 39], argTypes := #[89, 97] }, type := 3, pos := "l06_machine.go:382", after := #[{ on := 0, ground := Ground.data }, { on := 5, ground := Ground.data }], guard := none }, { dst := some 41, op := Op.move (Operand.tmp 5), type := 89, pos := "l06_machine.go:382", after := #[], guard := none }, { dst := some 42, op := Op.fieldAddr 33 (Operand.tmp 7) 0, type := 0, pos := "l06_machine.go:382", after := #[], guard := none }, { dst := some 43, op := Op.load 31 (Operand.tmp 42), type := 31, pos := "l06_machine.go:382", after := #[{ on := 8, ground := Ground.data }], guard := none }, { dst := some 44, op := Op.call { callee := Callee.builtin Builtin.len, args := #[Operand.tmp 43], argTypes := #[31] }, type := 3, pos := "l06_machine.go:382", after := #[{ on := 9, ground := Ground.data }], guard := none }, { dst := some 45, op := Op.call { callee := Callee.value (Operand.func 57), args := #[Operand.tmp 41, Operand.tmp 44], argTypes := #[89, 3] }, type := 3, pos := "l06_machine.go:382", after := #[{ on := 7, ground := Ground.data }, { on := 10, ground := Ground.data }, { on := 6, ground := Ground.chain }], guard := none }, { dst := some 46, op := Op.build 63 #[(0, Operand.const (Value.int IntKind.i64 6)), (1, Operand.tmp 40), (3, Operand.tmp 45)], type := 63, pos := "l06_machine.go:382", after := #[{ on := 6, ground := Ground.data }, { on := 11, ground := Ground.data }], guard := none }, { dst := some 47, op := Op.call { callee := Callee.value (Operand.func 32), args := #[Operand.tmp 7, Operand.tmp 46], argTypes := #[72, 63] }, type := 3, pos := "l06_machine.go:382", after := #[{ on := 12, ground := Ground.data }, { on := 11, ground := Ground.chain }], guard := none }, { dst := some 8, op := Op.assign (Operand.tmp 47), type := 3, pos := "l06_machine.go:382", after := #[{ on := 13, ground := Ground.data }, { on := 13, ground := Ground.chain }, { on := 0, ground := Ground.phase }, { on := 1, ground := Ground.phase }, { on := 2, ground := Ground.phase }, { on := 3, ground := Ground.phase }, { on := 4, ground := Ground.phase }, { on := 5, ground := Ground.phase }, { on := 6, ground := Ground.phase }, { on := 7, ground := Ground.phase }, { on := 8, ground := Ground.phase }, { on := 9, ground := Ground.phase }, { on := 10, ground := Ground.phase }, { on := 11, ground := Ground.phase }, { on := 12, ground := Ground.phase }, { on := 13, ground := Ground.phase }], guard := none }] true).wp Try.prog Q ⟨#[t0, t1, t2, t3, t4, .pointer (some ⟨P, 0, none⟩), .pointer (some ⟨b6, 0, none⟩), .pointer (some ⟨b7, 0, none⟩), t8, t9, t10, t11, t12, t13, t14, t15, t16, t17, t18, t19, t20, t21, t22, t23, t24, t25, t26, t27, t28, t29, t30, t31, t32, t33, t34, t35, t36, t37, t38, t39, t40, t41, t42, t43, t44, t45, t46, t47, t48, t49, t50, t51, t52, t53, t54, t55], fs⟩ W := by
  have hq1 := D.h2
  have hq2 := D.hB
  have hq3 := D.h6
  have hq4 := D.hp
  have hq5 := D.h7
  have hWP : W.heap.size ≠ P := by have := D.cur.lt; omega
  have hw1 := wrapB (8 * (is.length : Int))
  have s0 : W.cell? ⟨b6, 1, none⟩ = some (.slice a2 is.length q2) ∧ W.cell? ⟨b7, 0, none⟩ = some (.slice ap xs.length qp) := ⟨cell_of_row _ _ 1 _ _ _ D.box1, cell_of_row _ _ 0 _ _ _ D.box2⟩
  have lw := (Array.getElem?_eq_some_iff.1 D.res1).1
  obtain ⟨s0a, s0b⟩ := s0
  have lb6 : b6 < W.heap.size := (Array.getElem?_eq_some_iff.1 D.box1).1
  have lb7 : b7 < W.heap.size := (Array.getElem?_eq_some_iff.1 D.box2).1
  refine wp_region_noPanic ?_
  go_region_law (first
    | (go_simp; go_at_call 56; refine (pick_any w0 v zs _ P W.heap.size 5 [0, 8, 16, 9, IntKind.i64.wrap (8 * (is.length : Int))] ?_ (by omega) (by simp) (by simp) ?_ ?_).mono ?_; (with_reducible exact cur_drewA D.cur _); (intro x hx; simp only [List.mem_cons, List.not_mem_nil, or_false] at hx; omega); (intro j hj; exact ints_new W [0, 8, 16, 9, IntKind.i64.wrap (8 * (is.length : Int))] 3 j hj); rintro e w2 ⟨z, rfl, hz0, hz1, c2, g2⟩
       have D1 := D.turn c2 (grown_drewA g2)
       have s1 : w2.cell? ⟨b6, 1, none⟩ = some (.slice a2 is.length q2) ∧ w2.cell? ⟨b7, 0, none⟩ = some (.slice ap xs.length qp) := ⟨cell_of_row _ _ 1 _ _ _ D1.box1, cell_of_row _ _ 0 _ _ _ D1.box2⟩
       obtain ⟨s1a, s1b⟩ := s1)
    | (go_simp; go_at_call 57; with_reducible refine (below_any w0 v zs _ P xs.length D1.cur (by omega)).mono ?_; rintro e w3 ⟨y, rfl, _, _, c3, g3⟩
       have D2 := D1.turn c3 g3
       have s2 : w3.cell? ⟨b6, 1, none⟩ = some (.slice a2 is.length q2) ∧ w3.cell? ⟨b7, 0, none⟩ = some (.slice ap xs.length qp) := ⟨cell_of_row _ _ 1 _ _ _ D2.box1, cell_of_row _ _ 0 _ _ _ D2.box2⟩
       obtain ⟨s2a, s2b⟩ := s2)
    | (go_simp; go_at_call 32; refine (sadd_any b7 Bp ap qp xs ⟨6, z, ByteArray.empty, y, 0⟩ _ D2.box2 D2.ownp (by omega) D2.h7).mono ?_; rintro e w4 ⟨v4, rfl, hb4, ho4, bel4⟩))
  all_goals
    have D3 := D2.add bel4 hb4 ho4
    have hBw : Below b2 W w4 := (by have g := grown_trans (grown_drewA g2) g3; exact Below.trans ⟨g.os, g.tape, g.output, g.size, fun k hk => g.block k (by omega) (by simp; omega)⟩ (bel4.mono (by omega)))
    exact NoPanic.normal <| hQ _ _ _ _ _ _ _ _ _ _ _ _ _ _ v4 _ _ (Nat.zero_le _) hBw D3

end Go.Proofs.Ytacbhbmjhlgflaa

/-
  The contract of the draw spec.DrawMachineOf: some code, some pool, and a number. No condition.
-/
namespace Go.Proofs.Ytacbhbmjhlgflaa
open Go.RowKit

set_option maxRecDepth 100000 in
set_option maxHeartbeats 6400000 in
theorem dmachof_any (v : Value) (zs : List Int) (w : World) (R : Row w v zs) (hl : zs.length ≤ 1048576) :
    Calls Try.prog 22 #[v] w fun e w' => ∃ (v1 v2 v3 vp : Value) (ns : List Nd) (is : List In) (ds : List Df) (xs : List Nd) (f : Int), e = .returned (.tuple #[.agg #[v1, v2, v3], .agg #[vp], .int .i64 f]) ∧ Sz3 ns is ds ∧ xs.length ≤ 3002 ∧ (∀ x ∈ xs, x.s.size ≤ maxLen) ∧ Own3 w' w.heap.size v1 v2 v3 ns is ds ∧ w'.ownsRow w.heap.size 63 5 vp xs.length (ncs xs) ∧ Below w.heap.size w w' := by
  obtain ⟨hB0, hr0, hp0⟩ := two_boxes w (Obj.cells #[.slice none 0 0, .slice none 0 0, .slice none 0 0] 41) (Obj.cells #[.slice none 0 0] 33)
  have hA0 : Hid (((w.alloc (Obj.cells #[.slice none 0 0, .slice none 0 0, .slice none 0 0] 41)).alloc (Obj.cells #[.slice none 0 0] 33)).heap.size = w.heap.size + 1 + 1) := by unfold Hid; simp
  have R0 := R.below hB0
  go_enter Try.func22, Try.ntmps22
  go_wp2_with fail
  generalize (w.alloc (Obj.cells #[.slice none 0 0, .slice none 0 0, .slice none 0 0] 41)).alloc (Obj.cells #[.slice none 0 0] 33) = wA at hB0 hr0 hp0 R0 hA0 ⊢
  refine (new_any v zs wA R0 hl).mono ?_
  rintro e w1 ⟨rfl, c1, b1⟩
  have hP1 := c1.lt
  have hr1 := (c1.2.1.block _ (Array.getElem?_eq_some_iff.1 hr0).1).trans hr0
  have hp1 := (c1.2.1.block _ (Array.getElem?_eq_some_iff.1 hp0).1).trans hp0
  clear b1 hr0 hp0
  have hAP : w.heap.size + 1 < wA.heap.size := by rw [hA0.out]; omega
  clear hA0
  go_wp2_with fail
  generalize HP : wA.heap.size = P at c1 hAP hP1 ⊢
  refine (d4draw_any wA v zs P w1 c1).mono ?_
  rintro e w2 ⟨v1, v2, v3, ns, is, ds, rfl, hS, O2, c2, g2⟩
  obtain ⟨a1, q1, rfl⟩ := own_form O2.1
  obtain ⟨a2, q2, rfl⟩ := own_form O2.2.1
  obtain ⟨a3, q3, rfl⟩ := own_form O2.2.2
  have hr2 := (g2.block _ (Array.getElem?_eq_some_iff.1 hr1).1 (by simp; omega)).trans hr1
  have hp2 := (g2.block _ (Array.getElem?_eq_some_iff.1 hp1).1 (by simp; omega)).trans hp1
  have hs12 := g2.size
  have hBx : Below w2.heap.size w2 (w2.alloc (Obj.cells #[.slice a1 ns.length q1, .slice a2 is.length q2, .slice a3 ds.length q3] 41)) := (Below.refl _ _).alloc (Nat.le_refl _) _
  have hx3 := heap_alloc_new w2 (Obj.cells #[.slice a1 ns.length q1, .slice a2 is.length q2, .slice a3 ds.length q3] 41)
  have hsx : w2.heap.size < (w2.alloc (Obj.cells #[.slice a1 ns.length q1, .slice a2 is.length q2, .slice a3 ds.length q3] 41)).heap.size := by simp
  have c3 := c2.kept (hBx.mono (by omega))
  have hr3 := (hBx.block _ (Array.getElem?_eq_some_iff.1 hr2).1).trans hr2
  have hp3 := (hBx.block _ (Array.getElem?_eq_some_iff.1 hp2).1).trans hp2
  have O3 := O2.below hBx
  have lo1 : ∀ j, (Value.slice a1 ns.length q1).ownBlock = some j → j < w2.heap.size := fun j hj => (O2.1.lt j hj).2
  have lo2 : ∀ j, (Value.slice a2 is.length q2).ownBlock = some j → j < w2.heap.size := fun j hj => (O2.2.1.lt j hj).2
  have lo3 : ∀ j, (Value.slice a3 ds.length q3).ownBlock = some j → j < w2.heap.size := fun j hj => (O2.2.2.lt j hj).2
  clear hr1 hp1 g2 c1 c2 hr2 hp2 O2 hBx
  go_wp2_with fail
  generalize w2.alloc (Obj.cells #[.slice a1 ns.length q1, .slice a2 is.length q2, .slice a3 ds.length q3] 41) = w3 at *
  refine (ddraw_any wA v zs w3 P c3).mono ?_
  rintro e w4 ⟨v4, xs, rfl, hx1, hx2, ho4, c4, g4⟩
  obtain ⟨ap, qp, rfl⟩ := own_form ho4
  have hBy : Below w4.heap.size w4 (w4.alloc (Obj.cells #[.slice ap xs.length qp] 33)) := (Below.refl _ _).alloc (Nat.le_refl _) _
  have hy5 := heap_alloc_new w4 (Obj.cells #[.slice ap xs.length qp] 33)
  have hs34 := g4.size
  have c5 := c4.kept (hBy.mono c4.lt)
  have hr4 := (g4.block _ (Array.getElem?_eq_some_iff.1 hr3).1 (by simp; omega)).trans hr3
  have hp4 := (g4.block _ (Array.getElem?_eq_some_iff.1 hp3).1 (by simp; omega)).trans hp3
  have hx4 := (g4.block _ (Array.getElem?_eq_some_iff.1 hx3).1 (by simp; omega)).trans hx3
  have O4 : Own3 w4 w1.heap.size (.slice a1 ns.length q1) (.slice a2 is.length q2) (.slice a3 ds.length q3) ns is ds := ⟨O3.1.kept g4 (own_not O3.1 hP1), O3.2.1.kept g4 (own_not O3.2.1 hP1), O3.2.2.kept g4 (own_not O3.2.2 hP1)⟩
  have D : DY wA v zs P w.heap.size w2.heap.size w4.heap.size w1.heap.size w3.heap.size (.slice a1 ns.length q1) (.slice a2 is.length q2) (.slice a3 ds.length q3) (.slice ap xs.length qp) ns is ds xs (w4.alloc (Obj.cells #[.slice ap xs.length qp] 33)) :=
    ⟨(hBy.block _ (Array.getElem?_eq_some_iff.1 hr4).1).trans hr4, (hBy.block _ (Array.getElem?_eq_some_iff.1 hp4).1).trans hp4, (hBy.block _ (Array.getElem?_eq_some_iff.1 hx4).1).trans hx4, hy5, O4.below hBy, fun j hj => by have := lo1 j hj; omega, fun j hj => by have := lo2 j hj; omega, fun j hj => by have := lo3 j hj; omega, own_below ho4 hBy, c5, hAP, hP1, hs12, by omega, hs34⟩
  have hzx : ∀ x ∈ xs, x.s.size ≤ maxLen := fun x hx => by have := hx2 x hx; unfold maxLen; omega
  have hBA : Below w.heap.size w wA := hB0
  have k5 : (w4.alloc (Obj.cells #[.slice ap xs.length qp] 33)).cell? ⟨w4.heap.size, 0, none⟩ = some (.slice ap xs.length qp) := cell_of_row _ _ 0 _ _ _ hy5
  clear hr3 hp3 hx3 hr4 hp4 hx4 O3 O4 c3 c4 c5 g4 ho4 hy5 hBy lo1 lo2 lo3 hx2 hB0
  go_wp2_with fail
  generalize w4.alloc (Obj.cells #[.slice ap xs.length qp] 33) = w5 at *
  have R5 := NRow.of_own D.ownp (by omega) hzx
  refine (spool_any _ xs _ R5).mono ?_
  rintro e w6 ⟨rfl, hb6⟩
  replace D := D.on hb6
  have k6 : w6.cell? ⟨w4.heap.size, 0, none⟩ = some (.slice ap xs.length qp) := cell_of_row _ _ 0 _ _ _ D.box2
  clear k5 R5 hb6
  cases hpb : poolB xs with
  | false =>
    go_wp2_with fail
    refine ddm_reg7 wA v zs P w.heap.size w2.heap.size w4.heap.size w1.heap.size w3.heap.size a1 a2 a3 ap q1 q2 q3 qp ns is ds xs w6 _ D (by omega) ?_
    intro u51 u52 u53 u54 u55 f wx p1 p2 p3 p4 p5
    have hBW : Below w.heap.size w w6 := hBA.trans (D.cur.2.1.mono (by have := hBA.size; omega))
    go_wp2_with fail
    exact bodyPost_ret (results_code_pool rfl _ _ w.heap.size (w.heap.size + 1) 41 33 _ _ (0, 0) (0, 0) _ _ rfl p1 rfl p2 Try.underlying41 rfl Try.sizeC Try.underlying33 rfl Try.sizeP) rfl ⟨_, _, _, _, ns, is, ds, xs, f, rfl, hS, by omega, hzx, p3.mono (by omega), own_mono p4 (by omega), hBW.trans p5⟩
  | true =>
    by_cases h0 : xs.length = 0
    · have h0' : ¬ (0 : Int) < xs.length := by omega
      go_wp2_with fail
      refine ddm_reg7 wA v zs P w.heap.size w2.heap.size w4.heap.size w1.heap.size w3.heap.size a1 a2 a3 ap q1 q2 q3 qp ns is ds xs w6 _ D (by omega) ?_
      intro u51 u52 u53 u54 u55 f wx p1 p2 p3 p4 p5
      have hBW : Below w.heap.size w w6 := hBA.trans (D.cur.2.1.mono (by have := hBA.size; omega))
      go_wp2_with fail
      exact bodyPost_ret (results_code_pool rfl _ _ w.heap.size (w.heap.size + 1) 41 33 _ _ (0, 0) (0, 0) _ _ rfl p1 rfl p2 Try.underlying41 rfl Try.sizeC Try.underlying33 rfl Try.sizeP) rfl ⟨_, _, _, _, ns, is, ds, xs, f, rfl, hS, by omega, hzx, p3.mono (by omega), own_mono p4 (by omega), hBW.trans p5⟩
    · have h0' : (0 : Int) < xs.length := by omega
      by_cases h4 : xs.length < 40
      · have h4' : (xs.length : Int) < 40 := by omega
        go_wp2_with fail
        refine (once_any wA v zs _ P 4 D.cur (by omega)).mono ?_
        rintro e w7 ⟨bb, rfl, c7, g7⟩
        replace D := D.turn c7 g7
        clear k6 c7 g7
        cases bb with
        | true =>
          go_wp2_with fail
          refine ddm_reg7 wA v zs P w.heap.size w2.heap.size w4.heap.size w1.heap.size w3.heap.size a1 a2 a3 ap q1 q2 q3 qp ns is ds xs w7 _ D (by omega) ?_
          intro u51 u52 u53 u54 u55 f wx p1 p2 p3 p4 p5
          have hBW : Below w.heap.size w w7 := hBA.trans (D.cur.2.1.mono (by have := hBA.size; omega))
          go_wp2_with fail
          exact bodyPost_ret (results_code_pool rfl _ _ w.heap.size (w.heap.size + 1) 41 33 _ _ (0, 0) (0, 0) _ _ rfl p1 rfl p2 Try.underlying41 rfl Try.sizeC Try.underlying33 rfl Try.sizeP) rfl ⟨_, _, _, _, ns, is, ds, xs, f, rfl, hS, by omega, hzx, p3.mono (by omega), own_mono p4 (by omega), hBW.trans p5⟩
        | false =>
          go_wp2_with fail
          refine ddm_reg5 wA v zs P w.heap.size w2.heap.size w4.heap.size w1.heap.size w3.heap.size a1 a2 a3 ap q1 q2 q3 qp ns is ds xs w7 _ D (by omega) ?_
          intro u34 u35 u36 u37 u38 u39 u40 u41 u42 u43 u44 u45 u46 u47 v8 y w8 hy b8 D8
          have hBW : Below w.heap.size w w7 := hBA.trans (D.cur.2.1.mono (by have := hBA.size; omega))
          obtain ⟨a8, q8, rfl⟩ := own_form D8.ownp
          have hzy : ∀ x ∈ xs ++ [y], x.s.size ≤ maxLen := fun x hx => by
            rcases List.mem_append.1 hx with hx | hx
            · exact hzx x hx
            · rw [List.mem_singleton] at hx; subst hx; exact hy
          have hly : (xs ++ [y]).length ≤ 3002 := by simp; omega
          have hBW8 := hBW.trans b8
          generalize xs ++ [y] = ys at *
          go_wp2_with fail
          refine ddm_reg6 wA v zs P w.heap.size w2.heap.size w4.heap.size w1.heap.size w3.heap.size a1 a2 a3 a8 q1 q2 q3 q8 ns is ds ys w8 _ _ D8 ?_
          intro u48 u49 u50 wx p1 p2 p3 p4 p5
          go_wp2_with fail
          exact bodyPost_ret (results_code_pool rfl _ _ w.heap.size (w.heap.size + 1) 41 33 _ _ (0, 0) (0, 0) _ _ rfl p1 rfl p2 Try.underlying41 rfl Try.sizeC Try.underlying33 rfl Try.sizeP) rfl ⟨_, _, _, _, ns, is, ds, ys, _, rfl, hS, hly, hzy, p3.mono (by omega), own_mono p4 (by omega), hBW8.trans p5⟩
      · have h4' : ¬ (xs.length : Int) < 40 := by omega
        go_wp2_with fail
        refine ddm_reg7 wA v zs P w.heap.size w2.heap.size w4.heap.size w1.heap.size w3.heap.size a1 a2 a3 ap q1 q2 q3 qp ns is ds xs w6 _ D (by omega) ?_
        intro u51 u52 u53 u54 u55 f wx p1 p2 p3 p4 p5
        have hBW : Below w.heap.size w w6 := hBA.trans (D.cur.2.1.mono (by have := hBA.size; omega))
        go_wp2_with fail
        exact bodyPost_ret (results_code_pool rfl _ _ w.heap.size (w.heap.size + 1) 41 33 _ _ (0, 0) (0, 0) _ _ rfl p1 rfl p2 Try.underlying41 rfl Try.sizeC Try.underlying33 rfl Try.sizeP) rfl ⟨_, _, _, _, ns, is, ds, xs, f, rfl, hS, by omega, hzx, p3.mono (by omega), own_mono p4 (by omega), hBW.trans p5⟩

end Go.Proofs.Ytacbhbmjhlgflaa

/-
  What MachineNew answers, and the contract of impl.MachineNew. No condition.
-/
namespace Go.Proofs.Ytacbhbmjhlgflaa
open Go.RowKit

theorem Try.sizeC9 : (Try.prog.info? 41).map (·.size) = some 3 := by kernel_rfl

/-- The definition that a machine begins with, if there is one. -/
def newD (ns : List Nd) (is : List In) (ds : List Df) (s : ByteArray) : Option Df :=
  if codeB ns is ds && decide (0 ≤ dfIdx ds s 0) then (ds[(dfIdx ds s 0).toNat]?).filter (fun d => d.m == 0) else none
def newL : Option Df → List Nd
  | none => []
  | some _ => [⟨1, 0, ByteArray.empty, 0, 0⟩, ⟨5, 0, ByteArray.empty, 0, 0⟩]
def newM : Option Df → Mc
  | none => ⟨0, 0, 0, 0, 0, 0, 0⟩
  | some d => ⟨d.p, 0, 1, 0, 0, 0, 0⟩
theorem dfIdx_lt (ds : List Df) (s : ByteArray) (i : Nat) : dfIdx ds s i = -1 ∨ ((i : Int) ≤ dfIdx ds s i ∧ dfIdx ds s i < i + ds.length) := by
  induction ds generalizing i with
  | nil => left; rfl
  | cons d ds ih =>
    rw [dfIdx]
    split
    · right; constructor <;> simp <;> omega
    · rcases ih (i + 1) with h | ⟨h1, h2⟩
      · exact Or.inl h
      · right; simp; omega

theorem eight_set {w2 : World} {B : Nat} {T : TypeId} {u0 u1 u2 u3 u4 u5 u6 u7 : Value} (v0 v1 v2 v3 v4 v5 v6 v7 : Value) (h : w2.heap[B]? = some (.cells #[u0, u1, u2, u3, u4, u5, u6, u7] T (0, 0))) :
    ((((((((w2.setCell ⟨B, 0, none⟩ v0).setCell ⟨B, 1, none⟩ v1).setCell ⟨B, 2, none⟩ v2).setCell ⟨B, 3, none⟩ v3).setCell ⟨B, 4, none⟩ v4).setCell ⟨B, 5, none⟩ v5).setCell ⟨B, 6, none⟩ v6).setCell ⟨B, 7, none⟩ v7).heap[B]? = some (.cells #[v0, v1, v2, v3, v4, v5, v6, v7] T (0, 0)) ∧ Below B w2 ((((((((w2.setCell ⟨B, 0, none⟩ v0).setCell ⟨B, 1, none⟩ v1).setCell ⟨B, 2, none⟩ v2).setCell ⟨B, 3, none⟩ v3).setCell ⟨B, 4, none⟩ v4).setCell ⟨B, 5, none⟩ v5).setCell ⟨B, 6, none⟩ v6).setCell ⟨B, 7, none⟩ v7) ∧ ((((((((w2.setCell ⟨B, 0, none⟩ v0).setCell ⟨B, 1, none⟩ v1).setCell ⟨B, 2, none⟩ v2).setCell ⟨B, 3, none⟩ v3).setCell ⟨B, 4, none⟩ v4).setCell ⟨B, 5, none⟩ v5).setCell ⟨B, 6, none⟩ v6).setCell ⟨B, 7, none⟩ v7).heap.size = w2.heap.size := by
  have h0 : (w2.setCell ⟨B, 0, none⟩ v0).heap[B]? = some (.cells #[v0, u1, u2, u3, u4, u5, u6, u7] T (0, 0)) := heap_setCell_same _ B 0 _ _ v0 h
  have h1 : ((w2.setCell ⟨B, 0, none⟩ v0).setCell ⟨B, 1, none⟩ v1).heap[B]? = some (.cells #[v0, v1, u2, u3, u4, u5, u6, u7] T (0, 0)) := heap_setCell_same _ B 1 _ _ v1 h0
  have h2 : (((w2.setCell ⟨B, 0, none⟩ v0).setCell ⟨B, 1, none⟩ v1).setCell ⟨B, 2, none⟩ v2).heap[B]? = some (.cells #[v0, v1, v2, u3, u4, u5, u6, u7] T (0, 0)) := heap_setCell_same _ B 2 _ _ v2 h1
  have h3 : ((((w2.setCell ⟨B, 0, none⟩ v0).setCell ⟨B, 1, none⟩ v1).setCell ⟨B, 2, none⟩ v2).setCell ⟨B, 3, none⟩ v3).heap[B]? = some (.cells #[v0, v1, v2, v3, u4, u5, u6, u7] T (0, 0)) := heap_setCell_same _ B 3 _ _ v3 h2
  have h4 : (((((w2.setCell ⟨B, 0, none⟩ v0).setCell ⟨B, 1, none⟩ v1).setCell ⟨B, 2, none⟩ v2).setCell ⟨B, 3, none⟩ v3).setCell ⟨B, 4, none⟩ v4).heap[B]? = some (.cells #[v0, v1, v2, v3, v4, u5, u6, u7] T (0, 0)) := heap_setCell_same _ B 4 _ _ v4 h3
  have h5 : ((((((w2.setCell ⟨B, 0, none⟩ v0).setCell ⟨B, 1, none⟩ v1).setCell ⟨B, 2, none⟩ v2).setCell ⟨B, 3, none⟩ v3).setCell ⟨B, 4, none⟩ v4).setCell ⟨B, 5, none⟩ v5).heap[B]? = some (.cells #[v0, v1, v2, v3, v4, v5, u6, u7] T (0, 0)) := heap_setCell_same _ B 5 _ _ v5 h4
  have h6 : (((((((w2.setCell ⟨B, 0, none⟩ v0).setCell ⟨B, 1, none⟩ v1).setCell ⟨B, 2, none⟩ v2).setCell ⟨B, 3, none⟩ v3).setCell ⟨B, 4, none⟩ v4).setCell ⟨B, 5, none⟩ v5).setCell ⟨B, 6, none⟩ v6).heap[B]? = some (.cells #[v0, v1, v2, v3, v4, v5, v6, u7] T (0, 0)) := heap_setCell_same _ B 6 _ _ v6 h5
  have h7 : ((((((((w2.setCell ⟨B, 0, none⟩ v0).setCell ⟨B, 1, none⟩ v1).setCell ⟨B, 2, none⟩ v2).setCell ⟨B, 3, none⟩ v3).setCell ⟨B, 4, none⟩ v4).setCell ⟨B, 5, none⟩ v5).setCell ⟨B, 6, none⟩ v6).setCell ⟨B, 7, none⟩ v7).heap[B]? = some (.cells #[v0, v1, v2, v3, v4, v5, v6, v7] T (0, 0)) := heap_setCell_same _ B 7 _ _ v7 h6
  exact ⟨h7, (((((((((Below.refl B w2).setCell (p := ⟨B, 0, none⟩) (Nat.le_refl _) v0).setCell (p := ⟨B, 1, none⟩) (Nat.le_refl _) v1).setCell (p := ⟨B, 2, none⟩) (Nat.le_refl _) v2).setCell (p := ⟨B, 3, none⟩) (Nat.le_refl _) v3).setCell (p := ⟨B, 4, none⟩) (Nat.le_refl _) v4).setCell (p := ⟨B, 5, none⟩) (Nat.le_refl _) v5).setCell (p := ⟨B, 6, none⟩) (Nat.le_refl _) v6).setCell (p := ⟨B, 7, none⟩) (Nat.le_refl _) v7), by simp⟩

set_option maxRecDepth 100000 in
set_option maxHeartbeats 3200000 in
theorem imachnew_any (v1 v2 v3 : Value) (ns : List Nd) (is : List In) (ds : List Df) (s : ByteArray) (w : World) (R1 : NRow w v1 ns) (R2 : InRow w v2 is) (R3 : DfRow w v3 ds) :
    Calls Try.prog 20 #[.agg #[v1, v2, v3], .string s] w fun e w' => ∃ v', e = .returned (.tuple #[.agg #[v', .int .i64 (newM (newD ns is ds s)).p, .int .i64 (newM (newD ns is ds s)).s, .int .i64 (newM (newD ns is ds s)).e, .int .i64 (newM (newD ns is ds s)).d, .int .i64 (newM (newD ns is ds s)).t, .int .i64 (newM (newD ns is ds s)).q, .int .i64 (newM (newD ns is ds s)).r], .bool (newD ns is ds s).isSome]) ∧ w'.ownsRow w.heap.size 63 5 v' (newL (newD ns is ds s)).length (ncs (newL (newD ns is ds s))) ∧ Below w.heap.size w w' := by
  obtain ⟨a1, c1, rfl⟩ := R1.small
  obtain ⟨a2, c2, rfl⟩ := R2.small
  obtain ⟨a3, c3, rfl⟩ := R3.small
  obtain ⟨hB0, hx0, hy0⟩ := two_boxes w (Obj.cells #[.slice a1 ns.length c1, .slice a2 is.length c2, .slice a3 ds.length c3] 41) (Obj.cells #[.slice none 0 0, .int .i64 0, .int .i64 0, .int .i64 0, .int .i64 0, .int .i64 0, .int .i64 0, .int .i64 0] 35)
  go_enter Try.func20, Try.ntmps20
  go_wp2_with fail
  refine (icodeok_any _ _ _ ns is ds _ (R1.below hB0) (R2.below hB0) (R3.below hB0)).mono ?_
  rintro e w1 ⟨rfl, hb1⟩
  have hB1 := hB0.trans (hb1.mono hB0.size)
  have hx1 := (hb1.block _ (Array.getElem?_eq_some_iff.1 hx0).1).trans hx0
  have hy1 := (hb1.block _ (Array.getElem?_eq_some_iff.1 hy0).1).trans hy0
  clear hB0 hx0 hy0 hb1
  cases hc : codeB ns is ds with
  | false =>
    have HD : Hid (newD ns is ds s = none) := by unfold Hid newD; rw [hc]; rfl
    go_wp2_with (refine wpList_store_own2 rfl 35 _ _ rfl (w.heap.size + 1) #[.slice none 0 0, .int .i64 0, .int .i64 0, .int .i64 0, .int .i64 0, .int .i64 0, .int .i64 0, .int .i64 0] rfl rfl 35 #[.slice none 0 0, .int .i64 0, .int .i64 0, .int .i64 0, .int .i64 0, .int .i64 0, .int .i64 0, .int .i64 0] hy1 Try.sizeMach rfl (by simp [Value.oneCell']) ?_)
    intro wB hvB hbB hsB hkB
    go_wp2
    refine bodyPost_ret (results_row_tmp rfl _ _ (w.heap.size + 1) 35 _ (0, 0) _ rfl hvB Try.underlying35 rfl Try.sizeMach) rfl ⟨.slice none 0 0, by rw [HD.out]; rfl, by rw [HD.out]; exact ⟨rfl, Or.inl ⟨rfl, rfl⟩⟩, hB1.trans (hbB.mono (by omega))⟩
  | true =>
    go_wp2_with (refine wpList_load_row rfl 41 _ rfl w.heap.size rfl 41 #[.slice a1 ns.length c1, .slice a2 is.length c2, .slice a3 ds.length c3] (0, 0) _ hx1 Try.underlying41 rfl Try.sizeC9 ?_)
    refine (idefof_any a1 a2 _ _ _ _ _ ds s _ (R3.below hB1)).mono ?_
    rintro e w2 ⟨rfl, hb2⟩
    have hB2 := hB1.trans (hb2.mono hB1.size)
    have hx2 := (hb2.block _ (Array.getElem?_eq_some_iff.1 hx1).1).trans hx1
    have hy2 := (hb2.block _ (Array.getElem?_eq_some_iff.1 hy1).1).trans hy1
    have c2' : w2.cell? ⟨w.heap.size, 0 + 2, none⟩ = some (.slice a3 ds.length c3) := cell_of_row w2 _ 2 _ _ _ hx2
    clear hB1 hx1 hy1 hb2
    have hK := dfIdx_lt ds s 0
    have HD0 : Hid (newD ns is ds s = if decide (0 ≤ dfIdx ds s 0) = true then (ds[(dfIdx ds s 0).toNat]?).filter (fun d => d.m == 0) else none) := by unfold Hid newD; rw [hc, Bool.true_and]
    rcases hK with hK | ⟨hK1, hK2⟩
    · have HD : Hid (newD ns is ds s = none) := by unfold Hid; rw [HD0.out, hK]; rfl
      rw [hK]
      go_wp2_with (refine wpList_store_own2 rfl 35 _ _ rfl (w.heap.size + 1) #[.slice none 0 0, .int .i64 0, .int .i64 0, .int .i64 0, .int .i64 0, .int .i64 0, .int .i64 0, .int .i64 0] rfl rfl 35 #[.slice none 0 0, .int .i64 0, .int .i64 0, .int .i64 0, .int .i64 0, .int .i64 0, .int .i64 0, .int .i64 0] hy2 Try.sizeMach rfl (by simp [Value.oneCell']) ?_)
      intro wB hvB hbB hsB hkB
      go_wp2
      refine bodyPost_ret (results_row_tmp rfl _ _ (w.heap.size + 1) 35 _ (0, 0) _ rfl hvB Try.underlying35 rfl Try.sizeMach) rfl ⟨.slice none 0 0, by rw [HD.out]; rfl, by rw [HD.out]; exact ⟨rfl, Or.inl ⟨rfl, rfl⟩⟩, hB2.trans (hbB.mono (by omega))⟩
    · obtain ⟨k, hk⟩ : ∃ k : Nat, dfIdx ds s 0 = k := ⟨(dfIdx ds s 0).toNat, by omega⟩
      rw [hk] at hK1 hK2 HD0 ⊢
      have hlt : k < ds.length := by omega
      obtain ⟨a3', c3', e3, _, _, _, hcell⟩ := R3
      simp only [Value.slice.injEq] at e3
      obtain ⟨e3, _, _⟩ := e3
      subst e3
      obtain ⟨g, o, rfl, hg, hcell⟩ := hcell (by intro e; subst e; simp at hlt)
      obtain ⟨x, hx⟩ : ∃ x, ds[k]? = some x := ⟨ds[k], by simp [hlt]⟩
      obtain ⟨d0, d1, d2⟩ := (hcell k x hx).below hB2 hg
      clear hcell
      have HD1 : Hid (newD ns is ds s = if (x.m == 0) = true then some x else none) := by
        unfold Hid
        rw [HD0.out]
        simp [hx, Option.filter]
      by_cases hm : x.m = 0
      · have HD : Hid (newD ns is ds s = some x) := by unfold Hid; rw [HD1.out]; simp [hm]
        have hg2 : g < w2.heap.size := Nat.lt_of_lt_of_le hg hB2.size
        have hw2 : w.heap.size < w2.heap.size := (Array.getElem?_eq_some_iff.1 hx2).1
        have hw3 : w.heap.size + 1 < w2.heap.size := (Array.getElem?_eq_some_iff.1 hy2).1
        have z0 : w2.cell? ⟨w.heap.size + 1, 0, none⟩ = some (.slice none 0 0) := cell_of_row w2 _ 0 _ _ _ hy2
        have f0 : w2.frozen? ⟨w.heap.size + 1, 0, none⟩ = false := frozen_of_row w2 _ 0 _ _ hy2
        have z1 : w2.cell? ⟨w.heap.size + 1, 1, none⟩ = some (.int .i64 0) := cell_of_row w2 _ 1 _ _ _ hy2
        have f1 : w2.frozen? ⟨w.heap.size + 1, 1, none⟩ = false := frozen_of_row w2 _ 1 _ _ hy2
        have z2 : w2.cell? ⟨w.heap.size + 1, 2, none⟩ = some (.int .i64 0) := cell_of_row w2 _ 2 _ _ _ hy2
        have f2 : w2.frozen? ⟨w.heap.size + 1, 2, none⟩ = false := frozen_of_row w2 _ 2 _ _ hy2
        have z3 : w2.cell? ⟨w.heap.size + 1, 3, none⟩ = some (.int .i64 0) := cell_of_row w2 _ 3 _ _ _ hy2
        have f3 : w2.frozen? ⟨w.heap.size + 1, 3, none⟩ = false := frozen_of_row w2 _ 3 _ _ hy2
        have z4 : w2.cell? ⟨w.heap.size + 1, 4, none⟩ = some (.int .i64 0) := cell_of_row w2 _ 4 _ _ _ hy2
        have f4 : w2.frozen? ⟨w.heap.size + 1, 4, none⟩ = false := frozen_of_row w2 _ 4 _ _ hy2
        have z5 : w2.cell? ⟨w.heap.size + 1, 5, none⟩ = some (.int .i64 0) := cell_of_row w2 _ 5 _ _ _ hy2
        have f5 : w2.frozen? ⟨w.heap.size + 1, 5, none⟩ = false := frozen_of_row w2 _ 5 _ _ hy2
        have z6 : w2.cell? ⟨w.heap.size + 1, 6, none⟩ = some (.int .i64 0) := cell_of_row w2 _ 6 _ _ _ hy2
        have f6 : w2.frozen? ⟨w.heap.size + 1, 6, none⟩ = false := frozen_of_row w2 _ 6 _ _ hy2
        have z7 : w2.cell? ⟨w.heap.size + 1, 7, none⟩ = some (.int .i64 0) := cell_of_row w2 _ 7 _ _ _ hy2
        have f7 : w2.frozen? ⟨w.heap.size + 1, 7, none⟩ = false := frozen_of_row w2 _ 7 _ _ hy2
        go_wp2_with fail
        go_region
        obtain ⟨hvC, hbC, hsC⟩ := eight_set (.slice (some ⟨w2.heap.size, 0, none⟩) 2 2) (.int .i64 x.p) (.int .i64 0) (.int .i64 1) (.int .i64 0) (.int .i64 0) (.int .i64 0) (.int .i64 0) hy2
        generalize ((((((((w2.setCell ⟨w.heap.size + 1, 0, none⟩ (.slice (some ⟨w2.heap.size, 0, none⟩) 2 2)).setCell ⟨w.heap.size + 1, 1, none⟩ (.int .i64 x.p)).setCell ⟨w.heap.size + 1, 2, none⟩ (.int .i64 0)).setCell ⟨w.heap.size + 1, 3, none⟩ (.int .i64 1)).setCell ⟨w.heap.size + 1, 4, none⟩ (.int .i64 0)).setCell ⟨w.heap.size + 1, 5, none⟩ (.int .i64 0)).setCell ⟨w.heap.size + 1, 6, none⟩ (.int .i64 0)).setCell ⟨w.heap.size + 1, 7, none⟩ (.int .i64 0)) = wC at *
        have hAC : (wC.alloc (Obj.cells #[.int .i64 1, .int .i64 0, .string ByteArray.empty, .int .i64 0, .int .i64 0, .int .i64 5, .int .i64 0, .string ByteArray.empty, .int .i64 0, .int .i64 0] 63)).heap[w2.heap.size]? = some (Obj.cells #[.int .i64 1, .int .i64 0, .string ByteArray.empty, .int .i64 0, .int .i64 0, .int .i64 5, .int .i64 0, .string ByteArray.empty, .int .i64 0, .int .i64 0] 63) := by rw [← hsC]; exact heap_alloc_new _ _
        have hBC := hB2.trans (hbC.mono (Nat.le_succ w.heap.size))
        have hBE : Below w.heap.size w ((wC.alloc (Obj.cells #[.int .i64 1, .int .i64 0, .string ByteArray.empty, .int .i64 0, .int .i64 0, .int .i64 5, .int .i64 0, .string ByteArray.empty, .int .i64 0, .int .i64 0] 63)).alloc (Obj.cells #[.slice (some ⟨w2.heap.size, 0, none⟩) 2 2] 33)).drew := ((hBC.alloc hBC.size _).alloc (by have := hBC.size; simp; omega) _).drew
        have hvE : ((wC.alloc (Obj.cells #[.int .i64 1, .int .i64 0, .string ByteArray.empty, .int .i64 0, .int .i64 0, .int .i64 5, .int .i64 0, .string ByteArray.empty, .int .i64 0, .int .i64 0] 63)).alloc (Obj.cells #[.slice (some ⟨w2.heap.size, 0, none⟩) 2 2] 33)).drew.heap[w.heap.size + 1]? = _ := (heap_alloc_old _ _ (by simp; omega)).trans ((heap_alloc_old _ _ (by omega)).trans hvC)
        have hAE : ((wC.alloc (Obj.cells #[.int .i64 1, .int .i64 0, .string ByteArray.empty, .int .i64 0, .int .i64 0, .int .i64 5, .int .i64 0, .string ByteArray.empty, .int .i64 0, .int .i64 0] 63)).alloc (Obj.cells #[.slice (some ⟨w2.heap.size, 0, none⟩) 2 2] 33)).drew.heap[w2.heap.size]? = _ := (heap_alloc_old _ _ (by simp; omega)).trans hAC
        go_wp2
        refine bodyPost_ret (results_row_tmp rfl _ _ (w.heap.size + 1) 35 _ (0, 0) _ rfl hvE Try.underlying35 rfl Try.sizeMach) rfl ⟨.slice (some ⟨w2.heap.size, 0, none⟩) 2 2, by rw [HD.out]; rfl, ?_, hBE⟩
        rw [HD.out]
        exact ⟨rfl, Or.inr ⟨w2.heap.size, 2, _, rfl, by omega, hAE, Nat.le_refl _, by unfold maxLen; omega, rfl, rfl⟩⟩
      · have HD : Hid (newD ns is ds s = none) := by unfold Hid; rw [HD1.out]; simp [hm]
        have hmb : (x.m != 0) = true := by simp [hm]
        clear hx
        go_wp2_with (refine wpList_store_own2 rfl 35 _ _ rfl (w.heap.size + 1) #[.slice none 0 0, .int .i64 0, .int .i64 0, .int .i64 0, .int .i64 0, .int .i64 0, .int .i64 0, .int .i64 0] rfl rfl 35 #[.slice none 0 0, .int .i64 0, .int .i64 0, .int .i64 0, .int .i64 0, .int .i64 0, .int .i64 0, .int .i64 0] hy2 Try.sizeMach rfl (by simp [Value.oneCell']) ?_)
        intro wB hvB hbB hsB hkB
        go_wp2
        refine bodyPost_ret (results_row_tmp rfl _ _ (w.heap.size + 1) 35 _ (0, 0) _ rfl hvB Try.underlying35 rfl Try.sizeMach) rfl ⟨.slice none 0 0, by rw [HD.out]; rfl, by rw [HD.out]; exact ⟨rfl, Or.inl ⟨rfl, rfl⟩⟩, hB2.trans (hbB.mono (by omega))⟩
end Go.Proofs.Ytacbhbmjhlgflaa

/-
  The contract of spec.MachineNew. No condition.
-/
namespace Go.Proofs.Ytacbhbmjhlgflaa
open Go.RowKit

set_option maxRecDepth 100000 in
set_option maxHeartbeats 3200000 in
theorem smachnew_any (v1 v2 v3 : Value) (ns : List Nd) (is : List In) (ds : List Df) (s : ByteArray) (w : World) (R1 : NRow w v1 ns) (R2 : InRow w v2 is) (R3 : DfRow w v3 ds) :
    Calls Try.prog 21 #[.agg #[v1, v2, v3], .string s] w fun e w' => ∃ v', e = .returned (.tuple #[.agg #[v', .int .i64 (newM (newD ns is ds s)).p, .int .i64 (newM (newD ns is ds s)).s, .int .i64 (newM (newD ns is ds s)).e, .int .i64 (newM (newD ns is ds s)).d, .int .i64 (newM (newD ns is ds s)).t, .int .i64 (newM (newD ns is ds s)).q, .int .i64 (newM (newD ns is ds s)).r], .bool (newD ns is ds s).isSome]) ∧ w'.ownsRow w.heap.size 63 5 v' (newL (newD ns is ds s)).length (ncs (newL (newD ns is ds s))) ∧ Below w.heap.size w w' := by
  obtain ⟨a1, c1, rfl⟩ := R1.small
  obtain ⟨a2, c2, rfl⟩ := R2.small
  obtain ⟨a3, c3, rfl⟩ := R3.small
  obtain ⟨hB0, hx0, hy0⟩ := two_boxes w (Obj.cells #[.slice a1 ns.length c1, .slice a2 is.length c2, .slice a3 ds.length c3] 41) (Obj.cells #[.slice none 0 0, .int .i64 0, .int .i64 0, .int .i64 0, .int .i64 0, .int .i64 0, .int .i64 0, .int .i64 0] 35)
  go_enter Try.func21, Try.ntmps21
  go_wp2_with fail
  refine (sdefof_any a1 a2 _ _ _ _ _ ds s _ (R3.below hB0)).mono ?_
  rintro e w1 ⟨rfl, hb1⟩
  have hB1 := hB0.trans (hb1.mono hB0.size)
  have hx1 := (hb1.block _ (Array.getElem?_eq_some_iff.1 hx0).1).trans hx0
  have hy1 := (hb1.block _ (Array.getElem?_eq_some_iff.1 hy0).1).trans hy0
  clear hB0 hx0 hy0 hb1
  go_wp2_with (refine wpList_load_row rfl 41 _ rfl w.heap.size rfl 41 #[.slice a1 ns.length c1, .slice a2 is.length c2, .slice a3 ds.length c3] (0, 0) _ hx1 Try.underlying41 rfl Try.sizeC9 ?_)
  refine (scodeok_any _ _ _ ns is ds _ (R1.below hB1) (R2.below hB1) (R3.below hB1)).mono ?_
  rintro e w2 ⟨rfl, hb2⟩
  have hB2 := hB1.trans (hb2.mono hB1.size)
  have hx2 := (hb2.block _ (Array.getElem?_eq_some_iff.1 hx1).1).trans hx1
  have hy2 := (hb2.block _ (Array.getElem?_eq_some_iff.1 hy1).1).trans hy1
  have c2' : w2.cell? ⟨w.heap.size, 0 + 2, none⟩ = some (.slice a3 ds.length c3) := cell_of_row w2 _ 2 _ _ _ hx2
  clear hB1 hx1 hy1 hb2
  cases hc : codeB ns is ds with
  | false =>
    have HD : Hid (newD ns is ds s = none) := by unfold Hid newD; rw [hc]; rfl
    go_wp2_with (refine wpList_store_own2 rfl 35 _ _ rfl (w.heap.size + 1) #[.slice none 0 0, .int .i64 0, .int .i64 0, .int .i64 0, .int .i64 0, .int .i64 0, .int .i64 0, .int .i64 0] rfl rfl 35 #[.slice none 0 0, .int .i64 0, .int .i64 0, .int .i64 0, .int .i64 0, .int .i64 0, .int .i64 0, .int .i64 0] hy2 Try.sizeMach rfl (by simp [Value.oneCell']) ?_)
    intro wB hvB hbB hsB hkB
    go_wp2
    refine bodyPost_ret (results_row_tmp rfl _ _ (w.heap.size + 1) 35 _ (0, 0) _ rfl hvB Try.underlying35 rfl Try.sizeMach) rfl ⟨.slice none 0 0, by rw [HD.out]; rfl, by rw [HD.out]; exact ⟨rfl, Or.inl ⟨rfl, rfl⟩⟩, hB2.trans (hbB.mono (by omega))⟩
  | true =>
    have hK := dfIdx_lt ds s 0
    have HD0 : Hid (newD ns is ds s = if decide (0 ≤ dfIdx ds s 0) = true then (ds[(dfIdx ds s 0).toNat]?).filter (fun d => d.m == 0) else none) := by unfold Hid newD; rw [hc, Bool.true_and]
    rcases hK with hK | ⟨hK1, hK2⟩
    · have HD : Hid (newD ns is ds s = none) := by unfold Hid; rw [HD0.out, hK]; rfl
      rw [hK]
      go_wp2_with (refine wpList_store_own2 rfl 35 _ _ rfl (w.heap.size + 1) #[.slice none 0 0, .int .i64 0, .int .i64 0, .int .i64 0, .int .i64 0, .int .i64 0, .int .i64 0, .int .i64 0] rfl rfl 35 #[.slice none 0 0, .int .i64 0, .int .i64 0, .int .i64 0, .int .i64 0, .int .i64 0, .int .i64 0, .int .i64 0] hy2 Try.sizeMach rfl (by simp [Value.oneCell']) ?_)
      intro wB hvB hbB hsB hkB
      go_wp2
      refine bodyPost_ret (results_row_tmp rfl _ _ (w.heap.size + 1) 35 _ (0, 0) _ rfl hvB Try.underlying35 rfl Try.sizeMach) rfl ⟨.slice none 0 0, by rw [HD.out]; rfl, by rw [HD.out]; exact ⟨rfl, Or.inl ⟨rfl, rfl⟩⟩, hB2.trans (hbB.mono (by omega))⟩
    · obtain ⟨k, hk⟩ : ∃ k : Nat, dfIdx ds s 0 = k := ⟨(dfIdx ds s 0).toNat, by omega⟩
      rw [hk] at hK1 hK2 HD0 ⊢
      have hlt : k < ds.length := by omega
      obtain ⟨a3', c3', e3, _, _, _, hcell⟩ := R3
      simp only [Value.slice.injEq] at e3
      obtain ⟨e3, _, _⟩ := e3
      subst e3
      obtain ⟨g, o, rfl, hg, hcell⟩ := hcell (by intro e; subst e; simp at hlt)
      obtain ⟨x, hx⟩ : ∃ x, ds[k]? = some x := ⟨ds[k], by simp [hlt]⟩
      obtain ⟨d0, d1, d2⟩ := (hcell k x hx).below hB2 hg
      clear hcell
      have HD1 : Hid (newD ns is ds s = if (x.m == 0) = true then some x else none) := by
        unfold Hid
        rw [HD0.out]
        simp [hx, Option.filter]
      by_cases hm : x.m = 0
      · have HD : Hid (newD ns is ds s = some x) := by unfold Hid; rw [HD1.out]; simp [hm]
        have hg2 : g < w2.heap.size := Nat.lt_of_lt_of_le hg hB2.size
        have hw2 : w.heap.size < w2.heap.size := (Array.getElem?_eq_some_iff.1 hx2).1
        have hw3 : w.heap.size + 1 < w2.heap.size := (Array.getElem?_eq_some_iff.1 hy2).1
        have z0 : w2.cell? ⟨w.heap.size + 1, 0, none⟩ = some (.slice none 0 0) := cell_of_row w2 _ 0 _ _ _ hy2
        have f0 : w2.frozen? ⟨w.heap.size + 1, 0, none⟩ = false := frozen_of_row w2 _ 0 _ _ hy2
        have z1 : w2.cell? ⟨w.heap.size + 1, 1, none⟩ = some (.int .i64 0) := cell_of_row w2 _ 1 _ _ _ hy2
        have f1 : w2.frozen? ⟨w.heap.size + 1, 1, none⟩ = false := frozen_of_row w2 _ 1 _ _ hy2
        have z2 : w2.cell? ⟨w.heap.size + 1, 2, none⟩ = some (.int .i64 0) := cell_of_row w2 _ 2 _ _ _ hy2
        have f2 : w2.frozen? ⟨w.heap.size + 1, 2, none⟩ = false := frozen_of_row w2 _ 2 _ _ hy2
        have z3 : w2.cell? ⟨w.heap.size + 1, 3, none⟩ = some (.int .i64 0) := cell_of_row w2 _ 3 _ _ _ hy2
        have f3 : w2.frozen? ⟨w.heap.size + 1, 3, none⟩ = false := frozen_of_row w2 _ 3 _ _ hy2
        have z4 : w2.cell? ⟨w.heap.size + 1, 4, none⟩ = some (.int .i64 0) := cell_of_row w2 _ 4 _ _ _ hy2
        have f4 : w2.frozen? ⟨w.heap.size + 1, 4, none⟩ = false := frozen_of_row w2 _ 4 _ _ hy2
        have z5 : w2.cell? ⟨w.heap.size + 1, 5, none⟩ = some (.int .i64 0) := cell_of_row w2 _ 5 _ _ _ hy2
        have f5 : w2.frozen? ⟨w.heap.size + 1, 5, none⟩ = false := frozen_of_row w2 _ 5 _ _ hy2
        have z6 : w2.cell? ⟨w.heap.size + 1, 6, none⟩ = some (.int .i64 0) := cell_of_row w2 _ 6 _ _ _ hy2
        have f6 : w2.frozen? ⟨w.heap.size + 1, 6, none⟩ = false := frozen_of_row w2 _ 6 _ _ hy2
        have z7 : w2.cell? ⟨w.heap.size + 1, 7, none⟩ = some (.int .i64 0) := cell_of_row w2 _ 7 _ _ _ hy2
        have f7 : w2.frozen? ⟨w.heap.size + 1, 7, none⟩ = false := frozen_of_row w2 _ 7 _ _ hy2
        go_wp2_with fail
        go_region
        obtain ⟨hvC, hbC, hsC⟩ := eight_set (.slice (some ⟨w2.heap.size, 0, none⟩) 2 2) (.int .i64 x.p) (.int .i64 0) (.int .i64 1) (.int .i64 0) (.int .i64 0) (.int .i64 0) (.int .i64 0) hy2
        generalize ((((((((w2.setCell ⟨w.heap.size + 1, 0, none⟩ (.slice (some ⟨w2.heap.size, 0, none⟩) 2 2)).setCell ⟨w.heap.size + 1, 1, none⟩ (.int .i64 x.p)).setCell ⟨w.heap.size + 1, 2, none⟩ (.int .i64 0)).setCell ⟨w.heap.size + 1, 3, none⟩ (.int .i64 1)).setCell ⟨w.heap.size + 1, 4, none⟩ (.int .i64 0)).setCell ⟨w.heap.size + 1, 5, none⟩ (.int .i64 0)).setCell ⟨w.heap.size + 1, 6, none⟩ (.int .i64 0)).setCell ⟨w.heap.size + 1, 7, none⟩ (.int .i64 0)) = wC at *
        have hAC : (wC.alloc (Obj.cells #[.int .i64 1, .int .i64 0, .string ByteArray.empty, .int .i64 0, .int .i64 0, .int .i64 5, .int .i64 0, .string ByteArray.empty, .int .i64 0, .int .i64 0] 63)).heap[w2.heap.size]? = some (Obj.cells #[.int .i64 1, .int .i64 0, .string ByteArray.empty, .int .i64 0, .int .i64 0, .int .i64 5, .int .i64 0, .string ByteArray.empty, .int .i64 0, .int .i64 0] 63) := by rw [← hsC]; exact heap_alloc_new _ _
        have hBC := hB2.trans (hbC.mono (Nat.le_succ w.heap.size))
        have hBE : Below w.heap.size w ((wC.alloc (Obj.cells #[.int .i64 1, .int .i64 0, .string ByteArray.empty, .int .i64 0, .int .i64 0, .int .i64 5, .int .i64 0, .string ByteArray.empty, .int .i64 0, .int .i64 0] 63)).alloc (Obj.cells #[.slice (some ⟨w2.heap.size, 0, none⟩) 2 2] 33)).drew := ((hBC.alloc hBC.size _).alloc (by have := hBC.size; simp; omega) _).drew
        have hvE : ((wC.alloc (Obj.cells #[.int .i64 1, .int .i64 0, .string ByteArray.empty, .int .i64 0, .int .i64 0, .int .i64 5, .int .i64 0, .string ByteArray.empty, .int .i64 0, .int .i64 0] 63)).alloc (Obj.cells #[.slice (some ⟨w2.heap.size, 0, none⟩) 2 2] 33)).drew.heap[w.heap.size + 1]? = _ := (heap_alloc_old _ _ (by simp; omega)).trans ((heap_alloc_old _ _ (by omega)).trans hvC)
        have hAE : ((wC.alloc (Obj.cells #[.int .i64 1, .int .i64 0, .string ByteArray.empty, .int .i64 0, .int .i64 0, .int .i64 5, .int .i64 0, .string ByteArray.empty, .int .i64 0, .int .i64 0] 63)).alloc (Obj.cells #[.slice (some ⟨w2.heap.size, 0, none⟩) 2 2] 33)).drew.heap[w2.heap.size]? = _ := (heap_alloc_old _ _ (by simp; omega)).trans hAC
        go_wp2
        refine bodyPost_ret (results_row_tmp rfl _ _ (w.heap.size + 1) 35 _ (0, 0) _ rfl hvE Try.underlying35 rfl Try.sizeMach) rfl ⟨.slice (some ⟨w2.heap.size, 0, none⟩) 2 2, by rw [HD.out]; rfl, ?_, hBE⟩
        rw [HD.out]
        exact ⟨rfl, Or.inr ⟨w2.heap.size, 2, _, rfl, by omega, hAE, Nat.le_refl _, by unfold maxLen; omega, rfl, rfl⟩⟩
      · have HD : Hid (newD ns is ds s = none) := by unfold Hid; rw [HD1.out]; simp [hm]
        have hmb : (x.m != 0) = true := by simp [hm]
        clear hx
        go_wp2_with (refine wpList_store_own2 rfl 35 _ _ rfl (w.heap.size + 1) #[.slice none 0 0, .int .i64 0, .int .i64 0, .int .i64 0, .int .i64 0, .int .i64 0, .int .i64 0, .int .i64 0] rfl rfl 35 #[.slice none 0 0, .int .i64 0, .int .i64 0, .int .i64 0, .int .i64 0, .int .i64 0, .int .i64 0, .int .i64 0] hy2 Try.sizeMach rfl (by simp [Value.oneCell']) ?_)
        intro wB hvB hbB hsB hkB
        go_wp2
        refine bodyPost_ret (results_row_tmp rfl _ _ (w.heap.size + 1) 35 _ (0, 0) _ rfl hvB Try.underlying35 rfl Try.sizeMach) rfl ⟨.slice none 0 0, by rw [HD.out]; rfl, by rw [HD.out]; exact ⟨rfl, Or.inl ⟨rfl, rfl⟩⟩, hB2.trans (hbB.mono (by omega))⟩
end Go.Proofs.Ytacbhbmjhlgflaa

/-
  A machine that is right, on impl's side: isAsked, stateFits. No condition.
-/
namespace Go.Proofs.Ytacbhbmjhlgflaa
open Go.RowKit

def placeB (n : Nat) (p : Int) : Bool := decide (0 ≤ p) && decide (p < n)
def askB (q : Int) : Bool := decide (12 < q) && decide (q ≤ 19) && decide (q ≠ 18)
def stateB (n : Nat) (xs : List Nd) (m : Mc) : Bool :=
  if m.t = 0 then placeB n m.p && decide (m.q = 0) && decide (m.r = 0)
  else if m.t = 1 then placeB n m.p && askB m.q && hasI xs m.r
  else if m.t = 2 then decide (m.p = 0) && decide (m.q = 0) && hasI xs m.r
  else if m.t = 3 then decide (m.p = 0) && decide (1 ≤ m.q) && decide (m.q ≤ 7) && decide (m.r = 0)
  else false

theorem isasked_any (q : Int) (w : World) : Calls Try.prog 90 #[.int .i64 q] w fun e w' => e = .returned (.bool (askB q)) ∧ w' = w := by
  go_enter Try.func90, Try.ntmps90
  by_cases h1 : 12 < q
  · by_cases h2 : q ≤ 19
    · by_cases h3 : q = 18
      · subst h3
        go_wp2
        go_ret
        exact ⟨rfl, rfl⟩
      · have q1 : (q == 18) = false := by simp [h3]
        have q2 : decide (q = 18) = false := by simp [h3]
        go_wp2
        go_ret
        exact ⟨by simp [askB, h1, h2, h3], rfl⟩
    · go_wp2
      go_ret
      exact ⟨by simp [askB]; omega, rfl⟩
  · go_wp2
    go_ret
    exact ⟨by simp [askB]; omega, rfl⟩

set_option maxRecDepth 100000 in
set_option maxHeartbeats 3200000 in
theorem istatefits_any (a1 a2 a3 : Option Addr) (n1 n2 n3 c1 c2 c3 : Nat) (v : Value) (xs : List Nd) (m : Mc) (w : World) (R : NRow w v xs) :
    Calls Try.prog 60 #[.agg #[.slice a1 n1 c1, .slice a2 n2 c2, .slice a3 n3 c3], .agg #[v, .int .i64 m.p, .int .i64 m.s, .int .i64 m.e, .int .i64 m.d, .int .i64 m.t, .int .i64 m.q, .int .i64 m.r]] w fun e w' => e = .returned (.bool (stateB n2 xs m)) ∧ Below w.heap.size w w' := by
  have R' := R
  obtain ⟨ao, cap, rfl, _⟩ := R'
  obtain ⟨mp, ms, me, md, mt, mq, mr⟩ := m
  have hB0 : Below w.heap.size w ((w.alloc (Obj.cells #[.slice a1 n1 c1, .slice a2 n2 c2, .slice a3 n3 c3] 41)).alloc (Obj.cells #[.slice ao xs.length cap, .int .i64 mp, .int .i64 ms, .int .i64 me, .int .i64 md, .int .i64 mt, .int .i64 mq, .int .i64 mr] 35)) := ((Below.refl _ _).alloc (Nat.le_refl _) _).alloc (by simp) _
  have hx0 := heap_alloc2_new w (Obj.cells #[.slice a1 n1 c1, .slice a2 n2 c2, .slice a3 n3 c3] 41) (Obj.cells #[.slice ao xs.length cap, .int .i64 mp, .int .i64 ms, .int .i64 me, .int .i64 md, .int .i64 mt, .int .i64 mq, .int .i64 mr] 35)
  have R0 := R.below hB0
  have hs0 := (Array.getElem?_eq_some_iff.1 hx0).1
  go_enter Try.func60, Try.ntmps60
  by_cases t0 : mt = 0
  · subst t0
    go_wp2_with fail
    refine (isplace_any _ _ _ _ _ _ _ _ _ mp _).mono ?_
    rintro e w1 ⟨rfl, hb1⟩
    have hB1 := hB0.trans (hb1.mono hB0.size)
    have hx1 := (hb1.block _ hs0).trans hx0
    have k6 : w1.cell? ⟨w.heap.size + 1, 0 + 6, none⟩ = some (.int .i64 mq) := by rw [cell_of_row w1 _ 6 _ _ _ hx1]; rfl
    have k7 : w1.cell? ⟨w.heap.size + 1, 0 + 7, none⟩ = some (.int .i64 mr) := by rw [cell_of_row w1 _ 7 _ _ _ hx1]; rfl
    have HS : Hid (stateB n2 xs ⟨mp, ms, me, md, 0, mq, mr⟩ = ((decide (0 ≤ mp) && decide (mp < n2)) && decide (mq = 0) && decide (mr = 0))) := rfl
    generalize (decide (0 ≤ mp) && decide (mp < n2)) = bb at HS ⊢
    clear hx0 hx1 hb1 hB0 R0
    cases bb with
    | true =>
      go_wp2
      all_goals
        go_ret
        refine ⟨retB ?_, hB1⟩
        rw [HS.out]
        first | (simp [*]; done) | (simp [*]; rfl)
    | false =>
      go_wp2
      go_ret
      exact ⟨retB (by rw [HS.out]; rfl), hB1⟩
  · by_cases t1 : mt = 1
    · subst t1
      go_wp2_with fail
      refine (isplace_any _ _ _ _ _ _ _ _ _ mp _).mono ?_
      rintro e w1 ⟨rfl, hb1⟩
      have hB1 := hB0.trans (hb1.mono hB0.size)
      have hx1 := (hb1.block _ hs0).trans hx0
      have k0 : w1.cell? ⟨w.heap.size + 1, 0, none⟩ = some (.slice ao xs.length cap) := by rw [cell_of_row w1 _ 0 _ _ _ hx1]; rfl
      have k6 : w1.cell? ⟨w.heap.size + 1, 0 + 6, none⟩ = some (.int .i64 mq) := by rw [cell_of_row w1 _ 6 _ _ _ hx1]; rfl
      have k7 : w1.cell? ⟨w.heap.size + 1, 0 + 7, none⟩ = some (.int .i64 mr) := by rw [cell_of_row w1 _ 7 _ _ _ hx1]; rfl
      have HS : Hid (stateB n2 xs ⟨mp, ms, me, md, 1, mq, mr⟩ = ((decide (0 ≤ mp) && decide (mp < n2)) && askB mq && hasI xs mr)) := rfl
      generalize (decide (0 ≤ mp) && decide (mp < n2)) = bb at HS ⊢
      clear hx0 hx1 hb1 hB0 R0
      cases bb with
      | true =>
        go_wp2_with fail
        refine (isasked_any mq _).mono ?_
        rintro e w2 ⟨rfl, rfl⟩
        generalize askB mq = b2 at HS ⊢
        cases b2 with
        | true =>
          go_wp2_with fail
          refine (has_any _ xs mr _ (R.below hB1)).mono ?_
          rintro e w3 ⟨rfl, hb3⟩
          have hB3 := hB1.trans (hb3.mono hB1.size)
          generalize hasI xs mr = b3 at HS ⊢
          clear k0 k6 k7
          cases b3 <;>
            (go_wp2
             go_ret
             exact ⟨retB (by rw [HS.out]; rfl), hB3⟩)
        | false =>
          go_wp2
          go_ret
          exact ⟨retB (by rw [HS.out]; rfl), hB1⟩
      | false =>
        go_wp2
        go_ret
        exact ⟨retB (by rw [HS.out]; rfl), hB1⟩
    · by_cases t2 : mt = 2
      · subst t2
        have HS : Hid (stateB n2 xs ⟨mp, ms, me, md, 2, mq, mr⟩ = (decide (mp = 0) && decide (mq = 0) && hasI xs mr)) := rfl
        by_cases p0 : mp = 0
        · subst p0
          by_cases q0 : mq = 0
          · subst q0
            go_wp2_with fail
            refine (has_any _ xs mr _ R0).mono ?_
            rintro e w3 ⟨rfl, hb3⟩
            have hB3 := hB0.trans (hb3.mono hB0.size)
            generalize hasI xs mr = b3 at HS ⊢
            cases b3 <;>
              (go_wp2
               go_ret
               exact ⟨retB (by rw [HS.out]; rfl), hB3⟩)
          · have g1 : (mq == 0) = false := by simp [q0]
            have g2 : decide (mq = 0) = false := by simp [q0]
            go_wp2
            go_ret
            exact ⟨retB (by rw [HS.out, g2]; rfl), hB0⟩
        · have g1 : (mp == 0) = false := by simp [p0]
          have g2 : decide (mp = 0) = false := by simp [p0]
          go_wp2
          go_ret
          exact ⟨retB (by rw [HS.out, g2]; rfl), hB0⟩
      · by_cases t3 : mt = 3
        · subst t3
          have HS : Hid (stateB n2 xs ⟨mp, ms, me, md, 3, mq, mr⟩ = (decide (mp = 0) && decide (1 ≤ mq) && decide (mq ≤ 7) && decide (mr = 0))) := rfl
          by_cases p0 : mp = 0
          · subst p0
            by_cases q1 : 1 ≤ mq
            · by_cases q7 : mq ≤ 7
              · by_cases r0 : mr = 0
                · subst r0
                  go_wp2
                  go_ret
                  exact ⟨retB (by rw [HS.out]; simp [q1, q7]), hB0⟩
                · have g1 : (mr == 0) = false := by simp [r0]
                  have g2 : decide (mr = 0) = false := by simp [r0]
                  go_wp2
                  go_ret
                  exact ⟨retB (by rw [HS.out, g2]; simp), hB0⟩
              · go_wp2
                go_ret
                exact ⟨retB (by rw [HS.out]; simp; omega), hB0⟩
            · go_wp2
              go_ret
              exact ⟨retB (by rw [HS.out]; simp; omega), hB0⟩
          · have g1 : (mp == 0) = false := by simp [p0]
            have g2 : decide (mp = 0) = false := by simp [p0]
            go_wp2
            go_ret
            exact ⟨retB (by rw [HS.out, g2]; rfl), hB0⟩
        · have HS : Hid (stateB n2 xs ⟨mp, ms, me, md, mt, mq, mr⟩ = false) := by unfold Hid stateB; simp [t0, t1, t2, t3]
          have g0 : (mt == 0) = false := by simp [t0]
          have g1 : (mt == 1) = false := by simp [t1]
          have g2 : (mt == 2) = false := by simp [t2]
          have g3 : (mt == 3) = false := by simp [t3]
          have f0 : decide (mt = 0) = false := by simp [t0]
          have f1 : decide (mt = 1) = false := by simp [t1]
          have f2 : decide (mt = 2) = false := by simp [t2]
          have f3 : decide (mt = 3) = false := by simp [t3]
          go_wp2
          go_ret
          exact ⟨retB (by rw [HS.out]), hB0⟩
end Go.Proofs.Ytacbhbmjhlgflaa

/-
  A machine that is right: MachineOk on both sides. No condition.
-/
namespace Go.Proofs.Ytacbhbmjhlgflaa
open Go.RowKit

def machB (ns : List Nd) (is : List In) (ds : List Df) (xs : List Nd) (m : Mc) : Bool := codeB ns is ds && poolB xs && allI xs [m.s, m.e, m.d] && stateB is.length xs m

theorem Try.sizeCode : (Try.prog.info? 41).map (·.size) = some 3 := by kernel_rfl
theorem IRow.lit3 (w : World) (a b c : Int) : IRow (w.alloc (Obj.cells #[.int .i64 a, .int .i64 b, .int .i64 c] 3)) (.slice (some ⟨w.heap.size, 0, none⟩) 3 3) [a, b, c] := by
  refine ⟨_, 3, rfl, ⟨by simp, fun h => by cases h⟩, by simp, fun _ => ⟨_, 0, rfl, by simp, fun i hi => ?_⟩⟩
  rw [cell_of_row _ w.heap.size (0 + i) _ 3 (0, 0) (heap_alloc_new w _)]
  have : i = 0 ∨ i = 1 ∨ i = 2 := by simp at hi; omega
  rcases this with rfl | rfl | rfl <;> rfl

set_option maxRecDepth 100000 in
set_option maxHeartbeats 3200000 in
theorem imachok_any (v1 v2 v3 v : Value) (ns : List Nd) (is : List In) (ds : List Df) (xs : List Nd) (m : Mc) (w : World) (R1 : NRow w v1 ns) (R2 : InRow w v2 is) (R3 : DfRow w v3 ds) (R : NRow w v xs) :
    Calls Try.prog 23 #[.agg #[v1, v2, v3], .agg #[v, .int .i64 m.p, .int .i64 m.s, .int .i64 m.e, .int .i64 m.d, .int .i64 m.t, .int .i64 m.q, .int .i64 m.r]] w fun e w' => e = .returned (.bool (machB ns is ds xs m)) ∧ Below w.heap.size w w' := by
  have R' := R
  obtain ⟨ao, cap, rfl, _⟩ := R'
  obtain ⟨a1, c1, rfl⟩ := R1.small
  obtain ⟨a2, c2, rfl⟩ := R2.small
  obtain ⟨a3, c3, rfl⟩ := R3.small
  obtain ⟨hB0, hk0, hx0⟩ := two_boxes w (Obj.cells #[.slice a1 ns.length c1, .slice a2 is.length c2, .slice a3 ds.length c3] 41) (Obj.cells #[.slice ao xs.length cap, .int .i64 m.p, .int .i64 m.s, .int .i64 m.e, .int .i64 m.d, .int .i64 m.t, .int .i64 m.q, .int .i64 m.r] 35)
  go_enter Try.func23, Try.ntmps23
  go_wp2_with fail
  refine (icodeok_any _ _ _ ns is ds _ (R1.below hB0) (R2.below hB0) (R3.below hB0)).mono ?_
  rintro e w1 ⟨rfl, hb1⟩
  have hB1 := hB0.trans (hb1.mono hB0.size)
  have hk1 := (hb1.block _ (Array.getElem?_eq_some_iff.1 hk0).1).trans hk0
  have hx1 := (hb1.block _ (Array.getElem?_eq_some_iff.1 hx0).1).trans hx0
  clear hB0 hk0 hx0 hb1
  have HM : Hid (machB ns is ds xs m = (codeB ns is ds && poolB xs && allI xs [m.s, m.e, m.d] && stateB is.length xs m)) := rfl
  have k0 : w1.cell? ⟨w.heap.size + 1, 0, none⟩ = some (.slice ao xs.length cap) := by rw [cell_of_row w1 _ 0 _ _ _ hx1]; rfl
  generalize codeB ns is ds = b1 at HM ⊢
  cases b1 with
  | false =>
    go_wp2
    go_ret
    exact ⟨retB (by rw [HM.out]; rfl), hB1⟩
  | true =>
    go_wp2_with fail
    refine (ipool_any _ xs _ (R.below hB1)).mono ?_
    rintro e w2 ⟨rfl, hb2⟩
    have hB2 := hB1.trans (hb2.mono hB1.size)
    have hk2 := (hb2.block _ (Array.getElem?_eq_some_iff.1 hk1).1).trans hk1
    have hx2 := (hb2.block _ (Array.getElem?_eq_some_iff.1 hx1).1).trans hx1
    clear hB1 hk1 hx1 hb2 k0
    have k0 : w2.cell? ⟨w.heap.size + 1, 0, none⟩ = some (.slice ao xs.length cap) := by rw [cell_of_row w2 _ 0 _ _ _ hx2]; rfl
    have k2 : w2.cell? ⟨w.heap.size + 1, 0 + 2, none⟩ = some (.int .i64 m.s) := by rw [cell_of_row w2 _ 2 _ _ _ hx2]; rfl
    have k3 : w2.cell? ⟨w.heap.size + 1, 0 + 3, none⟩ = some (.int .i64 m.e) := by rw [cell_of_row w2 _ 3 _ _ _ hx2]; rfl
    have k4 : w2.cell? ⟨w.heap.size + 1, 0 + 4, none⟩ = some (.int .i64 m.d) := by rw [cell_of_row w2 _ 4 _ _ _ hx2]; rfl
    generalize poolB xs = b2 at HM ⊢
    cases b2 with
    | false =>
      go_wp2
      go_ret
      exact ⟨retB (by rw [HM.out]; rfl), hB2⟩
    | true =>
      have hBa : Below w2.heap.size w2 (w2.alloc (Obj.cells #[.int .i64 m.s, .int .i64 m.e, .int .i64 m.d] 3)) := (Below.refl _ _).alloc (Nat.le_refl _) _
      go_wp2_with fail
      refine (hasall_any _ _ xs [m.s, m.e, m.d] _ (R.below (hB2.trans (hBa.mono hB2.size))) (IRow.lit3 w2 m.s m.e m.d)).mono ?_
      rintro e w3 ⟨rfl, hb3⟩
      have hb23 := hBa.trans (hb3.mono hBa.size)
      have hB3 := hB2.trans (hb23.mono hB2.size)
      have hk3 := (hb23.block _ (Array.getElem?_eq_some_iff.1 hk2).1).trans hk2
      have hx3 := (hb23.block _ (Array.getElem?_eq_some_iff.1 hx2).1).trans hx2
      clear hB2 hk2 hx2 hb3 hb23 hBa k0 k2 k3 k4
      generalize allI xs [m.s, m.e, m.d] = b3 at HM ⊢
      cases b3 with
      | false =>
        go_wp2
        go_ret
        exact ⟨retB (by rw [HM.out]; rfl), hB3⟩
      | true =>
        have l0 : w3.cell? ⟨w.heap.size, 0, none⟩ = some (.slice a1 ns.length c1) := cell_of_row w3 _ 0 _ _ _ hk3
        have l1 : w3.cell? ⟨w.heap.size, 1, none⟩ = some (.slice a2 is.length c2) := cell_of_row w3 _ 1 _ _ _ hk3
        have l2 : w3.cell? ⟨w.heap.size, 2, none⟩ = some (.slice a3 ds.length c3) := cell_of_row w3 _ 2 _ _ _ hk3
        have k0 : w3.cell? ⟨w.heap.size + 1, 0, none⟩ = some (.slice ao xs.length cap) := cell_of_row w3 _ 0 _ _ _ hx3
        have k1 : w3.cell? ⟨w.heap.size + 1, 1, none⟩ = some (.int .i64 m.p) := cell_of_row w3 _ 1 _ _ _ hx3
        have k2 : w3.cell? ⟨w.heap.size + 1, 2, none⟩ = some (.int .i64 m.s) := cell_of_row w3 _ 2 _ _ _ hx3
        have k3 : w3.cell? ⟨w.heap.size + 1, 3, none⟩ = some (.int .i64 m.e) := cell_of_row w3 _ 3 _ _ _ hx3
        have k4 : w3.cell? ⟨w.heap.size + 1, 4, none⟩ = some (.int .i64 m.d) := cell_of_row w3 _ 4 _ _ _ hx3
        have k5 : w3.cell? ⟨w.heap.size + 1, 5, none⟩ = some (.int .i64 m.t) := cell_of_row w3 _ 5 _ _ _ hx3
        have k6 : w3.cell? ⟨w.heap.size + 1, 6, none⟩ = some (.int .i64 m.q) := cell_of_row w3 _ 6 _ _ _ hx3
        have k7 : w3.cell? ⟨w.heap.size + 1, 7, none⟩ = some (.int .i64 m.r) := cell_of_row w3 _ 7 _ _ _ hx3
        go_wp2_with fail
        refine (istatefits_any _ _ _ _ _ _ _ _ _ _ xs m _ (R.below hB3)).mono ?_
        rintro e w4 ⟨rfl, hb4⟩
        have hB4 := hB3.trans (hb4.mono hB3.size)
        generalize stateB is.length xs m = b4 at HM ⊢
        cases b4 <;>
          (go_wp2
           go_ret
           exact ⟨retB (by rw [HM.out]; rfl), hB4⟩)
end Go.Proofs.Ytacbhbmjhlgflaa

/-
  A machine that begins is right: plain mathematics. Nothing of the program; no condition.
-/
namespace Go.Proofs.Ytacbhbmjhlgflaa
open Go.RowKit

theorem nodesB_snoc3 (xs : List Nd) (x : Nd) (i : Nat) : nodesB (xs ++ [x]) i = (nodesB xs i && nodeB x ((i + xs.length : Nat) : Int)) := by
  induction xs generalizing i with
  | nil => simp [nodesB]
  | cons y ys ih =>
    rw [List.cons_append, nodesB, nodesB, ih, Bool.and_assoc]
    congr 4
    simp
    omega
theorem dfsB_get : ∀ (all ds : List Df) (n2 i j : Nat) (d : Df), dfsB all n2 ds i = true → ds[j]? = some d → dfB all n2 d (i + j) = true
  | _, [], _, _, _, _, _, h => by simp at h
  | all, y :: ds, n2, i, j, d, h, hd => by
    simp only [dfsB, Bool.and_eq_true] at h
    cases j with
    | zero => simp at hd; subst hd; exact h.1
    | succ j =>
      have := dfsB_get all ds n2 (i + 1) j d h.2 (by simpa using hd)
      rw [show i + 1 + j = i + (j + 1) by omega] at this
      exact this
theorem new_good {ns : List Nd} {is : List In} {ds : List Df} {s : ByteArray} {d : Df} (h : newD ns is ds s = some d) :
    machB ns is ds (newL (some d)) (newM (some d)) = true ∧ 0 ≤ dfIdx ds s 0 ∧ ds[(dfIdx ds s 0).toNat]? = some d := by
  unfold newD at h
  split at h
  · rename_i hc
    rw [Option.filter_eq_some_iff] at h
    simp only [Bool.and_eq_true, decide_eq_true_eq] at hc
    refine ⟨?_, hc.2, h.1⟩
    have hcb := hc.1
    simp only [codeB, Bool.and_eq_true, decide_eq_true_eq] at hcb
    have hdf := dfsB_get ds ds _ 0 _ d hcb.2.2 h.1
    simp only [dfB, Bool.and_eq_true, decide_eq_true_eq] at hdf
    have hp : placeB is.length d.p = true := by unfold placeB; simp [hdf.1.2.1, hdf.1.2.2]
    unfold machB
    rw [hc.1, show poolB (newL (some d)) = true by show poolB [⟨1, 0, ByteArray.empty, 0, 0⟩, ⟨5, 0, ByteArray.empty, 0, 0⟩] = true; decide +kernel, show allI (newL (some d)) [(newM (some d)).s, (newM (some d)).e, (newM (some d)).d] = true by show allI [⟨1, 0, ByteArray.empty, 0, 0⟩, ⟨5, 0, ByteArray.empty, 0, 0⟩] [0, 1, 0] = true; decide +kernel]
    show (true && stateB is.length _ ⟨d.p, 0, 1, 0, 0, 0, 0⟩) = true
    unfold stateB
    simp [hp]
  · cases h
theorem of_good {ns : List Nd} {is : List In} {ds : List Df} {xs : List Nd} {f : Int} {x : Nd} (h : ofD ns is ds xs f = some x) :
    machB ns is ds (ofL xs (some x)) (ofM xs (some x)) = true ∧ 0 ≤ f ∧ f < xs.length ∧ xs[f.toNat]? = some x ∧ 0 ≤ x.n ∧ x.n ≤ 1000000000 := by
  unfold ofD at h
  split at h
  · rename_i hc
    rw [Option.filter_eq_some_iff] at h
    obtain ⟨hx, hq⟩ := h
    simp only [Bool.and_eq_true, decide_eq_true_eq] at hc hq
    obtain ⟨⟨hcb, hp⟩, hh⟩ := hc
    obtain ⟨⟨⟨h6, _⟩, h8⟩, hl⟩ := hq
    have hI : 0 ≤ f ∧ f < xs.length := by simp only [hasI, Bool.and_eq_true, decide_eq_true_eq] at hh; exact hh
    have hnb := poolB_at hp hx
    have hA := nodeB_A hnb (by rw [h6]; decide)
    have hN : 0 ≤ x.n ∧ x.n ≤ 1000000000 := by
      simp only [nodeB, Bool.and_eq_true, decide_eq_true_eq, h6, lo, hi] at hnb
      obtain ⟨⟨⟨⟨_, _⟩, h3⟩, h4⟩, _⟩ := hnb
      simp at h3 h4
      omega
    refine ⟨?_, hI.1, hI.2, hx, hN.1, hN.2⟩
    have hft : ((f.toNat : Nat) : Int) = f := by omega
    have n1 : nodeB nilN xs.length = true := by unfold nilN nodeB; simp [lo, hi, nameFB, hasS, hasA, hasB, partB]
    have n2 : nodeB ⟨5, 0, ByteArray.empty, xs.length, x.a⟩ ((xs.length + 1 : Nat) : Int) = true := by
      have e1 : partB (xs.length : Int) true ((xs.length + 1 : Nat) : Int) = true := by unfold partB; simp; omega
      have e2 : partB x.a true ((xs.length + 1 : Nat) : Int) = true := by unfold partB; simp; omega
      unfold nodeB
      show (decide ((1 : Int) ≤ 5) && decide ((5 : Int) ≤ 9) && decide (lo 5 ≤ 0) && decide (0 ≤ hi 5) && (nameFB ByteArray.empty (hasS 5) && partB (xs.length : Int) (hasA 5) _ && partB x.a (hasB 5) _)) = true
      rw [show hasA 5 = true by decide, show hasB 5 = true by decide, e1, e2]
      decide +kernel
    have hpn : nodesB xs 0 = true := by simp only [poolB, Bool.and_eq_true] at hp; exact hp.2
    have hpool : poolB (ofL xs (some x)) = true := by
      show poolB (xs ++ [nilN] ++ [⟨5, 0, ByteArray.empty, xs.length, x.a⟩]) = true
      unfold poolB
      rw [nodesB_snoc3, nodesB_snoc3, hpn]
      simp only [Nat.zero_add, List.length_append, List.length_singleton]
      rw [n1, n2]
      simp
      omega
    have hlen : (ofL xs (some x)).length = xs.length + 2 := by simp [ofL]
    have hall : allI (ofL xs (some x)) [(ofM xs (some x)).s, (ofM xs (some x)).e, (ofM xs (some x)).d] = true := by
      unfold allI hasI
      simp only [hlen]
      show List.all [(xs.length : Int), ((xs.length + 1 : Nat) : Int), (xs.length : Int)] _ = true
      simp
      omega
    have hpl : placeB is.length (x.n / 8) = true := by unfold placeB; simp [h8]; omega
    unfold machB
    rw [hcb, hpool, hall]
    show (true && stateB is.length _ ⟨x.n / 8, xs.length, (xs.length + 1 : Nat), xs.length, 0, 0, 0⟩) = true
    unfold stateB
    simp [hpl]
  · cases h
end Go.Proofs.Ytacbhbmjhlgflaa

/-
  The regions of the law FnBegun that draw their order, each alone. No condition.
-/
namespace Go.Proofs.Ytacbhbmjhlgflaa
open Go.RowKit

theorem nrow_dr {w : World} {v : Value} {xs : List Nd} (h : NRow w v xs) : NRow w.drew v xs := h.below ((Below.refl _ _).drew)
theorem inrow_dr {w : World} {v : Value} {xs : List In} (h : InRow w v xs) : InRow w.drew v xs := h.below ((Below.refl _ _).drew)
theorem dfrow_dr {w : World} {v : Value} {xs : List Df} (h : DfRow w v xs) : DfRow w.drew v xs := h.below ((Below.refl _ _).drew)
theorem step_dr {w2 w3 : World} (h : Below w2.drew.heap.size w2.drew w3) : Below w2.heap.size w2 w3 := (Below.refl _ _).drew.trans h

end Go.Proofs.Ytacbhbmjhlgflaa

/-
  The regions of the law FnBegun that draw their order, each alone. No condition.
-/
namespace Go.Proofs.Ytacbhbmjhlgflaa
open Go.RowKit

set_option maxRecDepth 100000 in
set_option maxHeartbeats 6400000 in
theorem beg_reg11 {t0 t1 t2 t7 t8 t9 t10 t11 t12 t13 t14 t15 t16 t17 t18 t19 t20 t21 t22 t23 t24 t25 t26 t27 t28 t29 t30 t31 t32 t33 t34 t35 t36 t37 t38 t39 t40 t41 t42 t43 t44 t45 t46 t47 t48 t49 t50 t51 t52 t53 t54 t55 t56 t57 t58 t59 t60 t61 t62 t63 t64 t65 t66 t67 t68 t69 t70 t71 t72 t73 t74 t75 t76 t77 t78 t79 t80 t81 t82 t83 t84 t85 t86 t87 t88 t89 t90 t91 t92 t93 t94 t95 t96 t97 t98 t99 t100 t101 t102 t103 t104 t105 t106 t107 t108 t109 t110 t111 t112 t113 t114 t115 t116 t117 t118 t119 t120 t121 t122 t123 t124 t125 t126 t127 t128 t129 t130 t131 t132 t133 t134 t135 t136 t137 t138 t139 t140 t141 t142 t143 : Value} {fs : List Deferred} (bc bm g3 o3 gN oN cN k : Nat) (a1 a2 : Option Addr) (q1 q2 q3 : Nat) (ns : List Nd) (is : List In) (ds : List Df) (s : ByteArray) (d : Df) (w : World) (Q : Exit → Act → World → Prop)
    (R1 : NRow w (.slice a1 ns.length q1) ns) (R2 : InRow w (.slice a2 is.length q2) is) (R3 : DfRow w (.slice (some ⟨g3, o3, none⟩) ds.length q3) ds) (RM : NRow w (.slice (some ⟨gN, oN, none⟩) 2 cN) [(⟨1, 0, ByteArray.empty, 0, 0⟩ : Nd), ⟨5, 0, ByteArray.empty, 0, 0⟩])
    (HM : Hid (machB ns is ds [(⟨1, 0, ByteArray.empty, 0, 0⟩ : Nd), ⟨5, 0, ByteArray.empty, 0, 0⟩] ⟨d.p, 0, 1, 0, 0, 0, 0⟩ = true)) (HK : Hid (dfIdx ds s 0 = (k : Int))) (hk : k < ds.length)
    (S : w.cell? ⟨bc, 0, none⟩ = some (.slice a1 ns.length q1) ∧ w.cell? ⟨bc, 1, none⟩ = some (.slice a2 is.length q2) ∧ w.cell? ⟨bc, 2, none⟩ = some (.slice (some ⟨g3, o3, none⟩) ds.length q3) ∧ w.cell? ⟨bm, 0, none⟩ = some (.slice (some ⟨gN, oN, none⟩) 2 cN) ∧ w.cell? ⟨bm, 1, none⟩ = some (.int .i64 d.p) ∧ w.cell? ⟨bm, 2, none⟩ = some (.int .i64 0) ∧ w.cell? ⟨bm, 3, none⟩ = some (.int .i64 1) ∧ w.cell? ⟨bm, 4, none⟩ = some (.int .i64 0) ∧ w.cell? ⟨bm, 5, none⟩ = some (.int .i64 0) ∧ w.cell? ⟨bm, 6, none⟩ = some (.int .i64 0) ∧ w.cell? ⟨bm, 7, none⟩ = some (.int .i64 0) ∧ w.cell? ⟨g3, o3 + k * 3 + 1, none⟩ = some (.int .i64 d.p) ∧ w.cell? ⟨gN, oN, none⟩ = some (.int .i64 1)) (lc : bc < w.heap.size) (lm : bm < w.heap.size) (l3 : g3 < w.heap.size) (lN : gN < w.heap.size)
    (hQ : ∀ u63 u64 u65 u66 u67 u68 u69 u70 u71 u72 u73 u74 u75 u76 u77 u78 u79 u80 u81 u82 u83 u84 u85 u86 u87 u88 u89 u90 u91 u92 u93 u94 u95 u96 u97 u98 u99 u100 u101 u102 u103 u104 u105 u106 u107 u108 wx, Below w.heap.size w wx → Q .normal ⟨#[t0, t1, t2, .pointer (some ⟨bc, 0, none⟩), .string s, .pointer (some ⟨bm, 0, none⟩), .bool true, t7, t8, t9, t10, t11, t12, t13, t14, t15, t16, t17, t18, t19, t20, t21, t22, t23, t24, t25, t26, t27, t28, t29, t30, t31, t32, t33, t34, t35, t36, t37, t38, t39, t40, t41, t42, t43, t44, t45, t46, t47, t48, t49, t50, t51, t52, t53, t54, t55, t56, t57, t58, t59, t60, t61, t62, u63, u64, u65, u66, u67, u68, u69, u70, u71, u72, u73, u74, u75, u76, u77, u78, u79, u80, u81, u82, u83, u84, u85, u86, u87, u88, u89, u90, u91, u92, u93, u94, u95, u96, u97, u98, u99, u100, u101, u102, u103, u104, u105, u106, u107, u108, .bool false, t110, t111, t112, t113, t114, t115, t116, t117, t118, t119, t120, t121, t122, t123, t124, t125, t126, t127, t128, t129, t130, t131, t132, t133, t134, t135, t136, t137, t138, t139, t140, t141, t142, t143], fs⟩ wx) :
    (Code.region 11 (List.toArray (({ dst := some 63, op := Op.move (Operand.tmp 6), type := 4, pos := "laws.go:532", after := #[], guard := none } : Oper) :: ({ dst := some 64, op := Op.move (Operand.tmp 63), type := 4, pos := "laws.go:532", after := #[{ on := 0, ground := Ground.data }], guard := none } : Oper) :: ({ dst := some 65, op := Op.load 41 (Operand.tmp 3), type := 41, pos := "laws.go:532", after := #[{ on := 1, ground := Ground.guard }], guard := some (1, true) } : Oper) :: ({ dst := some 66, op := Op.load 35 (Operand.tmp 5), type := 35, pos := "laws.go:532", after := #[{ on := 1, ground := Ground.guard }], guard := some (1, true) } : Oper) :: ({ dst := some 67, op := Op.call { callee := Callee.value (Operand.func 23), args := #[Operand.tmp 65, Operand.tmp 66], argTypes := #[41, 35] }, type := 4, pos := "laws.go:532", after := #[{ on := 2, ground := Ground.data }, { on := 3, ground := Ground.data }, { on := 1, ground := Ground.chain }, { on := 1, ground := Ground.guard }], guard := some (1, true) } : Oper) :: ({ dst := some 68, op := Op.unOp UnOp.not 4 (Operand.tmp 67), type := 4, pos := "laws.go:532", after := #[{ on := 4, ground := Ground.data }, { on := 1, ground := Ground.guard }], guard := some (1, true) } : Oper) :: ({ dst := some 69, op := Op.move (Operand.tmp 68), type := 4, pos := "laws.go:532", after := #[{ on := 5, ground := Ground.data }, { on := 4, ground := Ground.chain }, { on := 1, ground := Ground.guard }], guard := some (1, true) } : Oper) :: ({ dst := some 70, op := Op.fieldAddr 35 (Operand.tmp 5) 5, type := 0, pos := "laws.go:532", after := #[{ on := 6, ground := Ground.guard }], guard := some (6, false) } : Oper) :: ({ dst := some 71, op := Op.load 3 (Operand.tmp 70), type := 3, pos := "laws.go:532", after := #[{ on := 7, ground := Ground.data }, { on := 6, ground := Ground.guard }], guard := some (6, false) } : Oper) :: ({ dst := some 72, op := Op.binOp BinOp.neq 3 (Operand.tmp 71) (Operand.const (Value.int IntKind.i64 0)) 3, type := 4, pos := "laws.go:532", after := #[{ on := 8, ground := Ground.data }, { on := 6, ground := Ground.guard }], guard := some (6, false) } : Oper) :: ({ dst := some 73, op := Op.pick (Operand.tmp 69) (Operand.const (Value.bool true)) (Operand.tmp 72), type := 4, pos := "laws.go:532", after := #[{ on := 6, ground := Ground.data }, { on := 9, ground := Ground.data }, { on := 1, ground := Ground.guard }], guard := some (1, true) } : Oper) :: ({ dst := some 74, op := Op.move (Operand.tmp 73), type := 4, pos := "laws.go:532", after := #[{ on := 10, ground := Ground.data }, { on := 6, ground := Ground.chain }, { on := 1, ground := Ground.guard }], guard := some (1, true) } : Oper) :: ({ dst := some 75, op := Op.fieldAddr 35 (Operand.tmp 5) 1, type := 0, pos := "laws.go:532", after := #[{ on := 11, ground := Ground.guard }], guard := some (11, false) } : Oper) :: ({ dst := some 76, op := Op.load 3 (Operand.tmp 75), type := 3, pos := "laws.go:532", after := #[{ on := 12, ground := Ground.data }, { on := 11, ground := Ground.guard }], guard := some (11, false) } : Oper) :: ({ dst := some 77, op := Op.fieldAddr 41 (Operand.tmp 3) 2, type := 0, pos := "laws.go:532", after := #[{ on := 11, ground := Ground.guard }], guard := some (11, false) } : Oper) :: ({ dst := some 78, op := Op.load 39 (Operand.tmp 77), type := 39, pos := "laws.go:532", after := #[{ on := 14, ground := Ground.data }, { on := 11, ground := Ground.guard }], guard := some (11, false) } : Oper) :: ({ dst := some 79, op := Op.load 41 (Operand.tmp 3), type := 41, pos := "laws.go:532", after := #[{ on := 11, ground := Ground.guard }], guard := some (11, false) } : Oper) :: ({ dst := some 80, op := Op.move (Operand.tmp 4), type := 9, pos := "laws.go:532", after := #[{ on := 11, ground := Ground.guard }], guard := some (11, false) } : Oper) :: ({ dst := some 81, op := Op.call { callee := Callee.value (Operand.func 24), args := #[Operand.tmp 79, Operand.tmp 80], argTypes := #[41, 9] }, type := 3, pos := "laws.go:532", after := #[{ on := 16, ground := Ground.data }, { on := 17, ground := Ground.data }, { on := 11, ground := Ground.chain }, { on := 11, ground := Ground.guard }], guard := some (11, false) } : Oper) :: ({ dst := some 82, op := Op.indexAddr 39 (Operand.tmp 78) (Operand.tmp 81), type := 0, pos := "laws.go:532", after := #[{ on := 15, ground := Ground.data }, { on := 18, ground := Ground.data }, { on := 11, ground := Ground.guard }], guard := some (11, false) } : Oper) :: ({ dst := some 83, op := Op.fieldAddr 60 (Operand.tmp 82) 1, type := 0, pos := "laws.go:532", after := #[{ on := 19, ground := Ground.data }, { on := 11, ground := Ground.guard }], guard := some (11, false) } : Oper) :: ({ dst := some 84, op := Op.load 3 (Operand.tmp 83), type := 3, pos := "laws.go:532", after := #[{ on := 20, ground := Ground.data }, { on := 11, ground := Ground.guard }], guard := some (11, false) } : Oper) :: ({ dst := some 85, op := Op.binOp BinOp.neq 3 (Operand.tmp 76) (Operand.tmp 84) 3, type := 4, pos := "laws.go:532", after := #[{ on := 13, ground := Ground.data }, { on := 21, ground := Ground.data }, { on := 11, ground := Ground.guard }], guard := some (11, false) } : Oper) :: ({ dst := some 86, op := Op.pick (Operand.tmp 74) (Operand.const (Value.bool true)) (Operand.tmp 85), type := 4, pos := "laws.go:532", after := #[{ on := 11, ground := Ground.data }, { on := 22, ground := Ground.data }, { on := 1, ground := Ground.guard }], guard := some (1, true) } : Oper) :: ({ dst := some 87, op := Op.move (Operand.tmp 86), type := 4, pos := "laws.go:532", after := #[{ on := 23, ground := Ground.data }, { on := 18, ground := Ground.chain }, { on := 1, ground := Ground.guard }], guard := some (1, true) } : Oper) :: ({ dst := some 88, op := Op.fieldAddr 35 (Operand.tmp 5) 0, type := 0, pos := "laws.go:532", after := #[{ on := 24, ground := Ground.guard }], guard := some (24, false) } : Oper) :: ({ dst := some 89, op := Op.fieldAddr 33 (Operand.tmp 88) 0, type := 0, pos := "laws.go:532", after := #[{ on := 25, ground := Ground.data }, { on := 24, ground := Ground.guard }], guard := some (24, false) } : Oper) :: ({ dst := some 90, op := Op.load 31 (Operand.tmp 89), type := 31, pos := "laws.go:532", after := #[{ on := 26, ground := Ground.data }, { on := 24, ground := Ground.guard }], guard := some (24, false) } : Oper) :: ({ dst := some 91, op := Op.fieldAddr 35 (Operand.tmp 5) 2, type := 0, pos := "laws.go:532", after := #[{ on := 24, ground := Ground.guard }], guard := some (24, false) } : Oper) :: ({ dst := some 92, op := Op.load 3 (Operand.tmp 91), type := 3, pos := "laws.go:532", after := #[{ on := 28, ground := Ground.data }, { on := 24, ground := Ground.guard }], guard := some (24, false) } : Oper) :: ({ dst := some 93, op := Op.indexAddr 31 (Operand.tmp 90) (Operand.tmp 92), type := 0, pos := "laws.go:532", after := #[{ on := 27, ground := Ground.data }, { on := 29, ground := Ground.data }, { on := 24, ground := Ground.guard }], guard := some (24, false) } : Oper) :: ({ dst := some 94, op := Op.fieldAddr 63 (Operand.tmp 93) 0, type := 0, pos := "laws.go:532", after := #[{ on := 30, ground := Ground.data }, { on := 24, ground := Ground.guard }], guard := some (24, false) } : Oper) :: ({ dst := some 95, op := Op.load 3 (Operand.tmp 94), type := 3, pos := "laws.go:532", after := #[{ on := 31, ground := Ground.data }, { on := 24, ground := Ground.guard }], guard := some (24, false) } : Oper) :: ({ dst := some 96, op := Op.binOp BinOp.neq 3 (Operand.tmp 95) (Operand.const (Value.int IntKind.i64 1)) 3, type := 4, pos := "laws.go:532", after := #[{ on := 32, ground := Ground.data }, { on := 24, ground := Ground.guard }], guard := some (24, false) } : Oper) :: ({ dst := some 97, op := Op.pick (Operand.tmp 87) (Operand.const (Value.bool true)) (Operand.tmp 96), type := 4, pos := "laws.go:532", after := #[{ on := 24, ground := Ground.data }, { on := 33, ground := Ground.data }, { on := 1, ground := Ground.guard }], guard := some (1, true) } : Oper) :: ({ dst := some 98, op := Op.move (Operand.tmp 97), type := 4, pos := "laws.go:532", after := #[{ on := 34, ground := Ground.data }, { on := 24, ground := Ground.chain }, { on := 1, ground := Ground.guard }], guard := some (1, true) } : Oper) :: ({ dst := some 99, op := Op.fieldAddr 35 (Operand.tmp 5) 0, type := 0, pos := "laws.go:532", after := #[{ on := 35, ground := Ground.guard }], guard := some (35, false) } : Oper) :: ({ dst := some 100, op := Op.fieldAddr 33 (Operand.tmp 99) 0, type := 0, pos := "laws.go:532", after := #[{ on := 36, ground := Ground.data }, { on := 35, ground := Ground.guard }], guard := some (35, false) } : Oper) :: ({ dst := some 101, op := Op.load 31 (Operand.tmp 100), type := 31, pos := "laws.go:532", after := #[{ on := 37, ground := Ground.data }, { on := 35, ground := Ground.guard }], guard := some (35, false) } : Oper) :: ({ dst := some 102, op := Op.fieldAddr 35 (Operand.tmp 5) 4, type := 0, pos := "laws.go:532", after := #[{ on := 35, ground := Ground.guard }], guard := some (35, false) } : Oper) :: ({ dst := some 103, op := Op.load 3 (Operand.tmp 102), type := 3, pos := "laws.go:532", after := #[{ on := 39, ground := Ground.data }, { on := 35, ground := Ground.guard }], guard := some (35, false) } : Oper) :: ({ dst := some 104, op := Op.indexAddr 31 (Operand.tmp 101) (Operand.tmp 103), type := 0, pos := "laws.go:532", after := #[{ on := 38, ground := Ground.data }, { on := 40, ground := Ground.data }, { on := 35, ground := Ground.guard }], guard := some (35, false) } : Oper) :: ({ dst := some 105, op := Op.fieldAddr 63 (Operand.tmp 104) 0, type := 0, pos := "laws.go:532", after := #[{ on := 41, ground := Ground.data }, { on := 35, ground := Ground.guard }], guard := some (35, false) } : Oper) :: ({ dst := some 106, op := Op.load 3 (Operand.tmp 105), type := 3, pos := "laws.go:532", after := #[{ on := 42, ground := Ground.data }, { on := 35, ground := Ground.guard }], guard := some (35, false) } : Oper) :: ({ dst := some 107, op := Op.binOp BinOp.neq 3 (Operand.tmp 106) (Operand.const (Value.int IntKind.i64 1)) 3, type := 4, pos := "laws.go:532", after := #[{ on := 43, ground := Ground.data }, { on := 35, ground := Ground.guard }], guard := some (35, false) } : Oper) :: ({ dst := some 108, op := Op.pick (Operand.tmp 98) (Operand.const (Value.bool true)) (Operand.tmp 107), type := 4, pos := "laws.go:532", after := #[{ on := 35, ground := Ground.data }, { on := 44, ground := Ground.data }, { on := 1, ground := Ground.guard }], guard := some (1, true) } : Oper) :: ({ dst := some 109, op := Op.pick (Operand.tmp 64) (Operand.tmp 108) (Operand.const (Value.bool false)), type := 4, pos := "laws.go:532", after := #[{ on := 1, ground := Ground.data }, { on := 45, ground := Ground.data }], guard := none } : Oper) :: [])) true).wp Try.prog Q ⟨#[t0, t1, t2, .pointer (some ⟨bc, 0, none⟩), .string s, .pointer (some ⟨bm, 0, none⟩), .bool true, t7, t8, t9, t10, t11, t12, t13, t14, t15, t16, t17, t18, t19, t20, t21, t22, t23, t24, t25, t26, t27, t28, t29, t30, t31, t32, t33, t34, t35, t36, t37, t38, t39, t40, t41, t42, t43, t44, t45, t46, t47, t48, t49, t50, t51, t52, t53, t54, t55, t56, t57, t58, t59, t60, t61, t62, t63, t64, t65, t66, t67, t68, t69, t70, t71, t72, t73, t74, t75, t76, t77, t78, t79, t80, t81, t82, t83, t84, t85, t86, t87, t88, t89, t90, t91, t92, t93, t94, t95, t96, t97, t98, t99, t100, t101, t102, t103, t104, t105, t106, t107, t108, t109, t110, t111, t112, t113, t114, t115, t116, t117, t118, t119, t120, t121, t122, t123, t124, t125, t126, t127, t128, t129, t130, t131, t132, t133, t134, t135, t136, t137, t138, t139, t140, t141, t142, t143], fs⟩ w := by
  have hS : ∀ w', Below w.heap.size w w' → (w'.cell? ⟨bc, 0, none⟩ = some (.slice a1 ns.length q1) ∧ w'.cell? ⟨bc, 1, none⟩ = some (.slice a2 is.length q2) ∧ w'.cell? ⟨bc, 2, none⟩ = some (.slice (some ⟨g3, o3, none⟩) ds.length q3) ∧ w'.cell? ⟨bm, 0, none⟩ = some (.slice (some ⟨gN, oN, none⟩) 2 cN) ∧ w'.cell? ⟨bm, 1, none⟩ = some (.int .i64 d.p) ∧ w'.cell? ⟨bm, 2, none⟩ = some (.int .i64 0) ∧ w'.cell? ⟨bm, 3, none⟩ = some (.int .i64 1) ∧ w'.cell? ⟨bm, 4, none⟩ = some (.int .i64 0) ∧ w'.cell? ⟨bm, 5, none⟩ = some (.int .i64 0) ∧ w'.cell? ⟨bm, 6, none⟩ = some (.int .i64 0) ∧ w'.cell? ⟨bm, 7, none⟩ = some (.int .i64 0) ∧ w'.cell? ⟨g3, o3 + k * 3 + 1, none⟩ = some (.int .i64 d.p) ∧ w'.cell? ⟨gN, oN, none⟩ = some (.int .i64 1)) := fun w' hb => ⟨(hb.cell (p := ⟨bc, 0, none⟩) lc).trans S.1, (hb.cell (p := ⟨bc, 1, none⟩) lc).trans S.2.1, (hb.cell (p := ⟨bc, 2, none⟩) lc).trans S.2.2.1, (hb.cell (p := ⟨bm, 0, none⟩) lm).trans S.2.2.2.1, (hb.cell (p := ⟨bm, 1, none⟩) lm).trans S.2.2.2.2.1, (hb.cell (p := ⟨bm, 2, none⟩) lm).trans S.2.2.2.2.2.1, (hb.cell (p := ⟨bm, 3, none⟩) lm).trans S.2.2.2.2.2.2.1, (hb.cell (p := ⟨bm, 4, none⟩) lm).trans S.2.2.2.2.2.2.2.1, (hb.cell (p := ⟨bm, 5, none⟩) lm).trans S.2.2.2.2.2.2.2.2.1, (hb.cell (p := ⟨bm, 6, none⟩) lm).trans S.2.2.2.2.2.2.2.2.2.1, (hb.cell (p := ⟨bm, 7, none⟩) lm).trans S.2.2.2.2.2.2.2.2.2.2.1, (hb.cell (p := ⟨g3, o3 + k * 3 + 1, none⟩) l3).trans S.2.2.2.2.2.2.2.2.2.2.2.1, (hb.cell (p := ⟨gN, oN, none⟩) lN).trans S.2.2.2.2.2.2.2.2.2.2.2.2⟩
  have hk' : (k : Int) < ds.length := by omega
  go_region_held3 (fun w' => w'.cell? ⟨bc, 0, none⟩ = some (.slice a1 ns.length q1) ∧ w'.cell? ⟨bc, 1, none⟩ = some (.slice a2 is.length q2) ∧ w'.cell? ⟨bc, 2, none⟩ = some (.slice (some ⟨g3, o3, none⟩) ds.length q3) ∧ w'.cell? ⟨bm, 0, none⟩ = some (.slice (some ⟨gN, oN, none⟩) 2 cN) ∧ w'.cell? ⟨bm, 1, none⟩ = some (.int .i64 d.p) ∧ w'.cell? ⟨bm, 2, none⟩ = some (.int .i64 0) ∧ w'.cell? ⟨bm, 3, none⟩ = some (.int .i64 1) ∧ w'.cell? ⟨bm, 4, none⟩ = some (.int .i64 0) ∧ w'.cell? ⟨bm, 5, none⟩ = some (.int .i64 0) ∧ w'.cell? ⟨bm, 6, none⟩ = some (.int .i64 0) ∧ w'.cell? ⟨bm, 7, none⟩ = some (.int .i64 0) ∧ w'.cell? ⟨g3, o3 + k * 3 + 1, none⟩ = some (.int .i64 d.p) ∧ w'.cell? ⟨gN, oN, none⟩ = some (.int .i64 1)) (first | (with_reducible exact sB) | (with_reducible exact sA) | go_keep) (first
    | (go_at_call 23; with_reducible refine (imachok_any _ _ _ _ ns is ds [(⟨1, 0, ByteArray.empty, 0, 0⟩ : Nd), ⟨5, 0, ByteArray.empty, 0, 0⟩] ⟨d.p, 0, 1, 0, 0, 0, 0⟩ _ (nrow_dr R1) (inrow_dr R2) (dfrow_dr R3) (nrow_dr RM)).mono ?_; rintro e wA ⟨rfl, hbA⟩; rw [HM.out]
       have tA : Below w.heap.size w wA := step_dr hbA
       have sA := hS _ tA)
    | (go_at_call 24; with_reducible refine (idefof_any _ _ _ _ _ _ _ ds s _ (R3.below tA)).mono ?_; rintro e wB ⟨rfl, hbB⟩; rw [HK.out]
       have tB : Below w.heap.size w wB := tA.trans (hbB.mono tA.size)
       have sB := hS _ tB))
  all_goals exact hQ _ _ _ _ _ _ _ _ _ _ _ _ _ _ _ _ _ _ _ _ _ _ _ _ _ _ _ _ _ _ _ _ _ _ _ _ _ _ _ _ _ _ _ _ _ _ _ tB

end Go.Proofs.Ytacbhbmjhlgflaa

/-
  A region of the law FnBegun that draws its order, alone, where nothing is to be asked. No condition.
-/
namespace Go.Proofs.Ytacbhbmjhlgflaa
open Go.RowKit

set_option maxRecDepth 100000 in
set_option maxHeartbeats 6400000 in
theorem beg_reg11n {t0 t1 t2 t4 t7 t8 t9 t10 t11 t12 t13 t14 t15 t16 t17 t18 t19 t20 t21 t22 t23 t24 t25 t26 t27 t28 t29 t30 t31 t32 t33 t34 t35 t36 t37 t38 t39 t40 t41 t42 t43 t44 t45 t46 t47 t48 t49 t50 t51 t52 t53 t54 t55 t56 t57 t58 t59 t60 t61 t62 t63 t64 t65 t66 t67 t68 t69 t70 t71 t72 t73 t74 t75 t76 t77 t78 t79 t80 t81 t82 t83 t84 t85 t86 t87 t88 t89 t90 t91 t92 t93 t94 t95 t96 t97 t98 t99 t100 t101 t102 t103 t104 t105 t106 t107 t108 t109 t110 t111 t112 t113 t114 t115 t116 t117 t118 t119 t120 t121 t122 t123 t124 t125 t126 t127 t128 t129 t130 t131 t132 t133 t134 t135 t136 t137 t138 t139 t140 t141 t142 t143 : Value} {fs : List Deferred} (bc bm : Nat) (w : World) (Q : Exit → Act → World → Prop)
    (hQ : ∀ u63 u64 u65 u66 u67 u68 u69 u70 u71 u72 u73 u74 u75 u76 u77 u78 u79 u80 u81 u82 u83 u84 u85 u86 u87 u88 u89 u90 u91 u92 u93 u94 u95 u96 u97 u98 u99 u100 u101 u102 u103 u104 u105 u106 u107 u108 wx, Below w.heap.size w wx → Q .normal ⟨#[t0, t1, t2, .pointer (some ⟨bc, 0, none⟩), t4, .pointer (some ⟨bm, 0, none⟩), .bool false, t7, t8, t9, t10, t11, t12, t13, t14, t15, t16, t17, t18, t19, t20, t21, t22, t23, t24, t25, t26, t27, t28, t29, t30, t31, t32, t33, t34, t35, t36, t37, t38, t39, t40, t41, t42, t43, t44, t45, t46, t47, t48, t49, t50, t51, t52, t53, t54, t55, t56, t57, t58, t59, t60, t61, t62, u63, u64, u65, u66, u67, u68, u69, u70, u71, u72, u73, u74, u75, u76, u77, u78, u79, u80, u81, u82, u83, u84, u85, u86, u87, u88, u89, u90, u91, u92, u93, u94, u95, u96, u97, u98, u99, u100, u101, u102, u103, u104, u105, u106, u107, u108, .bool false, t110, t111, t112, t113, t114, t115, t116, t117, t118, t119, t120, t121, t122, t123, t124, t125, t126, t127, t128, t129, t130, t131, t132, t133, t134, t135, t136, t137, t138, t139, t140, t141, t142, t143], fs⟩ wx) :
    (Code.region 11 (List.toArray (({ dst := some 63, op := Op.move (Operand.tmp 6), type := 4, pos := "laws.go:532", after := #[], guard := none } : Oper) :: ({ dst := some 64, op := Op.move (Operand.tmp 63), type := 4, pos := "laws.go:532", after := #[{ on := 0, ground := Ground.data }], guard := none } : Oper) :: ({ dst := some 65, op := Op.load 41 (Operand.tmp 3), type := 41, pos := "laws.go:532", after := #[{ on := 1, ground := Ground.guard }], guard := some (1, true) } : Oper) :: ({ dst := some 66, op := Op.load 35 (Operand.tmp 5), type := 35, pos := "laws.go:532", after := #[{ on := 1, ground := Ground.guard }], guard := some (1, true) } : Oper) :: ({ dst := some 67, op := Op.call { callee := Callee.value (Operand.func 23), args := #[Operand.tmp 65, Operand.tmp 66], argTypes := #[41, 35] }, type := 4, pos := "laws.go:532", after := #[{ on := 2, ground := Ground.data }, { on := 3, ground := Ground.data }, { on := 1, ground := Ground.chain }, { on := 1, ground := Ground.guard }], guard := some (1, true) } : Oper) :: ({ dst := some 68, op := Op.unOp UnOp.not 4 (Operand.tmp 67), type := 4, pos := "laws.go:532", after := #[{ on := 4, ground := Ground.data }, { on := 1, ground := Ground.guard }], guard := some (1, true) } : Oper) :: ({ dst := some 69, op := Op.move (Operand.tmp 68), type := 4, pos := "laws.go:532", after := #[{ on := 5, ground := Ground.data }, { on := 4, ground := Ground.chain }, { on := 1, ground := Ground.guard }], guard := some (1, true) } : Oper) :: ({ dst := some 70, op := Op.fieldAddr 35 (Operand.tmp 5) 5, type := 0, pos := "laws.go:532", after := #[{ on := 6, ground := Ground.guard }], guard := some (6, false) } : Oper) :: ({ dst := some 71, op := Op.load 3 (Operand.tmp 70), type := 3, pos := "laws.go:532", after := #[{ on := 7, ground := Ground.data }, { on := 6, ground := Ground.guard }], guard := some (6, false) } : Oper) :: ({ dst := some 72, op := Op.binOp BinOp.neq 3 (Operand.tmp 71) (Operand.const (Value.int IntKind.i64 0)) 3, type := 4, pos := "laws.go:532", after := #[{ on := 8, ground := Ground.data }, { on := 6, ground := Ground.guard }], guard := some (6, false) } : Oper) :: ({ dst := some 73, op := Op.pick (Operand.tmp 69) (Operand.const (Value.bool true)) (Operand.tmp 72), type := 4, pos := "laws.go:532", after := #[{ on := 6, ground := Ground.data }, { on := 9, ground := Ground.data }, { on := 1, ground := Ground.guard }], guard := some (1, true) } : Oper) :: ({ dst := some 74, op := Op.move (Operand.tmp 73), type := 4, pos := "laws.go:532", after := #[{ on := 10, ground := Ground.data }, { on := 6, ground := Ground.chain }, { on := 1, ground := Ground.guard }], guard := some (1, true) } : Oper) :: ({ dst := some 75, op := Op.fieldAddr 35 (Operand.tmp 5) 1, type := 0, pos := "laws.go:532", after := #[{ on := 11, ground := Ground.guard }], guard := some (11, false) } : Oper) :: ({ dst := some 76, op := Op.load 3 (Operand.tmp 75), type := 3, pos := "laws.go:532", after := #[{ on := 12, ground := Ground.data }, { on := 11, ground := Ground.guard }], guard := some (11, false) } : Oper) :: ({ dst := some 77, op := Op.fieldAddr 41 (Operand.tmp 3) 2, type := 0, pos := "laws.go:532", after := #[{ on := 11, ground := Ground.guard }], guard := some (11, false) } : Oper) :: ({ dst := some 78, op := Op.load 39 (Operand.tmp 77), type := 39, pos := "laws.go:532", after := #[{ on := 14, ground := Ground.data }, { on := 11, ground := Ground.guard }], guard := some (11, false) } : Oper) :: ({ dst := some 79, op := Op.load 41 (Operand.tmp 3), type := 41, pos := "laws.go:532", after := #[{ on := 11, ground := Ground.guard }], guard := some (11, false) } : Oper) :: ({ dst := some 80, op := Op.move (Operand.tmp 4), type := 9, pos := "laws.go:532", after := #[{ on := 11, ground := Ground.guard }], guard := some (11, false) } : Oper) :: ({ dst := some 81, op := Op.call { callee := Callee.value (Operand.func 24), args := #[Operand.tmp 79, Operand.tmp 80], argTypes := #[41, 9] }, type := 3, pos := "laws.go:532", after := #[{ on := 16, ground := Ground.data }, { on := 17, ground := Ground.data }, { on := 11, ground := Ground.chain }, { on := 11, ground := Ground.guard }], guard := some (11, false) } : Oper) :: ({ dst := some 82, op := Op.indexAddr 39 (Operand.tmp 78) (Operand.tmp 81), type := 0, pos := "laws.go:532", after := #[{ on := 15, ground := Ground.data }, { on := 18, ground := Ground.data }, { on := 11, ground := Ground.guard }], guard := some (11, false) } : Oper) :: ({ dst := some 83, op := Op.fieldAddr 60 (Operand.tmp 82) 1, type := 0, pos := "laws.go:532", after := #[{ on := 19, ground := Ground.data }, { on := 11, ground := Ground.guard }], guard := some (11, false) } : Oper) :: ({ dst := some 84, op := Op.load 3 (Operand.tmp 83), type := 3, pos := "laws.go:532", after := #[{ on := 20, ground := Ground.data }, { on := 11, ground := Ground.guard }], guard := some (11, false) } : Oper) :: ({ dst := some 85, op := Op.binOp BinOp.neq 3 (Operand.tmp 76) (Operand.tmp 84) 3, type := 4, pos := "laws.go:532", after := #[{ on := 13, ground := Ground.data }, { on := 21, ground := Ground.data }, { on := 11, ground := Ground.guard }], guard := some (11, false) } : Oper) :: ({ dst := some 86, op := Op.pick (Operand.tmp 74) (Operand.const (Value.bool true)) (Operand.tmp 85), type := 4, pos := "laws.go:532", after := #[{ on := 11, ground := Ground.data }, { on := 22, ground := Ground.data }, { on := 1, ground := Ground.guard }], guard := some (1, true) } : Oper) :: ({ dst := some 87, op := Op.move (Operand.tmp 86), type := 4, pos := "laws.go:532", after := #[{ on := 23, ground := Ground.data }, { on := 18, ground := Ground.chain }, { on := 1, ground := Ground.guard }], guard := some (1, true) } : Oper) :: ({ dst := some 88, op := Op.fieldAddr 35 (Operand.tmp 5) 0, type := 0, pos := "laws.go:532", after := #[{ on := 24, ground := Ground.guard }], guard := some (24, false) } : Oper) :: ({ dst := some 89, op := Op.fieldAddr 33 (Operand.tmp 88) 0, type := 0, pos := "laws.go:532", after := #[{ on := 25, ground := Ground.data }, { on := 24, ground := Ground.guard }], guard := some (24, false) } : Oper) :: ({ dst := some 90, op := Op.load 31 (Operand.tmp 89), type := 31, pos := "laws.go:532", after := #[{ on := 26, ground := Ground.data }, { on := 24, ground := Ground.guard }], guard := some (24, false) } : Oper) :: ({ dst := some 91, op := Op.fieldAddr 35 (Operand.tmp 5) 2, type := 0, pos := "laws.go:532", after := #[{ on := 24, ground := Ground.guard }], guard := some (24, false) } : Oper) :: ({ dst := some 92, op := Op.load 3 (Operand.tmp 91), type := 3, pos := "laws.go:532", after := #[{ on := 28, ground := Ground.data }, { on := 24, ground := Ground.guard }], guard := some (24, false) } : Oper) :: ({ dst := some 93, op := Op.indexAddr 31 (Operand.tmp 90) (Operand.tmp 92), type := 0, pos := "laws.go:532", after := #[{ on := 27, ground := Ground.data }, { on := 29, ground := Ground.data }, { on := 24, ground := Ground.guard }], guard := some (24, false) } : Oper) :: ({ dst := some 94, op := Op.fieldAddr 63 (Operand.tmp 93) 0, type := 0, pos := "laws.go:532", after := #[{ on := 30, ground := Ground.data }, { on := 24, ground := Ground.guard }], guard := some (24, false) } : Oper) :: ({ dst := some 95, op := Op.load 3 (Operand.tmp 94), type := 3, pos := "laws.go:532", after := #[{ on := 31, ground := Ground.data }, { on := 24, ground := Ground.guard }], guard := some (24, false) } : Oper) :: ({ dst := some 96, op := Op.binOp BinOp.neq 3 (Operand.tmp 95) (Operand.const (Value.int IntKind.i64 1)) 3, type := 4, pos := "laws.go:532", after := #[{ on := 32, ground := Ground.data }, { on := 24, ground := Ground.guard }], guard := some (24, false) } : Oper) :: ({ dst := some 97, op := Op.pick (Operand.tmp 87) (Operand.const (Value.bool true)) (Operand.tmp 96), type := 4, pos := "laws.go:532", after := #[{ on := 24, ground := Ground.data }, { on := 33, ground := Ground.data }, { on := 1, ground := Ground.guard }], guard := some (1, true) } : Oper) :: ({ dst := some 98, op := Op.move (Operand.tmp 97), type := 4, pos := "laws.go:532", after := #[{ on := 34, ground := Ground.data }, { on := 24, ground := Ground.chain }, { on := 1, ground := Ground.guard }], guard := some (1, true) } : Oper) :: ({ dst := some 99, op := Op.fieldAddr 35 (Operand.tmp 5) 0, type := 0, pos := "laws.go:532", after := #[{ on := 35, ground := Ground.guard }], guard := some (35, false) } : Oper) :: ({ dst := some 100, op := Op.fieldAddr 33 (Operand.tmp 99) 0, type := 0, pos := "laws.go:532", after := #[{ on := 36, ground := Ground.data }, { on := 35, ground := Ground.guard }], guard := some (35, false) } : Oper) :: ({ dst := some 101, op := Op.load 31 (Operand.tmp 100), type := 31, pos := "laws.go:532", after := #[{ on := 37, ground := Ground.data }, { on := 35, ground := Ground.guard }], guard := some (35, false) } : Oper) :: ({ dst := some 102, op := Op.fieldAddr 35 (Operand.tmp 5) 4, type := 0, pos := "laws.go:532", after := #[{ on := 35, ground := Ground.guard }], guard := some (35, false) } : Oper) :: ({ dst := some 103, op := Op.load 3 (Operand.tmp 102), type := 3, pos := "laws.go:532", after := #[{ on := 39, ground := Ground.data }, { on := 35, ground := Ground.guard }], guard := some (35, false) } : Oper) :: ({ dst := some 104, op := Op.indexAddr 31 (Operand.tmp 101) (Operand.tmp 103), type := 0, pos := "laws.go:532", after := #[{ on := 38, ground := Ground.data }, { on := 40, ground := Ground.data }, { on := 35, ground := Ground.guard }], guard := some (35, false) } : Oper) :: ({ dst := some 105, op := Op.fieldAddr 63 (Operand.tmp 104) 0, type := 0, pos := "laws.go:532", after := #[{ on := 41, ground := Ground.data }, { on := 35, ground := Ground.guard }], guard := some (35, false) } : Oper) :: ({ dst := some 106, op := Op.load 3 (Operand.tmp 105), type := 3, pos := "laws.go:532", after := #[{ on := 42, ground := Ground.data }, { on := 35, ground := Ground.guard }], guard := some (35, false) } : Oper) :: ({ dst := some 107, op := Op.binOp BinOp.neq 3 (Operand.tmp 106) (Operand.const (Value.int IntKind.i64 1)) 3, type := 4, pos := "laws.go:532", after := #[{ on := 43, ground := Ground.data }, { on := 35, ground := Ground.guard }], guard := some (35, false) } : Oper) :: ({ dst := some 108, op := Op.pick (Operand.tmp 98) (Operand.const (Value.bool true)) (Operand.tmp 107), type := 4, pos := "laws.go:532", after := #[{ on := 35, ground := Ground.data }, { on := 44, ground := Ground.data }, { on := 1, ground := Ground.guard }], guard := some (1, true) } : Oper) :: ({ dst := some 109, op := Op.pick (Operand.tmp 64) (Operand.tmp 108) (Operand.const (Value.bool false)), type := 4, pos := "laws.go:532", after := #[{ on := 1, ground := Ground.data }, { on := 45, ground := Ground.data }], guard := none } : Oper) :: [])) true).wp Try.prog Q ⟨#[t0, t1, t2, .pointer (some ⟨bc, 0, none⟩), t4, .pointer (some ⟨bm, 0, none⟩), .bool false, t7, t8, t9, t10, t11, t12, t13, t14, t15, t16, t17, t18, t19, t20, t21, t22, t23, t24, t25, t26, t27, t28, t29, t30, t31, t32, t33, t34, t35, t36, t37, t38, t39, t40, t41, t42, t43, t44, t45, t46, t47, t48, t49, t50, t51, t52, t53, t54, t55, t56, t57, t58, t59, t60, t61, t62, t63, t64, t65, t66, t67, t68, t69, t70, t71, t72, t73, t74, t75, t76, t77, t78, t79, t80, t81, t82, t83, t84, t85, t86, t87, t88, t89, t90, t91, t92, t93, t94, t95, t96, t97, t98, t99, t100, t101, t102, t103, t104, t105, t106, t107, t108, t109, t110, t111, t112, t113, t114, t115, t116, t117, t118, t119, t120, t121, t122, t123, t124, t125, t126, t127, t128, t129, t130, t131, t132, t133, t134, t135, t136, t137, t138, t139, t140, t141, t142, t143], fs⟩ w := by
  refine wp_region_noPanic ?_
  refine wp_region_held_drew (S := fun _ => True) (by kernel_rfl) trivial (fun hHeld => ?_)
  refine wpAnyH_take (i := 0) (oi := ({ dst := some 63, op := Op.move (Operand.tmp 6), type := 4, pos := "laws.go:532", after := #[], guard := none } : Oper)) (v := .bool false) rfl (by kernel_rfl) (by kernel_rfl) (by kernel_rfl) (fun _ _ _ h => h) (Or.inl ⟨by rfl, by intro w hSw; go_simp⟩) (by assumption) ?_
  simp only [Act.put, List.setIfInBounds_toArray, List.set_cons_zero, List.set_cons_succ]
  refine wpAnyH_take (i := 1) (oi := ({ dst := some 64, op := Op.move (Operand.tmp 63), type := 4, pos := "laws.go:532", after := #[{ on := 0, ground := Ground.data }], guard := none } : Oper)) (v := .bool false) rfl (by kernel_rfl) (by kernel_rfl) (by kernel_rfl) (fun _ _ _ h => h) (Or.inl ⟨by rfl, by intro w hSw; go_simp⟩) (by assumption) ?_
  simp only [Act.put, List.setIfInBounds_toArray, List.set_cons_zero, List.set_cons_succ]
  refine wpAnyH_take (i := 2) (oi := ({ dst := some 65, op := Op.load 41 (Operand.tmp 3), type := 41, pos := "laws.go:532", after := #[{ on := 1, ground := Ground.guard }], guard := some (1, true) } : Oper)) (v := undef) rfl (by kernel_rfl) (by kernel_rfl) (by kernel_rfl) (fun _ _ _ h => h) (Or.inr ⟨by rfl, rfl⟩) (by assumption) ?_
  simp only [Act.put, List.setIfInBounds_toArray, List.set_cons_zero, List.set_cons_succ]
  refine wpAnyH_take (i := 3) (oi := ({ dst := some 66, op := Op.load 35 (Operand.tmp 5), type := 35, pos := "laws.go:532", after := #[{ on := 1, ground := Ground.guard }], guard := some (1, true) } : Oper)) (v := undef) rfl (by kernel_rfl) (by kernel_rfl) (by kernel_rfl) (fun _ _ _ h => h) (Or.inr ⟨by rfl, rfl⟩) (by assumption) ?_
  simp only [Act.put, List.setIfInBounds_toArray, List.set_cons_zero, List.set_cons_succ]
  refine wpAnyH_take (i := 4) (oi := ({ dst := some 67, op := Op.call { callee := Callee.value (Operand.func 23), args := #[Operand.tmp 65, Operand.tmp 66], argTypes := #[41, 35] }, type := 4, pos := "laws.go:532", after := #[{ on := 2, ground := Ground.data }, { on := 3, ground := Ground.data }, { on := 1, ground := Ground.chain }, { on := 1, ground := Ground.guard }], guard := some (1, true) } : Oper)) (v := undef) rfl (by kernel_rfl) (by kernel_rfl) (by kernel_rfl) (fun _ _ _ h => h) (Or.inr ⟨by rfl, rfl⟩) (by assumption) ?_
  simp only [Act.put, List.setIfInBounds_toArray, List.set_cons_zero, List.set_cons_succ]
  refine wpAnyH_take (i := 5) (oi := ({ dst := some 68, op := Op.unOp UnOp.not 4 (Operand.tmp 67), type := 4, pos := "laws.go:532", after := #[{ on := 4, ground := Ground.data }, { on := 1, ground := Ground.guard }], guard := some (1, true) } : Oper)) (v := undef) rfl (by kernel_rfl) (by kernel_rfl) (by kernel_rfl) (fun _ _ _ h => h) (Or.inr ⟨by rfl, rfl⟩) (by assumption) ?_
  simp only [Act.put, List.setIfInBounds_toArray, List.set_cons_zero, List.set_cons_succ]
  refine wpAnyH_take (i := 6) (oi := ({ dst := some 69, op := Op.move (Operand.tmp 68), type := 4, pos := "laws.go:532", after := #[{ on := 5, ground := Ground.data }, { on := 4, ground := Ground.chain }, { on := 1, ground := Ground.guard }], guard := some (1, true) } : Oper)) (v := undef) rfl (by kernel_rfl) (by kernel_rfl) (by kernel_rfl) (fun _ _ _ h => h) (Or.inr ⟨by rfl, rfl⟩) (by assumption) ?_
  simp only [Act.put, List.setIfInBounds_toArray, List.set_cons_zero, List.set_cons_succ]
  refine wpAnyH_take (i := 7) (oi := ({ dst := some 70, op := Op.fieldAddr 35 (Operand.tmp 5) 5, type := 0, pos := "laws.go:532", after := #[{ on := 6, ground := Ground.guard }], guard := some (6, false) } : Oper)) (v := undef) rfl (by kernel_rfl) (by kernel_rfl) (by kernel_rfl) (fun _ _ _ h => h) (Or.inr ⟨by rfl, rfl⟩) (by assumption) ?_
  simp only [Act.put, List.setIfInBounds_toArray, List.set_cons_zero, List.set_cons_succ]
  refine wpAnyH_take (i := 8) (oi := ({ dst := some 71, op := Op.load 3 (Operand.tmp 70), type := 3, pos := "laws.go:532", after := #[{ on := 7, ground := Ground.data }, { on := 6, ground := Ground.guard }], guard := some (6, false) } : Oper)) (v := undef) rfl (by kernel_rfl) (by kernel_rfl) (by kernel_rfl) (fun _ _ _ h => h) (Or.inr ⟨by rfl, rfl⟩) (by assumption) ?_
  simp only [Act.put, List.setIfInBounds_toArray, List.set_cons_zero, List.set_cons_succ]
  refine wpAnyH_take (i := 9) (oi := ({ dst := some 72, op := Op.binOp BinOp.neq 3 (Operand.tmp 71) (Operand.const (Value.int IntKind.i64 0)) 3, type := 4, pos := "laws.go:532", after := #[{ on := 8, ground := Ground.data }, { on := 6, ground := Ground.guard }], guard := some (6, false) } : Oper)) (v := undef) rfl (by kernel_rfl) (by kernel_rfl) (by kernel_rfl) (fun _ _ _ h => h) (Or.inr ⟨by rfl, rfl⟩) (by assumption) ?_
  simp only [Act.put, List.setIfInBounds_toArray, List.set_cons_zero, List.set_cons_succ]
  refine wpAnyH_take (i := 10) (oi := ({ dst := some 73, op := Op.pick (Operand.tmp 69) (Operand.const (Value.bool true)) (Operand.tmp 72), type := 4, pos := "laws.go:532", after := #[{ on := 6, ground := Ground.data }, { on := 9, ground := Ground.data }, { on := 1, ground := Ground.guard }], guard := some (1, true) } : Oper)) (v := undef) rfl (by kernel_rfl) (by kernel_rfl) (by kernel_rfl) (fun _ _ _ h => h) (Or.inr ⟨by rfl, rfl⟩) (by assumption) ?_
  simp only [Act.put, List.setIfInBounds_toArray, List.set_cons_zero, List.set_cons_succ]
  refine wpAnyH_take (i := 11) (oi := ({ dst := some 74, op := Op.move (Operand.tmp 73), type := 4, pos := "laws.go:532", after := #[{ on := 10, ground := Ground.data }, { on := 6, ground := Ground.chain }, { on := 1, ground := Ground.guard }], guard := some (1, true) } : Oper)) (v := undef) rfl (by kernel_rfl) (by kernel_rfl) (by kernel_rfl) (fun _ _ _ h => h) (Or.inr ⟨by rfl, rfl⟩) (by assumption) ?_
  simp only [Act.put, List.setIfInBounds_toArray, List.set_cons_zero, List.set_cons_succ]
  refine wpAnyH_take (i := 12) (oi := ({ dst := some 75, op := Op.fieldAddr 35 (Operand.tmp 5) 1, type := 0, pos := "laws.go:532", after := #[{ on := 11, ground := Ground.guard }], guard := some (11, false) } : Oper)) (v := undef) rfl (by kernel_rfl) (by kernel_rfl) (by kernel_rfl) (fun _ _ _ h => h) (Or.inr ⟨by rfl, rfl⟩) (by assumption) ?_
  simp only [Act.put, List.setIfInBounds_toArray, List.set_cons_zero, List.set_cons_succ]
  refine wpAnyH_take (i := 13) (oi := ({ dst := some 76, op := Op.load 3 (Operand.tmp 75), type := 3, pos := "laws.go:532", after := #[{ on := 12, ground := Ground.data }, { on := 11, ground := Ground.guard }], guard := some (11, false) } : Oper)) (v := undef) rfl (by kernel_rfl) (by kernel_rfl) (by kernel_rfl) (fun _ _ _ h => h) (Or.inr ⟨by rfl, rfl⟩) (by assumption) ?_
  simp only [Act.put, List.setIfInBounds_toArray, List.set_cons_zero, List.set_cons_succ]
  refine wpAnyH_take (i := 14) (oi := ({ dst := some 77, op := Op.fieldAddr 41 (Operand.tmp 3) 2, type := 0, pos := "laws.go:532", after := #[{ on := 11, ground := Ground.guard }], guard := some (11, false) } : Oper)) (v := undef) rfl (by kernel_rfl) (by kernel_rfl) (by kernel_rfl) (fun _ _ _ h => h) (Or.inr ⟨by rfl, rfl⟩) (by assumption) ?_
  simp only [Act.put, List.setIfInBounds_toArray, List.set_cons_zero, List.set_cons_succ]
  refine wpAnyH_take (i := 15) (oi := ({ dst := some 78, op := Op.load 39 (Operand.tmp 77), type := 39, pos := "laws.go:532", after := #[{ on := 14, ground := Ground.data }, { on := 11, ground := Ground.guard }], guard := some (11, false) } : Oper)) (v := undef) rfl (by kernel_rfl) (by kernel_rfl) (by kernel_rfl) (fun _ _ _ h => h) (Or.inr ⟨by rfl, rfl⟩) (by assumption) ?_
  simp only [Act.put, List.setIfInBounds_toArray, List.set_cons_zero, List.set_cons_succ]
  refine wpAnyH_take (i := 16) (oi := ({ dst := some 79, op := Op.load 41 (Operand.tmp 3), type := 41, pos := "laws.go:532", after := #[{ on := 11, ground := Ground.guard }], guard := some (11, false) } : Oper)) (v := undef) rfl (by kernel_rfl) (by kernel_rfl) (by kernel_rfl) (fun _ _ _ h => h) (Or.inr ⟨by rfl, rfl⟩) (by assumption) ?_
  simp only [Act.put, List.setIfInBounds_toArray, List.set_cons_zero, List.set_cons_succ]
  refine wpAnyH_take (i := 17) (oi := ({ dst := some 80, op := Op.move (Operand.tmp 4), type := 9, pos := "laws.go:532", after := #[{ on := 11, ground := Ground.guard }], guard := some (11, false) } : Oper)) (v := undef) rfl (by kernel_rfl) (by kernel_rfl) (by kernel_rfl) (fun _ _ _ h => h) (Or.inr ⟨by rfl, rfl⟩) (by assumption) ?_
  simp only [Act.put, List.setIfInBounds_toArray, List.set_cons_zero, List.set_cons_succ]
  refine wpAnyH_take (i := 18) (oi := ({ dst := some 81, op := Op.call { callee := Callee.value (Operand.func 24), args := #[Operand.tmp 79, Operand.tmp 80], argTypes := #[41, 9] }, type := 3, pos := "laws.go:532", after := #[{ on := 16, ground := Ground.data }, { on := 17, ground := Ground.data }, { on := 11, ground := Ground.chain }, { on := 11, ground := Ground.guard }], guard := some (11, false) } : Oper)) (v := undef) rfl (by kernel_rfl) (by kernel_rfl) (by kernel_rfl) (fun _ _ _ h => h) (Or.inr ⟨by rfl, rfl⟩) (by assumption) ?_
  simp only [Act.put, List.setIfInBounds_toArray, List.set_cons_zero, List.set_cons_succ]
  refine wpAnyH_take (i := 19) (oi := ({ dst := some 82, op := Op.indexAddr 39 (Operand.tmp 78) (Operand.tmp 81), type := 0, pos := "laws.go:532", after := #[{ on := 15, ground := Ground.data }, { on := 18, ground := Ground.data }, { on := 11, ground := Ground.guard }], guard := some (11, false) } : Oper)) (v := undef) rfl (by kernel_rfl) (by kernel_rfl) (by kernel_rfl) (fun _ _ _ h => h) (Or.inr ⟨by rfl, rfl⟩) (by assumption) ?_
  simp only [Act.put, List.setIfInBounds_toArray, List.set_cons_zero, List.set_cons_succ]
  refine wpAnyH_take (i := 20) (oi := ({ dst := some 83, op := Op.fieldAddr 60 (Operand.tmp 82) 1, type := 0, pos := "laws.go:532", after := #[{ on := 19, ground := Ground.data }, { on := 11, ground := Ground.guard }], guard := some (11, false) } : Oper)) (v := undef) rfl (by kernel_rfl) (by kernel_rfl) (by kernel_rfl) (fun _ _ _ h => h) (Or.inr ⟨by rfl, rfl⟩) (by assumption) ?_
  simp only [Act.put, List.setIfInBounds_toArray, List.set_cons_zero, List.set_cons_succ]
  refine wpAnyH_take (i := 21) (oi := ({ dst := some 84, op := Op.load 3 (Operand.tmp 83), type := 3, pos := "laws.go:532", after := #[{ on := 20, ground := Ground.data }, { on := 11, ground := Ground.guard }], guard := some (11, false) } : Oper)) (v := undef) rfl (by kernel_rfl) (by kernel_rfl) (by kernel_rfl) (fun _ _ _ h => h) (Or.inr ⟨by rfl, rfl⟩) (by assumption) ?_
  simp only [Act.put, List.setIfInBounds_toArray, List.set_cons_zero, List.set_cons_succ]
  refine wpAnyH_take (i := 22) (oi := ({ dst := some 85, op := Op.binOp BinOp.neq 3 (Operand.tmp 76) (Operand.tmp 84) 3, type := 4, pos := "laws.go:532", after := #[{ on := 13, ground := Ground.data }, { on := 21, ground := Ground.data }, { on := 11, ground := Ground.guard }], guard := some (11, false) } : Oper)) (v := undef) rfl (by kernel_rfl) (by kernel_rfl) (by kernel_rfl) (fun _ _ _ h => h) (Or.inr ⟨by rfl, rfl⟩) (by assumption) ?_
  simp only [Act.put, List.setIfInBounds_toArray, List.set_cons_zero, List.set_cons_succ]
  refine wpAnyH_take (i := 23) (oi := ({ dst := some 86, op := Op.pick (Operand.tmp 74) (Operand.const (Value.bool true)) (Operand.tmp 85), type := 4, pos := "laws.go:532", after := #[{ on := 11, ground := Ground.data }, { on := 22, ground := Ground.data }, { on := 1, ground := Ground.guard }], guard := some (1, true) } : Oper)) (v := undef) rfl (by kernel_rfl) (by kernel_rfl) (by kernel_rfl) (fun _ _ _ h => h) (Or.inr ⟨by rfl, rfl⟩) (by assumption) ?_
  simp only [Act.put, List.setIfInBounds_toArray, List.set_cons_zero, List.set_cons_succ]
  refine wpAnyH_take (i := 24) (oi := ({ dst := some 87, op := Op.move (Operand.tmp 86), type := 4, pos := "laws.go:532", after := #[{ on := 23, ground := Ground.data }, { on := 18, ground := Ground.chain }, { on := 1, ground := Ground.guard }], guard := some (1, true) } : Oper)) (v := undef) rfl (by kernel_rfl) (by kernel_rfl) (by kernel_rfl) (fun _ _ _ h => h) (Or.inr ⟨by rfl, rfl⟩) (by assumption) ?_
  simp only [Act.put, List.setIfInBounds_toArray, List.set_cons_zero, List.set_cons_succ]
  refine wpAnyH_take (i := 25) (oi := ({ dst := some 88, op := Op.fieldAddr 35 (Operand.tmp 5) 0, type := 0, pos := "laws.go:532", after := #[{ on := 24, ground := Ground.guard }], guard := some (24, false) } : Oper)) (v := undef) rfl (by kernel_rfl) (by kernel_rfl) (by kernel_rfl) (fun _ _ _ h => h) (Or.inr ⟨by rfl, rfl⟩) (by assumption) ?_
  simp only [Act.put, List.setIfInBounds_toArray, List.set_cons_zero, List.set_cons_succ]
  refine wpAnyH_take (i := 26) (oi := ({ dst := some 89, op := Op.fieldAddr 33 (Operand.tmp 88) 0, type := 0, pos := "laws.go:532", after := #[{ on := 25, ground := Ground.data }, { on := 24, ground := Ground.guard }], guard := some (24, false) } : Oper)) (v := undef) rfl (by kernel_rfl) (by kernel_rfl) (by kernel_rfl) (fun _ _ _ h => h) (Or.inr ⟨by rfl, rfl⟩) (by assumption) ?_
  simp only [Act.put, List.setIfInBounds_toArray, List.set_cons_zero, List.set_cons_succ]
  refine wpAnyH_take (i := 27) (oi := ({ dst := some 90, op := Op.load 31 (Operand.tmp 89), type := 31, pos := "laws.go:532", after := #[{ on := 26, ground := Ground.data }, { on := 24, ground := Ground.guard }], guard := some (24, false) } : Oper)) (v := undef) rfl (by kernel_rfl) (by kernel_rfl) (by kernel_rfl) (fun _ _ _ h => h) (Or.inr ⟨by rfl, rfl⟩) (by assumption) ?_
  simp only [Act.put, List.setIfInBounds_toArray, List.set_cons_zero, List.set_cons_succ]
  refine wpAnyH_take (i := 28) (oi := ({ dst := some 91, op := Op.fieldAddr 35 (Operand.tmp 5) 2, type := 0, pos := "laws.go:532", after := #[{ on := 24, ground := Ground.guard }], guard := some (24, false) } : Oper)) (v := undef) rfl (by kernel_rfl) (by kernel_rfl) (by kernel_rfl) (fun _ _ _ h => h) (Or.inr ⟨by rfl, rfl⟩) (by assumption) ?_
  simp only [Act.put, List.setIfInBounds_toArray, List.set_cons_zero, List.set_cons_succ]
  refine wpAnyH_take (i := 29) (oi := ({ dst := some 92, op := Op.load 3 (Operand.tmp 91), type := 3, pos := "laws.go:532", after := #[{ on := 28, ground := Ground.data }, { on := 24, ground := Ground.guard }], guard := some (24, false) } : Oper)) (v := undef) rfl (by kernel_rfl) (by kernel_rfl) (by kernel_rfl) (fun _ _ _ h => h) (Or.inr ⟨by rfl, rfl⟩) (by assumption) ?_
  simp only [Act.put, List.setIfInBounds_toArray, List.set_cons_zero, List.set_cons_succ]
  refine wpAnyH_take (i := 30) (oi := ({ dst := some 93, op := Op.indexAddr 31 (Operand.tmp 90) (Operand.tmp 92), type := 0, pos := "laws.go:532", after := #[{ on := 27, ground := Ground.data }, { on := 29, ground := Ground.data }, { on := 24, ground := Ground.guard }], guard := some (24, false) } : Oper)) (v := undef) rfl (by kernel_rfl) (by kernel_rfl) (by kernel_rfl) (fun _ _ _ h => h) (Or.inr ⟨by rfl, rfl⟩) (by assumption) ?_
  simp only [Act.put, List.setIfInBounds_toArray, List.set_cons_zero, List.set_cons_succ]
  refine wpAnyH_take (i := 31) (oi := ({ dst := some 94, op := Op.fieldAddr 63 (Operand.tmp 93) 0, type := 0, pos := "laws.go:532", after := #[{ on := 30, ground := Ground.data }, { on := 24, ground := Ground.guard }], guard := some (24, false) } : Oper)) (v := undef) rfl (by kernel_rfl) (by kernel_rfl) (by kernel_rfl) (fun _ _ _ h => h) (Or.inr ⟨by rfl, rfl⟩) (by assumption) ?_
  simp only [Act.put, List.setIfInBounds_toArray, List.set_cons_zero, List.set_cons_succ]
  refine wpAnyH_take (i := 32) (oi := ({ dst := some 95, op := Op.load 3 (Operand.tmp 94), type := 3, pos := "laws.go:532", after := #[{ on := 31, ground := Ground.data }, { on := 24, ground := Ground.guard }], guard := some (24, false) } : Oper)) (v := undef) rfl (by kernel_rfl) (by kernel_rfl) (by kernel_rfl) (fun _ _ _ h => h) (Or.inr ⟨by rfl, rfl⟩) (by assumption) ?_
  simp only [Act.put, List.setIfInBounds_toArray, List.set_cons_zero, List.set_cons_succ]
  refine wpAnyH_take (i := 33) (oi := ({ dst := some 96, op := Op.binOp BinOp.neq 3 (Operand.tmp 95) (Operand.const (Value.int IntKind.i64 1)) 3, type := 4, pos := "laws.go:532", after := #[{ on := 32, ground := Ground.data }, { on := 24, ground := Ground.guard }], guard := some (24, false) } : Oper)) (v := undef) rfl (by kernel_rfl) (by kernel_rfl) (by kernel_rfl) (fun _ _ _ h => h) (Or.inr ⟨by rfl, rfl⟩) (by assumption) ?_
  simp only [Act.put, List.setIfInBounds_toArray, List.set_cons_zero, List.set_cons_succ]
  refine wpAnyH_take (i := 34) (oi := ({ dst := some 97, op := Op.pick (Operand.tmp 87) (Operand.const (Value.bool true)) (Operand.tmp 96), type := 4, pos := "laws.go:532", after := #[{ on := 24, ground := Ground.data }, { on := 33, ground := Ground.data }, { on := 1, ground := Ground.guard }], guard := some (1, true) } : Oper)) (v := undef) rfl (by kernel_rfl) (by kernel_rfl) (by kernel_rfl) (fun _ _ _ h => h) (Or.inr ⟨by rfl, rfl⟩) (by assumption) ?_
  simp only [Act.put, List.setIfInBounds_toArray, List.set_cons_zero, List.set_cons_succ]
  refine wpAnyH_take (i := 35) (oi := ({ dst := some 98, op := Op.move (Operand.tmp 97), type := 4, pos := "laws.go:532", after := #[{ on := 34, ground := Ground.data }, { on := 24, ground := Ground.chain }, { on := 1, ground := Ground.guard }], guard := some (1, true) } : Oper)) (v := undef) rfl (by kernel_rfl) (by kernel_rfl) (by kernel_rfl) (fun _ _ _ h => h) (Or.inr ⟨by rfl, rfl⟩) (by assumption) ?_
  simp only [Act.put, List.setIfInBounds_toArray, List.set_cons_zero, List.set_cons_succ]
  refine wpAnyH_take (i := 36) (oi := ({ dst := some 99, op := Op.fieldAddr 35 (Operand.tmp 5) 0, type := 0, pos := "laws.go:532", after := #[{ on := 35, ground := Ground.guard }], guard := some (35, false) } : Oper)) (v := undef) rfl (by kernel_rfl) (by kernel_rfl) (by kernel_rfl) (fun _ _ _ h => h) (Or.inr ⟨by rfl, rfl⟩) (by assumption) ?_
  simp only [Act.put, List.setIfInBounds_toArray, List.set_cons_zero, List.set_cons_succ]
  refine wpAnyH_take (i := 37) (oi := ({ dst := some 100, op := Op.fieldAddr 33 (Operand.tmp 99) 0, type := 0, pos := "laws.go:532", after := #[{ on := 36, ground := Ground.data }, { on := 35, ground := Ground.guard }], guard := some (35, false) } : Oper)) (v := undef) rfl (by kernel_rfl) (by kernel_rfl) (by kernel_rfl) (fun _ _ _ h => h) (Or.inr ⟨by rfl, rfl⟩) (by assumption) ?_
  simp only [Act.put, List.setIfInBounds_toArray, List.set_cons_zero, List.set_cons_succ]
  refine wpAnyH_take (i := 38) (oi := ({ dst := some 101, op := Op.load 31 (Operand.tmp 100), type := 31, pos := "laws.go:532", after := #[{ on := 37, ground := Ground.data }, { on := 35, ground := Ground.guard }], guard := some (35, false) } : Oper)) (v := undef) rfl (by kernel_rfl) (by kernel_rfl) (by kernel_rfl) (fun _ _ _ h => h) (Or.inr ⟨by rfl, rfl⟩) (by assumption) ?_
  simp only [Act.put, List.setIfInBounds_toArray, List.set_cons_zero, List.set_cons_succ]
  refine wpAnyH_take (i := 39) (oi := ({ dst := some 102, op := Op.fieldAddr 35 (Operand.tmp 5) 4, type := 0, pos := "laws.go:532", after := #[{ on := 35, ground := Ground.guard }], guard := some (35, false) } : Oper)) (v := undef) rfl (by kernel_rfl) (by kernel_rfl) (by kernel_rfl) (fun _ _ _ h => h) (Or.inr ⟨by rfl, rfl⟩) (by assumption) ?_
  simp only [Act.put, List.setIfInBounds_toArray, List.set_cons_zero, List.set_cons_succ]
  refine wpAnyH_take (i := 40) (oi := ({ dst := some 103, op := Op.load 3 (Operand.tmp 102), type := 3, pos := "laws.go:532", after := #[{ on := 39, ground := Ground.data }, { on := 35, ground := Ground.guard }], guard := some (35, false) } : Oper)) (v := undef) rfl (by kernel_rfl) (by kernel_rfl) (by kernel_rfl) (fun _ _ _ h => h) (Or.inr ⟨by rfl, rfl⟩) (by assumption) ?_
  simp only [Act.put, List.setIfInBounds_toArray, List.set_cons_zero, List.set_cons_succ]
  refine wpAnyH_take (i := 41) (oi := ({ dst := some 104, op := Op.indexAddr 31 (Operand.tmp 101) (Operand.tmp 103), type := 0, pos := "laws.go:532", after := #[{ on := 38, ground := Ground.data }, { on := 40, ground := Ground.data }, { on := 35, ground := Ground.guard }], guard := some (35, false) } : Oper)) (v := undef) rfl (by kernel_rfl) (by kernel_rfl) (by kernel_rfl) (fun _ _ _ h => h) (Or.inr ⟨by rfl, rfl⟩) (by assumption) ?_
  simp only [Act.put, List.setIfInBounds_toArray, List.set_cons_zero, List.set_cons_succ]
  refine wpAnyH_take (i := 42) (oi := ({ dst := some 105, op := Op.fieldAddr 63 (Operand.tmp 104) 0, type := 0, pos := "laws.go:532", after := #[{ on := 41, ground := Ground.data }, { on := 35, ground := Ground.guard }], guard := some (35, false) } : Oper)) (v := undef) rfl (by kernel_rfl) (by kernel_rfl) (by kernel_rfl) (fun _ _ _ h => h) (Or.inr ⟨by rfl, rfl⟩) (by assumption) ?_
  simp only [Act.put, List.setIfInBounds_toArray, List.set_cons_zero, List.set_cons_succ]
  refine wpAnyH_take (i := 43) (oi := ({ dst := some 106, op := Op.load 3 (Operand.tmp 105), type := 3, pos := "laws.go:532", after := #[{ on := 42, ground := Ground.data }, { on := 35, ground := Ground.guard }], guard := some (35, false) } : Oper)) (v := undef) rfl (by kernel_rfl) (by kernel_rfl) (by kernel_rfl) (fun _ _ _ h => h) (Or.inr ⟨by rfl, rfl⟩) (by assumption) ?_
  simp only [Act.put, List.setIfInBounds_toArray, List.set_cons_zero, List.set_cons_succ]
  refine wpAnyH_take (i := 44) (oi := ({ dst := some 107, op := Op.binOp BinOp.neq 3 (Operand.tmp 106) (Operand.const (Value.int IntKind.i64 1)) 3, type := 4, pos := "laws.go:532", after := #[{ on := 43, ground := Ground.data }, { on := 35, ground := Ground.guard }], guard := some (35, false) } : Oper)) (v := undef) rfl (by kernel_rfl) (by kernel_rfl) (by kernel_rfl) (fun _ _ _ h => h) (Or.inr ⟨by rfl, rfl⟩) (by assumption) ?_
  simp only [Act.put, List.setIfInBounds_toArray, List.set_cons_zero, List.set_cons_succ]
  refine wpAnyH_take (i := 45) (oi := ({ dst := some 108, op := Op.pick (Operand.tmp 98) (Operand.const (Value.bool true)) (Operand.tmp 107), type := 4, pos := "laws.go:532", after := #[{ on := 35, ground := Ground.data }, { on := 44, ground := Ground.data }, { on := 1, ground := Ground.guard }], guard := some (1, true) } : Oper)) (v := undef) rfl (by kernel_rfl) (by kernel_rfl) (by kernel_rfl) (fun _ _ _ h => h) (Or.inr ⟨by rfl, rfl⟩) (by assumption) ?_
  simp only [Act.put, List.setIfInBounds_toArray, List.set_cons_zero, List.set_cons_succ]
  refine wpAnyH_take (i := 46) (oi := ({ dst := some 109, op := Op.pick (Operand.tmp 64) (Operand.tmp 108) (Operand.const (Value.bool false)), type := 4, pos := "laws.go:532", after := #[{ on := 1, ground := Ground.data }, { on := 45, ground := Ground.data }], guard := none } : Oper)) (v := .bool false) rfl (by kernel_rfl) (by kernel_rfl) (by kernel_rfl) (fun _ _ _ h => h) (Or.inl ⟨by rfl, by intro w hSw; go_simp⟩) (by assumption) ?_
  simp only [Act.put, List.setIfInBounds_toArray, List.set_cons_zero, List.set_cons_succ]
  refine wpAnyH_done (by kernel_rfl) ?_ _
  exact NoPanic.normal <| hQ _ _ _ _ _ _ _ _ _ _ _ _ _ _ _ _ _ _ _ _ _ _ _ _ _ _ _ _ _ _ _ _ _ _ _ _ _ _ _ _ _ _ _ _ _ _ _ ⟨rfl, rfl, rfl, Nat.le_refl _, fun _ _ => rfl⟩
end Go.Proofs.Ytacbhbmjhlgflaa

/-
  The regions of the law FnBegun that draw their order, each alone. No condition.
-/
namespace Go.Proofs.Ytacbhbmjhlgflaa
open Go.RowKit

set_option maxRecDepth 100000 in
set_option maxHeartbeats 6400000 in
theorem beg_reg13 {t0 t1 t2 t3 t4 t5 t6 t7 t8 t14 t15 t16 t17 t18 t19 t20 t21 t22 t23 t24 t25 t26 t27 t28 t29 t30 t31 t32 t33 t34 t35 t36 t37 t38 t39 t40 t41 t42 t43 t44 t45 t46 t47 t48 t49 t50 t51 t52 t53 t54 t55 t56 t57 t58 t59 t60 t61 t62 t63 t64 t65 t66 t67 t68 t69 t70 t71 t72 t73 t74 t75 t76 t77 t78 t79 t80 t81 t82 t83 t84 t85 t86 t87 t88 t89 t90 t91 t92 t93 t94 t95 t96 t97 t98 t99 t100 t101 t102 t103 t104 t105 t106 t107 t108 t109 t110 t111 t112 t113 t114 t115 t116 t117 t118 t119 t120 t121 t122 t123 t124 t125 t126 t127 t128 t129 t130 t131 t132 t133 t134 t135 t136 t137 t138 t139 t140 t141 t142 t143 : Value} {fs : List Deferred} (bx bp bn gp op qp f qL : Nat) (m m1 : Int) (a1 a2 a3 aL : Option Addr) (q1 q2 q3 : Nat) (ns : List Nd) (is : List In) (ds : List Df) (xs L : List Nd) (x : Nd) (w : World) (Q : Exit → Act → World → Prop)
    (R1 : NRow w (.slice a1 ns.length q1) ns) (R2 : InRow w (.slice a2 is.length q2) is) (R3 : DfRow w (.slice a3 ds.length q3) ds) (RM : NRow w (.slice aL L.length qL) L)
    (HM : Hid (machB ns is ds L ⟨x.n / 8, m, m1, m, 0, 0, 0⟩ = true)) (hf : f < xs.length) (hn1 : 0 ≤ x.n) (hn2 : x.n ≤ 1000000000)
    (S : w.cell? ⟨bx, 0, none⟩ = some (.slice a1 ns.length q1) ∧ w.cell? ⟨bx, 1, none⟩ = some (.slice a2 is.length q2) ∧ w.cell? ⟨bx, 2, none⟩ = some (.slice a3 ds.length q3) ∧ w.cell? ⟨bn, 0, none⟩ = some (.slice aL L.length qL) ∧ w.cell? ⟨bn, 1, none⟩ = some (.int .i64 (x.n / 8)) ∧ w.cell? ⟨bn, 2, none⟩ = some (.int .i64 m) ∧ w.cell? ⟨bn, 3, none⟩ = some (.int .i64 m1) ∧ w.cell? ⟨bn, 4, none⟩ = some (.int .i64 m) ∧ w.cell? ⟨bn, 5, none⟩ = some (.int .i64 0) ∧ w.cell? ⟨bn, 6, none⟩ = some (.int .i64 0) ∧ w.cell? ⟨bn, 7, none⟩ = some (.int .i64 0) ∧ w.cell? ⟨bp, 0, none⟩ = some (.slice (some ⟨gp, op, none⟩) xs.length qp) ∧ w.cell? ⟨gp, op + f * 5 + 1, none⟩ = some (.int .i64 x.n)) (lx : bx < w.heap.size) (ln : bn < w.heap.size) (lp : bp < w.heap.size) (lg : gp < w.heap.size)
    (hQ : ∀ u110 u111 u112 u113 u114 u115 u116 u117 u118 u119 u120 u121 u122 u123 u124 u125 u126 u127 u128 u129 u130 u131 u132 u133 u134 u135 u136 u137 u138 u139 u140 u141 u142 u143 wx, Below w.heap.size w wx → Q .normal ⟨#[t0, t1, .bool true, t3, t4, t5, t6, t7, t8, .pointer (some ⟨bx, 0, none⟩), .pointer (some ⟨bp, 0, none⟩), .int .i64 f, .pointer (some ⟨bn, 0, none⟩), .bool true, t14, t15, t16, t17, t18, t19, t20, t21, t22, t23, t24, t25, t26, t27, t28, t29, t30, t31, t32, t33, t34, t35, t36, t37, t38, t39, t40, t41, t42, t43, t44, t45, t46, t47, t48, t49, t50, t51, t52, t53, t54, t55, t56, t57, t58, t59, t60, t61, t62, t63, t64, t65, t66, t67, t68, t69, t70, t71, t72, t73, t74, t75, t76, t77, t78, t79, t80, t81, t82, t83, t84, t85, t86, t87, t88, t89, t90, t91, t92, t93, t94, t95, t96, t97, t98, t99, t100, t101, t102, t103, t104, t105, t106, t107, t108, t109, u110, u111, u112, u113, u114, u115, u116, u117, u118, u119, u120, u121, u122, u123, u124, u125, u126, u127, u128, u129, u130, u131, u132, u133, u134, u135, u136, u137, u138, u139, u140, u141, u142, u143], fs⟩ wx) :
    (Code.region 13 (List.toArray (({ dst := some 110, op := Op.move (Operand.tmp 13), type := 4, pos := "laws.go:535", after := #[], guard := none } : Oper) :: ({ dst := some 111, op := Op.unOp UnOp.not 4 (Operand.tmp 110), type := 4, pos := "laws.go:535", after := #[{ on := 0, ground := Ground.data }], guard := none } : Oper) :: ({ dst := some 112, op := Op.move (Operand.tmp 111), type := 4, pos := "laws.go:535", after := #[{ on := 1, ground := Ground.data }], guard := none } : Oper) :: ({ dst := some 113, op := Op.fieldAddr 35 (Operand.tmp 12) 0, type := 0, pos := "laws.go:535", after := #[{ on := 2, ground := Ground.guard }], guard := some (2, true) } : Oper) :: ({ dst := some 114, op := Op.fieldAddr 33 (Operand.tmp 113) 0, type := 0, pos := "laws.go:535", after := #[{ on := 3, ground := Ground.data }, { on := 2, ground := Ground.guard }], guard := some (2, true) } : Oper) :: ({ dst := some 115, op := Op.load 31 (Operand.tmp 114), type := 31, pos := "laws.go:535", after := #[{ on := 4, ground := Ground.data }, { on := 2, ground := Ground.guard }], guard := some (2, true) } : Oper) :: ({ dst := some 116, op := Op.call { callee := Callee.builtin Builtin.len, args := #[Operand.tmp 115], argTypes := #[31] }, type := 3, pos := "laws.go:535", after := #[{ on := 5, ground := Ground.data }, { on := 2, ground := Ground.guard }], guard := some (2, true) } : Oper) :: ({ dst := some 117, op := Op.binOp BinOp.eql 3 (Operand.tmp 116) (Operand.const (Value.int IntKind.i64 0)) 3, type := 4, pos := "laws.go:535", after := #[{ on := 6, ground := Ground.data }, { on := 2, ground := Ground.guard }], guard := some (2, true) } : Oper) :: ({ dst := some 118, op := Op.pick (Operand.tmp 112) (Operand.tmp 117) (Operand.const (Value.bool false)), type := 4, pos := "laws.go:535", after := #[{ on := 2, ground := Ground.data }, { on := 7, ground := Ground.data }], guard := none } : Oper) :: ({ dst := some 119, op := Op.move (Operand.tmp 118), type := 4, pos := "laws.go:535", after := #[{ on := 8, ground := Ground.data }, { on := 2, ground := Ground.chain }], guard := none } : Oper) :: ({ dst := some 120, op := Op.move (Operand.tmp 13), type := 4, pos := "laws.go:535", after := #[{ on := 9, ground := Ground.guard }], guard := some (9, false) } : Oper) :: ({ dst := some 121, op := Op.move (Operand.tmp 120), type := 4, pos := "laws.go:535", after := #[{ on := 10, ground := Ground.data }, { on := 9, ground := Ground.chain }, { on := 9, ground := Ground.guard }], guard := some (9, false) } : Oper) :: ({ dst := some 122, op := Op.load 41 (Operand.tmp 9), type := 41, pos := "laws.go:535", after := #[{ on := 11, ground := Ground.guard }], guard := some (11, true) } : Oper) :: ({ dst := some 123, op := Op.load 35 (Operand.tmp 12), type := 35, pos := "laws.go:535", after := #[{ on := 11, ground := Ground.guard }], guard := some (11, true) } : Oper) :: ({ dst := some 124, op := Op.call { callee := Callee.value (Operand.func 23), args := #[Operand.tmp 122, Operand.tmp 123], argTypes := #[41, 35] }, type := 4, pos := "laws.go:535", after := #[{ on := 12, ground := Ground.data }, { on := 13, ground := Ground.data }, { on := 11, ground := Ground.chain }, { on := 11, ground := Ground.guard }], guard := some (11, true) } : Oper) :: ({ dst := some 125, op := Op.pick (Operand.tmp 121) (Operand.tmp 124) (Operand.const (Value.bool false)), type := 4, pos := "laws.go:535", after := #[{ on := 11, ground := Ground.data }, { on := 14, ground := Ground.data }, { on := 9, ground := Ground.guard }], guard := some (9, false) } : Oper) :: ({ dst := some 126, op := Op.move (Operand.tmp 125), type := 4, pos := "laws.go:535", after := #[{ on := 15, ground := Ground.data }, { on := 14, ground := Ground.chain }, { on := 9, ground := Ground.guard }], guard := some (9, false) } : Oper) :: ({ dst := some 127, op := Op.fieldAddr 35 (Operand.tmp 12) 5, type := 0, pos := "laws.go:535", after := #[{ on := 16, ground := Ground.guard }], guard := some (16, true) } : Oper) :: ({ dst := some 128, op := Op.load 3 (Operand.tmp 127), type := 3, pos := "laws.go:535", after := #[{ on := 17, ground := Ground.data }, { on := 16, ground := Ground.guard }], guard := some (16, true) } : Oper) :: ({ dst := some 129, op := Op.binOp BinOp.eql 3 (Operand.tmp 128) (Operand.const (Value.int IntKind.i64 0)) 3, type := 4, pos := "laws.go:535", after := #[{ on := 18, ground := Ground.data }, { on := 16, ground := Ground.guard }], guard := some (16, true) } : Oper) :: ({ dst := some 130, op := Op.pick (Operand.tmp 126) (Operand.tmp 129) (Operand.const (Value.bool false)), type := 4, pos := "laws.go:535", after := #[{ on := 16, ground := Ground.data }, { on := 19, ground := Ground.data }, { on := 9, ground := Ground.guard }], guard := some (9, false) } : Oper) :: ({ dst := some 131, op := Op.move (Operand.tmp 130), type := 4, pos := "laws.go:535", after := #[{ on := 20, ground := Ground.data }, { on := 16, ground := Ground.chain }, { on := 9, ground := Ground.guard }], guard := some (9, false) } : Oper) :: ({ dst := some 132, op := Op.fieldAddr 35 (Operand.tmp 12) 1, type := 0, pos := "laws.go:535", after := #[{ on := 21, ground := Ground.guard }], guard := some (21, true) } : Oper) :: ({ dst := some 133, op := Op.load 3 (Operand.tmp 132), type := 3, pos := "laws.go:535", after := #[{ on := 22, ground := Ground.data }, { on := 21, ground := Ground.guard }], guard := some (21, true) } : Oper) :: ({ dst := some 134, op := Op.fieldAddr 33 (Operand.tmp 10) 0, type := 0, pos := "laws.go:535", after := #[{ on := 21, ground := Ground.guard }], guard := some (21, true) } : Oper) :: ({ dst := some 135, op := Op.load 31 (Operand.tmp 134), type := 31, pos := "laws.go:535", after := #[{ on := 24, ground := Ground.data }, { on := 21, ground := Ground.guard }], guard := some (21, true) } : Oper) :: ({ dst := some 136, op := Op.move (Operand.tmp 11), type := 3, pos := "laws.go:535", after := #[{ on := 21, ground := Ground.guard }], guard := some (21, true) } : Oper) :: ({ dst := some 137, op := Op.indexAddr 31 (Operand.tmp 135) (Operand.tmp 136), type := 0, pos := "laws.go:535", after := #[{ on := 25, ground := Ground.data }, { on := 26, ground := Ground.data }, { on := 21, ground := Ground.guard }], guard := some (21, true) } : Oper) :: ({ dst := some 138, op := Op.fieldAddr 63 (Operand.tmp 137) 1, type := 0, pos := "laws.go:535", after := #[{ on := 27, ground := Ground.data }, { on := 21, ground := Ground.guard }], guard := some (21, true) } : Oper) :: ({ dst := some 139, op := Op.load 3 (Operand.tmp 138), type := 3, pos := "laws.go:535", after := #[{ on := 28, ground := Ground.data }, { on := 21, ground := Ground.guard }], guard := some (21, true) } : Oper) :: ({ dst := some 140, op := Op.binOp BinOp.quo 3 (Operand.tmp 139) (Operand.const (Value.int IntKind.i64 8)) 3, type := 3, pos := "laws.go:535", after := #[{ on := 29, ground := Ground.data }, { on := 21, ground := Ground.guard }], guard := some (21, true) } : Oper) :: ({ dst := some 141, op := Op.binOp BinOp.eql 3 (Operand.tmp 133) (Operand.tmp 140) 3, type := 4, pos := "laws.go:535", after := #[{ on := 23, ground := Ground.data }, { on := 30, ground := Ground.data }, { on := 21, ground := Ground.guard }], guard := some (21, true) } : Oper) :: ({ dst := some 142, op := Op.pick (Operand.tmp 131) (Operand.tmp 141) (Operand.const (Value.bool false)), type := 4, pos := "laws.go:535", after := #[{ on := 21, ground := Ground.data }, { on := 31, ground := Ground.data }, { on := 9, ground := Ground.guard }], guard := some (9, false) } : Oper) :: ({ dst := some 143, op := Op.pick (Operand.tmp 119) (Operand.const (Value.bool true)) (Operand.tmp 142), type := 4, pos := "laws.go:535", after := #[{ on := 9, ground := Ground.data }, { on := 32, ground := Ground.data }], guard := none } : Oper) :: ({ dst := some 2, op := Op.assign (Operand.tmp 143), type := 4, pos := "laws.go:535", after := #[{ on := 33, ground := Ground.data }, { on := 21, ground := Ground.chain }, { on := 0, ground := Ground.phase }, { on := 1, ground := Ground.phase }, { on := 2, ground := Ground.phase }, { on := 3, ground := Ground.phase }, { on := 4, ground := Ground.phase }, { on := 5, ground := Ground.phase }, { on := 6, ground := Ground.phase }, { on := 7, ground := Ground.phase }, { on := 8, ground := Ground.phase }, { on := 9, ground := Ground.phase }, { on := 10, ground := Ground.phase }, { on := 11, ground := Ground.phase }, { on := 12, ground := Ground.phase }, { on := 13, ground := Ground.phase }, { on := 14, ground := Ground.phase }, { on := 15, ground := Ground.phase }, { on := 16, ground := Ground.phase }, { on := 17, ground := Ground.phase }, { on := 18, ground := Ground.phase }, { on := 19, ground := Ground.phase }, { on := 20, ground := Ground.phase }, { on := 21, ground := Ground.phase }, { on := 22, ground := Ground.phase }, { on := 23, ground := Ground.phase }, { on := 24, ground := Ground.phase }, { on := 25, ground := Ground.phase }, { on := 26, ground := Ground.phase }, { on := 27, ground := Ground.phase }, { on := 28, ground := Ground.phase }, { on := 29, ground := Ground.phase }, { on := 30, ground := Ground.phase }, { on := 31, ground := Ground.phase }, { on := 32, ground := Ground.phase }, { on := 33, ground := Ground.phase }], guard := none } : Oper) :: [])) true).wp Try.prog Q ⟨#[t0, t1, t2, t3, t4, t5, t6, t7, t8, .pointer (some ⟨bx, 0, none⟩), .pointer (some ⟨bp, 0, none⟩), .int .i64 f, .pointer (some ⟨bn, 0, none⟩), .bool true, t14, t15, t16, t17, t18, t19, t20, t21, t22, t23, t24, t25, t26, t27, t28, t29, t30, t31, t32, t33, t34, t35, t36, t37, t38, t39, t40, t41, t42, t43, t44, t45, t46, t47, t48, t49, t50, t51, t52, t53, t54, t55, t56, t57, t58, t59, t60, t61, t62, t63, t64, t65, t66, t67, t68, t69, t70, t71, t72, t73, t74, t75, t76, t77, t78, t79, t80, t81, t82, t83, t84, t85, t86, t87, t88, t89, t90, t91, t92, t93, t94, t95, t96, t97, t98, t99, t100, t101, t102, t103, t104, t105, t106, t107, t108, t109, t110, t111, t112, t113, t114, t115, t116, t117, t118, t119, t120, t121, t122, t123, t124, t125, t126, t127, t128, t129, t130, t131, t132, t133, t134, t135, t136, t137, t138, t139, t140, t141, t142, t143], fs⟩ w := by
  have hS : ∀ w', Below w.heap.size w w' → (w'.cell? ⟨bx, 0, none⟩ = some (.slice a1 ns.length q1) ∧ w'.cell? ⟨bx, 1, none⟩ = some (.slice a2 is.length q2) ∧ w'.cell? ⟨bx, 2, none⟩ = some (.slice a3 ds.length q3) ∧ w'.cell? ⟨bn, 0, none⟩ = some (.slice aL L.length qL) ∧ w'.cell? ⟨bn, 1, none⟩ = some (.int .i64 (x.n / 8)) ∧ w'.cell? ⟨bn, 2, none⟩ = some (.int .i64 m) ∧ w'.cell? ⟨bn, 3, none⟩ = some (.int .i64 m1) ∧ w'.cell? ⟨bn, 4, none⟩ = some (.int .i64 m) ∧ w'.cell? ⟨bn, 5, none⟩ = some (.int .i64 0) ∧ w'.cell? ⟨bn, 6, none⟩ = some (.int .i64 0) ∧ w'.cell? ⟨bn, 7, none⟩ = some (.int .i64 0) ∧ w'.cell? ⟨bp, 0, none⟩ = some (.slice (some ⟨gp, op, none⟩) xs.length qp) ∧ w'.cell? ⟨gp, op + f * 5 + 1, none⟩ = some (.int .i64 x.n)) := fun w' hb => ⟨(hb.cell (p := ⟨bx, 0, none⟩) lx).trans S.1, (hb.cell (p := ⟨bx, 1, none⟩) lx).trans S.2.1, (hb.cell (p := ⟨bx, 2, none⟩) lx).trans S.2.2.1, (hb.cell (p := ⟨bn, 0, none⟩) ln).trans S.2.2.2.1, (hb.cell (p := ⟨bn, 1, none⟩) ln).trans S.2.2.2.2.1, (hb.cell (p := ⟨bn, 2, none⟩) ln).trans S.2.2.2.2.2.1, (hb.cell (p := ⟨bn, 3, none⟩) ln).trans S.2.2.2.2.2.2.1, (hb.cell (p := ⟨bn, 4, none⟩) ln).trans S.2.2.2.2.2.2.2.1, (hb.cell (p := ⟨bn, 5, none⟩) ln).trans S.2.2.2.2.2.2.2.2.1, (hb.cell (p := ⟨bn, 6, none⟩) ln).trans S.2.2.2.2.2.2.2.2.2.1, (hb.cell (p := ⟨bn, 7, none⟩) ln).trans S.2.2.2.2.2.2.2.2.2.2.1, (hb.cell (p := ⟨bp, 0, none⟩) lp).trans S.2.2.2.2.2.2.2.2.2.2.2.1, (hb.cell (p := ⟨gp, op + f * 5 + 1, none⟩) lg).trans S.2.2.2.2.2.2.2.2.2.2.2.2⟩
  have hf' : (f : Int) < xs.length := by omega
  have hdiv : IntKind.i64.wrap (x.n.tdiv 8) = x.n / 8 := by rw [Int.tdiv_eq_ediv_of_nonneg hn1, IntKind.wrap_i64]; omega
  refine wp_region_noPanic ?_
  refine wp_region_held_drew (S := fun w' => w'.cell? ⟨bx, 0, none⟩ = some (.slice a1 ns.length q1) ∧ w'.cell? ⟨bx, 1, none⟩ = some (.slice a2 is.length q2) ∧ w'.cell? ⟨bx, 2, none⟩ = some (.slice a3 ds.length q3) ∧ w'.cell? ⟨bn, 0, none⟩ = some (.slice aL L.length qL) ∧ w'.cell? ⟨bn, 1, none⟩ = some (.int .i64 (x.n / 8)) ∧ w'.cell? ⟨bn, 2, none⟩ = some (.int .i64 m) ∧ w'.cell? ⟨bn, 3, none⟩ = some (.int .i64 m1) ∧ w'.cell? ⟨bn, 4, none⟩ = some (.int .i64 m) ∧ w'.cell? ⟨bn, 5, none⟩ = some (.int .i64 0) ∧ w'.cell? ⟨bn, 6, none⟩ = some (.int .i64 0) ∧ w'.cell? ⟨bn, 7, none⟩ = some (.int .i64 0) ∧ w'.cell? ⟨bp, 0, none⟩ = some (.slice (some ⟨gp, op, none⟩) xs.length qp) ∧ w'.cell? ⟨gp, op + f * 5 + 1, none⟩ = some (.int .i64 x.n)) (by kernel_rfl) S (fun hHeld => ?_)
  refine wpAnyH_take (i := 0) (oi := ({ dst := some 110, op := Op.move (Operand.tmp 13), type := 4, pos := "laws.go:535", after := #[], guard := none } : Oper)) (v := .bool true) rfl (by kernel_rfl) (by kernel_rfl) (by kernel_rfl) (fun _ _ _ h => h) (Or.inl ⟨by rfl, by intro w hSw; (try dsimp only at hSw); go_simp⟩) (by assumption) ?_
  simp only [Act.put, List.setIfInBounds_toArray, List.set_cons_zero, List.set_cons_succ]
  refine wpAnyH_take (i := 1) (oi := ({ dst := some 111, op := Op.unOp UnOp.not 4 (Operand.tmp 110), type := 4, pos := "laws.go:535", after := #[{ on := 0, ground := Ground.data }], guard := none } : Oper)) (v := .bool false) rfl (by kernel_rfl) (by kernel_rfl) (by kernel_rfl) (fun _ _ _ h => h) (Or.inl ⟨by rfl, by intro w hSw; (try dsimp only at hSw); go_simp⟩) (by assumption) ?_
  simp only [Act.put, List.setIfInBounds_toArray, List.set_cons_zero, List.set_cons_succ]
  refine wpAnyH_take (i := 2) (oi := ({ dst := some 112, op := Op.move (Operand.tmp 111), type := 4, pos := "laws.go:535", after := #[{ on := 1, ground := Ground.data }], guard := none } : Oper)) (v := .bool false) rfl (by kernel_rfl) (by kernel_rfl) (by kernel_rfl) (fun _ _ _ h => h) (Or.inl ⟨by rfl, by intro w hSw; (try dsimp only at hSw); go_simp⟩) (by assumption) ?_
  simp only [Act.put, List.setIfInBounds_toArray, List.set_cons_zero, List.set_cons_succ]
  refine wpAnyH_take (i := 3) (oi := ({ dst := some 113, op := Op.fieldAddr 35 (Operand.tmp 12) 0, type := 0, pos := "laws.go:535", after := #[{ on := 2, ground := Ground.guard }], guard := some (2, true) } : Oper)) (v := undef) rfl (by kernel_rfl) (by kernel_rfl) (by kernel_rfl) (fun _ _ _ h => h) (Or.inr ⟨by rfl, rfl⟩) (by assumption) ?_
  simp only [Act.put, List.setIfInBounds_toArray, List.set_cons_zero, List.set_cons_succ]
  refine wpAnyH_take (i := 4) (oi := ({ dst := some 114, op := Op.fieldAddr 33 (Operand.tmp 113) 0, type := 0, pos := "laws.go:535", after := #[{ on := 3, ground := Ground.data }, { on := 2, ground := Ground.guard }], guard := some (2, true) } : Oper)) (v := undef) rfl (by kernel_rfl) (by kernel_rfl) (by kernel_rfl) (fun _ _ _ h => h) (Or.inr ⟨by rfl, rfl⟩) (by assumption) ?_
  simp only [Act.put, List.setIfInBounds_toArray, List.set_cons_zero, List.set_cons_succ]
  refine wpAnyH_take (i := 5) (oi := ({ dst := some 115, op := Op.load 31 (Operand.tmp 114), type := 31, pos := "laws.go:535", after := #[{ on := 4, ground := Ground.data }, { on := 2, ground := Ground.guard }], guard := some (2, true) } : Oper)) (v := undef) rfl (by kernel_rfl) (by kernel_rfl) (by kernel_rfl) (fun _ _ _ h => h) (Or.inr ⟨by rfl, rfl⟩) (by assumption) ?_
  simp only [Act.put, List.setIfInBounds_toArray, List.set_cons_zero, List.set_cons_succ]
  refine wpAnyH_take (i := 6) (oi := ({ dst := some 116, op := Op.call { callee := Callee.builtin Builtin.len, args := #[Operand.tmp 115], argTypes := #[31] }, type := 3, pos := "laws.go:535", after := #[{ on := 5, ground := Ground.data }, { on := 2, ground := Ground.guard }], guard := some (2, true) } : Oper)) (v := undef) rfl (by kernel_rfl) (by kernel_rfl) (by kernel_rfl) (fun _ _ _ h => h) (Or.inr ⟨by rfl, rfl⟩) (by assumption) ?_
  simp only [Act.put, List.setIfInBounds_toArray, List.set_cons_zero, List.set_cons_succ]
  refine wpAnyH_take (i := 7) (oi := ({ dst := some 117, op := Op.binOp BinOp.eql 3 (Operand.tmp 116) (Operand.const (Value.int IntKind.i64 0)) 3, type := 4, pos := "laws.go:535", after := #[{ on := 6, ground := Ground.data }, { on := 2, ground := Ground.guard }], guard := some (2, true) } : Oper)) (v := undef) rfl (by kernel_rfl) (by kernel_rfl) (by kernel_rfl) (fun _ _ _ h => h) (Or.inr ⟨by rfl, rfl⟩) (by assumption) ?_
  simp only [Act.put, List.setIfInBounds_toArray, List.set_cons_zero, List.set_cons_succ]
  refine wpAnyH_take (i := 8) (oi := ({ dst := some 118, op := Op.pick (Operand.tmp 112) (Operand.tmp 117) (Operand.const (Value.bool false)), type := 4, pos := "laws.go:535", after := #[{ on := 2, ground := Ground.data }, { on := 7, ground := Ground.data }], guard := none } : Oper)) (v := .bool false) rfl (by kernel_rfl) (by kernel_rfl) (by kernel_rfl) (fun _ _ _ h => h) (Or.inl ⟨by rfl, by intro w hSw; (try dsimp only at hSw); go_simp⟩) (by assumption) ?_
  simp only [Act.put, List.setIfInBounds_toArray, List.set_cons_zero, List.set_cons_succ]
  refine wpAnyH_take (i := 9) (oi := ({ dst := some 119, op := Op.move (Operand.tmp 118), type := 4, pos := "laws.go:535", after := #[{ on := 8, ground := Ground.data }, { on := 2, ground := Ground.chain }], guard := none } : Oper)) (v := .bool false) rfl (by kernel_rfl) (by kernel_rfl) (by kernel_rfl) (fun _ _ _ h => h) (Or.inl ⟨by rfl, by intro w hSw; (try dsimp only at hSw); go_simp⟩) (by assumption) ?_
  simp only [Act.put, List.setIfInBounds_toArray, List.set_cons_zero, List.set_cons_succ]
  refine wpAnyH_take (i := 10) (oi := ({ dst := some 120, op := Op.move (Operand.tmp 13), type := 4, pos := "laws.go:535", after := #[{ on := 9, ground := Ground.guard }], guard := some (9, false) } : Oper)) (v := .bool true) rfl (by kernel_rfl) (by kernel_rfl) (by kernel_rfl) (fun _ _ _ h => h) (Or.inl ⟨by rfl, by intro w hSw; (try dsimp only at hSw); go_simp⟩) (by assumption) ?_
  simp only [Act.put, List.setIfInBounds_toArray, List.set_cons_zero, List.set_cons_succ]
  refine wpAnyH_take (i := 11) (oi := ({ dst := some 121, op := Op.move (Operand.tmp 120), type := 4, pos := "laws.go:535", after := #[{ on := 10, ground := Ground.data }, { on := 9, ground := Ground.chain }, { on := 9, ground := Ground.guard }], guard := some (9, false) } : Oper)) (v := .bool true) rfl (by kernel_rfl) (by kernel_rfl) (by kernel_rfl) (fun _ _ _ h => h) (Or.inl ⟨by rfl, by intro w hSw; (try dsimp only at hSw); go_simp⟩) (by assumption) ?_
  simp only [Act.put, List.setIfInBounds_toArray, List.set_cons_zero, List.set_cons_succ]
  refine wpAnyH_take (i := 12) (oi := ({ dst := some 122, op := Op.load 41 (Operand.tmp 9), type := 41, pos := "laws.go:535", after := #[{ on := 11, ground := Ground.guard }], guard := some (11, true) } : Oper)) (v := .agg #[.slice a1 ns.length q1, .slice a2 is.length q2, .slice a3 ds.length q3]) rfl (by kernel_rfl) (by kernel_rfl) (by kernel_rfl) (fun _ _ _ h => h) (Or.inl ⟨by rfl, by intro w hSw; (try dsimp only at hSw); go_simp⟩) (by assumption) ?_
  simp only [Act.put, List.setIfInBounds_toArray, List.set_cons_zero, List.set_cons_succ]
  refine wpAnyH_take (i := 13) (oi := ({ dst := some 123, op := Op.load 35 (Operand.tmp 12), type := 35, pos := "laws.go:535", after := #[{ on := 11, ground := Ground.guard }], guard := some (11, true) } : Oper)) (v := .agg #[.slice aL L.length qL, .int .i64 (x.n / 8), .int .i64 m, .int .i64 m1, .int .i64 m, .int .i64 0, .int .i64 0, .int .i64 0]) rfl (by kernel_rfl) (by kernel_rfl) (by kernel_rfl) (fun _ _ _ h => h) (Or.inl ⟨by rfl, by intro w hSw; (try dsimp only at hSw); go_simp⟩) (by assumption) ?_
  simp only [Act.put, List.setIfInBounds_toArray, List.set_cons_zero, List.set_cons_succ]
  refine wpAnyH_ready (rs := [14]) (by kernel_rfl) (by simp) ?_
  refine AllReadyH.cons rfl (fun K hK => ?_) AllReadyH.nil
  go_simp
  go_wp2_with (go_at_call 23; with_reducible refine (imachok_any _ _ _ _ ns is ds L ⟨x.n / 8, m, m1, m, 0, 0, 0⟩ _ (nrow_dr R1) (inrow_dr R2) (dfrow_dr R3) (nrow_dr RM)).mono ?_; rintro e wA ⟨rfl, hbA⟩; rw [HM.out])
  have tA : Below w.heap.size w wA := step_dr hbA
  have sA := hS _ tA
  refine hK.out _ _ sA (fun hHeld2 => ?_)
  clear hK
  refine wpAnyH_take (i := 15) (oi := ({ dst := some 125, op := Op.pick (Operand.tmp 121) (Operand.tmp 124) (Operand.const (Value.bool false)), type := 4, pos := "laws.go:535", after := #[{ on := 11, ground := Ground.data }, { on := 14, ground := Ground.data }, { on := 9, ground := Ground.guard }], guard := some (9, false) } : Oper)) (v := .bool true) rfl (by kernel_rfl) (by kernel_rfl) (by kernel_rfl) (fun _ _ _ h => h) (Or.inl ⟨by rfl, by intro w hSw; (try dsimp only at hSw); go_simp⟩) (by assumption) ?_
  simp only [Act.put, List.setIfInBounds_toArray, List.set_cons_zero, List.set_cons_succ]
  refine wpAnyH_take (i := 16) (oi := ({ dst := some 126, op := Op.move (Operand.tmp 125), type := 4, pos := "laws.go:535", after := #[{ on := 15, ground := Ground.data }, { on := 14, ground := Ground.chain }, { on := 9, ground := Ground.guard }], guard := some (9, false) } : Oper)) (v := .bool true) rfl (by kernel_rfl) (by kernel_rfl) (by kernel_rfl) (fun _ _ _ h => h) (Or.inl ⟨by rfl, by intro w hSw; (try dsimp only at hSw); go_simp⟩) (by assumption) ?_
  simp only [Act.put, List.setIfInBounds_toArray, List.set_cons_zero, List.set_cons_succ]
  refine wpAnyH_take (i := 17) (oi := ({ dst := some 127, op := Op.fieldAddr 35 (Operand.tmp 12) 5, type := 0, pos := "laws.go:535", after := #[{ on := 16, ground := Ground.guard }], guard := some (16, true) } : Oper)) (v := .pointer (some ⟨bn, 5, none⟩)) rfl (by kernel_rfl) (by kernel_rfl) (by kernel_rfl) (fun _ _ _ h => h) (Or.inl ⟨by rfl, by intro w hSw; (try dsimp only at hSw); go_simp⟩) (by assumption) ?_
  simp only [Act.put, List.setIfInBounds_toArray, List.set_cons_zero, List.set_cons_succ]
  refine wpAnyH_take (i := 18) (oi := ({ dst := some 128, op := Op.load 3 (Operand.tmp 127), type := 3, pos := "laws.go:535", after := #[{ on := 17, ground := Ground.data }, { on := 16, ground := Ground.guard }], guard := some (16, true) } : Oper)) (v := .int .i64 0) rfl (by kernel_rfl) (by kernel_rfl) (by kernel_rfl) (fun _ _ _ h => h) (Or.inl ⟨by rfl, by intro w hSw; (try dsimp only at hSw); go_simp⟩) (by assumption) ?_
  simp only [Act.put, List.setIfInBounds_toArray, List.set_cons_zero, List.set_cons_succ]
  refine wpAnyH_take (i := 19) (oi := ({ dst := some 129, op := Op.binOp BinOp.eql 3 (Operand.tmp 128) (Operand.const (Value.int IntKind.i64 0)) 3, type := 4, pos := "laws.go:535", after := #[{ on := 18, ground := Ground.data }, { on := 16, ground := Ground.guard }], guard := some (16, true) } : Oper)) (v := .bool true) rfl (by kernel_rfl) (by kernel_rfl) (by kernel_rfl) (fun _ _ _ h => h) (Or.inl ⟨by rfl, by intro w hSw; (try dsimp only at hSw); go_simp⟩) (by assumption) ?_
  simp only [Act.put, List.setIfInBounds_toArray, List.set_cons_zero, List.set_cons_succ]
  refine wpAnyH_take (i := 20) (oi := ({ dst := some 130, op := Op.pick (Operand.tmp 126) (Operand.tmp 129) (Operand.const (Value.bool false)), type := 4, pos := "laws.go:535", after := #[{ on := 16, ground := Ground.data }, { on := 19, ground := Ground.data }, { on := 9, ground := Ground.guard }], guard := some (9, false) } : Oper)) (v := .bool true) rfl (by kernel_rfl) (by kernel_rfl) (by kernel_rfl) (fun _ _ _ h => h) (Or.inl ⟨by rfl, by intro w hSw; (try dsimp only at hSw); go_simp⟩) (by assumption) ?_
  simp only [Act.put, List.setIfInBounds_toArray, List.set_cons_zero, List.set_cons_succ]
  refine wpAnyH_take (i := 21) (oi := ({ dst := some 131, op := Op.move (Operand.tmp 130), type := 4, pos := "laws.go:535", after := #[{ on := 20, ground := Ground.data }, { on := 16, ground := Ground.chain }, { on := 9, ground := Ground.guard }], guard := some (9, false) } : Oper)) (v := .bool true) rfl (by kernel_rfl) (by kernel_rfl) (by kernel_rfl) (fun _ _ _ h => h) (Or.inl ⟨by rfl, by intro w hSw; (try dsimp only at hSw); go_simp⟩) (by assumption) ?_
  simp only [Act.put, List.setIfInBounds_toArray, List.set_cons_zero, List.set_cons_succ]
  refine wpAnyH_take (i := 22) (oi := ({ dst := some 132, op := Op.fieldAddr 35 (Operand.tmp 12) 1, type := 0, pos := "laws.go:535", after := #[{ on := 21, ground := Ground.guard }], guard := some (21, true) } : Oper)) (v := .pointer (some ⟨bn, 1, none⟩)) rfl (by kernel_rfl) (by kernel_rfl) (by kernel_rfl) (fun _ _ _ h => h) (Or.inl ⟨by rfl, by intro w hSw; (try dsimp only at hSw); go_simp⟩) (by assumption) ?_
  simp only [Act.put, List.setIfInBounds_toArray, List.set_cons_zero, List.set_cons_succ]
  refine wpAnyH_take (i := 23) (oi := ({ dst := some 133, op := Op.load 3 (Operand.tmp 132), type := 3, pos := "laws.go:535", after := #[{ on := 22, ground := Ground.data }, { on := 21, ground := Ground.guard }], guard := some (21, true) } : Oper)) (v := .int .i64 (x.n / 8)) rfl (by kernel_rfl) (by kernel_rfl) (by kernel_rfl) (fun _ _ _ h => h) (Or.inl ⟨by rfl, by intro w hSw; (try dsimp only at hSw); go_simp⟩) (by assumption) ?_
  simp only [Act.put, List.setIfInBounds_toArray, List.set_cons_zero, List.set_cons_succ]
  refine wpAnyH_take (i := 24) (oi := ({ dst := some 134, op := Op.fieldAddr 33 (Operand.tmp 10) 0, type := 0, pos := "laws.go:535", after := #[{ on := 21, ground := Ground.guard }], guard := some (21, true) } : Oper)) (v := .pointer (some ⟨bp, 0, none⟩)) rfl (by kernel_rfl) (by kernel_rfl) (by kernel_rfl) (fun _ _ _ h => h) (Or.inl ⟨by rfl, by intro w hSw; (try dsimp only at hSw); go_simp⟩) (by assumption) ?_
  simp only [Act.put, List.setIfInBounds_toArray, List.set_cons_zero, List.set_cons_succ]
  refine wpAnyH_take (i := 25) (oi := ({ dst := some 135, op := Op.load 31 (Operand.tmp 134), type := 31, pos := "laws.go:535", after := #[{ on := 24, ground := Ground.data }, { on := 21, ground := Ground.guard }], guard := some (21, true) } : Oper)) (v := .slice (some ⟨gp, op, none⟩) xs.length qp) rfl (by kernel_rfl) (by kernel_rfl) (by kernel_rfl) (fun _ _ _ h => h) (Or.inl ⟨by rfl, by intro w hSw; (try dsimp only at hSw); go_simp⟩) (by assumption) ?_
  simp only [Act.put, List.setIfInBounds_toArray, List.set_cons_zero, List.set_cons_succ]
  refine wpAnyH_take (i := 26) (oi := ({ dst := some 136, op := Op.move (Operand.tmp 11), type := 3, pos := "laws.go:535", after := #[{ on := 21, ground := Ground.guard }], guard := some (21, true) } : Oper)) (v := .int .i64 f) rfl (by kernel_rfl) (by kernel_rfl) (by kernel_rfl) (fun _ _ _ h => h) (Or.inl ⟨by rfl, by intro w hSw; (try dsimp only at hSw); go_simp⟩) (by assumption) ?_
  simp only [Act.put, List.setIfInBounds_toArray, List.set_cons_zero, List.set_cons_succ]
  refine wpAnyH_take (i := 27) (oi := ({ dst := some 137, op := Op.indexAddr 31 (Operand.tmp 135) (Operand.tmp 136), type := 0, pos := "laws.go:535", after := #[{ on := 25, ground := Ground.data }, { on := 26, ground := Ground.data }, { on := 21, ground := Ground.guard }], guard := some (21, true) } : Oper)) (v := .pointer (some ⟨gp, op + f * 5, none⟩)) rfl (by kernel_rfl) (by kernel_rfl) (by kernel_rfl) (fun _ _ _ h => h) (Or.inl ⟨by rfl, by intro w hSw; (try dsimp only at hSw); go_simp⟩) (by assumption) ?_
  simp only [Act.put, List.setIfInBounds_toArray, List.set_cons_zero, List.set_cons_succ]
  refine wpAnyH_take (i := 28) (oi := ({ dst := some 138, op := Op.fieldAddr 63 (Operand.tmp 137) 1, type := 0, pos := "laws.go:535", after := #[{ on := 27, ground := Ground.data }, { on := 21, ground := Ground.guard }], guard := some (21, true) } : Oper)) (v := .pointer (some ⟨gp, op + f * 5 + 1, none⟩)) rfl (by kernel_rfl) (by kernel_rfl) (by kernel_rfl) (fun _ _ _ h => h) (Or.inl ⟨by rfl, by intro w hSw; (try dsimp only at hSw); go_simp⟩) (by assumption) ?_
  simp only [Act.put, List.setIfInBounds_toArray, List.set_cons_zero, List.set_cons_succ]
  refine wpAnyH_take (i := 29) (oi := ({ dst := some 139, op := Op.load 3 (Operand.tmp 138), type := 3, pos := "laws.go:535", after := #[{ on := 28, ground := Ground.data }, { on := 21, ground := Ground.guard }], guard := some (21, true) } : Oper)) (v := .int .i64 x.n) rfl (by kernel_rfl) (by kernel_rfl) (by kernel_rfl) (fun _ _ _ h => h) (Or.inl ⟨by rfl, by intro w hSw; (try dsimp only at hSw); go_simp⟩) (by assumption) ?_
  simp only [Act.put, List.setIfInBounds_toArray, List.set_cons_zero, List.set_cons_succ]
  refine wpAnyH_take (i := 30) (oi := ({ dst := some 140, op := Op.binOp BinOp.quo 3 (Operand.tmp 139) (Operand.const (Value.int IntKind.i64 8)) 3, type := 3, pos := "laws.go:535", after := #[{ on := 29, ground := Ground.data }, { on := 21, ground := Ground.guard }], guard := some (21, true) } : Oper)) (v := .int .i64 (x.n / 8)) rfl (by kernel_rfl) (by kernel_rfl) (by kernel_rfl) (fun _ _ _ h => h) (Or.inl ⟨by rfl, by intro w hSw; (try dsimp only at hSw); go_simp <;> exact hdiv⟩) (by assumption) ?_
  simp only [Act.put, List.setIfInBounds_toArray, List.set_cons_zero, List.set_cons_succ]
  refine wpAnyH_take (i := 31) (oi := ({ dst := some 141, op := Op.binOp BinOp.eql 3 (Operand.tmp 133) (Operand.tmp 140) 3, type := 4, pos := "laws.go:535", after := #[{ on := 23, ground := Ground.data }, { on := 30, ground := Ground.data }, { on := 21, ground := Ground.guard }], guard := some (21, true) } : Oper)) (v := .bool true) rfl (by kernel_rfl) (by kernel_rfl) (by kernel_rfl) (fun _ _ _ h => h) (Or.inl ⟨by rfl, by intro w hSw; (try dsimp only at hSw); go_simp⟩) (by assumption) ?_
  simp only [Act.put, List.setIfInBounds_toArray, List.set_cons_zero, List.set_cons_succ]
  refine wpAnyH_take (i := 32) (oi := ({ dst := some 142, op := Op.pick (Operand.tmp 131) (Operand.tmp 141) (Operand.const (Value.bool false)), type := 4, pos := "laws.go:535", after := #[{ on := 21, ground := Ground.data }, { on := 31, ground := Ground.data }, { on := 9, ground := Ground.guard }], guard := some (9, false) } : Oper)) (v := .bool true) rfl (by kernel_rfl) (by kernel_rfl) (by kernel_rfl) (fun _ _ _ h => h) (Or.inl ⟨by rfl, by intro w hSw; (try dsimp only at hSw); go_simp⟩) (by assumption) ?_
  simp only [Act.put, List.setIfInBounds_toArray, List.set_cons_zero, List.set_cons_succ]
  refine wpAnyH_take (i := 33) (oi := ({ dst := some 143, op := Op.pick (Operand.tmp 119) (Operand.const (Value.bool true)) (Operand.tmp 142), type := 4, pos := "laws.go:535", after := #[{ on := 9, ground := Ground.data }, { on := 32, ground := Ground.data }], guard := none } : Oper)) (v := .bool true) rfl (by kernel_rfl) (by kernel_rfl) (by kernel_rfl) (fun _ _ _ h => h) (Or.inl ⟨by rfl, by intro w hSw; (try dsimp only at hSw); go_simp⟩) (by assumption) ?_
  simp only [Act.put, List.setIfInBounds_toArray, List.set_cons_zero, List.set_cons_succ]
  refine wpAnyH_take (i := 34) (oi := ({ dst := some 2, op := Op.assign (Operand.tmp 143), type := 4, pos := "laws.go:535", after := #[{ on := 33, ground := Ground.data }, { on := 21, ground := Ground.chain }, { on := 0, ground := Ground.phase }, { on := 1, ground := Ground.phase }, { on := 2, ground := Ground.phase }, { on := 3, ground := Ground.phase }, { on := 4, ground := Ground.phase }, { on := 5, ground := Ground.phase }, { on := 6, ground := Ground.phase }, { on := 7, ground := Ground.phase }, { on := 8, ground := Ground.phase }, { on := 9, ground := Ground.phase }, { on := 10, ground := Ground.phase }, { on := 11, ground := Ground.phase }, { on := 12, ground := Ground.phase }, { on := 13, ground := Ground.phase }, { on := 14, ground := Ground.phase }, { on := 15, ground := Ground.phase }, { on := 16, ground := Ground.phase }, { on := 17, ground := Ground.phase }, { on := 18, ground := Ground.phase }, { on := 19, ground := Ground.phase }, { on := 20, ground := Ground.phase }, { on := 21, ground := Ground.phase }, { on := 22, ground := Ground.phase }, { on := 23, ground := Ground.phase }, { on := 24, ground := Ground.phase }, { on := 25, ground := Ground.phase }, { on := 26, ground := Ground.phase }, { on := 27, ground := Ground.phase }, { on := 28, ground := Ground.phase }, { on := 29, ground := Ground.phase }, { on := 30, ground := Ground.phase }, { on := 31, ground := Ground.phase }, { on := 32, ground := Ground.phase }, { on := 33, ground := Ground.phase }], guard := none } : Oper)) (v := .bool true) rfl (by kernel_rfl) (by kernel_rfl) (by kernel_rfl) (fun _ _ _ h => h) (Or.inl ⟨by rfl, by intro w hSw; (try dsimp only at hSw); go_simp⟩) (by assumption) ?_
  simp only [Act.put, List.setIfInBounds_toArray, List.set_cons_zero, List.set_cons_succ]
  refine wpAnyH_done (by kernel_rfl) ?_ _
  exact NoPanic.normal <| hQ _ _ _ _ _ _ _ _ _ _ _ _ _ _ _ _ _ _ _ _ _ _ _ _ _ _ _ _ _ _ _ _ _ _ _ tA
end Go.Proofs.Ytacbhbmjhlgflaa
