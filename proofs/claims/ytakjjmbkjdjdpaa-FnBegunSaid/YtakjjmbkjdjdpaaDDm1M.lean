/-
  Texts that stood by themselves, laid into one.
-/
import Derived.Test.YtakjjmbkjdjdpaaNameM
import Derived.Test.YtakjjmbkjdjdpaaDDnM
import Derived.Deep.RegionLaw
/-
  A machine but for its pool. No condition.
-/
namespace Go.Proofs.Ytakjjmbkjdjdpaa
open Go.RowKit

/-- A machine but for its pool: where it is, its stack, frames, what waits, its state, what it asks, and with what. -/
structure Mc where
  p : Int
  s : Int
  e : Int
  d : Int
  t : Int
  q : Int
  r : Int

theorem Try.sizeMach : (Try.prog.info? 34).map (·.size) = some 8 := by kernel_rfl

theorem two_boxes (w : World) (A B : Obj) : Below w.heap.size w ((w.alloc A).alloc B) ∧ ((w.alloc A).alloc B).heap[w.heap.size]? = some A ∧ ((w.alloc A).alloc B).heap[w.heap.size + 1]? = some B :=
  ⟨((Below.refl _ _).alloc (Nat.le_refl _) _).alloc (by simp) _, (heap_alloc_old _ _ (by simp)).trans (heap_alloc_new _ _), heap_alloc2_new _ _ _⟩

end Go.Proofs.Ytakjjmbkjdjdpaa

/-
  The contract of the draw spec.DrawMachineOf: some code, some pool, and a number. No condition.
-/
namespace Go.Proofs.Ytakjjmbkjdjdpaa
open Go.RowKit

theorem results_code_pool {P : Program} {fn : Func} {p p' u : Tmp} {ty ty' : TypeId} (h : fn.results = #[.cell p ty, .cell p' ty', .tmp u]) (tmps : Array Value) (w : World) (g g' : Nat) (t t' : TypeId) (cs cs' : Array Value) (fr fr' : Nat × Nat) (d d' : TypeDesc)
    (hp : tmps.getD p undef = .pointer (some ⟨g, 0, none⟩)) (hg : w.heap[g]? = some (.cells cs t fr)) (hp' : tmps.getD p' undef = .pointer (some ⟨g', 0, none⟩)) (hg' : w.heap[g']? = some (.cells cs' t' fr'))
    (hu : P.underlying ty = some d) (hd : (match d with | .struct _ | .array _ _ => true | _ => false) = true) (hi : (P.info? ty).map (·.size) = some cs.size)
    (hu' : P.underlying ty' = some d') (hd' : (match d' with | .struct _ | .array _ _ => true | _ => false) = true) (hi' : (P.info? ty').map (·.size) = some cs'.size) :
    (results fn tmps).run P w = .ok (.tuple #[.agg cs, .agg cs', tmps.getD u undef]) w := by
  have e : (results fn tmps).run P w = ((asAddr (tmps.getD p undef)).run P w).andThen fun a w₁ => ((loadVar ty a).run P w₁).andThen fun v w₂ => ((asAddr (tmps.getD p' undef)).run P w₂).andThen fun a' w₃ => ((loadVar ty' a').run P w₃).andThen fun v' w₄ => .ok (.tuple #[v, v', tmps.getD u undef]) w₄ := by
    simp only [results, h]
    simp [Sem.run_bind, Result.andThen]
  rw [e, hp, hp']
  simp [asAddr, run_loadVar_row w g t ty cs fr d hg hu hd hi, run_loadVar_row w g' t' ty' cs' fr' d' hg' hu' hd' hi']

theorem cell_dr (w : World) (a : Addr) : w.drew.cell? a = w.cell? a := rfl
theorem blk_dr {w : World} {b : Nat} {ob : Obj} (h : w.heap[b]? = some ob) : w.drew.heap[b]? = some ob := h
theorem own_dr {w : World} {B0 n k : Nat} {t : TypeId} {v : Value} {L : List Value} (h : w.ownsRow B0 t k v n L) : w.drew.ownsRow B0 t k v n L := h
theorem own3_dr {w : World} {B : Nat} {v1 v2 v3 : Value} {ns : List Nd} {is : List In} {ds : List Df} (h : Own3 w B v1 v2 v3 ns is ds) : Own3 w.drew B v1 v2 v3 ns is ds := ⟨own_dr h.1, own_dr h.2.1, own_dr h.2.2⟩
theorem own_low {w w' : World} {B0 B n k : Nat} {t : TypeId} {v : Value} {L : List Value} (h : w.ownsRow B0 t k v n L) (hb : Below B w w') (hk : ∀ j, v.ownBlock = some j → j < B) : w'.ownsRow B0 t k v n L := by
  obtain ⟨h1, h2⟩ := h
  rcases h2 with ⟨rfl, h0⟩ | ⟨g', cap, cur, rfl, hb', hg, r⟩
  · exact ⟨h1, Or.inl ⟨rfl, h0⟩⟩
  · exact ⟨h1, Or.inr ⟨g', cap, cur, rfl, hb', (hb.block g' (hk g' rfl)).trans hg, r⟩⟩
/-- What there is while a function's pool is drawn. -/
structure DY (w0 : World) (v : Value) (zs : List Int) (P b2 b6 b7 B Bp : Nat) (v1 v2 v3 vp : Value) (ns : List Nd) (is : List In) (ds : List Df) (xs : List Nd) (W : World) : Prop where
  res1 : W.heap[b2]? = some (.cells #[.slice none 0 0, .slice none 0 0, .slice none 0 0] 30 (0, 0))
  res2 : W.heap[b2 + 1]? = some (.cells #[.slice none 0 0] 26 (0, 0))
  box1 : W.heap[b6]? = some (.cells #[v1, v2, v3] 30 (0, 0))
  box2 : W.heap[b7]? = some (.cells #[vp] 26 (0, 0))
  own : Own3 W B v1 v2 v3 ns is ds
  low1 : ∀ j, v1.ownBlock = some j → j < Bp
  low2 : ∀ j, v2.ownBlock = some j → j < Bp
  low3 : ∀ j, v3.ownBlock = some j → j < Bp
  ownp : W.ownsRow Bp 45 5 vp xs.length (ncs xs)
  cur : Cur w0 v zs W P
  h2 : b2 + 1 < P
  hB : P < B
  h6 : B ≤ b6
  hp : b6 < Bp
  h7 : Bp ≤ b7
theorem DY.turn {w0 W W' : World} {v v1 v2 v3 vp : Value} {zs : List Int} {P b2 b6 b7 B Bp : Nat} {ns : List Nd} {is : List In} {ds : List Df} {xs : List Nd} (h : DY w0 v zs P b2 b6 b7 B Bp v1 v2 v3 vp ns is ds xs W) (c : Cur w0 v zs W' P) (g : W.grownBy W' (some P)) : DY w0 v zs P b2 b6 b7 B Bp v1 v2 v3 vp ns is ds xs W' :=
  have q1 := h.h2
  have q2 := h.hB
  have q3 := h.h6
  have q4 := h.hp
  have q5 := h.h7
  ⟨(g.block _ (Array.getElem?_eq_some_iff.1 h.res1).1 (by simp; omega)).trans h.res1, (g.block _ (Array.getElem?_eq_some_iff.1 h.res2).1 (by simp; omega)).trans h.res2, (g.block _ (Array.getElem?_eq_some_iff.1 h.box1).1 (by simp; omega)).trans h.box1, (g.block _ (Array.getElem?_eq_some_iff.1 h.box2).1 (by simp; omega)).trans h.box2,
    ⟨h.own.1.kept g (own_not h.own.1 (by omega)), h.own.2.1.kept g (own_not h.own.2.1 (by omega)), h.own.2.2.kept g (own_not h.own.2.2 (by omega))⟩, h.low1, h.low2, h.low3, h.ownp.kept g (own_not h.ownp (by omega)), c, q1, q2, q3, q4, q5⟩
theorem DY.on {w0 W W' : World} {v v1 v2 v3 vp : Value} {zs : List Int} {P b2 b6 b7 B Bp : Nat} {ns : List Nd} {is : List In} {ds : List Df} {xs : List Nd} (h : DY w0 v zs P b2 b6 b7 B Bp v1 v2 v3 vp ns is ds xs W) (hb : Below W.heap.size W W') : DY w0 v zs P b2 b6 b7 B Bp v1 v2 v3 vp ns is ds xs W' :=
  ⟨(hb.block _ (Array.getElem?_eq_some_iff.1 h.res1).1).trans h.res1, (hb.block _ (Array.getElem?_eq_some_iff.1 h.res2).1).trans h.res2, (hb.block _ (Array.getElem?_eq_some_iff.1 h.box1).1).trans h.box1, (hb.block _ (Array.getElem?_eq_some_iff.1 h.box2).1).trans h.box2,
    h.own.below hb, h.low1, h.low2, h.low3, own_below h.ownp hb, h.cur.kept (hb.mono h.cur.lt), h.h2, h.hB, h.h6, h.hp, h.h7⟩
/-- The pool is turned, and nothing below it. -/
theorem DY.add {w0 W W' : World} {v v1 v2 v3 vp vp' : Value} {zs : List Int} {P b2 b6 b7 B Bp : Nat} {ns : List Nd} {is : List In} {ds : List Df} {xs ys : List Nd} (h : DY w0 v zs P b2 b6 b7 B Bp v1 v2 v3 vp ns is ds xs W) (hb : Below Bp W W') (hx : W'.heap[b7]? = some (.cells #[vp'] 26 (0, 0))) (ho : W'.ownsRow Bp 45 5 vp' ys.length (ncs ys)) : DY w0 v zs P b2 b6 b7 B Bp v1 v2 v3 vp' ns is ds ys W' :=
  have q1 := h.h2
  have q2 := h.hB
  have q3 := h.h6
  have q4 := h.hp
  have q5 := h.h7
  ⟨(hb.block _ (by omega)).trans h.res1, (hb.block _ (by omega)).trans h.res2, (hb.block _ (by omega)).trans h.box1, hx, ⟨own_low h.own.1 hb h.low1, own_low h.own.2.1 hb h.low2, own_low h.own.2.2 hb h.low3⟩, h.low1, h.low2, h.low3, ho, h.cur.kept (hb.mono (by omega)), q1, q2, q3, q4, q5⟩

theorem DY.fin (w0 : World) (v : Value) (zs : List Int) (P b2 b6 b7 B Bp : Nat) (a1 a2 a3 ap : Option Addr) (q1 q2 q3 qp : Nat) (ns : List Nd) (is : List In) (ds : List Df) (xs : List Nd) (W : World) (D : DY w0 v zs P b2 b6 b7 B Bp (.slice a1 ns.length q1) (.slice a2 is.length q2) (.slice a3 ds.length q3) (.slice ap xs.length qp) ns is ds xs W) :
    let W' := (((W.setCell ⟨b2, 0, none⟩ (.slice a1 ns.length q1)).setCell ⟨b2, 1, none⟩ (.slice a2 is.length q2)).setCell ⟨b2, 2, none⟩ (.slice a3 ds.length q3)).setCell ⟨b2 + 1, 0, none⟩ (.slice ap xs.length qp)
    W'.heap[b2]? = some (.cells #[.slice a1 ns.length q1, .slice a2 is.length q2, .slice a3 ds.length q3] 30 (0, 0)) ∧ W'.heap[b2 + 1]? = some (.cells #[.slice ap xs.length qp] 26 (0, 0)) ∧ Own3 W' B (.slice a1 ns.length q1) (.slice a2 is.length q2) (.slice a3 ds.length q3) ns is ds ∧ W'.ownsRow Bp 45 5 (.slice ap xs.length qp) xs.length (ncs xs) ∧ Below b2 W W' := by
  have w1 := D.h2
  have w2 := D.hB
  have w3 := D.h6
  have w4 := D.hp
  have hB : Below b2 W ((((W.setCell ⟨b2, 0, none⟩ (.slice a1 ns.length q1)).setCell ⟨b2, 1, none⟩ (.slice a2 is.length q2)).setCell ⟨b2, 2, none⟩ (.slice a3 ds.length q3)).setCell ⟨b2 + 1, 0, none⟩ (.slice ap xs.length qp)) := ((((Below.refl _ _).setCell (p := ⟨b2, 0, none⟩) (Nat.le_refl _) _).setCell (p := ⟨b2, 1, none⟩) (Nat.le_refl _) _).setCell (p := ⟨b2, 2, none⟩) (Nat.le_refl _) _).setCell (p := ⟨b2 + 1, 0, none⟩) (by simp) _
  have hW3 := store3 D.res1 (.slice a1 ns.length q1) (.slice a2 is.length q2) (.slice a3 ds.length q3)
  have hr2 : (((W.setCell ⟨b2, 0, none⟩ (.slice a1 ns.length q1)).setCell ⟨b2, 1, none⟩ (.slice a2 is.length q2)).setCell ⟨b2, 2, none⟩ (.slice a3 ds.length q3)).heap[b2 + 1]? = some (.cells #[.slice none 0 0] 26 (0, 0)) :=
    (heap_setCell_other _ ⟨b2, 2, none⟩ _ _ (by simp)).trans ((heap_setCell_other _ ⟨b2, 1, none⟩ _ _ (by simp)).trans ((heap_setCell_other _ ⟨b2, 0, none⟩ _ _ (by simp)).trans D.res2))
  have far : ∀ (u : Value) (t : TypeId) (k n B' : Nat) (L : List Value), W.ownsRow B' t k u n L → P < B' → ((((W.setCell ⟨b2, 0, none⟩ (.slice a1 ns.length q1)).setCell ⟨b2, 1, none⟩ (.slice a2 is.length q2)).setCell ⟨b2, 2, none⟩ (.slice a3 ds.length q3)).setCell ⟨b2 + 1, 0, none⟩ (.slice ap xs.length qp)).ownsRow B' t k u n L := fun u t k n B' L h hb =>
    ownsRow_setCell_below (ownsRow_setCell_below (ownsRow_setCell_below (ownsRow_setCell_below h (a := ⟨b2, 0, none⟩) (by simp; omega) _) (a := ⟨b2, 1, none⟩) (by simp; omega) _) (a := ⟨b2, 2, none⟩) (by simp; omega) _) (a := ⟨b2 + 1, 0, none⟩) (by simp; omega) _
  exact ⟨(heap_setCell_other _ ⟨b2 + 1, 0, none⟩ _ _ (by simp)).trans hW3, heap_setCell_same _ (b2 + 1) 0 _ _ _ hr2, ⟨far _ _ _ _ _ _ D.own.1 w2, far _ _ _ _ _ _ D.own.2.1 w2, far _ _ _ _ _ _ D.own.2.2 w2⟩, far _ _ _ _ _ _ D.ownp (by omega), hB⟩

set_option maxRecDepth 100000 in
set_option maxHeartbeats 3200000 in
theorem ddm_reg6 {t0 t1 t4 t9 t10 t11 t12 t13 t14 t15 t16 t17 t18 t19 t20 t21 t22 t23 t24 t25 t26 t27 t28 t29 t30 t31 t32 t33 t34 t35 t36 t37 t38 t39 t40 t41 t42 t43 t44 t45 t46 t47 t48 t49 t50 t51 t52 t53 t54 t55 : Value} {fs : List Deferred} (w0 : World) (v : Value) (zs : List Int) (P b2 b6 b7 B Bp : Nat) (a1 a2 a3 ap : Option Addr) (q1 q2 q3 qp : Nat) (ns : List Nd) (is : List In) (ds : List Df) (xs : List Nd) (W : World) (Q : Exit → Act → World → Prop) (f : Int) (D : DY w0 v zs P b2 b6 b7 B Bp (.slice a1 ns.length q1) (.slice a2 is.length q2) (.slice a3 ds.length q3) (.slice ap xs.length qp) ns is ds xs W)
    (hQ : ∀ u48 u49 u50 wx, wx.heap[b2]? = some (.cells #[.slice a1 ns.length q1, .slice a2 is.length q2, .slice a3 ds.length q3] 30 (0, 0)) → wx.heap[b2 + 1]? = some (.cells #[.slice ap xs.length qp] 26 (0, 0)) → Own3 wx B (.slice a1 ns.length q1) (.slice a2 is.length q2) (.slice a3 ds.length q3) ns is ds → wx.ownsRow Bp 45 5 (.slice ap xs.length qp) xs.length (ncs xs) → Below b2 W wx → Q .normal ⟨#[t0, t1, .pointer (some ⟨b2, 0, none⟩), .pointer (some ⟨(b2 + 1), 0, none⟩), .int .i64 f, .pointer (some ⟨P, 0, none⟩), .pointer (some ⟨b6, 0, none⟩), .pointer (some ⟨b7, 0, none⟩), .int .i64 f, t9, t10, t11, t12, t13, t14, t15, t16, t17, t18, t19, t20, t21, t22, t23, t24, t25, t26, t27, t28, t29, t30, t31, t32, t33, t34, t35, t36, t37, t38, t39, t40, t41, t42, t43, t44, t45, t46, t47, u48, u49, u50, t51, t52, t53, t54, t55], fs⟩ wx) :
    (Code.region 6 #[{ dst := some 48, op := Op.load 30 (Operand.tmp 6), type := 30, pos := "l06_machine.go:383", after := #[], guard := none }, { dst := some 49, op := Op.load 26 (Operand.tmp 7), type := 26, pos := "l06_machine.go:383", after := #[{ on := 3, ground := Ground.gcOnly Departure.lateStores }], guard := none }, { dst := some 50, op := Op.move (Operand.tmp 8), type := 3, pos := "l06_machine.go:383", after := #[{ on := 4, ground := Ground.gcOnly Departure.lateStores }], guard := none }, { dst := none, op := Op.store 30 (Operand.tmp 2) (Operand.tmp 48), type := 0, pos := "l06_machine.go:383", after := #[{ on := 0, ground := Ground.data }, { on := 0, ground := Ground.phase }, { on := 1, ground := Ground.textOnly Departure.lateStores }, { on := 2, ground := Ground.textOnly Departure.lateStores }], guard := none }, { dst := none, op := Op.store 26 (Operand.tmp 3) (Operand.tmp 49), type := 0, pos := "l06_machine.go:383", after := #[{ on := 1, ground := Ground.data }, { on := 3, ground := Ground.chain }, { on := 0, ground := Ground.phase }, { on := 1, ground := Ground.phase }, { on := 2, ground := Ground.textOnly Departure.lateStores }, { on := 3, ground := Ground.phase }], guard := none }, { dst := some 4, op := Op.assign (Operand.tmp 50), type := 3, pos := "l06_machine.go:383", after := #[{ on := 2, ground := Ground.data }, { on := 4, ground := Ground.chain }, { on := 0, ground := Ground.phase }, { on := 1, ground := Ground.phase }, { on := 2, ground := Ground.phase }, { on := 3, ground := Ground.phase }, { on := 4, ground := Ground.phase }], guard := none }] true).wp Try.prog Q ⟨#[t0, t1, .pointer (some ⟨b2, 0, none⟩), .pointer (some ⟨(b2 + 1), 0, none⟩), t4, .pointer (some ⟨P, 0, none⟩), .pointer (some ⟨b6, 0, none⟩), .pointer (some ⟨b7, 0, none⟩), .int .i64 f, t9, t10, t11, t12, t13, t14, t15, t16, t17, t18, t19, t20, t21, t22, t23, t24, t25, t26, t27, t28, t29, t30, t31, t32, t33, t34, t35, t36, t37, t38, t39, t40, t41, t42, t43, t44, t45, t46, t47, t48, t49, t50, t51, t52, t53, t54, t55], fs⟩ W := by
  have hq1 := D.h2
  have hq2 := D.hB
  have hq3 := D.h6
  have hq4 := D.hp
  have hq5 := D.h7
  have n62 : b6 ≠ b2 := by omega
  have n72 : b7 ≠ b2 := by omega
  have n63 : b6 ≠ b2 + 1 := by omega
  have n73 : b7 ≠ b2 + 1 := by omega
  have sS : W.cell? ⟨b6, 0, none⟩ = some (.slice a1 ns.length q1) ∧ W.cell? ⟨b6, 1, none⟩ = some (.slice a2 is.length q2) ∧ W.cell? ⟨b6, 2, none⟩ = some (.slice a3 ds.length q3) ∧ W.cell? ⟨b7, 0, none⟩ = some (.slice ap xs.length qp) := ⟨cell_of_row _ _ 0 _ _ _ D.box1, cell_of_row _ _ 1 _ _ _ D.box1, cell_of_row _ _ 2 _ _ _ D.box1, cell_of_row _ _ 0 _ _ _ D.box2⟩
  obtain ⟨r0, r1, r2, z0, z1, z2⟩ := cells3 D.res1
  have rp : W.cell? ⟨b2 + 1, 0, none⟩ = some (.slice none 0 0) := cell_of_row _ _ 0 _ _ _ D.res2
  have zp : W.frozen? ⟨b2 + 1, 0, none⟩ = false := frozen_of_row _ _ 0 _ _ D.res2
  go_region_held3 (fun w' => w'.cell? ⟨b6, 0, none⟩ = some (.slice a1 ns.length q1) ∧ w'.cell? ⟨b6, 1, none⟩ = some (.slice a2 is.length q2) ∧ w'.cell? ⟨b6, 2, none⟩ = some (.slice a3 ds.length q3) ∧ w'.cell? ⟨b7, 0, none⟩ = some (.slice ap xs.length qp)) (first | ((try simp only [cell_dr]); first | (with_reducible exact sS) | (with_reducible exact ⟨far1 (far1 (far1 sS.1 n62) n62) n62, far1 (far1 (far1 sS.2.1 n62) n62) n62, far1 (far1 (far1 sS.2.2.1 n62) n62) n62, far1 (far1 (far1 sS.2.2.2 n72) n72) n72⟩) | (with_reducible exact ⟨far1 (far1 (far1 (far1 sS.1 n62) n62) n62) n63, far1 (far1 (far1 (far1 sS.2.1 n62) n62) n62) n63, far1 (far1 (far1 (far1 sS.2.2.1 n62) n62) n62) n63, far1 (far1 (far1 (far1 sS.2.2.2 n72) n72) n72) n73⟩)) | go_keep) (fail)
  all_goals
    obtain ⟨p1, p2, p3, p4, p5⟩ := D.fin
    first
      | exact hQ _ _ _ _ (blk_dr p1) (blk_dr p2) (own3_dr p3) (own_dr p4) p5.drew
      | exact hQ _ _ _ _ p1 p2 p3 p4 p5

set_option maxRecDepth 100000 in
set_option maxHeartbeats 3200000 in
theorem ddm_reg7 {t0 t1 t4 t8 t9 t10 t11 t12 t13 t14 t15 t16 t17 t18 t19 t20 t21 t22 t23 t24 t25 t26 t27 t28 t29 t30 t31 t32 t33 t34 t35 t36 t37 t38 t39 t40 t41 t42 t43 t44 t45 t46 t47 t48 t49 t50 t51 t52 t53 t54 t55 : Value} {fs : List Deferred} (w0 : World) (v : Value) (zs : List Int) (P b2 b6 b7 B Bp : Nat) (a1 a2 a3 ap : Option Addr) (q1 q2 q3 qp : Nat) (ns : List Nd) (is : List In) (ds : List Df) (xs : List Nd) (W : World) (Q : Exit → Act → World → Prop) (D : DY w0 v zs P b2 b6 b7 B Bp (.slice a1 ns.length q1) (.slice a2 is.length q2) (.slice a3 ds.length q3) (.slice ap xs.length qp) ns is ds xs W) (hl : xs.length ≤ 3001)
    (hQ : ∀ u51 u52 u53 u54 u55 f wx, wx.heap[b2]? = some (.cells #[.slice a1 ns.length q1, .slice a2 is.length q2, .slice a3 ds.length q3] 30 (0, 0)) → wx.heap[b2 + 1]? = some (.cells #[.slice ap xs.length qp] 26 (0, 0)) → Own3 wx B (.slice a1 ns.length q1) (.slice a2 is.length q2) (.slice a3 ds.length q3) ns is ds → wx.ownsRow Bp 45 5 (.slice ap xs.length qp) xs.length (ncs xs) → Below b2 W wx → Q .normal ⟨#[t0, t1, .pointer (some ⟨b2, 0, none⟩), .pointer (some ⟨(b2 + 1), 0, none⟩), .int .i64 f, .pointer (some ⟨P, 0, none⟩), .pointer (some ⟨b6, 0, none⟩), .pointer (some ⟨b7, 0, none⟩), t8, t9, t10, t11, t12, t13, t14, t15, t16, t17, t18, t19, t20, t21, t22, t23, t24, t25, t26, t27, t28, t29, t30, t31, t32, t33, t34, t35, t36, t37, t38, t39, t40, t41, t42, t43, t44, t45, t46, t47, t48, t49, t50, u51, u52, u53, u54, u55], fs⟩ wx) :
    (Code.region 7 #[{ dst := some 51, op := Op.load 30 (Operand.tmp 6), type := 30, pos := "l06_machine.go:385", after := #[], guard := none }, { dst := some 52, op := Op.load 26 (Operand.tmp 7), type := 26, pos := "l06_machine.go:385", after := #[{ on := 5, ground := Ground.gcOnly Departure.lateStores }], guard := none }, { dst := some 53, op := Op.move (Operand.tmp 5), type := 46, pos := "l06_machine.go:385", after := #[], guard := none }, { dst := some 54, op := Op.load 26 (Operand.tmp 7), type := 26, pos := "l06_machine.go:385", after := #[], guard := none }, { dst := some 55, op := Op.call { callee := Callee.value (Operand.func 25), args := #[Operand.tmp 53, Operand.tmp 54], argTypes := #[46, 26] }, type := 3, pos := "l06_machine.go:385", after := #[{ on := 2, ground := Ground.data }, { on := 3, ground := Ground.data }], guard := none }, { dst := none, op := Op.store 30 (Operand.tmp 2) (Operand.tmp 51), type := 0, pos := "l06_machine.go:385", after := #[{ on := 0, ground := Ground.data }, { on := 4, ground := Ground.chain }, { on := 0, ground := Ground.phase }, { on := 1, ground := Ground.textOnly Departure.lateStores }, { on := 2, ground := Ground.textOnly Departure.lateStores }, { on := 3, ground := Ground.textOnly Departure.lateStores }, { on := 4, ground := Ground.textOnly Departure.lateStoresUnsure }], guard := none }, { dst := none, op := Op.store 26 (Operand.tmp 3) (Operand.tmp 52), type := 0, pos := "l06_machine.go:385", after := #[{ on := 1, ground := Ground.data }, { on := 5, ground := Ground.chain }, { on := 0, ground := Ground.phase }, { on := 1, ground := Ground.phase }, { on := 2, ground := Ground.textOnly Departure.lateStores }, { on := 3, ground := Ground.textOnly Departure.lateStores }, { on := 4, ground := Ground.textOnly Departure.lateStoresUnsure }, { on := 5, ground := Ground.phase }], guard := none }, { dst := some 4, op := Op.assign (Operand.tmp 55), type := 3, pos := "l06_machine.go:385", after := #[{ on := 4, ground := Ground.data }, { on := 6, ground := Ground.chain }, { on := 0, ground := Ground.phase }, { on := 1, ground := Ground.phase }, { on := 2, ground := Ground.phase }, { on := 3, ground := Ground.phase }, { on := 4, ground := Ground.phase }, { on := 5, ground := Ground.phase }, { on := 6, ground := Ground.phase }], guard := none }] true).wp Try.prog Q ⟨#[t0, t1, .pointer (some ⟨b2, 0, none⟩), .pointer (some ⟨(b2 + 1), 0, none⟩), t4, .pointer (some ⟨P, 0, none⟩), .pointer (some ⟨b6, 0, none⟩), .pointer (some ⟨b7, 0, none⟩), t8, t9, t10, t11, t12, t13, t14, t15, t16, t17, t18, t19, t20, t21, t22, t23, t24, t25, t26, t27, t28, t29, t30, t31, t32, t33, t34, t35, t36, t37, t38, t39, t40, t41, t42, t43, t44, t45, t46, t47, t48, t49, t50, t51, t52, t53, t54, t55], fs⟩ W := by
  have hq1 := D.h2
  have hq2 := D.hB
  have hq3 := D.h6
  have hq4 := D.hp
  have hq5 := D.h7
  have n62 : b6 ≠ b2 := by omega
  have n72 : b7 ≠ b2 := by omega
  have n63 : b6 ≠ b2 + 1 := by omega
  have n73 : b7 ≠ b2 + 1 := by omega
  have s0 : W.cell? ⟨b6, 0, none⟩ = some (.slice a1 ns.length q1) ∧ W.cell? ⟨b6, 1, none⟩ = some (.slice a2 is.length q2) ∧ W.cell? ⟨b6, 2, none⟩ = some (.slice a3 ds.length q3) ∧ W.cell? ⟨b7, 0, none⟩ = some (.slice ap xs.length qp) := ⟨cell_of_row _ _ 0 _ _ _ D.box1, cell_of_row _ _ 1 _ _ _ D.box1, cell_of_row _ _ 2 _ _ _ D.box1, cell_of_row _ _ 0 _ _ _ D.box2⟩
  go_region_held3 (fun w' => w'.cell? ⟨b6, 0, none⟩ = some (.slice a1 ns.length q1) ∧ w'.cell? ⟨b6, 1, none⟩ = some (.slice a2 is.length q2) ∧ w'.cell? ⟨b6, 2, none⟩ = some (.slice a3 ds.length q3) ∧ w'.cell? ⟨b7, 0, none⟩ = some (.slice ap xs.length qp)) (first | (with_reducible exact sS) | (with_reducible exact ⟨far1 (far1 (far1 sS.1 n62) n62) n62, far1 (far1 (far1 sS.2.1 n62) n62) n62, far1 (far1 (far1 sS.2.2.1 n62) n62) n62, far1 (far1 (far1 sS.2.2.2 n72) n72) n72⟩) | (with_reducible exact ⟨far1 (far1 (far1 (far1 sS.1 n62) n62) n62) n63, far1 (far1 (far1 (far1 sS.2.1 n62) n62) n62) n63, far1 (far1 (far1 (far1 sS.2.2.1 n62) n62) n62) n63, far1 (far1 (far1 (far1 sS.2.2.2 n72) n72) n72) n73⟩) | go_keep) (first
    | (go_at_call 25; with_reducible refine (ddrawat_any w0 v zs _ P ap xs.length qp (cur_drew D.cur) (by omega)).mono ?_; rintro e w2 ⟨f, rfl, _, _, c2, g2⟩
       have D2 := D.turn c2 (grown_drew g2)
       have sS : w2.cell? ⟨b6, 0, none⟩ = some (.slice a1 ns.length q1) ∧ w2.cell? ⟨b6, 1, none⟩ = some (.slice a2 is.length q2) ∧ w2.cell? ⟨b6, 2, none⟩ = some (.slice a3 ds.length q3) ∧ w2.cell? ⟨b7, 0, none⟩ = some (.slice ap xs.length qp) := ⟨cell_of_row _ _ 0 _ _ _ D2.box1, cell_of_row _ _ 1 _ _ _ D2.box1, cell_of_row _ _ 2 _ _ _ D2.box1, cell_of_row _ _ 0 _ _ _ D2.box2⟩
       obtain ⟨r0, r1, r2, z0, z1, z2⟩ := cells3 D2.res1
       have rp : w2.cell? ⟨b2 + 1, 0, none⟩ = some (.slice none 0 0) := cell_of_row _ _ 0 _ _ _ D2.res2
       have zp : w2.frozen? ⟨b2 + 1, 0, none⟩ = false := frozen_of_row _ _ 0 _ _ D2.res2))
  all_goals
    obtain ⟨p1, p2, p3, p4, p5⟩ := D2.fin
    have hBw : Below b2 W w2 := (by have g := grown_drew g2; exact ⟨g.os, g.tape, g.output, g.size, fun k hk => g.block k (by have := (Array.getElem?_eq_some_iff.1 D.res1).1; omega) (by simp; omega)⟩)
    exact hQ _ _ _ _ _ f _ p1 p2 p3 p4 (hBw.trans p5)

end Go.Proofs.Ytakjjmbkjdjdpaa
