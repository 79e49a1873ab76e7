/-
  Texts that stood by themselves, laid into one.
-/
import Derived.Test.YtmbomhcnmjhbnaaGreatDoorDraw11M
import Derived.Test.YtmbomhcnmjhbnaaGreatDoorNameM
import Derived.Test.YtmbomhcnmjhbnaaGreatDoorCodeOkM
import Derived.Test.YtmbomhcnmjhbnaaGreatDoorSNumM
/-
  The contract of the draw spec.DrawProcNew: some code, a name and a number. No condition.
-/
namespace Go.Proofs.YtmbomhcnmjhbnaaGreatDoor
open Go.RowKit

theorem results_row_nn {P : Program} {fn : Func} {p u u' : Tmp} {ty : TypeId} (h : fn.results = #[.cell p ty, .tmp u, .tmp u']) (tmps : Array Value) (w : World) (g : Nat) (t : TypeId) (cs : Array Value) (fr : Nat × Nat) (d : TypeDesc)
    (hp : tmps.getD p undef = .pointer (some ⟨g, 0, none⟩)) (hg : w.heap[g]? = some (.cells cs t fr))
    (hu : P.underlying ty = some d) (hd : (match d with | .struct _ | .array _ _ => true | _ => false) = true) (hi : (P.info? ty).map (·.size) = some cs.size) :
    (results fn tmps).run P w = .ok (.tuple #[.agg cs, tmps.getD u undef, tmps.getD u' undef]) w := by
  have hp' : tmps[p]?.getD undef = .pointer (some ⟨g, 0, none⟩) := by simpa using hp
  simp [results, h, hp', asAddr, run_loadVar_row w g t ty cs fr d hg hu hd hi]
theorem grown_drew1 {w w' : World} {o : Option Nat} (h : w.drew.grownBy w' o) : w.grownBy w' o := ⟨h.os, h.tape, h.output, h.size, h.block⟩

set_option maxRecDepth 100000 in
set_option maxHeartbeats 3200000 in
theorem ddp_reg {t0 t1 t3 t4 t7 t8 t9 t10 t11 t12 t13 t14 t15 t16 : Value} {fs : List Deferred} (w0 : World) (v : Value) (zs : List Int) (P b2 b5 B : Nat) (a1 a2 a3 : Option Addr) (n1 n2 n3 q1 q2 q3 : Nat) (ns : List Nd) (is : List In) (ds : List Df) (W : World) (Q : Exit → Act → World → Prop)
    (c : Cur w0 v zs W P) (hr : W.heap[b2]? = some (.cells #[.slice none 0 0, .slice none 0 0, .slice none 0 0] 30 (0, 0))) (hx : W.heap[b5]? = some (.cells #[.slice a1 n1 q1, .slice a2 n2 q2, .slice a3 n3 q3] 30 (0, 0))) (O : Own3 W B (.slice a1 n1 q1) (.slice a2 n2 q2) (.slice a3 n3 q3) ns is ds) (h2 : b2 < P) (h5 : P < b5) (hB : P < B)
    (hQ : ∀ u11 u12 u13 u14 u15 u16 s x wx, s.size ≤ 40 → wx.heap[b2]? = some (.cells #[.slice a1 n1 q1, .slice a2 n2 q2, .slice a3 n3 q3] 30 (0, 0)) → Own3 wx B (.slice a1 n1 q1) (.slice a2 n2 q2) (.slice a3 n3 q3) ns is ds → Below b2 W wx → Q .normal ⟨#[t0, t1, .pointer (some ⟨b2, 0, none⟩), .string s, .int .i64 x, .pointer (some ⟨P, 0, none⟩), .pointer (some ⟨b5, 0, none⟩), t7, t8, t9, t10, u11, u12, u13, u14, u15, u16], fs⟩ wx) :
    (Code.region 3 #[{ dst := some 11, op := Op.load 30 (Operand.tmp 6), type := 30, pos := "l12_proc.go:229", after := #[], guard := none }, { dst := some 12, op := Op.move (Operand.tmp 5), type := 41, pos := "l12_proc.go:229", after := #[], guard := none }, { dst := some 13, op := Op.buildSlice 35 4 #[(0, Operand.const (Value.string { data := #[109, 97, 105, 110] })), (1, Operand.const (Value.string { data := #[109, 97, 105, 110] })), (2, Operand.const (Value.string { data := #[102] })), (3, Operand.const (Value.string { data := #[122, 122] }))], type := 35, pos := "l12_proc.go:229", after := #[], guard := none }, { dst := some 14, op := Op.call { callee := Callee.value (Operand.func 11), args := #[Operand.tmp 12, Operand.tmp 13], argTypes := #[41, 35] }, type := 9, pos := "l12_proc.go:229", after := #[{ on := 1, ground := Ground.data }, { on := 2, ground := Ground.data }], guard := none }, { dst := some 15, op := Op.move (Operand.tmp 5), type := 41, pos := "l12_proc.go:229", after := #[], guard := none }, { dst := some 16, op := Op.call { callee := Callee.value (Operand.func 12), args := #[Operand.tmp 15, Operand.const (Value.int IntKind.i64 5)], argTypes := #[41, 3] }, type := 3, pos := "l12_proc.go:229", after := #[{ on := 4, ground := Ground.data }, { on := 3, ground := Ground.chain }], guard := none }, { dst := none, op := Op.store 30 (Operand.tmp 2) (Operand.tmp 11), type := 0, pos := "l12_proc.go:229", after := #[{ on := 0, ground := Ground.data }, { on := 5, ground := Ground.chain }, { on := 0, ground := Ground.phase }, { on := 1, ground := Ground.textOnly Departure.lateStores }, { on := 2, ground := Ground.textOnly Departure.lateStores }, { on := 3, ground := Ground.textOnly Departure.lateStoresUnsure }, { on := 4, ground := Ground.textOnly Departure.lateStores }, { on := 5, ground := Ground.textOnly Departure.lateStoresUnsure }], guard := none }, { dst := some 3, op := Op.assign (Operand.tmp 14), type := 9, pos := "l12_proc.go:229", after := #[{ on := 3, ground := Ground.data }, { on := 6, ground := Ground.chain }, { on := 0, ground := Ground.phase }, { on := 1, ground := Ground.phase }, { on := 2, ground := Ground.phase }, { on := 3, ground := Ground.phase }, { on := 4, ground := Ground.textOnly Departure.lateStores }, { on := 5, ground := Ground.textOnly Departure.lateStoresUnsure }, { on := 6, ground := Ground.phase }], guard := none }, { dst := some 4, op := Op.assign (Operand.tmp 16), type := 3, pos := "l12_proc.go:229", after := #[{ on := 5, ground := Ground.data }, { on := 7, ground := Ground.chain }, { on := 0, ground := Ground.phase }, { on := 1, ground := Ground.phase }, { on := 2, ground := Ground.phase }, { on := 3, ground := Ground.phase }, { on := 4, ground := Ground.phase }, { on := 5, ground := Ground.phase }, { on := 6, ground := Ground.phase }, { on := 7, ground := Ground.phase }], guard := none }] true).wp Tryz.prog Q ⟨#[t0, t1, .pointer (some ⟨b2, 0, none⟩), t3, t4, .pointer (some ⟨P, 0, none⟩), .pointer (some ⟨b5, 0, none⟩), t7, t8, t9, t10, t11, t12, t13, t14, t15, t16], fs⟩ W := by
  have hWP : W.heap.size ≠ P := by have := c.lt; omega
  have l2 := (Array.getElem?_eq_some_iff.1 hr).1
  have l5 := (Array.getElem?_eq_some_iff.1 hx).1
  have n25 : b5 ≠ b2 := by omega
  obtain ⟨y0, y1, y2, _, _, _⟩ := cells3 hx
  go_region_held3 (fun w' => w'.cell? ⟨b5, 0, none⟩ = some (.slice a1 n1 q1) ∧ w'.cell? ⟨b5, 1, none⟩ = some (.slice a2 n2 q2) ∧ w'.cell? ⟨b5, 2, none⟩ = some (.slice a3 n3 q3)) (first | (with_reducible exact s2) | (with_reducible exact s1) | (with_reducible exact ⟨far1 (far1 (far1 s2.1 n25) n25) n25, far1 (far1 (far1 s2.2.1 n25) n25) n25, far1 (far1 (far1 s2.2.2 n25) n25) n25⟩) | go_keep) (first
    | (go_at_call 11; refine (picks_any w0 v zs _ P W.heap.size 4 [ByteArray.mk #[109, 97, 105, 110], ByteArray.mk #[109, 97, 105, 110], ByteArray.mk #[102], ByteArray.mk #[122, 122]] ?_ (by omega) (by decide) (by decide) ?_).mono ?_; (with_reducible exact cur_drewA c _); (intro j hj; exact strs_new W [ByteArray.mk #[109, 97, 105, 110], ByteArray.mk #[109, 97, 105, 110], ByteArray.mk #[102], ByteArray.mk #[122, 122]] 9 j hj); rintro e w2 ⟨s, hs, rfl, c2, g2⟩
       have g := grown_drewA g2
       have hr2 := (g.block _ l2 (by simp; omega)).trans hr
       have hx2 := (g.block _ l5 (by simp; omega)).trans hx
       have O2 : Own3 w2 B (.slice a1 n1 q1) (.slice a2 n2 q2) (.slice a3 n3 q3) ns is ds := ⟨O.1.kept g (own_not O.1 hB), O.2.1.kept g (own_not O.2.1 hB), O.2.2.kept g (own_not O.2.2 hB)⟩
       have s1 : w2.cell? ⟨b5, 0, none⟩ = some (.slice a1 n1 q1) ∧ w2.cell? ⟨b5, 1, none⟩ = some (.slice a2 n2 q2) ∧ w2.cell? ⟨b5, 2, none⟩ = some (.slice a3 n3 q3) := ⟨cell_of_row _ _ 0 _ _ _ hx2, cell_of_row _ _ 1 _ _ _ hx2, cell_of_row _ _ 2 _ _ _ hx2⟩)
    | (go_at_call 12; refine (below_any w0 v zs _ P 5 c2 (by decide)).mono ?_; rintro e w3 ⟨x, rfl, _, _, c3, g3⟩
       have gg := grown_trans g g3
       have hr3 := (gg.block _ l2 (by simp; omega)).trans hr
       have hx3 := (gg.block _ l5 (by simp; omega)).trans hx
       have O3 : Own3 w3 B (.slice a1 n1 q1) (.slice a2 n2 q2) (.slice a3 n3 q3) ns is ds := ⟨O.1.kept gg (own_not O.1 hB), O.2.1.kept gg (own_not O.2.1 hB), O.2.2.kept gg (own_not O.2.2 hB)⟩
       have s2 : w3.cell? ⟨b5, 0, none⟩ = some (.slice a1 n1 q1) ∧ w3.cell? ⟨b5, 1, none⟩ = some (.slice a2 n2 q2) ∧ w3.cell? ⟨b5, 2, none⟩ = some (.slice a3 n3 q3) := ⟨cell_of_row _ _ 0 _ _ _ hx3, cell_of_row _ _ 1 _ _ _ hx3, cell_of_row _ _ 2 _ _ _ hx3⟩
       obtain ⟨r0, r1, r2, z0, z1, z2⟩ := cells3 hr3))
  all_goals
    have hsz : s.size ≤ 40 := by
      simp only [List.mem_cons, List.not_mem_nil, or_false] at hs
      rcases hs with rfl | rfl | rfl | rfl <;> simp [ByteArray.size]
    have m1 := own_ne O3.1 hr3 (by decide)
    have m2 := own_ne O3.2.1 hr3 (by decide)
    have m3 := own_ne O3.2.2 hr3 (by decide)
    have hBw : Below b2 W w3 := ⟨gg.os, gg.tape, gg.output, gg.size, fun k hk => gg.block k (by omega) (by simp; omega)⟩
    exact hQ _ _ _ _ _ _ s _ _ hsz (store3 hr3 _ _ _) ⟨ownsRow_setCell_other (ownsRow_setCell_other (ownsRow_setCell_other O3.1 (a := ⟨b2, 0, none⟩) m1 _) (a := ⟨b2, 1, none⟩) m1 _) (a := ⟨b2, 2, none⟩) m1 _, ownsRow_setCell_other (ownsRow_setCell_other (ownsRow_setCell_other O3.2.1 (a := ⟨b2, 0, none⟩) m2 _) (a := ⟨b2, 1, none⟩) m2 _) (a := ⟨b2, 2, none⟩) m2 _, ownsRow_setCell_other (ownsRow_setCell_other (ownsRow_setCell_other O3.2.2 (a := ⟨b2, 0, none⟩) m3 _) (a := ⟨b2, 1, none⟩) m3 _) (a := ⟨b2, 2, none⟩) m3 _⟩ (((hBw.setCell (p := ⟨b2, 0, none⟩) (Nat.le_refl _) _).setCell (p := ⟨b2, 1, none⟩) (Nat.le_refl _) _).setCell (p := ⟨b2, 2, none⟩) (Nat.le_refl _) _)

set_option maxRecDepth 100000 in
set_option maxHeartbeats 3200000 in
theorem ddp_any (v : Value) (zs : List Int) (w : World) (R : Row w v zs) (hl : zs.length ≤ 1048576) :
    Calls Tryz.prog 5 #[v] w fun e w' => ∃ (v1 v2 v3 : Value) (ns : List Nd) (is : List In) (ds : List Df) (s : ByteArray) (x : Int), e = .returned (.tuple #[.agg #[v1, v2, v3], .string s, .int .i64 x]) ∧ Sz3 ns is ds ∧ s.size ≤ 40 ∧ Own3 w' w.heap.size v1 v2 v3 ns is ds ∧ Below w.heap.size w w' := by
  have hB0 : Below w.heap.size w (w.alloc (.cells #[.slice none 0 0, .slice none 0 0, .slice none 0 0] 30)) := (Below.refl _ _).alloc (Nat.le_refl _) _
  have hr0 := heap_alloc_new w (Obj.cells #[.slice none 0 0, .slice none 0 0, .slice none 0 0] 30)
  have R0 := R.below hB0
  go_enter Tryz.func5, Tryz.ntmps5
  go_wp2_with fail
  generalize hA : w.alloc (Obj.cells #[.slice none 0 0, .slice none 0 0, .slice none 0 0] 30) = wA at hB0 hr0 R0 ⊢
  have hA1 : wA.heap.size = w.heap.size + 1 := by rw [← hA]; simp
  have HA1 : Hid (wA.heap.size = w.heap.size + 1) := hA1
  clear hA hA1
  refine (new_any v zs wA R0 hl).mono ?_
  rintro e w1 ⟨rfl, c1, b1⟩
  have hlr : w.heap.size < wA.heap.size := by rw [HA1.out]; omega
  have hP1 := c1.lt
  have hr1 := (c1.2.1.block _ (Array.getElem?_eq_some_iff.1 hr0).1).trans hr0
  clear b1 hr0
  go_wp2_with fail
  generalize HP : wA.heap.size = P at c1 hlr hP1 HA1 ⊢
  refine (d4draw_any wA v zs P w1 c1).mono ?_
  rintro e w2 ⟨v1, v2, v3, ns, is, ds, rfl, hS, O2, c2, g2⟩
  obtain ⟨a1, q1, rfl⟩ := own_form O2.1
  obtain ⟨a2, q2, rfl⟩ := own_form O2.2.1
  obtain ⟨a3, q3, rfl⟩ := own_form O2.2.2
  have hr2 := (g2.block _ (Array.getElem?_eq_some_iff.1 hr1).1 (by simp; omega)).trans hr1
  have hs12 := g2.size
  have hBx : Below w2.heap.size w2 (w2.alloc (Obj.cells #[.slice a1 ns.length q1, .slice a2 is.length q2, .slice a3 ds.length q3] 30)) := (Below.refl _ _).alloc (Nat.le_refl _) _
  have hx3 := heap_alloc_new w2 (Obj.cells #[.slice a1 ns.length q1, .slice a2 is.length q2, .slice a3 ds.length q3] 30)
  have c3 := c2.kept (hBx.mono (by omega))
  have hr3 := (hBx.block _ (Array.getElem?_eq_some_iff.1 hr2).1).trans hr2
  have O3 := O2.below hBx
  clear hr1 g2 c1 c2 hr2 O2 hBx
  go_wp2_with fail
  generalize w2.alloc (Obj.cells #[.slice a1 ns.length q1, .slice a2 is.length q2, .slice a3 ds.length q3] 30) = w3 at *
  refine ddp_reg wA v zs P w.heap.size w2.heap.size w1.heap.size a1 a2 a3 ns.length is.length ds.length q1 q2 q3 ns is ds w3 _ c3 hr3 hx3 O3 hlr (by omega) hP1 ?_
  intro u11 u12 u13 u14 u15 u16 s x w4 hs h4 O4 b4
  have hB3 : Below w.heap.size w w3 := hB0.trans (c3.2.1.mono (by omega))
  go_wp2_with fail
  exact bodyPost_ret (results_row_nn rfl _ _ w.heap.size 30 _ (0, 0) _ rfl h4 Tryz.underlying30 rfl Tryz.sizeC) rfl ⟨_, _, _, ns, is, ds, s, x, rfl, hS, hs, O4.mono (by omega), hB3.trans b4⟩
end Go.Proofs.YtmbomhcnmjhbnaaGreatDoor

/-
  A machine but for its pool. No condition.
-/
namespace Go.Proofs.YtmbomhcnmjhbnaaGreatDoor
open Go.RowKit

/-- A machine but for its pool: where it is, its stack, frames, what waits, its state, what it asks, and with what. -/
structure Mc where
  p : Int
  s : Int
  e : Int
  d : Int
  t : Int
  q : Int
  r : Int

theorem Tryz.sizeMach : (Tryz.prog.info? 34).map (·.size) = some 8 := by kernel_rfl

theorem two_boxes (w : World) (A B : Obj) : Below w.heap.size w ((w.alloc A).alloc B) ∧ ((w.alloc A).alloc B).heap[w.heap.size]? = some A ∧ ((w.alloc A).alloc B).heap[w.heap.size + 1]? = some B :=
  ⟨((Below.refl _ _).alloc (Nat.le_refl _) _).alloc (by simp) _, (heap_alloc_old _ _ (by simp)).trans (heap_alloc_new _ _), heap_alloc2_new _ _ _⟩

end Go.Proofs.YtmbomhcnmjhbnaaGreatDoor

/-
  A machine that is right, on impl's side: isAsked, stateFits. No condition.
-/
namespace Go.Proofs.YtmbomhcnmjhbnaaGreatDoor
open Go.RowKit

def placeB (n : Nat) (p : Int) : Bool := decide (0 ≤ p) && decide (p < n)
def askB (q : Int) : Bool := decide (12 < q) && decide (q ≤ 19) && decide (q ≠ 18)
def stateB (n : Nat) (xs : List Nd) (m : Mc) : Bool :=
  if m.t = 0 then placeB n m.p && decide (m.q = 0) && decide (m.r = 0)
  else if m.t = 1 then placeB n m.p && askB m.q && hasI xs m.r
  else if m.t = 2 then decide (m.p = 0) && decide (m.q = 0) && hasI xs m.r
  else if m.t = 3 then decide (m.p = 0) && decide (1 ≤ m.q) && decide (m.q ≤ 7) && decide (m.r = 0)
  else false

theorem isasked_any (q : Int) (w : World) : Calls Tryz.prog 57 #[.int .i64 q] w fun e w' => e = .returned (.bool (askB q)) ∧ w' = w := by
  go_enter Tryz.func57, Tryz.ntmps57
  by_cases h1 : 12 < q
  · by_cases h2 : q ≤ 19
    · by_cases h3 : q = 18
      · subst h3
        go_wp2
        go_ret
        exact ⟨rfl, rfl⟩
      · have q1 : (q == 18) = false := by simp [h3]
        have q2 : decide (q = 18) = false := by simp [h3]
        go_wp2
        go_ret
        exact ⟨by simp [askB, h1, h2, h3], rfl⟩
    · go_wp2
      go_ret
      exact ⟨by simp [askB]; omega, rfl⟩
  · go_wp2
    go_ret
    exact ⟨by simp [askB]; omega, rfl⟩

set_option maxRecDepth 100000 in
set_option maxHeartbeats 3200000 in
theorem istatefits_any (a1 a2 a3 : Option Addr) (n1 n2 n3 c1 c2 c3 : Nat) (v : Value) (xs : List Nd) (m : Mc) (w : World) (R : NRow w v xs) :
    Calls Tryz.prog 34 #[.agg #[.slice a1 n1 c1, .slice a2 n2 c2, .slice a3 n3 c3], .agg #[v, .int .i64 m.p, .int .i64 m.s, .int .i64 m.e, .int .i64 m.d, .int .i64 m.t, .int .i64 m.q, .int .i64 m.r]] w fun e w' => e = .returned (.bool (stateB n2 xs m)) ∧ Below w.heap.size w w' := by
  have R' := R
  obtain ⟨ao, cap, rfl, _⟩ := R'
  obtain ⟨mp, ms, me, md, mt, mq, mr⟩ := m
  have hB0 : Below w.heap.size w ((w.alloc (Obj.cells #[.slice a1 n1 c1, .slice a2 n2 c2, .slice a3 n3 c3] 30)).alloc (Obj.cells #[.slice ao xs.length cap, .int .i64 mp, .int .i64 ms, .int .i64 me, .int .i64 md, .int .i64 mt, .int .i64 mq, .int .i64 mr] 34)) := ((Below.refl _ _).alloc (Nat.le_refl _) _).alloc (by simp) _
  have hx0 := heap_alloc2_new w (Obj.cells #[.slice a1 n1 c1, .slice a2 n2 c2, .slice a3 n3 c3] 30) (Obj.cells #[.slice ao xs.length cap, .int .i64 mp, .int .i64 ms, .int .i64 me, .int .i64 md, .int .i64 mt, .int .i64 mq, .int .i64 mr] 34)
  have R0 := R.below hB0
  have hs0 := (Array.getElem?_eq_some_iff.1 hx0).1
  go_enter Tryz.func34, Tryz.ntmps34
  by_cases t0 : mt = 0
  · subst t0
    go_wp2_with fail
    refine (isplace_any _ _ _ _ _ _ _ _ _ mp _).mono ?_
    rintro e w1 ⟨rfl, hb1⟩
    have hB1 := hB0.trans (hb1.mono hB0.size)
    have hx1 := (hb1.block _ hs0).trans hx0
    have k6 : w1.cell? ⟨w.heap.size + 1, 0 + 6, none⟩ = some (.int .i64 mq) := by rw [cell_of_row w1 _ 6 _ _ _ hx1]; rfl
    have k7 : w1.cell? ⟨w.heap.size + 1, 0 + 7, none⟩ = some (.int .i64 mr) := by rw [cell_of_row w1 _ 7 _ _ _ hx1]; rfl
    have HS : Hid (stateB n2 xs ⟨mp, ms, me, md, 0, mq, mr⟩ = ((decide (0 ≤ mp) && decide (mp < n2)) && decide (mq = 0) && decide (mr = 0))) := rfl
    generalize (decide (0 ≤ mp) && decide (mp < n2)) = bb at HS ⊢
    clear hx0 hx1 hb1 hB0 R0
    cases bb with
    | true =>
      go_wp2
      all_goals
        go_ret
        refine ⟨retB ?_, hB1⟩
        rw [HS.out]
        first | (simp [*]; done) | (simp [*]; rfl)
    | false =>
      go_wp2
      go_ret
      exact ⟨retB (by rw [HS.out]; rfl), hB1⟩
  · by_cases t1 : mt = 1
    · subst t1
      go_wp2_with fail
      refine (isplace_any _ _ _ _ _ _ _ _ _ mp _).mono ?_
      rintro e w1 ⟨rfl, hb1⟩
      have hB1 := hB0.trans (hb1.mono hB0.size)
      have hx1 := (hb1.block _ hs0).trans hx0
      have k0 : w1.cell? ⟨w.heap.size + 1, 0, none⟩ = some (.slice ao xs.length cap) := by rw [cell_of_row w1 _ 0 _ _ _ hx1]; rfl
      have k6 : w1.cell? ⟨w.heap.size + 1, 0 + 6, none⟩ = some (.int .i64 mq) := by rw [cell_of_row w1 _ 6 _ _ _ hx1]; rfl
      have k7 : w1.cell? ⟨w.heap.size + 1, 0 + 7, none⟩ = some (.int .i64 mr) := by rw [cell_of_row w1 _ 7 _ _ _ hx1]; rfl
      have HS : Hid (stateB n2 xs ⟨mp, ms, me, md, 1, mq, mr⟩ = ((decide (0 ≤ mp) && decide (mp < n2)) && askB mq && hasI xs mr)) := rfl
      generalize (decide (0 ≤ mp) && decide (mp < n2)) = bb at HS ⊢
      clear hx0 hx1 hb1 hB0 R0
      cases bb with
      | true =>
        go_wp2_with fail
        refine (isasked_any mq _).mono ?_
        rintro e w2 ⟨rfl, rfl⟩
        generalize askB mq = b2 at HS ⊢
        cases b2 with
        | true =>
          go_wp2_with fail
          refine (has_any _ xs mr _ (R.below hB1)).mono ?_
          rintro e w3 ⟨rfl, hb3⟩
          have hB3 := hB1.trans (hb3.mono hB1.size)
          generalize hasI xs mr = b3 at HS ⊢
          clear k0 k6 k7
          cases b3 <;>
            (go_wp2
             go_ret
             exact ⟨retB (by rw [HS.out]; rfl), hB3⟩)
        | false =>
          go_wp2
          go_ret
          exact ⟨retB (by rw [HS.out]; rfl), hB1⟩
      | false =>
        go_wp2
        go_ret
        exact ⟨retB (by rw [HS.out]; rfl), hB1⟩
    · by_cases t2 : mt = 2
      · subst t2
        have HS : Hid (stateB n2 xs ⟨mp, ms, me, md, 2, mq, mr⟩ = (decide (mp = 0) && decide (mq = 0) && hasI xs mr)) := rfl
        by_cases p0 : mp = 0
        · subst p0
          by_cases q0 : mq = 0
          · subst q0
            go_wp2_with fail
            refine (has_any _ xs mr _ R0).mono ?_
            rintro e w3 ⟨rfl, hb3⟩
            have hB3 := hB0.trans (hb3.mono hB0.size)
            generalize hasI xs mr = b3 at HS ⊢
            cases b3 <;>
              (go_wp2
               go_ret
               exact ⟨retB (by rw [HS.out]; rfl), hB3⟩)
          · have g1 : (mq == 0) = false := by simp [q0]
            have g2 : decide (mq = 0) = false := by simp [q0]
            go_wp2
            go_ret
            exact ⟨retB (by rw [HS.out, g2]; rfl), hB0⟩
        · have g1 : (mp == 0) = false := by simp [p0]
          have g2 : decide (mp = 0) = false := by simp [p0]
          go_wp2
          go_ret
          exact ⟨retB (by rw [HS.out, g2]; rfl), hB0⟩
      · by_cases t3 : mt = 3
        · subst t3
          have HS : Hid (stateB n2 xs ⟨mp, ms, me, md, 3, mq, mr⟩ = (decide (mp = 0) && decide (1 ≤ mq) && decide (mq ≤ 7) && decide (mr = 0))) := rfl
          by_cases p0 : mp = 0
          · subst p0
            by_cases q1 : 1 ≤ mq
            · by_cases q7 : mq ≤ 7
              · by_cases r0 : mr = 0
                · subst r0
                  go_wp2
                  go_ret
                  exact ⟨retB (by rw [HS.out]; simp [q1, q7]), hB0⟩
                · have g1 : (mr == 0) = false := by simp [r0]
                  have g2 : decide (mr = 0) = false := by simp [r0]
                  go_wp2
                  go_ret
                  exact ⟨retB (by rw [HS.out, g2]; simp), hB0⟩
              · go_wp2
                go_ret
                exact ⟨retB (by rw [HS.out]; simp; omega), hB0⟩
            · go_wp2
              go_ret
              exact ⟨retB (by rw [HS.out]; simp; omega), hB0⟩
          · have g1 : (mp == 0) = false := by simp [p0]
            have g2 : decide (mp = 0) = false := by simp [p0]
            go_wp2
            go_ret
            exact ⟨retB (by rw [HS.out, g2]; rfl), hB0⟩
        · have HS : Hid (stateB n2 xs ⟨mp, ms, me, md, mt, mq, mr⟩ = false) := by unfold Hid stateB; simp [t0, t1, t2, t3]
          have g0 : (mt == 0) = false := by simp [t0]
          have g1 : (mt == 1) = false := by simp [t1]
          have g2 : (mt == 2) = false := by simp [t2]
          have g3 : (mt == 3) = false := by simp [t3]
          have f0 : decide (mt = 0) = false := by simp [t0]
          have f1 : decide (mt = 1) = false := by simp [t1]
          have f2 : decide (mt = 2) = false := by simp [t2]
          have f3 : decide (mt = 3) = false := by simp [t3]
          go_wp2
          go_ret
          exact ⟨retB (by rw [HS.out]), hB0⟩
end Go.Proofs.YtmbomhcnmjhbnaaGreatDoor
