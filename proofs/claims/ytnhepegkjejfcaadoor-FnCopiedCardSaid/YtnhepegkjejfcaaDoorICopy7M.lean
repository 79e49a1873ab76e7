/-
  Texts that stood by themselves, laid into one.
-/
import Derived.Test.YtnhepegkjejfcaaDoorDRootsM
import Derived.Test.YtnhepegkjejfcaaDoorDraw10M
import Derived.Test.YtnhepegkjejfcaaDoorMv2M
import Derived.Test.YtnhepegkjejfcaaDoorMvOkM
import Derived.Deep.RegionWith
import Derived.Deep.RegionLawGrows
import Derived.Deep.CutRange
import Derived.Deep.DeepCutAuto
/-
  The contract of spec.DrawCopy. No condition.
-/
namespace Go.Proofs.YtnhepegkjejfcaaDoor
open Go.RowKit

theorem results_row2_tmp {P : Program} {fn : Func} {p p' u : Tmp} {ty ty' : TypeId} (h : fn.results = #[.cell p ty, .cell p' ty', .tmp u]) (tmps : Array Value) (w : World) (g g' : Nat) (t t' : TypeId) (cs cs' : Array Value) (fr fr' : Nat × Nat) (d d' : TypeDesc)
    (hp : tmps.getD p undef = .pointer (some ⟨g, 0, none⟩)) (hg : w.heap[g]? = some (.cells cs t fr)) (hu : P.underlying ty = some d) (hd : (match d with | .struct _ | .array _ _ => true | _ => false) = true) (hi : (P.info? ty).map (·.size) = some cs.size)
    (hp' : tmps.getD p' undef = .pointer (some ⟨g', 0, none⟩)) (hg' : w.heap[g']? = some (.cells cs' t' fr')) (hu' : P.underlying ty' = some d') (hd' : (match d' with | .struct _ | .array _ _ => true | _ => false) = true) (hi' : (P.info? ty').map (·.size) = some cs'.size) :
    (results fn tmps).run P w = .ok (.tuple #[.agg cs, .agg cs', tmps.getD u undef]) w := by
  have e : (results fn tmps).run P w = ((asAddr (tmps.getD p undef)).run P w).andThen fun a w₁ => ((loadVar ty a).run P w₁).andThen fun v w₂ => ((asAddr (tmps.getD p' undef)).run P w₂).andThen fun a' w₃ => ((loadVar ty' a').run P w₃).andThen fun v' w₄ => .ok (.tuple #[v, v', tmps.getD u undef]) w₄ := by
    simp only [results, h]
    simp [Sem.run_bind, Result.andThen]
  rw [e, hp, hp']
  simp [asAddr, run_loadVar_row w g t ty cs fr d hg hu hd hi, run_loadVar_row w g' t' ty' cs' fr' d' hg' hu' hd' hi']

/-- Two pools put into their boxes. -/
theorem put_two {B base1 n cap n' cap' : Nat} {w0 w2 : World} {ao ao' : Option Addr} {xs xs' : List Value} (hy : w2.heap[B]? = some (.cells #[.slice none 0 0] 26 (0, 0))) (hy' : w2.heap[B + 1]? = some (.cells #[.slice none 0 0] 26 (0, 0))) (ho : w2.ownsRow base1 40 5 (.slice ao n cap) n xs) (ho' : w2.ownsRow base1 40 5 (.slice ao' n' cap') n' xs')
    (hB : Below B w0 w2) (h1 : B + 1 < base1) :
    ((w2.setCell ⟨B, 0, none⟩ (.slice ao n cap)).setCell ⟨B + 1, 0, none⟩ (.slice ao' n' cap')).heap[B]? = some (.cells #[.slice ao n cap] 26 (0, 0)) ∧ ((w2.setCell ⟨B, 0, none⟩ (.slice ao n cap)).setCell ⟨B + 1, 0, none⟩ (.slice ao' n' cap')).heap[B + 1]? = some (.cells #[.slice ao' n' cap'] 26 (0, 0)) ∧
    ((w2.setCell ⟨B, 0, none⟩ (.slice ao n cap)).setCell ⟨B + 1, 0, none⟩ (.slice ao' n' cap')).ownsRow B 40 5 (.slice ao n cap) n xs ∧ ((w2.setCell ⟨B, 0, none⟩ (.slice ao n cap)).setCell ⟨B + 1, 0, none⟩ (.slice ao' n' cap')).ownsRow B 40 5 (.slice ao' n' cap') n' xs' ∧ Below B w0 ((w2.setCell ⟨B, 0, none⟩ (.slice ao n cap)).setCell ⟨B + 1, 0, none⟩ (.slice ao' n' cap')) := by
  have e1 := heap_setCell_same w2 B 0 _ _ (.slice ao n cap) hy
  have e2 := (heap_setCell_other w2 ⟨B, 0, none⟩ (B + 1) (.slice ao n cap) (by simp)).trans hy'
  have f1 := (heap_setCell_other (w2.setCell ⟨B, 0, none⟩ (.slice ao n cap)) ⟨B + 1, 0, none⟩ B (.slice ao' n' cap') (by simp)).trans e1
  have f2 := heap_setCell_same _ (B + 1) 0 _ _ (.slice ao' n' cap') e2
  exact ⟨f1, f2, own_mono (ownsRow_setCell_below (ownsRow_setCell_below ho (a := ⟨B, 0, none⟩) (by show B < base1; omega) _) (a := ⟨B + 1, 0, none⟩) h1 _) (by omega), own_mono (ownsRow_setCell_below (ownsRow_setCell_below ho' (a := ⟨B, 0, none⟩) (by show B < base1; omega) _) (a := ⟨B + 1, 0, none⟩) h1 _) (by omega), (hB.setCell (p := ⟨B, 0, none⟩) (Nat.le_refl _) _).setCell (p := ⟨B + 1, 0, none⟩) (by show B ≤ B + 1; omega) _⟩

set_option maxRecDepth 100000 in
set_option maxHeartbeats 3200000 in
theorem sdcopy_any (v : Value) (zs : List Int) (w : World) (R : Row w v zs) (hl : zs.length ≤ 1048576) :
    Calls Tryd.prog 13 #[v] w fun e w' => ∃ (v1 v2 : Value) (ps xs : List Nd) (a : Int), e = .returned (.tuple #[.agg #[v1], .agg #[v2], .int .i64 a]) ∧ ps.length ≤ 3001 ∧ (∀ x ∈ ps, x.s.size ≤ 40) ∧ xs.length ≤ 3001 ∧ (∀ x ∈ xs, x.s.size ≤ 40) ∧ (-9223372036854775808 ≤ a ∧ a ≤ 9223372036854775807) ∧ w'.ownsRow w.heap.size 40 5 v1 ps.length (ncs ps) ∧ w'.ownsRow w.heap.size 40 5 v2 xs.length (ncs xs) ∧ Below w.heap.size w w' := by
  have hB0 : Below w.heap.size w ((w.alloc (.cells #[.slice none 0 0] 26)).alloc (.cells #[.slice none 0 0] 26)) := below2 w _ _
  have hr0 : ((w.alloc (.cells #[.slice none 0 0] 26)).alloc (.cells #[.slice none 0 0] 26)).heap[w.heap.size]? = some (.cells #[.slice none 0 0] 26 (0, 0)) := old2 w _ _
  have hr0' : ((w.alloc (.cells #[.slice none 0 0] 26)).alloc (.cells #[.slice none 0 0] 26)).heap[w.heap.size + 1]? = some (.cells #[.slice none 0 0] 26 (0, 0)) := heap_alloc2_new _ _ _
  have R0 := R.below hB0
  go_enter Tryd.func13, Tryd.ntmps13
  go_wp2_with fail
  generalize hA : (w.alloc (Obj.cells #[Value.slice none 0 0] 26)).alloc (Obj.cells #[Value.slice none 0 0] 26) = wA at hB0 hr0 hr0' R0 ⊢
  have hlr : w.heap.size + 1 < wA.heap.size := by rw [← hA]; simp
  clear hA
  refine (new_any v zs wA R0 hl).mono ?_
  rintro e w1 ⟨rfl, c1, b1⟩
  have hP1 := c1.lt
  have hlrA := hlr
  generalize wA.heap.size = P at c1 hlr hP1 ⊢
  clear b1
  go_wp2_with fail
  refine (ddraw_any wA v zs w1 P c1).mono ?_
  rintro e w2 ⟨v2, ps, rfl, hpl, hzp, ho2, c2, g2⟩
  obtain ⟨a2, q2, rfl⟩ := own_form ho2
  have hb2 := c2.lt
  have hs1 : P + 1 ≤ w1.heap.size := by omega
  have hb3 := heap_alloc_new w2 (.cells #[.slice a2 ps.length q2] 26)
  have ho3 := own_mono (B' := P + 1) (ho2.alloc (.cells #[.slice a2 ps.length q2] 26)) hs1
  have c3 := c2.kept ((Below.refl (P + 1) w2).alloc (by omega) (.cells #[.slice a2 ps.length q2] 26))
  have HP : Hid (∀ x ∈ ps, x.s.size ≤ 40) := hzp
  clear ho2 c2 g2 c1 hzp
  go_wp2_with fail
  generalize hb : w2.heap.size = b at hb3 hb2 ⊢
  generalize hw3 : w2.alloc (Obj.cells #[Value.slice a2 ps.length q2] 26) = w3 at hb3 ho3 c3 ⊢
  clear hw3 hb
  have hlt3 := (Array.getElem?_eq_some_iff.1 hb3).1
  refine (ddraw_any wA v zs w3 P c3).mono ?_
  rintro e w4 ⟨v4, xs, rfl, hxl, hzx, ho4, c4, g4⟩
  obtain ⟨a4, q4, rfl⟩ := own_form ho4
  have hb4 := (g4.block b hlt3 (by simp; omega)).trans hb3
  have hp4 := ho3.kept g4 (own_not ho3 (by omega))
  have hl4 := c4.lt
  have hs3 : P + 1 ≤ w3.heap.size := by omega
  have hlt4 := (Array.getElem?_eq_some_iff.1 hb4).1
  have hbx := heap_alloc_new w4 (.cells #[.slice a4 xs.length q4] 26)
  have hb5 := (heap_alloc_old w4 (.cells #[.slice a4 xs.length q4] 26) hlt4).trans hb4
  have hp5 := hp4.alloc (.cells #[.slice a4 xs.length q4] 26)
  have ho5 := own_mono (B' := P + 1) (ho4.alloc (.cells #[.slice a4 xs.length q4] 26)) hs3
  have c5 := c4.kept ((Below.refl (P + 1) w4).alloc (by omega) (.cells #[.slice a4 xs.length q4] 26))
  have HX : Hid (∀ x ∈ xs, x.s.size ≤ 40) := hzx
  clear ho4 c4 g4 c3 hzx ho3 hp4 hb3 hb4
  go_wp2_with fail
  generalize hbb : w4.heap.size = b' at hbx hl4 hlt4 ⊢
  generalize hw5 : w4.alloc (Obj.cells #[Value.slice a4 xs.length q4] 26) = w5 at hbx hb5 hp5 ho5 c5 ⊢
  clear hw5 hbb
  have hc5 : w5.cell? ⟨b, 0, none⟩ = some (.slice a2 ps.length q2) := cell_of_row w5 _ 0 _ _ _ hb5
  have hd5 : w5.cell? ⟨b', 0, none⟩ = some (.slice a4 xs.length q4) := cell_of_row w5 _ 0 _ _ _ hbx
  have l5 := (Array.getElem?_eq_some_iff.1 hb5).1
  have l5' := (Array.getElem?_eq_some_iff.1 hbx).1
  go_region_with (go_at_call 28; refine (ddrawat_any wA v zs _ P a4 xs.length q4 ?_ (by omega)).mono ?_; exact c5.kept ⟨rfl, rfl, rfl, Nat.le_refl _, fun _ _ => rfl⟩; rintro e w6 ⟨x, rfl, hx0, hx1, c6, g6⟩; have g6' : w5.grownBy w6 (some P) := ⟨g6.os, g6.tape, g6.output, g6.size, g6.block⟩; have hb6 := (g6'.block b l5 (by simp; omega)).trans hb5; have hbx6 := (g6'.block b' l5' (by simp; omega)).trans hbx; have hp6 := hp5.kept g6' (own_not hp5 (by omega)); have ho6 := ho5.kept g6' (own_not ho5 (by omega)); have hc6 : w6.cell? ⟨b, 0, none⟩ = some (.slice a2 ps.length q2) := cell_of_row w6 b 0 _ _ _ hb6; have hd6 : w6.cell? ⟨b', 0, none⟩ = some (.slice a4 xs.length q4) := cell_of_row w6 b' 0 _ _ _ hbx6; have hr6 : w6.heap[w.heap.size]? = some (.cells #[.slice none 0 0] 26 (0, 0)) := (c6.2.1.block _ (by omega)).trans hr0; have hr6' : w6.heap[w.heap.size + 1]? = some (.cells #[.slice none 0 0] 26 (0, 0)) := (c6.2.1.block _ (by omega)).trans hr0'; have z6 : w6.cell? ⟨w.heap.size, 0, none⟩ = some (.slice none 0 0) := cell_of_row w6 _ 0 _ _ _ hr6; have f6 : w6.frozen? ⟨w.heap.size, 0, none⟩ = false := frozen_of_row w6 _ 0 _ _ hr6; have z6' : w6.cell? ⟨w.heap.size + 1, 0, none⟩ = some (.slice none 0 0) := cell_of_row w6 _ 0 _ _ _ hr6'; have f6' : w6.frozen? ⟨w.heap.size + 1, 0, none⟩ = false := frozen_of_row w6 _ 0 _ _ hr6')
  all_goals
    have hBA : Below w.heap.size w w6 := hB0.trans (c6.2.1.mono hB0.size)
    obtain ⟨p1, p2, p3, p4, p5⟩ := put_two hr6 hr6' hp6 ho6 hBA (by omega)
    clear hd6 hc6 hc5 hd5 z6 f6 z6' f6'
    go_wp2_with fail
    refine bodyPost_ret (results_row2_tmp rfl _ _ w.heap.size (w.heap.size + 1) 26 26 _ _ (0, 0) (0, 0) _ _ rfl p1 Tryd.underlying26 rfl Tryd.sizeP rfl p2 Tryd.underlying26 rfl Tryd.sizeP) rfl ⟨_, _, ps, xs, x, rfl, hpl, HP.out, hxl, HX.out, ⟨hx0, hx1⟩, p3, p4, p5⟩
end Go.Proofs.YtnhepegkjejfcaaDoor

/-
  Contracts of impl's upTo and Copy. Conditions of upTo: v is a node.
-/
namespace Go.Proofs.YtnhepegkjejfcaaDoor
open Go.RowKit

theorem NRow.cut {w : World} {ao : Option Addr} {cap : Nat} {xs : List Nd} (R : NRow w (.slice ao xs.length cap) xs) (n : Nat) (h : n ≤ xs.length) (hn : 0 < n) : NRow w (.slice ao n n) (xs.take n) := by
  obtain ⟨ao', cap', e', ⟨h1, h2⟩, hm, hz, hcell⟩ := R
  simp only [Value.slice.injEq, true_and] at e'
  obtain ⟨rfl, rfl⟩ := e'
  have hl : (xs.take n).length = n := by simp; omega
  obtain ⟨g, o, e, hg, hc⟩ := hcell (by intro e; subst e; simp at h; omega)
  refine ⟨ao, n, by rw [hl], ⟨by omega, fun e0 => by rw [e0] at e; cases e⟩, by omega, fun x hx => hz x (List.mem_of_mem_take hx), fun _ => ⟨g, o, e, hg, fun i x hi => hc i x ?_⟩⟩
  rw [List.getElem?_take] at hi
  split at hi
  · exact hi
  · cases hi

set_option maxHeartbeats 800000 in
theorem upto7_any (g o n cap v : Nat) (w : World) (hv : v < n) (hc : n ≤ cap) (hn : n ≤ 3000) :
    Calls Tryd.prog 30 #[.agg #[.slice (some ⟨g, o, none⟩) n cap], .int .i64 (v : Int)] w fun e w' => e = .returned (.agg #[.slice (some ⟨g, o, none⟩) (v + 1) (v + 1)]) ∧ Below w.heap.size w w' := by
  go_enter Tryd.func30, Tryd.ntmps30
  go_wp2
  exact bodyPost_ret (results_cell_row rfl _ _ (w.heap.size + 1) 26 _ (0, 0) _ rfl (heap_alloc2_new _ _ _) Tryd.underlying26 rfl Tryd.sizeP) rfl ⟨rfl, below2 w _ _⟩
end Go.Proofs.YtnhepegkjejfcaaDoor
