/-
  Contract of the draw DrawLinkTake. No condition.
-/
import Derived.Test.YtkhokfkcicaojaaDLk2
import Derived.Test.YtkhokfkcicaojaaLkAckM
import Derived.Test.YtkhokfkcicaojaaDLk3
import Derived.Deep.RegionHeld3
namespace Go.Proofs.Ytkhokfkcicaojaa
open Go.RowKit

theorem blkne7 {w : World} {B : Nat} {o : Obj} {v : Value} {j : Nat} {D : Nat} (h : w.heap[B]? = some o) (hne : D ≠ B) : (w.setCell ⟨D, j, none⟩ v).heap[B]? = some o := (heap_setCell_other w ⟨D, j, none⟩ B v (fun e => hne e.symm)).trans h
theorem results_two_rows {P : Program} {fn : Func} {p q : Tmp} {ty ty' : TypeId} (h : fn.results = #[.cell p ty, .cell q ty']) (tmps : Array Value) (w : World) (g : Nat) (t : TypeId) (cs : Array Value) (fr : Nat × Nat) (d : TypeDesc)
    (hp : tmps.getD p undef = .pointer (some ⟨g, 0, none⟩)) (hg : w.heap[g]? = some (.cells cs t fr)) (hu : P.underlying ty = some d) (hd : (match d with | .struct _ | .array _ _ => true | _ => false) = true) (hi : (P.info? ty).map (·.size) = some cs.size)
    (g' : Nat) (t' : TypeId) (cs' : Array Value) (fr' : Nat × Nat) (d' : TypeDesc) (hp' : tmps.getD q undef = .pointer (some ⟨g', 0, none⟩)) (hg' : w.heap[g']? = some (.cells cs' t' fr')) (hu' : P.underlying ty' = some d') (hd' : (match d' with | .struct _ | .array _ _ => true | _ => false) = true) (hi' : (P.info? ty').map (·.size) = some cs'.size) :
    (results fn tmps).run P w = .ok (.tuple #[.agg cs, .agg cs']) w := by
  have e : tmps[p]?.getD undef = .pointer (some ⟨g, 0, none⟩) := by simpa using hp
  have e' : tmps[q]?.getD undef = .pointer (some ⟨g', 0, none⟩) := by simpa using hp'
  simp [results, h, e, e', asAddr, run_loadVar_row w g t ty cs fr d hg hu hd hi, run_loadVar_row w g' t' ty' cs' fr' d' hg' hu' hd' hi']
/-- A link and a piece, each into its result's variable. -/
theorem put7 {W : World} {r : Nat} {t t' : TypeId} {o0 o1 o2 o3 o4 p0 p1 : Value} (n0 n1 n2 n3 n4 : Value) (h : W.heap[r]? = some (.cells #[o0, o1, o2, o3, o4] t (0, 0))) (h' : W.heap[r + 1]? = some (.cells #[p0, p1] t' (0, 0))) (x y : Value) :
    (((((((W.setCell ⟨r, 0, none⟩ n0).setCell ⟨r, 1, none⟩ n1).setCell ⟨r, 2, none⟩ n2).setCell ⟨r, 3, none⟩ n3).setCell ⟨r, 4, none⟩ n4).setCell ⟨r + 1, 0, none⟩ x).setCell ⟨r + 1, 1, none⟩ y).heap[r]? = some (.cells #[n0, n1, n2, n3, n4] t (0, 0)) ∧
    (((((((W.setCell ⟨r, 0, none⟩ n0).setCell ⟨r, 1, none⟩ n1).setCell ⟨r, 2, none⟩ n2).setCell ⟨r, 3, none⟩ n3).setCell ⟨r, 4, none⟩ n4).setCell ⟨r + 1, 0, none⟩ x).setCell ⟨r + 1, 1, none⟩ y).heap[r + 1]? = some (.cells #[x, y] t' (0, 0)) ∧
    Below r W (((((((W.setCell ⟨r, 0, none⟩ n0).setCell ⟨r, 1, none⟩ n1).setCell ⟨r, 2, none⟩ n2).setCell ⟨r, 3, none⟩ n3).setCell ⟨r, 4, none⟩ n4).setCell ⟨r + 1, 0, none⟩ x).setCell ⟨r + 1, 1, none⟩ y) ∧
    (∃ W1, W.grownBy W1 (some r) ∧ W1.grownBy (((((((W.setCell ⟨r, 0, none⟩ n0).setCell ⟨r, 1, none⟩ n1).setCell ⟨r, 2, none⟩ n2).setCell ⟨r, 3, none⟩ n3).setCell ⟨r, 4, none⟩ n4).setCell ⟨r + 1, 0, none⟩ x).setCell ⟨r + 1, 1, none⟩ y) (some (r + 1))) := by
  obtain ⟨hv, hb, hs, ho⟩ := five_set n0 n1 n2 n3 n4 h
  have e1 := (ho (r + 1) (by omega)).trans h'
  have e2 := heap_setCell_same _ (r + 1) 0 _ _ x e1
  have e3 := heap_setCell_same _ (r + 1) 1 _ _ y e2
  refine ⟨blkne7 (blkne7 hv (by omega)) (by omega), e3, (hb.setCell (p := ⟨r + 1, 0, none⟩) (by show r ≤ r + 1; omega) x).setCell (p := ⟨r + 1, 1, none⟩) (by show r ≤ r + 1; omega) y, _, ?_, grown_trans (grown_set _ (r + 1) 0 x) (grown_set _ (r + 1) 1 y)⟩
  exact grown_trans (grown_trans (grown_trans (grown_trans (grown_set W r 0 n0) (grown_set _ r 1 n1)) (grown_set _ r 2 n2)) (grown_set _ r 3 n3)) (grown_set _ r 4 n4)
theorem gr_below {w w' : World} {row : Option Nat} (hb : Below w.heap.size w w') : w.grownBy w' row := ⟨hb.os, hb.tape, hb.output, hb.size, fun i hi _ => hb.block i hi⟩

theorem picks3 (w0 : World) (v : Value) (zs : List Int) (w : World) (P g : Nat) (c : Cur w0 v zs w P) (hg : g ≠ P) (hc : w.heap[g]? = some (.cells #[Value.string ⟨#[]⟩, Value.string ⟨#[97]⟩, Value.string ⟨#[98, 98]⟩] 9 (0, 0))) :
    Calls Try.prog 20 #[.pointer (some ⟨P, 0, none⟩), .slice (some ⟨g, 0, none⟩) 3 3] w fun e w' => ∃ s : ByteArray, s.size ≤ maxLen ∧ e = .returned (.string s) ∧ Cur w0 v zs w' P ∧ w.grownBy w' (some P) := by
  refine (picks_any w0 v zs w P g 3 [ByteArray.mk #[], ByteArray.mk #[97], ByteArray.mk #[98, 98]] c hg (by decide) (by decide) ?_).mono ?_
  · intro j hj
    rw [cell_of_row _ g j _ _ _ hc]
    match j, hj with
    | 0, _ => rfl
    | 1, _ => rfl
    | 2, _ => rfl
  · rintro e w' ⟨s, hs, rfl, c', g'⟩
    refine ⟨s, ?_, rfl, c', g'⟩
    unfold maxLen
    simp only [List.mem_cons, List.not_mem_nil, or_false] at hs
    rcases hs with rfl | rfl | rfl <;> decide

set_option maxRecDepth 100000 in
set_option maxHeartbeats 6400000 in
theorem dlinktake_any (v : Value) (zs : List Int) (w : World) (R : Row w v zs) (hl : zs.length ≤ 1048576) :
    Calls Try.prog 6 #[v] w fun e w' => ∃ (l : Lk) (v1 v2 : Value) (x : Pc), e = .returned (.tuple #[.agg #[.int .i64 l.sent, .int .i64 l.acked, v1, .int .i64 l.got, v2], .agg #[.int .i64 x.n, .string x.s]]) ∧ x.s.size ≤ maxLen ∧ Lkd w w' l v1 v2 := by
  have R' := R
  obtain ⟨ao, cap, rfl, _⟩ := R'
  have hBz : Below w.heap.size w ((w.alloc (.cells #[.int .i64 0, .int .i64 0, .slice none 0 0, .int .i64 0, .slice none 0 0] 27)).alloc (.cells #[.int .i64 0, .string ⟨#[]⟩] 29)) := ((Below.refl _ _).alloc (Nat.le_refl _) _).alloc (by simp) _
  have hrz : ((w.alloc (.cells #[.int .i64 0, .int .i64 0, .slice none 0 0, .int .i64 0, .slice none 0 0] 27)).alloc (.cells #[.int .i64 0, .string ⟨#[]⟩] 29)).heap[w.heap.size]? = some (.cells #[.int .i64 0, .int .i64 0, .slice none 0 0, .int .i64 0, .slice none 0 0] 27 (0, 0)) := (heap_alloc_old _ _ (by simp)).trans (heap_alloc_new _ _)
  have hpz : ((w.alloc (.cells #[.int .i64 0, .int .i64 0, .slice none 0 0, .int .i64 0, .slice none 0 0] 27)).alloc (.cells #[.int .i64 0, .string ⟨#[]⟩] 29)).heap[w.heap.size + 1]? = some (.cells #[.int .i64 0, .string ⟨#[]⟩] 29 (0, 0)) := heap_alloc2_new _ _ _
  have hPP : ((w.alloc (.cells #[.int .i64 0, .int .i64 0, .slice none 0 0, .int .i64 0, .slice none 0 0] 27)).alloc (.cells #[.int .i64 0, .string ⟨#[]⟩] 29)).heap.size = w.heap.size + 2 := by simp
  have hR0 := R.below hBz
  go_enter Try.func6, Try.ntmps6
  go_wp2_with fail
  refine (new_any _ zs _ hR0 hl).mono ?_
  rintro e w1 ⟨rfl, c1', hb1⟩
  have hr1 : w1.heap[w.heap.size]? = some (.cells #[.int .i64 0, .int .i64 0, .slice none 0 0, .int .i64 0, .slice none 0 0] 27 (0, 0)) := (hb1.block _ (by rw [hPP]; omega)).trans hrz
  have hp1 : w1.heap[w.heap.size + 1]? = some (.cells #[.int .i64 0, .string ⟨#[]⟩] 29 (0, 0)) := (hb1.block _ (by rw [hPP]; omega)).trans hpz
  have hB1 := hBz.trans (hb1.mono hBz.size)
  rw [hPP] at c1'
  clear hBz hb1 hrz hpz hR0
  go_wp2_with fail
  refine (d10draw_any _ _ zs w1 (w.heap.size + 2) c1').mono ?_
  rintro e w2 ⟨l, v1, v2, rfl, q2, h2, nq, nh, zq, zh, c2', g2⟩
  obtain ⟨a1, c1, rfl⟩ := q2.form
  obtain ⟨a2, c2, rfl⟩ := own_form h2
  have hlw := (Array.getElem?_eq_some_iff.1 hr1).1
  have hlp := (Array.getElem?_eq_some_iff.1 hp1).1
  have hP1 := c1'.lt
  have hr2 := (g2.block _ hlw (by simp)).trans hr1
  have hp2 := (g2.block _ hlp (by simp)).trans hp1
  have hB2 : Below w.heap.size w w2 := hB1.grown g2 hB1.size (fun k hk => by cases hk; omega)
  have hs12 := g2.size
  clear hB1 hr1 hp1 g2 c1' hPP
  go_wp2_with (refine wpList_store_own2 rfl 27 _ _ rfl w2.heap.size #[.int .i64 l.sent, .int .i64 l.acked, .slice a1 l.q.length c1, .int .i64 l.got, .slice a2 l.h.length c2] rfl rfl 27 _ (heap_alloc_new _ _) Try.sizeLk rfl (by simp [Value.oneCell']) ?_)
  intro w3 hn3 hbg3 hs3 ho3
  clear hs3 ho3
  have hb3 : Below w2.heap.size w2 w3 := ((Below.refl _ _).alloc (Nat.le_refl _) _).trans hbg3
  have hr3 := (hb3.block _ (Array.getElem?_eq_some_iff.1 hr2).1).trans hr2
  have hp3 := (hb3.block _ (Array.getElem?_eq_some_iff.1 hp2).1).trans hp2
  have q3 := q2.below hb3
  have h3 := own_below h2 hb3
  have hB3 := hB2.trans (hb3.mono hB2.size)
  have c3 := c2'.kept (hb3.mono (by omega))
  have hl2 : w.heap.size + 2 < w2.heap.size := by omega
  have hn3s : w2.heap.size < w3.heap.size := (Array.getElem?_eq_some_iff.1 hn3).1
  clear hbg3 hb3 hr2 hp2 q2 h2 hB2 c2'
  generalize w2.heap.size = b at *
  have hBA : Below w3.heap.size w3 ((w3.alloc (.cells #[Value.string ⟨#[]⟩, Value.string ⟨#[97]⟩, Value.string ⟨#[98, 98]⟩] 9)).drew) := ((Below.refl _ _).alloc (Nat.le_refl _) _).drew
  have hBB : Below w3.heap.size w3 w3.drew := (Below.refl _ _).drew
  have cA := c3.kept (hBA.mono (by omega))
  have cB := c3.kept (hBB.mono (by omega))
  have hnA := (hBA.block _ hn3s).trans hn3
  have hSA : ((w3.alloc (.cells #[Value.string ⟨#[]⟩, Value.string ⟨#[97]⟩, Value.string ⟨#[98, 98]⟩] 9)).drew).heap[w3.heap.size]? = some (.cells #[Value.string ⟨#[]⟩, Value.string ⟨#[97]⟩, Value.string ⟨#[98, 98]⟩] 9 (0, 0)) := heap_alloc_new w3 _
  have n1 : w.heap.size ≠ b := by omega
  have n2 : w.heap.size + 1 ≠ b := by omega
  have dS1 : 1 ≤ [ByteArray.mk #[], ByteArray.mk #[97], ByteArray.mk #[98, 98]].length := by decide
  have dS2 : [ByteArray.mk #[], ByteArray.mk #[97], ByteArray.mk #[98, 98]].length ≤ 1048576 := by decide
  have hbP : (some b : Option Nat) ≠ some (w.heap.size + 2) := by simp; omega
  have hwP : (some w3.heap.size : Option Nat) ≠ some (w.heap.size + 2) := by simp; omega
  have LBA := below_any _ _ zs _ (w.heap.size + 2) 7 cA (by omega)
  have LBB := below_any _ _ zs _ (w.heap.size + 2) 7 cB (by omega)
  have hbox : ∀ w' : World, w'.heap[b]? = some (.cells #[.int .i64 l.sent, .int .i64 l.acked, .slice a1 l.q.length c1, .int .i64 l.got, .slice a2 l.h.length c2] 27 (0, 0)) → w'.cell? ⟨b, 0, none⟩ = some (.int .i64 l.sent) ∧ w'.cell? ⟨b, 1, none⟩ = some (.int .i64 l.acked) ∧ w'.cell? ⟨b, 2, none⟩ = some (.slice a1 l.q.length c1) ∧ w'.cell? ⟨b, 3, none⟩ = some (.int .i64 l.got) ∧ w'.cell? ⟨b, 4, none⟩ = some (.slice a2 l.h.length c2) := fun w' h => ⟨cell_of_row _ _ 0 _ _ _ h, cell_of_row _ _ 1 _ _ _ h, cell_of_row _ _ 2 _ _ _ h, cell_of_row _ _ 3 _ _ _ h, cell_of_row _ _ 4 _ _ _ h⟩
  have zbox : ∀ w' : World, w'.heap[w.heap.size]? = some (.cells #[.int .i64 0, .int .i64 0, .slice none 0 0, .int .i64 0, .slice none 0 0] 27 (0, 0)) → w'.cell? ⟨w.heap.size, 0, none⟩ = some (.int .i64 0) ∧ w'.cell? ⟨w.heap.size, 1, none⟩ = some (.int .i64 0) ∧ w'.cell? ⟨w.heap.size, 2, none⟩ = some (.slice none 0 0) ∧ w'.cell? ⟨w.heap.size, 3, none⟩ = some (.int .i64 0) ∧ w'.cell? ⟨w.heap.size, 4, none⟩ = some (.slice none 0 0) ∧ w'.frozen? ⟨w.heap.size, 0, none⟩ = false ∧ w'.frozen? ⟨w.heap.size, 1, none⟩ = false ∧ w'.frozen? ⟨w.heap.size, 2, none⟩ = false ∧ w'.frozen? ⟨w.heap.size, 3, none⟩ = false ∧ w'.frozen? ⟨w.heap.size, 4, none⟩ = false := fun w' h => ⟨cell_of_row _ _ 0 _ _ _ h, cell_of_row _ _ 1 _ _ _ h, cell_of_row _ _ 2 _ _ _ h, cell_of_row _ _ 3 _ _ _ h, cell_of_row _ _ 4 _ _ _ h, frozen_of_row _ _ 0 _ _ h, frozen_of_row _ _ 1 _ _ h, frozen_of_row _ _ 2 _ _ h, frozen_of_row _ _ 3 _ _ h, frozen_of_row _ _ 4 _ _ h⟩
  have pbox : ∀ w' : World, w'.heap[w.heap.size + 1]? = some (.cells #[.int .i64 0, .string ⟨#[]⟩] 29 (0, 0)) → w'.cell? ⟨w.heap.size + 1, 0, none⟩ = some (.int .i64 0) ∧ w'.cell? ⟨w.heap.size + 1, 1, none⟩ = some (.string ⟨#[]⟩) ∧ w'.frozen? ⟨w.heap.size + 1, 0, none⟩ = false ∧ w'.frozen? ⟨w.heap.size + 1, 1, none⟩ = false := fun w' h => ⟨cell_of_row _ _ 0 _ _ _ h, cell_of_row _ _ 1 _ _ _ h, frozen_of_row _ _ 0 _ _ h, frozen_of_row _ _ 1 _ _ h⟩
  have sS : w3.cell? ⟨b, 0, none⟩ = some (.int .i64 l.sent) ∧ w3.cell? ⟨b, 1, none⟩ = some (.int .i64 l.acked) ∧ w3.cell? ⟨b, 2, none⟩ = some (.slice a1 l.q.length c1) ∧ w3.cell? ⟨b, 3, none⟩ = some (.int .i64 l.got) ∧ w3.cell? ⟨b, 4, none⟩ = some (.slice a2 l.h.length c2) := ⟨cell_of_row _ _ 0 _ _ _ hn3, cell_of_row _ _ 1 _ _ _ hn3, cell_of_row _ _ 2 _ _ _ hn3, cell_of_row _ _ 3 _ _ _ hn3, cell_of_row _ _ 4 _ _ _ hn3⟩
  have sA : ((w3.alloc (.cells #[Value.string ⟨#[]⟩, Value.string ⟨#[97]⟩, Value.string ⟨#[98, 98]⟩] 9)).drew).cell? ⟨b, 0, none⟩ = some (.int .i64 l.sent) ∧ ((w3.alloc (.cells #[Value.string ⟨#[]⟩, Value.string ⟨#[97]⟩, Value.string ⟨#[98, 98]⟩] 9)).drew).cell? ⟨b, 1, none⟩ = some (.int .i64 l.acked) ∧ ((w3.alloc (.cells #[Value.string ⟨#[]⟩, Value.string ⟨#[97]⟩, Value.string ⟨#[98, 98]⟩] 9)).drew).cell? ⟨b, 2, none⟩ = some (.slice a1 l.q.length c1) ∧ ((w3.alloc (.cells #[Value.string ⟨#[]⟩, Value.string ⟨#[97]⟩, Value.string ⟨#[98, 98]⟩] 9)).drew).cell? ⟨b, 3, none⟩ = some (.int .i64 l.got) ∧ ((w3.alloc (.cells #[Value.string ⟨#[]⟩, Value.string ⟨#[97]⟩, Value.string ⟨#[98, 98]⟩] 9)).drew).cell? ⟨b, 4, none⟩ = some (.slice a2 l.h.length c2) := ⟨cell_of_row _ _ 0 _ _ _ hnA, cell_of_row _ _ 1 _ _ _ hnA, cell_of_row _ _ 2 _ _ _ hnA, cell_of_row _ _ 3 _ _ _ hnA, cell_of_row _ _ 4 _ _ _ hnA⟩
  go_wp2_with fail
  go_region_held3 (fun w' => w'.cell? ⟨b, 0, none⟩ = some (.int .i64 l.sent) ∧ w'.cell? ⟨b, 1, none⟩ = some (.int .i64 l.acked) ∧ w'.cell? ⟨b, 2, none⟩ = some (.slice a1 l.q.length c1) ∧ w'.cell? ⟨b, 3, none⟩ = some (.int .i64 l.got) ∧ w'.cell? ⟨b, 4, none⟩ = some (.slice a2 l.h.length c2)) (first | with_reducible exact s5 | with_reducible exact sC | with_reducible exact s4 | with_reducible exact sA | go_keep) (first
    | (go_at_call 19; first
      | (with_reducible refine (LBB).mono ?_; rintro e w4 ⟨x, rfl, hx0, hx1, c4, g4⟩; have g34 : w3.grownBy w4 (some (w.heap.size + 2)) := grown_trans (gr_below hBB) g4; have hn4 := (g34.block b hn3s hbP).trans hn3; have hs34 := g34.size; have s4 := hbox w4 hn4; have hBC : Below w4.heap.size w4 (w4.alloc (.cells #[Value.string ⟨#[]⟩, Value.string ⟨#[97]⟩, Value.string ⟨#[98, 98]⟩] 9)) := (Below.refl _ _).alloc (Nat.le_refl _) _; have hnC := (hBC.block b (by omega)).trans hn4; have cC := c4.kept (hBC.mono (by omega)); have sC := hbox _ hnC)
      | (change Calls _ _ _ ((w3.alloc (.cells #[Value.string ⟨#[]⟩, Value.string ⟨#[97]⟩, Value.string ⟨#[98, 98]⟩] 9)).drew) _; (with_reducible refine (LBA).mono ?_; rintro e w4 ⟨x, rfl, hx0, hx1, c4, g4⟩; have g34 : w3.grownBy w4 (some (w.heap.size + 2)) := grown_trans (gr_below hBA) g4; have hn4 := (g34.block b hn3s hbP).trans hn3; have hs34 := g34.size; have s4 := hbox w4 hn4; have hS4 := (g4.block _ (Array.getElem?_eq_some_iff.1 hSA).1 hwP).trans hSA))
      | (trace_state; fail))
    | (go_at_call 20; first
      | (have LP := picks3 _ _ zs w4 (w.heap.size + 2) w3.heap.size c4 (by omega) hS4; with_reducible refine LP.mono ?_; rintro e w5 ⟨s, hs, rfl, c5, g5⟩; have g35 : w3.grownBy w5 (some (w.heap.size + 2)) := grown_trans g34 g5; have hn5 := (g35.block b hn3s hbP).trans hn3; have hr5 := (g35.block w.heap.size (by omega) (by simp)).trans hr3; have hp5 := (g35.block (w.heap.size + 1) (by omega) (by simp)).trans hp3; have s5 := hbox w5 hn5; obtain ⟨z0, z1, z2, z3, z4, f0, f1, f2, f3, f4⟩ := zbox w5 hr5; obtain ⟨u0, u1, d0, d1⟩ := pbox w5 hp5)
      | (have LP := picks3 _ _ zs _ (w.heap.size + 2) w4.heap.size cC (by omega) (heap_alloc_new w4 _); with_reducible refine LP.mono ?_; rintro e w5 ⟨s, hs, rfl, c5, g5⟩; have g35 : w3.grownBy w5 (some (w.heap.size + 2)) := grown_trans (grown_trans g34 (gr_below hBC)) g5; have hn5 := (g35.block b hn3s hbP).trans hn3; have hr5 := (g35.block w.heap.size (by omega) (by simp)).trans hr3; have hp5 := (g35.block (w.heap.size + 1) (by omega) (by simp)).trans hp3; have s5 := hbox w5 hn5; obtain ⟨z0, z1, z2, z3, z4, f0, f1, f2, f3, f4⟩ := zbox w5 hr5; obtain ⟨u0, u1, d0, d1⟩ := pbox w5 hp5)))
  all_goals
    have T := put7 (.int .i64 l.sent) (.int .i64 l.acked) (.slice a1 l.q.length c1) (.int .i64 l.got) (.slice a2 l.h.length c2) hr5 hp5
    have q5 := q3.grow g35 (by omega)
    have h5 := h3.kept g35 (own_nt h3 (by omega))
    have hB5 : Below w.heap.size w w5 := hB3.grown g35 hB3.size (fun k hk => by cases hk; omega)
    have hs' : s.size ≤ maxLen := hs
    have FIN : ∀ n : Value, ∃ wx, wx = ((((((w5.setCell ⟨w.heap.size, 0, none⟩ (.int .i64 l.sent)).setCell ⟨w.heap.size, 1, none⟩ (.int .i64 l.acked)).setCell ⟨w.heap.size, 2, none⟩ (.slice a1 l.q.length c1)).setCell ⟨w.heap.size, 3, none⟩ (.int .i64 l.got)).setCell ⟨w.heap.size, 4, none⟩ (.slice a2 l.h.length c2)).setCell ⟨w.heap.size + 1, 0, none⟩ n).setCell ⟨w.heap.size + 1, 1, none⟩ (.string s) ∧ wx.heap[w.heap.size]? = some (.cells #[.int .i64 l.sent, .int .i64 l.acked, .slice a1 l.q.length c1, .int .i64 l.got, .slice a2 l.h.length c2] 27 (0, 0)) ∧ wx.heap[w.heap.size + 1]? = some (.cells #[n, .string s] 29 (0, 0)) ∧ StRow wx (.slice a1 l.q.length c1) l.q ∧ PcRow wx (.slice a2 l.h.length c2) l.h ∧ Below w.heap.size w wx := by
      intro n
      obtain ⟨t1, t2, t3, W1, t4, t5⟩ := T n (.string s)
      exact ⟨_, rfl, t1, t2, (((q5.grow t4 (by omega)).grow t5 (by omega))).row (by omega) zq, PcRow.of_own ((h5.kept t4 (own_nt h5 (by omega))).kept t5 (own_nt (h5.kept t4 (own_nt h5 (by omega))) (by omega))) (by omega) zh, hB5.trans t3⟩
    clear T q5 h5 hB5
    go_wp2_with fail
    obtain ⟨wx, ewx, i1, i2, i3, i4, i5⟩ := FIN (.int .i64 (IntKind.i64.wrap (IntKind.i64.wrap (l.got + x) - 1)))
    subst ewx
    exact bodyPost_ret (results_two_rows rfl _ _ w.heap.size 27 #[.int .i64 l.sent, .int .i64 l.acked, .slice a1 l.q.length c1, .int .i64 l.got, .slice a2 l.h.length c2] (0, 0) _ rfl i1 Try.underlying27 rfl Try.sizeLk (w.heap.size + 1) 29 #[.int .i64 (IntKind.i64.wrap (IntKind.i64.wrap (l.got + x) - 1)), .string s] (0, 0) _ rfl i2 Try.underlying29 rfl Try.sizePc) rfl ⟨l, _, _, ⟨IntKind.i64.wrap (IntKind.i64.wrap (l.got + x) - 1), s⟩, rfl, hs', i3, i4, nq, nh, zq, zh, i5⟩
end Go.Proofs.Ytkhokfkcicaojaa
