/-
  Contracts of both GripGood and of the laws' helpers on grips; the law FnExactGripGood, walked; what a grip that came in reads as. No condition.
-/
import Derived.Test.YtdlbgdckkjhbdabLsM
import Derived.Test.YtdlbgdckkjhbdabArg2
namespace Go.Proofs.Ytdlbgdckkjhbdab
open Go.RowKit

theorem Try.sizeGrip : (Try.prog.info? 25).map (·.size) = some 2 := by kernel_rfl
theorem Try.sizeLGrip : (Try.prog.info? 23).map (·.size) = some 2 := by kernel_rfl

set_option maxHeartbeats 400000 in
theorem igripgood_any (i u n : Int) (w : World) :
    Calls Try.prog 7 #[.agg #[.int .i64 i, .int .i64 u], .int .i64 n] w fun e w' => e = .returned (.bool (decide (n ≤ u))) ∧ Below w.heap.size w w' := by
  have hB : Below w.heap.size w (w.alloc (Obj.cells #[.int .i64 i, .int .i64 u] 25)) := (Below.refl _ _).alloc (Nat.le_refl _) _
  have MC := fun w => mcovers_any u n w
  generalize decide (n ≤ u) = r at *
  go_enter Try.func7, Try.ntmps7
  go_wp2_with fail
  refine (MC _).mono ?_
  rintro e w1 ⟨rfl, hb1⟩
  have hB1 := hB.trans (hb1.mono hB.size)
  go_wp2
  go_ret
  exact ⟨rfl, hB1⟩

set_option maxHeartbeats 400000 in
theorem sgripgood_any (i u n : Int) (w : World) :
    Calls Try.prog 5 #[.agg #[.int .i64 i, .int .i64 u], .int .i64 n] w fun e w' => e = .returned (.bool (decide (n ≤ u))) ∧ Below w.heap.size w w' := by
  have hB : Below w.heap.size w (w.alloc (Obj.cells #[.int .i64 i, .int .i64 u] 25)) := (Below.refl _ _).alloc (Nat.le_refl _) _
  obtain ⟨r, hr⟩ : ∃ r, decide (n ≤ u) = r := ⟨_, rfl⟩
  rw [hr]
  by_cases h : n ≤ u
  · have HR : Hid (r = true) := by unfold Hid; rw [← hr]; simpa using h
    clear hr
    go_enter Try.func5, Try.ntmps5
    go_wp2
    go_ret
    exact ⟨retB HR.out.symm, hB⟩
  · have HR : Hid (r = false) := by unfold Hid; rw [← hr]; simpa using h
    clear hr
    go_enter Try.func5, Try.ntmps5
    go_wp2
    go_ret
    exact ⟨retB HR.out.symm, hB⟩

set_option maxHeartbeats 400000 in
theorem togrip_any (i u : Int) (w : World) :
    Calls Try.prog 6 #[.agg #[.int .i64 i, .int .i64 u]] w fun e w' => e = .returned (.agg #[.int .i64 i, .int .i64 u]) ∧ Below w.heap.size w w' := by
  go_enter Try.func6, Try.ntmps6
  go_wp2
  exact bodyPost_ret (results_cell_row rfl _ _ (w.heap.size + 1) 25 _ (0, 0) _ rfl ((heap_alloc_old _ _ (by simp)).trans (heap_alloc2_new _ _ _)) Try.underlying25 rfl Try.sizeGrip) rfl
    ⟨rfl, (((Below.refl _ _).alloc (Nat.le_refl _) _).alloc (by simp) _).alloc (by simp; omega) _⟩

set_option maxHeartbeats 800000 in
theorem lgripgood_any (i u n : Int) (w : World) :
    Calls Try.prog 3 #[.agg #[.int .i64 i, .int .i64 u], .int .i64 n] w fun e w' => e = .returned (.bool true) ∧ Below w.heap.size w w' := by
  have hB : Below w.heap.size w (w.alloc (Obj.cells #[.int .i64 i, .int .i64 u] 23)) := (Below.refl _ _).alloc (Nat.le_refl _) _
  have IG := fun w => igripgood_any i u n w
  have SG := fun w => sgripgood_any i u n w
  generalize decide (n ≤ u) = r at *
  have rr : (r != r) = false := by simp
  go_enter Try.func3, Try.ntmps3
  go_wp2_with fail
  refine (togrip_any i u _).mono ?_
  rintro e w1 ⟨rfl, hb1⟩
  have hx1 : w1.heap[w.heap.size]? = some (.cells #[.int .i64 i, .int .i64 u] 23 (0, 0)) := (hb1.block _ (by simp)).trans (heap_alloc_new _ _)
  have hB1 := hB.trans (hb1.mono hB.size)
  clear hb1 hB
  go_wp2_with fail
  refine (SG _).mono ?_
  rintro e w2 ⟨rfl, hb2⟩
  have hx2 := (hb2.block _ (Array.getElem?_eq_some_iff.1 hx1).1).trans hx1
  have hB2 := hB1.trans (hb2.mono hB1.size)
  clear hb2 hB1 hx1
  go_wp2_with (refine wpList_load_row rfl 23 _ rfl w.heap.size rfl 23 #[.int .i64 i, .int .i64 u] (0, 0) _ hx2 Try.underlying23 rfl Try.sizeLGrip ?_)
  refine (togrip_any i u _).mono ?_
  rintro e w3 ⟨rfl, hb3⟩
  have hB3 := hB2.trans (hb3.mono hB2.size)
  clear hb3 hB2 hx2
  go_wp2_with fail
  refine (IG _).mono ?_
  rintro e w4 ⟨rfl, hb4⟩
  have hB4 := hB3.trans (hb4.mono hB3.size)
  clear hb4 hB3
  go_wp2
  go_ret
  exact ⟨rfl, hB4⟩

section
open Go.ChangeShapes Go.WideShapes Go.ChangeAt Go.Deep
variable {H : Type} {enc : TypeId × Value → H} {w : World} {base : Nat} {spare : Nat → Bool} {held : Bool}
set_option maxRecDepth 100000 in
theorem open_grip {v : Value} {d : DataW H} {p : List MemPlace} (hv : Value.okWide Try.prog w .any base 23 v) (h : DataW.Trod enc Try.prog w 0 (fun _ => true) true 23 v d p) :
    ∃ i u : Int, v = .agg #[.int .i64 i, .int .i64 u] := by
  obtain ⟨cs, rfl, hsz⟩ := okWide_struct Try.underlying23 hv
  rw [show Try.prog.cellsOf 23 = 2 by kernel_rfl] at hsz
  obtain ⟨fuel, hf⟩ := h
  obtain ⟨v0, v1, rfl⟩ : ∃ v0 v1, cs = #[v0, v1] := by
    obtain ⟨l⟩ := cs
    match l, hsz with
    | [v0, v1], _ => exact ⟨v0, v1, rfl⟩
  obtain ⟨xs, n, _, _, hl, hlen, hff⟩ := DataW.trod_struct Try.underlying23 hf
  have g0 := hff 0 _ rfl
  have g1 := hff 1 _ rfl
  have i0 : Try.prog.cellsOf 3 = 1 := by kernel_rfl
  match xs, hlen with
  | [y0, y1], _ =>
    simp [Value.cells, i0] at g0 g1
    obtain ⟨m0, e0, _⟩ := DataW.trod_int Try.underlying3 g0
    obtain ⟨m1, e1, _⟩ := DataW.trod_int Try.underlying3 g1
    simp only [List.cons.injEq, and_true] at e0 e1
    subst e0 e1
    exact ⟨m0, m1, rfl⟩
end
end Go.Proofs.Ytdlbgdckkjhbdab
