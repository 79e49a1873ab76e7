/-
  Contracts of both DeedOk; the law FnExactDeedOk, walked; what a deed that came in reads as. No condition.
-/
import Derived.Test.YtkoiccocgejmcaaDoorRows
import Derived.WalkKit
import Derived.WalkLawsBesides
import Derived.WalkSpells
import Derived.Deep.QuietTactic
import Derived.BigQuiet
import Derived.ProofKit
import Derived.OpenShut
import Derived.ShutString
import Derived.ChangeOld
import Derived.Below
import Derived.Deep.Slices
import Derived.ChangeSame
namespace Go.Proofs.YtkoiccocgejmcaaDoor
open Go.RowKit

theorem retB' {p q : Bool} (h : p = q) : Ending.returned (.bool p) = .returned (.bool q) := by rw [h]
theorem Tryd.sizeDeed : (Tryd.prog.info? 26).map (·.size) = some 3 := by kernel_rfl
theorem Tryd.sizeLDeed : (Tryd.prog.info? 23).map (·.size) = some 3 := by kernel_rfl

/-- Which deeds are right. -/
def dokB (k a b : Int) : Bool := !decide (a < 0) && !decide (b < 0) && (if k = 1 then decide (b ≤ 50) else if k = 2 then true else if k = 3 ∨ k = 4 ∨ k = 5 then decide (b = 0) else false)

set_option maxHeartbeats 800000 in
theorem ideedok_any (k a b : Int) (w : World) :
    Calls Tryd.prog 15 #[.agg #[.int .i64 k, .int .i64 a, .int .i64 b]] w fun e w' => e = .returned (.bool (dokB k a b)) ∧ Below w.heap.size w w' := by
  have hB : Below w.heap.size w (w.alloc (Obj.cells #[.int .i64 k, .int .i64 a, .int .i64 b] 26)) := (Below.refl _ _).alloc (Nat.le_refl _) _
  obtain ⟨r, hr⟩ : ∃ r, dokB k a b = r := ⟨_, rfl⟩
  rw [hr]
  by_cases h1 : a < 0
  · skip
    have HR : Hid (false = r) := by unfold Hid; rw [← hr]; unfold dokB; simp [h1]
    clear hr
    go_enter Tryd.func15, Tryd.ntmps15
    go_wp2
    go_ret
    exact ⟨retB' HR.out, hB⟩
  · skip
    by_cases h2 : b < 0
    · skip
      have HR : Hid (false = r) := by unfold Hid; rw [← hr]; unfold dokB; simp [h1, h2]
      clear hr
      go_enter Tryd.func15, Tryd.ntmps15
      go_wp2
      go_ret
      exact ⟨retB' HR.out, hB⟩
    · skip
      by_cases g1 : k = 1
      · skip
        subst g1
        have HR : Hid (decide (b ≤ 50) = r) := by unfold Hid; rw [← hr]; unfold dokB; simp [h1, h2]
        clear hr
        go_enter Tryd.func15, Tryd.ntmps15
        go_wp2
        go_ret
        exact ⟨retB' HR.out, hB⟩
      · skip
        by_cases g2 : k = 2
        · skip
          subst g2
          have HR : Hid (true = r) := by unfold Hid; rw [← hr]; unfold dokB; simp [h1, h2]
          clear hr
          go_enter Tryd.func15, Tryd.ntmps15
          go_wp2
          go_ret
          exact ⟨retB' HR.out, hB⟩
        · skip
          by_cases g3 : k = 3
          · skip
            subst g3
            have HR : Hid (decide (b = 0) = r) := by unfold Hid; rw [← hr]; unfold dokB; simp [h1, h2]
            clear hr
            go_enter Tryd.func15, Tryd.ntmps15
            go_wp2
            go_ret
            exact ⟨retB' HR.out, hB⟩
          · skip
            by_cases g4 : k = 4
            · skip
              subst g4
              have HR : Hid (decide (b = 0) = r) := by unfold Hid; rw [← hr]; unfold dokB; simp [h1, h2]
              clear hr
              go_enter Tryd.func15, Tryd.ntmps15
              go_wp2
              go_ret
              exact ⟨retB' HR.out, hB⟩
            · skip
              by_cases g5 : k = 5
              · skip
                subst g5
                have HR : Hid (decide (b = 0) = r) := by unfold Hid; rw [← hr]; unfold dokB; simp [h1, h2]
                clear hr
                go_enter Tryd.func15, Tryd.ntmps15
                go_wp2
                go_ret
                exact ⟨retB' HR.out, hB⟩
              · skip
                have HR : Hid (false = r) := by unfold Hid; rw [← hr]; unfold dokB; simp [h1, h2, g1, g2, g3, g4, g5]
                clear hr
                go_enter Tryd.func15, Tryd.ntmps15
                go_wp2
                go_ret
                exact ⟨retB' HR.out, hB⟩

set_option maxHeartbeats 800000 in
theorem sdeedok_any (k a b : Int) (w : World) :
    Calls Tryd.prog 11 #[.agg #[.int .i64 k, .int .i64 a, .int .i64 b]] w fun e w' => e = .returned (.bool (dokB k a b)) ∧ Below w.heap.size w w' := by
  have hB : Below w.heap.size w (w.alloc (Obj.cells #[.int .i64 k, .int .i64 a, .int .i64 b] 26)) := (Below.refl _ _).alloc (Nat.le_refl _) _
  obtain ⟨r, hr⟩ : ∃ r, dokB k a b = r := ⟨_, rfl⟩
  rw [hr]
  by_cases h1 : a < 0
  · skip
    have HR : Hid (false = r) := by unfold Hid; rw [← hr]; unfold dokB; simp [h1]
    clear hr
    go_enter Tryd.func11, Tryd.ntmps11
    go_wp2
    go_ret
    exact ⟨retB' HR.out, hB⟩
  · skip
    by_cases h2 : b < 0
    · skip
      have HR : Hid (false = r) := by unfold Hid; rw [← hr]; unfold dokB; simp [h1, h2]
      clear hr
      go_enter Tryd.func11, Tryd.ntmps11
      go_wp2
      go_ret
      exact ⟨retB' HR.out, hB⟩
    · skip
      by_cases g1 : k = 1
      · skip
        subst g1
        have HR : Hid (decide (b ≤ 50) = r) := by unfold Hid; rw [← hr]; unfold dokB; simp [h1, h2]
        clear hr
        go_enter Tryd.func11, Tryd.ntmps11
        go_wp2
        go_ret
        exact ⟨retB' HR.out, hB⟩
      · skip
        by_cases g2 : k = 2
        · skip
          subst g2
          have HR : Hid (true = r) := by unfold Hid; rw [← hr]; unfold dokB; simp [h1, h2]
          clear hr
          go_enter Tryd.func11, Tryd.ntmps11
          go_wp2
          go_ret
          exact ⟨retB' HR.out, hB⟩
        · skip
          by_cases g3 : k = 3
          · skip
            subst g3
            have HR : Hid (decide (b = 0) = r) := by unfold Hid; rw [← hr]; unfold dokB; simp [h1, h2]
            clear hr
            go_enter Tryd.func11, Tryd.ntmps11
            go_wp2
            go_ret
            exact ⟨retB' HR.out, hB⟩
          · skip
            by_cases g4 : k = 4
            · skip
              subst g4
              have HR : Hid (decide (b = 0) = r) := by unfold Hid; rw [← hr]; unfold dokB; simp [h1, h2]
              clear hr
              go_enter Tryd.func11, Tryd.ntmps11
              go_wp2
              go_ret
              exact ⟨retB' HR.out, hB⟩
            · skip
              by_cases g5 : k = 5
              · skip
                subst g5
                have HR : Hid (decide (b = 0) = r) := by unfold Hid; rw [← hr]; unfold dokB; simp [h1, h2]
                clear hr
                go_enter Tryd.func11, Tryd.ntmps11
                go_wp2
                go_ret
                exact ⟨retB' HR.out, hB⟩
              · skip
                have HR : Hid (false = r) := by unfold Hid; rw [← hr]; unfold dokB; simp [h1, h2, g1, g2, g3, g4, g5]
                clear hr
                go_enter Tryd.func11, Tryd.ntmps11
                go_wp2
                go_ret
                exact ⟨retB' HR.out, hB⟩

set_option maxHeartbeats 400000 in
theorem todeed_any (k a b : Int) (w : World) :
    Calls Tryd.prog 6 #[.agg #[.int .i64 k, .int .i64 a, .int .i64 b]] w fun e w' => e = .returned (.agg #[.int .i64 k, .int .i64 a, .int .i64 b]) ∧ Below w.heap.size w w' := by
  go_enter Tryd.func6, Tryd.ntmps6
  go_wp2
  exact bodyPost_ret (results_cell_row rfl _ _ (w.heap.size + 1) 26 _ (0, 0) _ rfl ((heap_alloc_old _ _ (by simp)).trans (heap_alloc2_new _ _ _)) Tryd.underlying26 rfl Tryd.sizeDeed) rfl
    ⟨rfl, (((Below.refl _ _).alloc (Nat.le_refl _) _).alloc (by simp) _).alloc (by simp; omega) _⟩

theorem ownKnob_none2 : ownKnob Tryd.prog.godebug = none := by kernel_rfl
theorem laidOut_true2 : laidOutB Tryd.prog = true := by kernel_rfl

section
open Go.ChangeShapes Go.WideShapes Go.ChangeAt Go.Deep
variable {H : Type} {enc : TypeId × Value → H} {w : World} {base : Nat} {spare : Nat → Bool} {held : Bool}
set_option maxRecDepth 100000 in
theorem open_deed {v : Value} {d : DataW H} {p : List MemPlace} (hv : Value.okWide Tryd.prog w .any base 23 v) (h : DataW.Trod enc Tryd.prog w 0 (fun _ => true) true 23 v d p) :
    ∃ i u z : Int, v = .agg #[.int .i64 i, .int .i64 u, .int .i64 z] := by
  obtain ⟨cs, rfl, hsz⟩ := okWide_struct Tryd.underlying23 hv
  rw [show Tryd.prog.cellsOf 23 = 3 by kernel_rfl] at hsz
  obtain ⟨fuel, hf⟩ := h
  obtain ⟨v0, v1, v2, rfl⟩ : ∃ v0 v1 v2, cs = #[v0, v1, v2] := by
    obtain ⟨l⟩ := cs
    match l, hsz with
    | [v0, v1, v2], _ => exact ⟨v0, v1, v2, rfl⟩
  obtain ⟨xs, n, _, _, hl, hlen, hff⟩ := DataW.trod_struct Tryd.underlying23 hf
  have g0 := hff 0 _ rfl
  have g1 := hff 1 _ rfl
  have g2 := hff 2 _ rfl
  have i0 : Tryd.prog.cellsOf 3 = 1 := by kernel_rfl
  match xs, hlen with
  | [y0, y1, y2], _ =>
    simp [Value.cells, i0] at g0 g1 g2
    obtain ⟨m0, e0, _⟩ := DataW.trod_int Tryd.underlying3 g0
    obtain ⟨m1, e1, _⟩ := DataW.trod_int Tryd.underlying3 g1
    obtain ⟨m2, e2, _⟩ := DataW.trod_int Tryd.underlying3 g2
    simp only [List.cons.injEq, and_true] at e0 e1 e2
    subst e0 e1 e2
    exact ⟨m0, m1, m2, rfl⟩
end
end Go.Proofs.YtkoiccocgejmcaaDoor
