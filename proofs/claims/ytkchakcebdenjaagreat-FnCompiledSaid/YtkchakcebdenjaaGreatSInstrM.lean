/-
  The contract of spec.l4Instr. No condition.
-/
import Derived.Test.YtkchakcebdenjaaGreatInstrM
import Derived.Test.YtkchakcebdenjaaGreatSNodeM
namespace Go.Proofs.YtkchakcebdenjaaGreat
open Go.RowKit
def instrB (x : In) (i : Int) (n1 n2 : Nat) : Bool :=
  if x.o = 1 then litB x n1 else if x.o = 2 then varB x else if x.o = 3 then globalB x else if x.o = 4 then wayB x i n2 else if x.o = 5 then wayB x i n2
  else if x.o = 6 then funB x i n2 else if x.o = 7 then callB x else if x.o = 8 then bareB x else if x.o = 9 then bareB x else false
set_option maxHeartbeats 400000 in
theorem shas_len (ao : Option Addr) (n cap : Nat) (a : Int) (w : World) (hn : n ≤ 9223372036854775807) :
    Calls Tryz.prog 23 #[.agg #[.slice ao n cap], .int .i64 a] w fun e w' => e = .returned (.bool (decide (0 ≤ a) && decide (a < n))) ∧ Below w.heap.size w w' := by
  go_enter Tryz.func23, Tryz.ntmps23
  go_wp2_with fail
  refine (lin_any _ _ _ _).mono ?_
  rintro e w1 ⟨rfl, rfl⟩
  go_wp2
  go_ret
  refine ⟨retB ?_, (Below.refl _ _).alloc (Nat.le_refl _) _⟩
  rw [Bool.eq_iff_iff]
  simp
  omega
set_option maxRecDepth 100000 in
set_option maxHeartbeats 4000000 in
theorem sinstr_any (a1 a3 : Option Addr) (n1 c1 n3 c3 : Nat) (v2 : Value) (is : List In) (k : Nat) (x : In) (w : World) (R : InRow w v2 is) (hx : is[k]? = some x) (hn1 : n1 ≤ 9223372036854775807) :
    Calls Tryz.prog 62 #[.agg #[.slice a1 n1 c1, v2, .slice a3 n3 c3], .int .i64 k] w fun e w' => e = .returned (.bool (instrB x k n1 is.length)) ∧ Below w.heap.size w w' := by
  obtain ⟨a2, c2, rfl, hcap, hm, hz, hcell⟩ := R
  have hlt : k < is.length := (List.getElem?_eq_some_iff.1 hx).1
  obtain ⟨g, o, rfl, hg, hcell⟩ := hcell (by intro e; subst e; simp at hlt)
  obtain ⟨d0, d1, d2, d3⟩ := hcell k x hx
  have hxz := hz x (List.mem_of_getElem? hx)
  have hgn : ¬ g = w.heap.size := by omega
  clear hcell hx hz
  have hBa : Below w.heap.size w (w.alloc (Obj.cells #[.slice a1 n1 c1, .slice (some ⟨g, o, none⟩) is.length c2, .slice a3 n3 c3] 33)) := (Below.refl _ _).alloc (Nat.le_refl _) _
  obtain ⟨xo, xn, xi, xs⟩ := x
  dsimp only at d0 d1 d2 d3 hxz
  have hc : (xo < 1 ∨ 9 < xo) ∨ xo = 1 ∨ xo = 2 ∨ xo = 3 ∨ xo = 4 ∨ xo = 5 ∨ xo = 6 ∨ xo = 7 ∨ xo = 8 ∨ xo = 9 := by omega
  rcases hc with hc | rfl | rfl | rfl | rfl | rfl | rfl | rfl | rfl | rfl
  · have HR : Hid (instrB ⟨xo, xn, xi, xs⟩ k n1 is.length = false) := by unfold Hid; simp [instrB, show ¬ xo = 1 by omega, show ¬ xo = 2 by omega, show ¬ xo = 3 by omega, show ¬ xo = 4 by omega, show ¬ xo = 5 by omega, show ¬ xo = 6 by omega, show ¬ xo = 7 by omega, show ¬ xo = 8 by omega, show ¬ xo = 9 by omega]
    have h1 : ¬ xo = 1 := by omega
    have h2 : ¬ xo = 2 := by omega
    have h3 : ¬ xo = 3 := by omega
    have h4 : ¬ xo = 4 := by omega
    have h5 : ¬ xo = 5 := by omega
    have h6 : ¬ xo = 6 := by omega
    have h7 : ¬ xo = 7 := by omega
    have h8 : ¬ xo = 8 := by omega
    have h9 : ¬ xo = 9 := by omega
    go_enter Tryz.func62, Tryz.ntmps62
    go_wp2
    go_ret
    exact ⟨by rw [HR.out]; rfl, (hBa.alloc hBa.size _).alloc (by have := hBa.size; simp; omega) _⟩
  · go_enter Tryz.func62, Tryz.ntmps62
    go_wp2_with (first
      | (go_at_call 23; refine (shas_len _ _ _ _ _ hn1).mono ?_; rintro e w1 ⟨rfl, hb1⟩)
      | (go_at_call 63; refine (sname_any xs _ hxz).mono ?_; rintro e w1 ⟨rfl, rfl⟩)
      | (go_at_call 57; refine (lin_any _ _ _ _).mono ?_; rintro e w1 ⟨rfl, rfl⟩))
    all_goals
      go_ret
      refine ⟨retB ?_, ?_⟩
      · simp only [instrB, litB, varB, globalB, wayB, funB, callB, bareB]
        first
          | (simp [*]; done)
          | (simp [*]; omega)
          | (rw [Bool.eq_iff_iff]; simp [*]; omega)
      · first
          | exact (hBa.alloc hBa.size _).alloc (by have := hBa.size; simp; omega) _
          | exact ((hBa.alloc hBa.size _).alloc (by have := hBa.size; simp; omega) _).trans (hb1.mono (by simp; omega))
  · go_enter Tryz.func62, Tryz.ntmps62
    go_wp2_with (first
      | (go_at_call 23; refine (shas_len _ _ _ _ _ hn1).mono ?_; rintro e w1 ⟨rfl, hb1⟩)
      | (go_at_call 63; refine (sname_any xs _ hxz).mono ?_; rintro e w1 ⟨rfl, rfl⟩)
      | (go_at_call 57; refine (lin_any _ _ _ _).mono ?_; rintro e w1 ⟨rfl, rfl⟩))
    all_goals
      go_ret
      refine ⟨retB ?_, ?_⟩
      · simp only [instrB, litB, varB, globalB, wayB, funB, callB, bareB]
        first
          | (simp [*]; done)
          | (simp [*]; omega)
          | (rw [Bool.eq_iff_iff]; simp [*]; omega)
      · first
          | exact (hBa.alloc hBa.size _).alloc (by have := hBa.size; simp; omega) _
          | exact ((hBa.alloc hBa.size _).alloc (by have := hBa.size; simp; omega) _).trans (hb1.mono (by simp; omega))
  · go_enter Tryz.func62, Tryz.ntmps62
    go_wp2_with (first
      | (go_at_call 23; refine (shas_len _ _ _ _ _ hn1).mono ?_; rintro e w1 ⟨rfl, hb1⟩)
      | (go_at_call 63; refine (sname_any xs _ hxz).mono ?_; rintro e w1 ⟨rfl, rfl⟩)
      | (go_at_call 57; refine (lin_any _ _ _ _).mono ?_; rintro e w1 ⟨rfl, rfl⟩))
    all_goals
      go_ret
      refine ⟨retB ?_, ?_⟩
      · simp only [instrB, litB, varB, globalB, wayB, funB, callB, bareB]
        first
          | (simp [*]; done)
          | (simp [*]; omega)
          | (rw [Bool.eq_iff_iff]; simp [*]; omega)
      · first
          | exact (hBa.alloc hBa.size _).alloc (by have := hBa.size; simp; omega) _
          | exact ((hBa.alloc hBa.size _).alloc (by have := hBa.size; simp; omega) _).trans (hb1.mono (by simp; omega))
  · go_enter Tryz.func62, Tryz.ntmps62
    go_wp2_with (first
      | (go_at_call 23; refine (shas_len _ _ _ _ _ hn1).mono ?_; rintro e w1 ⟨rfl, hb1⟩)
      | (go_at_call 63; refine (sname_any xs _ hxz).mono ?_; rintro e w1 ⟨rfl, rfl⟩)
      | (go_at_call 57; refine (lin_any _ _ _ _).mono ?_; rintro e w1 ⟨rfl, rfl⟩))
    all_goals
      go_ret
      refine ⟨retB ?_, ?_⟩
      · simp only [instrB, litB, varB, globalB, wayB, funB, callB, bareB]
        first
          | (simp [*]; done)
          | (simp [*]; omega)
          | (rw [Bool.eq_iff_iff]; simp [*]; omega)
      · first
          | exact (hBa.alloc hBa.size _).alloc (by have := hBa.size; simp; omega) _
          | exact ((hBa.alloc hBa.size _).alloc (by have := hBa.size; simp; omega) _).trans (hb1.mono (by simp; omega))
  · go_enter Tryz.func62, Tryz.ntmps62
    go_wp2_with (first
      | (go_at_call 23; refine (shas_len _ _ _ _ _ hn1).mono ?_; rintro e w1 ⟨rfl, hb1⟩)
      | (go_at_call 63; refine (sname_any xs _ hxz).mono ?_; rintro e w1 ⟨rfl, rfl⟩)
      | (go_at_call 57; refine (lin_any _ _ _ _).mono ?_; rintro e w1 ⟨rfl, rfl⟩))
    all_goals
      go_ret
      refine ⟨retB ?_, ?_⟩
      · simp only [instrB, litB, varB, globalB, wayB, funB, callB, bareB]
        first
          | (simp [*]; done)
          | (simp [*]; omega)
          | (rw [Bool.eq_iff_iff]; simp [*]; omega)
      · first
          | exact (hBa.alloc hBa.size _).alloc (by have := hBa.size; simp; omega) _
          | exact ((hBa.alloc hBa.size _).alloc (by have := hBa.size; simp; omega) _).trans (hb1.mono (by simp; omega))
  · go_enter Tryz.func62, Tryz.ntmps62
    go_wp2_with (first
      | (go_at_call 23; refine (shas_len _ _ _ _ _ hn1).mono ?_; rintro e w1 ⟨rfl, hb1⟩)
      | (go_at_call 63; refine (sname_any xs _ hxz).mono ?_; rintro e w1 ⟨rfl, rfl⟩)
      | (go_at_call 57; refine (lin_any _ _ _ _).mono ?_; rintro e w1 ⟨rfl, rfl⟩))
    all_goals
      go_ret
      refine ⟨retB ?_, ?_⟩
      · simp only [instrB, litB, varB, globalB, wayB, funB, callB, bareB]
        first
          | (simp [*]; done)
          | (simp [*]; omega)
          | (rw [Bool.eq_iff_iff]; simp [*]; omega)
      · first
          | exact (hBa.alloc hBa.size _).alloc (by have := hBa.size; simp; omega) _
          | exact ((hBa.alloc hBa.size _).alloc (by have := hBa.size; simp; omega) _).trans (hb1.mono (by simp; omega))
  · go_enter Tryz.func62, Tryz.ntmps62
    go_wp2_with (first
      | (go_at_call 23; refine (shas_len _ _ _ _ _ hn1).mono ?_; rintro e w1 ⟨rfl, hb1⟩)
      | (go_at_call 63; refine (sname_any xs _ hxz).mono ?_; rintro e w1 ⟨rfl, rfl⟩)
      | (go_at_call 57; refine (lin_any _ _ _ _).mono ?_; rintro e w1 ⟨rfl, rfl⟩))
    all_goals
      go_ret
      refine ⟨retB ?_, ?_⟩
      · simp only [instrB, litB, varB, globalB, wayB, funB, callB, bareB]
        first
          | (simp [*]; done)
          | (simp [*]; omega)
          | (rw [Bool.eq_iff_iff]; simp [*]; omega)
      · first
          | exact (hBa.alloc hBa.size _).alloc (by have := hBa.size; simp; omega) _
          | exact ((hBa.alloc hBa.size _).alloc (by have := hBa.size; simp; omega) _).trans (hb1.mono (by simp; omega))
  · go_enter Tryz.func62, Tryz.ntmps62
    go_wp2_with (first
      | (go_at_call 23; refine (shas_len _ _ _ _ _ hn1).mono ?_; rintro e w1 ⟨rfl, hb1⟩)
      | (go_at_call 63; refine (sname_any xs _ hxz).mono ?_; rintro e w1 ⟨rfl, rfl⟩)
      | (go_at_call 57; refine (lin_any _ _ _ _).mono ?_; rintro e w1 ⟨rfl, rfl⟩))
    all_goals
      go_ret
      refine ⟨retB ?_, ?_⟩
      · simp only [instrB, litB, varB, globalB, wayB, funB, callB, bareB]
        first
          | (simp [*]; done)
          | (simp [*]; omega)
          | (rw [Bool.eq_iff_iff]; simp [*]; omega)
      · first
          | exact (hBa.alloc hBa.size _).alloc (by have := hBa.size; simp; omega) _
          | exact ((hBa.alloc hBa.size _).alloc (by have := hBa.size; simp; omega) _).trans (hb1.mono (by simp; omega))
  · go_enter Tryz.func62, Tryz.ntmps62
    go_wp2_with (first
      | (go_at_call 23; refine (shas_len _ _ _ _ _ hn1).mono ?_; rintro e w1 ⟨rfl, hb1⟩)
      | (go_at_call 63; refine (sname_any xs _ hxz).mono ?_; rintro e w1 ⟨rfl, rfl⟩)
      | (go_at_call 57; refine (lin_any _ _ _ _).mono ?_; rintro e w1 ⟨rfl, rfl⟩))
    all_goals
      go_ret
      refine ⟨retB ?_, ?_⟩
      · simp only [instrB, litB, varB, globalB, wayB, funB, callB, bareB]
        first
          | (simp [*]; done)
          | (simp [*]; omega)
          | (rw [Bool.eq_iff_iff]; simp [*]; omega)
      · first
          | exact (hBa.alloc hBa.size _).alloc (by have := hBa.size; simp; omega) _
          | exact ((hBa.alloc hBa.size _).alloc (by have := hBa.size; simp; omega) _).trans (hb1.mono (by simp; omega))
end Go.Proofs.YtkchakcebdenjaaGreat
