/-
  Texts that stood by themselves, laid into one.
-/
import Derived.Test.YtkchakcebdenjaaGreatCpM
import Derived.Test.YtkchakcebdenjaaGreatSNodeM
/-
  When an instruction is right, and the contracts of impl's rules. No condition.
-/
namespace Go.Proofs.YtkchakcebdenjaaGreat
open Go.RowKit
def bareB (x : In) : Bool := x.n == 0 && x.i == 0 && x.s.toList == []
def litB (x : In) (n1 : Nat) : Bool := x.i == 0 && x.s.toList == [] && decide (0 ≤ x.n) && decide (x.n < n1)
def varB (x : In) : Bool := x.s.toList == [] && decide (0 ≤ x.n) && decide (x.n ≤ 20) && decide (0 ≤ x.i) && decide (x.i < 4)
def globalB (x : In) : Bool := x.n == 0 && x.i == 0 && nameB x.s
def wayB (x : In) (i : Int) (n2 : Nat) : Bool := x.i == 0 && x.s.toList == [] && decide (i < x.n) && decide (x.n ≤ n2)
def funB (x : In) (i : Int) (n2 : Nat) : Bool := x.s.toList == [] && decide (i < x.n) && decide (x.n < n2) && decide (0 ≤ x.i) && decide (x.i ≤ 4)
def callB (x : In) : Bool := x.n == 0 && x.s.toList == [] && decide (0 ≤ x.i) && decide (x.i ≤ 4)
set_option maxHeartbeats 1600000 in
theorem isbare_any (x : In) (a1 a2 a3 : Option Addr) (n1 n2 n3 c1 c2 c3 : Nat) (i : Int) (w : World) :
    Calls Tryz.prog 112 #[.agg #[.int .i64 x.o, .int .i64 x.n, .int .i64 x.i, .string x.s], .agg #[.slice a1 n1 c1, .slice a2 n2 c2, .slice a3 n3 c3], .int .i64 i] w fun e w' => e = .returned (.bool (bareB x)) ∧ Below w.heap.size w w' := by
  go_enter Tryz.func112, Tryz.ntmps112
  go_wp2
  all_goals
    go_ret
    refine ⟨retB ?_, ?_⟩
    · unfold bareB
      first
        | (simp [*]; done)
        | (simp [*]; omega)
        | (rw [Bool.eq_iff_iff]; simp [*]; omega)
    · first
        | exact ((Below.refl _ _).alloc (Nat.le_refl _) _).alloc (by simp) _
        | exact (((Below.refl _ _).alloc (Nat.le_refl _) _).alloc (by simp) _).alloc (by simp; omega) _
set_option maxHeartbeats 1600000 in
theorem islit_any (x : In) (a1 a2 a3 : Option Addr) (n1 n2 n3 c1 c2 c3 : Nat) (i : Int) (w : World) :
    Calls Tryz.prog 106 #[.agg #[.int .i64 x.o, .int .i64 x.n, .int .i64 x.i, .string x.s], .agg #[.slice a1 n1 c1, .slice a2 n2 c2, .slice a3 n3 c3], .int .i64 i] w fun e w' => e = .returned (.bool (litB x n1)) ∧ Below w.heap.size w w' := by
  go_enter Tryz.func106, Tryz.ntmps106
  go_wp2
  all_goals
    go_ret
    refine ⟨retB ?_, ?_⟩
    · unfold litB
      first
        | (simp [*]; done)
        | (simp [*]; omega)
        | (rw [Bool.eq_iff_iff]; simp [*]; omega)
    · first
        | exact ((Below.refl _ _).alloc (Nat.le_refl _) _).alloc (by simp) _
        | exact (((Below.refl _ _).alloc (Nat.le_refl _) _).alloc (by simp) _).alloc (by simp; omega) _
set_option maxHeartbeats 1600000 in
theorem isvar_any (x : In) (a1 a2 a3 : Option Addr) (n1 n2 n3 c1 c2 c3 : Nat) (i : Int) (w : World) :
    Calls Tryz.prog 107 #[.agg #[.int .i64 x.o, .int .i64 x.n, .int .i64 x.i, .string x.s], .agg #[.slice a1 n1 c1, .slice a2 n2 c2, .slice a3 n3 c3], .int .i64 i] w fun e w' => e = .returned (.bool (varB x)) ∧ Below w.heap.size w w' := by
  go_enter Tryz.func107, Tryz.ntmps107
  go_wp2
  all_goals
    go_ret
    refine ⟨retB ?_, ?_⟩
    · unfold varB
      first
        | (simp [*]; done)
        | (simp [*]; omega)
        | (rw [Bool.eq_iff_iff]; simp [*]; omega)
    · first
        | exact ((Below.refl _ _).alloc (Nat.le_refl _) _).alloc (by simp) _
        | exact (((Below.refl _ _).alloc (Nat.le_refl _) _).alloc (by simp) _).alloc (by simp; omega) _
set_option maxHeartbeats 1600000 in
theorem isglobal_any (x : In) (a1 a2 a3 : Option Addr) (n1 n2 n3 c1 c2 c3 : Nat) (i : Int) (w : World) (hs : x.s.size ≤ maxLen) :
    Calls Tryz.prog 108 #[.agg #[.int .i64 x.o, .int .i64 x.n, .int .i64 x.i, .string x.s], .agg #[.slice a1 n1 c1, .slice a2 n2 c2, .slice a3 n3 c3], .int .i64 i] w fun e w' => e = .returned (.bool (globalB x)) ∧ Below w.heap.size w w' := by
  go_enter Tryz.func108, Tryz.ntmps108
  go_wp2_with (go_at_call 88; refine (iname_any x.s _ hs).mono ?_; rintro e w1 ⟨rfl, rfl⟩)
  all_goals
    go_ret
    refine ⟨retB ?_, ?_⟩
    · unfold globalB
      first
        | (simp [*]; done)
        | (simp [*]; omega)
        | (rw [Bool.eq_iff_iff]; simp [*]; omega)
    · first
        | exact ((Below.refl _ _).alloc (Nat.le_refl _) _).alloc (by simp) _
        | exact (((Below.refl _ _).alloc (Nat.le_refl _) _).alloc (by simp) _).alloc (by simp; omega) _
set_option maxHeartbeats 1600000 in
theorem isway_any (x : In) (a1 a2 a3 : Option Addr) (n1 n2 n3 c1 c2 c3 : Nat) (i : Int) (w : World) :
    Calls Tryz.prog 109 #[.agg #[.int .i64 x.o, .int .i64 x.n, .int .i64 x.i, .string x.s], .agg #[.slice a1 n1 c1, .slice a2 n2 c2, .slice a3 n3 c3], .int .i64 i] w fun e w' => e = .returned (.bool (wayB x i n2)) ∧ Below w.heap.size w w' := by
  go_enter Tryz.func109, Tryz.ntmps109
  go_wp2
  all_goals
    go_ret
    refine ⟨retB ?_, ?_⟩
    · unfold wayB
      first
        | (simp [*]; done)
        | (simp [*]; omega)
        | (rw [Bool.eq_iff_iff]; simp [*]; omega)
    · first
        | exact ((Below.refl _ _).alloc (Nat.le_refl _) _).alloc (by simp) _
        | exact (((Below.refl _ _).alloc (Nat.le_refl _) _).alloc (by simp) _).alloc (by simp; omega) _
set_option maxHeartbeats 1600000 in
theorem isfun_any (x : In) (a1 a2 a3 : Option Addr) (n1 n2 n3 c1 c2 c3 : Nat) (i : Int) (w : World) :
    Calls Tryz.prog 110 #[.agg #[.int .i64 x.o, .int .i64 x.n, .int .i64 x.i, .string x.s], .agg #[.slice a1 n1 c1, .slice a2 n2 c2, .slice a3 n3 c3], .int .i64 i] w fun e w' => e = .returned (.bool (funB x i n2)) ∧ Below w.heap.size w w' := by
  go_enter Tryz.func110, Tryz.ntmps110
  go_wp2
  all_goals
    go_ret
    refine ⟨retB ?_, ?_⟩
    · unfold funB
      first
        | (simp [*]; done)
        | (simp [*]; omega)
        | (rw [Bool.eq_iff_iff]; simp [*]; omega)
    · first
        | exact ((Below.refl _ _).alloc (Nat.le_refl _) _).alloc (by simp) _
        | exact (((Below.refl _ _).alloc (Nat.le_refl _) _).alloc (by simp) _).alloc (by simp; omega) _
set_option maxHeartbeats 1600000 in
theorem iscall_any (x : In) (a1 a2 a3 : Option Addr) (n1 n2 n3 c1 c2 c3 : Nat) (i : Int) (w : World) :
    Calls Tryz.prog 111 #[.agg #[.int .i64 x.o, .int .i64 x.n, .int .i64 x.i, .string x.s], .agg #[.slice a1 n1 c1, .slice a2 n2 c2, .slice a3 n3 c3], .int .i64 i] w fun e w' => e = .returned (.bool (callB x)) ∧ Below w.heap.size w w' := by
  go_enter Tryz.func111, Tryz.ntmps111
  go_wp2
  all_goals
    go_ret
    refine ⟨retB ?_, ?_⟩
    · unfold callB
      first
        | (simp [*]; done)
        | (simp [*]; omega)
        | (rw [Bool.eq_iff_iff]; simp [*]; omega)
    · first
        | exact ((Below.refl _ _).alloc (Nat.le_refl _) _).alloc (by simp) _
        | exact (((Below.refl _ _).alloc (Nat.le_refl _) _).alloc (by simp) _).alloc (by simp; omega) _
end Go.Proofs.YtkchakcebdenjaaGreat
/-
  The contract of spec.l4Instr. No condition.
-/
namespace Go.Proofs.YtkchakcebdenjaaGreat
open Go.RowKit
def instrB (x : In) (i : Int) (n1 n2 : Nat) : Bool :=
  if x.o = 1 then litB x n1 else if x.o = 2 then varB x else if x.o = 3 then globalB x else if x.o = 4 then wayB x i n2 else if x.o = 5 then wayB x i n2
  else if x.o = 6 then funB x i n2 else if x.o = 7 then callB x else if x.o = 8 then bareB x else if x.o = 9 then bareB x else false
set_option maxHeartbeats 400000 in
theorem shas_len (ao : Option Addr) (n cap : Nat) (a : Int) (w : World) (hn : n ≤ 9223372036854775807) :
    Calls Tryz.prog 23 #[.agg #[.slice ao n cap], .int .i64 a] w fun e w' => e = .returned (.bool (decide (0 ≤ a) && decide (a < n))) ∧ Below w.heap.size w w' := by
  go_enter Tryz.func23, Tryz.ntmps23
  go_wp2_with fail
  refine (lin_any _ _ _ _).mono ?_
  rintro e w1 ⟨rfl, rfl⟩
  go_wp2
  go_ret
  refine ⟨retB ?_, (Below.refl _ _).alloc (Nat.le_refl _) _⟩
  rw [Bool.eq_iff_iff]
  simp
  omega
set_option maxRecDepth 100000 in
set_option maxHeartbeats 4000000 in
theorem sinstr_any (a1 a3 : Option Addr) (n1 c1 n3 c3 : Nat) (v2 : Value) (is : List In) (k : Nat) (x : In) (w : World) (R : InRow w v2 is) (hx : is[k]? = some x) (hn1 : n1 ≤ 9223372036854775807) :
    Calls Tryz.prog 62 #[.agg #[.slice a1 n1 c1, v2, .slice a3 n3 c3], .int .i64 k] w fun e w' => e = .returned (.bool (instrB x k n1 is.length)) ∧ Below w.heap.size w w' := by
  obtain ⟨a2, c2, rfl, hcap, hm, hz, hcell⟩ := R
  have hlt : k < is.length := (List.getElem?_eq_some_iff.1 hx).1
  obtain ⟨g, o, rfl, hg, hcell⟩ := hcell (by intro e; subst e; simp at hlt)
  obtain ⟨d0, d1, d2, d3⟩ := hcell k x hx
  have hxz := hz x (List.mem_of_getElem? hx)
  have hgn : ¬ g = w.heap.size := by omega
  clear hcell hx hz
  have hBa : Below w.heap.size w (w.alloc (Obj.cells #[.slice a1 n1 c1, .slice (some ⟨g, o, none⟩) is.length c2, .slice a3 n3 c3] 33)) := (Below.refl _ _).alloc (Nat.le_refl _) _
  obtain ⟨xo, xn, xi, xs⟩ := x
  dsimp only at d0 d1 d2 d3 hxz
  have hc : (xo < 1 ∨ 9 < xo) ∨ xo = 1 ∨ xo = 2 ∨ xo = 3 ∨ xo = 4 ∨ xo = 5 ∨ xo = 6 ∨ xo = 7 ∨ xo = 8 ∨ xo = 9 := by omega
  rcases hc with hc | rfl | rfl | rfl | rfl | rfl | rfl | rfl | rfl | rfl
  · have HR : Hid (instrB ⟨xo, xn, xi, xs⟩ k n1 is.length = false) := by unfold Hid; simp [instrB, show ¬ xo = 1 by omega, show ¬ xo = 2 by omega, show ¬ xo = 3 by omega, show ¬ xo = 4 by omega, show ¬ xo = 5 by omega, show ¬ xo = 6 by omega, show ¬ xo = 7 by omega, show ¬ xo = 8 by omega, show ¬ xo = 9 by omega]
    have h1 : ¬ xo = 1 := by omega
    have h2 : ¬ xo = 2 := by omega
    have h3 : ¬ xo = 3 := by omega
    have h4 : ¬ xo = 4 := by omega
    have h5 : ¬ xo = 5 := by omega
    have h6 : ¬ xo = 6 := by omega
    have h7 : ¬ xo = 7 := by omega
    have h8 : ¬ xo = 8 := by omega
    have h9 : ¬ xo = 9 := by omega
    go_enter Tryz.func62, Tryz.ntmps62
    go_wp2
    go_ret
    exact ⟨by rw [HR.out]; rfl, (hBa.alloc hBa.size _).alloc (by have := hBa.size; simp; omega) _⟩
  · go_enter Tryz.func62, Tryz.ntmps62
    go_wp2_with (first
      | (go_at_call 23; refine (shas_len _ _ _ _ _ hn1).mono ?_; rintro e w1 ⟨rfl, hb1⟩)
      | (go_at_call 63; refine (sname_any xs _ hxz).mono ?_; rintro e w1 ⟨rfl, rfl⟩)
      | (go_at_call 57; refine (lin_any _ _ _ _).mono ?_; rintro e w1 ⟨rfl, rfl⟩))
    all_goals
      go_ret
      refine ⟨retB ?_, ?_⟩
      · simp only [instrB, litB, varB, globalB, wayB, funB, callB, bareB]
        first
          | (simp [*]; done)
          | (simp [*]; omega)
          | (rw [Bool.eq_iff_iff]; simp [*]; omega)
      · first
          | exact (hBa.alloc hBa.size _).alloc (by have := hBa.size; simp; omega) _
          | exact ((hBa.alloc hBa.size _).alloc (by have := hBa.size; simp; omega) _).trans (hb1.mono (by simp; omega))
  · go_enter Tryz.func62, Tryz.ntmps62
    go_wp2_with (first
      | (go_at_call 23; refine (shas_len _ _ _ _ _ hn1).mono ?_; rintro e w1 ⟨rfl, hb1⟩)
      | (go_at_call 63; refine (sname_any xs _ hxz).mono ?_; rintro e w1 ⟨rfl, rfl⟩)
      | (go_at_call 57; refine (lin_any _ _ _ _).mono ?_; rintro e w1 ⟨rfl, rfl⟩))
    all_goals
      go_ret
      refine ⟨retB ?_, ?_⟩
      · simp only [instrB, litB, varB, globalB, wayB, funB, callB, bareB]
        first
          | (simp [*]; done)
          | (simp [*]; omega)
          | (rw [Bool.eq_iff_iff]; simp [*]; omega)
      · first
          | exact (hBa.alloc hBa.size _).alloc (by have := hBa.size; simp; omega) _
          | exact ((hBa.alloc hBa.size _).alloc (by have := hBa.size; simp; omega) _).trans (hb1.mono (by simp; omega))
  · go_enter Tryz.func62, Tryz.ntmps62
    go_wp2_with (first
      | (go_at_call 23; refine (shas_len _ _ _ _ _ hn1).mono ?_; rintro e w1 ⟨rfl, hb1⟩)
      | (go_at_call 63; refine (sname_any xs _ hxz).mono ?_; rintro e w1 ⟨rfl, rfl⟩)
      | (go_at_call 57; refine (lin_any _ _ _ _).mono ?_; rintro e w1 ⟨rfl, rfl⟩))
    all_goals
      go_ret
      refine ⟨retB ?_, ?_⟩
      · simp only [instrB, litB, varB, globalB, wayB, funB, callB, bareB]
        first
          | (simp [*]; done)
          | (simp [*]; omega)
          | (rw [Bool.eq_iff_iff]; simp [*]; omega)
      · first
          | exact (hBa.alloc hBa.size _).alloc (by have := hBa.size; simp; omega) _
          | exact ((hBa.alloc hBa.size _).alloc (by have := hBa.size; simp; omega) _).trans (hb1.mono (by simp; omega))
  · go_enter Tryz.func62, Tryz.ntmps62
    go_wp2_with (first
      | (go_at_call 23; refine (shas_len _ _ _ _ _ hn1).mono ?_; rintro e w1 ⟨rfl, hb1⟩)
      | (go_at_call 63; refine (sname_any xs _ hxz).mono ?_; rintro e w1 ⟨rfl, rfl⟩)
      | (go_at_call 57; refine (lin_any _ _ _ _).mono ?_; rintro e w1 ⟨rfl, rfl⟩))
    all_goals
      go_ret
      refine ⟨retB ?_, ?_⟩
      · simp only [instrB, litB, varB, globalB, wayB, funB, callB, bareB]
        first
          | (simp [*]; done)
          | (simp [*]; omega)
          | (rw [Bool.eq_iff_iff]; simp [*]; omega)
      · first
          | exact (hBa.alloc hBa.size _).alloc (by have := hBa.size; simp; omega) _
          | exact ((hBa.alloc hBa.size _).alloc (by have := hBa.size; simp; omega) _).trans (hb1.mono (by simp; omega))
  · go_enter Tryz.func62, Tryz.ntmps62
    go_wp2_with (first
      | (go_at_call 23; refine (shas_len _ _ _ _ _ hn1).mono ?_; rintro e w1 ⟨rfl, hb1⟩)
      | (go_at_call 63; refine (sname_any xs _ hxz).mono ?_; rintro e w1 ⟨rfl, rfl⟩)
      | (go_at_call 57; refine (lin_any _ _ _ _).mono ?_; rintro e w1 ⟨rfl, rfl⟩))
    all_goals
      go_ret
      refine ⟨retB ?_, ?_⟩
      · simp only [instrB, litB, varB, globalB, wayB, funB, callB, bareB]
        first
          | (simp [*]; done)
          | (simp [*]; omega)
          | (rw [Bool.eq_iff_iff]; simp [*]; omega)
      · first
          | exact (hBa.alloc hBa.size _).alloc (by have := hBa.size; simp; omega) _
          | exact ((hBa.alloc hBa.size _).alloc (by have := hBa.size; simp; omega) _).trans (hb1.mono (by simp; omega))
  · go_enter Tryz.func62, Tryz.ntmps62
    go_wp2_with (first
      | (go_at_call 23; refine (shas_len _ _ _ _ _ hn1).mono ?_; rintro e w1 ⟨rfl, hb1⟩)
      | (go_at_call 63; refine (sname_any xs _ hxz).mono ?_; rintro e w1 ⟨rfl, rfl⟩)
      | (go_at_call 57; refine (lin_any _ _ _ _).mono ?_; rintro e w1 ⟨rfl, rfl⟩))
    all_goals
      go_ret
      refine ⟨retB ?_, ?_⟩
      · simp only [instrB, litB, varB, globalB, wayB, funB, callB, bareB]
        first
          | (simp [*]; done)
          | (simp [*]; omega)
          | (rw [Bool.eq_iff_iff]; simp [*]; omega)
      · first
          | exact (hBa.alloc hBa.size _).alloc (by have := hBa.size; simp; omega) _
          | exact ((hBa.alloc hBa.size _).alloc (by have := hBa.size; simp; omega) _).trans (hb1.mono (by simp; omega))
  · go_enter Tryz.func62, Tryz.ntmps62
    go_wp2_with (first
      | (go_at_call 23; refine (shas_len _ _ _ _ _ hn1).mono ?_; rintro e w1 ⟨rfl, hb1⟩)
      | (go_at_call 63; refine (sname_any xs _ hxz).mono ?_; rintro e w1 ⟨rfl, rfl⟩)
      | (go_at_call 57; refine (lin_any _ _ _ _).mono ?_; rintro e w1 ⟨rfl, rfl⟩))
    all_goals
      go_ret
      refine ⟨retB ?_, ?_⟩
      · simp only [instrB, litB, varB, globalB, wayB, funB, callB, bareB]
        first
          | (simp [*]; done)
          | (simp [*]; omega)
          | (rw [Bool.eq_iff_iff]; simp [*]; omega)
      · first
          | exact (hBa.alloc hBa.size _).alloc (by have := hBa.size; simp; omega) _
          | exact ((hBa.alloc hBa.size _).alloc (by have := hBa.size; simp; omega) _).trans (hb1.mono (by simp; omega))
  · go_enter Tryz.func62, Tryz.ntmps62
    go_wp2_with (first
      | (go_at_call 23; refine (shas_len _ _ _ _ _ hn1).mono ?_; rintro e w1 ⟨rfl, hb1⟩)
      | (go_at_call 63; refine (sname_any xs _ hxz).mono ?_; rintro e w1 ⟨rfl, rfl⟩)
      | (go_at_call 57; refine (lin_any _ _ _ _).mono ?_; rintro e w1 ⟨rfl, rfl⟩))
    all_goals
      go_ret
      refine ⟨retB ?_, ?_⟩
      · simp only [instrB, litB, varB, globalB, wayB, funB, callB, bareB]
        first
          | (simp [*]; done)
          | (simp [*]; omega)
          | (rw [Bool.eq_iff_iff]; simp [*]; omega)
      · first
          | exact (hBa.alloc hBa.size _).alloc (by have := hBa.size; simp; omega) _
          | exact ((hBa.alloc hBa.size _).alloc (by have := hBa.size; simp; omega) _).trans (hb1.mono (by simp; omega))
  · go_enter Tryz.func62, Tryz.ntmps62
    go_wp2_with (first
      | (go_at_call 23; refine (shas_len _ _ _ _ _ hn1).mono ?_; rintro e w1 ⟨rfl, hb1⟩)
      | (go_at_call 63; refine (sname_any xs _ hxz).mono ?_; rintro e w1 ⟨rfl, rfl⟩)
      | (go_at_call 57; refine (lin_any _ _ _ _).mono ?_; rintro e w1 ⟨rfl, rfl⟩))
    all_goals
      go_ret
      refine ⟨retB ?_, ?_⟩
      · simp only [instrB, litB, varB, globalB, wayB, funB, callB, bareB]
        first
          | (simp [*]; done)
          | (simp [*]; omega)
          | (rw [Bool.eq_iff_iff]; simp [*]; omega)
      · first
          | exact (hBa.alloc hBa.size _).alloc (by have := hBa.size; simp; omega) _
          | exact ((hBa.alloc hBa.size _).alloc (by have := hBa.size; simp; omega) _).trans (hb1.mono (by simp; omega))
end Go.Proofs.YtkchakcebdenjaaGreat
