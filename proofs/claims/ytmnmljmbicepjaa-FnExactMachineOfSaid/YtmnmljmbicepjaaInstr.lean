/-
  When an instruction is right, and the contracts of impl's rules. No condition.
-/
import Derived.Test.YtmnmljmbicepjaaDefOf
namespace Go.Proofs.Ytmnmljmbicepjaa
open Go.RowKit

def bareB (x : In) : Bool := x.n == 0 && x.i == 0 && x.s.toList == []
def litB (x : In) (n1 : Nat) : Bool := x.i == 0 && x.s.toList == [] && decide (0 ≤ x.n) && decide (x.n < n1)
def varB (x : In) : Bool := x.s.toList == [] && decide (0 ≤ x.n) && decide (x.n ≤ 20) && decide (0 ≤ x.i) && decide (x.i < 4)
def globalB (x : In) : Bool := x.n == 0 && x.i == 0 && nameB x.s
def wayB (x : In) (i : Int) (n2 : Nat) : Bool := x.i == 0 && x.s.toList == [] && decide (i < x.n) && decide (x.n ≤ n2)
def funB (x : In) (i : Int) (n2 : Nat) : Bool := x.s.toList == [] && decide (i < x.n) && decide (x.n < n2) && decide (0 ≤ x.i) && decide (x.i ≤ 4)
def callB (x : In) : Bool := x.n == 0 && x.s.toList == [] && decide (0 ≤ x.i) && decide (x.i ≤ 4)

set_option maxHeartbeats 1600000 in
theorem isbare_any (x : In) (a1 a2 a3 : Option Addr) (n1 n2 n3 c1 c2 c3 : Nat) (i : Int) (w : World) :
    Calls Try.prog 84 #[.agg #[.int .i64 x.o, .int .i64 x.n, .int .i64 x.i, .string x.s], .agg #[.slice a1 n1 c1, .slice a2 n2 c2, .slice a3 n3 c3], .int .i64 i] w fun e w' => e = .returned (.bool (bareB x)) ∧ Below w.heap.size w w' := by
  go_enter Try.func84, Try.ntmps84
  go_wp2
  all_goals
    go_ret
    refine ⟨retB ?_, ?_⟩
    · unfold bareB
      first
        | (simp [*]; done)
        | (simp [*]; omega)
        | (rw [Bool.eq_iff_iff]; simp [*]; omega)
    · first
        | exact ((Below.refl _ _).alloc (Nat.le_refl _) _).alloc (by simp) _
        | exact (((Below.refl _ _).alloc (Nat.le_refl _) _).alloc (by simp) _).alloc (by simp; omega) _

set_option maxHeartbeats 1600000 in
theorem islit_any (x : In) (a1 a2 a3 : Option Addr) (n1 n2 n3 c1 c2 c3 : Nat) (i : Int) (w : World) :
    Calls Try.prog 78 #[.agg #[.int .i64 x.o, .int .i64 x.n, .int .i64 x.i, .string x.s], .agg #[.slice a1 n1 c1, .slice a2 n2 c2, .slice a3 n3 c3], .int .i64 i] w fun e w' => e = .returned (.bool (litB x n1)) ∧ Below w.heap.size w w' := by
  go_enter Try.func78, Try.ntmps78
  go_wp2
  all_goals
    go_ret
    refine ⟨retB ?_, ?_⟩
    · unfold litB
      first
        | (simp [*]; done)
        | (simp [*]; omega)
        | (rw [Bool.eq_iff_iff]; simp [*]; omega)
    · first
        | exact ((Below.refl _ _).alloc (Nat.le_refl _) _).alloc (by simp) _
        | exact (((Below.refl _ _).alloc (Nat.le_refl _) _).alloc (by simp) _).alloc (by simp; omega) _

set_option maxHeartbeats 1600000 in
theorem isvar_any (x : In) (a1 a2 a3 : Option Addr) (n1 n2 n3 c1 c2 c3 : Nat) (i : Int) (w : World) :
    Calls Try.prog 79 #[.agg #[.int .i64 x.o, .int .i64 x.n, .int .i64 x.i, .string x.s], .agg #[.slice a1 n1 c1, .slice a2 n2 c2, .slice a3 n3 c3], .int .i64 i] w fun e w' => e = .returned (.bool (varB x)) ∧ Below w.heap.size w w' := by
  go_enter Try.func79, Try.ntmps79
  go_wp2
  all_goals
    go_ret
    refine ⟨retB ?_, ?_⟩
    · unfold varB
      first
        | (simp [*]; done)
        | (simp [*]; omega)
        | (rw [Bool.eq_iff_iff]; simp [*]; omega)
    · first
        | exact ((Below.refl _ _).alloc (Nat.le_refl _) _).alloc (by simp) _
        | exact (((Below.refl _ _).alloc (Nat.le_refl _) _).alloc (by simp) _).alloc (by simp; omega) _

set_option maxHeartbeats 1600000 in
theorem isglobal_any (x : In) (a1 a2 a3 : Option Addr) (n1 n2 n3 c1 c2 c3 : Nat) (i : Int) (w : World) (hs : x.s.size ≤ maxLen) :
    Calls Try.prog 80 #[.agg #[.int .i64 x.o, .int .i64 x.n, .int .i64 x.i, .string x.s], .agg #[.slice a1 n1 c1, .slice a2 n2 c2, .slice a3 n3 c3], .int .i64 i] w fun e w' => e = .returned (.bool (globalB x)) ∧ Below w.heap.size w w' := by
  go_enter Try.func80, Try.ntmps80
  go_wp2_with (go_at_call 72; refine (iname_any x.s _ hs).mono ?_; rintro e w1 ⟨rfl, rfl⟩)
  all_goals
    go_ret
    refine ⟨retB ?_, ?_⟩
    · unfold globalB
      first
        | (simp [*]; done)
        | (simp [*]; omega)
        | (rw [Bool.eq_iff_iff]; simp [*]; omega)
    · first
        | exact ((Below.refl _ _).alloc (Nat.le_refl _) _).alloc (by simp) _
        | exact (((Below.refl _ _).alloc (Nat.le_refl _) _).alloc (by simp) _).alloc (by simp; omega) _

set_option maxHeartbeats 1600000 in
theorem isway_any (x : In) (a1 a2 a3 : Option Addr) (n1 n2 n3 c1 c2 c3 : Nat) (i : Int) (w : World) :
    Calls Try.prog 81 #[.agg #[.int .i64 x.o, .int .i64 x.n, .int .i64 x.i, .string x.s], .agg #[.slice a1 n1 c1, .slice a2 n2 c2, .slice a3 n3 c3], .int .i64 i] w fun e w' => e = .returned (.bool (wayB x i n2)) ∧ Below w.heap.size w w' := by
  go_enter Try.func81, Try.ntmps81
  go_wp2
  all_goals
    go_ret
    refine ⟨retB ?_, ?_⟩
    · unfold wayB
      first
        | (simp [*]; done)
        | (simp [*]; omega)
        | (rw [Bool.eq_iff_iff]; simp [*]; omega)
    · first
        | exact ((Below.refl _ _).alloc (Nat.le_refl _) _).alloc (by simp) _
        | exact (((Below.refl _ _).alloc (Nat.le_refl _) _).alloc (by simp) _).alloc (by simp; omega) _

set_option maxHeartbeats 1600000 in
theorem isfun_any (x : In) (a1 a2 a3 : Option Addr) (n1 n2 n3 c1 c2 c3 : Nat) (i : Int) (w : World) :
    Calls Try.prog 82 #[.agg #[.int .i64 x.o, .int .i64 x.n, .int .i64 x.i, .string x.s], .agg #[.slice a1 n1 c1, .slice a2 n2 c2, .slice a3 n3 c3], .int .i64 i] w fun e w' => e = .returned (.bool (funB x i n2)) ∧ Below w.heap.size w w' := by
  go_enter Try.func82, Try.ntmps82
  go_wp2
  all_goals
    go_ret
    refine ⟨retB ?_, ?_⟩
    · unfold funB
      first
        | (simp [*]; done)
        | (simp [*]; omega)
        | (rw [Bool.eq_iff_iff]; simp [*]; omega)
    · first
        | exact ((Below.refl _ _).alloc (Nat.le_refl _) _).alloc (by simp) _
        | exact (((Below.refl _ _).alloc (Nat.le_refl _) _).alloc (by simp) _).alloc (by simp; omega) _

set_option maxHeartbeats 1600000 in
theorem iscall_any (x : In) (a1 a2 a3 : Option Addr) (n1 n2 n3 c1 c2 c3 : Nat) (i : Int) (w : World) :
    Calls Try.prog 83 #[.agg #[.int .i64 x.o, .int .i64 x.n, .int .i64 x.i, .string x.s], .agg #[.slice a1 n1 c1, .slice a2 n2 c2, .slice a3 n3 c3], .int .i64 i] w fun e w' => e = .returned (.bool (callB x)) ∧ Below w.heap.size w w' := by
  go_enter Try.func83, Try.ntmps83
  go_wp2
  all_goals
    go_ret
    refine ⟨retB ?_, ?_⟩
    · unfold callB
      first
        | (simp [*]; done)
        | (simp [*]; omega)
        | (rw [Bool.eq_iff_iff]; simp [*]; omega)
    · first
        | exact ((Below.refl _ _).alloc (Nat.le_refl _) _).alloc (by simp) _
        | exact (((Below.refl _ _).alloc (Nat.le_refl _) _).alloc (by simp) _).alloc (by simp; omega) _

end Go.Proofs.Ytmnmljmbicepjaa
