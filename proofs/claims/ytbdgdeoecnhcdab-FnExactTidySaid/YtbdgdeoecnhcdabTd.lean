/-
  What Tidy answers, and contracts of impl's hasArg and roots. No condition.
-/
import Derived.Test.YtbdgdeoecnhcdabMcT
import Derived.Test.YtbdgdeoecnhcdabCyMath
import Derived.Test.YtbdgdeoecnhcdabIReach
namespace Go.Proofs.Ytbdgdeoecnhcdab
open Go.RowKit

/-- Arg is a value. -/
def argB (m : Mc) : Bool := (m.t == 1) || (m.t == 2)
/-- What must be there for the machine to go on. -/
def tdR (m : Mc) : List Int := if argB m then [m.s, m.e, m.d, m.r] else [m.s, m.e, m.d]
def tdOk (xs : List Nd) (m : Mc) : Bool := poolB xs && allI xs (tdR m)
/-- Where a root is then. -/
def tdF (xs : List Nd) (m : Mc) (r : Int) : Int := (mvAll 0 xs (reachL xs (tdR m))).2.getD r.toNat 0
def tdL (xs : List Nd) (m : Mc) : List Nd := if tdOk xs m then mvN 0 xs (tdR m) else xs
def tdM (xs : List Nd) (m : Mc) : Mc := if tdOk xs m then ⟨m.p, tdF xs m m.s, tdF xs m m.e, tdF xs m m.d, m.t, m.q, if argB m then tdF xs m m.r else m.r⟩ else m
theorem tdR_len (m : Mc) : (tdR m).length = if argB m then 4 else 3 := by unfold tdR; split <;> rfl
theorem tdL_len (xs : List Nd) (m : Mc) : (tdL xs m).length ≤ xs.length := by
  unfold tdL
  split
  · exact mvN_len 0 xs _
  · omega

set_option maxHeartbeats 800000 in
theorem ihasarg_any (u : Value) (m : Mc) (w : World) :
    Calls Try.prog 38 #[.agg #[u, .int .i64 m.p, .int .i64 m.s, .int .i64 m.e, .int .i64 m.d, .int .i64 m.t, .int .i64 m.q, .int .i64 m.r]] w fun e w' => e = .returned (.bool (argB m)) ∧ Below w.heap.size w w' := by
  have hB : Below w.heap.size w (w.alloc (Obj.cells #[u, .int .i64 m.p, .int .i64 m.s, .int .i64 m.e, .int .i64 m.d, .int .i64 m.t, .int .i64 m.q, .int .i64 m.r] 39)) := (Below.refl _ _).alloc (Nat.le_refl _) _
  unfold argB
  by_cases h1 : m.t = 1
  · rw [h1]
    go_enter Try.func38, Try.ntmps38
    go_wp2
    go_ret
    exact ⟨rfl, (Below.refl _ _).alloc (Nat.le_refl _) _⟩
  · have h1b : (m.t == 1) = false := by simp [h1]
    rw [h1b, Bool.false_or]
    go_enter Try.func38, Try.ntmps38
    go_wp2
    go_ret
    exact ⟨rfl, hB⟩

theorem ints_lit (w : World) (l : List Int) (t : TypeId) (n : Nat) (h : n ≤ l.length) (hm : l.length ≤ 100) : IRow (w.alloc (Obj.cells (iv l).toArray t)) (.slice (some ⟨w.heap.size, 0, none⟩) n n) (l.take n) := by
  have hl : (l.take n).length = n := by simp; omega
  refine ⟨some ⟨w.heap.size, 0, none⟩, n, by rw [hl], ⟨by omega, fun h => by cases h⟩, by omega, fun _ => ⟨w.heap.size, 0, rfl, by simp, fun i hi => ?_⟩⟩
  rw [cell_of_row _ _ _ _ _ _ (heap_alloc_new w _), Nat.zero_add]
  rw [hl] at hi
  rw [getD_take _ _ _ _ hi, List.getElem?_toArray, iv_get _ _ (by omega)]

set_option maxHeartbeats 800000 in
theorem iroots_any (ao : Option Addr) (n cap : Nat) (m : Mc) (w : World) :
    Calls Try.prog 36 #[.agg #[.slice ao n cap, .int .i64 m.p, .int .i64 m.s, .int .i64 m.e, .int .i64 m.d, .int .i64 m.t, .int .i64 m.q, .int .i64 m.r]] w fun e w' => ∃ v', e = .returned v' ∧ IRow w' v' (tdR m) ∧ Below w.heap.size w w' := by
  have hB2 := below2 w (Obj.cells #[.slice ao n cap, .int .i64 m.p, .int .i64 m.s, .int .i64 m.e, .int .i64 m.d, .int .i64 m.t, .int .i64 m.q, .int .i64 m.r] 39) (Obj.cells #[.int .i64 m.s, .int .i64 m.e, .int .i64 m.d, .int .i64 m.r] 3)
  have L4 := ints_lit (w.alloc (Obj.cells #[.slice ao n cap, .int .i64 m.p, .int .i64 m.s, .int .i64 m.e, .int .i64 m.d, .int .i64 m.t, .int .i64 m.q, .int .i64 m.r] 39)) [m.s, m.e, m.d, m.r] 3 4 (by simp) (by simp)
  have L3 := ints_lit (w.alloc (Obj.cells #[.slice ao n cap, .int .i64 m.p, .int .i64 m.s, .int .i64 m.e, .int .i64 m.d, .int .i64 m.t, .int .i64 m.q, .int .i64 m.r] 39)) [m.s, m.e, m.d, m.r] 3 3 (by simp) (by simp)
  have hs1 : (w.alloc (Obj.cells #[.slice ao n cap, .int .i64 m.p, .int .i64 m.s, .int .i64 m.e, .int .i64 m.d, .int .i64 m.t, .int .i64 m.q, .int .i64 m.r] 39)).heap.size = w.heap.size + 1 := by simp
  rw [hs1] at L4 L3
  have HT : Hid (tdR m = if argB m then [m.s, m.e, m.d, m.r] else [m.s, m.e, m.d]) := rfl
  clear hs1
  go_enter Try.func36, Try.ntmps36
  go_wp2_with fail
  refine (ihasarg_any _ m _).mono ?_
  rintro e w1 ⟨rfl, hb1⟩
  have hB1 := hB2.trans (hb1.mono hB2.size)
  have L4' := L4.below hb1
  have L3' := L3.below hb1
  clear L4 L3 hB2 hb1
  cases hA : argB m with
  | true =>
    rw [hA] at HT
    go_wp2
    go_ret
    exact ⟨_, rfl, by rw [HT.out]; exact L4', hB1⟩
  | false =>
    rw [hA] at HT
    go_wp2
    go_ret
    exact ⟨_, rfl, by rw [HT.out]; exact L3', hB1⟩
end Go.Proofs.Ytbdgdeoecnhcdab
