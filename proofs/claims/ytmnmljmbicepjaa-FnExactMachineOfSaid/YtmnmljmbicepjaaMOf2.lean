/-
  What MachineOf answers, and contracts of impl's takes, begins. No condition.
-/
import Derived.Test.YtmnmljmbicepjaaMOf1
import Derived.Test.YtmnmljmbicepjaaCodeOk
import Derived.Test.YtmnmljmbicepjaaMachRec
import Derived.Test.YtmnmljmbicepjaaWith
namespace Go.Proofs.Ytmnmljmbicepjaa
open Go.RowKit

/-- The function that a machine begins with, if it is one. -/
def ofD (ns : List Nd) (is : List In) (ds : List Df) (xs : List Nd) (f : Int) : Option Nd :=
  if codeB ns is ds && poolB xs && hasI xs f then (xs[f.toNat]?).filter (fun x => decide (x.k = 6) && decide (x.n % 8 = 0) && decide (x.n / 8 < is.length) && decide (xs.length + 2 ≤ 3000)) else none
def ofL (xs : List Nd) : Option Nd → List Nd
  | none => []
  | some x => xs ++ [nilN] ++ [⟨5, 0, ByteArray.empty, xs.length, x.a⟩]
def ofM (xs : List Nd) : Option Nd → Mc
  | none => ⟨0, 0, 0, 0, 0, 0, 0⟩
  | some x => ⟨x.n / 8, xs.length, (xs.length + 1 : Nat), xs.length, 0, 0, 0⟩

set_option maxHeartbeats 400000 in
theorem takes_any (x : Nd) (w : World) (h0 : 0 ≤ x.n) (h1 : x.n ≤ 1000000000) : Calls Try.prog 41 #[.agg #[.int .i64 x.k, .int .i64 x.n, .string x.s, .int .i64 x.a, .int .i64 x.b]] w fun e w' => e = .returned (.int .i64 (x.n % 8)) ∧ Below w.heap.size w w' := by
  go_enter Try.func41, Try.ntmps41
  go_wp2
  go_ret
  exact ⟨rfl, (Below.refl _ _).alloc (Nat.le_refl _) _⟩
set_option maxHeartbeats 400000 in
theorem begins_any (x : Nd) (w : World) (h0 : 0 ≤ x.n) (h1 : x.n ≤ 1000000000) : Calls Try.prog 43 #[.agg #[.int .i64 x.k, .int .i64 x.n, .string x.s, .int .i64 x.a, .int .i64 x.b]] w fun e w' => e = .returned (.int .i64 (x.n / 8)) ∧ Below w.heap.size w w' := by
  go_enter Try.func43, Try.ntmps43
  go_wp2
  go_ret
  exact ⟨rfl, (Below.refl _ _).alloc (Nat.le_refl _) _⟩
theorem three_boxes (w : World) (A B C : Obj) : Below w.heap.size w (((w.alloc A).alloc B).alloc C) ∧ (((w.alloc A).alloc B).alloc C).heap[w.heap.size]? = some A ∧ (((w.alloc A).alloc B).alloc C).heap[w.heap.size + 1]? = some B ∧ (((w.alloc A).alloc B).alloc C).heap[w.heap.size + 1 + 1]? = some C :=
  ⟨(((Below.refl _ _).alloc (Nat.le_refl _) _).alloc (by simp) _).alloc (by simp; omega) _, (heap_alloc_old _ _ (by simp; omega)).trans ((heap_alloc_old _ _ (by simp)).trans (heap_alloc_new _ _)), (heap_alloc_old _ _ (by simp)).trans (heap_alloc2_new _ _ _), heap_alloc3_new _ _ _ _⟩
theorem own_stored {w wB : World} {base g k n : Nat} {t : TypeId} {v : Value} {xs : List Value} (ho : w.ownsRow base t k v n xs) (hk : ∀ j, j ≠ g → wB.heap[j]? = w.heap[j]?) (hne : v.ownBlock ≠ some g) : wB.ownsRow base t k v n xs := by
  obtain ⟨h1, h2⟩ := ho
  rcases h2 with ⟨rfl, h0⟩ | ⟨g', cap, cur, rfl, hb, hg, r⟩
  · exact ⟨h1, Or.inl ⟨rfl, h0⟩⟩
  · exact ⟨h1, Or.inr ⟨g', cap, cur, rfl, hb, (hk g' (by intro e; exact hne (by rw [e]; rfl))).trans hg, r⟩⟩
end Go.Proofs.Ytmnmljmbicepjaa
