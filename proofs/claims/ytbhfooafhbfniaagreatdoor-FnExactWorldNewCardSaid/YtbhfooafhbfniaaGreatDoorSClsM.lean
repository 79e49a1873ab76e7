/-
  Texts that stood by themselves, laid into one.
-/
import Derived.Test.YtbhfooafhbfniaaGreatDoorSAddM
import Derived.Test.YtbhfooafhbfniaaGreatDoorMkListM
import Derived.Test.YtbhfooafhbfniaaGreatDoorIReachM
import Derived.Test.YtbhfooafhbfniaaGreatDoorShapeM
import Derived.OneCell
import Derived.Test.YtbhfooafhbfniaaGreatDoorBsM
import Derived.Test.YtbhfooafhbfniaaGreatDoorSWireM
import Derived.Deep.CutBlock
import Derived.Deep.CutRange
/-
  Contract of spec's l2List: a list behind the pool that a pointer leads to.
-/
namespace Go.Proofs.YtbhfooafhbfniaaGreatDoor
open Go.RowKit
end Go.Proofs.YtbhfooafhbfniaaGreatDoor
/-
  Contract of impl.firstsAlike: for each node the first one that is alike.
-/
namespace Go.Proofs.YtbhfooafhbfniaaGreatDoor
open Go.RowKit Go.Maps
def padI (l : List Int) (n : Nat) : List Int := l ++ List.replicate (n - l.length) 0
end Go.Proofs.YtbhfooafhbfniaaGreatDoor
/-
  Contract of impl.SizeOf.
-/
namespace Go.Proofs.YtbhfooafhbfniaaGreatDoor
open Go.RowKit
def padded (xs : List Nd) (k n : Nat) : List Int := sizesTo xs k ++ List.replicate (n - k) 0
end Go.Proofs.YtbhfooafhbfniaaGreatDoor
/-
  Contract of spec's l1Min.
-/
namespace Go.Proofs.YtbhfooafhbfniaaGreatDoor
open Go.RowKit
end Go.Proofs.YtbhfooafhbfniaaGreatDoor
/-
  Contracts of spec's l2Has, l1Min and SizeOf.
-/
namespace Go.Proofs.YtbhfooafhbfniaaGreatDoor
open Go.RowKit
set_option maxHeartbeats 400000 in
theorem shas_any (v : Value) (xs : List Nd) (a : Int) (w : World) (R : NRow w v xs) :
    Calls Tryz.prog 100 #[.agg #[v], .int .i64 a] w fun e w' => e = .returned (.bool (hasI xs a)) ∧ Below w.heap.size w w' := by
  obtain ⟨ao, cap, rfl, _, hm, _⟩ := R
  go_enter Tryz.func100, Tryz.ntmps100
  go_wp2_with fail
  refine (lin_any _ _ _ _).mono ?_
  rintro e w1 ⟨rfl, rfl⟩
  go_wp2
  go_ret
  refine ⟨retB ?_, (Below.refl _ _).alloc (Nat.le_refl _) _⟩
  rw [Bool.eq_iff_iff]
  simp [hasI]
  omega
end Go.Proofs.YtbhfooafhbfniaaGreatDoor
/-
  Contract of spec's l2Classes: for each node the first one that is alike.
-/
namespace Go.Proofs.YtbhfooafhbfniaaGreatDoor
open Go.RowKit Go.Maps
theorem own_apart {w : World} {B B' : Nat} {e e' : TypeId} {k k' : Nat} {v v' : Value} {n n' : Nat} {xs xs' : List Value} (h : w.ownsRow B e k v n xs) (h' : w.ownsRow B' e' k' v' n' xs') (hne : e ≠ e') : v.ownBlock = none ∨ v.ownBlock ≠ v'.ownBlock := by
  rcases h.2 with ⟨rfl, _⟩ | ⟨g, cap, cur, rfl, hB, hg, _⟩
  · exact Or.inl rfl
  · exact Or.inr fun e => own_ne h' hg hne e.symm
def nblk (y : Nd) : Obj := .cells #[.int .i64 y.k, .int .i64 y.n, .string y.s, .int .i64 y.a, .int .i64 y.b] 130 (0, 0)
end Go.Proofs.YtbhfooafhbfniaaGreatDoor
