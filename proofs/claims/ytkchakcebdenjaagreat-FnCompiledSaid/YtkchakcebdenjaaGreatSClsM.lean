/-
  Texts that stood by themselves, laid into one.
-/
import Derived.Test.YtkchakcebdenjaaGreatIntsM
import Derived.Test.YtkchakcebdenjaaGreatStore2M
import Derived.OneCell
import Derived.Test.YtkchakcebdenjaaGreatSNodeM
import Derived.Test.YtkchakcebdenjaaGreatShapeM
import Derived.Deep.CutBlock
import Derived.Deep.CutRange
/-
  Contract of impl.firstsAlike: for each node the first one that is alike.
-/
namespace Go.Proofs.YtkchakcebdenjaaGreat
open Go.RowKit Go.Maps
def padI (l : List Int) (n : Nat) : List Int := l ++ List.replicate (n - l.length) 0
end Go.Proofs.YtkchakcebdenjaaGreat
/-
  Contract of impl.SizeOf.
-/
namespace Go.Proofs.YtkchakcebdenjaaGreat
open Go.RowKit
def padded (xs : List Nd) (k n : Nat) : List Int := sizesTo xs k ++ List.replicate (n - k) 0
end Go.Proofs.YtkchakcebdenjaaGreat
/-
  Contract of spec's l1Min.
-/
namespace Go.Proofs.YtkchakcebdenjaaGreat
open Go.RowKit
set_option maxHeartbeats 400000 in
theorem lmin_any (x y : Int) (w : World) : Calls Tryz.prog 79 #[.int .i64 x, .int .i64 y] w fun e w' => e = .returned (.int .i64 (min x y)) ∧ w' = w := by
  by_cases h : x < y
  · have HM : Hid (min x y = x) := by unfold Hid; omega
    go_enter Tryz.func79, Tryz.ntmps79
    go_wp2
    go_ret
    exact ⟨by rw [HM.out]; rfl, rfl⟩
  · have HM : Hid (min x y = y) := by unfold Hid; omega
    go_enter Tryz.func79, Tryz.ntmps79
    go_wp2
    go_ret
    exact ⟨by rw [HM.out]; rfl, rfl⟩
end Go.Proofs.YtkchakcebdenjaaGreat
/-
  Contracts of spec's l2Has, l1Min and SizeOf.
-/
namespace Go.Proofs.YtkchakcebdenjaaGreat
open Go.RowKit
end Go.Proofs.YtkchakcebdenjaaGreat
/-
  Contract of spec's l2Classes: for each node the first one that is alike.
-/
namespace Go.Proofs.YtkchakcebdenjaaGreat
open Go.RowKit Go.Maps
theorem own_apart {w : World} {B B' : Nat} {e e' : TypeId} {k k' : Nat} {v v' : Value} {n n' : Nat} {xs xs' : List Value} (h : w.ownsRow B e k v n xs) (h' : w.ownsRow B' e' k' v' n' xs') (hne : e ≠ e') : v.ownBlock = none ∨ v.ownBlock ≠ v'.ownBlock := by
  rcases h.2 with ⟨rfl, _⟩ | ⟨g, cap, cur, rfl, hB, hg, _⟩
  · exact Or.inl rfl
  · exact Or.inr fun e => own_ne h' hg hne e.symm
def nblk (y : Nd) : Obj := .cells #[.int .i64 y.k, .int .i64 y.n, .string y.s, .int .i64 y.a, .int .i64 y.b] 92 (0, 0)
end Go.Proofs.YtkchakcebdenjaaGreat
