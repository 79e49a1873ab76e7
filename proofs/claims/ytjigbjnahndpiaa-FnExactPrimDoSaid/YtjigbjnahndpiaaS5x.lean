/-
  What values come to, on the specification's side: what l5Do leaves; helpers. No condition.
-/
import Derived.Test.YtjigbjnahndpiaaS5a
import Derived.Test.YtjigbjnahndpiaaOc3
import Derived.Test.YtjigbjnahndpiaaSAdd
import Derived.Deep.RegionHeld
namespace Go.Proofs.Ytjigbjnahndpiaa
open Go.RowKit

/-- What l5Do leaves in the block b, and what it tells. -/
def S5Ans (b base : Nat) (xs : List Nd) (oc : Oc) (w : World) (e : Ending) (w' : World) : Prop :=
  ∃ v', e = .returned (.tuple #[.int .i64 (if oc.how = 0 then (if oc.there = -1 then (xs.length : Int) else oc.there) else -1), .int .i64 oc.how]) ∧
    w'.heap[b]? = some (.cells #[v'] 26 (0, 0)) ∧
    w'.ownsRow base 34 5 v' (if oc.how = 0 ∧ oc.there = -1 then xs ++ [oc.nd] else xs).length (ncs (if oc.how = 0 ∧ oc.there = -1 then xs ++ [oc.nd] else xs)) ∧ Below base w w'

theorem S5Ans.more {b base : Nat} {xs : List Nd} {oc : Oc} {w w' : World} {v' : Value} {V H : Int} (h0 : oc.how = 0) (h1 : oc.there = -1) (hV : V = xs.length) (hH : H = 0) (hb : w'.heap[b]? = some (.cells #[v'] 26 (0, 0)))
    (ho : w'.ownsRow base 34 5 v' (xs ++ [oc.nd]).length (ncs (xs ++ [oc.nd]))) (hB : Below base w w') : S5Ans b base xs oc w (.returned (.tuple #[.int .i64 V, .int .i64 H])) w' := by
  refine ⟨v', ?_, hb, ?_, hB⟩
  · rw [if_pos h0, if_pos h1, h0, hV, hH]
  · rw [if_pos ⟨h0, h1⟩]; exact ho
theorem S5Ans.same {b base : Nat} {xs : List Nd} {oc : Oc} {w w' : World} {v' : Value} {V H : Int} (h : ¬ (oc.how = 0 ∧ oc.there = -1)) (hV : V = if oc.how = 0 then oc.there else -1) (hH : H = oc.how) (hb : w'.heap[b]? = some (.cells #[v'] 26 (0, 0)))
    (ho : w'.ownsRow base 34 5 v' xs.length (ncs xs)) (hB : Below base w w') : S5Ans b base xs oc w (.returned (.tuple #[.int .i64 V, .int .i64 H])) w' := by
  refine ⟨v', ?_, hb, ?_, hB⟩
  · by_cases h0 : oc.how = 0
    · rw [if_pos h0, if_neg (fun h1 => h ⟨h0, h1⟩), hV, if_pos h0, hH]
    · rw [if_neg h0, hV, if_neg h0, hH]
  · rw [if_neg h]; exact ho

theorem five {w : World} {b : Nat} {t : TypeId} {u0 u1 u2 u3 u4 : Value} (h : w.heap[b]? = some (.cells #[u0, u1, u2, u3, u4] t (0, 0))) :
    w.cell? ⟨b, 0, none⟩ = some u0 ∧ w.cell? ⟨b, 1, none⟩ = some u1 ∧ w.cell? ⟨b, 2, none⟩ = some u2 ∧ w.cell? ⟨b, 3, none⟩ = some u3 ∧ w.cell? ⟨b, 4, none⟩ = some u4 ∧
    w.frozen? ⟨b, 0, none⟩ = false ∧ w.frozen? ⟨b, 1, none⟩ = false ∧ w.frozen? ⟨b, 2, none⟩ = false ∧ w.frozen? ⟨b, 3, none⟩ = false ∧ w.frozen? ⟨b, 4, none⟩ = false :=
  ⟨cell_of_row w b 0 _ _ _ h, cell_of_row w b 1 _ _ _ h, cell_of_row w b 2 _ _ _ h, cell_of_row w b 3 _ _ _ h, cell_of_row w b 4 _ _ _ h,
    frozen_of_row w b 0 _ _ h, frozen_of_row w b 1 _ _ h, frozen_of_row w b 2 _ _ h, frozen_of_row w b 3 _ _ h, frozen_of_row w b 4 _ _ h⟩

theorem cells12 {w w' : World} {B : Nat} {a1 a2 a3 a4 a5 a6 a7 a8 a9 a10 a11 a12 : Addr} {u1 u2 u3 u4 u5 u6 u7 u8 u9 u10 u11 u12 : Value} (h : w.cell? a1 = some u1 ∧ w.cell? a2 = some u2 ∧ w.cell? a3 = some u3 ∧ w.cell? a4 = some u4 ∧ w.cell? a5 = some u5 ∧ w.cell? a6 = some u6 ∧ w.cell? a7 = some u7 ∧ w.cell? a8 = some u8 ∧ w.cell? a9 = some u9 ∧ w.cell? a10 = some u10 ∧ w.cell? a11 = some u11 ∧ w.cell? a12 = some u12)
    (hb : Below B w w') (h1 : a1.block < B) (h2 : a2.block < B) (h3 : a3.block < B) (h4 : a4.block < B) (h5 : a5.block < B) (h6 : a6.block < B) (h7 : a7.block < B) (h8 : a8.block < B) (h9 : a9.block < B) (h10 : a10.block < B) (h11 : a11.block < B) (h12 : a12.block < B) : w'.cell? a1 = some u1 ∧ w'.cell? a2 = some u2 ∧ w'.cell? a3 = some u3 ∧ w'.cell? a4 = some u4 ∧ w'.cell? a5 = some u5 ∧ w'.cell? a6 = some u6 ∧ w'.cell? a7 = some u7 ∧ w'.cell? a8 = some u8 ∧ w'.cell? a9 = some u9 ∧ w'.cell? a10 = some u10 ∧ w'.cell? a11 = some u11 ∧ w'.cell? a12 = some u12 := by
  obtain ⟨e1, e2, e3, e4, e5, e6, e7, e8, e9, e10, e11, e12⟩ := h
  exact ⟨(hb.cell h1).trans e1, (hb.cell h2).trans e2, (hb.cell h3).trans e3, (hb.cell h4).trans e4, (hb.cell h5).trans e5, (hb.cell h6).trans e6, (hb.cell h7).trans e7, (hb.cell h8).trans e8, (hb.cell h9).trans e9, (hb.cell h10).trans e10, (hb.cell h11).trans e11, (hb.cell h12).trans e12⟩

theorem set5b {w : World} {B c : Nat} (h : B ≤ c) (v0 v1 v2 v3 v4 : Value) : Below B w (((((w.setCell ⟨c, 0, none⟩ v0).setCell ⟨c, 1, none⟩ v1).setCell ⟨c, 2, none⟩ v2).setCell ⟨c, 3, none⟩ v3).setCell ⟨c, 4, none⟩ v4) :=
  ((((((Below.refl B w).setCell (p := ⟨c, 0, none⟩) h _).setCell (p := ⟨c, 1, none⟩) h _).setCell (p := ⟨c, 2, none⟩) h _).setCell (p := ⟨c, 3, none⟩) h _).setCell (p := ⟨c, 4, none⟩) h _)

theorem put5 {w : World} {b : Nat} {t : TypeId} {u0 u1 u2 u3 u4 : Value} (h : w.heap[b]? = some (.cells #[u0, u1, u2, u3, u4] t (0, 0))) (v0 v1 v2 v3 v4 : Value) :
    (((((w.setCell ⟨b, 0, none⟩ v0).setCell ⟨b, 1, none⟩ v1).setCell ⟨b, 2, none⟩ v2).setCell ⟨b, 3, none⟩ v3).setCell ⟨b, 4, none⟩ v4).heap[b]? = some (.cells #[v0, v1, v2, v3, v4] t (0, 0)) := by
  have q0 : (w.setCell ⟨b, 0, none⟩ v0).heap[b]? = some (.cells #[v0, u1, u2, u3, u4] t (0, 0)) := heap_setCell_same w b 0 _ _ v0 h
  generalize w.setCell ⟨b, 0, none⟩ v0 = x0 at *
  have q1 : (x0.setCell ⟨b, 1, none⟩ v1).heap[b]? = some (.cells #[v0, v1, u2, u3, u4] t (0, 0)) := heap_setCell_same x0 b 1 _ _ v1 q0
  generalize x0.setCell ⟨b, 1, none⟩ v1 = x1 at *
  have q2 : (x1.setCell ⟨b, 2, none⟩ v2).heap[b]? = some (.cells #[v0, v1, v2, u3, u4] t (0, 0)) := heap_setCell_same x1 b 2 _ _ v2 q1
  generalize x1.setCell ⟨b, 2, none⟩ v2 = x2 at *
  have q3 : (x2.setCell ⟨b, 3, none⟩ v3).heap[b]? = some (.cells #[v0, v1, v2, v3, u4] t (0, 0)) := heap_setCell_same x2 b 3 _ _ v3 q2
  generalize x2.setCell ⟨b, 3, none⟩ v3 = x3 at *
  exact heap_setCell_same x3 b 4 _ _ v4 q3

theorem numOc_there (n : Int) (a b : Nd) (h : (numOc n a b).how = 0) : (numOc n a b).there = -1 := by
  revert h
  unfold numOc intOc
  repeat' split
  all_goals first | (intro _; rfl) | (intro h; exact absurd h (by decide))
end Go.Proofs.Ytjigbjnahndpiaa
