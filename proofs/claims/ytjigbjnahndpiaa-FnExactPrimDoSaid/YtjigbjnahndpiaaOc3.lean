/-
  What values come to, on impl's side: innerOutcome. Conditions: a right pool, as many nodes of it as are taken.
-/
import Derived.Test.YtjigbjnahndpiaaOc2
import Derived.Test.YtjigbjnahndpiaaPrim2
import Derived.Test.YtjigbjnahndpiaaISame
import Derived.Test.YtjigbjnahndpiaaMkList
namespace Go.Proofs.Ytjigbjnahndpiaa
open Go.RowKit

noncomputable def innerOc (xs : List Nd) (n : Int) (zs : List Int) : Oc :=
  if n ≤ 5 then numOc n (xs.getD (zs.getD 0 0).toNat z0) (xs.getD (zs.getD 1 0).toNat z0)
  else if n = 6 then ocMade ⟨5, 0, ByteArray.empty, zs.getD 0 0, zs.getD 1 0⟩
  else if n ≤ 8 then partOc n (xs.getD (zs.getD 0 0).toNat z0)
  else if n = 9 then ocMade (boolNd (decide ((xs.getD (zs.getD 0 0).toNat z0).k = 1)))
  else if n = 10 then ocMade (boolNd (decide ((xs.getD (zs.getD 0 0).toNat z0).k = 5)))
  else if n = 11 then ocMade (boolNd (likeR xs (zs.getD 0 0) (zs.getD 1 0)))
  else ocMade (boolNd (decide ((xs.getD (zs.getD 0 0).toNat z0).k = 2) && decide ((xs.getD (zs.getD 0 0).toNat z0).n = 0)))

theorem seven {w : World} {b : Nat} {t : TypeId} {u0 u1 u2 u3 u4 u5 u6 : Value} (h : w.heap[b]? = some (.cells #[u0, u1, u2, u3, u4, u5, u6] t (0, 0))) :
    w.cell? ⟨b, 0, none⟩ = some u0 ∧ w.cell? ⟨b, 1, none⟩ = some u1 ∧ w.cell? ⟨b, 2, none⟩ = some u2 ∧ w.cell? ⟨b, 3, none⟩ = some u3 ∧ w.cell? ⟨b, 4, none⟩ = some u4 ∧ w.cell? ⟨b, 5, none⟩ = some u5 ∧ w.cell? ⟨b, 6, none⟩ = some u6 ∧
    w.frozen? ⟨b, 0, none⟩ = false ∧ w.frozen? ⟨b, 1, none⟩ = false ∧ w.frozen? ⟨b, 2, none⟩ = false ∧ w.frozen? ⟨b, 3, none⟩ = false ∧ w.frozen? ⟨b, 4, none⟩ = false ∧ w.frozen? ⟨b, 5, none⟩ = false ∧ w.frozen? ⟨b, 6, none⟩ = false :=
  ⟨cell_of_row w b 0 _ _ _ h, cell_of_row w b 1 _ _ _ h, cell_of_row w b 2 _ _ _ h, cell_of_row w b 3 _ _ _ h, cell_of_row w b 4 _ _ _ h, cell_of_row w b 5 _ _ _ h, cell_of_row w b 6 _ _ _ h,
    frozen_of_row w b 0 _ _ h, frozen_of_row w b 1 _ _ h, frozen_of_row w b 2 _ _ h, frozen_of_row w b 3 _ _ h, frozen_of_row w b 4 _ _ h, frozen_of_row w b 5 _ _ h, frozen_of_row w b 6 _ _ h⟩

theorem put7 {w : World} {b B : Nat} {t : TypeId} {u0 u1 u2 u3 u4 u5 u6 : Value} (h : w.heap[b]? = some (.cells #[u0, u1, u2, u3, u4, u5, u6] t (0, 0))) (hB : B ≤ b) (v0 v1 v2 v3 v4 v5 v6 : Value) :
    (((((((w.setCell ⟨b, 0, none⟩ v0).setCell ⟨b, 1, none⟩ v1).setCell ⟨b, 2, none⟩ v2).setCell ⟨b, 3, none⟩ v3).setCell ⟨b, 4, none⟩ v4).setCell ⟨b, 5, none⟩ v5).setCell ⟨b, 6, none⟩ v6).heap[b]? = some (.cells #[v0, v1, v2, v3, v4, v5, v6] t (0, 0)) ∧
    Below B w (((((((w.setCell ⟨b, 0, none⟩ v0).setCell ⟨b, 1, none⟩ v1).setCell ⟨b, 2, none⟩ v2).setCell ⟨b, 3, none⟩ v3).setCell ⟨b, 4, none⟩ v4).setCell ⟨b, 5, none⟩ v5).setCell ⟨b, 6, none⟩ v6) := by
  have b0 : Below B w w := Below.refl B w
  have q0 : (w.setCell ⟨b, 0, none⟩ v0).heap[b]? = some (.cells #[v0, u1, u2, u3, u4, u5, u6] t (0, 0)) := heap_setCell_same w b 0 _ _ v0 h
  have b1 : Below B w (w.setCell ⟨b, 0, none⟩ v0) := b0.setCell (p := ⟨b, 0, none⟩) hB _
  generalize w.setCell ⟨b, 0, none⟩ v0 = x0 at *
  have q1 : (x0.setCell ⟨b, 1, none⟩ v1).heap[b]? = some (.cells #[v0, v1, u2, u3, u4, u5, u6] t (0, 0)) := heap_setCell_same x0 b 1 _ _ v1 q0
  have b2 : Below B w (x0.setCell ⟨b, 1, none⟩ v1) := b1.setCell (p := ⟨b, 1, none⟩) hB _
  generalize x0.setCell ⟨b, 1, none⟩ v1 = x1 at *
  have q2 : (x1.setCell ⟨b, 2, none⟩ v2).heap[b]? = some (.cells #[v0, v1, v2, u3, u4, u5, u6] t (0, 0)) := heap_setCell_same x1 b 2 _ _ v2 q1
  have b3 : Below B w (x1.setCell ⟨b, 2, none⟩ v2) := b2.setCell (p := ⟨b, 2, none⟩) hB _
  generalize x1.setCell ⟨b, 2, none⟩ v2 = x2 at *
  have q3 : (x2.setCell ⟨b, 3, none⟩ v3).heap[b]? = some (.cells #[v0, v1, v2, v3, u4, u5, u6] t (0, 0)) := heap_setCell_same x2 b 3 _ _ v3 q2
  have b4 : Below B w (x2.setCell ⟨b, 3, none⟩ v3) := b3.setCell (p := ⟨b, 3, none⟩) hB _
  generalize x2.setCell ⟨b, 3, none⟩ v3 = x3 at *
  have q4 : (x3.setCell ⟨b, 4, none⟩ v4).heap[b]? = some (.cells #[v0, v1, v2, v3, v4, u5, u6] t (0, 0)) := heap_setCell_same x3 b 4 _ _ v4 q3
  have b5 : Below B w (x3.setCell ⟨b, 4, none⟩ v4) := b4.setCell (p := ⟨b, 4, none⟩) hB _
  generalize x3.setCell ⟨b, 4, none⟩ v4 = x4 at *
  have q5 : (x4.setCell ⟨b, 5, none⟩ v5).heap[b]? = some (.cells #[v0, v1, v2, v3, v4, v5, u6] t (0, 0)) := heap_setCell_same x4 b 5 _ _ v5 q4
  have b6 : Below B w (x4.setCell ⟨b, 5, none⟩ v5) := b5.setCell (p := ⟨b, 5, none⟩) hB _
  generalize x4.setCell ⟨b, 5, none⟩ v5 = x5 at *
  have q6 : (x5.setCell ⟨b, 6, none⟩ v6).heap[b]? = some (.cells #[v0, v1, v2, v3, v4, v5, v6] t (0, 0)) := heap_setCell_same x5 b 6 _ _ v6 q5
  have b7 : Below B w (x5.setCell ⟨b, 6, none⟩ v6) := b6.setCell (p := ⟨b, 6, none⟩) hB _
  generalize x5.setCell ⟨b, 6, none⟩ v6 = x6 at *
  exact ⟨q6, b7⟩
end Go.Proofs.Ytjigbjnahndpiaa
