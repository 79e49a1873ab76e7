/-
  The law FnExactMake, walked: at every argument the law returns true.
-/
import Derived.Test.YtkchakcebdenjaaGreatWPartsM
import Derived.Test.YtkchakcebdenjaaGreatTo2M
import Derived.Test.YtkchakcebdenjaaGreatStrsM
import Derived.Deep.CutRange
import Derived.Deep.DeepCutAuto
import Derived.Deep.RegionHeld
namespace Go.Proofs.YtkchakcebdenjaaGreat
open Go.RowKit
def Var (w : World) (b lo hi : Nat) (v : Value) (xs : List Nd) : Prop :=
  w.heap[b]? = some (.cells #[v] 29 (0, 0)) ∧ w.ownsRow lo 92 5 v xs.length (ncs xs) ∧ (∀ k, v.ownBlock = some k → k < hi) ∧ hi ≤ w.heap.size
theorem Var.put {w w2 w5 : World} {b lo n c : Nat} {ao : Option Addr} {L : List Nd} (hB2 : Below w.heap.size w w2) (h25 : Below w2.heap.size w2 w5) (q5 : w5.heap[b]? = some (.cells #[.slice none 0 0] 29 (0, 0)))
    (ho : w5.ownsRow lo 92 5 (.slice ao n c) L.length (ncs L)) (hb : w2.heap.size ≤ b) :
    Var (w5.setCell ⟨b, 0, none⟩ (.slice ao n c)) b lo (w5.setCell ⟨b, 0, none⟩ (.slice ao n c)).heap.size (.slice ao n c) L ∧ Below w.heap.size w (w5.setCell ⟨b, 0, none⟩ (.slice ao n c)) ∧ Below w2.heap.size w2 (w5.setCell ⟨b, 0, none⟩ (.slice ao n c)) := by
  have h2 := h25.setCell (p := ⟨b, 0, none⟩) hb (.slice ao n c)
  have o2 := ownsRow_setCell_other ho (a := ⟨b, 0, none⟩) (own_ne ho q5 (by decide)) (.slice ao n c)
  exact ⟨⟨heap_setCell_same w5 b 0 _ _ _ q5, o2, fun k hk => (o2.lt k hk).2, Nat.le_refl _⟩, hB2.trans (h2.mono hB2.size), h2⟩
theorem Var.new {w w2 w5 : World} {lo n c : Nat} {ao : Option Addr} {L : List Nd} (hB2 : Below w.heap.size w w2) (h25 : Below w2.heap.size w2 w5) (ho : w5.ownsRow lo 92 5 (.slice ao n c) L.length (ncs L)) :
    Var (w5.alloc (.cells #[.slice ao n c] 29)) w5.heap.size lo (w5.alloc (.cells #[.slice ao n c] 29)).heap.size (.slice ao n c) L ∧ Below w.heap.size w (w5.alloc (.cells #[.slice ao n c] 29)) ∧ Below w2.heap.size w2 (w5.alloc (.cells #[.slice ao n c] 29)) := by
  have h2 := h25.alloc h25.size (.cells #[.slice ao n c] 29)
  exact ⟨⟨heap_alloc_new _ _, ho.alloc _, fun k hk => ((ho.alloc _).lt k hk).2, Nat.le_refl _⟩, hB2.trans (h2.mono hB2.size), h2⟩
theorem Var.below {w w' : World} {b lo hi : Nat} {v : Value} {xs : List Nd} (h : Var w b lo hi v xs) (hb : Below w.heap.size w w') : Var w' b lo hi v xs :=
  ⟨(hb.block b (Array.getElem?_eq_some_iff.1 h.1).1).trans h.1, own_below h.2.1 hb, h.2.2.1, Nat.le_trans h.2.2.2 hb.size⟩
theorem Var.cell {w : World} {b lo hi : Nat} {v : Value} {xs : List Nd} (h : Var w b lo hi v xs) : w.cell? ⟨b, 0, none⟩ = some v := by rw [cell_of_row w b 0 _ _ _ h.1]; rfl
theorem Var.row {w : World} {b lo hi : Nat} {v : Value} {xs : List Nd} (h : Var w b lo hi v xs) (hm : xs.length ≤ 4194304) (hz : ∀ x ∈ xs, x.s.size ≤ maxLen) : NRow w v xs := NRow.of_own h.2.1 (by omega) hz
theorem Var.lt {w : World} {b lo hi : Nat} {v : Value} {xs : List Nd} (h : Var w b lo hi v xs) : b < w.heap.size := (Array.getElem?_eq_some_iff.1 h.1).1
theorem Var.kept {w w' : World} {b lo hi lo' hi' b' : Nat} {v v' : Value} {xs xs' : List Nd} (h : Var w b lo hi v xs) (h' : Var w b' lo' hi' v' xs') (hg : w.grownBy w' v'.ownBlock) (hd : hi ≤ lo' ∨ hi' ≤ lo) : Var w' b lo hi v xs := by
  have hne : v'.ownBlock ≠ some b := own_ne h'.2.1 h.1 (by decide)
  refine ⟨(hg.block b h.lt (fun e => hne e.symm)).trans h.1, h.2.1.kept hg ?_, h.2.2.1, Nat.le_trans h.2.2.2 hg.size⟩
  cases hv : v.ownBlock with
  | none => exact Or.inl rfl
  | some k =>
    refine Or.inr fun e => ?_
    have k1 := h.2.2.1 k hv
    have k2 := (h.2.1.lt k hv).1
    have k3 := h'.2.2.1 k e.symm
    have k4 := (h'.2.1.lt k e.symm).1
    omega
theorem Var.marked {w w' : World} {b lo hi : Nat} {v : Value} {xs ys : List Nd} (h : Var w b lo hi v xs) (hg : w.grownBy w' v.ownBlock) (ho : w'.ownsRow lo 92 5 v ys.length (ncs ys)) : Var w' b lo hi v ys :=
  ⟨(hg.block b h.lt (fun e => own_ne h.2.1 h.1 (by decide) e.symm)).trans h.1, ho, h.2.2.1, Nat.le_trans h.2.2.2 hg.size⟩
theorem Var.block {w w' : World} {b lo hi : Nat} {v : Value} {xs : List Nd} (h : Var w b lo hi v xs) (hg : w.grownBy w' v.ownBlock) {j : Nat} {c : Array Value} {t : TypeId} (hj : w.heap[j]? = some (.cells c t (0, 0))) (hte : t ≠ 92) : w'.heap[j]? = some (.cells c t (0, 0)) :=
  (hg.block j (Array.getElem?_eq_some_iff.1 hj).1 (fun e => own_ne h.2.1 hj hte e.symm)).trans hj
theorem below_mark {w w' : World} {B b lo hi : Nat} {v : Value} {xs : List Nd} {w0 : World} (h0 : Below B w0 w) (h : Var w b lo hi v xs) (hg : w.grownBy w' v.ownBlock) (hlo : B ≤ lo) (hB : B ≤ w.heap.size) : Below B w0 w' :=
  h0.grown hg hB (fun k hk => Nat.le_trans hlo (h.2.1.lt k hk).1)
theorem boxes {w1 : World} {B : Nat} {v : Value} {x : Nd} (hx : w1.heap[B]? = some (.cells #[v] 24 (0, 0))) (hn : w1.heap[B + 1]? = some (.cells #[.int .i64 x.k, .int .i64 x.n, .string x.s, .int .i64 x.a, .int .i64 x.b] 98 (0, 0))) :
    w1.cell? ⟨B, 0, none⟩ = some v ∧ w1.cell? ⟨B + 1, 0, none⟩ = some (.int .i64 x.k) ∧ w1.cell? ⟨B + 1, 1, none⟩ = some (.int .i64 x.n) ∧ w1.cell? ⟨B + 1, 2, none⟩ = some (.string x.s) ∧ w1.cell? ⟨B + 1, 3, none⟩ = some (.int .i64 x.a) ∧ w1.cell? ⟨B + 1, 4, none⟩ = some (.int .i64 x.b) :=
  ⟨cell_of_row w1 _ 0 _ _ _ hx, cell_of_row w1 _ 0 _ _ _ hn, cell_of_row w1 _ 1 _ _ _ hn, cell_of_row w1 _ 2 _ _ _ hn, cell_of_row w1 _ 3 _ _ _ hn, cell_of_row w1 _ 4 _ _ _ hn⟩
theorem step_drew {w2 w3 : World} (h : Below w2.drew.heap.size w2.drew w3) : Below w2.heap.size w2 w3 := (Below.refl _ _).drew.trans h
end Go.Proofs.YtkchakcebdenjaaGreat
