/-
  Contract of the draws' DrawMake.
-/
import Derived.Test.YtbdgdeoecnhcdaaDraw11
namespace Go.Proofs.Ytbdgdeoecnhcdaa
open Go.RowKit

theorem results_row_row {P : Program} {fn : Func} {p q : Tmp} {ty ty' : TypeId} (h : fn.results = #[.cell p ty, .cell q ty']) (tmps : Array Value) (w : World) (g : Nat) (t : TypeId) (cs : Array Value) (fr : Nat × Nat) (d : TypeDesc)
    (hp : tmps.getD p undef = .pointer (some ⟨g, 0, none⟩)) (hg : w.heap[g]? = some (.cells cs t fr)) (hu : P.underlying ty = some d) (hd : (match d with | .struct _ | .array _ _ => true | _ => false) = true) (hi : (P.info? ty).map (·.size) = some cs.size)
    (g' : Nat) (t' : TypeId) (cs' : Array Value) (fr' : Nat × Nat) (d' : TypeDesc) (hp' : tmps.getD q undef = .pointer (some ⟨g', 0, none⟩)) (hg' : w.heap[g']? = some (.cells cs' t' fr')) (hu' : P.underlying ty' = some d') (hd' : (match d' with | .struct _ | .array _ _ => true | _ => false) = true) (hi' : (P.info? ty').map (·.size) = some cs'.size) :
    (results fn tmps).run P w = .ok (.tuple #[.agg cs, .agg cs']) w := by
  have e : tmps[p]?.getD undef = .pointer (some ⟨g, 0, none⟩) := by simpa using hp
  have e' : tmps[q]?.getD undef = .pointer (some ⟨g', 0, none⟩) := by simpa using hp'
  simp [results, h, e, e', asAddr, run_loadVar_row w g t ty cs fr d hg hu hd hi, run_loadVar_row w g' t' ty' cs' fr' d' hg' hu' hd' hi']
theorem blk_drew {w : World} {g : Nat} {o : Obj} (h : w.heap[g]? = some o) : w.drew.heap[g]? = some o := h
theorem own_drew {w : World} {B k n : Nat} {e : TypeId} {v : Value} {l : List Value} (h : w.ownsRow B e k v n l) : w.drew.ownsRow B e k v n l := h
abbrev S5 (W : World) (r : Nat) (y : Nd) : World := ((((W.setCell ⟨r, 0, none⟩ (.int .i64 y.k)).setCell ⟨r, 1, none⟩ (.int .i64 y.n)).setCell ⟨r, 2, none⟩ (.string y.s)).setCell ⟨r, 3, none⟩ (.int .i64 y.a)).setCell ⟨r, 4, none⟩ (.int .i64 y.b)
theorem s5_same {W : World} {r : Nat} {z : Nd} (y : Nd) (h : W.heap[r]? = some (ndO z)) : (S5 W r y).heap[r]? = some (ndO y) :=
  heap_setCell_same _ r 4 _ _ _ (heap_setCell_same _ r 3 _ _ _ (heap_setCell_same _ r 2 _ _ _ (heap_setCell_same _ r 1 _ _ _ (heap_setCell_same _ r 0 _ _ _ h))))
theorem s5_other {W : World} {r B : Nat} {o : Obj} (y : Nd) (h : W.heap[B]? = some o) (hne : r ≠ B) : (S5 W r y).heap[B]? = some o := blk_ne (blk_ne (blk_ne (blk_ne (blk_ne h hne) hne) hne) hne) hne
theorem s5_below {W : World} {r B : Nat} (y : Nd) (h : B ≤ r) : Below B W (S5 W r y) :=
  ((((((Below.refl _ _).setCell (p := ⟨r, 0, none⟩) h _).setCell (p := ⟨r, 1, none⟩) h _).setCell (p := ⟨r, 2, none⟩) h _).setCell (p := ⟨r, 3, none⟩) h _).setCell (p := ⟨r, 4, none⟩) h _)
theorem s5_own {W : World} {r base k n : Nat} {e : TypeId} {v : Value} {l : List Value} (y : Nd) (h : W.ownsRow base e k v n l) (hr : r < base) : (S5 W r y).ownsRow base e k v n l :=
  ownsRow_setCell_below (a := ⟨r, 4, none⟩) (ownsRow_setCell_below (a := ⟨r, 3, none⟩) (ownsRow_setCell_below (a := ⟨r, 2, none⟩) (ownsRow_setCell_below (a := ⟨r, 1, none⟩) (ownsRow_setCell_below h (a := ⟨r, 0, none⟩) hr _) hr _) hr _) hr _) hr _
theorem own_upto {w w' : World} {B k n x : Nat} {e : TypeId} {v : Value} {l : List Value} (h : w.ownsRow B e k v n l) (hb : Below x w w') (hx : ∀ j, v.ownBlock = some j → j < x) : w'.ownsRow B e k v n l := by
  refine ⟨h.1, ?_⟩
  rcases h.2 with ⟨rfl, h0⟩ | ⟨g, cap, cur, rfl, hB, hg, hr⟩
  · exact Or.inl ⟨rfl, h0⟩
  · exact Or.inr ⟨g, cap, cur, rfl, hB, (hb.block g (hx g rfl)).trans hg, hr⟩
/-- A pool and a node, each into its result's variable. -/
theorem two_put {W : World} {r1 r2 base n : Nat} {u V : Value} {z : Nd} {l : List Value} (y : Nd) (h1 : W.heap[r1]? = some (.cells #[u] 26 (0, 0))) (h2 : W.heap[r2]? = some (ndO z)) (ho : W.ownsRow base 33 5 V n l) (hne : r1 < r2) (hb : r2 < base) :
    ((S5 (W.setCell ⟨r1, 0, none⟩ V) r2 y).heap[r1]? = some (.cells #[V] 26 (0, 0)) ∧ (S5 (W.setCell ⟨r1, 0, none⟩ V) r2 y).heap[r2]? = some (ndO y) ∧ (S5 (W.setCell ⟨r1, 0, none⟩ V) r2 y).ownsRow base 33 5 V n l ∧ Below r1 W (S5 (W.setCell ⟨r1, 0, none⟩ V) r2 y)) ∧
    (((S5 W r2 y).setCell ⟨r1, 0, none⟩ V).heap[r1]? = some (.cells #[V] 26 (0, 0)) ∧ ((S5 W r2 y).setCell ⟨r1, 0, none⟩ V).heap[r2]? = some (ndO y) ∧ ((S5 W r2 y).setCell ⟨r1, 0, none⟩ V).ownsRow base 33 5 V n l ∧ Below r1 W ((S5 W r2 y).setCell ⟨r1, 0, none⟩ V)) :=
  ⟨⟨s5_other y (heap_setCell_same W r1 0 _ _ V h1) (by omega), s5_same y (blk_ne h2 (by omega)), s5_own y (ownsRow_setCell_below ho (a := ⟨r1, 0, none⟩) (by show r1 < base; omega) _) hb, ((Below.refl r1 W).setCell (p := ⟨r1, 0, none⟩) (Nat.le_refl _) V).trans (s5_below y (by omega))⟩,
   ⟨heap_setCell_same _ r1 0 _ _ V (s5_other y h1 (by omega)), blk_ne (s5_same y h2) (by omega), ownsRow_setCell_below (s5_own y ho hb) (a := ⟨r1, 0, none⟩) (by show r1 < base; omega) _, (s5_below (B := r1) y (by omega)).setCell (p := ⟨r1, 0, none⟩) (Nat.le_refl _) V⟩⟩

end Go.Proofs.Ytbdgdeoecnhcdaa
