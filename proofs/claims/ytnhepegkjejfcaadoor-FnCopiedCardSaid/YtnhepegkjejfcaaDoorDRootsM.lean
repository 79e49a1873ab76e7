/-
  Texts that stood by themselves, laid into one.
-/
import Derived.Test.YtnhepegkjejfcaaDoorDraw10M
import Derived.Test.YtnhepegkjejfcaaDoorKeyM
import Derived.Test.YtnhepegkjejfcaaDoorIntsM
import Derived.Test.YtnhepegkjejfcaaDoorMv1M
/-
  Contract of the draws' DrawSizeOf.
-/
namespace Go.Proofs.YtnhepegkjejfcaaDoor
open Go.RowKit

theorem PV.below {w w' : World} {b base : Nat} {xs : List Nd} (h : PV w b base xs) (hb : Below w.heap.size w w') : PV w' b base xs := by
  obtain ⟨v', h1, h2⟩ := h
  exact ⟨v', (hb.block b (Array.getElem?_eq_some_iff.1 h1).1).trans h1, own_below h2 hb⟩
theorem PV.turn {w w' : World} {b P : Nat} {xs : List Nd} (h : PV w b (P + 1) xs) (hg : w.grownBy w' (some P)) (hb : P < b) : PV w' b (P + 1) xs := h.kept hg (by omega) (by omega)
theorem below_own {w0 w w' : World} {v : Value} {zs : List Int} {P : Nat} (c : Cur w0 v zs w P) (hb : Below (P + 1) w w') : Cur w0 v zs w' P := c.kept hb

end Go.Proofs.YtnhepegkjejfcaaDoor

/-
  Contract of the draws' DrawMake.
-/
namespace Go.Proofs.YtnhepegkjejfcaaDoor
open Go.RowKit

theorem results_row_row {P : Program} {fn : Func} {p q : Tmp} {ty ty' : TypeId} (h : fn.results = #[.cell p ty, .cell q ty']) (tmps : Array Value) (w : World) (g : Nat) (t : TypeId) (cs : Array Value) (fr : Nat × Nat) (d : TypeDesc)
    (hp : tmps.getD p undef = .pointer (some ⟨g, 0, none⟩)) (hg : w.heap[g]? = some (.cells cs t fr)) (hu : P.underlying ty = some d) (hd : (match d with | .struct _ | .array _ _ => true | _ => false) = true) (hi : (P.info? ty).map (·.size) = some cs.size)
    (g' : Nat) (t' : TypeId) (cs' : Array Value) (fr' : Nat × Nat) (d' : TypeDesc) (hp' : tmps.getD q undef = .pointer (some ⟨g', 0, none⟩)) (hg' : w.heap[g']? = some (.cells cs' t' fr')) (hu' : P.underlying ty' = some d') (hd' : (match d' with | .struct _ | .array _ _ => true | _ => false) = true) (hi' : (P.info? ty').map (·.size) = some cs'.size) :
    (results fn tmps).run P w = .ok (.tuple #[.agg cs, .agg cs']) w := by
  have e : tmps[p]?.getD undef = .pointer (some ⟨g, 0, none⟩) := by simpa using hp
  have e' : tmps[q]?.getD undef = .pointer (some ⟨g', 0, none⟩) := by simpa using hp'
  simp [results, h, e, e', asAddr, run_loadVar_row w g t ty cs fr d hg hu hd hi, run_loadVar_row w g' t' ty' cs' fr' d' hg' hu' hd' hi']
theorem blk_drew {w : World} {g : Nat} {o : Obj} (h : w.heap[g]? = some o) : w.drew.heap[g]? = some o := h
theorem own_drew {w : World} {B k n : Nat} {e : TypeId} {v : Value} {l : List Value} (h : w.ownsRow B e k v n l) : w.drew.ownsRow B e k v n l := h
abbrev S5 (W : World) (r : Nat) (y : Nd) : World := ((((W.setCell ⟨r, 0, none⟩ (.int .i64 y.k)).setCell ⟨r, 1, none⟩ (.int .i64 y.n)).setCell ⟨r, 2, none⟩ (.string y.s)).setCell ⟨r, 3, none⟩ (.int .i64 y.a)).setCell ⟨r, 4, none⟩ (.int .i64 y.b)
theorem s5_same {W : World} {r : Nat} {z : Nd} (y : Nd) (h : W.heap[r]? = some (ndO z)) : (S5 W r y).heap[r]? = some (ndO y) :=
  heap_setCell_same _ r 4 _ _ _ (heap_setCell_same _ r 3 _ _ _ (heap_setCell_same _ r 2 _ _ _ (heap_setCell_same _ r 1 _ _ _ (heap_setCell_same _ r 0 _ _ _ h))))
theorem s5_other {W : World} {r B : Nat} {o : Obj} (y : Nd) (h : W.heap[B]? = some o) (hne : r ≠ B) : (S5 W r y).heap[B]? = some o := blk_ne (blk_ne (blk_ne (blk_ne (blk_ne h hne) hne) hne) hne) hne
theorem s5_below {W : World} {r B : Nat} (y : Nd) (h : B ≤ r) : Below B W (S5 W r y) :=
  ((((((Below.refl _ _).setCell (p := ⟨r, 0, none⟩) h _).setCell (p := ⟨r, 1, none⟩) h _).setCell (p := ⟨r, 2, none⟩) h _).setCell (p := ⟨r, 3, none⟩) h _).setCell (p := ⟨r, 4, none⟩) h _)
theorem s5_own {W : World} {r base k n : Nat} {e : TypeId} {v : Value} {l : List Value} (y : Nd) (h : W.ownsRow base e k v n l) (hr : r < base) : (S5 W r y).ownsRow base e k v n l :=
  ownsRow_setCell_below (a := ⟨r, 4, none⟩) (ownsRow_setCell_below (a := ⟨r, 3, none⟩) (ownsRow_setCell_below (a := ⟨r, 2, none⟩) (ownsRow_setCell_below (a := ⟨r, 1, none⟩) (ownsRow_setCell_below h (a := ⟨r, 0, none⟩) hr _) hr _) hr _) hr _) hr _
theorem own_upto {w w' : World} {B k n x : Nat} {e : TypeId} {v : Value} {l : List Value} (h : w.ownsRow B e k v n l) (hb : Below x w w') (hx : ∀ j, v.ownBlock = some j → j < x) : w'.ownsRow B e k v n l := by
  refine ⟨h.1, ?_⟩
  rcases h.2 with ⟨rfl, h0⟩ | ⟨g, cap, cur, rfl, hB, hg, hr⟩
  · exact Or.inl ⟨rfl, h0⟩
  · exact Or.inr ⟨g, cap, cur, rfl, hB, (hb.block g (hx g rfl)).trans hg, hr⟩
/-- A pool and a node, each into its result's variable. -/
theorem two_put {W : World} {r1 r2 base n : Nat} {u V : Value} {z : Nd} {l : List Value} (y : Nd) (h1 : W.heap[r1]? = some (.cells #[u] 26 (0, 0))) (h2 : W.heap[r2]? = some (ndO z)) (ho : W.ownsRow base 40 5 V n l) (hne : r1 < r2) (hb : r2 < base) :
    ((S5 (W.setCell ⟨r1, 0, none⟩ V) r2 y).heap[r1]? = some (.cells #[V] 26 (0, 0)) ∧ (S5 (W.setCell ⟨r1, 0, none⟩ V) r2 y).heap[r2]? = some (ndO y) ∧ (S5 (W.setCell ⟨r1, 0, none⟩ V) r2 y).ownsRow base 40 5 V n l ∧ Below r1 W (S5 (W.setCell ⟨r1, 0, none⟩ V) r2 y)) ∧
    (((S5 W r2 y).setCell ⟨r1, 0, none⟩ V).heap[r1]? = some (.cells #[V] 26 (0, 0)) ∧ ((S5 W r2 y).setCell ⟨r1, 0, none⟩ V).heap[r2]? = some (ndO y) ∧ ((S5 W r2 y).setCell ⟨r1, 0, none⟩ V).ownsRow base 40 5 V n l ∧ Below r1 W ((S5 W r2 y).setCell ⟨r1, 0, none⟩ V)) :=
  ⟨⟨s5_other y (heap_setCell_same W r1 0 _ _ V h1) (by omega), s5_same y (blk_ne h2 (by omega)), s5_own y (ownsRow_setCell_below ho (a := ⟨r1, 0, none⟩) (by show r1 < base; omega) _) hb, ((Below.refl r1 W).setCell (p := ⟨r1, 0, none⟩) (Nat.le_refl _) V).trans (s5_below y (by omega))⟩,
   ⟨heap_setCell_same _ r1 0 _ _ V (s5_other y h1 (by omega)), blk_ne (s5_same y h2) (by omega), ownsRow_setCell_below (s5_own y ho hb) (a := ⟨r1, 0, none⟩) (by show r1 < base; omega) _, (s5_below (B := r1) y (by omega)).setCell (p := ⟨r1, 0, none⟩) (Nat.le_refl _) V⟩⟩

end Go.Proofs.YtnhepegkjejfcaaDoor

/-
  What a list is read as, and the contracts of impl.ListOf and spec.ListOf.
-/
namespace Go.Proofs.YtnhepegkjejfcaaDoor
open Go.RowKit

theorem Tryd.infoI2 : (Tryd.prog.info? 3).map (fun i => (i.zero, i.size, i.bytes)) = some (some (.int .i64 0), 1, 8) := by kernel_rfl

/-- The values from the node j on, behind acc; none when it does not end with a KNil. -/
def chain (xs : List Nd) : Nat → Nat → List Int → Option (List Int)
  | 0, _, _ => none
  | f + 1, j, acc => match xs[j]? with
    | none => none
    | some x => if x.k = 5 then chain xs f x.b.toNat (acc ++ [x.a]) else if x.k = 1 then some acc else none
def chainR (xs : List Nd) (v : Nat) : List Int × Bool := match chain xs (v + 1) v [] with
  | some l => (l, true)
  | none => ([], false)
/-- What ListOf answers. -/
def listR (xs : List Nd) (v : Int) : List Int × Bool := if poolB xs && hasI xs v then chainR xs v.toNat else ([], false)
theorem chain_pair (xs : List Nd) (f j : Nat) (acc : List Int) (x : Nd) (hx : xs[j]? = some x) (h5 : x.k = 5) (hf : j < f) : chain xs f j acc = chain xs (f - 1) x.b.toNat (acc ++ [x.a]) := by
  cases f with
  | zero => omega
  | succ f => simp [chain, hx, h5]
theorem chain_nil (xs : List Nd) (f j : Nat) (acc : List Int) (x : Nd) (hx : xs[j]? = some x) (h1 : x.k = 1) (hf : j < f) : chain xs f j acc = some acc := by
  cases f with
  | zero => omega
  | succ f => simp [chain, hx, h1]
theorem chain_none (xs : List Nd) (f j : Nat) (acc : List Int) (x : Nd) (hx : xs[j]? = some x) (h5 : ¬ x.k = 5) (h1 : ¬ x.k = 1) (hf : j < f) : chain xs f j acc = none := by
  cases f with
  | zero => omega
  | succ f => simp [chain, hx, h5, h1]

set_option maxHeartbeats 400000 in
theorem shas_all (v : Value) (xs : List Nd) (a : Int) (w : World) (R : NRow w v xs) :
    Calls Tryd.prog 32 #[.agg #[v], .int .i64 a] w fun e w' => e = .returned (.bool (hasI xs a)) ∧ Below w.heap.size w w' := by
  obtain ⟨ao, cap, rfl, _, hm, _⟩ := R
  go_enter Tryd.func32, Tryd.ntmps32
  go_wp2_with fail
  refine (lin_any _ _ _ _).mono ?_
  rintro e w1 ⟨rfl, rfl⟩
  go_wp2
  go_ret
  refine ⟨retB ?_, (Below.refl _ _).alloc (Nat.le_refl _) _⟩
  rw [Bool.eq_iff_iff]
  simp [hasI]
  omega

end Go.Proofs.YtnhepegkjejfcaaDoor

/-
  Contracts of the draws' l7DrawRoots and DrawReach.
-/
namespace Go.Proofs.YtnhepegkjejfcaaDoor
open Go.RowKit

theorem Tryd.infoI7 : (Tryd.prog.info? 3).map (fun i => (i.zero, i.size, i.bytes)) = some (some (.int .i64 0), 1, 8) := by kernel_rfl
theorem grown_more {w w1 w2 : World} {P : Nat} {r : Option Nat} (g : w.grownBy w1 (some P)) (h : w1.grownBy w2 r) (hr : ∀ k, r = some k → w.heap.size ≤ k) : w.grownBy w2 (some P) :=
  ⟨h.os.trans g.os, h.tape.trans g.tape, h.output.trans g.output, Nat.le_trans g.size h.size, fun i hi hne => (h.block i (Nat.lt_of_lt_of_le hi g.size) (fun e => by have := hr i e.symm; omega)).trans (g.block i hi hne)⟩
theorem own_split {w : World} {B B' : Nat} {e e' : TypeId} {k k' : Nat} {v v' : Value} {n n' : Nat} {xs xs' : List Value} (h : w.ownsRow B e k v n xs) (h' : w.ownsRow B' e' k' v' n' xs') (hne : e ≠ e') : v.ownBlock = none ∨ v.ownBlock ≠ v'.ownBlock := by
  rcases h.2 with ⟨rfl, _⟩ | ⟨g, cap, cur, rfl, hB, hg, _⟩
  · exact Or.inl rfl
  · exact Or.inr fun e => own_ne h' hg hne e.symm

set_option maxRecDepth 100000 in
set_option maxHeartbeats 3200000 in
theorem sdroots_any (w0 : World) (v : Value) (zs : List Int) (w : World) (P : Nat) (ao : Option Addr) (n cap : Nat) (c : Cur w0 v zs w P) (hn : n ≤ 100000) :
    Calls Tryd.prog 18 #[.pointer (some ⟨P, 0, none⟩), .agg #[.slice ao n cap]] w fun e w' => ∃ (vl : Value) (ls : List Int), e = .returned vl ∧ ls.length ≤ 4 ∧ w'.ownsRow w.heap.size 3 1 vl ls.length (iv ls) ∧ Cur w0 v zs w' P ∧ w.grownBy w' (some P) := by
  obtain ⟨i0, hi, hz0, hz1, hz2⟩ := info_parts Tryd.infoI7
  have hP := c.lt
  have hbx : ((w.alloc (.cells #[.slice ao n cap] 26)).alloc (.cells #[] 3)).heap[w.heap.size]? = some (.cells #[.slice ao n cap] 26 (0, 0)) := (heap_alloc_old _ _ (by simp)).trans (heap_alloc_new _ _)
  have hi4 := own_none0 (w.alloc (.cells #[.slice ao n cap] 26)) 3 1 (w.heap.size + 1) (by simp)
  have hsw : (w.alloc (.cells #[.slice ao n cap] 26)).heap.size = w.heap.size + 1 := by simp
  rw [hsw] at hi4
  have c4 := c.kept (((Below.refl (P + 1) w).alloc (by omega) (.cells #[.slice ao n cap] 26)).alloc (by simp; omega) (.cells #[] 3))
  have g4 : w.grownBy ((w.alloc (.cells #[.slice ao n cap] 26)).alloc (.cells #[] 3)) (some P) := grown_more (World.grownBy_alloc w _ _) (World.grownBy_alloc _ _ none) (fun k hk => by cases hk)
  clear hsw
  go_enter Tryd.func18, Tryd.ntmps18
  go_wp2_with fail
  generalize hw4 : (w.alloc (Obj.cells #[Value.slice ao n cap] 26)).alloc (Obj.cells #[] 3) = w4 at hbx hi4 c4 g4 ⊢
  clear hw4
  go_loopw [5, 6] (fun s i wr => ∃ (ls : List Int), ls.length ≤ 4 ∧ i = .int .i64 ls.length ∧ wr.heap[w.heap.size]? = some (.cells #[.slice ao n cap] 26 (0, 0)) ∧ wr.ownsRow (w.heap.size + 1) 3 1 s ls.length (iv ls) ∧ Cur w0 v zs wr P ∧ w.grownBy wr (some P)) (fun _ i _ => 4 - (intOf i).toNat)
  case atStart => exact ⟨[], by simp, rfl, hbx, hi4, c4, g4⟩
  case round =>
    clear hbx hi4 c4 g4
    obtain ⟨ls, hls, rfl, hbr, hir, cr, gr⟩ := hrel
    have hlr4 := (Array.getElem?_eq_some_iff.1 hbr).1
    go_wp2_with fail
    refine (below_any w0 v zs wr P 4 cr (by omega)).mono ?_
    rintro e w5 ⟨m, rfl, hn0, hn1, c5, g5⟩
    have hm := hn1 (by omega)
    have hb5 := (g5.block w.heap.size hlr4 (by simp; omega)).trans hbr
    have hi5 := hir.kept g5 (own_not hir (by omega))
    have hl5 := (Array.getElem?_eq_some_iff.1 hb5).1
    have hc5 : w5.cell? ⟨w.heap.size, 0, none⟩ = some (.slice ao n cap) := cell_of_row w5 _ 0 _ _ _ hb5
    have gw5 := grown_trans gr g5
    clear hbr hir cr g5 hn1 hlr4 gr
    by_cases hlt : (ls.length : Int) < m
    · go_wp2_with fail
      refine (ddrawat_any w0 v zs w5 P ao n cap c5 (by omega)).mono ?_
      rintro e w6 ⟨x, rfl, hx0, hx1, c6, g6⟩
      have hb6 := (g6.block w.heap.size hl5 (by simp; omega)).trans hb5
      have hi6 := hi5.kept g6 (own_not hi5 (by omega))
      have hl6 := (Array.getElem?_eq_some_iff.1 hb6).1
      have gw6 := grown_trans gw5 g6
      obtain ⟨asl, qs, rfl⟩ := own_form hi6
      clear hb5 hi5 c5 g6 hl5 hc5 gw5
      go_wp2_with (at_builtin; refine wpList_append_own _ rfl _ _ 27 rfl (w.heap.size + 1) 3 i0 (.int .i64 0) 1 8 Tryd.underlying27 hi hz0 hz1 hz2 rfl (by decide) _ _ _ rfl (hi6.alloc _) ⟨w6.heap.size, 0, none⟩ 1 1 [.int .i64 x] rfl rfl (cell_one_new _ _ _) (fun u hu => by simp at hu; subst hu; rfl) (by unfold maxLen; omega) (by omega) (by simp; omega) ?_)
      intro v7 w7 hi7 hg7 _
      have hi8 : w7.ownsRow (w.heap.size + 1) 3 1 v7 (ls ++ [x]).length (iv (ls ++ [x])) := by rw [iv_append, List.length_append]; exact hi7
      have hb7 : w7.heap[w.heap.size]? = some (.cells #[.slice ao n cap] 26 (0, 0)) := (hg7.block w.heap.size (by simp; omega) (fun e => own_ne hi6 hb6 (by decide) e.symm)).trans ((heap_alloc_old _ _ hl6).trans hb6)
      have c7 := c6.kept (((Below.refl (P + 1) w6).alloc (by omega) _).grown hg7 (by simp; omega) (fun k hk => by have := (hi6.lt k hk).1; omega))
      have gw7 := grown_more (grown_more gw6 (World.grownBy_alloc w6 (Obj.cells #[.int .i64 x] 3) none) (fun k hk => by cases hk)) hg7 (fun k hk => by have := (hi6.lt k hk).1; omega)
      clear hi7 hg7 hb6 c6 hi6 gw6
      go_wp2_with fail
      go_roundw
      case rel => exact ⟨ls ++ [x], by simp; omega, by simp, hb7, hi8, c7, gw7⟩
      case measure => simp [intOf]; omega
    · obtain ⟨asl, qs, rfl⟩ := own_form hi5
      go_wp2_with fail
      go_ret
      exact ⟨_, ls, rfl, hls, own_mono hi5 (by omega), c5, gw5⟩

end Go.Proofs.YtnhepegkjejfcaaDoor
