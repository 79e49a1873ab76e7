/-
  Texts that stood by themselves, laid into one.
-/
import Derived.Test.YtmbomhcnmjhbnaaGreatDoorIntsM
import Derived.Test.YtmbomhcnmjhbnaaGreatDoorDraw2M
import Derived.OneCell
import Derived.Test.YtmbomhcnmjhbnaaGreatDoorTo2M
import Derived.Test.YtmbomhcnmjhbnaaGreatDoorSMakeM
import Derived.Deep.CutBlock
import Derived.Deep.CutRange
import Derived.Test.YtmbomhcnmjhbnaaGreatDoorCpM
/-
  Contract of impl.firstsAlike: for each node the first one that is alike.
-/
namespace Go.Proofs.YtmbomhcnmjhbnaaGreatDoor
open Go.RowKit Go.Maps

theorem Tryz.infoI4 : (Tryz.prog.info? 3).map (fun i => (i.zero, i.size, i.bytes)) = some (some (.int .i64 0), 1, 8) := by kernel_rfl
def padI (l : List Int) (n : Nat) : List Int := l ++ List.replicate (n - l.length) 0
theorem padI_length (l : List Int) (n : Nat) (h : l.length ≤ n) : (padI l n).length = n := by simp [padI]; omega
theorem padI_nil (n : Nat) : iv (padI [] n) = (madeCells #[Value.int .i64 0] n).toList := by rw [toList_madeCells_one]; simp [padI, iv]
theorem padI_get (l : List Int) (n i : Nat) (h : i < l.length) : (padI l n).getD i 0 = l.getD i 0 := by
  unfold padI
  simp only [List.getD_eq_getElem?_getD]
  rw [List.getElem?_append_left h]
theorem padI_set (l : List Int) (n k : Nat) (z : Int) (hk : l.length = k) (h : k < n) : (padI l n).set k z = padI (l ++ [z]) n := by
  subst hk
  unfold padI
  rw [show n - l.length = n - (l ++ [z]).length + 1 by simp; omega, List.replicate_succ, List.set_append_right _ _ (Nat.le_refl _), Nat.sub_self, List.set_cons_zero, List.append_assoc]
  rfl
theorem padI_full (l : List Int) : padI l l.length = l := by simp [padI]
theorem zeroI (w : World) : (zeroValue 3).run Tryz.prog w = .ok (.int .i64 0) w := by kernel_rfl

theorem fb_get {l : List Int} {k : Nat} (h : ∀ f ∈ l, 0 ≤ f ∧ f ≤ k) (i : Nat) (hi : i < l.length) : 0 ≤ l.getD i 0 ∧ l.getD i 0 ≤ k := by
  rw [List.getD_eq_getElem?_getD, List.getElem?_eq_getElem hi]
  exact h _ (List.getElem_mem _)
theorem nodeB_N {x : Nd} {n : Int} (h : nodeB x n = true) : -1000000000 ≤ x.n ∧ x.n ≤ 1000000000 := by
  simp only [nodeB, Bool.and_eq_true, decide_eq_true_eq] at h
  have h1 := h.1.1.2
  have h2 := h.1.2
  unfold lo at h1
  unfold Go.Proofs.YtmbomhcnmjhbnaaGreatDoor.hi at h2
  constructor
  · split at h1 <;> omega
  · split at h2
    · omega
    · split at h2
      · omega
      · split at h2 <;> omega
theorem nodeB_A0 {x : Nd} {n : Int} (h : nodeB x n = true) (ha : hasA x.k = false) : x.a = 0 := by
  simp only [nodeB, Bool.and_eq_true, decide_eq_true_eq] at h
  have := h.2.1.2
  rw [ha] at this
  simpa [partB] using this
theorem nodeB_B0 {x : Nd} {n : Int} (h : nodeB x n = true) (ha : hasB x.k = false) : x.b = 0 := by
  simp only [nodeB, Bool.and_eq_true, decide_eq_true_eq] at h
  have := h.2.2
  rw [ha] at this
  simpa [partB] using this

end Go.Proofs.YtmbomhcnmjhbnaaGreatDoor

/-
  Contract of spec's l2Classes: for each node the first one that is alike.
-/
namespace Go.Proofs.YtmbomhcnmjhbnaaGreatDoor
open Go.RowKit Go.Maps

theorem idx_at (ks : List Nd) (y : Nd) (j : Nat) (h0 : ∀ t, t < j → ks[t]? ≠ some y) (hj : ks[j]? = some y) : idx ks y = j := by
  induction ks generalizing j with
  | nil => simp at hj
  | cons k ks ih =>
    cases j with
    | zero => simp at hj; simp [idx, hj]
    | succ j =>
      have hk : ¬ k = y := by have := h0 0 (by omega); simpa using this
      simp only [idx, if_neg hk]
      rw [ih j (fun t ht => by have := h0 (t + 1) (by omega); simpa using this) (by simpa using hj)]
theorem idx_end (ks : List Nd) (y : Nd) (h0 : ∀ t, t < ks.length → ks[t]? ≠ some y) : idx ks y = ks.length := by
  apply idx_none
  intro hm
  obtain ⟨t, ht, e⟩ := List.mem_iff_getElem.1 hm
  exact h0 t ht (by rw [List.getElem?_eq_getElem ht, e])
theorem own_apart {w : World} {B B' : Nat} {e e' : TypeId} {k k' : Nat} {v v' : Value} {n n' : Nat} {xs xs' : List Value} (h : w.ownsRow B e k v n xs) (h' : w.ownsRow B' e' k' v' n' xs') (hne : e ≠ e') : v.ownBlock = none ∨ v.ownBlock ≠ v'.ownBlock := by
  rcases h.2 with ⟨rfl, _⟩ | ⟨g, cap, cur, rfl, hB, hg, _⟩
  · exact Or.inl rfl
  · exact Or.inr fun e => own_ne h' hg hne e.symm
theorem node_eql (y : Nd) (w : World) : (binOp .eql 64 (.agg #[.int .i64 y.k, .int .i64 y.n, .string y.s, .int .i64 y.a, .int .i64 y.b]) (.agg #[.int .i64 y.k, .int .i64 y.n, .string y.s, .int .i64 y.a, .int .i64 y.b])).run Tryz.prog w = .ok (.bool true) w := by
  simp [go_sem]
theorem node_neql (z y : Nd) (h : z ≠ y) (w : World) : (binOp .eql 64 (.agg #[.int .i64 z.k, .int .i64 z.n, .string z.s, .int .i64 z.a, .int .i64 z.b]) (.agg #[.int .i64 y.k, .int .i64 y.n, .string y.s, .int .i64 y.a, .int .i64 y.b])).run Tryz.prog w = .ok (.bool false) w := by
  obtain ⟨k, n, s, a, b⟩ := z
  obtain ⟨k', n', s', a', b'⟩ := y
  have hs : s.toList = s'.toList → s = s' := by
    rw [ByteArray.toList_eq, ByteArray.toList_eq]
    intro e
    obtain ⟨⟨x⟩⟩ := s
    obtain ⟨⟨x'⟩⟩ := s'
    simp only at e
    rw [e]
  simp [go_sem]
  intro h1 h2 h3 h4 h5
  exact h (by rw [h1, h2, hs h3, h4, h5])

theorem own_empty (W : World) (t : TypeId) (k B : Nat) (h : B ≤ W.heap.size) : (W.alloc (Obj.cells #[] t)).ownsRow B t k (.slice (some ⟨W.heap.size, 0, none⟩) 0 0) 0 [] :=
  own_mono (World.ownsRow_made W #[] 0 (Nat.le_refl _) (by simp) (by simp)) h

/-- A node's block. -/
def nblk (y : Nd) : Obj := .cells #[.int .i64 y.k, .int .i64 y.n, .string y.s, .int .i64 y.a, .int .i64 y.b] 64 (0, 0)

end Go.Proofs.YtmbomhcnmjhbnaaGreatDoor

/-
  The memory of spec's compiler: what it holds, and what stays. Nothing of the program beyond its types; no condition.
-/
namespace Go.Proofs.YtmbomhcnmjhbnaaGreatDoor
open Go.RowKit

/-- All stays but the block M and rows of instructions and of definitions. -/
structure CF (M : Nat) (w w' : World) : Prop where
  below : Below M w w'
  keep : ∀ (k : Nat) (c : Array Value) (t : TypeId) (fr : Nat × Nat), w.heap[k]? = some (.cells c t fr) → k ≠ M → t ≠ 54 → t ≠ 58 → w'.heap[k]? = some (.cells c t fr)
  first : w'.cell? ⟨M, 0, none⟩ = w.cell? ⟨M, 0, none⟩
theorem CF.refl (M : Nat) (w : World) : CF M w w := ⟨Below.refl _ _, fun _ _ _ _ h _ _ _ => h, rfl⟩
theorem CF.trans {M : Nat} {w w1 w2 : World} (h : CF M w w1) (k : CF M w1 w2) : CF M w w2 :=
  ⟨h.below.trans k.below, fun j c t fr e h1 h2 h3 => k.keep j c t fr (h.keep j c t fr e h1 h2 h3) h1 h2 h3, k.first.trans h.first⟩
theorem CF.of_below {M : Nat} {w w' : World} (h : Below w.heap.size w w') (hM : M < w.heap.size) : CF M w w' :=
  ⟨h.mono (Nat.le_of_lt hM), fun j _ _ _ e _ _ _ => (h.block j (Array.getElem?_eq_some_iff.1 e).1).trans e, h.cell (p := ⟨M, 0, none⟩) hM⟩
theorem CF.of_set {M : Nat} (w : World) (o : Nat) (v : Value) (ho : o ≠ 0) : CF M w (w.setCell ⟨M, o, none⟩ v) :=
  ⟨(Below.refl _ w).setCell (p := ⟨M, o, none⟩) (by simp) v, fun j _ _ _ e h1 _ _ => (heap_setCell_other w ⟨M, o, none⟩ j v h1).trans e, World.cell?_setCell_other w ⟨M, o, none⟩ ⟨M, 0, none⟩ v (fun e => ho (by simpa using e.symm))⟩
theorem CF.of_grown {M n k : Nat} {e : TypeId} {w w' : World} {v : Value} {l : List Value} (ho : w.ownsRow (M + 1) e k v n l) (he : e = 54 ∨ e = 58) (hM : M < w.heap.size) (hg : w.grownBy w' v.ownBlock) : CF M w w' := by
  refine ⟨(Below.refl _ w).grown hg (Nat.le_of_lt hM) (fun q hq => by have := (ho.lt q hq).1; omega), fun j c t fr h h1 h2 h3 => (hg.block j (Array.getElem?_eq_some_iff.1 h).1 ?_).trans h, World.cell?_of_block (hg.block M hM (fun q => by have := (ho.lt M q.symm).1; omega))⟩
  have := own_ne ho h (by rcases he with rfl | rfl; exact h2; exact h3)
  exact fun q => this q.symm
theorem CF.own {M B n k : Nat} {e t : TypeId} {w w' : World} {v : Value} {l : List Value} {c : Array Value} {fr : Nat × Nat} (h : CF M w w') (ho : w.ownsRow B e k v n l) (hM : w.heap[M]? = some (.cells c t fr)) (h0 : t ≠ e) (h1 : e ≠ 54) (h2 : e ≠ 58) : w'.ownsRow B e k v n l := by
  have hne := own_ne ho hM h0
  refine ⟨ho.1, ?_⟩
  rcases ho.2 with ⟨rfl, hn⟩ | ⟨g, cap, cur, rfl, hB, hg, hr⟩
  · exact .inl ⟨rfl, hn⟩
  · exact .inr ⟨g, cap, cur, rfl, hB, h.keep g _ _ _ hg (fun q => hne (by rw [q]; rfl)) h1 h2, hr⟩
/-- A slice of texts. -/
def SRow (w : World) (v : Value) (ss : List ByteArray) : Prop := w.ownsRow 0 9 1 v ss.length (ss.map Value.string)
/-- The frames: a slice of slices of texts. -/
def ERow (w : World) (v : Value) (env : Env) : Prop := ∃ vs : List Value, w.ownsRow 0 35 1 v env.length vs ∧ (∀ i u, vs[i]? = some u → u.oneCell' = true ∧ SRow w u (env.getD i []))
theorem CF.srow {M : Nat} {w w' : World} {v : Value} {ss : List ByteArray} {c : Array Value} {fr : Nat × Nat} (h : CF M w w') (hM : w.heap[M]? = some (.cells c 114 fr)) (r : SRow w v ss) : SRow w' v ss := h.own r hM (by decide) (by decide) (by decide)
theorem CF.erow {M : Nat} {w w' : World} {v : Value} {env : Env} {c : Array Value} {fr : Nat × Nat} (h : CF M w w') (hM : w.heap[M]? = some (.cells c 114 fr)) (r : ERow w v env) : ERow w' v env := by
  obtain ⟨vs, ho, hs⟩ := r
  exact ⟨vs, h.own ho hM (by decide) (by decide) (by decide), fun i u e => ⟨(hs i u e).1, h.srow hM (hs i u e).2⟩⟩
/-- What the compiler has: where nothing went wrong, just what is said. -/
structure MK (xs : List Nd) (M d : Nat) (w : World) (s : CS) (pv lv dv : Value) (L : List In) (D : List Df) : Prop where
  blk : w.heap[M]? = some (.cells #[pv, lv, dv, .int .i64 s.how] 114 (0, 0))
  pool : w.ownsRow 0 64 5 pv xs.length (ncs xs)
  list : w.ownsRow (M + 1) 54 4 lv L.length (incs L)
  defs : w.ownsRow (M + 1) 58 3 dv D.length (dfcs D)
  same : s.how = 0 → L = s.list ∧ D = s.defs
  len : L.length ≤ 400
  many : D.length ≤ d
def Mk (xs : List Nd) (M d : Nat) (w : World) (s : CS) : Prop := ∃ pv lv dv L D, MK xs M d w s pv lv dv L D
theorem MK.lt {xs : List Nd} {M d : Nat} {w : World} {s : CS} {pv lv dv : Value} {L : List In} {D : List Df} (h : MK xs M d w s pv lv dv L D) : M < w.heap.size := (Array.getElem?_eq_some_iff.1 h.blk).1
theorem MK.on {xs : List Nd} {M d : Nat} {w w' : World} {s : CS} {pv lv dv : Value} {L : List In} {D : List Df} (h : MK xs M d w s pv lv dv L D) (hb : Below w.heap.size w w') : MK xs M d w' s pv lv dv L D :=
  ⟨(hb.block M h.lt).trans h.blk, own_below h.pool hb, own_below h.list hb, own_below h.defs hb, h.same, h.len, h.many⟩
theorem Mk.on {xs : List Nd} {M d : Nat} {w w' : World} {s : CS} (h : Mk xs M d w s) (hb : Below w.heap.size w w') : Mk xs M d w' s := by
  obtain ⟨pv, lv, dv, L, D, h⟩ := h
  exact ⟨pv, lv, dv, L, D, h.on hb⟩
theorem Mk.lt {xs : List Nd} {M d : Nat} {w : World} {s : CS} (h : Mk xs M d w s) : M < w.heap.size := by
  obtain ⟨_, _, _, _, _, h⟩ := h
  exact h.lt
/-- It went wrong. -/
theorem MK.wrong {xs : List Nd} {M d : Nat} {w : World} {s : CS} {pv lv dv : Value} {L : List In} {D : List Df} (h : MK xs M d w s pv lv dv L D) (k : Int) (hk : k ≠ 0) (s' : CS) (hs : s'.how = k) : Mk xs M d (w.setCell ⟨M, 3, none⟩ (.int .i64 k)) s' ∧ CF M w (w.setCell ⟨M, 3, none⟩ (.int .i64 k)) := by
  have hF : CF M w (w.setCell ⟨M, 3, none⟩ (.int .i64 k)) := CF.of_set w 3 _ (by decide)
  have ne : ∀ {e : TypeId} {m n : Nat} {v : Value} {l : List Value} {B : Nat}, w.ownsRow B e m v n l → 114 ≠ e → (w.setCell ⟨M, 3, none⟩ (.int .i64 k)).ownsRow B e m v n l := fun ho he => ownsRow_setCell_other ho (a := ⟨M, 3, none⟩) (own_ne ho h.blk he) _
  refine ⟨⟨pv, lv, dv, L, D, ?_, ne h.pool (by decide), ne h.list (by decide), ne h.defs (by decide), fun e => ?_, h.len, h.many⟩, hF⟩
  · rw [hs]
    exact heap_setCell_same w M 3 _ _ (.int .i64 k) h.blk
  · rw [hs] at e; exact absurd e hk
theorem MK.cells {xs : List Nd} {M d : Nat} {w : World} {s : CS} {pv lv dv : Value} {L : List In} {D : List Df} (h : MK xs M d w s pv lv dv L D) : w.cell? ⟨M, 0, none⟩ = some pv ∧ w.cell? ⟨M, 1, none⟩ = some lv ∧ w.cell? ⟨M, 2, none⟩ = some dv ∧ w.cell? ⟨M, 3, none⟩ = some (.int .i64 s.how) ∧ w.frozen? ⟨M, 1, none⟩ = false ∧ w.frozen? ⟨M, 2, none⟩ = false ∧ w.frozen? ⟨M, 3, none⟩ = false :=
  ⟨cell_of_row w M 0 _ _ _ h.blk, cell_of_row w M 1 _ _ _ h.blk, cell_of_row w M 2 _ _ _ h.blk, cell_of_row w M 3 _ _ _ h.blk, frozen_of_row w M 1 _ _ h.blk, frozen_of_row w M 2 _ _ h.blk, frozen_of_row w M 3 _ _ h.blk⟩
theorem MK.turnL {xs : List Nd} {M d : Nat} {w w1 : World} {s : CS} {pv lv dv : Value} {L L' : List In} {D : List Df} (h : MK xs M d w s pv lv dv L D) (hg : w.grownBy w1 lv.ownBlock) (ho : w1.ownsRow (M + 1) 54 4 lv L'.length (incs L')) (hl : L'.length ≤ 400)
    (s' : CS) (hh : s'.how = s.how) (hs : s'.how = 0 → L' = s'.list ∧ D = s'.defs) : MK xs M d w1 s' pv lv dv L' D ∧ CF M w w1 := by
  have hM := h.lt
  refine ⟨⟨?_, h.pool.kept hg (own_apart h.pool h.list (by decide)), ho, h.defs.kept hg (own_apart h.defs h.list (by decide)), hs, hl, h.many⟩, CF.of_grown h.list (.inl rfl) (by omega) hg⟩
  rw [hh]
  exact (hg.block M hM (fun e => own_ne h.list h.blk (by decide) e.symm)).trans h.blk
theorem MK.putL {xs : List Nd} {M d : Nat} {w w1 : World} {s : CS} {pv lv lv' dv : Value} {L L' : List In} {D : List Df} (h : MK xs M d w s pv lv dv L D) (hg : w.grownBy w1 lv.ownBlock) (ho : w1.ownsRow (M + 1) 54 4 lv' L'.length (incs L')) (hl : L'.length ≤ 400)
    (s' : CS) (hh : s'.how = s.how) (hs : s'.how = 0 → L' = s'.list ∧ D = s'.defs) : Mk xs M d (w1.setCell ⟨M, 1, none⟩ lv') s' ∧ CF M w (w1.setCell ⟨M, 1, none⟩ lv') := by
  have hM := h.lt
  have hb : w1.heap[M]? = some (.cells #[pv, lv, dv, .int .i64 s.how] 114 (0, 0)) := (hg.block M hM (fun e => own_ne h.list h.blk (by decide) e.symm)).trans h.blk
  have ne : ∀ {e : TypeId} {m n : Nat} {v : Value} {l : List Value} {B : Nat}, w1.ownsRow B e m v n l → 114 ≠ e → (w1.setCell ⟨M, 1, none⟩ lv').ownsRow B e m v n l := fun ho he => ownsRow_setCell_other ho (a := ⟨M, 1, none⟩) (own_ne ho hb he) _
  refine ⟨⟨pv, lv', dv, L', D, ?_, ne (h.pool.kept hg (own_apart h.pool h.list (by decide))) (by decide), ne ho (by decide), ne (h.defs.kept hg (own_apart h.defs h.list (by decide))) (by decide), hs, hl, h.many⟩, (CF.of_grown h.list (.inl rfl) (by omega) hg).trans (CF.of_set w1 1 _ (by decide))⟩
  rw [hh]
  exact heap_setCell_same w1 M 1 _ _ lv' hb
theorem MK.putD {xs : List Nd} {M d : Nat} {w w1 : World} {s : CS} {pv lv dv dv' : Value} {L : List In} {D D' : List Df} (h : MK xs M d w s pv lv dv L D) (hg : w.grownBy w1 dv.ownBlock) (ho : w1.ownsRow (M + 1) 58 3 dv' D'.length (dfcs D')) {d' : Nat} (hl : D'.length ≤ d')
    (s' : CS) (hh : s'.how = s.how) (hs : s'.how = 0 → L = s'.list ∧ D' = s'.defs) : Mk xs M d' (w1.setCell ⟨M, 2, none⟩ dv') s' ∧ CF M w (w1.setCell ⟨M, 2, none⟩ dv') := by
  have hM := h.lt
  have hb : w1.heap[M]? = some (.cells #[pv, lv, dv, .int .i64 s.how] 114 (0, 0)) := (hg.block M hM (fun e => own_ne h.defs h.blk (by decide) e.symm)).trans h.blk
  have ne : ∀ {e : TypeId} {m n : Nat} {v : Value} {l : List Value} {B : Nat}, w1.ownsRow B e m v n l → 114 ≠ e → (w1.setCell ⟨M, 2, none⟩ dv').ownsRow B e m v n l := fun ho he => ownsRow_setCell_other ho (a := ⟨M, 2, none⟩) (own_ne ho hb he) _
  refine ⟨⟨pv, lv, dv', L, D', ?_, ne (h.pool.kept hg (own_apart h.pool h.defs (by decide))) (by decide), ne (h.list.kept hg (own_apart h.list h.defs (by decide))) (by decide), ne ho (by decide), hs, h.len, hl⟩, (CF.of_grown h.defs (.inr rfl) (by omega) hg).trans (CF.of_set w1 2 _ (by decide))⟩
  rw [hh]
  exact heap_setCell_same w1 M 2 _ _ dv' hb
end Go.Proofs.YtmbomhcnmjhbnaaGreatDoor
