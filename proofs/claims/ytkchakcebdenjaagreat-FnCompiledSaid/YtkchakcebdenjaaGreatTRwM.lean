/-
  Texts that stood by themselves, laid into one.
-/
import Derived.Test.YtkchakcebdenjaaGreatStore2M
import Derived.Test.YtkchakcebdenjaaGreatIntsM
import Derived.Test.YtkchakcebdenjaaGreatSClsM
import Derived.Deep.RegionLaw
import Derived.Deep.AppendLies
import Derived.Deep.RegionHeld
import Derived.Deep.QuietTactic
import Derived.BigQuiet
import Derived.Test.YtkchakcebdenjaaGreatDefOfM
/-
  The memory of spec's compiler: what it holds, and what stays. Nothing of the program beyond its types; no condition.
-/
namespace Go.Proofs.YtkchakcebdenjaaGreat
open Go.RowKit
structure CF (M : Nat) (w w' : World) : Prop where
  below : Below M w w'
  keep : ∀ (k : Nat) (c : Array Value) (t : TypeId) (fr : Nat × Nat), w.heap[k]? = some (.cells c t fr) → k ≠ M → t ≠ 53 → t ≠ 51 → w'.heap[k]? = some (.cells c t fr)
  first : w'.cell? ⟨M, 0, none⟩ = w.cell? ⟨M, 0, none⟩
theorem CF.refl (M : Nat) (w : World) : CF M w w := ⟨Below.refl _ _, fun _ _ _ _ h _ _ _ => h, rfl⟩
theorem CF.trans {M : Nat} {w w1 w2 : World} (h : CF M w w1) (k : CF M w1 w2) : CF M w w2 :=
  ⟨h.below.trans k.below, fun j c t fr e h1 h2 h3 => k.keep j c t fr (h.keep j c t fr e h1 h2 h3) h1 h2 h3, k.first.trans h.first⟩
theorem CF.of_below {M : Nat} {w w' : World} (h : Below w.heap.size w w') (hM : M < w.heap.size) : CF M w w' :=
  ⟨h.mono (Nat.le_of_lt hM), fun j _ _ _ e _ _ _ => (h.block j (Array.getElem?_eq_some_iff.1 e).1).trans e, h.cell (p := ⟨M, 0, none⟩) hM⟩
theorem CF.of_set {M : Nat} (w : World) (o : Nat) (v : Value) (ho : o ≠ 0) : CF M w (w.setCell ⟨M, o, none⟩ v) :=
  ⟨(Below.refl _ w).setCell (p := ⟨M, o, none⟩) (by simp) v, fun j _ _ _ e h1 _ _ => (heap_setCell_other w ⟨M, o, none⟩ j v h1).trans e, World.cell?_setCell_other w ⟨M, o, none⟩ ⟨M, 0, none⟩ v (fun e => ho (by simpa using e.symm))⟩
theorem CF.of_grown {M n k : Nat} {e : TypeId} {w w' : World} {v : Value} {l : List Value} (ho : w.ownsRow (M + 1) e k v n l) (he : e = 53 ∨ e = 51) (hM : M < w.heap.size) (hg : w.grownBy w' v.ownBlock) : CF M w w' := by
  refine ⟨(Below.refl _ w).grown hg (Nat.le_of_lt hM) (fun q hq => by have := (ho.lt q hq).1; omega), fun j c t fr h h1 h2 h3 => (hg.block j (Array.getElem?_eq_some_iff.1 h).1 ?_).trans h, World.cell?_of_block (hg.block M hM (fun q => by have := (ho.lt M q.symm).1; omega))⟩
  have := own_ne ho h (by rcases he with rfl | rfl; exact h2; exact h3)
  exact fun q => this q.symm
theorem CF.own {M B n k : Nat} {e t : TypeId} {w w' : World} {v : Value} {l : List Value} {c : Array Value} {fr : Nat × Nat} (h : CF M w w') (ho : w.ownsRow B e k v n l) (hM : w.heap[M]? = some (.cells c t fr)) (h0 : t ≠ e) (h1 : e ≠ 53) (h2 : e ≠ 51) : w'.ownsRow B e k v n l := by
  have hne := own_ne ho hM h0
  refine ⟨ho.1, ?_⟩
  rcases ho.2 with ⟨rfl, hn⟩ | ⟨g, cap, cur, rfl, hB, hg, hr⟩
  · exact .inl ⟨rfl, hn⟩
  · exact .inr ⟨g, cap, cur, rfl, hB, h.keep g _ _ _ hg (fun q => hne (by rw [q]; rfl)) h1 h2, hr⟩
def SRow (w : World) (v : Value) (ss : List ByteArray) : Prop := w.ownsRow 0 9 1 v ss.length (ss.map Value.string)
def ERow (w : World) (v : Value) (env : Env) : Prop := ∃ vs : List Value, w.ownsRow 0 85 1 v env.length vs ∧ (∀ i u, vs[i]? = some u → u.oneCell' = true ∧ SRow w u (env.getD i []))
theorem CF.srow {M : Nat} {w w' : World} {v : Value} {ss : List ByteArray} {c : Array Value} {fr : Nat × Nat} (h : CF M w w') (hM : w.heap[M]? = some (.cells c 61 fr)) (r : SRow w v ss) : SRow w' v ss := h.own r hM (by decide) (by decide) (by decide)
theorem CF.erow {M : Nat} {w w' : World} {v : Value} {env : Env} {c : Array Value} {fr : Nat × Nat} (h : CF M w w') (hM : w.heap[M]? = some (.cells c 61 fr)) (r : ERow w v env) : ERow w' v env := by
  obtain ⟨vs, ho, hs⟩ := r
  exact ⟨vs, h.own ho hM (by decide) (by decide) (by decide), fun i u e => ⟨(hs i u e).1, h.srow hM (hs i u e).2⟩⟩
structure MK (xs : List Nd) (M d : Nat) (w : World) (s : CS) (pv lv dv : Value) (L : List In) (D : List Df) : Prop where
  blk : w.heap[M]? = some (.cells #[pv, lv, dv, .int .i64 s.how] 61 (0, 0))
  pool : w.ownsRow 0 92 5 pv xs.length (ncs xs)
  list : w.ownsRow (M + 1) 53 4 lv L.length (incs L)
  defs : w.ownsRow (M + 1) 51 3 dv D.length (dfcs D)
  same : s.how = 0 → L = s.list ∧ D = s.defs
  len : L.length ≤ 400
  many : D.length ≤ d
def Mk (xs : List Nd) (M d : Nat) (w : World) (s : CS) : Prop := ∃ pv lv dv L D, MK xs M d w s pv lv dv L D
theorem MK.lt {xs : List Nd} {M d : Nat} {w : World} {s : CS} {pv lv dv : Value} {L : List In} {D : List Df} (h : MK xs M d w s pv lv dv L D) : M < w.heap.size := (Array.getElem?_eq_some_iff.1 h.blk).1
theorem MK.on {xs : List Nd} {M d : Nat} {w w' : World} {s : CS} {pv lv dv : Value} {L : List In} {D : List Df} (h : MK xs M d w s pv lv dv L D) (hb : Below w.heap.size w w') : MK xs M d w' s pv lv dv L D :=
  ⟨(hb.block M h.lt).trans h.blk, own_below h.pool hb, own_below h.list hb, own_below h.defs hb, h.same, h.len, h.many⟩
theorem Mk.on {xs : List Nd} {M d : Nat} {w w' : World} {s : CS} (h : Mk xs M d w s) (hb : Below w.heap.size w w') : Mk xs M d w' s := by
  obtain ⟨pv, lv, dv, L, D, h⟩ := h
  exact ⟨pv, lv, dv, L, D, h.on hb⟩
theorem Mk.lt {xs : List Nd} {M d : Nat} {w : World} {s : CS} (h : Mk xs M d w s) : M < w.heap.size := by
  obtain ⟨_, _, _, _, _, h⟩ := h
  exact h.lt
theorem MK.wrong {xs : List Nd} {M d : Nat} {w : World} {s : CS} {pv lv dv : Value} {L : List In} {D : List Df} (h : MK xs M d w s pv lv dv L D) (k : Int) (hk : k ≠ 0) (s' : CS) (hs : s'.how = k) : Mk xs M d (w.setCell ⟨M, 3, none⟩ (.int .i64 k)) s' ∧ CF M w (w.setCell ⟨M, 3, none⟩ (.int .i64 k)) := by
  have hF : CF M w (w.setCell ⟨M, 3, none⟩ (.int .i64 k)) := CF.of_set w 3 _ (by decide)
  have ne : ∀ {e : TypeId} {m n : Nat} {v : Value} {l : List Value} {B : Nat}, w.ownsRow B e m v n l → 61 ≠ e → (w.setCell ⟨M, 3, none⟩ (.int .i64 k)).ownsRow B e m v n l := fun ho he => ownsRow_setCell_other ho (a := ⟨M, 3, none⟩) (own_ne ho h.blk he) _
  refine ⟨⟨pv, lv, dv, L, D, ?_, ne h.pool (by decide), ne h.list (by decide), ne h.defs (by decide), fun e => ?_, h.len, h.many⟩, hF⟩
  · rw [hs]
    exact heap_setCell_same w M 3 _ _ (.int .i64 k) h.blk
  · rw [hs] at e; exact absurd e hk
theorem MK.cells {xs : List Nd} {M d : Nat} {w : World} {s : CS} {pv lv dv : Value} {L : List In} {D : List Df} (h : MK xs M d w s pv lv dv L D) : w.cell? ⟨M, 0, none⟩ = some pv ∧ w.cell? ⟨M, 1, none⟩ = some lv ∧ w.cell? ⟨M, 2, none⟩ = some dv ∧ w.cell? ⟨M, 3, none⟩ = some (.int .i64 s.how) ∧ w.frozen? ⟨M, 1, none⟩ = false ∧ w.frozen? ⟨M, 2, none⟩ = false ∧ w.frozen? ⟨M, 3, none⟩ = false :=
  ⟨cell_of_row w M 0 _ _ _ h.blk, cell_of_row w M 1 _ _ _ h.blk, cell_of_row w M 2 _ _ _ h.blk, cell_of_row w M 3 _ _ _ h.blk, frozen_of_row w M 1 _ _ h.blk, frozen_of_row w M 2 _ _ h.blk, frozen_of_row w M 3 _ _ h.blk⟩
theorem MK.turnL {xs : List Nd} {M d : Nat} {w w1 : World} {s : CS} {pv lv dv : Value} {L L' : List In} {D : List Df} (h : MK xs M d w s pv lv dv L D) (hg : w.grownBy w1 lv.ownBlock) (ho : w1.ownsRow (M + 1) 53 4 lv L'.length (incs L')) (hl : L'.length ≤ 400)
    (s' : CS) (hh : s'.how = s.how) (hs : s'.how = 0 → L' = s'.list ∧ D = s'.defs) : MK xs M d w1 s' pv lv dv L' D ∧ CF M w w1 := by
  have hM := h.lt
  refine ⟨⟨?_, h.pool.kept hg (own_apart h.pool h.list (by decide)), ho, h.defs.kept hg (own_apart h.defs h.list (by decide)), hs, hl, h.many⟩, CF.of_grown h.list (.inl rfl) (by omega) hg⟩
  rw [hh]
  exact (hg.block M hM (fun e => own_ne h.list h.blk (by decide) e.symm)).trans h.blk
theorem MK.putL {xs : List Nd} {M d : Nat} {w w1 : World} {s : CS} {pv lv lv' dv : Value} {L L' : List In} {D : List Df} (h : MK xs M d w s pv lv dv L D) (hg : w.grownBy w1 lv.ownBlock) (ho : w1.ownsRow (M + 1) 53 4 lv' L'.length (incs L')) (hl : L'.length ≤ 400)
    (s' : CS) (hh : s'.how = s.how) (hs : s'.how = 0 → L' = s'.list ∧ D = s'.defs) : Mk xs M d (w1.setCell ⟨M, 1, none⟩ lv') s' ∧ CF M w (w1.setCell ⟨M, 1, none⟩ lv') := by
  have hM := h.lt
  have hb : w1.heap[M]? = some (.cells #[pv, lv, dv, .int .i64 s.how] 61 (0, 0)) := (hg.block M hM (fun e => own_ne h.list h.blk (by decide) e.symm)).trans h.blk
  have ne : ∀ {e : TypeId} {m n : Nat} {v : Value} {l : List Value} {B : Nat}, w1.ownsRow B e m v n l → 61 ≠ e → (w1.setCell ⟨M, 1, none⟩ lv').ownsRow B e m v n l := fun ho he => ownsRow_setCell_other ho (a := ⟨M, 1, none⟩) (own_ne ho hb he) _
  refine ⟨⟨pv, lv', dv, L', D, ?_, ne (h.pool.kept hg (own_apart h.pool h.list (by decide))) (by decide), ne ho (by decide), ne (h.defs.kept hg (own_apart h.defs h.list (by decide))) (by decide), hs, hl, h.many⟩, (CF.of_grown h.list (.inl rfl) (by omega) hg).trans (CF.of_set w1 1 _ (by decide))⟩
  rw [hh]
  exact heap_setCell_same w1 M 1 _ _ lv' hb
theorem MK.putD {xs : List Nd} {M d : Nat} {w w1 : World} {s : CS} {pv lv dv dv' : Value} {L : List In} {D D' : List Df} (h : MK xs M d w s pv lv dv L D) (hg : w.grownBy w1 dv.ownBlock) (ho : w1.ownsRow (M + 1) 51 3 dv' D'.length (dfcs D')) {d' : Nat} (hl : D'.length ≤ d')
    (s' : CS) (hh : s'.how = s.how) (hs : s'.how = 0 → L = s'.list ∧ D' = s'.defs) : Mk xs M d' (w1.setCell ⟨M, 2, none⟩ dv') s' ∧ CF M w (w1.setCell ⟨M, 2, none⟩ dv') := by
  have hM := h.lt
  have hb : w1.heap[M]? = some (.cells #[pv, lv, dv, .int .i64 s.how] 61 (0, 0)) := (hg.block M hM (fun e => own_ne h.defs h.blk (by decide) e.symm)).trans h.blk
  have ne : ∀ {e : TypeId} {m n : Nat} {v : Value} {l : List Value} {B : Nat}, w1.ownsRow B e m v n l → 61 ≠ e → (w1.setCell ⟨M, 2, none⟩ dv').ownsRow B e m v n l := fun ho he => ownsRow_setCell_other ho (a := ⟨M, 2, none⟩) (own_ne ho hb he) _
  refine ⟨⟨pv, lv, dv', L, D', ?_, ne (h.pool.kept hg (own_apart h.pool h.defs (by decide))) (by decide), ne (h.list.kept hg (own_apart h.list h.defs (by decide))) (by decide), ne ho (by decide), hs, h.len, hl⟩, (CF.of_grown h.defs (.inr rfl) (by omega) hg).trans (CF.of_set w1 2 _ (by decide))⟩
  rw [hh]
  exact heap_setCell_same w1 M 2 _ _ dv' hb
end Go.Proofs.YtkchakcebdenjaaGreat
/-
  The contracts of spec's l4Emit, l4To, l4Reserved, l4Name. No condition beyond the compiler's memory.
-/
namespace Go.Proofs.YtkchakcebdenjaaGreat
open Go.RowKit
set_option maxRecDepth 100000 in
set_option maxHeartbeats 3200000 in
theorem semit_any (xs : List Nd) (M d : Nat) (s : CS) (x : In) (w : World) (h : Mk xs M d w s) :
    Calls Tryz.prog 92 #[.pointer (some ⟨M, 0, none⟩), .agg #[.int .i64 x.o, .int .i64 x.n, .int .i64 x.i, .string x.s]] w fun e w' => e = .returned (.int .i64 s.place) ∧ Mk xs M d w' (s.emit x) ∧ CF M w w' := by
  obtain ⟨pv, lv, dv, L, D, h⟩ := h
  obtain ⟨i0, hi, hz0, hz1, hz2⟩ := info_parts Tryz.infoIn
  obtain ⟨al, ql, rfl⟩ := own_form h.list
  have hM := h.lt
  have hB0 : Below w.heap.size w (w.alloc (Obj.cells #[.int .i64 x.o, .int .i64 x.n, .int .i64 x.i, .string x.s] 53)) := (Below.refl _ _).alloc (Nat.le_refl _) _
  have h0 := h.on hB0
  obtain ⟨_, c1, _, c3, _, _, f3⟩ := h0.cells
  have hF0 := CF.of_below (M := M) hB0 (by omega)
  obtain ⟨sl, sd, how⟩ := s
  by_cases hh : how = 0
  · subst hh
    obtain ⟨rfl, rfl⟩ := h.same rfl
    dsimp only at *
    by_cases h4 : L.length = 400
    · have HP : Hid ((⟨L, D, 0⟩ : CS).place = 0 ∧ (⟨L, D, 0⟩ : CS).emit x = ⟨L, D, 3⟩) := by unfold Hid CS.place CS.emit; simp [h4]
      have h4' : (L.length : Int) = 400 := by omega
      obtain ⟨k1, k2⟩ := h.wrong 3 (by decide) ⟨L, D, 3⟩ rfl
      have hBk : Below (w.setCell ⟨M, 3, none⟩ (.int .i64 3)).heap.size (w.setCell ⟨M, 3, none⟩ (.int .i64 3)) ((w.setCell ⟨M, 3, none⟩ (.int .i64 3)).alloc (Obj.cells #[.int .i64 x.o, .int .i64 x.n, .int .i64 x.i, .string x.s] 53)) := (Below.refl _ _).alloc (Nat.le_refl _) _
      obtain ⟨pv', lv', dv', L', D', k1⟩ := k1.on hBk
      have hF := k2.trans (CF.of_below (M := M) hBk (by simp; omega))
      have c3' : ((w.setCell ⟨M, 3, none⟩ (.int .i64 3)).alloc (Obj.cells #[.int .i64 x.o, .int .i64 x.n, .int .i64 x.i, .string x.s] 53)).cell? ⟨M, 3, none⟩ = some (.int .i64 3) := k1.cells.2.2.2.1
      go_enter Tryz.func92, Tryz.ntmps92
      go_wp2_with fail
      go_ret
      exact ⟨by rw [HP.out.1]; rfl, by rw [HP.out.2]; exact ⟨_, _, _, _, _, k1⟩, hF⟩
    · have HP : Hid ((⟨L, D, 0⟩ : CS).place = L.length ∧ (⟨L, D, 0⟩ : CS).emit x = ⟨L ++ [x], D, 0⟩) := by unfold Hid CS.place CS.emit; simp [h4]
      have h4' : ¬ (L.length : Int) = 400 := by omega
      have hlen := h.len
      have hne : M ≠ w.heap.size := by omega
      go_enter Tryz.func92, Tryz.ntmps92
      go_wp2_with fail
      go_region_law (refine step_append_lies _ rfl _ _ 30 rfl (M + 1) 53 i0 _ 4 40 Tryz.underlying30 hi hz0 hz1 hz2 rfl (by decide) _ _ _ rfl ((h.list.alloc _).alloc _) ⟨w.heap.size + 1, 0, none⟩ 1 1 (incs [x]) rfl rfl (World.news_of_block (cs := #[.int .i64 x.o, .int .i64 x.n, .int .i64 x.i, .string x.s]) (t := 53) (fr := (0, 0)) (heap_alloc2_new w _ _)) (incs_one _) (by omega) (by unfold maxLen; omega) (by omega) (by simp; omega) (w.heap.size + 2) (by simp) ?_; intro g capg w1 hown hgrow hat hgl; have hb1 : w1.heap[M]? = some (.cells #[pv, .slice al L.length ql, dv, .int .i64 0] 61 (0, 0)) := (hgrow.block M (by simp; omega) (fun e => own_ne h.list h.blk (by decide) e.symm)).trans ((heap_alloc_old _ _ (by simp; omega)).trans ((heap_alloc_old _ _ hM).trans h.blk)); have kb1 : w1.cell? ⟨M, 0 + 1, none⟩ = some (.slice al L.length ql) := cell_of_row w1 M 1 _ _ _ hb1; have fb1 : w1.frozen? ⟨M, 0 + 1, none⟩ = false := frozen_of_row w1 M 1 _ _ hb1)
      all_goals
        have hown2 : w1.ownsRow (M + 1) 53 4 (.slice (some ⟨g, 0, none⟩) (L.length + 1) capg) (L ++ [x]).length (incs (L ++ [x])) := by
          rw [incs_append, List.length_append]
          exact hown
        have hBx := (((Below.refl w.heap.size w).alloc (Nat.le_refl _) (Obj.cells #[.int .i64 x.o, .int .i64 x.n, .int .i64 x.i, .string x.s] 53)).drew.alloc (by simp) (Obj.cells #[.int .i64 x.o, .int .i64 x.n, .int .i64 x.i, .string x.s] 53))
        obtain ⟨k1, k2⟩ := (h.on hBx).putL hgrow hown2 (by simp; omega) ⟨L ++ [x], D, 0⟩ rfl (fun _ => ⟨rfl, rfl⟩)
        have hb2 := heap_setCell_same w1 M 1 _ _ (.slice (some ⟨g, 0, none⟩) (L.length + 1) capg) hb1
        have kc : (w1.setCell ⟨M, 1, none⟩ (.slice (some ⟨g, 0, none⟩) (L.length + 1) capg)).cell? ⟨M, 0 + 1, none⟩ = some (.slice (some ⟨g, 0, none⟩) (L.length + 1) capg) := cell_of_row _ M 1 _ _ _ hb2
        have hF := (CF.of_below (M := M) hBx (by omega)).trans k2
        clear hown hgrow hat c1 c3 f3 h0 hF0 kb1 fb1 hb2 hBx hB0
        go_wp2_with fail
        go_ret
        exact ⟨by rw [HP.out.1]; simp, by rw [HP.out.2]; exact k1, hF⟩
  · have HP : Hid ((⟨sl, sd, how⟩ : CS).place = 0 ∧ (⟨sl, sd, how⟩ : CS).emit x = ⟨sl, sd, how⟩) := by unfold Hid CS.place CS.emit; simp [hh]
    go_enter Tryz.func92, Tryz.ntmps92
    go_wp2_with fail
    go_ret
    exact ⟨by rw [HP.out.1]; rfl, by rw [HP.out.2]; exact ⟨_, _, _, _, _, h0⟩, hF0⟩
set_option maxRecDepth 100000 in
set_option maxHeartbeats 1600000 in
theorem sto_any (xs : List Nd) (M d : Nat) (s : CS) (a : Nat) (w : World) (h : Mk xs M d w s) (ha : s.how = 0 → a < s.list.length) :
    Calls Tryz.prog 127 #[.pointer (some ⟨M, 0, none⟩), .int .i64 a] w fun e w' => e = .returned (.tuple #[]) ∧ Mk xs M d w' (s.lead a) ∧ CF M w w' := by
  obtain ⟨pv, lv, dv, L, D, h⟩ := h
  obtain ⟨al, ql, rfl⟩ := own_form h.list
  have hM := h.lt
  obtain ⟨_, c1, _, c3, _, _, f3⟩ := h.cells
  obtain ⟨sl, sd, how⟩ := s
  by_cases hh : how = 0
  · subst hh
    obtain ⟨rfl, rfl⟩ := h.same rfl
    have ha := ha rfl
    dsimp only at *
    obtain ⟨x, hx⟩ : ∃ x, L[a]? = some x := ⟨L[a], by simp [ha]⟩
    have HP : Hid ((⟨L, D, 0⟩ : CS).lead a = ⟨L.set a ⟨x.o, L.length, x.i, x.s⟩, D, 0⟩) := by unfold Hid CS.lead; simp [hx]
    have hlen := h.len
    obtain ⟨g, rfl, hg0⟩ : ∃ g, al = some ⟨g, 0, none⟩ ∧ M + 1 ≤ g := by
      rcases h.list.2 with ⟨_, h0⟩ | ⟨g, cap, cur, e, hB, hg, _⟩
      · omega
      · simp only [Value.slice.injEq] at e
        exact ⟨g, e.1, hB⟩
    have hst := h.list.stored (a * 4 + 1) (.int .i64 L.length)
    rw [incs_set L a x ⟨x.o, L.length, x.i, x.s⟩ hx 1 (by omega) _ rfl] at hst
    have ho2 : (w.setCell ⟨g, a * 4 + 1, none⟩ (.int .i64 L.length)).ownsRow (M + 1) 53 4 (.slice (some ⟨g, 0, none⟩) L.length ql) (L.set a ⟨x.o, L.length, x.i, x.s⟩).length (incs (L.set a ⟨x.o, L.length, x.i, x.s⟩)) := by rw [List.length_set]; exact hst.1
    obtain ⟨k1, k2⟩ := h.turnL hst.2 ho2 (by rw [List.length_set]; exact hlen) ⟨L.set a ⟨x.o, L.length, x.i, x.s⟩, D, 0⟩ rfl (fun _ => ⟨rfl, rfl⟩)
    have hca := h.list.cellAt (a * 4 + 1) (by omega)
    rw [incs_get L a x hx 1 (by omega)] at hca
    have hfa := h.list.frozenAt (a * 4 + 1)
    have hna : (a : Int) < L.length := by omega
    have hcc : w.cell? ⟨g, a * 4 + 1, none⟩ = some (.int .i64 x.n) := hca
    have hgM : ¬ g = M := by omega
    have hMg : ¬ M = g := by omega
    clear hca
    go_enter Tryz.func127, Tryz.ntmps127
    go_wp2_with fail
    go_region_held (fun w' => w'.cell? ⟨M, 1, none⟩ = some (.slice (some ⟨g, 0, none⟩) L.length ql)) (go_keep) (fail)
    all_goals
      go_wp2_with fail
      go_end0
      exact ⟨rfl, by rw [HP.out]; exact Mk.on ⟨_, _, _, _, _, k1⟩ (Below.refl _ _).drew, k2.trans (CF.of_below (Below.refl _ _).drew (by simp; omega))⟩
  · have HP : Hid ((⟨sl, sd, how⟩ : CS).lead a = ⟨sl, sd, how⟩) := by unfold Hid CS.lead; simp [hh]
    go_enter Tryz.func127, Tryz.ntmps127
    go_wp2_with fail
    go_end0
    exact ⟨rfl, by rw [HP.out]; exact ⟨_, _, _, _, _, h⟩, CF.refl _ _⟩
set_option maxRecDepth 100000 in
set_option maxHeartbeats 1600000 in
theorem srsv_any (s : ByteArray) (w : World) : Calls Tryz.prog 93 #[.string s] w fun e w' => e = .returned (.bool (rsv s)) ∧ w' = w := by
  have HR : Hid (rsv s = ((s.toList == [113, 117, 111, 116, 101]) || (s.toList == [105, 102]) || (s.toList == [102, 110]) || (s.toList == [100, 111]) || (s.toList == [108, 101, 116]) || (s.toList == [100, 101, 102, 105, 110, 101]))) := rfl
  go_enter Tryz.func93, Tryz.ntmps93
  go_wp2_with fail
  all_goals
    go_ret
    refine ⟨?_, rfl⟩
    rw [HR.out]
    simp [*]
end Go.Proofs.YtkchakcebdenjaaGreat
/-
  The contracts of spec's l4Name and l4Var. No condition beyond the compiler's memory.
-/
namespace Go.Proofs.YtkchakcebdenjaaGreat
open Go.RowKit
theorem ndAt_some {xs : List Nd} {v : Nat} {x : Nd} (h : xs[v]? = some x) : ndAt xs v = x := by
  unfold ndAt
  rw [Int.toNat_natCast, List.getD_eq_getElem?_getD, h]
  rfl
theorem own_node {w : World} {B : Nat} {pv : Value} {xs : List Nd} (h : w.ownsRow B 92 5 pv xs.length (ncs xs)) (v : Nat) (x : Nd) (hx : xs[v]? = some x) :
    ∃ g cap, pv = .slice (some ⟨g, 0, none⟩) xs.length cap ∧ g < w.heap.size ∧ w.cell? ⟨g, v * 5, none⟩ = some (.int .i64 x.k) ∧ w.cell? ⟨g, v * 5 + 1, none⟩ = some (.int .i64 x.n) ∧ w.cell? ⟨g, v * 5 + 2, none⟩ = some (.string x.s) ∧ w.cell? ⟨g, v * 5 + 3, none⟩ = some (.int .i64 x.a) ∧ w.cell? ⟨g, v * 5 + 4, none⟩ = some (.int .i64 x.b) := by
  have hv := (List.getElem?_eq_some_iff.1 hx).1
  rcases h.2 with ⟨_, h0⟩ | ⟨g, cap, cur, rfl, hB, hg, _⟩
  · omega
  · have at_ : ∀ j, j < 5 → w.cell? ⟨g, v * 5 + j, none⟩ = x.cs[j]? := fun j hj => by rw [h.cellAt (v * 5 + j) (by omega), ncs_get xs v x hx j hj]
    exact ⟨g, cap, rfl, (Array.getElem?_eq_some_iff.1 hg).1, at_ 0 (by omega), at_ 1 (by omega), at_ 2 (by omega), at_ 3 (by omega), at_ 4 (by omega)⟩
set_option maxRecDepth 100000 in
set_option maxHeartbeats 1600000 in
theorem s4name_any (xs : List Nd) (M d : Nat) (s : CS) (v : Nat) (x : Nd) (w : World) (h : Mk xs M d w s) (hx : xs[v]? = some x) :
    Calls Tryz.prog 60 #[.pointer (some ⟨M, 0, none⟩), .int .i64 v] w fun e w' => e = .returned (.tuple #[.string x.s, .bool (varN xs v)]) ∧ Below w.heap.size w w' := by
  have HV : Hid (varN xs v = (decide (x.k = 4) && !rsv x.s)) := by unfold Hid varN; rw [ndAt_some hx]
  obtain ⟨pv, lv, dv, L, D, h⟩ := h
  have hM := h.lt
  have hv := (List.getElem?_eq_some_iff.1 hx).1
  obtain ⟨g, cap, rfl, hg, d0, d1, d2, d3, d4⟩ := own_node h.pool v x hx
  obtain ⟨c0, _⟩ := h.cells
  have hv' : (v : Int) < xs.length := by omega
  have hgn : g ≠ w.heap.size := by omega
  have hB0 : Below w.heap.size w (w.alloc (.cells #[.int .i64 x.k, .int .i64 x.n, .string x.s, .int .i64 x.a, .int .i64 x.b] 92)) := (Below.refl _ _).alloc (Nat.le_refl _) _
  have e0 : (w.alloc (.cells #[.int .i64 x.k, .int .i64 x.n, .string x.s, .int .i64 x.a, .int .i64 x.b] 92)).cell? ⟨w.heap.size, 0, none⟩ = some (.int .i64 x.k) := cell_of_row _ _ 0 _ _ _ (heap_alloc_new w _)
  have e2 : (w.alloc (.cells #[.int .i64 x.k, .int .i64 x.n, .string x.s, .int .i64 x.a, .int .i64 x.b] 92)).cell? ⟨w.heap.size, 2, none⟩ = some (.string x.s) := cell_of_row _ _ 2 _ _ _ (heap_alloc_new w _)
  go_enter Tryz.func60, Tryz.ntmps60
  by_cases h4 : x.k = 4
  · have HV2 : Hid (varN xs v = !rsv x.s) := by unfold Hid; rw [HV.out, h4]; rfl
    clear HV
    rw [h4] at hB0 e0 d0
    go_wp2_with fail
    go_quiet (first | (go_at_call 93; refine Calls.quiet_of_same (srsv_any x.s _)))
    go_wp2_with fail
    go_ret2
    exact ⟨by rw [HV2.out]; rfl, ⟨hB0.os, hB0.tape, hB0.output, hB0.size, hB0.block⟩⟩
  · have HV2 : Hid (varN xs v = false) := by unfold Hid; rw [HV.out]; simp [h4]
    have hb4 : decide (x.k = 4) = false := by simpa using h4
    have hb5 : (x.k == 4) = false := by simpa using h4
    clear HV h4
    go_wp2_with fail
    go_quiet (fail)
    go_wp2_with fail
    go_ret2
    exact ⟨by rw [HV2.out]; rfl, ⟨hB0.os, hB0.tape, hB0.output, hB0.size, hB0.block⟩⟩
end Go.Proofs.YtkchakcebdenjaaGreat
/-
  The contract of spec's l4Var. No condition beyond that the frames are there.
-/
namespace Go.Proofs.YtkchakcebdenjaaGreat
open Go.RowKit
theorem own_el {w : World} {B n c : Nat} {e : TypeId} {ao : Option Addr} {vs : List Value} (h : w.ownsRow B e 1 (.slice ao n c) n vs) (k : Nat) (hk : k < n) : ∃ g u, ao = some ⟨g, 0, none⟩ ∧ vs[k]? = some u ∧ g < w.heap.size ∧ w.cell? ⟨g, k, none⟩ = some u := by
  have hl := h.1
  rcases h.2 with ⟨e1, h0⟩ | ⟨g, cap, cur, e1, hg, hh, _⟩
  · omega
  · simp only [Value.slice.injEq, true_and] at e1
    obtain ⟨rfl, rfl⟩ := e1
    refine ⟨g, vs[k]'(by omega), rfl, List.getElem?_eq_getElem (by omega), (Array.getElem?_eq_some_iff.1 hh).1, ?_⟩
    rw [h.cellAt k (by omega), List.getElem?_eq_getElem (by omega)]
theorem SRow.cell {w : World} {ao : Option Addr} {n c : Nat} {ss : List ByteArray} (h : SRow w (.slice ao n c) ss) (k : Nat) (t : ByteArray) (hk : ss[k]? = some t) : ∃ g, ao = some ⟨g, 0, none⟩ ∧ g < w.heap.size ∧ w.cell? ⟨g, k, none⟩ = some (.string t) := by
  have hl := (List.getElem?_eq_some_iff.1 hk).1
  obtain ⟨a, c', e⟩ := own_form h
  simp only [Value.slice.injEq] at e
  obtain ⟨rfl, rfl, rfl⟩ := e
  obtain ⟨g, u, h1, h2, h3, h4⟩ := own_el h k hl
  refine ⟨g, h1, h3, ?_⟩
  rw [h4, ← h2, List.getElem?_map, hk]
  rfl
theorem SRow.form {w : World} {v : Value} {ss : List ByteArray} (h : SRow w v ss) : ∃ ao cap, v = .slice ao ss.length cap := own_form h
theorem own_max {w : World} {B n k : Nat} {e : TypeId} {v : Value} {vs : List Value} (h : w.ownsRow B e k v n vs) : n ≤ 9223372036854775807 := by
  rcases h.2 with ⟨_, h0⟩ | ⟨g, cap, cur, e1, hg, hh, h1, h2, _⟩
  · omega
  · unfold maxLen at h2
    omega
theorem idxS_drop (l : List ByteArray) (s t : ByteArray) (j : Nat) (h : l[j]? = some t) : idxS (l.drop j) s j = if t.toList == s.toList then some j else idxS (l.drop (j + 1)) s (j + 1) := by
  obtain ⟨hl, he⟩ := List.getElem?_eq_some_iff.1 h
  rw [List.drop_eq_getElem_cons hl, he, idxS]
theorem findV_drop (env : Env) (s : ByteArray) (k : Nat) (hk : k < env.length) : findV (env.drop k) s k = (match idxS (env.getD k []) s 0 with
    | some i => some (k, i)
    | none => findV (env.drop (k + 1)) s (k + 1)) := by
  rw [List.drop_eq_getElem_cons hk, findV, List.getD_eq_getElem?_getD, List.getElem?_eq_getElem hk]
  rfl
def varV (r : Option (Nat × Nat)) : Value := match r with
  | some (n, i) => .tuple #[.int .i64 n, .int .i64 i]
  | none => .tuple #[.int .i64 (-1), .int .i64 0]
set_option maxRecDepth 100000 in
set_option maxHeartbeats 1600000 in
theorem s4var_any (env : Env) (ev : Value) (s : ByteArray) (w : World) (E : ERow w ev env) :
    Calls Tryz.prog 123 #[ev, .string s] w fun e w' => e = .returned (varV (findV env s 0)) ∧ w' = w := by
  obtain ⟨vs, ho, hvs⟩ := E
  obtain ⟨ae, ce, rfl⟩ := own_form ho
  have hmax := own_max ho
  go_enter Tryz.func123, Tryz.ntmps123
  go_wp2_with fail
  go_loop [6] (fun n => ∃ k : Nat, k ≤ env.length ∧ n = .int .i64 k ∧ Hid (findV env s 0 = findV (env.drop k) s k)) (fun n => env.length - (intOf n).toNat)
  case atStart => exact ⟨0, by omega, rfl, rfl⟩
  case round =>
    obtain ⟨k, hk, rfl, HF⟩ := hrel
    by_cases hlt : k < env.length
    · obtain ⟨g, u, rfl, hu, hg, hc⟩ := own_el ho k hlt
      have hS := (hvs k u hu).2
      have HF2 : Hid (findV env s 0 = (match idxS (env.getD k []) s 0 with
        | some i => some (k, i)
        | none => findV (env.drop (k + 1)) s (k + 1))) := HF.out.trans (findV_drop env s k hlt)
      generalize env.getD k [] = l at hS HF2
      obtain ⟨au, cu, rfl⟩ := hS.form
      have hmaxl := own_max hS
      have hlt' : (k : Int) < env.length := by omega
      clear HF
      go_wp2_with fail
      go_loop [7] (fun i => ∃ j : Nat, j ≤ l.length ∧ i = .int .i64 j ∧ Hid (idxS l s 0 = idxS (l.drop j) s j)) (fun i => l.length - (intOf i).toNat)
      case atStart => exact ⟨0, by omega, rfl, rfl⟩
      case round =>
        obtain ⟨j, hj, rfl, HI⟩ := hrel
        by_cases hjl : j < l.length
        · obtain ⟨t, ht⟩ : ∃ t, l[j]? = some t := ⟨l[j], by simp [hjl]⟩
          obtain ⟨gu, rfl, hgu, hcu⟩ := hS.cell j t ht
          have HD := idxS_drop l s t j ht
          have hjl' : (j : Int) < l.length := by omega
          cases he : (t.toList == s.toList) with
          | true =>
            have HR : Hid (findV env s 0 = some (k, j)) := by unfold Hid; rw [HF2.out, HI.out, HD, he]; rfl
            clear HD
            go_wp2_with fail
            go_ret2
            exact ⟨by rw [HR.out]; rfl, rfl⟩
          | false =>
            have HI2 : Hid (idxS l s 0 = idxS (l.drop (j + 1)) s (j + 1)) := by unfold Hid; rw [HI.out, HD, he]; rfl
            clear HD
            go_wp2_with fail
            go_round
            case rel => exact ⟨j + 1, by omega, by go_num, HI2⟩
            case measure => simp [intOf]; omega
        · have HF3 : Hid (findV env s 0 = findV (env.drop (k + 1)) s (k + 1)) := by
            unfold Hid
            rw [HF2.out, HI.out, List.drop_eq_nil_of_le (by omega)]
            rfl
          have hjl' : ¬ (j : Int) < l.length := by omega
          go_wp2_with fail
          go_round
          case rel => exact ⟨k + 1, by omega, by go_num, HF3⟩
          case measure => simp [intOf]; omega
    · have HR : Hid (findV env s 0 = none) := by unfold Hid; rw [HF.out, List.drop_eq_nil_of_le (by omega)]; rfl
      have hlt' : ¬ (k : Int) < env.length := by omega
      go_wp2_with fail
      go_ret2
      exact ⟨by rw [HR.out]; rfl, rfl⟩
end Go.Proofs.YtkchakcebdenjaaGreat
/-
  Parts of a row of numbers. No condition.
-/
namespace Go.Proofs.YtkchakcebdenjaaGreat
open Go.RowKit
def TRow (w : World) (v : Value) (l : List Int) : Prop :=
  ∃ ao cap, v = .slice ao l.length cap ∧ l.length ≤ cap ∧ cap ≤ 9223372036854775807 ∧ (l ≠ [] → ∃ g o cur fr, ao = some ⟨g, o, none⟩ ∧ w.heap[g]? = some (.cells cur 3 fr) ∧ ∀ i, i < l.length → cur[o + i]? = some (.int .i64 (l.getD i 0)))
theorem TRow.below {w w' : World} {v : Value} {l : List Int} (h : TRow w v l) (hb : Below w.heap.size w w') : TRow w' v l := by
  obtain ⟨ao, cap, rfl, h1, h2, h3⟩ := h
  refine ⟨ao, cap, rfl, h1, h2, fun hne => ?_⟩
  obtain ⟨g, o, cur, fr, e, hg, hc⟩ := h3 hne
  exact ⟨g, o, cur, fr, e, (hb.block g (Array.getElem?_eq_some_iff.1 hg).1).trans hg, hc⟩
theorem TRow.cell {w : World} {ao : Option Addr} {n cap : Nat} {l : List Int} (h : TRow w (.slice ao n cap) l) (k : Nat) (hk : k < l.length) : ∃ g o, ao = some ⟨g, o, none⟩ ∧ g < w.heap.size ∧ w.cell? ⟨g, o + k, none⟩ = some (.int .i64 (l.getD k 0)) := by
  obtain ⟨ao', cap', e, h1, h2, h3⟩ := h
  simp only [Value.slice.injEq] at e
  obtain ⟨rfl, rfl, rfl⟩ := e
  obtain ⟨g, o, cur, fr, e, hg, hc⟩ := h3 (by intro e; rw [e] at hk; simp at hk)
  refine ⟨g, o, e, (Array.getElem?_eq_some_iff.1 hg).1, ?_⟩
  rw [cell_of_row w g (o + k) _ _ _ hg, hc k hk]
theorem TRow.form {w : World} {v : Value} {l : List Int} (h : TRow w v l) : ∃ ao cap, v = .slice ao l.length cap ∧ l.length ≤ cap ∧ cap ≤ 9223372036854775807 := by
  obtain ⟨ao, cap, e, h1, h2, _⟩ := h
  exact ⟨ao, cap, e, h1, h2⟩
theorem TRow.of_own {w : World} {B : Nat} {v : Value} {l : List Int} (h : w.ownsRow B 3 1 v l.length (iv l)) : TRow w v l := by
  rcases h.2 with ⟨rfl, h0⟩ | ⟨g, cap, cur, rfl, hB, hg, h1, h2, h3, h4⟩
  · exact ⟨none, 0, by rw [h0], by omega, by omega, fun hne => absurd (List.length_eq_zero_iff.1 h0) hne⟩
  · refine ⟨_, cap, rfl, h1, by unfold maxLen at h2; exact h2, fun _ => ⟨g, 0, cur, (0, 0), rfl, hg, fun i hi => ?_⟩⟩
    have e : (cur.toList.take (l.length * 1))[i]? = (iv l)[i]? := by rw [h4]
    rw [List.getElem?_take, if_pos (by omega), Array.getElem?_toList] at e
    rw [Nat.zero_add, e]
    simp [iv, List.getD_eq_getElem?_getD, hi]
theorem TRow.drop {w : World} {g o n cap : Nat} {l : List Int} (h : TRow w (.slice (some ⟨g, o, none⟩) n cap) l) (k : Nat) (hk : k ≤ l.length) : TRow w (.slice (some ⟨g, o + k, none⟩) (n - k) (cap - k)) (l.drop k) := by
  obtain ⟨ao', cap', e, h1, h2, h3⟩ := h
  simp only [Value.slice.injEq] at e
  obtain ⟨rfl, rfl, rfl⟩ := e
  refine ⟨_, _, by rw [List.length_drop], by rw [List.length_drop]; omega, by omega, fun hne => ?_⟩
  obtain ⟨g', o', cur, fr, e, hg, hc⟩ := h3 (by rintro rfl; simp at hne)
  simp only [Option.some.injEq, Addr.mk.injEq, and_true] at e
  obtain ⟨rfl, rfl⟩ := e
  refine ⟨g, o + k, cur, fr, rfl, hg, fun i hi => ?_⟩
  rw [List.length_drop] at hi
  rw [show o + k + i = o + (k + i) by omega, hc (k + i) (by omega)]
  simp [List.getD_eq_getElem?_getD, List.getElem?_drop]
end Go.Proofs.YtkchakcebdenjaaGreat
