/-
  The contract of errors.Join at two errors, each nil or the error of what is no line. No condition.
-/
import Derived.Test.YtkoiccocgejmcaaDoorIDp2
import Derived.Test.YtkoiccocgejmcaaDoorStore2
import Derived.Test.YtkoiccocgejmcaaDoorStepApp
import Derived.Stop.Asserts
import Derived.LaidEql
namespace Go.Proofs.YtkoiccocgejmcaaDoor
open Go.RowKit Go.Extern.Stop Go.Stop Go.Extern

theorem Tryd.infoErr : (Tryd.prog.info? 42).map (fun i => (i.zero, i.size, i.bytes)) = some (some .nilIface, 1, 16) := by kernel_rfl
theorem Tryd.sizeJoin : (Tryd.prog.info? 94).map (·.size) = some 1 := by kernel_rfl

/-- An error of what is no line: itself, or joined. -/
def BadE (b : Nat) (w : World) (a : Addr) (e : Value) : Prop :=
  e = NL a ∨ ∃ j s m c, (b ≤ j ∧ b ≤ s) ∧ e = .iface 92 (.pointer (some ⟨j, 0, none⟩)) ∧ w.heap[j]? = some (.cells #[.slice (some ⟨s, 0, none⟩) m c] 94 (0, 0)) ∧ 1 ≤ m ∧ (m ≤ c ∧ m ≤ 2) ∧ w.cell? ⟨s, 0, none⟩ = some (NL a) ∧ s < w.heap.size
theorem BadE.mono {b b' : Nat} {w : World} {a : Addr} {e : Value} (h : BadE b w a e) (hb : b' ≤ b) : BadE b' w a e := by
  rcases h with rfl | ⟨j, s, m, c, h0, h⟩
  · exact Or.inl rfl
  · exact Or.inr ⟨j, s, m, c, ⟨Nat.le_trans hb h0.1, Nat.le_trans hb h0.2⟩, h⟩
theorem BadE.keep {b : Nat} {w w' : World} {a : Addr} {e : Value} (h : BadE b w a e) (hs : w.heap.size ≤ w'.heap.size) (hk : ∀ k, b ≤ k → k < w.heap.size → w'.heap[k]? = w.heap[k]?) : BadE b w' a e := by
  rcases h with rfl | ⟨j, s, m, c, h0, rfl, h1, h2, h3, h4, h5⟩
  · exact Or.inl rfl
  · refine Or.inr ⟨j, s, m, c, h0, rfl, (hk j h0.1 (Array.getElem?_eq_some_iff.1 h1).1).trans h1, h2, h3, ?_, Nat.lt_of_lt_of_le h5 hs⟩
    have := hk s h0.2 h5
    simp only [World.cell?, this] at h4 ⊢
    exact h4

set_option maxRecDepth 100000 in
set_option maxHeartbeats 3200000 in
theorem join_nn (s : Nat) (w : World) (h0 : w.cell? ⟨s, 0, none⟩ = some .nilIface) (h1 : w.cell? ⟨s, 1, none⟩ = some .nilIface) :
    Calls Tryd.prog 41 #[.slice (some ⟨s, 0, none⟩) 2 2] w fun e w' => e = .returned .nilIface ∧ w' = w := by
  go_enter Tryd.func41, Tryd.ntmps41
  go_wp2_with fail
  refine wp_loop_rounds 3 ?_
  rw [rounds_succ]
  go_wp2_with fail
  rw [rounds_succ]
  go_wp2_with fail
  rw [rounds_succ]
  go_wp2_with fail
  go_ret
  exact ⟨rfl, rfl⟩

theorem one_cell (w : World) (v : Value) : ∀ j u, [v][j]? = some u → (w.alloc (Obj.cells #[v] 42)).cell? (Addr.add ⟨w.heap.size, 0, none⟩ j) = some u := by
  intro j u hu
  rw [Addr.add_lit, cell_of_row _ w.heap.size (0 + j) _ 42 (0, 0) (heap_alloc_new w _)]
  cases j with
  | zero => simpa using hu
  | succ j => simp at hu

set_option maxRecDepth 100000 in
set_option maxHeartbeats 3200000 in
theorem join_bn (s : Nat) (a : Addr) (w : World) (h0 : w.cell? ⟨s, 0, none⟩ = some (NL a)) (h1 : w.cell? ⟨s, 1, none⟩ = some .nilIface) (hs : s < w.heap.size) :
    Calls Tryd.prog 41 #[.slice (some ⟨s, 0, none⟩) 2 2] w fun e w' => ∃ v, e = .returned v ∧ BadE w.heap.size w' a v ∧ Below w.heap.size w w' := by
  obtain ⟨i0, hi, hz0, hz1, hz2⟩ := info_parts Tryd.infoErr
  go_enter Tryd.func41, Tryd.ntmps41
  go_wp2_with fail
  refine wp_loop_rounds 3 ?_
  rw [rounds_succ]
  go_wp2_with fail
  rw [rounds_succ]
  go_wp2_with fail
  rw [rounds_succ]
  go_wp2_with (at_make; refine wpList_make_own _ rfl _ _ 71 rfl w.heap.size 42 i0 _ 1 Tryd.underlying71 hi hz0 hz1 _ _ _ 1 rfl rfl rfl (by rw [hz2]; omega) (by unfold maxLen; omega) (Nat.le_refl _) ?_)
  intro w1 O1 g1
  have hlt1 := O1.lt w.heap.size rfl
  have hB1 : Below w.heap.size w w1 := (Below.refl _ _).grown g1 (Nat.le_refl _) (fun k hk => by cases hk)
  have h01 := (hB1.cell (p := ⟨s, 0, none⟩) hs).trans h0
  have h11 := (hB1.cell (p := ⟨s, 1, none⟩) hs).trans h1
  have hbx : Below w1.heap.size w1 (w1.alloc (Obj.cells #[.slice (some ⟨w.heap.size, 0, none⟩) 0 1] 94)) := (Below.refl _ _).alloc (Nat.le_refl _) _
  have hx : (w1.alloc (Obj.cells #[.slice (some ⟨w.heap.size, 0, none⟩) 0 1] 94)).heap[w1.heap.size]? = some (.cells #[.slice (some ⟨w.heap.size, 0, none⟩) 0 1] 94 (0, 0)) := heap_alloc_new _ _
  have O2 := own_below O1 hbx
  have h02 := (hbx.cell (p := ⟨s, 0, none⟩) (Nat.lt_trans hs hlt1.2)).trans h01
  have h12 := (hbx.cell (p := ⟨s, 1, none⟩) (Nat.lt_trans hs hlt1.2)).trans h11
  have hB2 := hB1.trans (hbx.mono hB1.size)
  have hG : w.heap.size < w1.heap.size := hlt1.2
  go_wp2_with fail
  generalize w1.alloc (Obj.cells #[.slice (some ⟨w.heap.size, 0, none⟩) 0 1] 94) = v0 at *
  have x0 := hx
  have p0 := O2
  have y0 := h02
  have y1 := h12
  have B0 := hB2
  have lx0 : w1.heap.size < v0.heap.size := (Array.getElem?_eq_some_iff.1 hx).1
  clear hbx h01 h11 hB1 O1 g1 h0 h1 hx O2 h02 h12 hB2
  refine wp_loop_rounds 3 ?_
  rw [rounds_succ]
  have cx0 : v0.cell? ⟨w1.heap.size, 0, none⟩ = some (.slice (some ⟨w.heap.size, 0, none⟩) 0 1) := cell_of_row v0 w1.heap.size 0 _ _ _ x0
  go_wp2_with (at_builtin; refine wpList_append_fits _ rfl _ _ 71 rfl w.heap.size 42 i0 1 Tryd.underlying71 hi hz1 _ 0 1 _ rfl (own_below p0 ((Below.refl _ _).alloc (Nat.le_refl _) _)) ⟨v0.heap.size, 0, none⟩ 1 1 [NL a] rfl rfl (one_cell v0 (NL a)) (by intro u hu; simp only [List.mem_singleton] at hu; subst hu; rfl) (by omega) ?_)
  intro v1 p1 g1
  have lx1 : w1.heap.size < v1.heap.size := Nat.lt_of_lt_of_le lx0 (Nat.le_trans (by simp) g1.size)
  have x1 := (g1.block w1.heap.size (by simp; omega) (by simp; omega)).trans ((heap_alloc_old _ _ lx0).trans x0)
  have b1 : Below w.heap.size w v1 := (B0.alloc B0.size _).grown g1 (by have := B0.size; simp; omega) (fun j hj => by cases hj; exact Nat.le_refl _)
  have y11 := (b1.cell (p := ⟨s, 1, none⟩) hs).trans ((B0.cell (p := ⟨s, 1, none⟩) hs).symm.trans y1)
  have f1 := frozen_of_row v1 w1.heap.size 0 _ _ x1
  have c1 := cell_of_row v1 w1.heap.size 0 _ _ _ x1
  have X1 := heap_setCell_same v1 w1.heap.size 0 _ _ (.slice (some ⟨w.heap.size, 0, none⟩) 1 1) x1
  have P1 := ownsRow_setCell_other p1 (a := ⟨w1.heap.size, 0, none⟩) (by simp [Value.ownBlock]; omega) (.slice (some ⟨w.heap.size, 0, none⟩) 1 1)
  have N1 := b1.setCell (p := ⟨w1.heap.size, 0, none⟩) (Nat.le_of_lt hG) (.slice (some ⟨w.heap.size, 0, none⟩) 1 1)
  have Y1 := (N1.cell (p := ⟨s, 1, none⟩) hs).trans ((b1.cell (p := ⟨s, 1, none⟩) hs).symm.trans y11)
  have L1 : w1.heap.size < (v1.setCell ⟨w1.heap.size, 0, none⟩ (.slice (some ⟨w.heap.size, 0, none⟩) 1 1)).heap.size := (Array.getElem?_eq_some_iff.1 X1).1
  go_wp2_with fail
  generalize v1.setCell ⟨w1.heap.size, 0, none⟩ (.slice (some ⟨w.heap.size, 0, none⟩) 1 1) = v2 at *
  have p2 := P1
  have x2 := X1
  have B2 := N1
  have lx2 := L1
  replace y1 := Y1
  clear P1 X1 N1 L1 Y1 y11 f1 c1 x1 b1 p1 g1
  rw [rounds_succ]
  go_wp2_with fail
  rw [rounds_succ]
  go_wp2_with fail
  go_ret
  exact ⟨_, rfl, Or.inr ⟨w1.heap.size, w.heap.size, 1, 1, ⟨Nat.le_of_lt hG, Nat.le_refl _⟩, rfl, x2, by omega, by omega, p2.cellAt 0 (by simp), Nat.lt_trans hG lx2⟩, B2⟩

set_option maxRecDepth 100000 in
set_option maxHeartbeats 3200000 in
theorem join_nb (s : Nat) (a : Addr) (w : World) (h0 : w.cell? ⟨s, 0, none⟩ = some .nilIface) (h1 : w.cell? ⟨s, 1, none⟩ = some (NL a)) (hs : s < w.heap.size) :
    Calls Tryd.prog 41 #[.slice (some ⟨s, 0, none⟩) 2 2] w fun e w' => ∃ v, e = .returned v ∧ BadE w.heap.size w' a v ∧ Below w.heap.size w w' := by
  obtain ⟨i0, hi, hz0, hz1, hz2⟩ := info_parts Tryd.infoErr
  go_enter Tryd.func41, Tryd.ntmps41
  go_wp2_with fail
  refine wp_loop_rounds 3 ?_
  rw [rounds_succ]
  go_wp2_with fail
  rw [rounds_succ]
  go_wp2_with fail
  rw [rounds_succ]
  go_wp2_with (at_make; refine wpList_make_own _ rfl _ _ 71 rfl w.heap.size 42 i0 _ 1 Tryd.underlying71 hi hz0 hz1 _ _ _ 1 rfl rfl rfl (by rw [hz2]; omega) (by unfold maxLen; omega) (Nat.le_refl _) ?_)
  intro w1 O1 g1
  have hlt1 := O1.lt w.heap.size rfl
  have hB1 : Below w.heap.size w w1 := (Below.refl _ _).grown g1 (Nat.le_refl _) (fun k hk => by cases hk)
  have h01 := (hB1.cell (p := ⟨s, 0, none⟩) hs).trans h0
  have h11 := (hB1.cell (p := ⟨s, 1, none⟩) hs).trans h1
  have hbx : Below w1.heap.size w1 (w1.alloc (Obj.cells #[.slice (some ⟨w.heap.size, 0, none⟩) 0 1] 94)) := (Below.refl _ _).alloc (Nat.le_refl _) _
  have hx : (w1.alloc (Obj.cells #[.slice (some ⟨w.heap.size, 0, none⟩) 0 1] 94)).heap[w1.heap.size]? = some (.cells #[.slice (some ⟨w.heap.size, 0, none⟩) 0 1] 94 (0, 0)) := heap_alloc_new _ _
  have O2 := own_below O1 hbx
  have h02 := (hbx.cell (p := ⟨s, 0, none⟩) (Nat.lt_trans hs hlt1.2)).trans h01
  have h12 := (hbx.cell (p := ⟨s, 1, none⟩) (Nat.lt_trans hs hlt1.2)).trans h11
  have hB2 := hB1.trans (hbx.mono hB1.size)
  have hG : w.heap.size < w1.heap.size := hlt1.2
  go_wp2_with fail
  generalize w1.alloc (Obj.cells #[.slice (some ⟨w.heap.size, 0, none⟩) 0 1] 94) = v0 at *
  have x0 := hx
  have p0 := O2
  have y0 := h02
  have y1 := h12
  have B0 := hB2
  have lx0 : w1.heap.size < v0.heap.size := (Array.getElem?_eq_some_iff.1 hx).1
  clear hbx h01 h11 hB1 O1 g1 h0 h1 hx O2 h02 h12 hB2
  refine wp_loop_rounds 3 ?_
  rw [rounds_succ]
  go_wp2_with fail
  rw [rounds_succ]
  have cx0 : v0.cell? ⟨w1.heap.size, 0, none⟩ = some (.slice (some ⟨w.heap.size, 0, none⟩) 0 1) := cell_of_row v0 w1.heap.size 0 _ _ _ x0
  go_wp2_with (at_builtin; refine wpList_append_fits _ rfl _ _ 71 rfl w.heap.size 42 i0 1 Tryd.underlying71 hi hz1 _ 0 1 _ rfl (own_below p0 ((Below.refl _ _).alloc (Nat.le_refl _) _)) ⟨v0.heap.size, 0, none⟩ 1 1 [NL a] rfl rfl (one_cell v0 (NL a)) (by intro u hu; simp only [List.mem_singleton] at hu; subst hu; rfl) (by omega) ?_)
  intro v1 p1 g1
  have lx1 : w1.heap.size < v1.heap.size := Nat.lt_of_lt_of_le lx0 (Nat.le_trans (by simp) g1.size)
  have x1 := (g1.block w1.heap.size (by simp; omega) (by simp; omega)).trans ((heap_alloc_old _ _ lx0).trans x0)
  have b1 : Below w.heap.size w v1 := (B0.alloc B0.size _).grown g1 (by have := B0.size; simp; omega) (fun j hj => by cases hj; exact Nat.le_refl _)
  have y11 := (b1.cell (p := ⟨s, 1, none⟩) hs).trans ((B0.cell (p := ⟨s, 1, none⟩) hs).symm.trans y1)
  have f1 := frozen_of_row v1 w1.heap.size 0 _ _ x1
  have c1 := cell_of_row v1 w1.heap.size 0 _ _ _ x1
  have X1 := heap_setCell_same v1 w1.heap.size 0 _ _ (.slice (some ⟨w.heap.size, 0, none⟩) 1 1) x1
  have P1 := ownsRow_setCell_other p1 (a := ⟨w1.heap.size, 0, none⟩) (by simp [Value.ownBlock]; omega) (.slice (some ⟨w.heap.size, 0, none⟩) 1 1)
  have N1 := b1.setCell (p := ⟨w1.heap.size, 0, none⟩) (Nat.le_of_lt hG) (.slice (some ⟨w.heap.size, 0, none⟩) 1 1)
  have Y1 := (N1.cell (p := ⟨s, 1, none⟩) hs).trans ((b1.cell (p := ⟨s, 1, none⟩) hs).symm.trans y11)
  have L1 : w1.heap.size < (v1.setCell ⟨w1.heap.size, 0, none⟩ (.slice (some ⟨w.heap.size, 0, none⟩) 1 1)).heap.size := (Array.getElem?_eq_some_iff.1 X1).1
  go_wp2_with fail
  generalize v1.setCell ⟨w1.heap.size, 0, none⟩ (.slice (some ⟨w.heap.size, 0, none⟩) 1 1) = v2 at *
  have p2 := P1
  have x2 := X1
  have B2 := N1
  have lx2 := L1
  replace y1 := Y1
  clear P1 X1 N1 L1 Y1 y11 f1 c1 x1 b1 p1 g1
  rw [rounds_succ]
  go_wp2_with fail
  go_ret
  exact ⟨_, rfl, Or.inr ⟨w1.heap.size, w.heap.size, 1, 1, ⟨Nat.le_of_lt hG, Nat.le_refl _⟩, rfl, x2, by omega, by omega, p2.cellAt 0 (by simp), Nat.lt_trans hG lx2⟩, B2⟩

set_option maxRecDepth 100000 in
set_option maxHeartbeats 3200000 in
theorem join_bb (s : Nat) (a : Addr) (w : World) (h0 : w.cell? ⟨s, 0, none⟩ = some (NL a)) (h1 : w.cell? ⟨s, 1, none⟩ = some (NL a)) (hs : s < w.heap.size) :
    Calls Tryd.prog 41 #[.slice (some ⟨s, 0, none⟩) 2 2] w fun e w' => ∃ v, e = .returned v ∧ BadE w.heap.size w' a v ∧ Below w.heap.size w w' := by
  obtain ⟨i0, hi, hz0, hz1, hz2⟩ := info_parts Tryd.infoErr
  go_enter Tryd.func41, Tryd.ntmps41
  go_wp2_with fail
  refine wp_loop_rounds 3 ?_
  rw [rounds_succ]
  go_wp2_with fail
  rw [rounds_succ]
  go_wp2_with fail
  rw [rounds_succ]
  go_wp2_with (at_make; refine wpList_make_own _ rfl _ _ 71 rfl w.heap.size 42 i0 _ 1 Tryd.underlying71 hi hz0 hz1 _ _ _ 2 rfl rfl rfl (by rw [hz2]; omega) (by unfold maxLen; omega) (Nat.le_refl _) ?_)
  intro w1 O1 g1
  have hlt1 := O1.lt w.heap.size rfl
  have hB1 : Below w.heap.size w w1 := (Below.refl _ _).grown g1 (Nat.le_refl _) (fun k hk => by cases hk)
  have h01 := (hB1.cell (p := ⟨s, 0, none⟩) hs).trans h0
  have h11 := (hB1.cell (p := ⟨s, 1, none⟩) hs).trans h1
  have hbx : Below w1.heap.size w1 (w1.alloc (Obj.cells #[.slice (some ⟨w.heap.size, 0, none⟩) 0 2] 94)) := (Below.refl _ _).alloc (Nat.le_refl _) _
  have hx : (w1.alloc (Obj.cells #[.slice (some ⟨w.heap.size, 0, none⟩) 0 2] 94)).heap[w1.heap.size]? = some (.cells #[.slice (some ⟨w.heap.size, 0, none⟩) 0 2] 94 (0, 0)) := heap_alloc_new _ _
  have O2 := own_below O1 hbx
  have h02 := (hbx.cell (p := ⟨s, 0, none⟩) (Nat.lt_trans hs hlt1.2)).trans h01
  have h12 := (hbx.cell (p := ⟨s, 1, none⟩) (Nat.lt_trans hs hlt1.2)).trans h11
  have hB2 := hB1.trans (hbx.mono hB1.size)
  have hG : w.heap.size < w1.heap.size := hlt1.2
  go_wp2_with fail
  generalize w1.alloc (Obj.cells #[.slice (some ⟨w.heap.size, 0, none⟩) 0 2] 94) = v0 at *
  have x0 := hx
  have p0 := O2
  have y0 := h02
  have y1 := h12
  have B0 := hB2
  have lx0 : w1.heap.size < v0.heap.size := (Array.getElem?_eq_some_iff.1 hx).1
  clear hbx h01 h11 hB1 O1 g1 h0 h1 hx O2 h02 h12 hB2
  refine wp_loop_rounds 3 ?_
  rw [rounds_succ]
  have cx0 : v0.cell? ⟨w1.heap.size, 0, none⟩ = some (.slice (some ⟨w.heap.size, 0, none⟩) 0 2) := cell_of_row v0 w1.heap.size 0 _ _ _ x0
  go_wp2_with (at_builtin; refine wpList_append_fits _ rfl _ _ 71 rfl w.heap.size 42 i0 1 Tryd.underlying71 hi hz1 _ 0 2 _ rfl (own_below p0 ((Below.refl _ _).alloc (Nat.le_refl _) _)) ⟨v0.heap.size, 0, none⟩ 1 1 [NL a] rfl rfl (one_cell v0 (NL a)) (by intro u hu; simp only [List.mem_singleton] at hu; subst hu; rfl) (by omega) ?_)
  intro v1 p1 g1
  have lx1 : w1.heap.size < v1.heap.size := Nat.lt_of_lt_of_le lx0 (Nat.le_trans (by simp) g1.size)
  have x1 := (g1.block w1.heap.size (by simp; omega) (by simp; omega)).trans ((heap_alloc_old _ _ lx0).trans x0)
  have b1 : Below w.heap.size w v1 := (B0.alloc B0.size _).grown g1 (by have := B0.size; simp; omega) (fun j hj => by cases hj; exact Nat.le_refl _)
  have y11 := (b1.cell (p := ⟨s, 1, none⟩) hs).trans ((B0.cell (p := ⟨s, 1, none⟩) hs).symm.trans y1)
  have f1 := frozen_of_row v1 w1.heap.size 0 _ _ x1
  have c1 := cell_of_row v1 w1.heap.size 0 _ _ _ x1
  have X1 := heap_setCell_same v1 w1.heap.size 0 _ _ (.slice (some ⟨w.heap.size, 0, none⟩) 1 2) x1
  have P1 := ownsRow_setCell_other p1 (a := ⟨w1.heap.size, 0, none⟩) (by simp [Value.ownBlock]; omega) (.slice (some ⟨w.heap.size, 0, none⟩) 1 2)
  have N1 := b1.setCell (p := ⟨w1.heap.size, 0, none⟩) (Nat.le_of_lt hG) (.slice (some ⟨w.heap.size, 0, none⟩) 1 2)
  have Y1 := (N1.cell (p := ⟨s, 1, none⟩) hs).trans ((b1.cell (p := ⟨s, 1, none⟩) hs).symm.trans y11)
  have L1 : w1.heap.size < (v1.setCell ⟨w1.heap.size, 0, none⟩ (.slice (some ⟨w.heap.size, 0, none⟩) 1 2)).heap.size := (Array.getElem?_eq_some_iff.1 X1).1
  go_wp2_with fail
  generalize v1.setCell ⟨w1.heap.size, 0, none⟩ (.slice (some ⟨w.heap.size, 0, none⟩) 1 2) = v2 at *
  have p2 := P1
  have x2 := X1
  have B2 := N1
  have lx2 := L1
  replace y1 := Y1
  clear P1 X1 N1 L1 Y1 y11 f1 c1 x1 b1 p1 g1
  rw [rounds_succ]
  have cx2 : v2.cell? ⟨w1.heap.size, 0, none⟩ = some (.slice (some ⟨w.heap.size, 0, none⟩) 1 2) := cell_of_row v2 w1.heap.size 0 _ _ _ x2
  go_wp2_with (at_builtin; refine wpList_append_fits _ rfl _ _ 71 rfl w.heap.size 42 i0 1 Tryd.underlying71 hi hz1 _ 1 2 _ rfl (own_below p2 ((Below.refl _ _).alloc (Nat.le_refl _) _)) ⟨v2.heap.size, 0, none⟩ 1 1 [NL a] rfl rfl (one_cell v2 (NL a)) (by intro u hu; simp only [List.mem_singleton] at hu; subst hu; rfl) (by omega) ?_)
  intro v3 p3 g3
  have lx3 : w1.heap.size < v3.heap.size := Nat.lt_of_lt_of_le lx2 (Nat.le_trans (by simp) g3.size)
  have x3 := (g3.block w1.heap.size (by simp; omega) (by simp; omega)).trans ((heap_alloc_old _ _ lx2).trans x2)
  have b3 : Below w.heap.size w v3 := (B2.alloc B2.size _).grown g3 (by have := B2.size; simp; omega) (fun j hj => by cases hj; exact Nat.le_refl _)
  have y13 := (b3.cell (p := ⟨s, 1, none⟩) hs).trans ((B2.cell (p := ⟨s, 1, none⟩) hs).symm.trans y1)
  have f3 := frozen_of_row v3 w1.heap.size 0 _ _ x3
  have c3 := cell_of_row v3 w1.heap.size 0 _ _ _ x3
  have X3 := heap_setCell_same v3 w1.heap.size 0 _ _ (.slice (some ⟨w.heap.size, 0, none⟩) 2 2) x3
  have P3 := ownsRow_setCell_other p3 (a := ⟨w1.heap.size, 0, none⟩) (by simp [Value.ownBlock]; omega) (.slice (some ⟨w.heap.size, 0, none⟩) 2 2)
  have N3 := b3.setCell (p := ⟨w1.heap.size, 0, none⟩) (Nat.le_of_lt hG) (.slice (some ⟨w.heap.size, 0, none⟩) 2 2)
  have Y3 := (N3.cell (p := ⟨s, 1, none⟩) hs).trans ((b3.cell (p := ⟨s, 1, none⟩) hs).symm.trans y13)
  have L3 : w1.heap.size < (v3.setCell ⟨w1.heap.size, 0, none⟩ (.slice (some ⟨w.heap.size, 0, none⟩) 2 2)).heap.size := (Array.getElem?_eq_some_iff.1 X3).1
  go_wp2_with fail
  generalize v3.setCell ⟨w1.heap.size, 0, none⟩ (.slice (some ⟨w.heap.size, 0, none⟩) 2 2) = v4 at *
  have p4 := P3
  have x4 := X3
  have B4 := N3
  have lx4 := L3
  replace y1 := Y3
  clear P3 X3 N3 L3 Y3 y13 f3 c3 x3 b3 p3 g3
  rw [rounds_succ]
  go_wp2_with fail
  go_ret
  exact ⟨_, rfl, Or.inr ⟨w1.heap.size, w.heap.size, 2, 2, ⟨Nat.le_of_lt hG, Nat.le_refl _⟩, rfl, x4, by omega, by omega, p4.cellAt 0 (by simp), Nat.lt_trans hG lx4⟩, B4⟩

end Go.Proofs.YtkoiccocgejmcaaDoor
