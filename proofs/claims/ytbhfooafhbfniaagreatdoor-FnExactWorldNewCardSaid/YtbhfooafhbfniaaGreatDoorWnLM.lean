/-
  Contract of spec.l13Code: a code in memory of its own. No condition but bounds.
-/
import Derived.Test.YtbhfooafhbfniaaGreatDoorPrAppNM
namespace Go.Proofs.YtbhfooafhbfniaaGreatDoor
open Go.RowKit
set_option maxRecDepth 100000 in
set_option maxHeartbeats 6400000 in
theorem s13c_r1 {t0 t3 t4 t5 t6 t7 t8 t9 t10 t11 t12 t13 t14 : Value} {fs : List Deferred} (b q : Nat) (a1 a2 a3 : Option Addr) (c1 c2 c3 : Nat) (ns : List Nd) (is : List In) (ds : List Df) (w : World) (Q : Exit → Act → World → Prop)
    (hx : w.heap[b]? = some (.cells #[.slice a1 ns.length c1, .slice a2 is.length c2, .slice a3 ds.length c3] 36 (0, 0))) (hq : w.heap[q]? = some (.cells #[.slice none 0 0, .slice none 0 0, .slice none 0 0] 36 (0, 0))) (hbq : b ≠ q) (R1 : NRow w (.slice a1 ns.length c1) ns) (R2 : InRow w (.slice a2 is.length c2) is) (R3 : DfRow w (.slice a3 ds.length c3) ds) (h1 : ns.length ≤ 1048576) (h2 : is.length ≤ 1048576) (h3 : ds.length ≤ 1048576)
    (hQ : ∀ u3 u4 u5 u6 u7 u8 u9 u10 u11 u12 u13 u14 (y1 y2 y3 : Value) (W : World), W.heap[q]? = some (.cells #[y1, y2, y3] 36 (0, 0)) → W.ownsRow w.heap.size 130 5 y1 ns.length (ncs ns) → W.ownsRow w.heap.size 99 4 y2 is.length (incs is) → W.ownsRow w.heap.size 101 3 y3 ds.length (dfcs ds) → Below q w W → Q .normal ⟨#[t0, .pointer (some ⟨b, 0, none⟩), .pointer (some ⟨q, 0, none⟩), u3, u4, u5, u6, u7, u8, u9, u10, u11, u12, u13, u14], fs⟩ W) :
    (Code.region 1 (List.toArray (⟨some 3, .fieldAddr 36 (.tmp 1) 0, 0, "l13_world.go:82", #[], none⟩ :: ⟨some 4, .load 32 (.tmp 3), 32, "l13_world.go:82", #[⟨0, .data⟩], none⟩ :: ⟨some 5, .call { callee := .value (.func 53), args := #[.tmp 4], argTypes := #[32] }, 32, "l13_world.go:82", #[⟨1, .data⟩], none⟩ :: ⟨some 6, .buildSlice 33 0 #[], 33, "l13_world.go:82", #[], none⟩ :: ⟨some 7, .fieldAddr 36 (.tmp 1) 1, 0, "l13_world.go:82", #[], none⟩ :: ⟨some 8, .load 33 (.tmp 7), 33, "l13_world.go:82", #[⟨4, .data⟩], none⟩ :: ⟨some 9, .call { callee := .builtin .append, args := #[.tmp 6, .tmp 8], argTypes := #[33, 33] }, 33, "l13_world.go:82", #[⟨3, .data⟩, ⟨5, .data⟩, ⟨2, .chain⟩], none⟩ :: ⟨some 10, .buildSlice 34 0 #[], 34, "l13_world.go:82", #[], none⟩ :: ⟨some 11, .fieldAddr 36 (.tmp 1) 2, 0, "l13_world.go:82", #[], none⟩ :: ⟨some 12, .load 34 (.tmp 11), 34, "l13_world.go:82", #[⟨8, .data⟩], none⟩ :: ⟨some 13, .call { callee := .builtin .append, args := #[.tmp 10, .tmp 12], argTypes := #[34, 34] }, 34, "l13_world.go:82", #[⟨7, .data⟩, ⟨9, .data⟩, ⟨6, .chain⟩], none⟩ :: ⟨some 14, .build 36 #[(0, .tmp 5), (1, .tmp 9), (2, .tmp 13)], 36, "l13_world.go:82", #[⟨2, .data⟩, ⟨6, .data⟩, ⟨10, .data⟩], none⟩ :: ⟨none, .store 36 (.tmp 2) (.tmp 14), 0, "l13_world.go:82", #[⟨11, .data⟩, ⟨10, .chain⟩, ⟨0, .phase⟩, ⟨1, .phase⟩, ⟨2, .phase⟩, ⟨3, .phase⟩, ⟨4, .phase⟩, ⟨5, .phase⟩, ⟨6, .phase⟩, ⟨7, .phase⟩, ⟨8, .phase⟩, ⟨9, .phase⟩, ⟨10, .phase⟩, ⟨11, .phase⟩], none⟩ :: [])) true).wp Tryz.prog Q ⟨#[t0, .pointer (some ⟨b, 0, none⟩), .pointer (some ⟨q, 0, none⟩), t3, t4, t5, t6, t7, t8, t9, t10, t11, t12, t13, t14], fs⟩ w := by
  have hS : ∀ w', Below w.heap.size w w' → (w'.heap[b]? = some (.cells #[.slice a1 ns.length c1, .slice a2 is.length c2, .slice a3 ds.length c3] 36 (0, 0)) ∧ True) := fun w' hb => ⟨blk_bel hx hb, trivial⟩
  obtain ⟨ii, hi, hi0, hi1, hi2⟩ := info_parts Tryz.infoIn
  obtain ⟨ij, hj, hj0, hj1, hj2⟩ := info_parts Tryz.infoDf
  have B : Below w.heap.size w w.drew := drew_bel w
  refine wp_region_noPanic ?_
  refine wp_region_held_drew (S := fun w' => w'.heap[b]? = some (.cells #[.slice a1 ns.length c1, .slice a2 is.length c2, .slice a3 ds.length c3] 36 (0, 0)) ∧ True) (by kernel_rfl) (hS _ B) (fun hHeld => ?_)
  refine wpAnyH_take (i := 0) (oi := ⟨some 3, .fieldAddr 36 (.tmp 1) 0, 0, "l13_world.go:82", #[], none⟩) (v := .pointer (some ⟨b, 0, none⟩)) rfl (by kernel_rfl) (by kernel_rfl) (by kernel_rfl) (fun _ _ _ h => h) (Or.inl ⟨by rfl, by intro w hSw; go_simp⟩) (by assumption) ?_
  simp only [Act.put, List.setIfInBounds_toArray, List.set_cons_zero, List.set_cons_succ]
  refine wpAnyH_take (i := 1) (oi := ⟨some 4, .load 32 (.tmp 3), 32, "l13_world.go:82", #[⟨0, .data⟩], none⟩) (v := .agg #[.slice a1 ns.length c1]) rfl (by kernel_rfl) (by kernel_rfl) (by kernel_rfl) (fun _ _ _ h => h) (yieldsIf_load_mid (by rfl) 32 _ rfl b 0 rfl [.slice a1 ns.length c1] _ (fun _ h => World.rangeAt_of_block h.1 0 1) Tryz.underlying32 rfl (by kernel_rfl)) (by assumption) ?_
  simp only [Act.put, List.setIfInBounds_toArray, List.set_cons_zero, List.set_cons_succ]
  refine wpAnyH_take (i := 4) (oi := ⟨some 7, .fieldAddr 36 (.tmp 1) 1, 0, "l13_world.go:82", #[], none⟩) (v := .pointer (some ⟨b, 1, none⟩)) rfl (by kernel_rfl) (by kernel_rfl) (by kernel_rfl) (fun _ _ _ h => h) (Or.inl ⟨by rfl, by intro w hSw; go_simp⟩) (by assumption) ?_
  simp only [Act.put, List.setIfInBounds_toArray, List.set_cons_zero, List.set_cons_succ]
  refine wpAnyH_take (i := 5) (oi := ⟨some 8, .load 33 (.tmp 7), 33, "l13_world.go:82", #[⟨4, .data⟩], none⟩) (v := .slice a2 is.length c2) rfl (by kernel_rfl) (by kernel_rfl) (by kernel_rfl) (fun _ _ _ h => h) (Or.inl ⟨by rfl, by intro w' hSw; have c := cell_of_row w' (b) 1 _ _ _ hSw.1; go_simp⟩) (by assumption) ?_
  simp only [Act.put, List.setIfInBounds_toArray, List.set_cons_zero, List.set_cons_succ]
  refine wpAnyH_take (i := 8) (oi := ⟨some 11, .fieldAddr 36 (.tmp 1) 2, 0, "l13_world.go:82", #[], none⟩) (v := .pointer (some ⟨b, 2, none⟩)) rfl (by kernel_rfl) (by kernel_rfl) (by kernel_rfl) (fun _ _ _ h => h) (Or.inl ⟨by rfl, by intro w hSw; go_simp⟩) (by assumption) ?_
  simp only [Act.put, List.setIfInBounds_toArray, List.set_cons_zero, List.set_cons_succ]
  refine wpAnyH_take (i := 9) (oi := ⟨some 12, .load 34 (.tmp 11), 34, "l13_world.go:82", #[⟨8, .data⟩], none⟩) (v := .slice a3 ds.length c3) rfl (by kernel_rfl) (by kernel_rfl) (by kernel_rfl) (fun _ _ _ h => h) (Or.inl ⟨by rfl, by intro w' hSw; have c := cell_of_row w' (b) 2 _ _ _ hSw.1; go_simp⟩) (by assumption) ?_
  simp only [Act.put, List.setIfInBounds_toArray, List.set_cons_zero, List.set_cons_succ]
  refine wpAnyH_ready (rs := [2, 3, 7]) (by kernel_rfl) (by simp) ?_
  refine AllReadyH.cons rfl (fun K hK => ?_) (AllReadyH.cons rfl (fun K hK => ?_) (AllReadyH.cons rfl (fun K hK => ?_) AllReadyH.nil))
  · have hlo := B.size
    go_simp
    go_wp2_with (go_at_call 53; with_reducible refine (scopy_any _ ns _ (R1.below B) (by omega)).mono ?_; rintro e z1 ⟨y1, rfl, O1, hb⟩)
    obtain ⟨d1, e1, rfl⟩ := own_form O1
    replace O1 := own_mono O1 hlo
    clear hlo
    replace B := B.trans (hb.mono B.size)
    clear hb
    refine hK.out _ _ (hS _ B) (fun hHeld => ?_)
    clear hK
    refine wpAnyH_ready (rs := [3, 7]) (by kernel_rfl) (by simp) ?_
    refine AllReadyH.cons rfl (fun K hK => ?_) (AllReadyH.cons rfl (fun K hK => ?_) AllReadyH.nil)
    · go_simp
      go_wp2_with fail
      have hb := alloc_bel z1 (Obj.cells #[] 99)
      have X3 : (z1.alloc (Obj.cells #[] 99)).heap[z1.heap.size]? = some (Obj.cells #[] 99) := heap_alloc_new _ _
      have hX3 : w.heap.size ≤ z1.heap.size := B.size
      generalize z1.alloc (Obj.cells #[] 99) = z2 at hb X3 ⊢
      obtain ⟨e3x, he3⟩ : ∃ q0, q0 = z1.heap.size := ⟨_, rfl⟩
      rw [← he3] at X3 hX3 ⊢
      clear he3
      replace O1 := own_below O1 hb
      replace B := B.trans (hb.mono B.size)
      clear hb
      refine hK.out _ _ (hS _ B) (fun hHeld => ?_)
      clear hK
      refine wpAnyH_ready (rs := [6, 7]) (by kernel_rfl) (by simp) ?_
      refine AllReadyH.cons rfl (fun K hK => ?_) (AllReadyH.cons rfl (fun K hK => ?_) AllReadyH.nil)
      · have SS := R2.below B
        refine step_append_emptyN _ rfl _ _ 33 rfl 99 ii _ 4 40 Tryz.underlying33 hi hi0 hi1 hi2 rfl (e3x) rfl X3 a2 is.length c2 (incs is) rfl (incs_length is) SS.nilcap SS.cells (incs_one is) (by unfold maxLen; omega) (by omega) w.heap.size hX3 ?_
        intro y2 z3 O2 hb _
        obtain ⟨d2, e2, rfl⟩ := own_form O2
        clear SS
        replace O1 := own_below O1 hb
        replace X3 := blk_bel X3 hb
        replace B := B.trans (hb.mono B.size)
        clear hb
        refine hK.out _ _ (hS _ B) (fun hHeld => ?_)
        clear hK
        simp only [Act.put, List.setIfInBounds_toArray]
        refine wpAnyH_ready (rs := [7]) (by kernel_rfl) (by simp) ?_
        refine AllReadyH.cons rfl (fun K hK => ?_) AllReadyH.nil
        go_simp
        go_wp2_with fail
        have hb := alloc_bel z3 (Obj.cells #[] 101)
        have X7 : (z3.alloc (Obj.cells #[] 101)).heap[z3.heap.size]? = some (Obj.cells #[] 101) := heap_alloc_new _ _
        have hX7 : w.heap.size ≤ z3.heap.size := B.size
        generalize z3.alloc (Obj.cells #[] 101) = z4 at hb X7 ⊢
        obtain ⟨e7x, he7⟩ : ∃ q0, q0 = z3.heap.size := ⟨_, rfl⟩
        rw [← he7] at X7 hX7 ⊢
        clear he7
        replace O1 := own_below O1 hb
        replace O2 := own_below O2 hb
        replace X3 := blk_bel X3 hb
        replace B := B.trans (hb.mono B.size)
        clear hb
        refine hK.out _ _ (hS _ B) (fun hHeld => ?_)
        clear hK
        refine wpAnyH_ready (rs := [10]) (by kernel_rfl) (by simp) ?_
        refine AllReadyH.cons rfl (fun K hK => ?_) AllReadyH.nil
        have SS := R3.below B
        refine step_append_emptyN _ rfl _ _ 34 rfl 101 ij _ 3 32 Tryz.underlying34 hj hj0 hj1 hj2 rfl (e7x) rfl X7 a3 ds.length c3 (dfcs ds) rfl (dfcs_length ds) SS.nilcap SS.cells (dfcs_one ds) (by unfold maxLen; omega) (by omega) w.heap.size hX7 ?_
        intro y3 z5 O3 hb _
        obtain ⟨d3, e3, rfl⟩ := own_form O3
        clear SS
        replace O1 := own_below O1 hb
        replace O2 := own_below O2 hb
        replace X3 := blk_bel X3 hb
        replace X7 := blk_bel X7 hb
        replace B := B.trans (hb.mono B.size)
        clear hb
        refine hK.out _ _ (hS _ B) (fun hHeld => ?_)
        clear hK
        simp only [Act.put, List.setIfInBounds_toArray]
        refine wpAnyH_take (i := 11) (oi := ⟨some 14, .build 36 #[(0, .tmp 5), (1, .tmp 9), (2, .tmp 13)], 36, "l13_world.go:82", #[⟨2, .data⟩, ⟨6, .data⟩, ⟨10, .data⟩], none⟩) (v := .agg #[.slice d1 ns.length e1, .slice d2 is.length e2, .slice d3 ds.length e3]) rfl (by kernel_rfl) (by kernel_rfl) (by kernel_rfl) (fun _ _ _ h => h) (Or.inl ⟨by rfl, by intro w hSw; go_simp⟩) (by assumption) ?_
        simp only [Act.put]
        refine wpAnyH_ready (rs := [12]) (by kernel_rfl) (by simp) ?_
        refine AllReadyH.cons rfl (fun K hK => ?_) AllReadyH.nil
        rw [if_pos (by rfl)]
        refine wp_store_row 36 _ _ rfl q #[.slice d1 ns.length e1, .slice d2 is.length e2, .slice d3 ds.length e3] rfl rfl 36 #[.slice none 0 0, .slice none 0 0, .slice none 0 0] (blk_bel hq B) Tryz.sizeCode8 rfl (by simp [Value.oneCell']) ?_
        have hoth := fun j (hj : j ≠ q) => setRow_other z5 q j #[.slice d1 ns.length e1, .slice d2 is.length e2, .slice d3 ds.length e3] hj
        have B2 := below_setRow (B.mono (Nat.le_of_lt (blk_lt hq))) (g := q) (Nat.le_refl _) #[.slice d1 ns.length e1, .slice d2 is.length e2, .slice d3 ds.length e3]
        have XX := setRow_heap _ _ _ #[.slice d1 ns.length e1, .slice d2 is.length e2, .slice d3 ds.length e3] _ _ (blk_bel hq B)
        refine hK.out _ _ ⟨(hoth b hbq).trans (blk_bel hx B), trivial⟩ (fun hHeld => ?_)
        clear hK
        refine wpAnyH_done (by kernel_rfl) ?_ _
        exact NoPanic.normal (hQ _ _ _ _ _ _ _ _ _ _ _ _ _ _ _ _ XX (own_other O1 (fun e => by have := own_ge9 O1 e; have := blk_lt hq; omega) hoth) (own_other O2 (fun e => by have := own_ge9 O2 e; have := blk_lt hq; omega) hoth) (own_other O3 (fun e => by have := own_ge9 O3 e; have := blk_lt hq; omega) hoth) B2)
      · go_simp
        go_wp2_with fail
        have hb := alloc_bel z2 (Obj.cells #[] 101)
        have X7 : (z2.alloc (Obj.cells #[] 101)).heap[z2.heap.size]? = some (Obj.cells #[] 101) := heap_alloc_new _ _
        have hX7 : w.heap.size ≤ z2.heap.size := B.size
        generalize z2.alloc (Obj.cells #[] 101) = z7 at hb X7 ⊢
        obtain ⟨e7x, he7⟩ : ∃ q0, q0 = z2.heap.size := ⟨_, rfl⟩
        rw [← he7] at X7 hX7 ⊢
        clear he7
        replace O1 := own_below O1 hb
        replace X3 := blk_bel X3 hb
        replace B := B.trans (hb.mono B.size)
        clear hb
        refine hK.out _ _ (hS _ B) (fun hHeld => ?_)
        clear hK
        refine wpAnyH_ready (rs := [6]) (by kernel_rfl) (by simp) ?_
        refine AllReadyH.cons rfl (fun K hK => ?_) AllReadyH.nil
        have SS := R2.below B
        refine step_append_emptyN _ rfl _ _ 33 rfl 99 ii _ 4 40 Tryz.underlying33 hi hi0 hi1 hi2 rfl (e3x) rfl X3 a2 is.length c2 (incs is) rfl (incs_length is) SS.nilcap SS.cells (incs_one is) (by unfold maxLen; omega) (by omega) w.heap.size hX3 ?_
        intro y2 z8 O2 hb _
        obtain ⟨d2, e2, rfl⟩ := own_form O2
        clear SS
        replace O1 := own_below O1 hb
        replace X3 := blk_bel X3 hb
        replace X7 := blk_bel X7 hb
        replace B := B.trans (hb.mono B.size)
        clear hb
        refine hK.out _ _ (hS _ B) (fun hHeld => ?_)
        clear hK
        simp only [Act.put, List.setIfInBounds_toArray]
        refine wpAnyH_ready (rs := [10]) (by kernel_rfl) (by simp) ?_
        refine AllReadyH.cons rfl (fun K hK => ?_) AllReadyH.nil
        have SS := R3.below B
        refine step_append_emptyN _ rfl _ _ 34 rfl 101 ij _ 3 32 Tryz.underlying34 hj hj0 hj1 hj2 rfl (e7x) rfl X7 a3 ds.length c3 (dfcs ds) rfl (dfcs_length ds) SS.nilcap SS.cells (dfcs_one ds) (by unfold maxLen; omega) (by omega) w.heap.size hX7 ?_
        intro y3 z9 O3 hb _
        obtain ⟨d3, e3, rfl⟩ := own_form O3
        clear SS
        replace O1 := own_below O1 hb
        replace O2 := own_below O2 hb
        replace X3 := blk_bel X3 hb
        replace X7 := blk_bel X7 hb
        replace B := B.trans (hb.mono B.size)
        clear hb
        refine hK.out _ _ (hS _ B) (fun hHeld => ?_)
        clear hK
        simp only [Act.put]
        refine wpAnyH_take (i := 11) (oi := ⟨some 14, .build 36 #[(0, .tmp 5), (1, .tmp 9), (2, .tmp 13)], 36, "l13_world.go:82", #[⟨2, .data⟩, ⟨6, .data⟩, ⟨10, .data⟩], none⟩) (v := .agg #[.slice d1 ns.length e1, .slice d2 is.length e2, .slice d3 ds.length e3]) rfl (by kernel_rfl) (by kernel_rfl) (by kernel_rfl) (fun _ _ _ h => h) (Or.inl ⟨by rfl, by intro w hSw; go_simp⟩) (by assumption) ?_
        simp only [Act.put]
        refine wpAnyH_ready (rs := [12]) (by kernel_rfl) (by simp) ?_
        refine AllReadyH.cons rfl (fun K hK => ?_) AllReadyH.nil
        rw [if_pos (by rfl)]
        refine wp_store_row 36 _ _ rfl q #[.slice d1 ns.length e1, .slice d2 is.length e2, .slice d3 ds.length e3] rfl rfl 36 #[.slice none 0 0, .slice none 0 0, .slice none 0 0] (blk_bel hq B) Tryz.sizeCode8 rfl (by simp [Value.oneCell']) ?_
        have hoth := fun j (hj : j ≠ q) => setRow_other z9 q j #[.slice d1 ns.length e1, .slice d2 is.length e2, .slice d3 ds.length e3] hj
        have B2 := below_setRow (B.mono (Nat.le_of_lt (blk_lt hq))) (g := q) (Nat.le_refl _) #[.slice d1 ns.length e1, .slice d2 is.length e2, .slice d3 ds.length e3]
        have XX := setRow_heap _ _ _ #[.slice d1 ns.length e1, .slice d2 is.length e2, .slice d3 ds.length e3] _ _ (blk_bel hq B)
        refine hK.out _ _ ⟨(hoth b hbq).trans (blk_bel hx B), trivial⟩ (fun hHeld => ?_)
        clear hK
        refine wpAnyH_done (by kernel_rfl) ?_ _
        exact NoPanic.normal (hQ _ _ _ _ _ _ _ _ _ _ _ _ _ _ _ _ XX (own_other O1 (fun e => by have := own_ge9 O1 e; have := blk_lt hq; omega) hoth) (own_other O2 (fun e => by have := own_ge9 O2 e; have := blk_lt hq; omega) hoth) (own_other O3 (fun e => by have := own_ge9 O3 e; have := blk_lt hq; omega) hoth) B2)
    · go_simp
      go_wp2_with fail
      have hb := alloc_bel z1 (Obj.cells #[] 101)
      have X7 : (z1.alloc (Obj.cells #[] 101)).heap[z1.heap.size]? = some (Obj.cells #[] 101) := heap_alloc_new _ _
      have hX7 : w.heap.size ≤ z1.heap.size := B.size
      generalize z1.alloc (Obj.cells #[] 101) = z11 at hb X7 ⊢
      obtain ⟨e7x, he7⟩ : ∃ q0, q0 = z1.heap.size := ⟨_, rfl⟩
      rw [← he7] at X7 hX7 ⊢
      clear he7
      replace O1 := own_below O1 hb
      replace B := B.trans (hb.mono B.size)
      clear hb
      refine hK.out _ _ (hS _ B) (fun hHeld => ?_)
      clear hK
      refine wpAnyH_ready (rs := [3]) (by kernel_rfl) (by simp) ?_
      refine AllReadyH.cons rfl (fun K hK => ?_) AllReadyH.nil
      go_simp
      go_wp2_with fail
      have hb := alloc_bel z11 (Obj.cells #[] 99)
      have X3 : (z11.alloc (Obj.cells #[] 99)).heap[z11.heap.size]? = some (Obj.cells #[] 99) := heap_alloc_new _ _
      have hX3 : w.heap.size ≤ z11.heap.size := B.size
      generalize z11.alloc (Obj.cells #[] 99) = z12 at hb X3 ⊢
      obtain ⟨e3x, he3⟩ : ∃ q0, q0 = z11.heap.size := ⟨_, rfl⟩
      rw [← he3] at X3 hX3 ⊢
      clear he3
      replace O1 := own_below O1 hb
      replace X7 := blk_bel X7 hb
      replace B := B.trans (hb.mono B.size)
      clear hb
      refine hK.out _ _ (hS _ B) (fun hHeld => ?_)
      clear hK
      refine wpAnyH_ready (rs := [6]) (by kernel_rfl) (by simp) ?_
      refine AllReadyH.cons rfl (fun K hK => ?_) AllReadyH.nil
      have SS := R2.below B
      refine step_append_emptyN _ rfl _ _ 33 rfl 99 ii _ 4 40 Tryz.underlying33 hi hi0 hi1 hi2 rfl (e3x) rfl X3 a2 is.length c2 (incs is) rfl (incs_length is) SS.nilcap SS.cells (incs_one is) (by unfold maxLen; omega) (by omega) w.heap.size hX3 ?_
      intro y2 z13 O2 hb _
      obtain ⟨d2, e2, rfl⟩ := own_form O2
      clear SS
      replace O1 := own_below O1 hb
      replace X3 := blk_bel X3 hb
      replace X7 := blk_bel X7 hb
      replace B := B.trans (hb.mono B.size)
      clear hb
      refine hK.out _ _ (hS _ B) (fun hHeld => ?_)
      clear hK
      simp only [Act.put, List.setIfInBounds_toArray]
      refine wpAnyH_ready (rs := [10]) (by kernel_rfl) (by simp) ?_
      refine AllReadyH.cons rfl (fun K hK => ?_) AllReadyH.nil
      have SS := R3.below B
      refine step_append_emptyN _ rfl _ _ 34 rfl 101 ij _ 3 32 Tryz.underlying34 hj hj0 hj1 hj2 rfl (e7x) rfl X7 a3 ds.length c3 (dfcs ds) rfl (dfcs_length ds) SS.nilcap SS.cells (dfcs_one ds) (by unfold maxLen; omega) (by omega) w.heap.size hX7 ?_
      intro y3 z14 O3 hb _
      obtain ⟨d3, e3, rfl⟩ := own_form O3
      clear SS
      replace O1 := own_below O1 hb
      replace O2 := own_below O2 hb
      replace X3 := blk_bel X3 hb
      replace X7 := blk_bel X7 hb
      replace B := B.trans (hb.mono B.size)
      clear hb
      refine hK.out _ _ (hS _ B) (fun hHeld => ?_)
      clear hK
      simp only [Act.put]
      refine wpAnyH_take (i := 11) (oi := ⟨some 14, .build 36 #[(0, .tmp 5), (1, .tmp 9), (2, .tmp 13)], 36, "l13_world.go:82", #[⟨2, .data⟩, ⟨6, .data⟩, ⟨10, .data⟩], none⟩) (v := .agg #[.slice d1 ns.length e1, .slice d2 is.length e2, .slice d3 ds.length e3]) rfl (by kernel_rfl) (by kernel_rfl) (by kernel_rfl) (fun _ _ _ h => h) (Or.inl ⟨by rfl, by intro w hSw; go_simp⟩) (by assumption) ?_
      simp only [Act.put]
      refine wpAnyH_ready (rs := [12]) (by kernel_rfl) (by simp) ?_
      refine AllReadyH.cons rfl (fun K hK => ?_) AllReadyH.nil
      rw [if_pos (by rfl)]
      refine wp_store_row 36 _ _ rfl q #[.slice d1 ns.length e1, .slice d2 is.length e2, .slice d3 ds.length e3] rfl rfl 36 #[.slice none 0 0, .slice none 0 0, .slice none 0 0] (blk_bel hq B) Tryz.sizeCode8 rfl (by simp [Value.oneCell']) ?_
      have hoth := fun j (hj : j ≠ q) => setRow_other z14 q j #[.slice d1 ns.length e1, .slice d2 is.length e2, .slice d3 ds.length e3] hj
      have B2 := below_setRow (B.mono (Nat.le_of_lt (blk_lt hq))) (g := q) (Nat.le_refl _) #[.slice d1 ns.length e1, .slice d2 is.length e2, .slice d3 ds.length e3]
      have XX := setRow_heap _ _ _ #[.slice d1 ns.length e1, .slice d2 is.length e2, .slice d3 ds.length e3] _ _ (blk_bel hq B)
      refine hK.out _ _ ⟨(hoth b hbq).trans (blk_bel hx B), trivial⟩ (fun hHeld => ?_)
      clear hK
      refine wpAnyH_done (by kernel_rfl) ?_ _
      exact NoPanic.normal (hQ _ _ _ _ _ _ _ _ _ _ _ _ _ _ _ _ XX (own_other O1 (fun e => by have := own_ge9 O1 e; have := blk_lt hq; omega) hoth) (own_other O2 (fun e => by have := own_ge9 O2 e; have := blk_lt hq; omega) hoth) (own_other O3 (fun e => by have := own_ge9 O3 e; have := blk_lt hq; omega) hoth) B2)
  · go_simp
    go_wp2_with fail
    have hb : Below w.heap.size w (w.alloc (Obj.cells #[] 99)).drew := ((Below.refl _ _).alloc (Nat.le_refl _) _).drew
    have X3 : (w.alloc (Obj.cells #[] 99)).drew.heap[w.heap.size]? = some (Obj.cells #[] 99) := heap_alloc_new w _
    have hX3 : w.heap.size ≤ w.heap.size := Nat.le_refl _
    generalize (w.alloc (Obj.cells #[] 99)).drew = z16 at hb X3 ⊢
    replace B := hb
    clear hb
    refine hK.out _ _ (hS _ B) (fun hHeld => ?_)
    clear hK
    refine wpAnyH_ready (rs := [2, 7]) (by kernel_rfl) (by simp) ?_
    refine AllReadyH.cons rfl (fun K hK => ?_) (AllReadyH.cons rfl (fun K hK => ?_) AllReadyH.nil)
    · have hlo := B.size
      go_simp
      go_wp2_with (go_at_call 53; with_reducible refine (scopy_any _ ns _ (R1.below B) (by omega)).mono ?_; rintro e z17 ⟨y1, rfl, O1, hb⟩)
      obtain ⟨d1, e1, rfl⟩ := own_form O1
      replace O1 := own_mono O1 hlo
      clear hlo
      replace X3 := blk_bel X3 hb
      replace B := B.trans (hb.mono B.size)
      clear hb
      refine hK.out _ _ (hS _ B) (fun hHeld => ?_)
      clear hK
      refine wpAnyH_ready (rs := [6, 7]) (by kernel_rfl) (by simp) ?_
      refine AllReadyH.cons rfl (fun K hK => ?_) (AllReadyH.cons rfl (fun K hK => ?_) AllReadyH.nil)
      · have SS := R2.below B
        refine step_append_emptyN _ rfl _ _ 33 rfl 99 ii _ 4 40 Tryz.underlying33 hi hi0 hi1 hi2 rfl (w.heap.size) rfl X3 a2 is.length c2 (incs is) rfl (incs_length is) SS.nilcap SS.cells (incs_one is) (by unfold maxLen; omega) (by omega) w.heap.size hX3 ?_
        intro y2 z18 O2 hb _
        obtain ⟨d2, e2, rfl⟩ := own_form O2
        clear SS
        replace O1 := own_below O1 hb
        replace X3 := blk_bel X3 hb
        replace B := B.trans (hb.mono B.size)
        clear hb
        refine hK.out _ _ (hS _ B) (fun hHeld => ?_)
        clear hK
        simp only [Act.put, List.setIfInBounds_toArray]
        refine wpAnyH_ready (rs := [7]) (by kernel_rfl) (by simp) ?_
        refine AllReadyH.cons rfl (fun K hK => ?_) AllReadyH.nil
        go_simp
        go_wp2_with fail
        have hb := alloc_bel z18 (Obj.cells #[] 101)
        have X7 : (z18.alloc (Obj.cells #[] 101)).heap[z18.heap.size]? = some (Obj.cells #[] 101) := heap_alloc_new _ _
        have hX7 : w.heap.size ≤ z18.heap.size := B.size
        generalize z18.alloc (Obj.cells #[] 101) = z19 at hb X7 ⊢
        obtain ⟨e7x, he7⟩ : ∃ q0, q0 = z18.heap.size := ⟨_, rfl⟩
        rw [← he7] at X7 hX7 ⊢
        clear he7
        replace O1 := own_below O1 hb
        replace O2 := own_below O2 hb
        replace X3 := blk_bel X3 hb
        replace B := B.trans (hb.mono B.size)
        clear hb
        refine hK.out _ _ (hS _ B) (fun hHeld => ?_)
        clear hK
        refine wpAnyH_ready (rs := [10]) (by kernel_rfl) (by simp) ?_
        refine AllReadyH.cons rfl (fun K hK => ?_) AllReadyH.nil
        have SS := R3.below B
        refine step_append_emptyN _ rfl _ _ 34 rfl 101 ij _ 3 32 Tryz.underlying34 hj hj0 hj1 hj2 rfl (e7x) rfl X7 a3 ds.length c3 (dfcs ds) rfl (dfcs_length ds) SS.nilcap SS.cells (dfcs_one ds) (by unfold maxLen; omega) (by omega) w.heap.size hX7 ?_
        intro y3 z20 O3 hb _
        obtain ⟨d3, e3, rfl⟩ := own_form O3
        clear SS
        replace O1 := own_below O1 hb
        replace O2 := own_below O2 hb
        replace X3 := blk_bel X3 hb
        replace X7 := blk_bel X7 hb
        replace B := B.trans (hb.mono B.size)
        clear hb
        refine hK.out _ _ (hS _ B) (fun hHeld => ?_)
        clear hK
        simp only [Act.put, List.setIfInBounds_toArray]
        refine wpAnyH_take (i := 11) (oi := ⟨some 14, .build 36 #[(0, .tmp 5), (1, .tmp 9), (2, .tmp 13)], 36, "l13_world.go:82", #[⟨2, .data⟩, ⟨6, .data⟩, ⟨10, .data⟩], none⟩) (v := .agg #[.slice d1 ns.length e1, .slice d2 is.length e2, .slice d3 ds.length e3]) rfl (by kernel_rfl) (by kernel_rfl) (by kernel_rfl) (fun _ _ _ h => h) (Or.inl ⟨by rfl, by intro w hSw; go_simp⟩) (by assumption) ?_
        simp only [Act.put]
        refine wpAnyH_ready (rs := [12]) (by kernel_rfl) (by simp) ?_
        refine AllReadyH.cons rfl (fun K hK => ?_) AllReadyH.nil
        rw [if_pos (by rfl)]
        refine wp_store_row 36 _ _ rfl q #[.slice d1 ns.length e1, .slice d2 is.length e2, .slice d3 ds.length e3] rfl rfl 36 #[.slice none 0 0, .slice none 0 0, .slice none 0 0] (blk_bel hq B) Tryz.sizeCode8 rfl (by simp [Value.oneCell']) ?_
        have hoth := fun j (hj : j ≠ q) => setRow_other z20 q j #[.slice d1 ns.length e1, .slice d2 is.length e2, .slice d3 ds.length e3] hj
        have B2 := below_setRow (B.mono (Nat.le_of_lt (blk_lt hq))) (g := q) (Nat.le_refl _) #[.slice d1 ns.length e1, .slice d2 is.length e2, .slice d3 ds.length e3]
        have XX := setRow_heap _ _ _ #[.slice d1 ns.length e1, .slice d2 is.length e2, .slice d3 ds.length e3] _ _ (blk_bel hq B)
        refine hK.out _ _ ⟨(hoth b hbq).trans (blk_bel hx B), trivial⟩ (fun hHeld => ?_)
        clear hK
        refine wpAnyH_done (by kernel_rfl) ?_ _
        exact NoPanic.normal (hQ _ _ _ _ _ _ _ _ _ _ _ _ _ _ _ _ XX (own_other O1 (fun e => by have := own_ge9 O1 e; have := blk_lt hq; omega) hoth) (own_other O2 (fun e => by have := own_ge9 O2 e; have := blk_lt hq; omega) hoth) (own_other O3 (fun e => by have := own_ge9 O3 e; have := blk_lt hq; omega) hoth) B2)
      · go_simp
        go_wp2_with fail
        have hb := alloc_bel z17 (Obj.cells #[] 101)
        have X7 : (z17.alloc (Obj.cells #[] 101)).heap[z17.heap.size]? = some (Obj.cells #[] 101) := heap_alloc_new _ _
        have hX7 : w.heap.size ≤ z17.heap.size := B.size
        generalize z17.alloc (Obj.cells #[] 101) = z22 at hb X7 ⊢
        obtain ⟨e7x, he7⟩ : ∃ q0, q0 = z17.heap.size := ⟨_, rfl⟩
        rw [← he7] at X7 hX7 ⊢
        clear he7
        replace O1 := own_below O1 hb
        replace X3 := blk_bel X3 hb
        replace B := B.trans (hb.mono B.size)
        clear hb
        refine hK.out _ _ (hS _ B) (fun hHeld => ?_)
        clear hK
        refine wpAnyH_ready (rs := [6]) (by kernel_rfl) (by simp) ?_
        refine AllReadyH.cons rfl (fun K hK => ?_) AllReadyH.nil
        have SS := R2.below B
        refine step_append_emptyN _ rfl _ _ 33 rfl 99 ii _ 4 40 Tryz.underlying33 hi hi0 hi1 hi2 rfl (w.heap.size) rfl X3 a2 is.length c2 (incs is) rfl (incs_length is) SS.nilcap SS.cells (incs_one is) (by unfold maxLen; omega) (by omega) w.heap.size hX3 ?_
        intro y2 z23 O2 hb _
        obtain ⟨d2, e2, rfl⟩ := own_form O2
        clear SS
        replace O1 := own_below O1 hb
        replace X3 := blk_bel X3 hb
        replace X7 := blk_bel X7 hb
        replace B := B.trans (hb.mono B.size)
        clear hb
        refine hK.out _ _ (hS _ B) (fun hHeld => ?_)
        clear hK
        simp only [Act.put, List.setIfInBounds_toArray]
        refine wpAnyH_ready (rs := [10]) (by kernel_rfl) (by simp) ?_
        refine AllReadyH.cons rfl (fun K hK => ?_) AllReadyH.nil
        have SS := R3.below B
        refine step_append_emptyN _ rfl _ _ 34 rfl 101 ij _ 3 32 Tryz.underlying34 hj hj0 hj1 hj2 rfl (e7x) rfl X7 a3 ds.length c3 (dfcs ds) rfl (dfcs_length ds) SS.nilcap SS.cells (dfcs_one ds) (by unfold maxLen; omega) (by omega) w.heap.size hX7 ?_
        intro y3 z24 O3 hb _
        obtain ⟨d3, e3, rfl⟩ := own_form O3
        clear SS
        replace O1 := own_below O1 hb
        replace O2 := own_below O2 hb
        replace X3 := blk_bel X3 hb
        replace X7 := blk_bel X7 hb
        replace B := B.trans (hb.mono B.size)
        clear hb
        refine hK.out _ _ (hS _ B) (fun hHeld => ?_)
        clear hK
        simp only [Act.put]
        refine wpAnyH_take (i := 11) (oi := ⟨some 14, .build 36 #[(0, .tmp 5), (1, .tmp 9), (2, .tmp 13)], 36, "l13_world.go:82", #[⟨2, .data⟩, ⟨6, .data⟩, ⟨10, .data⟩], none⟩) (v := .agg #[.slice d1 ns.length e1, .slice d2 is.length e2, .slice d3 ds.length e3]) rfl (by kernel_rfl) (by kernel_rfl) (by kernel_rfl) (fun _ _ _ h => h) (Or.inl ⟨by rfl, by intro w hSw; go_simp⟩) (by assumption) ?_
        simp only [Act.put]
        refine wpAnyH_ready (rs := [12]) (by kernel_rfl) (by simp) ?_
        refine AllReadyH.cons rfl (fun K hK => ?_) AllReadyH.nil
        rw [if_pos (by rfl)]
        refine wp_store_row 36 _ _ rfl q #[.slice d1 ns.length e1, .slice d2 is.length e2, .slice d3 ds.length e3] rfl rfl 36 #[.slice none 0 0, .slice none 0 0, .slice none 0 0] (blk_bel hq B) Tryz.sizeCode8 rfl (by simp [Value.oneCell']) ?_
        have hoth := fun j (hj : j ≠ q) => setRow_other z24 q j #[.slice d1 ns.length e1, .slice d2 is.length e2, .slice d3 ds.length e3] hj
        have B2 := below_setRow (B.mono (Nat.le_of_lt (blk_lt hq))) (g := q) (Nat.le_refl _) #[.slice d1 ns.length e1, .slice d2 is.length e2, .slice d3 ds.length e3]
        have XX := setRow_heap _ _ _ #[.slice d1 ns.length e1, .slice d2 is.length e2, .slice d3 ds.length e3] _ _ (blk_bel hq B)
        refine hK.out _ _ ⟨(hoth b hbq).trans (blk_bel hx B), trivial⟩ (fun hHeld => ?_)
        clear hK
        refine wpAnyH_done (by kernel_rfl) ?_ _
        exact NoPanic.normal (hQ _ _ _ _ _ _ _ _ _ _ _ _ _ _ _ _ XX (own_other O1 (fun e => by have := own_ge9 O1 e; have := blk_lt hq; omega) hoth) (own_other O2 (fun e => by have := own_ge9 O2 e; have := blk_lt hq; omega) hoth) (own_other O3 (fun e => by have := own_ge9 O3 e; have := blk_lt hq; omega) hoth) B2)
    · go_simp
      go_wp2_with fail
      have hb := alloc_bel z16 (Obj.cells #[] 101)
      have X7 : (z16.alloc (Obj.cells #[] 101)).heap[z16.heap.size]? = some (Obj.cells #[] 101) := heap_alloc_new _ _
      have hX7 : w.heap.size ≤ z16.heap.size := B.size
      generalize z16.alloc (Obj.cells #[] 101) = z26 at hb X7 ⊢
      obtain ⟨e7x, he7⟩ : ∃ q0, q0 = z16.heap.size := ⟨_, rfl⟩
      rw [← he7] at X7 hX7 ⊢
      clear he7
      replace X3 := blk_bel X3 hb
      replace B := B.trans (hb.mono B.size)
      clear hb
      refine hK.out _ _ (hS _ B) (fun hHeld => ?_)
      clear hK
      refine wpAnyH_ready (rs := [2]) (by kernel_rfl) (by simp) ?_
      refine AllReadyH.cons rfl (fun K hK => ?_) AllReadyH.nil
      have hlo := B.size
      go_simp
      go_wp2_with (go_at_call 53; with_reducible refine (scopy_any _ ns _ (R1.below B) (by omega)).mono ?_; rintro e z27 ⟨y1, rfl, O1, hb⟩)
      obtain ⟨d1, e1, rfl⟩ := own_form O1
      replace O1 := own_mono O1 hlo
      clear hlo
      replace X3 := blk_bel X3 hb
      replace X7 := blk_bel X7 hb
      replace B := B.trans (hb.mono B.size)
      clear hb
      refine hK.out _ _ (hS _ B) (fun hHeld => ?_)
      clear hK
      refine wpAnyH_ready (rs := [6]) (by kernel_rfl) (by simp) ?_
      refine AllReadyH.cons rfl (fun K hK => ?_) AllReadyH.nil
      have SS := R2.below B
      refine step_append_emptyN _ rfl _ _ 33 rfl 99 ii _ 4 40 Tryz.underlying33 hi hi0 hi1 hi2 rfl (w.heap.size) rfl X3 a2 is.length c2 (incs is) rfl (incs_length is) SS.nilcap SS.cells (incs_one is) (by unfold maxLen; omega) (by omega) w.heap.size hX3 ?_
      intro y2 z28 O2 hb _
      obtain ⟨d2, e2, rfl⟩ := own_form O2
      clear SS
      replace O1 := own_below O1 hb
      replace X3 := blk_bel X3 hb
      replace X7 := blk_bel X7 hb
      replace B := B.trans (hb.mono B.size)
      clear hb
      refine hK.out _ _ (hS _ B) (fun hHeld => ?_)
      clear hK
      simp only [Act.put, List.setIfInBounds_toArray]
      refine wpAnyH_ready (rs := [10]) (by kernel_rfl) (by simp) ?_
      refine AllReadyH.cons rfl (fun K hK => ?_) AllReadyH.nil
      have SS := R3.below B
      refine step_append_emptyN _ rfl _ _ 34 rfl 101 ij _ 3 32 Tryz.underlying34 hj hj0 hj1 hj2 rfl (e7x) rfl X7 a3 ds.length c3 (dfcs ds) rfl (dfcs_length ds) SS.nilcap SS.cells (dfcs_one ds) (by unfold maxLen; omega) (by omega) w.heap.size hX7 ?_
      intro y3 z29 O3 hb _
      obtain ⟨d3, e3, rfl⟩ := own_form O3
      clear SS
      replace O1 := own_below O1 hb
      replace O2 := own_below O2 hb
      replace X3 := blk_bel X3 hb
      replace X7 := blk_bel X7 hb
      replace B := B.trans (hb.mono B.size)
      clear hb
      refine hK.out _ _ (hS _ B) (fun hHeld => ?_)
      clear hK
      simp only [Act.put]
      refine wpAnyH_take (i := 11) (oi := ⟨some 14, .build 36 #[(0, .tmp 5), (1, .tmp 9), (2, .tmp 13)], 36, "l13_world.go:82", #[⟨2, .data⟩, ⟨6, .data⟩, ⟨10, .data⟩], none⟩) (v := .agg #[.slice d1 ns.length e1, .slice d2 is.length e2, .slice d3 ds.length e3]) rfl (by kernel_rfl) (by kernel_rfl) (by kernel_rfl) (fun _ _ _ h => h) (Or.inl ⟨by rfl, by intro w hSw; go_simp⟩) (by assumption) ?_
      simp only [Act.put]
      refine wpAnyH_ready (rs := [12]) (by kernel_rfl) (by simp) ?_
      refine AllReadyH.cons rfl (fun K hK => ?_) AllReadyH.nil
      rw [if_pos (by rfl)]
      refine wp_store_row 36 _ _ rfl q #[.slice d1 ns.length e1, .slice d2 is.length e2, .slice d3 ds.length e3] rfl rfl 36 #[.slice none 0 0, .slice none 0 0, .slice none 0 0] (blk_bel hq B) Tryz.sizeCode8 rfl (by simp [Value.oneCell']) ?_
      have hoth := fun j (hj : j ≠ q) => setRow_other z29 q j #[.slice d1 ns.length e1, .slice d2 is.length e2, .slice d3 ds.length e3] hj
      have B2 := below_setRow (B.mono (Nat.le_of_lt (blk_lt hq))) (g := q) (Nat.le_refl _) #[.slice d1 ns.length e1, .slice d2 is.length e2, .slice d3 ds.length e3]
      have XX := setRow_heap _ _ _ #[.slice d1 ns.length e1, .slice d2 is.length e2, .slice d3 ds.length e3] _ _ (blk_bel hq B)
      refine hK.out _ _ ⟨(hoth b hbq).trans (blk_bel hx B), trivial⟩ (fun hHeld => ?_)
      clear hK
      refine wpAnyH_done (by kernel_rfl) ?_ _
      exact NoPanic.normal (hQ _ _ _ _ _ _ _ _ _ _ _ _ _ _ _ _ XX (own_other O1 (fun e => by have := own_ge9 O1 e; have := blk_lt hq; omega) hoth) (own_other O2 (fun e => by have := own_ge9 O2 e; have := blk_lt hq; omega) hoth) (own_other O3 (fun e => by have := own_ge9 O3 e; have := blk_lt hq; omega) hoth) B2)
  · go_simp
    go_wp2_with fail
    have hb : Below w.heap.size w (w.alloc (Obj.cells #[] 101)).drew := ((Below.refl _ _).alloc (Nat.le_refl _) _).drew
    have X7 : (w.alloc (Obj.cells #[] 101)).drew.heap[w.heap.size]? = some (Obj.cells #[] 101) := heap_alloc_new w _
    have hX7 : w.heap.size ≤ w.heap.size := Nat.le_refl _
    generalize (w.alloc (Obj.cells #[] 101)).drew = z31 at hb X7 ⊢
    replace B := hb
    clear hb
    refine hK.out _ _ (hS _ B) (fun hHeld => ?_)
    clear hK
    refine wpAnyH_ready (rs := [2, 3]) (by kernel_rfl) (by simp) ?_
    refine AllReadyH.cons rfl (fun K hK => ?_) (AllReadyH.cons rfl (fun K hK => ?_) AllReadyH.nil)
    · have hlo := B.size
      go_simp
      go_wp2_with (go_at_call 53; with_reducible refine (scopy_any _ ns _ (R1.below B) (by omega)).mono ?_; rintro e z32 ⟨y1, rfl, O1, hb⟩)
      obtain ⟨d1, e1, rfl⟩ := own_form O1
      replace O1 := own_mono O1 hlo
      clear hlo
      replace X7 := blk_bel X7 hb
      replace B := B.trans (hb.mono B.size)
      clear hb
      refine hK.out _ _ (hS _ B) (fun hHeld => ?_)
      clear hK
      refine wpAnyH_ready (rs := [3]) (by kernel_rfl) (by simp) ?_
      refine AllReadyH.cons rfl (fun K hK => ?_) AllReadyH.nil
      go_simp
      go_wp2_with fail
      have hb := alloc_bel z32 (Obj.cells #[] 99)
      have X3 : (z32.alloc (Obj.cells #[] 99)).heap[z32.heap.size]? = some (Obj.cells #[] 99) := heap_alloc_new _ _
      have hX3 : w.heap.size ≤ z32.heap.size := B.size
      generalize z32.alloc (Obj.cells #[] 99) = z33 at hb X3 ⊢
      obtain ⟨e3x, he3⟩ : ∃ q0, q0 = z32.heap.size := ⟨_, rfl⟩
      rw [← he3] at X3 hX3 ⊢
      clear he3
      replace O1 := own_below O1 hb
      replace X7 := blk_bel X7 hb
      replace B := B.trans (hb.mono B.size)
      clear hb
      refine hK.out _ _ (hS _ B) (fun hHeld => ?_)
      clear hK
      refine wpAnyH_ready (rs := [6]) (by kernel_rfl) (by simp) ?_
      refine AllReadyH.cons rfl (fun K hK => ?_) AllReadyH.nil
      have SS := R2.below B
      refine step_append_emptyN _ rfl _ _ 33 rfl 99 ii _ 4 40 Tryz.underlying33 hi hi0 hi1 hi2 rfl (e3x) rfl X3 a2 is.length c2 (incs is) rfl (incs_length is) SS.nilcap SS.cells (incs_one is) (by unfold maxLen; omega) (by omega) w.heap.size hX3 ?_
      intro y2 z34 O2 hb _
      obtain ⟨d2, e2, rfl⟩ := own_form O2
      clear SS
      replace O1 := own_below O1 hb
      replace X3 := blk_bel X3 hb
      replace X7 := blk_bel X7 hb
      replace B := B.trans (hb.mono B.size)
      clear hb
      refine hK.out _ _ (hS _ B) (fun hHeld => ?_)
      clear hK
      simp only [Act.put, List.setIfInBounds_toArray]
      refine wpAnyH_ready (rs := [10]) (by kernel_rfl) (by simp) ?_
      refine AllReadyH.cons rfl (fun K hK => ?_) AllReadyH.nil
      have SS := R3.below B
      refine step_append_emptyN _ rfl _ _ 34 rfl 101 ij _ 3 32 Tryz.underlying34 hj hj0 hj1 hj2 rfl (w.heap.size) rfl X7 a3 ds.length c3 (dfcs ds) rfl (dfcs_length ds) SS.nilcap SS.cells (dfcs_one ds) (by unfold maxLen; omega) (by omega) w.heap.size hX7 ?_
      intro y3 z35 O3 hb _
      obtain ⟨d3, e3, rfl⟩ := own_form O3
      clear SS
      replace O1 := own_below O1 hb
      replace O2 := own_below O2 hb
      replace X3 := blk_bel X3 hb
      replace X7 := blk_bel X7 hb
      replace B := B.trans (hb.mono B.size)
      clear hb
      refine hK.out _ _ (hS _ B) (fun hHeld => ?_)
      clear hK
      simp only [Act.put]
      refine wpAnyH_take (i := 11) (oi := ⟨some 14, .build 36 #[(0, .tmp 5), (1, .tmp 9), (2, .tmp 13)], 36, "l13_world.go:82", #[⟨2, .data⟩, ⟨6, .data⟩, ⟨10, .data⟩], none⟩) (v := .agg #[.slice d1 ns.length e1, .slice d2 is.length e2, .slice d3 ds.length e3]) rfl (by kernel_rfl) (by kernel_rfl) (by kernel_rfl) (fun _ _ _ h => h) (Or.inl ⟨by rfl, by intro w hSw; go_simp⟩) (by assumption) ?_
      simp only [Act.put]
      refine wpAnyH_ready (rs := [12]) (by kernel_rfl) (by simp) ?_
      refine AllReadyH.cons rfl (fun K hK => ?_) AllReadyH.nil
      rw [if_pos (by rfl)]
      refine wp_store_row 36 _ _ rfl q #[.slice d1 ns.length e1, .slice d2 is.length e2, .slice d3 ds.length e3] rfl rfl 36 #[.slice none 0 0, .slice none 0 0, .slice none 0 0] (blk_bel hq B) Tryz.sizeCode8 rfl (by simp [Value.oneCell']) ?_
      have hoth := fun j (hj : j ≠ q) => setRow_other z35 q j #[.slice d1 ns.length e1, .slice d2 is.length e2, .slice d3 ds.length e3] hj
      have B2 := below_setRow (B.mono (Nat.le_of_lt (blk_lt hq))) (g := q) (Nat.le_refl _) #[.slice d1 ns.length e1, .slice d2 is.length e2, .slice d3 ds.length e3]
      have XX := setRow_heap _ _ _ #[.slice d1 ns.length e1, .slice d2 is.length e2, .slice d3 ds.length e3] _ _ (blk_bel hq B)
      refine hK.out _ _ ⟨(hoth b hbq).trans (blk_bel hx B), trivial⟩ (fun hHeld => ?_)
      clear hK
      refine wpAnyH_done (by kernel_rfl) ?_ _
      exact NoPanic.normal (hQ _ _ _ _ _ _ _ _ _ _ _ _ _ _ _ _ XX (own_other O1 (fun e => by have := own_ge9 O1 e; have := blk_lt hq; omega) hoth) (own_other O2 (fun e => by have := own_ge9 O2 e; have := blk_lt hq; omega) hoth) (own_other O3 (fun e => by have := own_ge9 O3 e; have := blk_lt hq; omega) hoth) B2)
    · go_simp
      go_wp2_with fail
      have hb := alloc_bel z31 (Obj.cells #[] 99)
      have X3 : (z31.alloc (Obj.cells #[] 99)).heap[z31.heap.size]? = some (Obj.cells #[] 99) := heap_alloc_new _ _
      have hX3 : w.heap.size ≤ z31.heap.size := B.size
      generalize z31.alloc (Obj.cells #[] 99) = z37 at hb X3 ⊢
      obtain ⟨e3x, he3⟩ : ∃ q0, q0 = z31.heap.size := ⟨_, rfl⟩
      rw [← he3] at X3 hX3 ⊢
      clear he3
      replace X7 := blk_bel X7 hb
      replace B := B.trans (hb.mono B.size)
      clear hb
      refine hK.out _ _ (hS _ B) (fun hHeld => ?_)
      clear hK
      refine wpAnyH_ready (rs := [2]) (by kernel_rfl) (by simp) ?_
      refine AllReadyH.cons rfl (fun K hK => ?_) AllReadyH.nil
      have hlo := B.size
      go_simp
      go_wp2_with (go_at_call 53; with_reducible refine (scopy_any _ ns _ (R1.below B) (by omega)).mono ?_; rintro e z38 ⟨y1, rfl, O1, hb⟩)
      obtain ⟨d1, e1, rfl⟩ := own_form O1
      replace O1 := own_mono O1 hlo
      clear hlo
      replace X3 := blk_bel X3 hb
      replace X7 := blk_bel X7 hb
      replace B := B.trans (hb.mono B.size)
      clear hb
      refine hK.out _ _ (hS _ B) (fun hHeld => ?_)
      clear hK
      refine wpAnyH_ready (rs := [6]) (by kernel_rfl) (by simp) ?_
      refine AllReadyH.cons rfl (fun K hK => ?_) AllReadyH.nil
      have SS := R2.below B
      refine step_append_emptyN _ rfl _ _ 33 rfl 99 ii _ 4 40 Tryz.underlying33 hi hi0 hi1 hi2 rfl (e3x) rfl X3 a2 is.length c2 (incs is) rfl (incs_length is) SS.nilcap SS.cells (incs_one is) (by unfold maxLen; omega) (by omega) w.heap.size hX3 ?_
      intro y2 z39 O2 hb _
      obtain ⟨d2, e2, rfl⟩ := own_form O2
      clear SS
      replace O1 := own_below O1 hb
      replace X3 := blk_bel X3 hb
      replace X7 := blk_bel X7 hb
      replace B := B.trans (hb.mono B.size)
      clear hb
      refine hK.out _ _ (hS _ B) (fun hHeld => ?_)
      clear hK
      simp only [Act.put, List.setIfInBounds_toArray]
      refine wpAnyH_ready (rs := [10]) (by kernel_rfl) (by simp) ?_
      refine AllReadyH.cons rfl (fun K hK => ?_) AllReadyH.nil
      have SS := R3.below B
      refine step_append_emptyN _ rfl _ _ 34 rfl 101 ij _ 3 32 Tryz.underlying34 hj hj0 hj1 hj2 rfl (w.heap.size) rfl X7 a3 ds.length c3 (dfcs ds) rfl (dfcs_length ds) SS.nilcap SS.cells (dfcs_one ds) (by unfold maxLen; omega) (by omega) w.heap.size hX7 ?_
      intro y3 z40 O3 hb _
      obtain ⟨d3, e3, rfl⟩ := own_form O3
      clear SS
      replace O1 := own_below O1 hb
      replace O2 := own_below O2 hb
      replace X3 := blk_bel X3 hb
      replace X7 := blk_bel X7 hb
      replace B := B.trans (hb.mono B.size)
      clear hb
      refine hK.out _ _ (hS _ B) (fun hHeld => ?_)
      clear hK
      simp only [Act.put]
      refine wpAnyH_take (i := 11) (oi := ⟨some 14, .build 36 #[(0, .tmp 5), (1, .tmp 9), (2, .tmp 13)], 36, "l13_world.go:82", #[⟨2, .data⟩, ⟨6, .data⟩, ⟨10, .data⟩], none⟩) (v := .agg #[.slice d1 ns.length e1, .slice d2 is.length e2, .slice d3 ds.length e3]) rfl (by kernel_rfl) (by kernel_rfl) (by kernel_rfl) (fun _ _ _ h => h) (Or.inl ⟨by rfl, by intro w hSw; go_simp⟩) (by assumption) ?_
      simp only [Act.put]
      refine wpAnyH_ready (rs := [12]) (by kernel_rfl) (by simp) ?_
      refine AllReadyH.cons rfl (fun K hK => ?_) AllReadyH.nil
      rw [if_pos (by rfl)]
      refine wp_store_row 36 _ _ rfl q #[.slice d1 ns.length e1, .slice d2 is.length e2, .slice d3 ds.length e3] rfl rfl 36 #[.slice none 0 0, .slice none 0 0, .slice none 0 0] (blk_bel hq B) Tryz.sizeCode8 rfl (by simp [Value.oneCell']) ?_
      have hoth := fun j (hj : j ≠ q) => setRow_other z40 q j #[.slice d1 ns.length e1, .slice d2 is.length e2, .slice d3 ds.length e3] hj
      have B2 := below_setRow (B.mono (Nat.le_of_lt (blk_lt hq))) (g := q) (Nat.le_refl _) #[.slice d1 ns.length e1, .slice d2 is.length e2, .slice d3 ds.length e3]
      have XX := setRow_heap _ _ _ #[.slice d1 ns.length e1, .slice d2 is.length e2, .slice d3 ds.length e3] _ _ (blk_bel hq B)
      refine hK.out _ _ ⟨(hoth b hbq).trans (blk_bel hx B), trivial⟩ (fun hHeld => ?_)
      clear hK
      refine wpAnyH_done (by kernel_rfl) ?_ _
      exact NoPanic.normal (hQ _ _ _ _ _ _ _ _ _ _ _ _ _ _ _ _ XX (own_other O1 (fun e => by have := own_ge9 O1 e; have := blk_lt hq; omega) hoth) (own_other O2 (fun e => by have := own_ge9 O2 e; have := blk_lt hq; omega) hoth) (own_other O3 (fun e => by have := own_ge9 O3 e; have := blk_lt hq; omega) hoth) B2)
set_option maxRecDepth 100000 in
set_option maxHeartbeats 1600000 in
theorem s13code_any (v1 v2 v3 : Value) (ns : List Nd) (is : List In) (ds : List Df) (w : World) (R1 : NRow w v1 ns) (R2 : InRow w v2 is) (R3 : DfRow w v3 ds) (h1 : ns.length ≤ 1048576) (h2 : is.length ≤ 1048576) (h3 : ds.length ≤ 1048576) :
    Calls Tryz.prog 18 #[.agg #[v1, v2, v3]] w fun e w' => ∃ y1 y2 y3, e = .returned (.agg #[y1, y2, y3]) ∧ w'.ownsRow w.heap.size 130 5 y1 ns.length (ncs ns) ∧ w'.ownsRow w.heap.size 99 4 y2 is.length (incs is) ∧ w'.ownsRow w.heap.size 101 3 y3 ds.length (dfcs ds) ∧ Below w.heap.size w w' := by
  obtain ⟨a1, c1, rfl⟩ := R1.small8
  obtain ⟨a2, c2, rfl⟩ := R2.small
  obtain ⟨a3, c3, rfl⟩ := R3.small
  obtain ⟨hB, hx, hy⟩ := two_boxes w (Obj.cells #[.slice a1 ns.length c1, .slice a2 is.length c2, .slice a3 ds.length c3] 36) (Obj.cells #[.slice none 0 0, .slice none 0 0, .slice none 0 0] 36)
  go_enter Tryz.func18, Tryz.ntmps18
  go_wp2_with fail
  refine s13c_r1 w.heap.size (w.heap.size + 1) _ _ _ _ _ _ ns is ds _ _ hx hy (by omega) (R1.below hB) (R2.below hB) (R3.below hB) h1 h2 h3 ?_
  intro _ _ _ _ _ _ _ _ _ _ _ _ y1 y2 y3 W hX O1 O2 O3 hW
  have hs := hB.size
  have hBW := hB.trans (hW.mono (by omega))
  go_wp2
  exact bodyPost_ret (results_cell_row rfl _ _ (w.heap.size + 1) 36 _ (0, 0) _ rfl hX Tryz.underlying36 rfl Tryz.sizeCode8) rfl ⟨y1, y2, y3, rfl, own_mono O1 hs, own_mono O2 hs, own_mono O3 hs, hBW⟩
end Go.Proofs.YtbhfooafhbfniaaGreatDoor
