/-
  The region of spec.WorldNew that draws its order: a world that has its code, its one home and its links. No condition but bounds.
-/
import Derived.Test.YtbhfooafhbfniaaGreatDoorWnLM
import Derived.Test.YtbhfooafhbfniaaGreatDoorWnGM
namespace Go.Proofs.YtbhfooafhbfniaaGreatDoor
open Go.RowKit
theorem blk_ne9 {w : World} {i j : Nat} {c d : Array Value} {t u : TypeId} {f1 f2 : Nat × Nat} (h : w.heap[i]? = some (.cells c t f1)) (h' : w.heap[j]? = some (.cells d u f2)) (hne : t ≠ u) : i ≠ j := by
  rintro rfl
  rw [h] at h'
  injection h' with h'
  injection h' with _ h2 _
  exact hne h2
theorem own_blk {w : World} {B g k : Nat} {cs : Array Value} {e : TypeId} (hB : B ≤ g) (h : w.heap[g]? = some (.cells cs e (0, 0))) (hs : cs.size = k) : w.ownsRow B e k (.slice (some ⟨g, 0, none⟩) 1 1) 1 cs.toList :=
  ⟨by simp [hs], Or.inr ⟨g, 1, cs, rfl, hB, h, by simp, by simp [maxLen], by simp [hs], by simp [hs, List.take_of_length_le]⟩⟩
theorem step_make_full {P : Program} (w : World) {ops : Array Oper} {o : Oper} {a : Act} {K : Act → World → Prop} {Q : Exit → Act → World → Prop} {E : Prop}
    (hgd : o.guard = none) (l c : Operand) (t : TypeId) (hop : o.op = Op.makeSlice t l c)
    (base : Nat) (e : TypeId) (i : TypeInfo) (z : Value) (size : Nat) (h1 : P.underlying t = some (.slice e)) (h2 : P.info? e = some i) (h3 : i.zero = some z) (h4 : i.size = size)
    (kl kc : IntKind) (L C : Int) (n : Nat) (hl : a.eval l = .int kl L) (hc : a.eval c = .int kc C) (hL : L = (n : Int)) (hC : C = (n : Int)) (b2 : i.bytes * n ≤ 281474976710656) (b3 : n ≤ maxLen) (b4 : base ≤ w.heap.size)
    (hK : ∀ w', w'.ownsRow base e size (.slice (some ⟨w.heap.size, 0, none⟩) n n) n (madeCells z.cells (n * size)).toList → w.grownBy w' none → K (a.put o.dst (.slice (some ⟨w.heap.size, 0, none⟩) n n)) w') :
    if Region.wanted o (yielded ops a.tmps) = true then Oper.wp P o a w K Q else E := by
  have hw : Region.wanted o (yielded ops a.tmps) = true := by simp [Region.wanted, hgd]
  rw [if_pos hw]
  obtain ⟨w', hrun, r1, r2⟩ := run_make_full (P := P) w base t e i z size h1 h2 h3 h4 kl kc n b2 b3 b4
  subst hL
  subst hC
  unfold Oper.wp execOp
  simp only [hop, hl, hc, Sem.run_bind, Result.andThen_ok, hrun]
  exact hK w' r1 r2
set_option maxRecDepth 100000 in
set_option maxHeartbeats 6400000 in
theorem swn_r5 {t0 t3 t4 t5 t7 t9 t10 t11 t12 t13 t14 t15 t16 t17 t18 t19 t20 t21 t22 t23 t24 t25 t26 t27 t28 t29 t30 t31 t32 t33 t34 t35 t36 t37 t38 t39 t40 t41 : Value} {fs : List Deferred} (b q : Nat) (p : Int) (n : Nat) (p0 p1 p2 p3 p4 p5 p6 p7 p8 p9 p10 : Value) (a1 a2 a3 : Option Addr) (c1 c2 c3 : Nat) (ns : List Nd) (is : List In) (ds : List Df) (w : World) (Q : Exit → Act → World → Prop)
    (hx : w.heap[b]? = some (.cells #[.slice a1 ns.length c1, .slice a2 is.length c2, .slice a3 ds.length c3] 36 (0, 0))) (hq : w.heap[q]? = some (.cells #[p0, p1, p2, p3, p4, p5, p6, p7, p8, p9, p10] 59 (0, 0))) (hn : n ≤ 1048576) (R1 : NRow w (.slice a1 ns.length c1) ns) (R2 : InRow w (.slice a2 is.length c2) is) (R3 : DfRow w (.slice a3 ds.length c3) ds) (h1 : ns.length ≤ 1048576) (h2 : is.length ≤ 1048576) (h3 : ds.length ≤ 1048576)
    (hQ : ∀ u26 u27 u28 u29 u30 u31 u32 u33 u34 (y1 y2 y3 vh vl : Value) (g : Nat) (W : World), w.heap.size ≤ g → W.heap[g]? = some (.cells #[y1, y2, y3, .int .i64 p, vh, vl, .slice none 0 0, .slice none 0 0, .int .i64 2, .slice none 0 0, .slice none 0 0] 43 (0, 0)) → W.ownsRow w.heap.size 130 5 y1 ns.length (ncs ns) → W.ownsRow w.heap.size 99 4 y2 is.length (incs is) → W.ownsRow w.heap.size 101 3 y3 ds.length (dfcs ds) → W.ownsRow w.heap.size 65 12 vh 1 (#[.int .i64 0, p0, p1, p2, p3, p4, p5, p6, p7, p8, p9, p10] : Array Value).toList → W.ownsRow w.heap.size 106 5 vl n (madeCells (Value.agg #[.int .i64 0, .int .i64 0, .slice none 0 0, .int .i64 0, .slice none 0 0]).cells (n * 5)).toList → Below w.heap.size w W → Q .normal ⟨#[t0, .int .i64 p, .pointer (some ⟨b, 0, none⟩), t3, t4, t5, .pointer (some ⟨q, 0, none⟩), t7, .int .i64 (n : Int), .pointer (some ⟨g, 0, none⟩), t10, t11, t12, t13, t14, t15, t16, t17, t18, t19, t20, t21, t22, t23, t24, t25, u26, u27, u28, u29, u30, u31, u32, u33, u34, t35, t36, t37, t38, t39, t40, t41], fs⟩ W) :
    (Code.region 5 (List.toArray (⟨some 26, .load 36 (.tmp 2), 36, "l13_world.go:75", #[], none⟩ :: ⟨some 27, .call { callee := .value (.func 18), args := #[.tmp 26], argTypes := #[36] }, 36, "l13_world.go:75", #[⟨0, .data⟩], none⟩ :: ⟨some 28, .move (.tmp 1), 3, "l13_world.go:75", #[], none⟩ :: ⟨some 29, .load 59 (.tmp 6), 59, "l13_world.go:75", #[], none⟩ :: ⟨some 30, .build 65 #[(0, .const (.int IntKind.i64 0)), (1, .tmp 29)], 65, "l13_world.go:75", #[⟨3, .data⟩], none⟩ :: ⟨some 31, .buildSlice 37 1 #[(0, .tmp 30)], 37, "l13_world.go:75", #[⟨4, .data⟩], none⟩ :: ⟨some 32, .move (.tmp 8), 3, "l13_world.go:75", #[], none⟩ :: ⟨some 33, .makeSlice 38 (.tmp 32) (.tmp 32), 38, "l13_world.go:75", #[⟨6, .data⟩, ⟨6, .data⟩], none⟩ :: ⟨some 34, .build 43 #[(0, .tmp 27), (1, .tmp 28), (2, .tmp 31), (3, .tmp 33), (6, .const (.int IntKind.i64 2))], 43, "l13_world.go:75", #[⟨1, .data⟩, ⟨2, .data⟩, ⟨5, .data⟩, ⟨7, .data⟩], none⟩ :: ⟨some 9, .alloc 43, 0, "l13_world.go:75", #[], none⟩ :: ⟨none, .store 43 (.tmp 9) (.tmp 34), 0, "l13_world.go:75", #[⟨9, .data⟩, ⟨8, .data⟩, ⟨1, .chain⟩, ⟨0, .phase⟩, ⟨1, .phase⟩, ⟨2, .phase⟩, ⟨3, .phase⟩, ⟨4, .phase⟩, ⟨5, .phase⟩, ⟨6, .phase⟩, ⟨7, .phase⟩, ⟨8, .phase⟩, ⟨9, .phase⟩], none⟩ :: [])) true).wp Tryz.prog Q ⟨#[t0, .int .i64 p, .pointer (some ⟨b, 0, none⟩), t3, t4, t5, .pointer (some ⟨q, 0, none⟩), t7, .int .i64 (n : Int), t9, t10, t11, t12, t13, t14, t15, t16, t17, t18, t19, t20, t21, t22, t23, t24, t25, t26, t27, t28, t29, t30, t31, t32, t33, t34, t35, t36, t37, t38, t39, t40, t41], fs⟩ w := by
  have hS : ∀ w', Below w.heap.size w w' → (w'.heap[b]? = some (.cells #[.slice a1 ns.length c1, .slice a2 is.length c2, .slice a3 ds.length c3] 36 (0, 0)) ∧ w'.heap[q]? = some (.cells #[p0, p1, p2, p3, p4, p5, p6, p7, p8, p9, p10] 59 (0, 0))) := fun w' hb => ⟨blk_bel hx hb, blk_bel hq hb⟩
  obtain ⟨il, hil, hzl0, hzl1, hzl2⟩ := info_parts Tryz.infoLk8
  have B : Below w.heap.size w w.drew := drew_bel w
  refine wp_region_noPanic ?_
  refine wp_region_held_drew (S := fun w' => w'.heap[b]? = some (.cells #[.slice a1 ns.length c1, .slice a2 is.length c2, .slice a3 ds.length c3] 36 (0, 0)) ∧ w'.heap[q]? = some (.cells #[p0, p1, p2, p3, p4, p5, p6, p7, p8, p9, p10] 59 (0, 0))) (by kernel_rfl) (hS _ B) (fun hHeld => ?_)
  refine wpAnyH_take (i := 0) (oi := ⟨some 26, .load 36 (.tmp 2), 36, "l13_world.go:75", #[], none⟩) (v := .agg #[.slice a1 ns.length c1, .slice a2 is.length c2, .slice a3 ds.length c3]) rfl (by kernel_rfl) (by kernel_rfl) (by kernel_rfl) (fun _ _ _ h => h) (yields_row (by rfl) 36 _ rfl b rfl #[.slice a1 ns.length c1, .slice a2 is.length c2, .slice a3 ds.length c3] 36 _ (fun _ h => h.1) Tryz.underlying36 rfl Tryz.sizeCode8) (by assumption) ?_
  simp only [Act.put, List.setIfInBounds_toArray, List.set_cons_zero, List.set_cons_succ]
  refine wpAnyH_take (i := 2) (oi := ⟨some 28, .move (.tmp 1), 3, "l13_world.go:75", #[], none⟩) (v := .int .i64 p) rfl (by kernel_rfl) (by kernel_rfl) (by kernel_rfl) (fun _ _ _ h => h) (Or.inl ⟨by rfl, by intro w hSw; go_simp⟩) (by assumption) ?_
  simp only [Act.put, List.setIfInBounds_toArray, List.set_cons_zero, List.set_cons_succ]
  refine wpAnyH_take (i := 3) (oi := ⟨some 29, .load 59 (.tmp 6), 59, "l13_world.go:75", #[], none⟩) (v := .agg #[p0, p1, p2, p3, p4, p5, p6, p7, p8, p9, p10]) rfl (by kernel_rfl) (by kernel_rfl) (by kernel_rfl) (fun _ _ _ h => h) (yields_row (by rfl) 59 _ rfl q rfl #[p0, p1, p2, p3, p4, p5, p6, p7, p8, p9, p10] 59 _ (fun _ h => h.2) Tryz.underlying59 rfl Tryz.sizeProc) (by assumption) ?_
  simp only [Act.put, List.setIfInBounds_toArray, List.set_cons_zero, List.set_cons_succ]
  refine wpAnyH_take (i := 4) (oi := ⟨some 30, .build 65 #[(0, .const (.int IntKind.i64 0)), (1, .tmp 29)], 65, "l13_world.go:75", #[⟨3, .data⟩], none⟩) (v := .agg #[.int .i64 0, p0, p1, p2, p3, p4, p5, p6, p7, p8, p9, p10]) rfl (by kernel_rfl) (by kernel_rfl) (by kernel_rfl) (fun _ _ _ h => h) (Or.inl ⟨by rfl, by intro w hSw; go_simp⟩) (by assumption) ?_
  simp only [Act.put, List.setIfInBounds_toArray, List.set_cons_zero, List.set_cons_succ]
  refine wpAnyH_take (i := 6) (oi := ⟨some 32, .move (.tmp 8), 3, "l13_world.go:75", #[], none⟩) (v := .int .i64 (n : Int)) rfl (by kernel_rfl) (by kernel_rfl) (by kernel_rfl) (fun _ _ _ h => h) (Or.inl ⟨by rfl, by intro w hSw; go_simp⟩) (by assumption) ?_
  simp only [Act.put, List.setIfInBounds_toArray, List.set_cons_zero, List.set_cons_succ]
  refine wpAnyH_ready (rs := [1, 5, 7, 9]) (by kernel_rfl) (by simp) ?_
  refine AllReadyH.cons rfl (fun K hK => ?_) (AllReadyH.cons rfl (fun K hK => ?_) (AllReadyH.cons rfl (fun K hK => ?_) (AllReadyH.cons rfl (fun K hK => ?_) AllReadyH.nil)))
  · have hlo := B.size
    go_simp
    go_wp2_with (go_at_call 18; with_reducible refine (s13code_any _ _ _ ns is ds _ (R1.below B) (R2.below B) (R3.below B) h1 h2 h3).mono ?_; rintro e z1 ⟨y1, y2, y3, rfl, O1, O2, O3, hb⟩)
    obtain ⟨d1, e1, rfl⟩ := own_form O1
    obtain ⟨d2, e2, rfl⟩ := own_form O2
    obtain ⟨d3, e3, rfl⟩ := own_form O3
    replace O1 := own_mono O1 hlo
    replace O2 := own_mono O2 hlo
    replace O3 := own_mono O3 hlo
    clear hlo
    replace B := B.trans (hb.mono B.size)
    clear hb
    refine hK.out _ _ (hS _ B) (fun hHeld => ?_)
    clear hK
    refine wpAnyH_ready (rs := [5, 7, 9]) (by kernel_rfl) (by simp) ?_
    refine AllReadyH.cons rfl (fun K hK => ?_) (AllReadyH.cons rfl (fun K hK => ?_) (AllReadyH.cons rfl (fun K hK => ?_) AllReadyH.nil))
    · go_simp
      go_wp2_with fail
      have hb := alloc_bel z1 (Obj.cells #[.int .i64 0, p0, p1, p2, p3, p4, p5, p6, p7, p8, p9, p10] 65)
      have X5 : (z1.alloc (Obj.cells #[.int .i64 0, p0, p1, p2, p3, p4, p5, p6, p7, p8, p9, p10] 65)).heap[z1.heap.size]? = some (Obj.cells #[.int .i64 0, p0, p1, p2, p3, p4, p5, p6, p7, p8, p9, p10] 65) := heap_alloc_new _ _
      have hX5 : w.heap.size ≤ z1.heap.size := B.size
      generalize z1.alloc (Obj.cells #[.int .i64 0, p0, p1, p2, p3, p4, p5, p6, p7, p8, p9, p10] 65) = z2 at hb X5 ⊢
      obtain ⟨e5x, he5⟩ : ∃ q0, q0 = z1.heap.size := ⟨_, rfl⟩
      rw [← he5] at X5 hX5 ⊢
      clear he5
      replace O1 := own_below O1 hb
      replace O2 := own_below O2 hb
      replace O3 := own_below O3 hb
      replace B := B.trans (hb.mono B.size)
      clear hb
      refine hK.out _ _ (hS _ B) (fun hHeld => ?_)
      clear hK
      refine wpAnyH_ready (rs := [7, 9]) (by kernel_rfl) (by simp) ?_
      refine AllReadyH.cons rfl (fun K hK => ?_) (AllReadyH.cons rfl (fun K hK => ?_) AllReadyH.nil)
      · refine step_make_full _ rfl _ _ 38 rfl w.heap.size 106 il _ 5 Tryz.underlying38 hil hzl0 hzl1 _ _ _ _ n rfl rfl rfl rfl (by rw [hzl2]; omega) (by unfold maxLen; omega) B.size ?_
        intro z3 OL hg
        have hb : Below z2.heap.size z2 z3 := (Below.refl _ _).grown hg (by simp) (fun k hk => by cases hk)
        obtain ⟨e7x, he7⟩ : ∃ q0, q0 = z2.heap.size := ⟨_, rfl⟩
        rw [← he7] at OL ⊢
        clear he7 hg
        replace O1 := own_below O1 hb
        replace O2 := own_below O2 hb
        replace O3 := own_below O3 hb
        replace X5 := blk_bel X5 hb
        replace B := B.trans (hb.mono B.size)
        clear hb
        refine hK.out _ _ (hS _ B) (fun hHeld => ?_)
        clear hK
        simp only [Act.put, List.setIfInBounds_toArray]
        refine wpAnyH_take (i := 8) (oi := ⟨some 34, .build 43 #[(0, .tmp 27), (1, .tmp 28), (2, .tmp 31), (3, .tmp 33), (6, .const (.int IntKind.i64 2))], 43, "l13_world.go:75", #[⟨1, .data⟩, ⟨2, .data⟩, ⟨5, .data⟩, ⟨7, .data⟩], none⟩) (v := .agg #[.slice d1 ns.length e1, .slice d2 is.length e2, .slice d3 ds.length e3, .int .i64 p, .slice (some ⟨e5x, 0, none⟩) 1 1, .slice (some ⟨e7x, 0, none⟩) n n, .slice none 0 0, .slice none 0 0, .int .i64 2, .slice none 0 0, .slice none 0 0]) rfl (by kernel_rfl) (by kernel_rfl) (by kernel_rfl) (fun _ _ _ h => h) (Or.inl ⟨by rfl, by intro w hSw; go_simp⟩) (by assumption) ?_
        simp only [Act.put]
        refine wpAnyH_ready (rs := [9]) (by kernel_rfl) (by simp) ?_
        refine AllReadyH.cons rfl (fun K hK => ?_) AllReadyH.nil
        go_simp
        go_wp2_with fail
        have hb := alloc_bel z3 (Obj.cells #[.slice none 0 0, .slice none 0 0, .slice none 0 0, .int .i64 0, .slice none 0 0, .slice none 0 0, .slice none 0 0, .slice none 0 0, .int .i64 0, .slice none 0 0, .slice none 0 0] 43)
        have X9 : (z3.alloc (Obj.cells #[.slice none 0 0, .slice none 0 0, .slice none 0 0, .int .i64 0, .slice none 0 0, .slice none 0 0, .slice none 0 0, .slice none 0 0, .int .i64 0, .slice none 0 0, .slice none 0 0] 43)).heap[z3.heap.size]? = some (Obj.cells #[.slice none 0 0, .slice none 0 0, .slice none 0 0, .int .i64 0, .slice none 0 0, .slice none 0 0, .slice none 0 0, .slice none 0 0, .int .i64 0, .slice none 0 0, .slice none 0 0] 43) := heap_alloc_new _ _
        have hX9 : w.heap.size ≤ z3.heap.size := B.size
        generalize z3.alloc (Obj.cells #[.slice none 0 0, .slice none 0 0, .slice none 0 0, .int .i64 0, .slice none 0 0, .slice none 0 0, .slice none 0 0, .slice none 0 0, .int .i64 0, .slice none 0 0, .slice none 0 0] 43) = z4 at hb X9 ⊢
        obtain ⟨e9x, he9⟩ : ∃ q0, q0 = z3.heap.size := ⟨_, rfl⟩
        rw [← he9] at X9 hX9 ⊢
        clear he9
        replace O1 := own_below O1 hb
        replace O2 := own_below O2 hb
        replace O3 := own_below O3 hb
        replace OL := own_below OL hb
        replace X5 := blk_bel X5 hb
        replace B := B.trans (hb.mono B.size)
        clear hb
        refine hK.out _ _ (hS _ B) (fun hHeld => ?_)
        clear hK
        refine wpAnyH_ready (rs := [10]) (by kernel_rfl) (by simp) ?_
        refine AllReadyH.cons rfl (fun K hK => ?_) AllReadyH.nil
        rw [if_pos (by rfl)]
        refine wp_store_row 43 _ _ rfl (e9x) #[.slice d1 ns.length e1, .slice d2 is.length e2, .slice d3 ds.length e3, .int .i64 p, .slice (some ⟨e5x, 0, none⟩) 1 1, .slice (some ⟨e7x, 0, none⟩) n n, .slice none 0 0, .slice none 0 0, .int .i64 2, .slice none 0 0, .slice none 0 0] rfl rfl 43 #[.slice none 0 0, .slice none 0 0, .slice none 0 0, .int .i64 0, .slice none 0 0, .slice none 0 0, .slice none 0 0, .slice none 0 0, .int .i64 0, .slice none 0 0, .slice none 0 0] X9 Tryz.sizeWd rfl (by simp [Value.oneCell']) ?_
        have hoth := fun j (hj : j ≠ e9x) => setRow_other z4 (e9x) j #[.slice d1 ns.length e1, .slice d2 is.length e2, .slice d3 ds.length e3, .int .i64 p, .slice (some ⟨e5x, 0, none⟩) 1 1, .slice (some ⟨e7x, 0, none⟩) n n, .slice none 0 0, .slice none 0 0, .int .i64 2, .slice none 0 0, .slice none 0 0] hj
        have B2 := below_setRow B (g := e9x) hX9 #[.slice d1 ns.length e1, .slice d2 is.length e2, .slice d3 ds.length e3, .int .i64 p, .slice (some ⟨e5x, 0, none⟩) 1 1, .slice (some ⟨e7x, 0, none⟩) n n, .slice none 0 0, .slice none 0 0, .int .i64 2, .slice none 0 0, .slice none 0 0]
        have XX := setRow_heap _ _ _ #[.slice d1 ns.length e1, .slice d2 is.length e2, .slice d3 ds.length e3, .int .i64 p, .slice (some ⟨e5x, 0, none⟩) 1 1, .slice (some ⟨e7x, 0, none⟩) n n, .slice none 0 0, .slice none 0 0, .int .i64 2, .slice none 0 0, .slice none 0 0] _ _ X9
        have n5 : (e5x : Nat) ≠ e9x := blk_ne9 X5 X9 (by decide)
        have YH := own_blk (hX5) ((hoth _ n5).trans X5) rfl
        refine hK.out _ _ (hS _ B2) (fun hHeld => ?_)
        clear hK
        refine wpAnyH_done (by kernel_rfl) ?_ _
        exact NoPanic.normal (hQ _ _ _ _ _ _ _ _ _ _ _ _ _ _ (e9x) _ hX9 XX (own_other O1 (own_ne O1 X9 (by decide)) hoth) (own_other O2 (own_ne O2 X9 (by decide)) hoth) (own_other O3 (own_ne O3 X9 (by decide)) hoth) YH (own_other OL (own_ne OL X9 (by decide)) hoth) B2)
      · go_simp
        go_wp2_with fail
        have hb := alloc_bel z2 (Obj.cells #[.slice none 0 0, .slice none 0 0, .slice none 0 0, .int .i64 0, .slice none 0 0, .slice none 0 0, .slice none 0 0, .slice none 0 0, .int .i64 0, .slice none 0 0, .slice none 0 0] 43)
        have X9 : (z2.alloc (Obj.cells #[.slice none 0 0, .slice none 0 0, .slice none 0 0, .int .i64 0, .slice none 0 0, .slice none 0 0, .slice none 0 0, .slice none 0 0, .int .i64 0, .slice none 0 0, .slice none 0 0] 43)).heap[z2.heap.size]? = some (Obj.cells #[.slice none 0 0, .slice none 0 0, .slice none 0 0, .int .i64 0, .slice none 0 0, .slice none 0 0, .slice none 0 0, .slice none 0 0, .int .i64 0, .slice none 0 0, .slice none 0 0] 43) := heap_alloc_new _ _
        have hX9 : w.heap.size ≤ z2.heap.size := B.size
        generalize z2.alloc (Obj.cells #[.slice none 0 0, .slice none 0 0, .slice none 0 0, .int .i64 0, .slice none 0 0, .slice none 0 0, .slice none 0 0, .slice none 0 0, .int .i64 0, .slice none 0 0, .slice none 0 0] 43) = z6 at hb X9 ⊢
        obtain ⟨e9x, he9⟩ : ∃ q0, q0 = z2.heap.size := ⟨_, rfl⟩
        rw [← he9] at X9 hX9 ⊢
        clear he9
        replace O1 := own_below O1 hb
        replace O2 := own_below O2 hb
        replace O3 := own_below O3 hb
        replace X5 := blk_bel X5 hb
        replace B := B.trans (hb.mono B.size)
        clear hb
        refine hK.out _ _ (hS _ B) (fun hHeld => ?_)
        clear hK
        refine wpAnyH_ready (rs := [7]) (by kernel_rfl) (by simp) ?_
        refine AllReadyH.cons rfl (fun K hK => ?_) AllReadyH.nil
        refine step_make_full _ rfl _ _ 38 rfl w.heap.size 106 il _ 5 Tryz.underlying38 hil hzl0 hzl1 _ _ _ _ n rfl rfl rfl rfl (by rw [hzl2]; omega) (by unfold maxLen; omega) B.size ?_
        intro z7 OL hg
        have hb : Below z6.heap.size z6 z7 := (Below.refl _ _).grown hg (by simp) (fun k hk => by cases hk)
        obtain ⟨e7x, he7⟩ : ∃ q0, q0 = z6.heap.size := ⟨_, rfl⟩
        rw [← he7] at OL ⊢
        clear he7 hg
        replace O1 := own_below O1 hb
        replace O2 := own_below O2 hb
        replace O3 := own_below O3 hb
        replace X5 := blk_bel X5 hb
        replace X9 := blk_bel X9 hb
        replace B := B.trans (hb.mono B.size)
        clear hb
        refine hK.out _ _ (hS _ B) (fun hHeld => ?_)
        clear hK
        simp only [Act.put, List.setIfInBounds_toArray]
        refine wpAnyH_take (i := 8) (oi := ⟨some 34, .build 43 #[(0, .tmp 27), (1, .tmp 28), (2, .tmp 31), (3, .tmp 33), (6, .const (.int IntKind.i64 2))], 43, "l13_world.go:75", #[⟨1, .data⟩, ⟨2, .data⟩, ⟨5, .data⟩, ⟨7, .data⟩], none⟩) (v := .agg #[.slice d1 ns.length e1, .slice d2 is.length e2, .slice d3 ds.length e3, .int .i64 p, .slice (some ⟨e5x, 0, none⟩) 1 1, .slice (some ⟨e7x, 0, none⟩) n n, .slice none 0 0, .slice none 0 0, .int .i64 2, .slice none 0 0, .slice none 0 0]) rfl (by kernel_rfl) (by kernel_rfl) (by kernel_rfl) (fun _ _ _ h => h) (Or.inl ⟨by rfl, by intro w hSw; go_simp⟩) (by assumption) ?_
        simp only [Act.put]
        refine wpAnyH_ready (rs := [10]) (by kernel_rfl) (by simp) ?_
        refine AllReadyH.cons rfl (fun K hK => ?_) AllReadyH.nil
        rw [if_pos (by rfl)]
        refine wp_store_row 43 _ _ rfl (e9x) #[.slice d1 ns.length e1, .slice d2 is.length e2, .slice d3 ds.length e3, .int .i64 p, .slice (some ⟨e5x, 0, none⟩) 1 1, .slice (some ⟨e7x, 0, none⟩) n n, .slice none 0 0, .slice none 0 0, .int .i64 2, .slice none 0 0, .slice none 0 0] rfl rfl 43 #[.slice none 0 0, .slice none 0 0, .slice none 0 0, .int .i64 0, .slice none 0 0, .slice none 0 0, .slice none 0 0, .slice none 0 0, .int .i64 0, .slice none 0 0, .slice none 0 0] X9 Tryz.sizeWd rfl (by simp [Value.oneCell']) ?_
        have hoth := fun j (hj : j ≠ e9x) => setRow_other z7 (e9x) j #[.slice d1 ns.length e1, .slice d2 is.length e2, .slice d3 ds.length e3, .int .i64 p, .slice (some ⟨e5x, 0, none⟩) 1 1, .slice (some ⟨e7x, 0, none⟩) n n, .slice none 0 0, .slice none 0 0, .int .i64 2, .slice none 0 0, .slice none 0 0] hj
        have B2 := below_setRow B (g := e9x) hX9 #[.slice d1 ns.length e1, .slice d2 is.length e2, .slice d3 ds.length e3, .int .i64 p, .slice (some ⟨e5x, 0, none⟩) 1 1, .slice (some ⟨e7x, 0, none⟩) n n, .slice none 0 0, .slice none 0 0, .int .i64 2, .slice none 0 0, .slice none 0 0]
        have XX := setRow_heap _ _ _ #[.slice d1 ns.length e1, .slice d2 is.length e2, .slice d3 ds.length e3, .int .i64 p, .slice (some ⟨e5x, 0, none⟩) 1 1, .slice (some ⟨e7x, 0, none⟩) n n, .slice none 0 0, .slice none 0 0, .int .i64 2, .slice none 0 0, .slice none 0 0] _ _ X9
        have n5 : (e5x : Nat) ≠ e9x := blk_ne9 X5 X9 (by decide)
        have YH := own_blk (hX5) ((hoth _ n5).trans X5) rfl
        refine hK.out _ _ (hS _ B2) (fun hHeld => ?_)
        clear hK
        refine wpAnyH_done (by kernel_rfl) ?_ _
        exact NoPanic.normal (hQ _ _ _ _ _ _ _ _ _ _ _ _ _ _ (e9x) _ hX9 XX (own_other O1 (own_ne O1 X9 (by decide)) hoth) (own_other O2 (own_ne O2 X9 (by decide)) hoth) (own_other O3 (own_ne O3 X9 (by decide)) hoth) YH (own_other OL (own_ne OL X9 (by decide)) hoth) B2)
    · refine step_make_full _ rfl _ _ 38 rfl w.heap.size 106 il _ 5 Tryz.underlying38 hil hzl0 hzl1 _ _ _ _ n rfl rfl rfl rfl (by rw [hzl2]; omega) (by unfold maxLen; omega) B.size ?_
      intro z9 OL hg
      have hb : Below z1.heap.size z1 z9 := (Below.refl _ _).grown hg (by simp) (fun k hk => by cases hk)
      obtain ⟨e7x, he7⟩ : ∃ q0, q0 = z1.heap.size := ⟨_, rfl⟩
      rw [← he7] at OL ⊢
      clear he7 hg
      replace O1 := own_below O1 hb
      replace O2 := own_below O2 hb
      replace O3 := own_below O3 hb
      replace B := B.trans (hb.mono B.size)
      clear hb
      refine hK.out _ _ (hS _ B) (fun hHeld => ?_)
      clear hK
      simp only [Act.put, List.setIfInBounds_toArray]
      refine wpAnyH_ready (rs := [5, 9]) (by kernel_rfl) (by simp) ?_
      refine AllReadyH.cons rfl (fun K hK => ?_) (AllReadyH.cons rfl (fun K hK => ?_) AllReadyH.nil)
      · go_simp
        go_wp2_with fail
        have hb := alloc_bel z9 (Obj.cells #[.int .i64 0, p0, p1, p2, p3, p4, p5, p6, p7, p8, p9, p10] 65)
        have X5 : (z9.alloc (Obj.cells #[.int .i64 0, p0, p1, p2, p3, p4, p5, p6, p7, p8, p9, p10] 65)).heap[z9.heap.size]? = some (Obj.cells #[.int .i64 0, p0, p1, p2, p3, p4, p5, p6, p7, p8, p9, p10] 65) := heap_alloc_new _ _
        have hX5 : w.heap.size ≤ z9.heap.size := B.size
        generalize z9.alloc (Obj.cells #[.int .i64 0, p0, p1, p2, p3, p4, p5, p6, p7, p8, p9, p10] 65) = z10 at hb X5 ⊢
        obtain ⟨e5x, he5⟩ : ∃ q0, q0 = z9.heap.size := ⟨_, rfl⟩
        rw [← he5] at X5 hX5 ⊢
        clear he5
        replace O1 := own_below O1 hb
        replace O2 := own_below O2 hb
        replace O3 := own_below O3 hb
        replace OL := own_below OL hb
        replace B := B.trans (hb.mono B.size)
        clear hb
        refine hK.out _ _ (hS _ B) (fun hHeld => ?_)
        clear hK
        refine wpAnyH_take (i := 8) (oi := ⟨some 34, .build 43 #[(0, .tmp 27), (1, .tmp 28), (2, .tmp 31), (3, .tmp 33), (6, .const (.int IntKind.i64 2))], 43, "l13_world.go:75", #[⟨1, .data⟩, ⟨2, .data⟩, ⟨5, .data⟩, ⟨7, .data⟩], none⟩) (v := .agg #[.slice d1 ns.length e1, .slice d2 is.length e2, .slice d3 ds.length e3, .int .i64 p, .slice (some ⟨e5x, 0, none⟩) 1 1, .slice (some ⟨e7x, 0, none⟩) n n, .slice none 0 0, .slice none 0 0, .int .i64 2, .slice none 0 0, .slice none 0 0]) rfl (by kernel_rfl) (by kernel_rfl) (by kernel_rfl) (fun _ _ _ h => h) (Or.inl ⟨by rfl, by intro w hSw; go_simp⟩) (by assumption) ?_
        simp only [Act.put, List.setIfInBounds_toArray, List.set_cons_zero, List.set_cons_succ]
        refine wpAnyH_ready (rs := [9]) (by kernel_rfl) (by simp) ?_
        refine AllReadyH.cons rfl (fun K hK => ?_) AllReadyH.nil
        go_simp
        go_wp2_with fail
        have hb := alloc_bel z10 (Obj.cells #[.slice none 0 0, .slice none 0 0, .slice none 0 0, .int .i64 0, .slice none 0 0, .slice none 0 0, .slice none 0 0, .slice none 0 0, .int .i64 0, .slice none 0 0, .slice none 0 0] 43)
        have X9 : (z10.alloc (Obj.cells #[.slice none 0 0, .slice none 0 0, .slice none 0 0, .int .i64 0, .slice none 0 0, .slice none 0 0, .slice none 0 0, .slice none 0 0, .int .i64 0, .slice none 0 0, .slice none 0 0] 43)).heap[z10.heap.size]? = some (Obj.cells #[.slice none 0 0, .slice none 0 0, .slice none 0 0, .int .i64 0, .slice none 0 0, .slice none 0 0, .slice none 0 0, .slice none 0 0, .int .i64 0, .slice none 0 0, .slice none 0 0] 43) := heap_alloc_new _ _
        have hX9 : w.heap.size ≤ z10.heap.size := B.size
        generalize z10.alloc (Obj.cells #[.slice none 0 0, .slice none 0 0, .slice none 0 0, .int .i64 0, .slice none 0 0, .slice none 0 0, .slice none 0 0, .slice none 0 0, .int .i64 0, .slice none 0 0, .slice none 0 0] 43) = z11 at hb X9 ⊢
        obtain ⟨e9x, he9⟩ : ∃ q0, q0 = z10.heap.size := ⟨_, rfl⟩
        rw [← he9] at X9 hX9 ⊢
        clear he9
        replace O1 := own_below O1 hb
        replace O2 := own_below O2 hb
        replace O3 := own_below O3 hb
        replace OL := own_below OL hb
        replace X5 := blk_bel X5 hb
        replace B := B.trans (hb.mono B.size)
        clear hb
        refine hK.out _ _ (hS _ B) (fun hHeld => ?_)
        clear hK
        refine wpAnyH_ready (rs := [10]) (by kernel_rfl) (by simp) ?_
        refine AllReadyH.cons rfl (fun K hK => ?_) AllReadyH.nil
        rw [if_pos (by rfl)]
        refine wp_store_row 43 _ _ rfl (e9x) #[.slice d1 ns.length e1, .slice d2 is.length e2, .slice d3 ds.length e3, .int .i64 p, .slice (some ⟨e5x, 0, none⟩) 1 1, .slice (some ⟨e7x, 0, none⟩) n n, .slice none 0 0, .slice none 0 0, .int .i64 2, .slice none 0 0, .slice none 0 0] rfl rfl 43 #[.slice none 0 0, .slice none 0 0, .slice none 0 0, .int .i64 0, .slice none 0 0, .slice none 0 0, .slice none 0 0, .slice none 0 0, .int .i64 0, .slice none 0 0, .slice none 0 0] X9 Tryz.sizeWd rfl (by simp [Value.oneCell']) ?_
        have hoth := fun j (hj : j ≠ e9x) => setRow_other z11 (e9x) j #[.slice d1 ns.length e1, .slice d2 is.length e2, .slice d3 ds.length e3, .int .i64 p, .slice (some ⟨e5x, 0, none⟩) 1 1, .slice (some ⟨e7x, 0, none⟩) n n, .slice none 0 0, .slice none 0 0, .int .i64 2, .slice none 0 0, .slice none 0 0] hj
        have B2 := below_setRow B (g := e9x) hX9 #[.slice d1 ns.length e1, .slice d2 is.length e2, .slice d3 ds.length e3, .int .i64 p, .slice (some ⟨e5x, 0, none⟩) 1 1, .slice (some ⟨e7x, 0, none⟩) n n, .slice none 0 0, .slice none 0 0, .int .i64 2, .slice none 0 0, .slice none 0 0]
        have XX := setRow_heap _ _ _ #[.slice d1 ns.length e1, .slice d2 is.length e2, .slice d3 ds.length e3, .int .i64 p, .slice (some ⟨e5x, 0, none⟩) 1 1, .slice (some ⟨e7x, 0, none⟩) n n, .slice none 0 0, .slice none 0 0, .int .i64 2, .slice none 0 0, .slice none 0 0] _ _ X9
        have n5 : (e5x : Nat) ≠ e9x := blk_ne9 X5 X9 (by decide)
        have YH := own_blk (hX5) ((hoth _ n5).trans X5) rfl
        refine hK.out _ _ (hS _ B2) (fun hHeld => ?_)
        clear hK
        refine wpAnyH_done (by kernel_rfl) ?_ _
        exact NoPanic.normal (hQ _ _ _ _ _ _ _ _ _ _ _ _ _ _ (e9x) _ hX9 XX (own_other O1 (own_ne O1 X9 (by decide)) hoth) (own_other O2 (own_ne O2 X9 (by decide)) hoth) (own_other O3 (own_ne O3 X9 (by decide)) hoth) YH (own_other OL (own_ne OL X9 (by decide)) hoth) B2)
      · go_simp
        go_wp2_with fail
        have hb := alloc_bel z9 (Obj.cells #[.slice none 0 0, .slice none 0 0, .slice none 0 0, .int .i64 0, .slice none 0 0, .slice none 0 0, .slice none 0 0, .slice none 0 0, .int .i64 0, .slice none 0 0, .slice none 0 0] 43)
        have X9 : (z9.alloc (Obj.cells #[.slice none 0 0, .slice none 0 0, .slice none 0 0, .int .i64 0, .slice none 0 0, .slice none 0 0, .slice none 0 0, .slice none 0 0, .int .i64 0, .slice none 0 0, .slice none 0 0] 43)).heap[z9.heap.size]? = some (Obj.cells #[.slice none 0 0, .slice none 0 0, .slice none 0 0, .int .i64 0, .slice none 0 0, .slice none 0 0, .slice none 0 0, .slice none 0 0, .int .i64 0, .slice none 0 0, .slice none 0 0] 43) := heap_alloc_new _ _
        have hX9 : w.heap.size ≤ z9.heap.size := B.size
        generalize z9.alloc (Obj.cells #[.slice none 0 0, .slice none 0 0, .slice none 0 0, .int .i64 0, .slice none 0 0, .slice none 0 0, .slice none 0 0, .slice none 0 0, .int .i64 0, .slice none 0 0, .slice none 0 0] 43) = z13 at hb X9 ⊢
        obtain ⟨e9x, he9⟩ : ∃ q0, q0 = z9.heap.size := ⟨_, rfl⟩
        rw [← he9] at X9 hX9 ⊢
        clear he9
        replace O1 := own_below O1 hb
        replace O2 := own_below O2 hb
        replace O3 := own_below O3 hb
        replace OL := own_below OL hb
        replace B := B.trans (hb.mono B.size)
        clear hb
        refine hK.out _ _ (hS _ B) (fun hHeld => ?_)
        clear hK
        refine wpAnyH_ready (rs := [5]) (by kernel_rfl) (by simp) ?_
        refine AllReadyH.cons rfl (fun K hK => ?_) AllReadyH.nil
        go_simp
        go_wp2_with fail
        have hb := alloc_bel z13 (Obj.cells #[.int .i64 0, p0, p1, p2, p3, p4, p5, p6, p7, p8, p9, p10] 65)
        have X5 : (z13.alloc (Obj.cells #[.int .i64 0, p0, p1, p2, p3, p4, p5, p6, p7, p8, p9, p10] 65)).heap[z13.heap.size]? = some (Obj.cells #[.int .i64 0, p0, p1, p2, p3, p4, p5, p6, p7, p8, p9, p10] 65) := heap_alloc_new _ _
        have hX5 : w.heap.size ≤ z13.heap.size := B.size
        generalize z13.alloc (Obj.cells #[.int .i64 0, p0, p1, p2, p3, p4, p5, p6, p7, p8, p9, p10] 65) = z14 at hb X5 ⊢
        obtain ⟨e5x, he5⟩ : ∃ q0, q0 = z13.heap.size := ⟨_, rfl⟩
        rw [← he5] at X5 hX5 ⊢
        clear he5
        replace O1 := own_below O1 hb
        replace O2 := own_below O2 hb
        replace O3 := own_below O3 hb
        replace OL := own_below OL hb
        replace X9 := blk_bel X9 hb
        replace B := B.trans (hb.mono B.size)
        clear hb
        refine hK.out _ _ (hS _ B) (fun hHeld => ?_)
        clear hK
        refine wpAnyH_take (i := 8) (oi := ⟨some 34, .build 43 #[(0, .tmp 27), (1, .tmp 28), (2, .tmp 31), (3, .tmp 33), (6, .const (.int IntKind.i64 2))], 43, "l13_world.go:75", #[⟨1, .data⟩, ⟨2, .data⟩, ⟨5, .data⟩, ⟨7, .data⟩], none⟩) (v := .agg #[.slice d1 ns.length e1, .slice d2 is.length e2, .slice d3 ds.length e3, .int .i64 p, .slice (some ⟨e5x, 0, none⟩) 1 1, .slice (some ⟨e7x, 0, none⟩) n n, .slice none 0 0, .slice none 0 0, .int .i64 2, .slice none 0 0, .slice none 0 0]) rfl (by kernel_rfl) (by kernel_rfl) (by kernel_rfl) (fun _ _ _ h => h) (Or.inl ⟨by rfl, by intro w hSw; go_simp⟩) (by assumption) ?_
        simp only [Act.put, List.setIfInBounds_toArray, List.set_cons_zero, List.set_cons_succ]
        refine wpAnyH_ready (rs := [10]) (by kernel_rfl) (by simp) ?_
        refine AllReadyH.cons rfl (fun K hK => ?_) AllReadyH.nil
        rw [if_pos (by rfl)]
        refine wp_store_row 43 _ _ rfl (e9x) #[.slice d1 ns.length e1, .slice d2 is.length e2, .slice d3 ds.length e3, .int .i64 p, .slice (some ⟨e5x, 0, none⟩) 1 1, .slice (some ⟨e7x, 0, none⟩) n n, .slice none 0 0, .slice none 0 0, .int .i64 2, .slice none 0 0, .slice none 0 0] rfl rfl 43 #[.slice none 0 0, .slice none 0 0, .slice none 0 0, .int .i64 0, .slice none 0 0, .slice none 0 0, .slice none 0 0, .slice none 0 0, .int .i64 0, .slice none 0 0, .slice none 0 0] X9 Tryz.sizeWd rfl (by simp [Value.oneCell']) ?_
        have hoth := fun j (hj : j ≠ e9x) => setRow_other z14 (e9x) j #[.slice d1 ns.length e1, .slice d2 is.length e2, .slice d3 ds.length e3, .int .i64 p, .slice (some ⟨e5x, 0, none⟩) 1 1, .slice (some ⟨e7x, 0, none⟩) n n, .slice none 0 0, .slice none 0 0, .int .i64 2, .slice none 0 0, .slice none 0 0] hj
        have B2 := below_setRow B (g := e9x) hX9 #[.slice d1 ns.length e1, .slice d2 is.length e2, .slice d3 ds.length e3, .int .i64 p, .slice (some ⟨e5x, 0, none⟩) 1 1, .slice (some ⟨e7x, 0, none⟩) n n, .slice none 0 0, .slice none 0 0, .int .i64 2, .slice none 0 0, .slice none 0 0]
        have XX := setRow_heap _ _ _ #[.slice d1 ns.length e1, .slice d2 is.length e2, .slice d3 ds.length e3, .int .i64 p, .slice (some ⟨e5x, 0, none⟩) 1 1, .slice (some ⟨e7x, 0, none⟩) n n, .slice none 0 0, .slice none 0 0, .int .i64 2, .slice none 0 0, .slice none 0 0] _ _ X9
        have n5 : (e5x : Nat) ≠ e9x := blk_ne9 X5 X9 (by decide)
        have YH := own_blk (hX5) ((hoth _ n5).trans X5) rfl
        refine hK.out _ _ (hS _ B2) (fun hHeld => ?_)
        clear hK
        refine wpAnyH_done (by kernel_rfl) ?_ _
        exact NoPanic.normal (hQ _ _ _ _ _ _ _ _ _ _ _ _ _ _ (e9x) _ hX9 XX (own_other O1 (own_ne O1 X9 (by decide)) hoth) (own_other O2 (own_ne O2 X9 (by decide)) hoth) (own_other O3 (own_ne O3 X9 (by decide)) hoth) YH (own_other OL (own_ne OL X9 (by decide)) hoth) B2)
    · go_simp
      go_wp2_with fail
      have hb := alloc_bel z1 (Obj.cells #[.slice none 0 0, .slice none 0 0, .slice none 0 0, .int .i64 0, .slice none 0 0, .slice none 0 0, .slice none 0 0, .slice none 0 0, .int .i64 0, .slice none 0 0, .slice none 0 0] 43)
      have X9 : (z1.alloc (Obj.cells #[.slice none 0 0, .slice none 0 0, .slice none 0 0, .int .i64 0, .slice none 0 0, .slice none 0 0, .slice none 0 0, .slice none 0 0, .int .i64 0, .slice none 0 0, .slice none 0 0] 43)).heap[z1.heap.size]? = some (Obj.cells #[.slice none 0 0, .slice none 0 0, .slice none 0 0, .int .i64 0, .slice none 0 0, .slice none 0 0, .slice none 0 0, .slice none 0 0, .int .i64 0, .slice none 0 0, .slice none 0 0] 43) := heap_alloc_new _ _
      have hX9 : w.heap.size ≤ z1.heap.size := B.size
      generalize z1.alloc (Obj.cells #[.slice none 0 0, .slice none 0 0, .slice none 0 0, .int .i64 0, .slice none 0 0, .slice none 0 0, .slice none 0 0, .slice none 0 0, .int .i64 0, .slice none 0 0, .slice none 0 0] 43) = z16 at hb X9 ⊢
      obtain ⟨e9x, he9⟩ : ∃ q0, q0 = z1.heap.size := ⟨_, rfl⟩
      rw [← he9] at X9 hX9 ⊢
      clear he9
      replace O1 := own_below O1 hb
      replace O2 := own_below O2 hb
      replace O3 := own_below O3 hb
      replace B := B.trans (hb.mono B.size)
      clear hb
      refine hK.out _ _ (hS _ B) (fun hHeld => ?_)
      clear hK
      refine wpAnyH_ready (rs := [5, 7]) (by kernel_rfl) (by simp) ?_
      refine AllReadyH.cons rfl (fun K hK => ?_) (AllReadyH.cons rfl (fun K hK => ?_) AllReadyH.nil)
      · go_simp
        go_wp2_with fail
        have hb := alloc_bel z16 (Obj.cells #[.int .i64 0, p0, p1, p2, p3, p4, p5, p6, p7, p8, p9, p10] 65)
        have X5 : (z16.alloc (Obj.cells #[.int .i64 0, p0, p1, p2, p3, p4, p5, p6, p7, p8, p9, p10] 65)).heap[z16.heap.size]? = some (Obj.cells #[.int .i64 0, p0, p1, p2, p3, p4, p5, p6, p7, p8, p9, p10] 65) := heap_alloc_new _ _
        have hX5 : w.heap.size ≤ z16.heap.size := B.size
        generalize z16.alloc (Obj.cells #[.int .i64 0, p0, p1, p2, p3, p4, p5, p6, p7, p8, p9, p10] 65) = z17 at hb X5 ⊢
        obtain ⟨e5x, he5⟩ : ∃ q0, q0 = z16.heap.size := ⟨_, rfl⟩
        rw [← he5] at X5 hX5 ⊢
        clear he5
        replace O1 := own_below O1 hb
        replace O2 := own_below O2 hb
        replace O3 := own_below O3 hb
        replace X9 := blk_bel X9 hb
        replace B := B.trans (hb.mono B.size)
        clear hb
        refine hK.out _ _ (hS _ B) (fun hHeld => ?_)
        clear hK
        refine wpAnyH_ready (rs := [7]) (by kernel_rfl) (by simp) ?_
        refine AllReadyH.cons rfl (fun K hK => ?_) AllReadyH.nil
        refine step_make_full _ rfl _ _ 38 rfl w.heap.size 106 il _ 5 Tryz.underlying38 hil hzl0 hzl1 _ _ _ _ n rfl rfl rfl rfl (by rw [hzl2]; omega) (by unfold maxLen; omega) B.size ?_
        intro z18 OL hg
        have hb : Below z17.heap.size z17 z18 := (Below.refl _ _).grown hg (by simp) (fun k hk => by cases hk)
        obtain ⟨e7x, he7⟩ : ∃ q0, q0 = z17.heap.size := ⟨_, rfl⟩
        rw [← he7] at OL ⊢
        clear he7 hg
        replace O1 := own_below O1 hb
        replace O2 := own_below O2 hb
        replace O3 := own_below O3 hb
        replace X5 := blk_bel X5 hb
        replace X9 := blk_bel X9 hb
        replace B := B.trans (hb.mono B.size)
        clear hb
        refine hK.out _ _ (hS _ B) (fun hHeld => ?_)
        clear hK
        simp only [Act.put, List.setIfInBounds_toArray]
        refine wpAnyH_take (i := 8) (oi := ⟨some 34, .build 43 #[(0, .tmp 27), (1, .tmp 28), (2, .tmp 31), (3, .tmp 33), (6, .const (.int IntKind.i64 2))], 43, "l13_world.go:75", #[⟨1, .data⟩, ⟨2, .data⟩, ⟨5, .data⟩, ⟨7, .data⟩], none⟩) (v := .agg #[.slice d1 ns.length e1, .slice d2 is.length e2, .slice d3 ds.length e3, .int .i64 p, .slice (some ⟨e5x, 0, none⟩) 1 1, .slice (some ⟨e7x, 0, none⟩) n n, .slice none 0 0, .slice none 0 0, .int .i64 2, .slice none 0 0, .slice none 0 0]) rfl (by kernel_rfl) (by kernel_rfl) (by kernel_rfl) (fun _ _ _ h => h) (Or.inl ⟨by rfl, by intro w hSw; go_simp⟩) (by assumption) ?_
        simp only [Act.put]
        refine wpAnyH_ready (rs := [10]) (by kernel_rfl) (by simp) ?_
        refine AllReadyH.cons rfl (fun K hK => ?_) AllReadyH.nil
        rw [if_pos (by rfl)]
        refine wp_store_row 43 _ _ rfl (e9x) #[.slice d1 ns.length e1, .slice d2 is.length e2, .slice d3 ds.length e3, .int .i64 p, .slice (some ⟨e5x, 0, none⟩) 1 1, .slice (some ⟨e7x, 0, none⟩) n n, .slice none 0 0, .slice none 0 0, .int .i64 2, .slice none 0 0, .slice none 0 0] rfl rfl 43 #[.slice none 0 0, .slice none 0 0, .slice none 0 0, .int .i64 0, .slice none 0 0, .slice none 0 0, .slice none 0 0, .slice none 0 0, .int .i64 0, .slice none 0 0, .slice none 0 0] X9 Tryz.sizeWd rfl (by simp [Value.oneCell']) ?_
        have hoth := fun j (hj : j ≠ e9x) => setRow_other z18 (e9x) j #[.slice d1 ns.length e1, .slice d2 is.length e2, .slice d3 ds.length e3, .int .i64 p, .slice (some ⟨e5x, 0, none⟩) 1 1, .slice (some ⟨e7x, 0, none⟩) n n, .slice none 0 0, .slice none 0 0, .int .i64 2, .slice none 0 0, .slice none 0 0] hj
        have B2 := below_setRow B (g := e9x) hX9 #[.slice d1 ns.length e1, .slice d2 is.length e2, .slice d3 ds.length e3, .int .i64 p, .slice (some ⟨e5x, 0, none⟩) 1 1, .slice (some ⟨e7x, 0, none⟩) n n, .slice none 0 0, .slice none 0 0, .int .i64 2, .slice none 0 0, .slice none 0 0]
        have XX := setRow_heap _ _ _ #[.slice d1 ns.length e1, .slice d2 is.length e2, .slice d3 ds.length e3, .int .i64 p, .slice (some ⟨e5x, 0, none⟩) 1 1, .slice (some ⟨e7x, 0, none⟩) n n, .slice none 0 0, .slice none 0 0, .int .i64 2, .slice none 0 0, .slice none 0 0] _ _ X9
        have n5 : (e5x : Nat) ≠ e9x := blk_ne9 X5 X9 (by decide)
        have YH := own_blk (hX5) ((hoth _ n5).trans X5) rfl
        refine hK.out _ _ (hS _ B2) (fun hHeld => ?_)
        clear hK
        refine wpAnyH_done (by kernel_rfl) ?_ _
        exact NoPanic.normal (hQ _ _ _ _ _ _ _ _ _ _ _ _ _ _ (e9x) _ hX9 XX (own_other O1 (own_ne O1 X9 (by decide)) hoth) (own_other O2 (own_ne O2 X9 (by decide)) hoth) (own_other O3 (own_ne O3 X9 (by decide)) hoth) YH (own_other OL (own_ne OL X9 (by decide)) hoth) B2)
      · refine step_make_full _ rfl _ _ 38 rfl w.heap.size 106 il _ 5 Tryz.underlying38 hil hzl0 hzl1 _ _ _ _ n rfl rfl rfl rfl (by rw [hzl2]; omega) (by unfold maxLen; omega) B.size ?_
        intro z20 OL hg
        have hb : Below z16.heap.size z16 z20 := (Below.refl _ _).grown hg (by simp) (fun k hk => by cases hk)
        obtain ⟨e7x, he7⟩ : ∃ q0, q0 = z16.heap.size := ⟨_, rfl⟩
        rw [← he7] at OL ⊢
        clear he7 hg
        replace O1 := own_below O1 hb
        replace O2 := own_below O2 hb
        replace O3 := own_below O3 hb
        replace X9 := blk_bel X9 hb
        replace B := B.trans (hb.mono B.size)
        clear hb
        refine hK.out _ _ (hS _ B) (fun hHeld => ?_)
        clear hK
        simp only [Act.put, List.setIfInBounds_toArray]
        refine wpAnyH_ready (rs := [5]) (by kernel_rfl) (by simp) ?_
        refine AllReadyH.cons rfl (fun K hK => ?_) AllReadyH.nil
        go_simp
        go_wp2_with fail
        have hb := alloc_bel z20 (Obj.cells #[.int .i64 0, p0, p1, p2, p3, p4, p5, p6, p7, p8, p9, p10] 65)
        have X5 : (z20.alloc (Obj.cells #[.int .i64 0, p0, p1, p2, p3, p4, p5, p6, p7, p8, p9, p10] 65)).heap[z20.heap.size]? = some (Obj.cells #[.int .i64 0, p0, p1, p2, p3, p4, p5, p6, p7, p8, p9, p10] 65) := heap_alloc_new _ _
        have hX5 : w.heap.size ≤ z20.heap.size := B.size
        generalize z20.alloc (Obj.cells #[.int .i64 0, p0, p1, p2, p3, p4, p5, p6, p7, p8, p9, p10] 65) = z21 at hb X5 ⊢
        obtain ⟨e5x, he5⟩ : ∃ q0, q0 = z20.heap.size := ⟨_, rfl⟩
        rw [← he5] at X5 hX5 ⊢
        clear he5
        replace O1 := own_below O1 hb
        replace O2 := own_below O2 hb
        replace O3 := own_below O3 hb
        replace OL := own_below OL hb
        replace X9 := blk_bel X9 hb
        replace B := B.trans (hb.mono B.size)
        clear hb
        refine hK.out _ _ (hS _ B) (fun hHeld => ?_)
        clear hK
        refine wpAnyH_take (i := 8) (oi := ⟨some 34, .build 43 #[(0, .tmp 27), (1, .tmp 28), (2, .tmp 31), (3, .tmp 33), (6, .const (.int IntKind.i64 2))], 43, "l13_world.go:75", #[⟨1, .data⟩, ⟨2, .data⟩, ⟨5, .data⟩, ⟨7, .data⟩], none⟩) (v := .agg #[.slice d1 ns.length e1, .slice d2 is.length e2, .slice d3 ds.length e3, .int .i64 p, .slice (some ⟨e5x, 0, none⟩) 1 1, .slice (some ⟨e7x, 0, none⟩) n n, .slice none 0 0, .slice none 0 0, .int .i64 2, .slice none 0 0, .slice none 0 0]) rfl (by kernel_rfl) (by kernel_rfl) (by kernel_rfl) (fun _ _ _ h => h) (Or.inl ⟨by rfl, by intro w hSw; go_simp⟩) (by assumption) ?_
        simp only [Act.put, List.setIfInBounds_toArray, List.set_cons_zero, List.set_cons_succ]
        refine wpAnyH_ready (rs := [10]) (by kernel_rfl) (by simp) ?_
        refine AllReadyH.cons rfl (fun K hK => ?_) AllReadyH.nil
        rw [if_pos (by rfl)]
        refine wp_store_row 43 _ _ rfl (e9x) #[.slice d1 ns.length e1, .slice d2 is.length e2, .slice d3 ds.length e3, .int .i64 p, .slice (some ⟨e5x, 0, none⟩) 1 1, .slice (some ⟨e7x, 0, none⟩) n n, .slice none 0 0, .slice none 0 0, .int .i64 2, .slice none 0 0, .slice none 0 0] rfl rfl 43 #[.slice none 0 0, .slice none 0 0, .slice none 0 0, .int .i64 0, .slice none 0 0, .slice none 0 0, .slice none 0 0, .slice none 0 0, .int .i64 0, .slice none 0 0, .slice none 0 0] X9 Tryz.sizeWd rfl (by simp [Value.oneCell']) ?_
        have hoth := fun j (hj : j ≠ e9x) => setRow_other z21 (e9x) j #[.slice d1 ns.length e1, .slice d2 is.length e2, .slice d3 ds.length e3, .int .i64 p, .slice (some ⟨e5x, 0, none⟩) 1 1, .slice (some ⟨e7x, 0, none⟩) n n, .slice none 0 0, .slice none 0 0, .int .i64 2, .slice none 0 0, .slice none 0 0] hj
        have B2 := below_setRow B (g := e9x) hX9 #[.slice d1 ns.length e1, .slice d2 is.length e2, .slice d3 ds.length e3, .int .i64 p, .slice (some ⟨e5x, 0, none⟩) 1 1, .slice (some ⟨e7x, 0, none⟩) n n, .slice none 0 0, .slice none 0 0, .int .i64 2, .slice none 0 0, .slice none 0 0]
        have XX := setRow_heap _ _ _ #[.slice d1 ns.length e1, .slice d2 is.length e2, .slice d3 ds.length e3, .int .i64 p, .slice (some ⟨e5x, 0, none⟩) 1 1, .slice (some ⟨e7x, 0, none⟩) n n, .slice none 0 0, .slice none 0 0, .int .i64 2, .slice none 0 0, .slice none 0 0] _ _ X9
        have n5 : (e5x : Nat) ≠ e9x := blk_ne9 X5 X9 (by decide)
        have YH := own_blk (hX5) ((hoth _ n5).trans X5) rfl
        refine hK.out _ _ (hS _ B2) (fun hHeld => ?_)
        clear hK
        refine wpAnyH_done (by kernel_rfl) ?_ _
        exact NoPanic.normal (hQ _ _ _ _ _ _ _ _ _ _ _ _ _ _ (e9x) _ hX9 XX (own_other O1 (own_ne O1 X9 (by decide)) hoth) (own_other O2 (own_ne O2 X9 (by decide)) hoth) (own_other O3 (own_ne O3 X9 (by decide)) hoth) YH (own_other OL (own_ne OL X9 (by decide)) hoth) B2)
  · go_simp
    go_wp2_with fail
    have hb : Below w.heap.size w (w.alloc (Obj.cells #[.int .i64 0, p0, p1, p2, p3, p4, p5, p6, p7, p8, p9, p10] 65)).drew := ((Below.refl _ _).alloc (Nat.le_refl _) _).drew
    have X5 : (w.alloc (Obj.cells #[.int .i64 0, p0, p1, p2, p3, p4, p5, p6, p7, p8, p9, p10] 65)).drew.heap[w.heap.size]? = some (Obj.cells #[.int .i64 0, p0, p1, p2, p3, p4, p5, p6, p7, p8, p9, p10] 65) := heap_alloc_new w _
    have hX5 : w.heap.size ≤ w.heap.size := Nat.le_refl _
    generalize (w.alloc (Obj.cells #[.int .i64 0, p0, p1, p2, p3, p4, p5, p6, p7, p8, p9, p10] 65)).drew = z23 at hb X5 ⊢
    replace B := hb
    clear hb
    refine hK.out _ _ (hS _ B) (fun hHeld => ?_)
    clear hK
    refine wpAnyH_ready (rs := [1, 7, 9]) (by kernel_rfl) (by simp) ?_
    refine AllReadyH.cons rfl (fun K hK => ?_) (AllReadyH.cons rfl (fun K hK => ?_) (AllReadyH.cons rfl (fun K hK => ?_) AllReadyH.nil))
    · have hlo := B.size
      go_simp
      go_wp2_with (go_at_call 18; with_reducible refine (s13code_any _ _ _ ns is ds _ (R1.below B) (R2.below B) (R3.below B) h1 h2 h3).mono ?_; rintro e z24 ⟨y1, y2, y3, rfl, O1, O2, O3, hb⟩)
      obtain ⟨d1, e1, rfl⟩ := own_form O1
      obtain ⟨d2, e2, rfl⟩ := own_form O2
      obtain ⟨d3, e3, rfl⟩ := own_form O3
      replace O1 := own_mono O1 hlo
      replace O2 := own_mono O2 hlo
      replace O3 := own_mono O3 hlo
      clear hlo
      replace X5 := blk_bel X5 hb
      replace B := B.trans (hb.mono B.size)
      clear hb
      refine hK.out _ _ (hS _ B) (fun hHeld => ?_)
      clear hK
      refine wpAnyH_ready (rs := [7, 9]) (by kernel_rfl) (by simp) ?_
      refine AllReadyH.cons rfl (fun K hK => ?_) (AllReadyH.cons rfl (fun K hK => ?_) AllReadyH.nil)
      · refine step_make_full _ rfl _ _ 38 rfl w.heap.size 106 il _ 5 Tryz.underlying38 hil hzl0 hzl1 _ _ _ _ n rfl rfl rfl rfl (by rw [hzl2]; omega) (by unfold maxLen; omega) B.size ?_
        intro z25 OL hg
        have hb : Below z24.heap.size z24 z25 := (Below.refl _ _).grown hg (by simp) (fun k hk => by cases hk)
        obtain ⟨e7x, he7⟩ : ∃ q0, q0 = z24.heap.size := ⟨_, rfl⟩
        rw [← he7] at OL ⊢
        clear he7 hg
        replace O1 := own_below O1 hb
        replace O2 := own_below O2 hb
        replace O3 := own_below O3 hb
        replace X5 := blk_bel X5 hb
        replace B := B.trans (hb.mono B.size)
        clear hb
        refine hK.out _ _ (hS _ B) (fun hHeld => ?_)
        clear hK
        simp only [Act.put, List.setIfInBounds_toArray]
        refine wpAnyH_take (i := 8) (oi := ⟨some 34, .build 43 #[(0, .tmp 27), (1, .tmp 28), (2, .tmp 31), (3, .tmp 33), (6, .const (.int IntKind.i64 2))], 43, "l13_world.go:75", #[⟨1, .data⟩, ⟨2, .data⟩, ⟨5, .data⟩, ⟨7, .data⟩], none⟩) (v := .agg #[.slice d1 ns.length e1, .slice d2 is.length e2, .slice d3 ds.length e3, .int .i64 p, .slice (some ⟨w.heap.size, 0, none⟩) 1 1, .slice (some ⟨e7x, 0, none⟩) n n, .slice none 0 0, .slice none 0 0, .int .i64 2, .slice none 0 0, .slice none 0 0]) rfl (by kernel_rfl) (by kernel_rfl) (by kernel_rfl) (fun _ _ _ h => h) (Or.inl ⟨by rfl, by intro w hSw; go_simp⟩) (by assumption) ?_
        simp only [Act.put]
        refine wpAnyH_ready (rs := [9]) (by kernel_rfl) (by simp) ?_
        refine AllReadyH.cons rfl (fun K hK => ?_) AllReadyH.nil
        go_simp
        go_wp2_with fail
        have hb := alloc_bel z25 (Obj.cells #[.slice none 0 0, .slice none 0 0, .slice none 0 0, .int .i64 0, .slice none 0 0, .slice none 0 0, .slice none 0 0, .slice none 0 0, .int .i64 0, .slice none 0 0, .slice none 0 0] 43)
        have X9 : (z25.alloc (Obj.cells #[.slice none 0 0, .slice none 0 0, .slice none 0 0, .int .i64 0, .slice none 0 0, .slice none 0 0, .slice none 0 0, .slice none 0 0, .int .i64 0, .slice none 0 0, .slice none 0 0] 43)).heap[z25.heap.size]? = some (Obj.cells #[.slice none 0 0, .slice none 0 0, .slice none 0 0, .int .i64 0, .slice none 0 0, .slice none 0 0, .slice none 0 0, .slice none 0 0, .int .i64 0, .slice none 0 0, .slice none 0 0] 43) := heap_alloc_new _ _
        have hX9 : w.heap.size ≤ z25.heap.size := B.size
        generalize z25.alloc (Obj.cells #[.slice none 0 0, .slice none 0 0, .slice none 0 0, .int .i64 0, .slice none 0 0, .slice none 0 0, .slice none 0 0, .slice none 0 0, .int .i64 0, .slice none 0 0, .slice none 0 0] 43) = z26 at hb X9 ⊢
        obtain ⟨e9x, he9⟩ : ∃ q0, q0 = z25.heap.size := ⟨_, rfl⟩
        rw [← he9] at X9 hX9 ⊢
        clear he9
        replace O1 := own_below O1 hb
        replace O2 := own_below O2 hb
        replace O3 := own_below O3 hb
        replace OL := own_below OL hb
        replace X5 := blk_bel X5 hb
        replace B := B.trans (hb.mono B.size)
        clear hb
        refine hK.out _ _ (hS _ B) (fun hHeld => ?_)
        clear hK
        refine wpAnyH_ready (rs := [10]) (by kernel_rfl) (by simp) ?_
        refine AllReadyH.cons rfl (fun K hK => ?_) AllReadyH.nil
        rw [if_pos (by rfl)]
        refine wp_store_row 43 _ _ rfl (e9x) #[.slice d1 ns.length e1, .slice d2 is.length e2, .slice d3 ds.length e3, .int .i64 p, .slice (some ⟨w.heap.size, 0, none⟩) 1 1, .slice (some ⟨e7x, 0, none⟩) n n, .slice none 0 0, .slice none 0 0, .int .i64 2, .slice none 0 0, .slice none 0 0] rfl rfl 43 #[.slice none 0 0, .slice none 0 0, .slice none 0 0, .int .i64 0, .slice none 0 0, .slice none 0 0, .slice none 0 0, .slice none 0 0, .int .i64 0, .slice none 0 0, .slice none 0 0] X9 Tryz.sizeWd rfl (by simp [Value.oneCell']) ?_
        have hoth := fun j (hj : j ≠ e9x) => setRow_other z26 (e9x) j #[.slice d1 ns.length e1, .slice d2 is.length e2, .slice d3 ds.length e3, .int .i64 p, .slice (some ⟨w.heap.size, 0, none⟩) 1 1, .slice (some ⟨e7x, 0, none⟩) n n, .slice none 0 0, .slice none 0 0, .int .i64 2, .slice none 0 0, .slice none 0 0] hj
        have B2 := below_setRow B (g := e9x) hX9 #[.slice d1 ns.length e1, .slice d2 is.length e2, .slice d3 ds.length e3, .int .i64 p, .slice (some ⟨w.heap.size, 0, none⟩) 1 1, .slice (some ⟨e7x, 0, none⟩) n n, .slice none 0 0, .slice none 0 0, .int .i64 2, .slice none 0 0, .slice none 0 0]
        have XX := setRow_heap _ _ _ #[.slice d1 ns.length e1, .slice d2 is.length e2, .slice d3 ds.length e3, .int .i64 p, .slice (some ⟨w.heap.size, 0, none⟩) 1 1, .slice (some ⟨e7x, 0, none⟩) n n, .slice none 0 0, .slice none 0 0, .int .i64 2, .slice none 0 0, .slice none 0 0] _ _ X9
        have n5 : (w.heap.size : Nat) ≠ e9x := blk_ne9 X5 X9 (by decide)
        have YH := own_blk (hX5) ((hoth _ n5).trans X5) rfl
        refine hK.out _ _ (hS _ B2) (fun hHeld => ?_)
        clear hK
        refine wpAnyH_done (by kernel_rfl) ?_ _
        exact NoPanic.normal (hQ _ _ _ _ _ _ _ _ _ _ _ _ _ _ (e9x) _ hX9 XX (own_other O1 (own_ne O1 X9 (by decide)) hoth) (own_other O2 (own_ne O2 X9 (by decide)) hoth) (own_other O3 (own_ne O3 X9 (by decide)) hoth) YH (own_other OL (own_ne OL X9 (by decide)) hoth) B2)
      · go_simp
        go_wp2_with fail
        have hb := alloc_bel z24 (Obj.cells #[.slice none 0 0, .slice none 0 0, .slice none 0 0, .int .i64 0, .slice none 0 0, .slice none 0 0, .slice none 0 0, .slice none 0 0, .int .i64 0, .slice none 0 0, .slice none 0 0] 43)
        have X9 : (z24.alloc (Obj.cells #[.slice none 0 0, .slice none 0 0, .slice none 0 0, .int .i64 0, .slice none 0 0, .slice none 0 0, .slice none 0 0, .slice none 0 0, .int .i64 0, .slice none 0 0, .slice none 0 0] 43)).heap[z24.heap.size]? = some (Obj.cells #[.slice none 0 0, .slice none 0 0, .slice none 0 0, .int .i64 0, .slice none 0 0, .slice none 0 0, .slice none 0 0, .slice none 0 0, .int .i64 0, .slice none 0 0, .slice none 0 0] 43) := heap_alloc_new _ _
        have hX9 : w.heap.size ≤ z24.heap.size := B.size
        generalize z24.alloc (Obj.cells #[.slice none 0 0, .slice none 0 0, .slice none 0 0, .int .i64 0, .slice none 0 0, .slice none 0 0, .slice none 0 0, .slice none 0 0, .int .i64 0, .slice none 0 0, .slice none 0 0] 43) = z28 at hb X9 ⊢
        obtain ⟨e9x, he9⟩ : ∃ q0, q0 = z24.heap.size := ⟨_, rfl⟩
        rw [← he9] at X9 hX9 ⊢
        clear he9
        replace O1 := own_below O1 hb
        replace O2 := own_below O2 hb
        replace O3 := own_below O3 hb
        replace X5 := blk_bel X5 hb
        replace B := B.trans (hb.mono B.size)
        clear hb
        refine hK.out _ _ (hS _ B) (fun hHeld => ?_)
        clear hK
        refine wpAnyH_ready (rs := [7]) (by kernel_rfl) (by simp) ?_
        refine AllReadyH.cons rfl (fun K hK => ?_) AllReadyH.nil
        refine step_make_full _ rfl _ _ 38 rfl w.heap.size 106 il _ 5 Tryz.underlying38 hil hzl0 hzl1 _ _ _ _ n rfl rfl rfl rfl (by rw [hzl2]; omega) (by unfold maxLen; omega) B.size ?_
        intro z29 OL hg
        have hb : Below z28.heap.size z28 z29 := (Below.refl _ _).grown hg (by simp) (fun k hk => by cases hk)
        obtain ⟨e7x, he7⟩ : ∃ q0, q0 = z28.heap.size := ⟨_, rfl⟩
        rw [← he7] at OL ⊢
        clear he7 hg
        replace O1 := own_below O1 hb
        replace O2 := own_below O2 hb
        replace O3 := own_below O3 hb
        replace X5 := blk_bel X5 hb
        replace X9 := blk_bel X9 hb
        replace B := B.trans (hb.mono B.size)
        clear hb
        refine hK.out _ _ (hS _ B) (fun hHeld => ?_)
        clear hK
        simp only [Act.put, List.setIfInBounds_toArray]
        refine wpAnyH_take (i := 8) (oi := ⟨some 34, .build 43 #[(0, .tmp 27), (1, .tmp 28), (2, .tmp 31), (3, .tmp 33), (6, .const (.int IntKind.i64 2))], 43, "l13_world.go:75", #[⟨1, .data⟩, ⟨2, .data⟩, ⟨5, .data⟩, ⟨7, .data⟩], none⟩) (v := .agg #[.slice d1 ns.length e1, .slice d2 is.length e2, .slice d3 ds.length e3, .int .i64 p, .slice (some ⟨w.heap.size, 0, none⟩) 1 1, .slice (some ⟨e7x, 0, none⟩) n n, .slice none 0 0, .slice none 0 0, .int .i64 2, .slice none 0 0, .slice none 0 0]) rfl (by kernel_rfl) (by kernel_rfl) (by kernel_rfl) (fun _ _ _ h => h) (Or.inl ⟨by rfl, by intro w hSw; go_simp⟩) (by assumption) ?_
        simp only [Act.put]
        refine wpAnyH_ready (rs := [10]) (by kernel_rfl) (by simp) ?_
        refine AllReadyH.cons rfl (fun K hK => ?_) AllReadyH.nil
        rw [if_pos (by rfl)]
        refine wp_store_row 43 _ _ rfl (e9x) #[.slice d1 ns.length e1, .slice d2 is.length e2, .slice d3 ds.length e3, .int .i64 p, .slice (some ⟨w.heap.size, 0, none⟩) 1 1, .slice (some ⟨e7x, 0, none⟩) n n, .slice none 0 0, .slice none 0 0, .int .i64 2, .slice none 0 0, .slice none 0 0] rfl rfl 43 #[.slice none 0 0, .slice none 0 0, .slice none 0 0, .int .i64 0, .slice none 0 0, .slice none 0 0, .slice none 0 0, .slice none 0 0, .int .i64 0, .slice none 0 0, .slice none 0 0] X9 Tryz.sizeWd rfl (by simp [Value.oneCell']) ?_
        have hoth := fun j (hj : j ≠ e9x) => setRow_other z29 (e9x) j #[.slice d1 ns.length e1, .slice d2 is.length e2, .slice d3 ds.length e3, .int .i64 p, .slice (some ⟨w.heap.size, 0, none⟩) 1 1, .slice (some ⟨e7x, 0, none⟩) n n, .slice none 0 0, .slice none 0 0, .int .i64 2, .slice none 0 0, .slice none 0 0] hj
        have B2 := below_setRow B (g := e9x) hX9 #[.slice d1 ns.length e1, .slice d2 is.length e2, .slice d3 ds.length e3, .int .i64 p, .slice (some ⟨w.heap.size, 0, none⟩) 1 1, .slice (some ⟨e7x, 0, none⟩) n n, .slice none 0 0, .slice none 0 0, .int .i64 2, .slice none 0 0, .slice none 0 0]
        have XX := setRow_heap _ _ _ #[.slice d1 ns.length e1, .slice d2 is.length e2, .slice d3 ds.length e3, .int .i64 p, .slice (some ⟨w.heap.size, 0, none⟩) 1 1, .slice (some ⟨e7x, 0, none⟩) n n, .slice none 0 0, .slice none 0 0, .int .i64 2, .slice none 0 0, .slice none 0 0] _ _ X9
        have n5 : (w.heap.size : Nat) ≠ e9x := blk_ne9 X5 X9 (by decide)
        have YH := own_blk (hX5) ((hoth _ n5).trans X5) rfl
        refine hK.out _ _ (hS _ B2) (fun hHeld => ?_)
        clear hK
        refine wpAnyH_done (by kernel_rfl) ?_ _
        exact NoPanic.normal (hQ _ _ _ _ _ _ _ _ _ _ _ _ _ _ (e9x) _ hX9 XX (own_other O1 (own_ne O1 X9 (by decide)) hoth) (own_other O2 (own_ne O2 X9 (by decide)) hoth) (own_other O3 (own_ne O3 X9 (by decide)) hoth) YH (own_other OL (own_ne OL X9 (by decide)) hoth) B2)
    · refine step_make_full _ rfl _ _ 38 rfl w.heap.size 106 il _ 5 Tryz.underlying38 hil hzl0 hzl1 _ _ _ _ n rfl rfl rfl rfl (by rw [hzl2]; omega) (by unfold maxLen; omega) B.size ?_
      intro z31 OL hg
      have hb : Below z23.heap.size z23 z31 := (Below.refl _ _).grown hg (by simp) (fun k hk => by cases hk)
      obtain ⟨e7x, he7⟩ : ∃ q0, q0 = z23.heap.size := ⟨_, rfl⟩
      rw [← he7] at OL ⊢
      clear he7 hg
      replace X5 := blk_bel X5 hb
      replace B := B.trans (hb.mono B.size)
      clear hb
      refine hK.out _ _ (hS _ B) (fun hHeld => ?_)
      clear hK
      simp only [Act.put, List.setIfInBounds_toArray]
      refine wpAnyH_ready (rs := [1, 9]) (by kernel_rfl) (by simp) ?_
      refine AllReadyH.cons rfl (fun K hK => ?_) (AllReadyH.cons rfl (fun K hK => ?_) AllReadyH.nil)
      · have hlo := B.size
        go_simp
        go_wp2_with (go_at_call 18; with_reducible refine (s13code_any _ _ _ ns is ds _ (R1.below B) (R2.below B) (R3.below B) h1 h2 h3).mono ?_; rintro e z32 ⟨y1, y2, y3, rfl, O1, O2, O3, hb⟩)
        obtain ⟨d1, e1, rfl⟩ := own_form O1
        obtain ⟨d2, e2, rfl⟩ := own_form O2
        obtain ⟨d3, e3, rfl⟩ := own_form O3
        replace O1 := own_mono O1 hlo
        replace O2 := own_mono O2 hlo
        replace O3 := own_mono O3 hlo
        clear hlo
        replace OL := own_below OL hb
        replace X5 := blk_bel X5 hb
        replace B := B.trans (hb.mono B.size)
        clear hb
        refine hK.out _ _ (hS _ B) (fun hHeld => ?_)
        clear hK
        refine wpAnyH_take (i := 8) (oi := ⟨some 34, .build 43 #[(0, .tmp 27), (1, .tmp 28), (2, .tmp 31), (3, .tmp 33), (6, .const (.int IntKind.i64 2))], 43, "l13_world.go:75", #[⟨1, .data⟩, ⟨2, .data⟩, ⟨5, .data⟩, ⟨7, .data⟩], none⟩) (v := .agg #[.slice d1 ns.length e1, .slice d2 is.length e2, .slice d3 ds.length e3, .int .i64 p, .slice (some ⟨w.heap.size, 0, none⟩) 1 1, .slice (some ⟨e7x, 0, none⟩) n n, .slice none 0 0, .slice none 0 0, .int .i64 2, .slice none 0 0, .slice none 0 0]) rfl (by kernel_rfl) (by kernel_rfl) (by kernel_rfl) (fun _ _ _ h => h) (Or.inl ⟨by rfl, by intro w hSw; go_simp⟩) (by assumption) ?_
        simp only [Act.put, List.setIfInBounds_toArray, List.set_cons_zero, List.set_cons_succ]
        refine wpAnyH_ready (rs := [9]) (by kernel_rfl) (by simp) ?_
        refine AllReadyH.cons rfl (fun K hK => ?_) AllReadyH.nil
        go_simp
        go_wp2_with fail
        have hb := alloc_bel z32 (Obj.cells #[.slice none 0 0, .slice none 0 0, .slice none 0 0, .int .i64 0, .slice none 0 0, .slice none 0 0, .slice none 0 0, .slice none 0 0, .int .i64 0, .slice none 0 0, .slice none 0 0] 43)
        have X9 : (z32.alloc (Obj.cells #[.slice none 0 0, .slice none 0 0, .slice none 0 0, .int .i64 0, .slice none 0 0, .slice none 0 0, .slice none 0 0, .slice none 0 0, .int .i64 0, .slice none 0 0, .slice none 0 0] 43)).heap[z32.heap.size]? = some (Obj.cells #[.slice none 0 0, .slice none 0 0, .slice none 0 0, .int .i64 0, .slice none 0 0, .slice none 0 0, .slice none 0 0, .slice none 0 0, .int .i64 0, .slice none 0 0, .slice none 0 0] 43) := heap_alloc_new _ _
        have hX9 : w.heap.size ≤ z32.heap.size := B.size
        generalize z32.alloc (Obj.cells #[.slice none 0 0, .slice none 0 0, .slice none 0 0, .int .i64 0, .slice none 0 0, .slice none 0 0, .slice none 0 0, .slice none 0 0, .int .i64 0, .slice none 0 0, .slice none 0 0] 43) = z33 at hb X9 ⊢
        obtain ⟨e9x, he9⟩ : ∃ q0, q0 = z32.heap.size := ⟨_, rfl⟩
        rw [← he9] at X9 hX9 ⊢
        clear he9
        replace O1 := own_below O1 hb
        replace O2 := own_below O2 hb
        replace O3 := own_below O3 hb
        replace OL := own_below OL hb
        replace X5 := blk_bel X5 hb
        replace B := B.trans (hb.mono B.size)
        clear hb
        refine hK.out _ _ (hS _ B) (fun hHeld => ?_)
        clear hK
        refine wpAnyH_ready (rs := [10]) (by kernel_rfl) (by simp) ?_
        refine AllReadyH.cons rfl (fun K hK => ?_) AllReadyH.nil
        rw [if_pos (by rfl)]
        refine wp_store_row 43 _ _ rfl (e9x) #[.slice d1 ns.length e1, .slice d2 is.length e2, .slice d3 ds.length e3, .int .i64 p, .slice (some ⟨w.heap.size, 0, none⟩) 1 1, .slice (some ⟨e7x, 0, none⟩) n n, .slice none 0 0, .slice none 0 0, .int .i64 2, .slice none 0 0, .slice none 0 0] rfl rfl 43 #[.slice none 0 0, .slice none 0 0, .slice none 0 0, .int .i64 0, .slice none 0 0, .slice none 0 0, .slice none 0 0, .slice none 0 0, .int .i64 0, .slice none 0 0, .slice none 0 0] X9 Tryz.sizeWd rfl (by simp [Value.oneCell']) ?_
        have hoth := fun j (hj : j ≠ e9x) => setRow_other z33 (e9x) j #[.slice d1 ns.length e1, .slice d2 is.length e2, .slice d3 ds.length e3, .int .i64 p, .slice (some ⟨w.heap.size, 0, none⟩) 1 1, .slice (some ⟨e7x, 0, none⟩) n n, .slice none 0 0, .slice none 0 0, .int .i64 2, .slice none 0 0, .slice none 0 0] hj
        have B2 := below_setRow B (g := e9x) hX9 #[.slice d1 ns.length e1, .slice d2 is.length e2, .slice d3 ds.length e3, .int .i64 p, .slice (some ⟨w.heap.size, 0, none⟩) 1 1, .slice (some ⟨e7x, 0, none⟩) n n, .slice none 0 0, .slice none 0 0, .int .i64 2, .slice none 0 0, .slice none 0 0]
        have XX := setRow_heap _ _ _ #[.slice d1 ns.length e1, .slice d2 is.length e2, .slice d3 ds.length e3, .int .i64 p, .slice (some ⟨w.heap.size, 0, none⟩) 1 1, .slice (some ⟨e7x, 0, none⟩) n n, .slice none 0 0, .slice none 0 0, .int .i64 2, .slice none 0 0, .slice none 0 0] _ _ X9
        have n5 : (w.heap.size : Nat) ≠ e9x := blk_ne9 X5 X9 (by decide)
        have YH := own_blk (hX5) ((hoth _ n5).trans X5) rfl
        refine hK.out _ _ (hS _ B2) (fun hHeld => ?_)
        clear hK
        refine wpAnyH_done (by kernel_rfl) ?_ _
        exact NoPanic.normal (hQ _ _ _ _ _ _ _ _ _ _ _ _ _ _ (e9x) _ hX9 XX (own_other O1 (own_ne O1 X9 (by decide)) hoth) (own_other O2 (own_ne O2 X9 (by decide)) hoth) (own_other O3 (own_ne O3 X9 (by decide)) hoth) YH (own_other OL (own_ne OL X9 (by decide)) hoth) B2)
      · go_simp
        go_wp2_with fail
        have hb := alloc_bel z31 (Obj.cells #[.slice none 0 0, .slice none 0 0, .slice none 0 0, .int .i64 0, .slice none 0 0, .slice none 0 0, .slice none 0 0, .slice none 0 0, .int .i64 0, .slice none 0 0, .slice none 0 0] 43)
        have X9 : (z31.alloc (Obj.cells #[.slice none 0 0, .slice none 0 0, .slice none 0 0, .int .i64 0, .slice none 0 0, .slice none 0 0, .slice none 0 0, .slice none 0 0, .int .i64 0, .slice none 0 0, .slice none 0 0] 43)).heap[z31.heap.size]? = some (Obj.cells #[.slice none 0 0, .slice none 0 0, .slice none 0 0, .int .i64 0, .slice none 0 0, .slice none 0 0, .slice none 0 0, .slice none 0 0, .int .i64 0, .slice none 0 0, .slice none 0 0] 43) := heap_alloc_new _ _
        have hX9 : w.heap.size ≤ z31.heap.size := B.size
        generalize z31.alloc (Obj.cells #[.slice none 0 0, .slice none 0 0, .slice none 0 0, .int .i64 0, .slice none 0 0, .slice none 0 0, .slice none 0 0, .slice none 0 0, .int .i64 0, .slice none 0 0, .slice none 0 0] 43) = z35 at hb X9 ⊢
        obtain ⟨e9x, he9⟩ : ∃ q0, q0 = z31.heap.size := ⟨_, rfl⟩
        rw [← he9] at X9 hX9 ⊢
        clear he9
        replace OL := own_below OL hb
        replace X5 := blk_bel X5 hb
        replace B := B.trans (hb.mono B.size)
        clear hb
        refine hK.out _ _ (hS _ B) (fun hHeld => ?_)
        clear hK
        refine wpAnyH_ready (rs := [1]) (by kernel_rfl) (by simp) ?_
        refine AllReadyH.cons rfl (fun K hK => ?_) AllReadyH.nil
        have hlo := B.size
        go_simp
        go_wp2_with (go_at_call 18; with_reducible refine (s13code_any _ _ _ ns is ds _ (R1.below B) (R2.below B) (R3.below B) h1 h2 h3).mono ?_; rintro e z36 ⟨y1, y2, y3, rfl, O1, O2, O3, hb⟩)
        obtain ⟨d1, e1, rfl⟩ := own_form O1
        obtain ⟨d2, e2, rfl⟩ := own_form O2
        obtain ⟨d3, e3, rfl⟩ := own_form O3
        replace O1 := own_mono O1 hlo
        replace O2 := own_mono O2 hlo
        replace O3 := own_mono O3 hlo
        clear hlo
        replace OL := own_below OL hb
        replace X5 := blk_bel X5 hb
        replace X9 := blk_bel X9 hb
        replace B := B.trans (hb.mono B.size)
        clear hb
        refine hK.out _ _ (hS _ B) (fun hHeld => ?_)
        clear hK
        refine wpAnyH_take (i := 8) (oi := ⟨some 34, .build 43 #[(0, .tmp 27), (1, .tmp 28), (2, .tmp 31), (3, .tmp 33), (6, .const (.int IntKind.i64 2))], 43, "l13_world.go:75", #[⟨1, .data⟩, ⟨2, .data⟩, ⟨5, .data⟩, ⟨7, .data⟩], none⟩) (v := .agg #[.slice d1 ns.length e1, .slice d2 is.length e2, .slice d3 ds.length e3, .int .i64 p, .slice (some ⟨w.heap.size, 0, none⟩) 1 1, .slice (some ⟨e7x, 0, none⟩) n n, .slice none 0 0, .slice none 0 0, .int .i64 2, .slice none 0 0, .slice none 0 0]) rfl (by kernel_rfl) (by kernel_rfl) (by kernel_rfl) (fun _ _ _ h => h) (Or.inl ⟨by rfl, by intro w hSw; go_simp⟩) (by assumption) ?_
        simp only [Act.put, List.setIfInBounds_toArray, List.set_cons_zero, List.set_cons_succ]
        refine wpAnyH_ready (rs := [10]) (by kernel_rfl) (by simp) ?_
        refine AllReadyH.cons rfl (fun K hK => ?_) AllReadyH.nil
        rw [if_pos (by rfl)]
        refine wp_store_row 43 _ _ rfl (e9x) #[.slice d1 ns.length e1, .slice d2 is.length e2, .slice d3 ds.length e3, .int .i64 p, .slice (some ⟨w.heap.size, 0, none⟩) 1 1, .slice (some ⟨e7x, 0, none⟩) n n, .slice none 0 0, .slice none 0 0, .int .i64 2, .slice none 0 0, .slice none 0 0] rfl rfl 43 #[.slice none 0 0, .slice none 0 0, .slice none 0 0, .int .i64 0, .slice none 0 0, .slice none 0 0, .slice none 0 0, .slice none 0 0, .int .i64 0, .slice none 0 0, .slice none 0 0] X9 Tryz.sizeWd rfl (by simp [Value.oneCell']) ?_
        have hoth := fun j (hj : j ≠ e9x) => setRow_other z36 (e9x) j #[.slice d1 ns.length e1, .slice d2 is.length e2, .slice d3 ds.length e3, .int .i64 p, .slice (some ⟨w.heap.size, 0, none⟩) 1 1, .slice (some ⟨e7x, 0, none⟩) n n, .slice none 0 0, .slice none 0 0, .int .i64 2, .slice none 0 0, .slice none 0 0] hj
        have B2 := below_setRow B (g := e9x) hX9 #[.slice d1 ns.length e1, .slice d2 is.length e2, .slice d3 ds.length e3, .int .i64 p, .slice (some ⟨w.heap.size, 0, none⟩) 1 1, .slice (some ⟨e7x, 0, none⟩) n n, .slice none 0 0, .slice none 0 0, .int .i64 2, .slice none 0 0, .slice none 0 0]
        have XX := setRow_heap _ _ _ #[.slice d1 ns.length e1, .slice d2 is.length e2, .slice d3 ds.length e3, .int .i64 p, .slice (some ⟨w.heap.size, 0, none⟩) 1 1, .slice (some ⟨e7x, 0, none⟩) n n, .slice none 0 0, .slice none 0 0, .int .i64 2, .slice none 0 0, .slice none 0 0] _ _ X9
        have n5 : (w.heap.size : Nat) ≠ e9x := blk_ne9 X5 X9 (by decide)
        have YH := own_blk (hX5) ((hoth _ n5).trans X5) rfl
        refine hK.out _ _ (hS _ B2) (fun hHeld => ?_)
        clear hK
        refine wpAnyH_done (by kernel_rfl) ?_ _
        exact NoPanic.normal (hQ _ _ _ _ _ _ _ _ _ _ _ _ _ _ (e9x) _ hX9 XX (own_other O1 (own_ne O1 X9 (by decide)) hoth) (own_other O2 (own_ne O2 X9 (by decide)) hoth) (own_other O3 (own_ne O3 X9 (by decide)) hoth) YH (own_other OL (own_ne OL X9 (by decide)) hoth) B2)
    · go_simp
      go_wp2_with fail
      have hb := alloc_bel z23 (Obj.cells #[.slice none 0 0, .slice none 0 0, .slice none 0 0, .int .i64 0, .slice none 0 0, .slice none 0 0, .slice none 0 0, .slice none 0 0, .int .i64 0, .slice none 0 0, .slice none 0 0] 43)
      have X9 : (z23.alloc (Obj.cells #[.slice none 0 0, .slice none 0 0, .slice none 0 0, .int .i64 0, .slice none 0 0, .slice none 0 0, .slice none 0 0, .slice none 0 0, .int .i64 0, .slice none 0 0, .slice none 0 0] 43)).heap[z23.heap.size]? = some (Obj.cells #[.slice none 0 0, .slice none 0 0, .slice none 0 0, .int .i64 0, .slice none 0 0, .slice none 0 0, .slice none 0 0, .slice none 0 0, .int .i64 0, .slice none 0 0, .slice none 0 0] 43) := heap_alloc_new _ _
      have hX9 : w.heap.size ≤ z23.heap.size := B.size
      generalize z23.alloc (Obj.cells #[.slice none 0 0, .slice none 0 0, .slice none 0 0, .int .i64 0, .slice none 0 0, .slice none 0 0, .slice none 0 0, .slice none 0 0, .int .i64 0, .slice none 0 0, .slice none 0 0] 43) = z38 at hb X9 ⊢
      obtain ⟨e9x, he9⟩ : ∃ q0, q0 = z23.heap.size := ⟨_, rfl⟩
      rw [← he9] at X9 hX9 ⊢
      clear he9
      replace X5 := blk_bel X5 hb
      replace B := B.trans (hb.mono B.size)
      clear hb
      refine hK.out _ _ (hS _ B) (fun hHeld => ?_)
      clear hK
      refine wpAnyH_ready (rs := [1, 7]) (by kernel_rfl) (by simp) ?_
      refine AllReadyH.cons rfl (fun K hK => ?_) (AllReadyH.cons rfl (fun K hK => ?_) AllReadyH.nil)
      · have hlo := B.size
        go_simp
        go_wp2_with (go_at_call 18; with_reducible refine (s13code_any _ _ _ ns is ds _ (R1.below B) (R2.below B) (R3.below B) h1 h2 h3).mono ?_; rintro e z39 ⟨y1, y2, y3, rfl, O1, O2, O3, hb⟩)
        obtain ⟨d1, e1, rfl⟩ := own_form O1
        obtain ⟨d2, e2, rfl⟩ := own_form O2
        obtain ⟨d3, e3, rfl⟩ := own_form O3
        replace O1 := own_mono O1 hlo
        replace O2 := own_mono O2 hlo
        replace O3 := own_mono O3 hlo
        clear hlo
        replace X5 := blk_bel X5 hb
        replace X9 := blk_bel X9 hb
        replace B := B.trans (hb.mono B.size)
        clear hb
        refine hK.out _ _ (hS _ B) (fun hHeld => ?_)
        clear hK
        refine wpAnyH_ready (rs := [7]) (by kernel_rfl) (by simp) ?_
        refine AllReadyH.cons rfl (fun K hK => ?_) AllReadyH.nil
        refine step_make_full _ rfl _ _ 38 rfl w.heap.size 106 il _ 5 Tryz.underlying38 hil hzl0 hzl1 _ _ _ _ n rfl rfl rfl rfl (by rw [hzl2]; omega) (by unfold maxLen; omega) B.size ?_
        intro z40 OL hg
        have hb : Below z39.heap.size z39 z40 := (Below.refl _ _).grown hg (by simp) (fun k hk => by cases hk)
        obtain ⟨e7x, he7⟩ : ∃ q0, q0 = z39.heap.size := ⟨_, rfl⟩
        rw [← he7] at OL ⊢
        clear he7 hg
        replace O1 := own_below O1 hb
        replace O2 := own_below O2 hb
        replace O3 := own_below O3 hb
        replace X5 := blk_bel X5 hb
        replace X9 := blk_bel X9 hb
        replace B := B.trans (hb.mono B.size)
        clear hb
        refine hK.out _ _ (hS _ B) (fun hHeld => ?_)
        clear hK
        simp only [Act.put, List.setIfInBounds_toArray]
        refine wpAnyH_take (i := 8) (oi := ⟨some 34, .build 43 #[(0, .tmp 27), (1, .tmp 28), (2, .tmp 31), (3, .tmp 33), (6, .const (.int IntKind.i64 2))], 43, "l13_world.go:75", #[⟨1, .data⟩, ⟨2, .data⟩, ⟨5, .data⟩, ⟨7, .data⟩], none⟩) (v := .agg #[.slice d1 ns.length e1, .slice d2 is.length e2, .slice d3 ds.length e3, .int .i64 p, .slice (some ⟨w.heap.size, 0, none⟩) 1 1, .slice (some ⟨e7x, 0, none⟩) n n, .slice none 0 0, .slice none 0 0, .int .i64 2, .slice none 0 0, .slice none 0 0]) rfl (by kernel_rfl) (by kernel_rfl) (by kernel_rfl) (fun _ _ _ h => h) (Or.inl ⟨by rfl, by intro w hSw; go_simp⟩) (by assumption) ?_
        simp only [Act.put]
        refine wpAnyH_ready (rs := [10]) (by kernel_rfl) (by simp) ?_
        refine AllReadyH.cons rfl (fun K hK => ?_) AllReadyH.nil
        rw [if_pos (by rfl)]
        refine wp_store_row 43 _ _ rfl (e9x) #[.slice d1 ns.length e1, .slice d2 is.length e2, .slice d3 ds.length e3, .int .i64 p, .slice (some ⟨w.heap.size, 0, none⟩) 1 1, .slice (some ⟨e7x, 0, none⟩) n n, .slice none 0 0, .slice none 0 0, .int .i64 2, .slice none 0 0, .slice none 0 0] rfl rfl 43 #[.slice none 0 0, .slice none 0 0, .slice none 0 0, .int .i64 0, .slice none 0 0, .slice none 0 0, .slice none 0 0, .slice none 0 0, .int .i64 0, .slice none 0 0, .slice none 0 0] X9 Tryz.sizeWd rfl (by simp [Value.oneCell']) ?_
        have hoth := fun j (hj : j ≠ e9x) => setRow_other z40 (e9x) j #[.slice d1 ns.length e1, .slice d2 is.length e2, .slice d3 ds.length e3, .int .i64 p, .slice (some ⟨w.heap.size, 0, none⟩) 1 1, .slice (some ⟨e7x, 0, none⟩) n n, .slice none 0 0, .slice none 0 0, .int .i64 2, .slice none 0 0, .slice none 0 0] hj
        have B2 := below_setRow B (g := e9x) hX9 #[.slice d1 ns.length e1, .slice d2 is.length e2, .slice d3 ds.length e3, .int .i64 p, .slice (some ⟨w.heap.size, 0, none⟩) 1 1, .slice (some ⟨e7x, 0, none⟩) n n, .slice none 0 0, .slice none 0 0, .int .i64 2, .slice none 0 0, .slice none 0 0]
        have XX := setRow_heap _ _ _ #[.slice d1 ns.length e1, .slice d2 is.length e2, .slice d3 ds.length e3, .int .i64 p, .slice (some ⟨w.heap.size, 0, none⟩) 1 1, .slice (some ⟨e7x, 0, none⟩) n n, .slice none 0 0, .slice none 0 0, .int .i64 2, .slice none 0 0, .slice none 0 0] _ _ X9
        have n5 : (w.heap.size : Nat) ≠ e9x := blk_ne9 X5 X9 (by decide)
        have YH := own_blk (hX5) ((hoth _ n5).trans X5) rfl
        refine hK.out _ _ (hS _ B2) (fun hHeld => ?_)
        clear hK
        refine wpAnyH_done (by kernel_rfl) ?_ _
        exact NoPanic.normal (hQ _ _ _ _ _ _ _ _ _ _ _ _ _ _ (e9x) _ hX9 XX (own_other O1 (own_ne O1 X9 (by decide)) hoth) (own_other O2 (own_ne O2 X9 (by decide)) hoth) (own_other O3 (own_ne O3 X9 (by decide)) hoth) YH (own_other OL (own_ne OL X9 (by decide)) hoth) B2)
      · refine step_make_full _ rfl _ _ 38 rfl w.heap.size 106 il _ 5 Tryz.underlying38 hil hzl0 hzl1 _ _ _ _ n rfl rfl rfl rfl (by rw [hzl2]; omega) (by unfold maxLen; omega) B.size ?_
        intro z42 OL hg
        have hb : Below z38.heap.size z38 z42 := (Below.refl _ _).grown hg (by simp) (fun k hk => by cases hk)
        obtain ⟨e7x, he7⟩ : ∃ q0, q0 = z38.heap.size := ⟨_, rfl⟩
        rw [← he7] at OL ⊢
        clear he7 hg
        replace X5 := blk_bel X5 hb
        replace X9 := blk_bel X9 hb
        replace B := B.trans (hb.mono B.size)
        clear hb
        refine hK.out _ _ (hS _ B) (fun hHeld => ?_)
        clear hK
        simp only [Act.put, List.setIfInBounds_toArray]
        refine wpAnyH_ready (rs := [1]) (by kernel_rfl) (by simp) ?_
        refine AllReadyH.cons rfl (fun K hK => ?_) AllReadyH.nil
        have hlo := B.size
        go_simp
        go_wp2_with (go_at_call 18; with_reducible refine (s13code_any _ _ _ ns is ds _ (R1.below B) (R2.below B) (R3.below B) h1 h2 h3).mono ?_; rintro e z43 ⟨y1, y2, y3, rfl, O1, O2, O3, hb⟩)
        obtain ⟨d1, e1, rfl⟩ := own_form O1
        obtain ⟨d2, e2, rfl⟩ := own_form O2
        obtain ⟨d3, e3, rfl⟩ := own_form O3
        replace O1 := own_mono O1 hlo
        replace O2 := own_mono O2 hlo
        replace O3 := own_mono O3 hlo
        clear hlo
        replace OL := own_below OL hb
        replace X5 := blk_bel X5 hb
        replace X9 := blk_bel X9 hb
        replace B := B.trans (hb.mono B.size)
        clear hb
        refine hK.out _ _ (hS _ B) (fun hHeld => ?_)
        clear hK
        refine wpAnyH_take (i := 8) (oi := ⟨some 34, .build 43 #[(0, .tmp 27), (1, .tmp 28), (2, .tmp 31), (3, .tmp 33), (6, .const (.int IntKind.i64 2))], 43, "l13_world.go:75", #[⟨1, .data⟩, ⟨2, .data⟩, ⟨5, .data⟩, ⟨7, .data⟩], none⟩) (v := .agg #[.slice d1 ns.length e1, .slice d2 is.length e2, .slice d3 ds.length e3, .int .i64 p, .slice (some ⟨w.heap.size, 0, none⟩) 1 1, .slice (some ⟨e7x, 0, none⟩) n n, .slice none 0 0, .slice none 0 0, .int .i64 2, .slice none 0 0, .slice none 0 0]) rfl (by kernel_rfl) (by kernel_rfl) (by kernel_rfl) (fun _ _ _ h => h) (Or.inl ⟨by rfl, by intro w hSw; go_simp⟩) (by assumption) ?_
        simp only [Act.put, List.setIfInBounds_toArray, List.set_cons_zero, List.set_cons_succ]
        refine wpAnyH_ready (rs := [10]) (by kernel_rfl) (by simp) ?_
        refine AllReadyH.cons rfl (fun K hK => ?_) AllReadyH.nil
        rw [if_pos (by rfl)]
        refine wp_store_row 43 _ _ rfl (e9x) #[.slice d1 ns.length e1, .slice d2 is.length e2, .slice d3 ds.length e3, .int .i64 p, .slice (some ⟨w.heap.size, 0, none⟩) 1 1, .slice (some ⟨e7x, 0, none⟩) n n, .slice none 0 0, .slice none 0 0, .int .i64 2, .slice none 0 0, .slice none 0 0] rfl rfl 43 #[.slice none 0 0, .slice none 0 0, .slice none 0 0, .int .i64 0, .slice none 0 0, .slice none 0 0, .slice none 0 0, .slice none 0 0, .int .i64 0, .slice none 0 0, .slice none 0 0] X9 Tryz.sizeWd rfl (by simp [Value.oneCell']) ?_
        have hoth := fun j (hj : j ≠ e9x) => setRow_other z43 (e9x) j #[.slice d1 ns.length e1, .slice d2 is.length e2, .slice d3 ds.length e3, .int .i64 p, .slice (some ⟨w.heap.size, 0, none⟩) 1 1, .slice (some ⟨e7x, 0, none⟩) n n, .slice none 0 0, .slice none 0 0, .int .i64 2, .slice none 0 0, .slice none 0 0] hj
        have B2 := below_setRow B (g := e9x) hX9 #[.slice d1 ns.length e1, .slice d2 is.length e2, .slice d3 ds.length e3, .int .i64 p, .slice (some ⟨w.heap.size, 0, none⟩) 1 1, .slice (some ⟨e7x, 0, none⟩) n n, .slice none 0 0, .slice none 0 0, .int .i64 2, .slice none 0 0, .slice none 0 0]
        have XX := setRow_heap _ _ _ #[.slice d1 ns.length e1, .slice d2 is.length e2, .slice d3 ds.length e3, .int .i64 p, .slice (some ⟨w.heap.size, 0, none⟩) 1 1, .slice (some ⟨e7x, 0, none⟩) n n, .slice none 0 0, .slice none 0 0, .int .i64 2, .slice none 0 0, .slice none 0 0] _ _ X9
        have n5 : (w.heap.size : Nat) ≠ e9x := blk_ne9 X5 X9 (by decide)
        have YH := own_blk (hX5) ((hoth _ n5).trans X5) rfl
        refine hK.out _ _ (hS _ B2) (fun hHeld => ?_)
        clear hK
        refine wpAnyH_done (by kernel_rfl) ?_ _
        exact NoPanic.normal (hQ _ _ _ _ _ _ _ _ _ _ _ _ _ _ (e9x) _ hX9 XX (own_other O1 (own_ne O1 X9 (by decide)) hoth) (own_other O2 (own_ne O2 X9 (by decide)) hoth) (own_other O3 (own_ne O3 X9 (by decide)) hoth) YH (own_other OL (own_ne OL X9 (by decide)) hoth) B2)
  · refine step_make_full _ rfl _ _ 38 rfl w.heap.size 106 il _ 5 Tryz.underlying38 hil hzl0 hzl1 _ _ _ _ n rfl rfl rfl rfl (by rw [hzl2]; omega) (by unfold maxLen; omega) B.size ?_
    intro z45 OL hg
    have hb : Below w.drew.heap.size w.drew z45 := (Below.refl _ _).grown hg (by simp) (fun k hk => by cases hk)
    obtain ⟨e7x, he7⟩ : ∃ q0, q0 = w.drew.heap.size := ⟨_, rfl⟩
    rw [← he7] at OL ⊢
    clear he7 hg
    replace B := B.trans (hb.mono B.size)
    clear hb
    refine hK.out _ _ (hS _ B) (fun hHeld => ?_)
    clear hK
    simp only [Act.put, List.setIfInBounds_toArray]
    refine wpAnyH_ready (rs := [1, 5, 9]) (by kernel_rfl) (by simp) ?_
    refine AllReadyH.cons rfl (fun K hK => ?_) (AllReadyH.cons rfl (fun K hK => ?_) (AllReadyH.cons rfl (fun K hK => ?_) AllReadyH.nil))
    · have hlo := B.size
      go_simp
      go_wp2_with (go_at_call 18; with_reducible refine (s13code_any _ _ _ ns is ds _ (R1.below B) (R2.below B) (R3.below B) h1 h2 h3).mono ?_; rintro e z46 ⟨y1, y2, y3, rfl, O1, O2, O3, hb⟩)
      obtain ⟨d1, e1, rfl⟩ := own_form O1
      obtain ⟨d2, e2, rfl⟩ := own_form O2
      obtain ⟨d3, e3, rfl⟩ := own_form O3
      replace O1 := own_mono O1 hlo
      replace O2 := own_mono O2 hlo
      replace O3 := own_mono O3 hlo
      clear hlo
      replace OL := own_below OL hb
      replace B := B.trans (hb.mono B.size)
      clear hb
      refine hK.out _ _ (hS _ B) (fun hHeld => ?_)
      clear hK
      refine wpAnyH_ready (rs := [5, 9]) (by kernel_rfl) (by simp) ?_
      refine AllReadyH.cons rfl (fun K hK => ?_) (AllReadyH.cons rfl (fun K hK => ?_) AllReadyH.nil)
      · go_simp
        go_wp2_with fail
        have hb := alloc_bel z46 (Obj.cells #[.int .i64 0, p0, p1, p2, p3, p4, p5, p6, p7, p8, p9, p10] 65)
        have X5 : (z46.alloc (Obj.cells #[.int .i64 0, p0, p1, p2, p3, p4, p5, p6, p7, p8, p9, p10] 65)).heap[z46.heap.size]? = some (Obj.cells #[.int .i64 0, p0, p1, p2, p3, p4, p5, p6, p7, p8, p9, p10] 65) := heap_alloc_new _ _
        have hX5 : w.heap.size ≤ z46.heap.size := B.size
        generalize z46.alloc (Obj.cells #[.int .i64 0, p0, p1, p2, p3, p4, p5, p6, p7, p8, p9, p10] 65) = z47 at hb X5 ⊢
        obtain ⟨e5x, he5⟩ : ∃ q0, q0 = z46.heap.size := ⟨_, rfl⟩
        rw [← he5] at X5 hX5 ⊢
        clear he5
        replace O1 := own_below O1 hb
        replace O2 := own_below O2 hb
        replace O3 := own_below O3 hb
        replace OL := own_below OL hb
        replace B := B.trans (hb.mono B.size)
        clear hb
        refine hK.out _ _ (hS _ B) (fun hHeld => ?_)
        clear hK
        refine wpAnyH_take (i := 8) (oi := ⟨some 34, .build 43 #[(0, .tmp 27), (1, .tmp 28), (2, .tmp 31), (3, .tmp 33), (6, .const (.int IntKind.i64 2))], 43, "l13_world.go:75", #[⟨1, .data⟩, ⟨2, .data⟩, ⟨5, .data⟩, ⟨7, .data⟩], none⟩) (v := .agg #[.slice d1 ns.length e1, .slice d2 is.length e2, .slice d3 ds.length e3, .int .i64 p, .slice (some ⟨e5x, 0, none⟩) 1 1, .slice (some ⟨e7x, 0, none⟩) n n, .slice none 0 0, .slice none 0 0, .int .i64 2, .slice none 0 0, .slice none 0 0]) rfl (by kernel_rfl) (by kernel_rfl) (by kernel_rfl) (fun _ _ _ h => h) (Or.inl ⟨by rfl, by intro w hSw; go_simp⟩) (by assumption) ?_
        simp only [Act.put, List.setIfInBounds_toArray, List.set_cons_zero, List.set_cons_succ]
        refine wpAnyH_ready (rs := [9]) (by kernel_rfl) (by simp) ?_
        refine AllReadyH.cons rfl (fun K hK => ?_) AllReadyH.nil
        go_simp
        go_wp2_with fail
        have hb := alloc_bel z47 (Obj.cells #[.slice none 0 0, .slice none 0 0, .slice none 0 0, .int .i64 0, .slice none 0 0, .slice none 0 0, .slice none 0 0, .slice none 0 0, .int .i64 0, .slice none 0 0, .slice none 0 0] 43)
        have X9 : (z47.alloc (Obj.cells #[.slice none 0 0, .slice none 0 0, .slice none 0 0, .int .i64 0, .slice none 0 0, .slice none 0 0, .slice none 0 0, .slice none 0 0, .int .i64 0, .slice none 0 0, .slice none 0 0] 43)).heap[z47.heap.size]? = some (Obj.cells #[.slice none 0 0, .slice none 0 0, .slice none 0 0, .int .i64 0, .slice none 0 0, .slice none 0 0, .slice none 0 0, .slice none 0 0, .int .i64 0, .slice none 0 0, .slice none 0 0] 43) := heap_alloc_new _ _
        have hX9 : w.heap.size ≤ z47.heap.size := B.size
        generalize z47.alloc (Obj.cells #[.slice none 0 0, .slice none 0 0, .slice none 0 0, .int .i64 0, .slice none 0 0, .slice none 0 0, .slice none 0 0, .slice none 0 0, .int .i64 0, .slice none 0 0, .slice none 0 0] 43) = z48 at hb X9 ⊢
        obtain ⟨e9x, he9⟩ : ∃ q0, q0 = z47.heap.size := ⟨_, rfl⟩
        rw [← he9] at X9 hX9 ⊢
        clear he9
        replace O1 := own_below O1 hb
        replace O2 := own_below O2 hb
        replace O3 := own_below O3 hb
        replace OL := own_below OL hb
        replace X5 := blk_bel X5 hb
        replace B := B.trans (hb.mono B.size)
        clear hb
        refine hK.out _ _ (hS _ B) (fun hHeld => ?_)
        clear hK
        refine wpAnyH_ready (rs := [10]) (by kernel_rfl) (by simp) ?_
        refine AllReadyH.cons rfl (fun K hK => ?_) AllReadyH.nil
        rw [if_pos (by rfl)]
        refine wp_store_row 43 _ _ rfl (e9x) #[.slice d1 ns.length e1, .slice d2 is.length e2, .slice d3 ds.length e3, .int .i64 p, .slice (some ⟨e5x, 0, none⟩) 1 1, .slice (some ⟨e7x, 0, none⟩) n n, .slice none 0 0, .slice none 0 0, .int .i64 2, .slice none 0 0, .slice none 0 0] rfl rfl 43 #[.slice none 0 0, .slice none 0 0, .slice none 0 0, .int .i64 0, .slice none 0 0, .slice none 0 0, .slice none 0 0, .slice none 0 0, .int .i64 0, .slice none 0 0, .slice none 0 0] X9 Tryz.sizeWd rfl (by simp [Value.oneCell']) ?_
        have hoth := fun j (hj : j ≠ e9x) => setRow_other z48 (e9x) j #[.slice d1 ns.length e1, .slice d2 is.length e2, .slice d3 ds.length e3, .int .i64 p, .slice (some ⟨e5x, 0, none⟩) 1 1, .slice (some ⟨e7x, 0, none⟩) n n, .slice none 0 0, .slice none 0 0, .int .i64 2, .slice none 0 0, .slice none 0 0] hj
        have B2 := below_setRow B (g := e9x) hX9 #[.slice d1 ns.length e1, .slice d2 is.length e2, .slice d3 ds.length e3, .int .i64 p, .slice (some ⟨e5x, 0, none⟩) 1 1, .slice (some ⟨e7x, 0, none⟩) n n, .slice none 0 0, .slice none 0 0, .int .i64 2, .slice none 0 0, .slice none 0 0]
        have XX := setRow_heap _ _ _ #[.slice d1 ns.length e1, .slice d2 is.length e2, .slice d3 ds.length e3, .int .i64 p, .slice (some ⟨e5x, 0, none⟩) 1 1, .slice (some ⟨e7x, 0, none⟩) n n, .slice none 0 0, .slice none 0 0, .int .i64 2, .slice none 0 0, .slice none 0 0] _ _ X9
        have n5 : (e5x : Nat) ≠ e9x := blk_ne9 X5 X9 (by decide)
        have YH := own_blk (hX5) ((hoth _ n5).trans X5) rfl
        refine hK.out _ _ (hS _ B2) (fun hHeld => ?_)
        clear hK
        refine wpAnyH_done (by kernel_rfl) ?_ _
        exact NoPanic.normal (hQ _ _ _ _ _ _ _ _ _ _ _ _ _ _ (e9x) _ hX9 XX (own_other O1 (own_ne O1 X9 (by decide)) hoth) (own_other O2 (own_ne O2 X9 (by decide)) hoth) (own_other O3 (own_ne O3 X9 (by decide)) hoth) YH (own_other OL (own_ne OL X9 (by decide)) hoth) B2)
      · go_simp
        go_wp2_with fail
        have hb := alloc_bel z46 (Obj.cells #[.slice none 0 0, .slice none 0 0, .slice none 0 0, .int .i64 0, .slice none 0 0, .slice none 0 0, .slice none 0 0, .slice none 0 0, .int .i64 0, .slice none 0 0, .slice none 0 0] 43)
        have X9 : (z46.alloc (Obj.cells #[.slice none 0 0, .slice none 0 0, .slice none 0 0, .int .i64 0, .slice none 0 0, .slice none 0 0, .slice none 0 0, .slice none 0 0, .int .i64 0, .slice none 0 0, .slice none 0 0] 43)).heap[z46.heap.size]? = some (Obj.cells #[.slice none 0 0, .slice none 0 0, .slice none 0 0, .int .i64 0, .slice none 0 0, .slice none 0 0, .slice none 0 0, .slice none 0 0, .int .i64 0, .slice none 0 0, .slice none 0 0] 43) := heap_alloc_new _ _
        have hX9 : w.heap.size ≤ z46.heap.size := B.size
        generalize z46.alloc (Obj.cells #[.slice none 0 0, .slice none 0 0, .slice none 0 0, .int .i64 0, .slice none 0 0, .slice none 0 0, .slice none 0 0, .slice none 0 0, .int .i64 0, .slice none 0 0, .slice none 0 0] 43) = z50 at hb X9 ⊢
        obtain ⟨e9x, he9⟩ : ∃ q0, q0 = z46.heap.size := ⟨_, rfl⟩
        rw [← he9] at X9 hX9 ⊢
        clear he9
        replace O1 := own_below O1 hb
        replace O2 := own_below O2 hb
        replace O3 := own_below O3 hb
        replace OL := own_below OL hb
        replace B := B.trans (hb.mono B.size)
        clear hb
        refine hK.out _ _ (hS _ B) (fun hHeld => ?_)
        clear hK
        refine wpAnyH_ready (rs := [5]) (by kernel_rfl) (by simp) ?_
        refine AllReadyH.cons rfl (fun K hK => ?_) AllReadyH.nil
        go_simp
        go_wp2_with fail
        have hb := alloc_bel z50 (Obj.cells #[.int .i64 0, p0, p1, p2, p3, p4, p5, p6, p7, p8, p9, p10] 65)
        have X5 : (z50.alloc (Obj.cells #[.int .i64 0, p0, p1, p2, p3, p4, p5, p6, p7, p8, p9, p10] 65)).heap[z50.heap.size]? = some (Obj.cells #[.int .i64 0, p0, p1, p2, p3, p4, p5, p6, p7, p8, p9, p10] 65) := heap_alloc_new _ _
        have hX5 : w.heap.size ≤ z50.heap.size := B.size
        generalize z50.alloc (Obj.cells #[.int .i64 0, p0, p1, p2, p3, p4, p5, p6, p7, p8, p9, p10] 65) = z51 at hb X5 ⊢
        obtain ⟨e5x, he5⟩ : ∃ q0, q0 = z50.heap.size := ⟨_, rfl⟩
        rw [← he5] at X5 hX5 ⊢
        clear he5
        replace O1 := own_below O1 hb
        replace O2 := own_below O2 hb
        replace O3 := own_below O3 hb
        replace OL := own_below OL hb
        replace X9 := blk_bel X9 hb
        replace B := B.trans (hb.mono B.size)
        clear hb
        refine hK.out _ _ (hS _ B) (fun hHeld => ?_)
        clear hK
        refine wpAnyH_take (i := 8) (oi := ⟨some 34, .build 43 #[(0, .tmp 27), (1, .tmp 28), (2, .tmp 31), (3, .tmp 33), (6, .const (.int IntKind.i64 2))], 43, "l13_world.go:75", #[⟨1, .data⟩, ⟨2, .data⟩, ⟨5, .data⟩, ⟨7, .data⟩], none⟩) (v := .agg #[.slice d1 ns.length e1, .slice d2 is.length e2, .slice d3 ds.length e3, .int .i64 p, .slice (some ⟨e5x, 0, none⟩) 1 1, .slice (some ⟨e7x, 0, none⟩) n n, .slice none 0 0, .slice none 0 0, .int .i64 2, .slice none 0 0, .slice none 0 0]) rfl (by kernel_rfl) (by kernel_rfl) (by kernel_rfl) (fun _ _ _ h => h) (Or.inl ⟨by rfl, by intro w hSw; go_simp⟩) (by assumption) ?_
        simp only [Act.put, List.setIfInBounds_toArray, List.set_cons_zero, List.set_cons_succ]
        refine wpAnyH_ready (rs := [10]) (by kernel_rfl) (by simp) ?_
        refine AllReadyH.cons rfl (fun K hK => ?_) AllReadyH.nil
        rw [if_pos (by rfl)]
        refine wp_store_row 43 _ _ rfl (e9x) #[.slice d1 ns.length e1, .slice d2 is.length e2, .slice d3 ds.length e3, .int .i64 p, .slice (some ⟨e5x, 0, none⟩) 1 1, .slice (some ⟨e7x, 0, none⟩) n n, .slice none 0 0, .slice none 0 0, .int .i64 2, .slice none 0 0, .slice none 0 0] rfl rfl 43 #[.slice none 0 0, .slice none 0 0, .slice none 0 0, .int .i64 0, .slice none 0 0, .slice none 0 0, .slice none 0 0, .slice none 0 0, .int .i64 0, .slice none 0 0, .slice none 0 0] X9 Tryz.sizeWd rfl (by simp [Value.oneCell']) ?_
        have hoth := fun j (hj : j ≠ e9x) => setRow_other z51 (e9x) j #[.slice d1 ns.length e1, .slice d2 is.length e2, .slice d3 ds.length e3, .int .i64 p, .slice (some ⟨e5x, 0, none⟩) 1 1, .slice (some ⟨e7x, 0, none⟩) n n, .slice none 0 0, .slice none 0 0, .int .i64 2, .slice none 0 0, .slice none 0 0] hj
        have B2 := below_setRow B (g := e9x) hX9 #[.slice d1 ns.length e1, .slice d2 is.length e2, .slice d3 ds.length e3, .int .i64 p, .slice (some ⟨e5x, 0, none⟩) 1 1, .slice (some ⟨e7x, 0, none⟩) n n, .slice none 0 0, .slice none 0 0, .int .i64 2, .slice none 0 0, .slice none 0 0]
        have XX := setRow_heap _ _ _ #[.slice d1 ns.length e1, .slice d2 is.length e2, .slice d3 ds.length e3, .int .i64 p, .slice (some ⟨e5x, 0, none⟩) 1 1, .slice (some ⟨e7x, 0, none⟩) n n, .slice none 0 0, .slice none 0 0, .int .i64 2, .slice none 0 0, .slice none 0 0] _ _ X9
        have n5 : (e5x : Nat) ≠ e9x := blk_ne9 X5 X9 (by decide)
        have YH := own_blk (hX5) ((hoth _ n5).trans X5) rfl
        refine hK.out _ _ (hS _ B2) (fun hHeld => ?_)
        clear hK
        refine wpAnyH_done (by kernel_rfl) ?_ _
        exact NoPanic.normal (hQ _ _ _ _ _ _ _ _ _ _ _ _ _ _ (e9x) _ hX9 XX (own_other O1 (own_ne O1 X9 (by decide)) hoth) (own_other O2 (own_ne O2 X9 (by decide)) hoth) (own_other O3 (own_ne O3 X9 (by decide)) hoth) YH (own_other OL (own_ne OL X9 (by decide)) hoth) B2)
    · go_simp
      go_wp2_with fail
      have hb := alloc_bel z45 (Obj.cells #[.int .i64 0, p0, p1, p2, p3, p4, p5, p6, p7, p8, p9, p10] 65)
      have X5 : (z45.alloc (Obj.cells #[.int .i64 0, p0, p1, p2, p3, p4, p5, p6, p7, p8, p9, p10] 65)).heap[z45.heap.size]? = some (Obj.cells #[.int .i64 0, p0, p1, p2, p3, p4, p5, p6, p7, p8, p9, p10] 65) := heap_alloc_new _ _
      have hX5 : w.heap.size ≤ z45.heap.size := B.size
      generalize z45.alloc (Obj.cells #[.int .i64 0, p0, p1, p2, p3, p4, p5, p6, p7, p8, p9, p10] 65) = z53 at hb X5 ⊢
      obtain ⟨e5x, he5⟩ : ∃ q0, q0 = z45.heap.size := ⟨_, rfl⟩
      rw [← he5] at X5 hX5 ⊢
      clear he5
      replace OL := own_below OL hb
      replace B := B.trans (hb.mono B.size)
      clear hb
      refine hK.out _ _ (hS _ B) (fun hHeld => ?_)
      clear hK
      refine wpAnyH_ready (rs := [1, 9]) (by kernel_rfl) (by simp) ?_
      refine AllReadyH.cons rfl (fun K hK => ?_) (AllReadyH.cons rfl (fun K hK => ?_) AllReadyH.nil)
      · have hlo := B.size
        go_simp
        go_wp2_with (go_at_call 18; with_reducible refine (s13code_any _ _ _ ns is ds _ (R1.below B) (R2.below B) (R3.below B) h1 h2 h3).mono ?_; rintro e z54 ⟨y1, y2, y3, rfl, O1, O2, O3, hb⟩)
        obtain ⟨d1, e1, rfl⟩ := own_form O1
        obtain ⟨d2, e2, rfl⟩ := own_form O2
        obtain ⟨d3, e3, rfl⟩ := own_form O3
        replace O1 := own_mono O1 hlo
        replace O2 := own_mono O2 hlo
        replace O3 := own_mono O3 hlo
        clear hlo
        replace OL := own_below OL hb
        replace X5 := blk_bel X5 hb
        replace B := B.trans (hb.mono B.size)
        clear hb
        refine hK.out _ _ (hS _ B) (fun hHeld => ?_)
        clear hK
        refine wpAnyH_take (i := 8) (oi := ⟨some 34, .build 43 #[(0, .tmp 27), (1, .tmp 28), (2, .tmp 31), (3, .tmp 33), (6, .const (.int IntKind.i64 2))], 43, "l13_world.go:75", #[⟨1, .data⟩, ⟨2, .data⟩, ⟨5, .data⟩, ⟨7, .data⟩], none⟩) (v := .agg #[.slice d1 ns.length e1, .slice d2 is.length e2, .slice d3 ds.length e3, .int .i64 p, .slice (some ⟨e5x, 0, none⟩) 1 1, .slice (some ⟨e7x, 0, none⟩) n n, .slice none 0 0, .slice none 0 0, .int .i64 2, .slice none 0 0, .slice none 0 0]) rfl (by kernel_rfl) (by kernel_rfl) (by kernel_rfl) (fun _ _ _ h => h) (Or.inl ⟨by rfl, by intro w hSw; go_simp⟩) (by assumption) ?_
        simp only [Act.put, List.setIfInBounds_toArray, List.set_cons_zero, List.set_cons_succ]
        refine wpAnyH_ready (rs := [9]) (by kernel_rfl) (by simp) ?_
        refine AllReadyH.cons rfl (fun K hK => ?_) AllReadyH.nil
        go_simp
        go_wp2_with fail
        have hb := alloc_bel z54 (Obj.cells #[.slice none 0 0, .slice none 0 0, .slice none 0 0, .int .i64 0, .slice none 0 0, .slice none 0 0, .slice none 0 0, .slice none 0 0, .int .i64 0, .slice none 0 0, .slice none 0 0] 43)
        have X9 : (z54.alloc (Obj.cells #[.slice none 0 0, .slice none 0 0, .slice none 0 0, .int .i64 0, .slice none 0 0, .slice none 0 0, .slice none 0 0, .slice none 0 0, .int .i64 0, .slice none 0 0, .slice none 0 0] 43)).heap[z54.heap.size]? = some (Obj.cells #[.slice none 0 0, .slice none 0 0, .slice none 0 0, .int .i64 0, .slice none 0 0, .slice none 0 0, .slice none 0 0, .slice none 0 0, .int .i64 0, .slice none 0 0, .slice none 0 0] 43) := heap_alloc_new _ _
        have hX9 : w.heap.size ≤ z54.heap.size := B.size
        generalize z54.alloc (Obj.cells #[.slice none 0 0, .slice none 0 0, .slice none 0 0, .int .i64 0, .slice none 0 0, .slice none 0 0, .slice none 0 0, .slice none 0 0, .int .i64 0, .slice none 0 0, .slice none 0 0] 43) = z55 at hb X9 ⊢
        obtain ⟨e9x, he9⟩ : ∃ q0, q0 = z54.heap.size := ⟨_, rfl⟩
        rw [← he9] at X9 hX9 ⊢
        clear he9
        replace O1 := own_below O1 hb
        replace O2 := own_below O2 hb
        replace O3 := own_below O3 hb
        replace OL := own_below OL hb
        replace X5 := blk_bel X5 hb
        replace B := B.trans (hb.mono B.size)
        clear hb
        refine hK.out _ _ (hS _ B) (fun hHeld => ?_)
        clear hK
        refine wpAnyH_ready (rs := [10]) (by kernel_rfl) (by simp) ?_
        refine AllReadyH.cons rfl (fun K hK => ?_) AllReadyH.nil
        rw [if_pos (by rfl)]
        refine wp_store_row 43 _ _ rfl (e9x) #[.slice d1 ns.length e1, .slice d2 is.length e2, .slice d3 ds.length e3, .int .i64 p, .slice (some ⟨e5x, 0, none⟩) 1 1, .slice (some ⟨e7x, 0, none⟩) n n, .slice none 0 0, .slice none 0 0, .int .i64 2, .slice none 0 0, .slice none 0 0] rfl rfl 43 #[.slice none 0 0, .slice none 0 0, .slice none 0 0, .int .i64 0, .slice none 0 0, .slice none 0 0, .slice none 0 0, .slice none 0 0, .int .i64 0, .slice none 0 0, .slice none 0 0] X9 Tryz.sizeWd rfl (by simp [Value.oneCell']) ?_
        have hoth := fun j (hj : j ≠ e9x) => setRow_other z55 (e9x) j #[.slice d1 ns.length e1, .slice d2 is.length e2, .slice d3 ds.length e3, .int .i64 p, .slice (some ⟨e5x, 0, none⟩) 1 1, .slice (some ⟨e7x, 0, none⟩) n n, .slice none 0 0, .slice none 0 0, .int .i64 2, .slice none 0 0, .slice none 0 0] hj
        have B2 := below_setRow B (g := e9x) hX9 #[.slice d1 ns.length e1, .slice d2 is.length e2, .slice d3 ds.length e3, .int .i64 p, .slice (some ⟨e5x, 0, none⟩) 1 1, .slice (some ⟨e7x, 0, none⟩) n n, .slice none 0 0, .slice none 0 0, .int .i64 2, .slice none 0 0, .slice none 0 0]
        have XX := setRow_heap _ _ _ #[.slice d1 ns.length e1, .slice d2 is.length e2, .slice d3 ds.length e3, .int .i64 p, .slice (some ⟨e5x, 0, none⟩) 1 1, .slice (some ⟨e7x, 0, none⟩) n n, .slice none 0 0, .slice none 0 0, .int .i64 2, .slice none 0 0, .slice none 0 0] _ _ X9
        have n5 : (e5x : Nat) ≠ e9x := blk_ne9 X5 X9 (by decide)
        have YH := own_blk (hX5) ((hoth _ n5).trans X5) rfl
        refine hK.out _ _ (hS _ B2) (fun hHeld => ?_)
        clear hK
        refine wpAnyH_done (by kernel_rfl) ?_ _
        exact NoPanic.normal (hQ _ _ _ _ _ _ _ _ _ _ _ _ _ _ (e9x) _ hX9 XX (own_other O1 (own_ne O1 X9 (by decide)) hoth) (own_other O2 (own_ne O2 X9 (by decide)) hoth) (own_other O3 (own_ne O3 X9 (by decide)) hoth) YH (own_other OL (own_ne OL X9 (by decide)) hoth) B2)
      · go_simp
        go_wp2_with fail
        have hb := alloc_bel z53 (Obj.cells #[.slice none 0 0, .slice none 0 0, .slice none 0 0, .int .i64 0, .slice none 0 0, .slice none 0 0, .slice none 0 0, .slice none 0 0, .int .i64 0, .slice none 0 0, .slice none 0 0] 43)
        have X9 : (z53.alloc (Obj.cells #[.slice none 0 0, .slice none 0 0, .slice none 0 0, .int .i64 0, .slice none 0 0, .slice none 0 0, .slice none 0 0, .slice none 0 0, .int .i64 0, .slice none 0 0, .slice none 0 0] 43)).heap[z53.heap.size]? = some (Obj.cells #[.slice none 0 0, .slice none 0 0, .slice none 0 0, .int .i64 0, .slice none 0 0, .slice none 0 0, .slice none 0 0, .slice none 0 0, .int .i64 0, .slice none 0 0, .slice none 0 0] 43) := heap_alloc_new _ _
        have hX9 : w.heap.size ≤ z53.heap.size := B.size
        generalize z53.alloc (Obj.cells #[.slice none 0 0, .slice none 0 0, .slice none 0 0, .int .i64 0, .slice none 0 0, .slice none 0 0, .slice none 0 0, .slice none 0 0, .int .i64 0, .slice none 0 0, .slice none 0 0] 43) = z57 at hb X9 ⊢
        obtain ⟨e9x, he9⟩ : ∃ q0, q0 = z53.heap.size := ⟨_, rfl⟩
        rw [← he9] at X9 hX9 ⊢
        clear he9
        replace OL := own_below OL hb
        replace X5 := blk_bel X5 hb
        replace B := B.trans (hb.mono B.size)
        clear hb
        refine hK.out _ _ (hS _ B) (fun hHeld => ?_)
        clear hK
        refine wpAnyH_ready (rs := [1]) (by kernel_rfl) (by simp) ?_
        refine AllReadyH.cons rfl (fun K hK => ?_) AllReadyH.nil
        have hlo := B.size
        go_simp
        go_wp2_with (go_at_call 18; with_reducible refine (s13code_any _ _ _ ns is ds _ (R1.below B) (R2.below B) (R3.below B) h1 h2 h3).mono ?_; rintro e z58 ⟨y1, y2, y3, rfl, O1, O2, O3, hb⟩)
        obtain ⟨d1, e1, rfl⟩ := own_form O1
        obtain ⟨d2, e2, rfl⟩ := own_form O2
        obtain ⟨d3, e3, rfl⟩ := own_form O3
        replace O1 := own_mono O1 hlo
        replace O2 := own_mono O2 hlo
        replace O3 := own_mono O3 hlo
        clear hlo
        replace OL := own_below OL hb
        replace X5 := blk_bel X5 hb
        replace X9 := blk_bel X9 hb
        replace B := B.trans (hb.mono B.size)
        clear hb
        refine hK.out _ _ (hS _ B) (fun hHeld => ?_)
        clear hK
        refine wpAnyH_take (i := 8) (oi := ⟨some 34, .build 43 #[(0, .tmp 27), (1, .tmp 28), (2, .tmp 31), (3, .tmp 33), (6, .const (.int IntKind.i64 2))], 43, "l13_world.go:75", #[⟨1, .data⟩, ⟨2, .data⟩, ⟨5, .data⟩, ⟨7, .data⟩], none⟩) (v := .agg #[.slice d1 ns.length e1, .slice d2 is.length e2, .slice d3 ds.length e3, .int .i64 p, .slice (some ⟨e5x, 0, none⟩) 1 1, .slice (some ⟨e7x, 0, none⟩) n n, .slice none 0 0, .slice none 0 0, .int .i64 2, .slice none 0 0, .slice none 0 0]) rfl (by kernel_rfl) (by kernel_rfl) (by kernel_rfl) (fun _ _ _ h => h) (Or.inl ⟨by rfl, by intro w hSw; go_simp⟩) (by assumption) ?_
        simp only [Act.put, List.setIfInBounds_toArray, List.set_cons_zero, List.set_cons_succ]
        refine wpAnyH_ready (rs := [10]) (by kernel_rfl) (by simp) ?_
        refine AllReadyH.cons rfl (fun K hK => ?_) AllReadyH.nil
        rw [if_pos (by rfl)]
        refine wp_store_row 43 _ _ rfl (e9x) #[.slice d1 ns.length e1, .slice d2 is.length e2, .slice d3 ds.length e3, .int .i64 p, .slice (some ⟨e5x, 0, none⟩) 1 1, .slice (some ⟨e7x, 0, none⟩) n n, .slice none 0 0, .slice none 0 0, .int .i64 2, .slice none 0 0, .slice none 0 0] rfl rfl 43 #[.slice none 0 0, .slice none 0 0, .slice none 0 0, .int .i64 0, .slice none 0 0, .slice none 0 0, .slice none 0 0, .slice none 0 0, .int .i64 0, .slice none 0 0, .slice none 0 0] X9 Tryz.sizeWd rfl (by simp [Value.oneCell']) ?_
        have hoth := fun j (hj : j ≠ e9x) => setRow_other z58 (e9x) j #[.slice d1 ns.length e1, .slice d2 is.length e2, .slice d3 ds.length e3, .int .i64 p, .slice (some ⟨e5x, 0, none⟩) 1 1, .slice (some ⟨e7x, 0, none⟩) n n, .slice none 0 0, .slice none 0 0, .int .i64 2, .slice none 0 0, .slice none 0 0] hj
        have B2 := below_setRow B (g := e9x) hX9 #[.slice d1 ns.length e1, .slice d2 is.length e2, .slice d3 ds.length e3, .int .i64 p, .slice (some ⟨e5x, 0, none⟩) 1 1, .slice (some ⟨e7x, 0, none⟩) n n, .slice none 0 0, .slice none 0 0, .int .i64 2, .slice none 0 0, .slice none 0 0]
        have XX := setRow_heap _ _ _ #[.slice d1 ns.length e1, .slice d2 is.length e2, .slice d3 ds.length e3, .int .i64 p, .slice (some ⟨e5x, 0, none⟩) 1 1, .slice (some ⟨e7x, 0, none⟩) n n, .slice none 0 0, .slice none 0 0, .int .i64 2, .slice none 0 0, .slice none 0 0] _ _ X9
        have n5 : (e5x : Nat) ≠ e9x := blk_ne9 X5 X9 (by decide)
        have YH := own_blk (hX5) ((hoth _ n5).trans X5) rfl
        refine hK.out _ _ (hS _ B2) (fun hHeld => ?_)
        clear hK
        refine wpAnyH_done (by kernel_rfl) ?_ _
        exact NoPanic.normal (hQ _ _ _ _ _ _ _ _ _ _ _ _ _ _ (e9x) _ hX9 XX (own_other O1 (own_ne O1 X9 (by decide)) hoth) (own_other O2 (own_ne O2 X9 (by decide)) hoth) (own_other O3 (own_ne O3 X9 (by decide)) hoth) YH (own_other OL (own_ne OL X9 (by decide)) hoth) B2)
    · go_simp
      go_wp2_with fail
      have hb := alloc_bel z45 (Obj.cells #[.slice none 0 0, .slice none 0 0, .slice none 0 0, .int .i64 0, .slice none 0 0, .slice none 0 0, .slice none 0 0, .slice none 0 0, .int .i64 0, .slice none 0 0, .slice none 0 0] 43)
      have X9 : (z45.alloc (Obj.cells #[.slice none 0 0, .slice none 0 0, .slice none 0 0, .int .i64 0, .slice none 0 0, .slice none 0 0, .slice none 0 0, .slice none 0 0, .int .i64 0, .slice none 0 0, .slice none 0 0] 43)).heap[z45.heap.size]? = some (Obj.cells #[.slice none 0 0, .slice none 0 0, .slice none 0 0, .int .i64 0, .slice none 0 0, .slice none 0 0, .slice none 0 0, .slice none 0 0, .int .i64 0, .slice none 0 0, .slice none 0 0] 43) := heap_alloc_new _ _
      have hX9 : w.heap.size ≤ z45.heap.size := B.size
      generalize z45.alloc (Obj.cells #[.slice none 0 0, .slice none 0 0, .slice none 0 0, .int .i64 0, .slice none 0 0, .slice none 0 0, .slice none 0 0, .slice none 0 0, .int .i64 0, .slice none 0 0, .slice none 0 0] 43) = z60 at hb X9 ⊢
      obtain ⟨e9x, he9⟩ : ∃ q0, q0 = z45.heap.size := ⟨_, rfl⟩
      rw [← he9] at X9 hX9 ⊢
      clear he9
      replace OL := own_below OL hb
      replace B := B.trans (hb.mono B.size)
      clear hb
      refine hK.out _ _ (hS _ B) (fun hHeld => ?_)
      clear hK
      refine wpAnyH_ready (rs := [1, 5]) (by kernel_rfl) (by simp) ?_
      refine AllReadyH.cons rfl (fun K hK => ?_) (AllReadyH.cons rfl (fun K hK => ?_) AllReadyH.nil)
      · have hlo := B.size
        go_simp
        go_wp2_with (go_at_call 18; with_reducible refine (s13code_any _ _ _ ns is ds _ (R1.below B) (R2.below B) (R3.below B) h1 h2 h3).mono ?_; rintro e z61 ⟨y1, y2, y3, rfl, O1, O2, O3, hb⟩)
        obtain ⟨d1, e1, rfl⟩ := own_form O1
        obtain ⟨d2, e2, rfl⟩ := own_form O2
        obtain ⟨d3, e3, rfl⟩ := own_form O3
        replace O1 := own_mono O1 hlo
        replace O2 := own_mono O2 hlo
        replace O3 := own_mono O3 hlo
        clear hlo
        replace OL := own_below OL hb
        replace X9 := blk_bel X9 hb
        replace B := B.trans (hb.mono B.size)
        clear hb
        refine hK.out _ _ (hS _ B) (fun hHeld => ?_)
        clear hK
        refine wpAnyH_ready (rs := [5]) (by kernel_rfl) (by simp) ?_
        refine AllReadyH.cons rfl (fun K hK => ?_) AllReadyH.nil
        go_simp
        go_wp2_with fail
        have hb := alloc_bel z61 (Obj.cells #[.int .i64 0, p0, p1, p2, p3, p4, p5, p6, p7, p8, p9, p10] 65)
        have X5 : (z61.alloc (Obj.cells #[.int .i64 0, p0, p1, p2, p3, p4, p5, p6, p7, p8, p9, p10] 65)).heap[z61.heap.size]? = some (Obj.cells #[.int .i64 0, p0, p1, p2, p3, p4, p5, p6, p7, p8, p9, p10] 65) := heap_alloc_new _ _
        have hX5 : w.heap.size ≤ z61.heap.size := B.size
        generalize z61.alloc (Obj.cells #[.int .i64 0, p0, p1, p2, p3, p4, p5, p6, p7, p8, p9, p10] 65) = z62 at hb X5 ⊢
        obtain ⟨e5x, he5⟩ : ∃ q0, q0 = z61.heap.size := ⟨_, rfl⟩
        rw [← he5] at X5 hX5 ⊢
        clear he5
        replace O1 := own_below O1 hb
        replace O2 := own_below O2 hb
        replace O3 := own_below O3 hb
        replace OL := own_below OL hb
        replace X9 := blk_bel X9 hb
        replace B := B.trans (hb.mono B.size)
        clear hb
        refine hK.out _ _ (hS _ B) (fun hHeld => ?_)
        clear hK
        refine wpAnyH_take (i := 8) (oi := ⟨some 34, .build 43 #[(0, .tmp 27), (1, .tmp 28), (2, .tmp 31), (3, .tmp 33), (6, .const (.int IntKind.i64 2))], 43, "l13_world.go:75", #[⟨1, .data⟩, ⟨2, .data⟩, ⟨5, .data⟩, ⟨7, .data⟩], none⟩) (v := .agg #[.slice d1 ns.length e1, .slice d2 is.length e2, .slice d3 ds.length e3, .int .i64 p, .slice (some ⟨e5x, 0, none⟩) 1 1, .slice (some ⟨e7x, 0, none⟩) n n, .slice none 0 0, .slice none 0 0, .int .i64 2, .slice none 0 0, .slice none 0 0]) rfl (by kernel_rfl) (by kernel_rfl) (by kernel_rfl) (fun _ _ _ h => h) (Or.inl ⟨by rfl, by intro w hSw; go_simp⟩) (by assumption) ?_
        simp only [Act.put, List.setIfInBounds_toArray, List.set_cons_zero, List.set_cons_succ]
        refine wpAnyH_ready (rs := [10]) (by kernel_rfl) (by simp) ?_
        refine AllReadyH.cons rfl (fun K hK => ?_) AllReadyH.nil
        rw [if_pos (by rfl)]
        refine wp_store_row 43 _ _ rfl (e9x) #[.slice d1 ns.length e1, .slice d2 is.length e2, .slice d3 ds.length e3, .int .i64 p, .slice (some ⟨e5x, 0, none⟩) 1 1, .slice (some ⟨e7x, 0, none⟩) n n, .slice none 0 0, .slice none 0 0, .int .i64 2, .slice none 0 0, .slice none 0 0] rfl rfl 43 #[.slice none 0 0, .slice none 0 0, .slice none 0 0, .int .i64 0, .slice none 0 0, .slice none 0 0, .slice none 0 0, .slice none 0 0, .int .i64 0, .slice none 0 0, .slice none 0 0] X9 Tryz.sizeWd rfl (by simp [Value.oneCell']) ?_
        have hoth := fun j (hj : j ≠ e9x) => setRow_other z62 (e9x) j #[.slice d1 ns.length e1, .slice d2 is.length e2, .slice d3 ds.length e3, .int .i64 p, .slice (some ⟨e5x, 0, none⟩) 1 1, .slice (some ⟨e7x, 0, none⟩) n n, .slice none 0 0, .slice none 0 0, .int .i64 2, .slice none 0 0, .slice none 0 0] hj
        have B2 := below_setRow B (g := e9x) hX9 #[.slice d1 ns.length e1, .slice d2 is.length e2, .slice d3 ds.length e3, .int .i64 p, .slice (some ⟨e5x, 0, none⟩) 1 1, .slice (some ⟨e7x, 0, none⟩) n n, .slice none 0 0, .slice none 0 0, .int .i64 2, .slice none 0 0, .slice none 0 0]
        have XX := setRow_heap _ _ _ #[.slice d1 ns.length e1, .slice d2 is.length e2, .slice d3 ds.length e3, .int .i64 p, .slice (some ⟨e5x, 0, none⟩) 1 1, .slice (some ⟨e7x, 0, none⟩) n n, .slice none 0 0, .slice none 0 0, .int .i64 2, .slice none 0 0, .slice none 0 0] _ _ X9
        have n5 : (e5x : Nat) ≠ e9x := blk_ne9 X5 X9 (by decide)
        have YH := own_blk (hX5) ((hoth _ n5).trans X5) rfl
        refine hK.out _ _ (hS _ B2) (fun hHeld => ?_)
        clear hK
        refine wpAnyH_done (by kernel_rfl) ?_ _
        exact NoPanic.normal (hQ _ _ _ _ _ _ _ _ _ _ _ _ _ _ (e9x) _ hX9 XX (own_other O1 (own_ne O1 X9 (by decide)) hoth) (own_other O2 (own_ne O2 X9 (by decide)) hoth) (own_other O3 (own_ne O3 X9 (by decide)) hoth) YH (own_other OL (own_ne OL X9 (by decide)) hoth) B2)
      · go_simp
        go_wp2_with fail
        have hb := alloc_bel z60 (Obj.cells #[.int .i64 0, p0, p1, p2, p3, p4, p5, p6, p7, p8, p9, p10] 65)
        have X5 : (z60.alloc (Obj.cells #[.int .i64 0, p0, p1, p2, p3, p4, p5, p6, p7, p8, p9, p10] 65)).heap[z60.heap.size]? = some (Obj.cells #[.int .i64 0, p0, p1, p2, p3, p4, p5, p6, p7, p8, p9, p10] 65) := heap_alloc_new _ _
        have hX5 : w.heap.size ≤ z60.heap.size := B.size
        generalize z60.alloc (Obj.cells #[.int .i64 0, p0, p1, p2, p3, p4, p5, p6, p7, p8, p9, p10] 65) = z64 at hb X5 ⊢
        obtain ⟨e5x, he5⟩ : ∃ q0, q0 = z60.heap.size := ⟨_, rfl⟩
        rw [← he5] at X5 hX5 ⊢
        clear he5
        replace OL := own_below OL hb
        replace X9 := blk_bel X9 hb
        replace B := B.trans (hb.mono B.size)
        clear hb
        refine hK.out _ _ (hS _ B) (fun hHeld => ?_)
        clear hK
        refine wpAnyH_ready (rs := [1]) (by kernel_rfl) (by simp) ?_
        refine AllReadyH.cons rfl (fun K hK => ?_) AllReadyH.nil
        have hlo := B.size
        go_simp
        go_wp2_with (go_at_call 18; with_reducible refine (s13code_any _ _ _ ns is ds _ (R1.below B) (R2.below B) (R3.below B) h1 h2 h3).mono ?_; rintro e z65 ⟨y1, y2, y3, rfl, O1, O2, O3, hb⟩)
        obtain ⟨d1, e1, rfl⟩ := own_form O1
        obtain ⟨d2, e2, rfl⟩ := own_form O2
        obtain ⟨d3, e3, rfl⟩ := own_form O3
        replace O1 := own_mono O1 hlo
        replace O2 := own_mono O2 hlo
        replace O3 := own_mono O3 hlo
        clear hlo
        replace OL := own_below OL hb
        replace X5 := blk_bel X5 hb
        replace X9 := blk_bel X9 hb
        replace B := B.trans (hb.mono B.size)
        clear hb
        refine hK.out _ _ (hS _ B) (fun hHeld => ?_)
        clear hK
        refine wpAnyH_take (i := 8) (oi := ⟨some 34, .build 43 #[(0, .tmp 27), (1, .tmp 28), (2, .tmp 31), (3, .tmp 33), (6, .const (.int IntKind.i64 2))], 43, "l13_world.go:75", #[⟨1, .data⟩, ⟨2, .data⟩, ⟨5, .data⟩, ⟨7, .data⟩], none⟩) (v := .agg #[.slice d1 ns.length e1, .slice d2 is.length e2, .slice d3 ds.length e3, .int .i64 p, .slice (some ⟨e5x, 0, none⟩) 1 1, .slice (some ⟨e7x, 0, none⟩) n n, .slice none 0 0, .slice none 0 0, .int .i64 2, .slice none 0 0, .slice none 0 0]) rfl (by kernel_rfl) (by kernel_rfl) (by kernel_rfl) (fun _ _ _ h => h) (Or.inl ⟨by rfl, by intro w hSw; go_simp⟩) (by assumption) ?_
        simp only [Act.put, List.setIfInBounds_toArray, List.set_cons_zero, List.set_cons_succ]
        refine wpAnyH_ready (rs := [10]) (by kernel_rfl) (by simp) ?_
        refine AllReadyH.cons rfl (fun K hK => ?_) AllReadyH.nil
        rw [if_pos (by rfl)]
        refine wp_store_row 43 _ _ rfl (e9x) #[.slice d1 ns.length e1, .slice d2 is.length e2, .slice d3 ds.length e3, .int .i64 p, .slice (some ⟨e5x, 0, none⟩) 1 1, .slice (some ⟨e7x, 0, none⟩) n n, .slice none 0 0, .slice none 0 0, .int .i64 2, .slice none 0 0, .slice none 0 0] rfl rfl 43 #[.slice none 0 0, .slice none 0 0, .slice none 0 0, .int .i64 0, .slice none 0 0, .slice none 0 0, .slice none 0 0, .slice none 0 0, .int .i64 0, .slice none 0 0, .slice none 0 0] X9 Tryz.sizeWd rfl (by simp [Value.oneCell']) ?_
        have hoth := fun j (hj : j ≠ e9x) => setRow_other z65 (e9x) j #[.slice d1 ns.length e1, .slice d2 is.length e2, .slice d3 ds.length e3, .int .i64 p, .slice (some ⟨e5x, 0, none⟩) 1 1, .slice (some ⟨e7x, 0, none⟩) n n, .slice none 0 0, .slice none 0 0, .int .i64 2, .slice none 0 0, .slice none 0 0] hj
        have B2 := below_setRow B (g := e9x) hX9 #[.slice d1 ns.length e1, .slice d2 is.length e2, .slice d3 ds.length e3, .int .i64 p, .slice (some ⟨e5x, 0, none⟩) 1 1, .slice (some ⟨e7x, 0, none⟩) n n, .slice none 0 0, .slice none 0 0, .int .i64 2, .slice none 0 0, .slice none 0 0]
        have XX := setRow_heap _ _ _ #[.slice d1 ns.length e1, .slice d2 is.length e2, .slice d3 ds.length e3, .int .i64 p, .slice (some ⟨e5x, 0, none⟩) 1 1, .slice (some ⟨e7x, 0, none⟩) n n, .slice none 0 0, .slice none 0 0, .int .i64 2, .slice none 0 0, .slice none 0 0] _ _ X9
        have n5 : (e5x : Nat) ≠ e9x := blk_ne9 X5 X9 (by decide)
        have YH := own_blk (hX5) ((hoth _ n5).trans X5) rfl
        refine hK.out _ _ (hS _ B2) (fun hHeld => ?_)
        clear hK
        refine wpAnyH_done (by kernel_rfl) ?_ _
        exact NoPanic.normal (hQ _ _ _ _ _ _ _ _ _ _ _ _ _ _ (e9x) _ hX9 XX (own_other O1 (own_ne O1 X9 (by decide)) hoth) (own_other O2 (own_ne O2 X9 (by decide)) hoth) (own_other O3 (own_ne O3 X9 (by decide)) hoth) YH (own_other OL (own_ne OL X9 (by decide)) hoth) B2)
  · go_simp
    go_wp2_with fail
    have hb : Below w.heap.size w (w.alloc (Obj.cells #[.slice none 0 0, .slice none 0 0, .slice none 0 0, .int .i64 0, .slice none 0 0, .slice none 0 0, .slice none 0 0, .slice none 0 0, .int .i64 0, .slice none 0 0, .slice none 0 0] 43)).drew := ((Below.refl _ _).alloc (Nat.le_refl _) _).drew
    have X9 : (w.alloc (Obj.cells #[.slice none 0 0, .slice none 0 0, .slice none 0 0, .int .i64 0, .slice none 0 0, .slice none 0 0, .slice none 0 0, .slice none 0 0, .int .i64 0, .slice none 0 0, .slice none 0 0] 43)).drew.heap[w.heap.size]? = some (Obj.cells #[.slice none 0 0, .slice none 0 0, .slice none 0 0, .int .i64 0, .slice none 0 0, .slice none 0 0, .slice none 0 0, .slice none 0 0, .int .i64 0, .slice none 0 0, .slice none 0 0] 43) := heap_alloc_new w _
    have hX9 : w.heap.size ≤ w.heap.size := Nat.le_refl _
    generalize (w.alloc (Obj.cells #[.slice none 0 0, .slice none 0 0, .slice none 0 0, .int .i64 0, .slice none 0 0, .slice none 0 0, .slice none 0 0, .slice none 0 0, .int .i64 0, .slice none 0 0, .slice none 0 0] 43)).drew = z67 at hb X9 ⊢
    replace B := hb
    clear hb
    refine hK.out _ _ (hS _ B) (fun hHeld => ?_)
    clear hK
    refine wpAnyH_ready (rs := [1, 5, 7]) (by kernel_rfl) (by simp) ?_
    refine AllReadyH.cons rfl (fun K hK => ?_) (AllReadyH.cons rfl (fun K hK => ?_) (AllReadyH.cons rfl (fun K hK => ?_) AllReadyH.nil))
    · have hlo := B.size
      go_simp
      go_wp2_with (go_at_call 18; with_reducible refine (s13code_any _ _ _ ns is ds _ (R1.below B) (R2.below B) (R3.below B) h1 h2 h3).mono ?_; rintro e z68 ⟨y1, y2, y3, rfl, O1, O2, O3, hb⟩)
      obtain ⟨d1, e1, rfl⟩ := own_form O1
      obtain ⟨d2, e2, rfl⟩ := own_form O2
      obtain ⟨d3, e3, rfl⟩ := own_form O3
      replace O1 := own_mono O1 hlo
      replace O2 := own_mono O2 hlo
      replace O3 := own_mono O3 hlo
      clear hlo
      replace X9 := blk_bel X9 hb
      replace B := B.trans (hb.mono B.size)
      clear hb
      refine hK.out _ _ (hS _ B) (fun hHeld => ?_)
      clear hK
      refine wpAnyH_ready (rs := [5, 7]) (by kernel_rfl) (by simp) ?_
      refine AllReadyH.cons rfl (fun K hK => ?_) (AllReadyH.cons rfl (fun K hK => ?_) AllReadyH.nil)
      · go_simp
        go_wp2_with fail
        have hb := alloc_bel z68 (Obj.cells #[.int .i64 0, p0, p1, p2, p3, p4, p5, p6, p7, p8, p9, p10] 65)
        have X5 : (z68.alloc (Obj.cells #[.int .i64 0, p0, p1, p2, p3, p4, p5, p6, p7, p8, p9, p10] 65)).heap[z68.heap.size]? = some (Obj.cells #[.int .i64 0, p0, p1, p2, p3, p4, p5, p6, p7, p8, p9, p10] 65) := heap_alloc_new _ _
        have hX5 : w.heap.size ≤ z68.heap.size := B.size
        generalize z68.alloc (Obj.cells #[.int .i64 0, p0, p1, p2, p3, p4, p5, p6, p7, p8, p9, p10] 65) = z69 at hb X5 ⊢
        obtain ⟨e5x, he5⟩ : ∃ q0, q0 = z68.heap.size := ⟨_, rfl⟩
        rw [← he5] at X5 hX5 ⊢
        clear he5
        replace O1 := own_below O1 hb
        replace O2 := own_below O2 hb
        replace O3 := own_below O3 hb
        replace X9 := blk_bel X9 hb
        replace B := B.trans (hb.mono B.size)
        clear hb
        refine hK.out _ _ (hS _ B) (fun hHeld => ?_)
        clear hK
        refine wpAnyH_ready (rs := [7]) (by kernel_rfl) (by simp) ?_
        refine AllReadyH.cons rfl (fun K hK => ?_) AllReadyH.nil
        refine step_make_full _ rfl _ _ 38 rfl w.heap.size 106 il _ 5 Tryz.underlying38 hil hzl0 hzl1 _ _ _ _ n rfl rfl rfl rfl (by rw [hzl2]; omega) (by unfold maxLen; omega) B.size ?_
        intro z70 OL hg
        have hb : Below z69.heap.size z69 z70 := (Below.refl _ _).grown hg (by simp) (fun k hk => by cases hk)
        obtain ⟨e7x, he7⟩ : ∃ q0, q0 = z69.heap.size := ⟨_, rfl⟩
        rw [← he7] at OL ⊢
        clear he7 hg
        replace O1 := own_below O1 hb
        replace O2 := own_below O2 hb
        replace O3 := own_below O3 hb
        replace X5 := blk_bel X5 hb
        replace X9 := blk_bel X9 hb
        replace B := B.trans (hb.mono B.size)
        clear hb
        refine hK.out _ _ (hS _ B) (fun hHeld => ?_)
        clear hK
        simp only [Act.put, List.setIfInBounds_toArray]
        refine wpAnyH_take (i := 8) (oi := ⟨some 34, .build 43 #[(0, .tmp 27), (1, .tmp 28), (2, .tmp 31), (3, .tmp 33), (6, .const (.int IntKind.i64 2))], 43, "l13_world.go:75", #[⟨1, .data⟩, ⟨2, .data⟩, ⟨5, .data⟩, ⟨7, .data⟩], none⟩) (v := .agg #[.slice d1 ns.length e1, .slice d2 is.length e2, .slice d3 ds.length e3, .int .i64 p, .slice (some ⟨e5x, 0, none⟩) 1 1, .slice (some ⟨e7x, 0, none⟩) n n, .slice none 0 0, .slice none 0 0, .int .i64 2, .slice none 0 0, .slice none 0 0]) rfl (by kernel_rfl) (by kernel_rfl) (by kernel_rfl) (fun _ _ _ h => h) (Or.inl ⟨by rfl, by intro w hSw; go_simp⟩) (by assumption) ?_
        simp only [Act.put]
        refine wpAnyH_ready (rs := [10]) (by kernel_rfl) (by simp) ?_
        refine AllReadyH.cons rfl (fun K hK => ?_) AllReadyH.nil
        rw [if_pos (by rfl)]
        refine wp_store_row 43 _ _ rfl (w.heap.size) #[.slice d1 ns.length e1, .slice d2 is.length e2, .slice d3 ds.length e3, .int .i64 p, .slice (some ⟨e5x, 0, none⟩) 1 1, .slice (some ⟨e7x, 0, none⟩) n n, .slice none 0 0, .slice none 0 0, .int .i64 2, .slice none 0 0, .slice none 0 0] rfl rfl 43 #[.slice none 0 0, .slice none 0 0, .slice none 0 0, .int .i64 0, .slice none 0 0, .slice none 0 0, .slice none 0 0, .slice none 0 0, .int .i64 0, .slice none 0 0, .slice none 0 0] X9 Tryz.sizeWd rfl (by simp [Value.oneCell']) ?_
        have hoth := fun j (hj : j ≠ w.heap.size) => setRow_other z70 (w.heap.size) j #[.slice d1 ns.length e1, .slice d2 is.length e2, .slice d3 ds.length e3, .int .i64 p, .slice (some ⟨e5x, 0, none⟩) 1 1, .slice (some ⟨e7x, 0, none⟩) n n, .slice none 0 0, .slice none 0 0, .int .i64 2, .slice none 0 0, .slice none 0 0] hj
        have B2 := below_setRow B (g := w.heap.size) hX9 #[.slice d1 ns.length e1, .slice d2 is.length e2, .slice d3 ds.length e3, .int .i64 p, .slice (some ⟨e5x, 0, none⟩) 1 1, .slice (some ⟨e7x, 0, none⟩) n n, .slice none 0 0, .slice none 0 0, .int .i64 2, .slice none 0 0, .slice none 0 0]
        have XX := setRow_heap _ _ _ #[.slice d1 ns.length e1, .slice d2 is.length e2, .slice d3 ds.length e3, .int .i64 p, .slice (some ⟨e5x, 0, none⟩) 1 1, .slice (some ⟨e7x, 0, none⟩) n n, .slice none 0 0, .slice none 0 0, .int .i64 2, .slice none 0 0, .slice none 0 0] _ _ X9
        have n5 : (e5x : Nat) ≠ w.heap.size := blk_ne9 X5 X9 (by decide)
        have YH := own_blk (hX5) ((hoth _ n5).trans X5) rfl
        refine hK.out _ _ (hS _ B2) (fun hHeld => ?_)
        clear hK
        refine wpAnyH_done (by kernel_rfl) ?_ _
        exact NoPanic.normal (hQ _ _ _ _ _ _ _ _ _ _ _ _ _ _ (w.heap.size) _ hX9 XX (own_other O1 (own_ne O1 X9 (by decide)) hoth) (own_other O2 (own_ne O2 X9 (by decide)) hoth) (own_other O3 (own_ne O3 X9 (by decide)) hoth) YH (own_other OL (own_ne OL X9 (by decide)) hoth) B2)
      · refine step_make_full _ rfl _ _ 38 rfl w.heap.size 106 il _ 5 Tryz.underlying38 hil hzl0 hzl1 _ _ _ _ n rfl rfl rfl rfl (by rw [hzl2]; omega) (by unfold maxLen; omega) B.size ?_
        intro z72 OL hg
        have hb : Below z68.heap.size z68 z72 := (Below.refl _ _).grown hg (by simp) (fun k hk => by cases hk)
        obtain ⟨e7x, he7⟩ : ∃ q0, q0 = z68.heap.size := ⟨_, rfl⟩
        rw [← he7] at OL ⊢
        clear he7 hg
        replace O1 := own_below O1 hb
        replace O2 := own_below O2 hb
        replace O3 := own_below O3 hb
        replace X9 := blk_bel X9 hb
        replace B := B.trans (hb.mono B.size)
        clear hb
        refine hK.out _ _ (hS _ B) (fun hHeld => ?_)
        clear hK
        simp only [Act.put, List.setIfInBounds_toArray]
        refine wpAnyH_ready (rs := [5]) (by kernel_rfl) (by simp) ?_
        refine AllReadyH.cons rfl (fun K hK => ?_) AllReadyH.nil
        go_simp
        go_wp2_with fail
        have hb := alloc_bel z72 (Obj.cells #[.int .i64 0, p0, p1, p2, p3, p4, p5, p6, p7, p8, p9, p10] 65)
        have X5 : (z72.alloc (Obj.cells #[.int .i64 0, p0, p1, p2, p3, p4, p5, p6, p7, p8, p9, p10] 65)).heap[z72.heap.size]? = some (Obj.cells #[.int .i64 0, p0, p1, p2, p3, p4, p5, p6, p7, p8, p9, p10] 65) := heap_alloc_new _ _
        have hX5 : w.heap.size ≤ z72.heap.size := B.size
        generalize z72.alloc (Obj.cells #[.int .i64 0, p0, p1, p2, p3, p4, p5, p6, p7, p8, p9, p10] 65) = z73 at hb X5 ⊢
        obtain ⟨e5x, he5⟩ : ∃ q0, q0 = z72.heap.size := ⟨_, rfl⟩
        rw [← he5] at X5 hX5 ⊢
        clear he5
        replace O1 := own_below O1 hb
        replace O2 := own_below O2 hb
        replace O3 := own_below O3 hb
        replace OL := own_below OL hb
        replace X9 := blk_bel X9 hb
        replace B := B.trans (hb.mono B.size)
        clear hb
        refine hK.out _ _ (hS _ B) (fun hHeld => ?_)
        clear hK
        refine wpAnyH_take (i := 8) (oi := ⟨some 34, .build 43 #[(0, .tmp 27), (1, .tmp 28), (2, .tmp 31), (3, .tmp 33), (6, .const (.int IntKind.i64 2))], 43, "l13_world.go:75", #[⟨1, .data⟩, ⟨2, .data⟩, ⟨5, .data⟩, ⟨7, .data⟩], none⟩) (v := .agg #[.slice d1 ns.length e1, .slice d2 is.length e2, .slice d3 ds.length e3, .int .i64 p, .slice (some ⟨e5x, 0, none⟩) 1 1, .slice (some ⟨e7x, 0, none⟩) n n, .slice none 0 0, .slice none 0 0, .int .i64 2, .slice none 0 0, .slice none 0 0]) rfl (by kernel_rfl) (by kernel_rfl) (by kernel_rfl) (fun _ _ _ h => h) (Or.inl ⟨by rfl, by intro w hSw; go_simp⟩) (by assumption) ?_
        simp only [Act.put, List.setIfInBounds_toArray, List.set_cons_zero, List.set_cons_succ]
        refine wpAnyH_ready (rs := [10]) (by kernel_rfl) (by simp) ?_
        refine AllReadyH.cons rfl (fun K hK => ?_) AllReadyH.nil
        rw [if_pos (by rfl)]
        refine wp_store_row 43 _ _ rfl (w.heap.size) #[.slice d1 ns.length e1, .slice d2 is.length e2, .slice d3 ds.length e3, .int .i64 p, .slice (some ⟨e5x, 0, none⟩) 1 1, .slice (some ⟨e7x, 0, none⟩) n n, .slice none 0 0, .slice none 0 0, .int .i64 2, .slice none 0 0, .slice none 0 0] rfl rfl 43 #[.slice none 0 0, .slice none 0 0, .slice none 0 0, .int .i64 0, .slice none 0 0, .slice none 0 0, .slice none 0 0, .slice none 0 0, .int .i64 0, .slice none 0 0, .slice none 0 0] X9 Tryz.sizeWd rfl (by simp [Value.oneCell']) ?_
        have hoth := fun j (hj : j ≠ w.heap.size) => setRow_other z73 (w.heap.size) j #[.slice d1 ns.length e1, .slice d2 is.length e2, .slice d3 ds.length e3, .int .i64 p, .slice (some ⟨e5x, 0, none⟩) 1 1, .slice (some ⟨e7x, 0, none⟩) n n, .slice none 0 0, .slice none 0 0, .int .i64 2, .slice none 0 0, .slice none 0 0] hj
        have B2 := below_setRow B (g := w.heap.size) hX9 #[.slice d1 ns.length e1, .slice d2 is.length e2, .slice d3 ds.length e3, .int .i64 p, .slice (some ⟨e5x, 0, none⟩) 1 1, .slice (some ⟨e7x, 0, none⟩) n n, .slice none 0 0, .slice none 0 0, .int .i64 2, .slice none 0 0, .slice none 0 0]
        have XX := setRow_heap _ _ _ #[.slice d1 ns.length e1, .slice d2 is.length e2, .slice d3 ds.length e3, .int .i64 p, .slice (some ⟨e5x, 0, none⟩) 1 1, .slice (some ⟨e7x, 0, none⟩) n n, .slice none 0 0, .slice none 0 0, .int .i64 2, .slice none 0 0, .slice none 0 0] _ _ X9
        have n5 : (e5x : Nat) ≠ w.heap.size := blk_ne9 X5 X9 (by decide)
        have YH := own_blk (hX5) ((hoth _ n5).trans X5) rfl
        refine hK.out _ _ (hS _ B2) (fun hHeld => ?_)
        clear hK
        refine wpAnyH_done (by kernel_rfl) ?_ _
        exact NoPanic.normal (hQ _ _ _ _ _ _ _ _ _ _ _ _ _ _ (w.heap.size) _ hX9 XX (own_other O1 (own_ne O1 X9 (by decide)) hoth) (own_other O2 (own_ne O2 X9 (by decide)) hoth) (own_other O3 (own_ne O3 X9 (by decide)) hoth) YH (own_other OL (own_ne OL X9 (by decide)) hoth) B2)
    · go_simp
      go_wp2_with fail
      have hb := alloc_bel z67 (Obj.cells #[.int .i64 0, p0, p1, p2, p3, p4, p5, p6, p7, p8, p9, p10] 65)
      have X5 : (z67.alloc (Obj.cells #[.int .i64 0, p0, p1, p2, p3, p4, p5, p6, p7, p8, p9, p10] 65)).heap[z67.heap.size]? = some (Obj.cells #[.int .i64 0, p0, p1, p2, p3, p4, p5, p6, p7, p8, p9, p10] 65) := heap_alloc_new _ _
      have hX5 : w.heap.size ≤ z67.heap.size := B.size
      generalize z67.alloc (Obj.cells #[.int .i64 0, p0, p1, p2, p3, p4, p5, p6, p7, p8, p9, p10] 65) = z75 at hb X5 ⊢
      obtain ⟨e5x, he5⟩ : ∃ q0, q0 = z67.heap.size := ⟨_, rfl⟩
      rw [← he5] at X5 hX5 ⊢
      clear he5
      replace X9 := blk_bel X9 hb
      replace B := B.trans (hb.mono B.size)
      clear hb
      refine hK.out _ _ (hS _ B) (fun hHeld => ?_)
      clear hK
      refine wpAnyH_ready (rs := [1, 7]) (by kernel_rfl) (by simp) ?_
      refine AllReadyH.cons rfl (fun K hK => ?_) (AllReadyH.cons rfl (fun K hK => ?_) AllReadyH.nil)
      · have hlo := B.size
        go_simp
        go_wp2_with (go_at_call 18; with_reducible refine (s13code_any _ _ _ ns is ds _ (R1.below B) (R2.below B) (R3.below B) h1 h2 h3).mono ?_; rintro e z76 ⟨y1, y2, y3, rfl, O1, O2, O3, hb⟩)
        obtain ⟨d1, e1, rfl⟩ := own_form O1
        obtain ⟨d2, e2, rfl⟩ := own_form O2
        obtain ⟨d3, e3, rfl⟩ := own_form O3
        replace O1 := own_mono O1 hlo
        replace O2 := own_mono O2 hlo
        replace O3 := own_mono O3 hlo
        clear hlo
        replace X5 := blk_bel X5 hb
        replace X9 := blk_bel X9 hb
        replace B := B.trans (hb.mono B.size)
        clear hb
        refine hK.out _ _ (hS _ B) (fun hHeld => ?_)
        clear hK
        refine wpAnyH_ready (rs := [7]) (by kernel_rfl) (by simp) ?_
        refine AllReadyH.cons rfl (fun K hK => ?_) AllReadyH.nil
        refine step_make_full _ rfl _ _ 38 rfl w.heap.size 106 il _ 5 Tryz.underlying38 hil hzl0 hzl1 _ _ _ _ n rfl rfl rfl rfl (by rw [hzl2]; omega) (by unfold maxLen; omega) B.size ?_
        intro z77 OL hg
        have hb : Below z76.heap.size z76 z77 := (Below.refl _ _).grown hg (by simp) (fun k hk => by cases hk)
        obtain ⟨e7x, he7⟩ : ∃ q0, q0 = z76.heap.size := ⟨_, rfl⟩
        rw [← he7] at OL ⊢
        clear he7 hg
        replace O1 := own_below O1 hb
        replace O2 := own_below O2 hb
        replace O3 := own_below O3 hb
        replace X5 := blk_bel X5 hb
        replace X9 := blk_bel X9 hb
        replace B := B.trans (hb.mono B.size)
        clear hb
        refine hK.out _ _ (hS _ B) (fun hHeld => ?_)
        clear hK
        simp only [Act.put, List.setIfInBounds_toArray]
        refine wpAnyH_take (i := 8) (oi := ⟨some 34, .build 43 #[(0, .tmp 27), (1, .tmp 28), (2, .tmp 31), (3, .tmp 33), (6, .const (.int IntKind.i64 2))], 43, "l13_world.go:75", #[⟨1, .data⟩, ⟨2, .data⟩, ⟨5, .data⟩, ⟨7, .data⟩], none⟩) (v := .agg #[.slice d1 ns.length e1, .slice d2 is.length e2, .slice d3 ds.length e3, .int .i64 p, .slice (some ⟨e5x, 0, none⟩) 1 1, .slice (some ⟨e7x, 0, none⟩) n n, .slice none 0 0, .slice none 0 0, .int .i64 2, .slice none 0 0, .slice none 0 0]) rfl (by kernel_rfl) (by kernel_rfl) (by kernel_rfl) (fun _ _ _ h => h) (Or.inl ⟨by rfl, by intro w hSw; go_simp⟩) (by assumption) ?_
        simp only [Act.put]
        refine wpAnyH_ready (rs := [10]) (by kernel_rfl) (by simp) ?_
        refine AllReadyH.cons rfl (fun K hK => ?_) AllReadyH.nil
        rw [if_pos (by rfl)]
        refine wp_store_row 43 _ _ rfl (w.heap.size) #[.slice d1 ns.length e1, .slice d2 is.length e2, .slice d3 ds.length e3, .int .i64 p, .slice (some ⟨e5x, 0, none⟩) 1 1, .slice (some ⟨e7x, 0, none⟩) n n, .slice none 0 0, .slice none 0 0, .int .i64 2, .slice none 0 0, .slice none 0 0] rfl rfl 43 #[.slice none 0 0, .slice none 0 0, .slice none 0 0, .int .i64 0, .slice none 0 0, .slice none 0 0, .slice none 0 0, .slice none 0 0, .int .i64 0, .slice none 0 0, .slice none 0 0] X9 Tryz.sizeWd rfl (by simp [Value.oneCell']) ?_
        have hoth := fun j (hj : j ≠ w.heap.size) => setRow_other z77 (w.heap.size) j #[.slice d1 ns.length e1, .slice d2 is.length e2, .slice d3 ds.length e3, .int .i64 p, .slice (some ⟨e5x, 0, none⟩) 1 1, .slice (some ⟨e7x, 0, none⟩) n n, .slice none 0 0, .slice none 0 0, .int .i64 2, .slice none 0 0, .slice none 0 0] hj
        have B2 := below_setRow B (g := w.heap.size) hX9 #[.slice d1 ns.length e1, .slice d2 is.length e2, .slice d3 ds.length e3, .int .i64 p, .slice (some ⟨e5x, 0, none⟩) 1 1, .slice (some ⟨e7x, 0, none⟩) n n, .slice none 0 0, .slice none 0 0, .int .i64 2, .slice none 0 0, .slice none 0 0]
        have XX := setRow_heap _ _ _ #[.slice d1 ns.length e1, .slice d2 is.length e2, .slice d3 ds.length e3, .int .i64 p, .slice (some ⟨e5x, 0, none⟩) 1 1, .slice (some ⟨e7x, 0, none⟩) n n, .slice none 0 0, .slice none 0 0, .int .i64 2, .slice none 0 0, .slice none 0 0] _ _ X9
        have n5 : (e5x : Nat) ≠ w.heap.size := blk_ne9 X5 X9 (by decide)
        have YH := own_blk (hX5) ((hoth _ n5).trans X5) rfl
        refine hK.out _ _ (hS _ B2) (fun hHeld => ?_)
        clear hK
        refine wpAnyH_done (by kernel_rfl) ?_ _
        exact NoPanic.normal (hQ _ _ _ _ _ _ _ _ _ _ _ _ _ _ (w.heap.size) _ hX9 XX (own_other O1 (own_ne O1 X9 (by decide)) hoth) (own_other O2 (own_ne O2 X9 (by decide)) hoth) (own_other O3 (own_ne O3 X9 (by decide)) hoth) YH (own_other OL (own_ne OL X9 (by decide)) hoth) B2)
      · refine step_make_full _ rfl _ _ 38 rfl w.heap.size 106 il _ 5 Tryz.underlying38 hil hzl0 hzl1 _ _ _ _ n rfl rfl rfl rfl (by rw [hzl2]; omega) (by unfold maxLen; omega) B.size ?_
        intro z79 OL hg
        have hb : Below z75.heap.size z75 z79 := (Below.refl _ _).grown hg (by simp) (fun k hk => by cases hk)
        obtain ⟨e7x, he7⟩ : ∃ q0, q0 = z75.heap.size := ⟨_, rfl⟩
        rw [← he7] at OL ⊢
        clear he7 hg
        replace X5 := blk_bel X5 hb
        replace X9 := blk_bel X9 hb
        replace B := B.trans (hb.mono B.size)
        clear hb
        refine hK.out _ _ (hS _ B) (fun hHeld => ?_)
        clear hK
        simp only [Act.put, List.setIfInBounds_toArray]
        refine wpAnyH_ready (rs := [1]) (by kernel_rfl) (by simp) ?_
        refine AllReadyH.cons rfl (fun K hK => ?_) AllReadyH.nil
        have hlo := B.size
        go_simp
        go_wp2_with (go_at_call 18; with_reducible refine (s13code_any _ _ _ ns is ds _ (R1.below B) (R2.below B) (R3.below B) h1 h2 h3).mono ?_; rintro e z80 ⟨y1, y2, y3, rfl, O1, O2, O3, hb⟩)
        obtain ⟨d1, e1, rfl⟩ := own_form O1
        obtain ⟨d2, e2, rfl⟩ := own_form O2
        obtain ⟨d3, e3, rfl⟩ := own_form O3
        replace O1 := own_mono O1 hlo
        replace O2 := own_mono O2 hlo
        replace O3 := own_mono O3 hlo
        clear hlo
        replace OL := own_below OL hb
        replace X5 := blk_bel X5 hb
        replace X9 := blk_bel X9 hb
        replace B := B.trans (hb.mono B.size)
        clear hb
        refine hK.out _ _ (hS _ B) (fun hHeld => ?_)
        clear hK
        refine wpAnyH_take (i := 8) (oi := ⟨some 34, .build 43 #[(0, .tmp 27), (1, .tmp 28), (2, .tmp 31), (3, .tmp 33), (6, .const (.int IntKind.i64 2))], 43, "l13_world.go:75", #[⟨1, .data⟩, ⟨2, .data⟩, ⟨5, .data⟩, ⟨7, .data⟩], none⟩) (v := .agg #[.slice d1 ns.length e1, .slice d2 is.length e2, .slice d3 ds.length e3, .int .i64 p, .slice (some ⟨e5x, 0, none⟩) 1 1, .slice (some ⟨e7x, 0, none⟩) n n, .slice none 0 0, .slice none 0 0, .int .i64 2, .slice none 0 0, .slice none 0 0]) rfl (by kernel_rfl) (by kernel_rfl) (by kernel_rfl) (fun _ _ _ h => h) (Or.inl ⟨by rfl, by intro w hSw; go_simp⟩) (by assumption) ?_
        simp only [Act.put, List.setIfInBounds_toArray, List.set_cons_zero, List.set_cons_succ]
        refine wpAnyH_ready (rs := [10]) (by kernel_rfl) (by simp) ?_
        refine AllReadyH.cons rfl (fun K hK => ?_) AllReadyH.nil
        rw [if_pos (by rfl)]
        refine wp_store_row 43 _ _ rfl (w.heap.size) #[.slice d1 ns.length e1, .slice d2 is.length e2, .slice d3 ds.length e3, .int .i64 p, .slice (some ⟨e5x, 0, none⟩) 1 1, .slice (some ⟨e7x, 0, none⟩) n n, .slice none 0 0, .slice none 0 0, .int .i64 2, .slice none 0 0, .slice none 0 0] rfl rfl 43 #[.slice none 0 0, .slice none 0 0, .slice none 0 0, .int .i64 0, .slice none 0 0, .slice none 0 0, .slice none 0 0, .slice none 0 0, .int .i64 0, .slice none 0 0, .slice none 0 0] X9 Tryz.sizeWd rfl (by simp [Value.oneCell']) ?_
        have hoth := fun j (hj : j ≠ w.heap.size) => setRow_other z80 (w.heap.size) j #[.slice d1 ns.length e1, .slice d2 is.length e2, .slice d3 ds.length e3, .int .i64 p, .slice (some ⟨e5x, 0, none⟩) 1 1, .slice (some ⟨e7x, 0, none⟩) n n, .slice none 0 0, .slice none 0 0, .int .i64 2, .slice none 0 0, .slice none 0 0] hj
        have B2 := below_setRow B (g := w.heap.size) hX9 #[.slice d1 ns.length e1, .slice d2 is.length e2, .slice d3 ds.length e3, .int .i64 p, .slice (some ⟨e5x, 0, none⟩) 1 1, .slice (some ⟨e7x, 0, none⟩) n n, .slice none 0 0, .slice none 0 0, .int .i64 2, .slice none 0 0, .slice none 0 0]
        have XX := setRow_heap _ _ _ #[.slice d1 ns.length e1, .slice d2 is.length e2, .slice d3 ds.length e3, .int .i64 p, .slice (some ⟨e5x, 0, none⟩) 1 1, .slice (some ⟨e7x, 0, none⟩) n n, .slice none 0 0, .slice none 0 0, .int .i64 2, .slice none 0 0, .slice none 0 0] _ _ X9
        have n5 : (e5x : Nat) ≠ w.heap.size := blk_ne9 X5 X9 (by decide)
        have YH := own_blk (hX5) ((hoth _ n5).trans X5) rfl
        refine hK.out _ _ (hS _ B2) (fun hHeld => ?_)
        clear hK
        refine wpAnyH_done (by kernel_rfl) ?_ _
        exact NoPanic.normal (hQ _ _ _ _ _ _ _ _ _ _ _ _ _ _ (w.heap.size) _ hX9 XX (own_other O1 (own_ne O1 X9 (by decide)) hoth) (own_other O2 (own_ne O2 X9 (by decide)) hoth) (own_other O3 (own_ne O3 X9 (by decide)) hoth) YH (own_other OL (own_ne OL X9 (by decide)) hoth) B2)
    · refine step_make_full _ rfl _ _ 38 rfl w.heap.size 106 il _ 5 Tryz.underlying38 hil hzl0 hzl1 _ _ _ _ n rfl rfl rfl rfl (by rw [hzl2]; omega) (by unfold maxLen; omega) B.size ?_
      intro z82 OL hg
      have hb : Below z67.heap.size z67 z82 := (Below.refl _ _).grown hg (by simp) (fun k hk => by cases hk)
      obtain ⟨e7x, he7⟩ : ∃ q0, q0 = z67.heap.size := ⟨_, rfl⟩
      rw [← he7] at OL ⊢
      clear he7 hg
      replace X9 := blk_bel X9 hb
      replace B := B.trans (hb.mono B.size)
      clear hb
      refine hK.out _ _ (hS _ B) (fun hHeld => ?_)
      clear hK
      simp only [Act.put, List.setIfInBounds_toArray]
      refine wpAnyH_ready (rs := [1, 5]) (by kernel_rfl) (by simp) ?_
      refine AllReadyH.cons rfl (fun K hK => ?_) (AllReadyH.cons rfl (fun K hK => ?_) AllReadyH.nil)
      · have hlo := B.size
        go_simp
        go_wp2_with (go_at_call 18; with_reducible refine (s13code_any _ _ _ ns is ds _ (R1.below B) (R2.below B) (R3.below B) h1 h2 h3).mono ?_; rintro e z83 ⟨y1, y2, y3, rfl, O1, O2, O3, hb⟩)
        obtain ⟨d1, e1, rfl⟩ := own_form O1
        obtain ⟨d2, e2, rfl⟩ := own_form O2
        obtain ⟨d3, e3, rfl⟩ := own_form O3
        replace O1 := own_mono O1 hlo
        replace O2 := own_mono O2 hlo
        replace O3 := own_mono O3 hlo
        clear hlo
        replace OL := own_below OL hb
        replace X9 := blk_bel X9 hb
        replace B := B.trans (hb.mono B.size)
        clear hb
        refine hK.out _ _ (hS _ B) (fun hHeld => ?_)
        clear hK
        refine wpAnyH_ready (rs := [5]) (by kernel_rfl) (by simp) ?_
        refine AllReadyH.cons rfl (fun K hK => ?_) AllReadyH.nil
        go_simp
        go_wp2_with fail
        have hb := alloc_bel z83 (Obj.cells #[.int .i64 0, p0, p1, p2, p3, p4, p5, p6, p7, p8, p9, p10] 65)
        have X5 : (z83.alloc (Obj.cells #[.int .i64 0, p0, p1, p2, p3, p4, p5, p6, p7, p8, p9, p10] 65)).heap[z83.heap.size]? = some (Obj.cells #[.int .i64 0, p0, p1, p2, p3, p4, p5, p6, p7, p8, p9, p10] 65) := heap_alloc_new _ _
        have hX5 : w.heap.size ≤ z83.heap.size := B.size
        generalize z83.alloc (Obj.cells #[.int .i64 0, p0, p1, p2, p3, p4, p5, p6, p7, p8, p9, p10] 65) = z84 at hb X5 ⊢
        obtain ⟨e5x, he5⟩ : ∃ q0, q0 = z83.heap.size := ⟨_, rfl⟩
        rw [← he5] at X5 hX5 ⊢
        clear he5
        replace O1 := own_below O1 hb
        replace O2 := own_below O2 hb
        replace O3 := own_below O3 hb
        replace OL := own_below OL hb
        replace X9 := blk_bel X9 hb
        replace B := B.trans (hb.mono B.size)
        clear hb
        refine hK.out _ _ (hS _ B) (fun hHeld => ?_)
        clear hK
        refine wpAnyH_take (i := 8) (oi := ⟨some 34, .build 43 #[(0, .tmp 27), (1, .tmp 28), (2, .tmp 31), (3, .tmp 33), (6, .const (.int IntKind.i64 2))], 43, "l13_world.go:75", #[⟨1, .data⟩, ⟨2, .data⟩, ⟨5, .data⟩, ⟨7, .data⟩], none⟩) (v := .agg #[.slice d1 ns.length e1, .slice d2 is.length e2, .slice d3 ds.length e3, .int .i64 p, .slice (some ⟨e5x, 0, none⟩) 1 1, .slice (some ⟨e7x, 0, none⟩) n n, .slice none 0 0, .slice none 0 0, .int .i64 2, .slice none 0 0, .slice none 0 0]) rfl (by kernel_rfl) (by kernel_rfl) (by kernel_rfl) (fun _ _ _ h => h) (Or.inl ⟨by rfl, by intro w hSw; go_simp⟩) (by assumption) ?_
        simp only [Act.put, List.setIfInBounds_toArray, List.set_cons_zero, List.set_cons_succ]
        refine wpAnyH_ready (rs := [10]) (by kernel_rfl) (by simp) ?_
        refine AllReadyH.cons rfl (fun K hK => ?_) AllReadyH.nil
        rw [if_pos (by rfl)]
        refine wp_store_row 43 _ _ rfl (w.heap.size) #[.slice d1 ns.length e1, .slice d2 is.length e2, .slice d3 ds.length e3, .int .i64 p, .slice (some ⟨e5x, 0, none⟩) 1 1, .slice (some ⟨e7x, 0, none⟩) n n, .slice none 0 0, .slice none 0 0, .int .i64 2, .slice none 0 0, .slice none 0 0] rfl rfl 43 #[.slice none 0 0, .slice none 0 0, .slice none 0 0, .int .i64 0, .slice none 0 0, .slice none 0 0, .slice none 0 0, .slice none 0 0, .int .i64 0, .slice none 0 0, .slice none 0 0] X9 Tryz.sizeWd rfl (by simp [Value.oneCell']) ?_
        have hoth := fun j (hj : j ≠ w.heap.size) => setRow_other z84 (w.heap.size) j #[.slice d1 ns.length e1, .slice d2 is.length e2, .slice d3 ds.length e3, .int .i64 p, .slice (some ⟨e5x, 0, none⟩) 1 1, .slice (some ⟨e7x, 0, none⟩) n n, .slice none 0 0, .slice none 0 0, .int .i64 2, .slice none 0 0, .slice none 0 0] hj
        have B2 := below_setRow B (g := w.heap.size) hX9 #[.slice d1 ns.length e1, .slice d2 is.length e2, .slice d3 ds.length e3, .int .i64 p, .slice (some ⟨e5x, 0, none⟩) 1 1, .slice (some ⟨e7x, 0, none⟩) n n, .slice none 0 0, .slice none 0 0, .int .i64 2, .slice none 0 0, .slice none 0 0]
        have XX := setRow_heap _ _ _ #[.slice d1 ns.length e1, .slice d2 is.length e2, .slice d3 ds.length e3, .int .i64 p, .slice (some ⟨e5x, 0, none⟩) 1 1, .slice (some ⟨e7x, 0, none⟩) n n, .slice none 0 0, .slice none 0 0, .int .i64 2, .slice none 0 0, .slice none 0 0] _ _ X9
        have n5 : (e5x : Nat) ≠ w.heap.size := blk_ne9 X5 X9 (by decide)
        have YH := own_blk (hX5) ((hoth _ n5).trans X5) rfl
        refine hK.out _ _ (hS _ B2) (fun hHeld => ?_)
        clear hK
        refine wpAnyH_done (by kernel_rfl) ?_ _
        exact NoPanic.normal (hQ _ _ _ _ _ _ _ _ _ _ _ _ _ _ (w.heap.size) _ hX9 XX (own_other O1 (own_ne O1 X9 (by decide)) hoth) (own_other O2 (own_ne O2 X9 (by decide)) hoth) (own_other O3 (own_ne O3 X9 (by decide)) hoth) YH (own_other OL (own_ne OL X9 (by decide)) hoth) B2)
      · go_simp
        go_wp2_with fail
        have hb := alloc_bel z82 (Obj.cells #[.int .i64 0, p0, p1, p2, p3, p4, p5, p6, p7, p8, p9, p10] 65)
        have X5 : (z82.alloc (Obj.cells #[.int .i64 0, p0, p1, p2, p3, p4, p5, p6, p7, p8, p9, p10] 65)).heap[z82.heap.size]? = some (Obj.cells #[.int .i64 0, p0, p1, p2, p3, p4, p5, p6, p7, p8, p9, p10] 65) := heap_alloc_new _ _
        have hX5 : w.heap.size ≤ z82.heap.size := B.size
        generalize z82.alloc (Obj.cells #[.int .i64 0, p0, p1, p2, p3, p4, p5, p6, p7, p8, p9, p10] 65) = z86 at hb X5 ⊢
        obtain ⟨e5x, he5⟩ : ∃ q0, q0 = z82.heap.size := ⟨_, rfl⟩
        rw [← he5] at X5 hX5 ⊢
        clear he5
        replace OL := own_below OL hb
        replace X9 := blk_bel X9 hb
        replace B := B.trans (hb.mono B.size)
        clear hb
        refine hK.out _ _ (hS _ B) (fun hHeld => ?_)
        clear hK
        refine wpAnyH_ready (rs := [1]) (by kernel_rfl) (by simp) ?_
        refine AllReadyH.cons rfl (fun K hK => ?_) AllReadyH.nil
        have hlo := B.size
        go_simp
        go_wp2_with (go_at_call 18; with_reducible refine (s13code_any _ _ _ ns is ds _ (R1.below B) (R2.below B) (R3.below B) h1 h2 h3).mono ?_; rintro e z87 ⟨y1, y2, y3, rfl, O1, O2, O3, hb⟩)
        obtain ⟨d1, e1, rfl⟩ := own_form O1
        obtain ⟨d2, e2, rfl⟩ := own_form O2
        obtain ⟨d3, e3, rfl⟩ := own_form O3
        replace O1 := own_mono O1 hlo
        replace O2 := own_mono O2 hlo
        replace O3 := own_mono O3 hlo
        clear hlo
        replace OL := own_below OL hb
        replace X5 := blk_bel X5 hb
        replace X9 := blk_bel X9 hb
        replace B := B.trans (hb.mono B.size)
        clear hb
        refine hK.out _ _ (hS _ B) (fun hHeld => ?_)
        clear hK
        refine wpAnyH_take (i := 8) (oi := ⟨some 34, .build 43 #[(0, .tmp 27), (1, .tmp 28), (2, .tmp 31), (3, .tmp 33), (6, .const (.int IntKind.i64 2))], 43, "l13_world.go:75", #[⟨1, .data⟩, ⟨2, .data⟩, ⟨5, .data⟩, ⟨7, .data⟩], none⟩) (v := .agg #[.slice d1 ns.length e1, .slice d2 is.length e2, .slice d3 ds.length e3, .int .i64 p, .slice (some ⟨e5x, 0, none⟩) 1 1, .slice (some ⟨e7x, 0, none⟩) n n, .slice none 0 0, .slice none 0 0, .int .i64 2, .slice none 0 0, .slice none 0 0]) rfl (by kernel_rfl) (by kernel_rfl) (by kernel_rfl) (fun _ _ _ h => h) (Or.inl ⟨by rfl, by intro w hSw; go_simp⟩) (by assumption) ?_
        simp only [Act.put, List.setIfInBounds_toArray, List.set_cons_zero, List.set_cons_succ]
        refine wpAnyH_ready (rs := [10]) (by kernel_rfl) (by simp) ?_
        refine AllReadyH.cons rfl (fun K hK => ?_) AllReadyH.nil
        rw [if_pos (by rfl)]
        refine wp_store_row 43 _ _ rfl (w.heap.size) #[.slice d1 ns.length e1, .slice d2 is.length e2, .slice d3 ds.length e3, .int .i64 p, .slice (some ⟨e5x, 0, none⟩) 1 1, .slice (some ⟨e7x, 0, none⟩) n n, .slice none 0 0, .slice none 0 0, .int .i64 2, .slice none 0 0, .slice none 0 0] rfl rfl 43 #[.slice none 0 0, .slice none 0 0, .slice none 0 0, .int .i64 0, .slice none 0 0, .slice none 0 0, .slice none 0 0, .slice none 0 0, .int .i64 0, .slice none 0 0, .slice none 0 0] X9 Tryz.sizeWd rfl (by simp [Value.oneCell']) ?_
        have hoth := fun j (hj : j ≠ w.heap.size) => setRow_other z87 (w.heap.size) j #[.slice d1 ns.length e1, .slice d2 is.length e2, .slice d3 ds.length e3, .int .i64 p, .slice (some ⟨e5x, 0, none⟩) 1 1, .slice (some ⟨e7x, 0, none⟩) n n, .slice none 0 0, .slice none 0 0, .int .i64 2, .slice none 0 0, .slice none 0 0] hj
        have B2 := below_setRow B (g := w.heap.size) hX9 #[.slice d1 ns.length e1, .slice d2 is.length e2, .slice d3 ds.length e3, .int .i64 p, .slice (some ⟨e5x, 0, none⟩) 1 1, .slice (some ⟨e7x, 0, none⟩) n n, .slice none 0 0, .slice none 0 0, .int .i64 2, .slice none 0 0, .slice none 0 0]
        have XX := setRow_heap _ _ _ #[.slice d1 ns.length e1, .slice d2 is.length e2, .slice d3 ds.length e3, .int .i64 p, .slice (some ⟨e5x, 0, none⟩) 1 1, .slice (some ⟨e7x, 0, none⟩) n n, .slice none 0 0, .slice none 0 0, .int .i64 2, .slice none 0 0, .slice none 0 0] _ _ X9
        have n5 : (e5x : Nat) ≠ w.heap.size := blk_ne9 X5 X9 (by decide)
        have YH := own_blk (hX5) ((hoth _ n5).trans X5) rfl
        refine hK.out _ _ (hS _ B2) (fun hHeld => ?_)
        clear hK
        refine wpAnyH_done (by kernel_rfl) ?_ _
        exact NoPanic.normal (hQ _ _ _ _ _ _ _ _ _ _ _ _ _ _ (w.heap.size) _ hX9 XX (own_other O1 (own_ne O1 X9 (by decide)) hoth) (own_other O2 (own_ne O2 X9 (by decide)) hoth) (own_other O3 (own_ne O3 X9 (by decide)) hoth) YH (own_other OL (own_ne OL X9 (by decide)) hoth) B2)
end Go.Proofs.YtbhfooafhbfniaaGreatDoor
