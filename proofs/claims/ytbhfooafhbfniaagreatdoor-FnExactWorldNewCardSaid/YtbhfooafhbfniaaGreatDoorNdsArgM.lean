/-
  Texts that stood by themselves, laid into one.
-/
import Derived.Test.YtbhfooafhbfniaaGreatDoorWnRM
import Derived.Test.YtbhfooafhbfniaaGreatDoorWnHM
import Derived.Deep.RegionHeld3
import Derived.Test.YtbhfooafhbfniaaGreatDoorShapeM
import Derived.ProofKit
import Derived.OpenShut
import Derived.ShutString
import Derived.ChangeOld
import Derived.Below
import Derived.Deep.Slices
import Derived.ChangeSame
/-
  The law FnExactWorldNew, walked: at every argument it returns true. The variable errors.errorType reads as it is laid.
-/
namespace Go.Proofs.YtbhfooafhbfniaaGreatDoor
open Go.RowKit
theorem Tryz.sizeLCode : (Tryz.prog.info? 28).map (·.size) = some 3 := by kernel_rfl
structure VarN (w : World) (b lo hi : Nat) (cs : Array Value) (ns : List Nd) (is : List In) (ds : List Df) (p : Nat) (I : Int) (M : Mc) (L : List Nd) (k : Bool) : Prop where
  blk : w.heap[b]? = some (.cells cs 43 (0, 0))
  an : An lo hi w cs ns is ds p I M L k
  hib : hi ≤ b
section
variable {w w' : World} {b lo hi : Nat} {cs : Array Value} {ns : List Nd} {is : List In} {ds : List Df} {p : Nat} {I : Int} {M : Mc} {L : List Nd} {k : Bool}
theorem VarN.below (h : VarN w b lo hi cs ns is ds p I M L k) (hb : Below w.heap.size w w') : VarN w' b lo hi cs ns is ds p I M L k := ⟨blk_bel h.blk hb, h.an.below hb, h.hib⟩
theorem VarN.tn {P : Nat → Prop} (h : VarN w b lo hi cs ns is ds p I M L k) (T : TnS P w w') (hp : ∀ j, lo ≤ j → j < hi → ¬ P j) (hb : ¬ P b) : VarN w' b lo hi cs ns is ds p I M L k := ⟨T.blk h.blk hb, h.an.tn T hp, h.hib⟩
theorem VarN.lt (h : VarN w b lo hi cs ns is ds p I M L k) : b < w.heap.size := blk_lt h.blk
end
def wnB (ns : List Nd) (is : List In) (ds : List Df) (pl : Int) : Bool := (decide (1 ≤ pl) && decide (pl ≤ 3)) && pnB ns is ds ⟨#[109, 97, 105, 110]⟩ 1
def WnT (B : Nat) (ns : List Nd) (is : List In) (ds : List Df) (pl : Int) (I : Int) (M : Mc) (L : List Nd) (k : Bool) (e : Ending) (w' : World) : Prop :=
  ∃ cs, e = .returned (.tuple #[.agg cs, .bool k]) ∧ An B w'.heap.size w' cs ns is ds pl.toNat I M L k
theorem swn_t (v1 v2 v3 : Value) (ns : List Nd) (is : List In) (ds : List Df) (pl : Int) (w : World) (R1 : NRow w v1 ns) (R2 : InRow w v2 is) (R3 : DfRow w v3 ds) (l1 : ns.length ≤ 1048576) (l2 : is.length ≤ 1048576) (l3 : ds.length ≤ 1048576) :
    Calls Tryz.prog 5 #[.agg #[v1, v2, v3], .int .i64 pl] w fun e w' => WnT w.heap.size ns is ds pl (pnI ns is ds ⟨#[109, 97, 105, 110]⟩ 1) (newM (pnD ns is ds ⟨#[109, 97, 105, 110]⟩ 1)) (newL (pnD ns is ds ⟨#[109, 97, 105, 110]⟩ 1)) (wnB ns is ds pl) e w' ∧ Below w.heap.size w w' := by
  by_cases hp : 1 ≤ pl ∧ pl ≤ 3
  · obtain ⟨p, rfl⟩ : ∃ p : Nat, pl = (p : Int) := ⟨pl.toNat, by omega⟩
    refine (sworldnew_in v1 v2 v3 ns is ds p w R1 R2 R3 l1 l2 l3 (by omega) (by omega)).mono ?_
    rintro e w' ⟨h, hb⟩
    refine ⟨?_, hb⟩
    have hk : wnB ns is ds (p : Int) = pnB ns is ds ⟨#[109, 97, 105, 110]⟩ 1 := by unfold wnB; simp [hp.1, hp.2]
    rw [hk]
    unfold WnT
    rw [show ((p : Int)).toNat = p from by simp]
    rcases h with ⟨h1, y1, y2, y3, vh, vl, va, vt, vL, h2, S⟩ | ⟨h1, h2⟩
    · exact ⟨_, by rw [h1]; exact h2, Or.inl ⟨h1, y1, y2, y3, vh, vl, va, vt, vL, rfl, S, S.bd⟩⟩
    · exact ⟨_, by rw [h1]; exact h2, Or.inr ⟨h1, rfl⟩⟩
  · refine (sworldnew_out v1 v2 v3 ns is ds pl w R1 R2 R3 hp).mono ?_
    rintro e w' ⟨h2, hb⟩
    have hk : wnB ns is ds pl = false := by unfold wnB; simp; intro h1 h2; exact absurd ⟨h1, h2⟩ hp
    rw [hk]
    exact ⟨⟨_, h2, Or.inr ⟨rfl, rfl⟩⟩, hb⟩
theorem iwn_t (v1 v2 v3 : Value) (ns : List Nd) (is : List In) (ds : List Df) (pl : Int) (w : World) (R1 : NRow w v1 ns) (R2 : InRow w v2 is) (R3 : DfRow w v3 ds) (hg : ErrT w) (l1 : ns.length ≤ 1048576) (l2 : is.length ≤ 1048576) (l3 : ds.length ≤ 1048576) :
    Calls Tryz.prog 7 #[.agg #[v1, v2, v3], .int .i64 pl] w fun e w' => WnT w.heap.size ns is ds pl (pnI ns is ds ⟨#[109, 97, 105, 110]⟩ 1) (newM (pnD ns is ds ⟨#[109, 97, 105, 110]⟩ 1)) (newL (pnD ns is ds ⟨#[109, 97, 105, 110]⟩ 1)) (wnB ns is ds pl) e w' ∧ Below w.heap.size w w' := by
  by_cases hp : 1 ≤ pl ∧ pl ≤ 3
  · obtain ⟨p, rfl⟩ : ∃ p : Nat, pl = (p : Int) := ⟨pl.toNat, by omega⟩
    refine (iworldnew_in v1 v2 v3 ns is ds p w R1 R2 R3 hg l1 l2 l3 (by omega) (by omega)).mono ?_
    rintro e w' ⟨h, hb⟩
    refine ⟨?_, hb⟩
    have hk : wnB ns is ds (p : Int) = pnB ns is ds ⟨#[109, 97, 105, 110]⟩ 1 := by unfold wnB; simp [hp.1, hp.2]
    rw [hk]
    unfold WnT
    rw [show ((p : Int)).toNat = p from by simp]
    rcases h with ⟨h1, b, y1, y2, y3, vh, vl, va, vt, vL, B1, B2, B3, hb1, hb2, hb3, h2, S, H, Q, hap⟩ | ⟨h1, h2⟩
    · have W : WV w.heap.size w' y1 y2 y3 vh vl va vt vL ns.length is.length ds.length _ (p * p) (ncs ns) (incs is) (dfcs ds) (hmc _ _ vL) (ncs _) (zls (p * p)) := ⟨own_mono S.o1 hb1, own_mono S.o2 hb1, own_mono S.o3 hb1, own_mono H hb2, own_mono Q hb3, own_mono S.l hb1, own_mono S.a hb1, own_mono S.t hb1, hap⟩
      exact ⟨_, by rw [h1]; exact h2, Or.inl ⟨h1, y1, y2, y3, vh, vl, va, vt, vL, rfl, W, W.bd⟩⟩
    · exact ⟨_, by rw [h1]; exact h2, Or.inr ⟨h1, rfl⟩⟩
  · refine (iworldnew_out v1 v2 v3 ns is ds pl w R1 R2 R3 (by unfold placesB; simp; intro h1; exact Int.not_le.1 fun h2 => hp ⟨h1, h2⟩)).mono ?_
    rintro e w' ⟨h2, hb⟩
    have hk : wnB ns is ds pl = false := by unfold wnB; simp; intro h1 h2; exact absurd ⟨h1, h2⟩ hp
    rw [hk]
    exact ⟨⟨_, h2, Or.inr ⟨rfl, rfl⟩⟩, hb⟩
set_option maxRecDepth 100000 in
set_option maxHeartbeats 6400000 in
theorem wn_r10 {t0 t1 t3 t4 t5 t6 t7 t9 t10 t11 t12 t13 t14 t15 t16 t17 t18 t19 t20 t21 t22 t23 t24 t25 t26 t27 t28 t29 t30 t31 t32 t33 t34 t35 t36 t37 t38 t39 t40 t41 t42 t43 t44 t45 t46 t47 t48 t49 t50 t51 t52 t53 t54 t55 t56 t57 t58 t59 t60 t61 t62 t63 t64 t65 t66 t67 t68 t69 t70 t71 t72 t73 t74 t75 t76 t77 t78 t79 t80 t81 t82 t83 t84 t85 t86 t87 t88 t89 t90 t91 t92 t93 t94 t95 t96 t97 t98 t99 t100 : Value} {fs : List Deferred} (y0 b0 : Nat) (e1 e2 e3 a1 a2 a3 : Option Addr) (f1 f2 f3 c1 c2 c3 : Nat) (ns : List Nd) (is : List In) (ds : List Df) (w : World) (Q : Exit → Act → World → Prop)
    (hy : w.heap[y0]? = some (.cells #[.slice e1 ns.length f1, .slice e2 is.length f2, .slice e3 ds.length f3] 36 (0, 0))) (hk : w.heap[b0]? = some (.cells #[.slice a1 ns.length c1, .slice a2 is.length c2, .slice a3 ds.length c3] 28 (0, 0))) (E1 : NRow w (.slice e1 ns.length f1) ns) (E2 : InRow w (.slice e2 is.length f2) is) (E3 : DfRow w (.slice e3 ds.length f3) ds) (R1 : NRow w (.slice a1 ns.length c1) ns) (R2 : InRow w (.slice a2 is.length c2) is) (R3 : DfRow w (.slice a3 ds.length c3) ds) (l1 : ns.length ≤ 2097152) (l2 : is.length ≤ 2097152) (l3 : ds.length ≤ 2097152)
    (hQ : ∀ u45 u46 u47 u48 (W : World), Below w.heap.size w W → Q .normal ⟨#[t0, t1, .pointer (some ⟨b0, 0, none⟩), t3, t4, t5, t6, t7, .pointer (some ⟨y0, 0, none⟩), t9, t10, t11, t12, t13, t14, t15, t16, t17, t18, t19, t20, t21, t22, t23, t24, t25, t26, t27, t28, t29, t30, t31, t32, t33, t34, t35, t36, t37, t38, t39, t40, t41, t42, t43, t44, u45, u46, u47, u48, .bool false, t50, t51, t52, t53, t54, t55, t56, t57, t58, t59, t60, t61, t62, t63, t64, t65, t66, t67, t68, t69, t70, t71, t72, t73, t74, t75, t76, t77, t78, t79, t80, t81, t82, t83, t84, t85, t86, t87, t88, t89, t90, t91, t92, t93, t94, t95, t96, t97, t98, t99, t100], fs⟩ W) :
    (Code.region 10 (List.toArray (⟨some 45, .load 36 (.tmp 8), 36, "exact.go:4067", #[], none⟩ :: ⟨some 46, .load 28 (.tmp 2), 28, "exact.go:4067", #[], none⟩ :: ⟨some 47, .call { callee := .value (.func 6), args := #[.tmp 46], argTypes := #[28] }, 36, "exact.go:4067", #[⟨1, .data⟩], none⟩ :: ⟨some 48, .call { callee := .value (.func 9), args := #[.tmp 45, .tmp 47], argTypes := #[36, 36] }, 4, "exact.go:4067", #[⟨0, .data⟩, ⟨2, .data⟩, ⟨2, .chain⟩], none⟩ :: ⟨some 49, .unOp .not 4 (.tmp 48), 4, "exact.go:4067", #[⟨3, .data⟩], none⟩ :: [])) true).wp Tryz.prog Q ⟨#[t0, t1, .pointer (some ⟨b0, 0, none⟩), t3, t4, t5, t6, t7, .pointer (some ⟨y0, 0, none⟩), t9, t10, t11, t12, t13, t14, t15, t16, t17, t18, t19, t20, t21, t22, t23, t24, t25, t26, t27, t28, t29, t30, t31, t32, t33, t34, t35, t36, t37, t38, t39, t40, t41, t42, t43, t44, t45, t46, t47, t48, t49, t50, t51, t52, t53, t54, t55, t56, t57, t58, t59, t60, t61, t62, t63, t64, t65, t66, t67, t68, t69, t70, t71, t72, t73, t74, t75, t76, t77, t78, t79, t80, t81, t82, t83, t84, t85, t86, t87, t88, t89, t90, t91, t92, t93, t94, t95, t96, t97, t98, t99, t100], fs⟩ w := by
  have hS : ∀ w', Below w.heap.size w w' → (w'.heap[y0]? = some (.cells #[.slice e1 ns.length f1, .slice e2 is.length f2, .slice e3 ds.length f3] 36 (0, 0)) ∧ w'.heap[b0]? = some (.cells #[.slice a1 ns.length c1, .slice a2 is.length c2, .slice a3 ds.length c3] 28 (0, 0))) := fun w' hb => ⟨blk_bel hy hb, blk_bel hk hb⟩
  have B : Below w.heap.size w w.drew := drew_bel w
  refine wp_region_noPanic ?_
  refine wp_region_held_drew (S := fun w' => w'.heap[y0]? = some (.cells #[.slice e1 ns.length f1, .slice e2 is.length f2, .slice e3 ds.length f3] 36 (0, 0)) ∧ w'.heap[b0]? = some (.cells #[.slice a1 ns.length c1, .slice a2 is.length c2, .slice a3 ds.length c3] 28 (0, 0))) (by kernel_rfl) (hS _ B) (fun hHeld => ?_)
  refine wpAnyH_take (i := 0) (oi := ⟨some 45, .load 36 (.tmp 8), 36, "exact.go:4067", #[], none⟩) (v := .agg #[.slice e1 ns.length f1, .slice e2 is.length f2, .slice e3 ds.length f3]) rfl (by kernel_rfl) (by kernel_rfl) (by kernel_rfl) (fun _ _ _ h => h) (yields_row (by rfl) 36 _ rfl y0 rfl #[.slice e1 ns.length f1, .slice e2 is.length f2, .slice e3 ds.length f3] 36 _ (fun _ h => h.1) Tryz.underlying36 rfl Tryz.sizeCode) (by assumption) ?_
  simp only [Act.put, List.setIfInBounds_toArray, List.set_cons_zero, List.set_cons_succ]
  refine wpAnyH_take (i := 1) (oi := ⟨some 46, .load 28 (.tmp 2), 28, "exact.go:4067", #[], none⟩) (v := .agg #[.slice a1 ns.length c1, .slice a2 is.length c2, .slice a3 ds.length c3]) rfl (by kernel_rfl) (by kernel_rfl) (by kernel_rfl) (fun _ _ _ h => h) (yields_row (by rfl) 28 _ rfl b0 rfl #[.slice a1 ns.length c1, .slice a2 is.length c2, .slice a3 ds.length c3] 28 _ (fun _ h => h.2) Tryz.underlying28 rfl Tryz.sizeLCode) (by assumption) ?_
  simp only [Act.put, List.setIfInBounds_toArray, List.set_cons_zero, List.set_cons_succ]
  refine wpAnyH_ready (rs := [2]) (by kernel_rfl) (by simp) ?_
  refine AllReadyH.cons rfl (fun K hK => ?_) AllReadyH.nil
  go_simp
  go_wp2_with (go_at_call 6; with_reducible refine (tocode_any _ _ _ ns is ds _ (R1.below B) (R2.below B) (R3.below B) l1 l2 l3).mono ?_; rintro e wA ⟨u1, u2, u3, rfl, S1, S2, S3, hb⟩)
  replace B := B.trans (hb.mono B.size)
  obtain ⟨b1, d1, rfl⟩ := S1.small
  obtain ⟨b2, d2, rfl⟩ := S2.small
  obtain ⟨b3, d3, rfl⟩ := S3.small
  clear hb
  refine hK.out _ _ (hS _ B) (fun hHeld => ?_)
  clear hK
  refine wpAnyH_ready (rs := [3]) (by kernel_rfl) (by simp) ?_
  refine AllReadyH.cons rfl (fun K hK => ?_) AllReadyH.nil
  go_simp
  go_wp2_with (go_at_call 9; with_reducible refine (eqcode_any _ _ _ _ _ _ ns is ds _ (E1.below B) (E2.below B) (E3.below B) S1 S2 S3).mono ?_; rintro e wZ ⟨rfl, hb⟩)
  replace S1 := S1.below hb
  replace S2 := S2.below hb
  replace S3 := S3.below hb
  replace B := B.trans (hb.mono B.size)
  clear hb
  refine hK.out _ _ (hS _ B) (fun hHeld => ?_)
  clear hK
  refine wpAnyH_take (i := 4) (oi := ⟨some 49, .unOp .not 4 (.tmp 48), 4, "exact.go:4067", #[⟨3, .data⟩], none⟩) (v := .bool false) rfl (by kernel_rfl) (by kernel_rfl) (by kernel_rfl) (fun _ _ _ h => h) (Or.inl ⟨by rfl, by intro w hSw; go_simp⟩) (by assumption) ?_
  simp only [Act.put, List.setIfInBounds_toArray, List.set_cons_zero, List.set_cons_succ]
  refine wpAnyH_done (by kernel_rfl) ?_ _
  exact NoPanic.normal (hQ _ _ _ _ _ B)
set_option maxRecDepth 100000 in
set_option maxHeartbeats 16000000 in
theorem lworldnew_any (v1 v2 v3 : Value) (ns : List Nd) (is : List In) (ds : List Df) (pl : Int) (w : World) (R1 : NRow w v1 ns) (R2 : InRow w v2 is) (R3 : DfRow w v3 ds) (hg : ErrT w) :
    Calls Tryz.prog 3 #[.agg #[v1, v2, v3], .int .i64 pl] w fun e w' => e = .returned (.bool true) ∧ Below w.heap.size w w' := by
  obtain ⟨a1, c1, rfl⟩ := R1.small
  obtain ⟨a2, c2, rfl⟩ := R2.small
  obtain ⟨a3, c3, rfl⟩ := R3.small
  have hB0 : Below w.heap.size w (w.alloc (Obj.cells #[.slice a1 ns.length c1, .slice a2 is.length c2, .slice a3 ds.length c3] 28)) := (Below.refl _ _).alloc (Nat.le_refl _) _
  go_enter Tryz.func3, Tryz.ntmps3
  go_wp2_with fail
  refine (szcode_any _ _ _ ns is ds _ (R1.below hB0) (R2.below hB0) (R3.below hB0)).mono ?_
  rintro e w1 ⟨r, rfl, hr0, hr1, hr2, hb1⟩
  have hx1 : w1.heap[w.heap.size]? = some (.cells #[.slice a1 ns.length c1, .slice a2 is.length c2, .slice a3 ds.length c3] 28 (0, 0)) := (hb1.block _ (by simp)).trans (heap_alloc_new _ _)
  have hB1 := hB0.trans (hb1.mono hB0.size)
  clear hB0 hb1
  by_cases hr : r < 0
  · go_wp2
    go_ret
    exact ⟨rfl, hB1⟩
  obtain ⟨l1, l2, l3⟩ := hr2 (by omega)
  clear hr2
  obtain ⟨hlL, hzL⟩ := newL_fits (pnD ns is ds ⟨#[109, 97, 105, 110]⟩ 1)
  have IT := fun (v1 v2 v3 : Value) (w' : World) (R1 : NRow w' v1 ns) (R2 : InRow w' v2 is) (R3 : DfRow w' v3 ds) (hb : Below w.heap.size w w') => iwn_t v1 v2 v3 ns is ds pl w' R1 R2 R3 (hg.below hb (Nat.le_refl _)) (by omega) (by omega) (by omega)
  have ST := fun (v1 v2 v3 : Value) (w' : World) (R1 : NRow w' v1 ns) (R2 : InRow w' v2 is) (R3 : DfRow w' v3 ds) => swn_t v1 v2 v3 ns is ds pl w' R1 R2 R3 (by omega) (by omega) (by omega)
  generalize newL (pnD ns is ds ⟨#[109, 97, 105, 110]⟩ 1) = Q at *
  generalize newM (pnD ns is ds ⟨#[109, 97, 105, 110]⟩ 1) = M at *
  generalize pnI ns is ds ⟨#[109, 97, 105, 110]⟩ 1 = I at *
  have hpp : wnB ns is ds pl = true → pl.toNat * pl.toNat ≤ 9 := fun h => by
    unfold wnB at h
    simp at h
    have h3 : pl.toNat ≤ 3 := by omega
    exact Nat.mul_le_mul h3 h3
  obtain ⟨pn, hpn9, IT, ST⟩ : ∃ pn : Nat, pn * pn ≤ 9 ∧ (∀ (v1 v2 v3 : Value) (w' : World), NRow w' v1 ns → InRow w' v2 is → DfRow w' v3 ds → Below w.heap.size w w' → Calls Tryz.prog 7 #[.agg #[v1, v2, v3], .int .i64 pl] w' fun e w'' => (∃ cs, e = .returned (.tuple #[.agg cs, .bool (wnB ns is ds pl)]) ∧ An w'.heap.size w''.heap.size w'' cs ns is ds pn I M Q (wnB ns is ds pl)) ∧ Below w'.heap.size w' w'') ∧
      (∀ (v1 v2 v3 : Value) (w' : World), NRow w' v1 ns → InRow w' v2 is → DfRow w' v3 ds → Calls Tryz.prog 5 #[.agg #[v1, v2, v3], .int .i64 pl] w' fun e w'' => (∃ cs, e = .returned (.tuple #[.agg cs, .bool (wnB ns is ds pl)]) ∧ An w'.heap.size w''.heap.size w'' cs ns is ds pn I M Q (wnB ns is ds pl)) ∧ Below w'.heap.size w' w'') := by
    cases hw : wnB ns is ds pl with
    | true => exact ⟨pl.toNat, hpp hw, fun v1 v2 v3 w' r1 r2 r3 hb => by have := IT v1 v2 v3 w' r1 r2 r3 hb; rw [hw] at this; exact this, fun v1 v2 v3 w' r1 r2 r3 => by have := ST v1 v2 v3 w' r1 r2 r3; rw [hw] at this; exact this⟩
    | false =>
      refine ⟨0, by omega, fun v1 v2 v3 w' r1 r2 r3 hb => (IT v1 v2 v3 w' r1 r2 r3 hb).mono ?_, fun v1 v2 v3 w' r1 r2 r3 => (ST v1 v2 v3 w' r1 r2 r3).mono ?_⟩
      all_goals
        rintro e w'' ⟨⟨cs, h1, h2⟩, h3⟩
        rw [hw] at h1 h2
        refine ⟨⟨cs, h1, ?_⟩, h3⟩
        rcases h2 with ⟨h2, _⟩ | ⟨_, h2⟩
        · cases h2
        · exact Or.inr ⟨rfl, h2⟩
  clear hpp
  generalize wnB ns is ds pl = bb at *
  have hl4 : Q.length ≤ 1048576 := by omega
  have hbb' : (bb != bb) = false := by simp
  have EQ : ∀ (lo hi lo' hi' : Nat) (cs cs' : Array Value) (W : World), An lo hi W cs ns is ds pn I M Q bb → An lo' hi' W cs' ns is ds pn I M Q bb → Calls Tryz.prog 8 #[.agg cs, .agg cs'] W fun e w' => e = .returned (.bool true) ∧ Below W.heap.size W w' := fun _ _ _ _ _ _ _ h h' => h.eq h' (by omega) (by omega) (by omega) hl4 (by omega) R1.sz R2.sz R3.sz hzL
  have hkk := anK_pos ns is ds pn Q bb
  go_wp2_with (refine wpList_load_row rfl 28 _ rfl w.heap.size rfl 28 #[.slice a1 ns.length c1, .slice a2 is.length c2, .slice a3 ds.length c3] (0, 0) _ hx1 Tryz.underlying28 rfl Tryz.sizeLCode ?_)
  refine (tocode_any _ _ _ ns is ds _ (R1.below hB1) (R2.below hB1) (R3.below hB1) (by omega) (by omega) (by omega)).mono ?_
  rintro e w2 ⟨u1, u2, u3, rfl, S1, S2, S3, hb2⟩
  obtain ⟨b1, d1, rfl⟩ := S1.small
  obtain ⟨b2, d2, rfl⟩ := S2.small
  obtain ⟨b3, d3, rfl⟩ := S3.small
  have hB2 := hB1.trans (hb2.mono hB1.size)
  have hx2 := blk_bel hx1 hb2
  clear hB1 hx1 hb2
  go_wp2_with fail
  refine (ST _ _ _ _ S1 S2 S3).mono ?_
  rintro e w3 ⟨⟨cs3, rfl, A3⟩, hb3⟩
  obtain ⟨z0, z1, z2, z3, z4, z5, z6, z7, z8, z9, z10, rfl⟩ := A3.form
  have hB3 := hB2.trans (hb3.mono hB2.size)
  have hx3 := blk_bel hx2 hb3
  clear S1 S2 S3 hB2 hx2 hb3
  go_wp2_with (refine wpList_store_own rfl 43 _ _ rfl w3.heap.size #[z0, z1, z2, z3, z4, z5, z6, z7, z8, z9, z10] rfl rfl 43 _ (heap_alloc_new _ _) Tryz.sizeWd rfl A3.one ?_)
  intro w4 hnw4 hbw4 hsw4
  have hdw4 : Below w3.heap.size w3 w4 := ((Below.refl _ _).alloc (Nat.le_refl _) _).trans hbw4
  have V4 : VarN w4 w3.heap.size w2.heap.size w3.heap.size #[z0, z1, z2, z3, z4, z5, z6, z7, z8, z9, z10] ns is ds pn I M Q bb := ⟨hnw4, A3.below hdw4, Nat.le_refl _⟩
  have hBw4 := hB3.trans (hdw4.mono hB3.size)
  have hxw4 := blk_bel hx3 hdw4
  clear hB3 hx3 A3 hnw4 hbw4 hsw4 hdw4
  have hlo4 : w.heap.size < w4.heap.size := blk_lt hxw4
  generalize w3.heap.size = b4 at *
  generalize w2.heap.size = lo4 at *
  go_wp2_with (refine wpList_load_row rfl 28 _ rfl w.heap.size rfl 28 #[.slice a1 ns.length c1, .slice a2 is.length c2, .slice a3 ds.length c3] (0, 0) _ hxw4 Tryz.underlying28 rfl Tryz.sizeLCode ?_)
  refine (tocode_own _ _ _ ns is ds _ (R1.below hBw4) (R2.below hBw4) (R3.below hBw4) (by omega) (by omega) (by omega)).mono ?_
  rintro e w5 ⟨u1, u2, u3, rfl, o1, o2, o3, hb5⟩
  obtain ⟨b1, d1, rfl⟩ := own_form o1
  obtain ⟨b2, d2, rfl⟩ := own_form o2
  obtain ⟨b3, d3, rfl⟩ := own_form o3
  have hB5 := hBw4.trans (hb5.mono hBw4.size)
  have hx5 := blk_bel hxw4 hb5
  have hlt4 := V4.lt
  replace V4 := V4.below hb5
  have hlo5 : w4.heap.size ≤ w5.heap.size := hb5.size
  clear hBw4 hxw4 hb5
  go_wp2_with fail
  have hBa : Below w5.heap.size w5 (w5.alloc (Obj.cells #[.slice b1 ns.length d1, .slice b2 is.length d2, .slice b3 ds.length d3] 36)) := (Below.refl _ _).alloc (Nat.le_refl _) _
  have p1 := own_below o1 hBa
  have p2 := own_below o2 hBa
  have p3 := own_below o3 hBa
  refine (IT _ _ _ _ (NRow.of_own p1 (by omega) R1.sz) (InRow.of_own p2 (by omega) R2.sz) (DfRow.of_own p3 (by omega) R3.sz) (hB5.trans (hBa.mono hB5.size))).mono ?_
  rintro e w7 ⟨⟨cs7, rfl, A7⟩, hb7⟩
  obtain ⟨y0, y1, y2, y3, y4, y5, y6, y7, y8, y9, y10, rfl⟩ := A7.form
  have hB57 := hBa.trans (hb7.mono hBa.size)
  have hy7 : w7.heap[w5.heap.size]? = some (.cells #[.slice b1 ns.length d1, .slice b2 is.length d2, .slice b3 ds.length d3] 36 (0, 0)) := (hb7.block _ (by simp)).trans (heap_alloc_new _ _)
  have hB7 := hB5.trans (hB57.mono hB5.size)
  have hx7 := blk_bel hx5 hB57
  replace V4 := V4.below hB57
  have q1 : w7.ownsRow w4.heap.size 130 5 (.slice b1 ns.length d1) ns.length (ncs ns) := own_below o1 hB57
  have q2 : w7.ownsRow w4.heap.size 99 4 (.slice b2 is.length d2) is.length (incs is) := own_below o2 hB57
  have q3 : w7.ownsRow w4.heap.size 101 3 (.slice b3 ds.length d3) ds.length (dfcs ds) := own_below o3 hB57
  have t1 : ∀ k, (Value.slice b1 ns.length d1).ownBlock = some k → w4.heap.size ≤ k ∧ k < w5.heap.size := fun k hk => o1.lt k hk
  have t2 : ∀ k, (Value.slice b2 is.length d2).ownBlock = some k → w4.heap.size ≤ k ∧ k < w5.heap.size := fun k hk => o2.lt k hk
  have t3 : ∀ k, (Value.slice b3 ds.length d3).ownBlock = some k → w4.heap.size ≤ k ∧ k < w5.heap.size := fun k hk => o3.lt k hk
  replace A7 : An (w5.heap.size + 1) w7.heap.size w7 #[y0, y1, y2, y3, y4, y5, y6, y7, y8, y9, y10] ns is ds pn I M Q bb := by simpa using A7
  have hs57 : w5.heap.size < w7.heap.size := blk_lt hy7
  clear o1 o2 o3 p1 p2 p3 hBa hb7 hB57 hB5 hx5
  go_wp2_with (refine wpList_store_own rfl 43 _ _ rfl w7.heap.size #[y0, y1, y2, y3, y4, y5, y6, y7, y8, y9, y10] rfl rfl 43 _ (heap_alloc_new _ _) Tryz.sizeWd rfl A7.one ?_)
  intro w8 hnw8 hbw8 hsw8
  have hdw8 : Below w7.heap.size w7 w8 := ((Below.refl _ _).alloc (Nat.le_refl _) _).trans hbw8
  have V6 : VarN w8 w7.heap.size (w5.heap.size + 1) w7.heap.size #[y0, y1, y2, y3, y4, y5, y6, y7, y8, y9, y10] ns is ds pn I M Q bb := ⟨hnw8, A7.below hdw8, Nat.le_refl _⟩
  replace V4 := V4.below hdw8
  replace q1 := own_below q1 hdw8
  replace q2 := own_below q2 hdw8
  replace q3 := own_below q3 hdw8
  have hBw8 := hB7.trans (hdw8.mono hB7.size)
  have hxw8 := blk_bel hx7 hdw8
  have hyw8 := blk_bel hy7 hdw8
  clear hB7 hx7 hy7 A7 hnw8 hbw8 hsw8 hdw8
  generalize w7.heap.size = b6 at *
  go_wp2_with (first | (refine wpList_load_row rfl 43 _ rfl b6 rfl 43 #[y0, y1, y2, y3, y4, y5, y6, y7, y8, y9, y10] (0, 0) _ V6.blk Tryz.underlying43 rfl Tryz.sizeWd ?_) | (refine wpList_load_row rfl 43 _ rfl b4 rfl 43 #[z0, z1, z2, z3, z4, z5, z6, z7, z8, z9, z10] (0, 0) _ V4.blk Tryz.underlying43 rfl Tryz.sizeWd ?_))
  refine (EQ _ _ _ _ _ _ _ V6.an V4.an).mono ?_
  rintro e w9 ⟨rfl, hb9⟩
  replace V4 := V4.below hb9
  replace V6 := V6.below hb9
  replace q1 := own_below q1 hb9
  replace q2 := own_below q2 hb9
  replace q3 := own_below q3 hb9
  have hBw9 := hBw8.trans (hb9.mono hBw8.size)
  have hxw9 := blk_bel hxw8 hb9
  have hyw9 := blk_bel hyw8 hb9
  clear hBw8 hxw8 hyw8 hb9
  have T1 := NRow.of_own q1 (by omega) R1.sz
  have T2 := InRow.of_own q2 (by omega) R2.sz
  have T3 := DfRow.of_own q3 (by omega) R3.sz
  go_wp2_with fail
  refine wn_r10 w5.heap.size w.heap.size b1 b2 b3 a1 a2 a3 d1 d2 d3 c1 c2 c3 ns is ds _ _ hyw9 hxw9 T1 T2 T3 (R1.below hBw9) (R2.below hBw9) (R3.below hBw9) (by omega) (by omega) (by omega) (fun _ _ _ _ wl h9l => ?_)
  clear T1 T2 T3
  replace V4 := V4.below h9l
  replace V6 := V6.below h9l
  replace q1 := own_below q1 h9l
  replace q2 := own_below q2 h9l
  replace q3 := own_below q3 h9l
  have hBwl := hBw9.trans (h9l.mono hBw9.size)
  have hxwl := blk_bel hxw9 h9l
  have hywl := blk_bel hyw9 h9l
  clear hBw9 hxw9 hyw9 h9l
  go_wp2_with (refine wpList_load_row rfl 36 _ rfl w5.heap.size rfl 36 #[.slice b1 ns.length d1, .slice b2 is.length d2, .slice b3 ds.length d3] (0, 0) _ hywl Tryz.underlying36 rfl Tryz.sizeCode ?_)
  refine (markcode_x _ _ _ 1 w4.heap.size ns is ds _ q1 q2 q3 (by omega) (by omega) (by omega) (by omega) (by omega)).mono ?_
  rintro e wa ⟨rfl, _, _, _, T⟩
  replace T := T.mono (Q := fun k => w4.heap.size ≤ k ∧ k < w5.heap.size) (by rintro k (h | h | h); exact t1 k h; exact t2 k h; exact t3 k h)
  have hl6 := V6.hib
  have hl4x := V4.hib
  replace V4 := V4.tn T (fun j h1 h2 h3 => by omega) (by omega)
  replace V6 := V6.tn T (fun j h1 h2 h3 => by omega) (by omega)
  have hBwa := T.bel hBwl hBwl.size (fun k hk => by omega)
  have hxwa := T.blk hxwl (by omega)
  clear hxwl hywl hBwl T q1 q2 q3 t1 t2 t3
  have hk1 : ¬ (1 + 5 * (ns.length : Int) + 4 * (is.length : Int) + 3 * (ds.length : Int)) < 0 := by omega
  have e0 : wa.cell? ⟨b6, 0, none⟩ = some y0 := cell_of_row wa _ 0 _ _ _ V6.blk
  have e1 : wa.cell? ⟨b6, 0 + 1, none⟩ = some y1 := cell_of_row wa _ 1 _ _ _ V6.blk
  have e2 : wa.cell? ⟨b6, 0 + 2, none⟩ = some y2 := cell_of_row wa _ 2 _ _ _ V6.blk
  have e3 : wa.cell? ⟨b6, 0 + 3, none⟩ = some y3 := cell_of_row wa _ 3 _ _ _ V6.blk
  have e4 : wa.cell? ⟨b6, 0 + 4, none⟩ = some y4 := cell_of_row wa _ 4 _ _ _ V6.blk
  have e5 : wa.cell? ⟨b6, 0 + 5, none⟩ = some y5 := cell_of_row wa _ 5 _ _ _ V6.blk
  have e6 : wa.cell? ⟨b6, 0 + 6, none⟩ = some y6 := cell_of_row wa _ 6 _ _ _ V6.blk
  have e7 : wa.cell? ⟨b6, 0 + 7, none⟩ = some y7 := cell_of_row wa _ 7 _ _ _ V6.blk
  have e8 : wa.cell? ⟨b6, 0 + 8, none⟩ = some y8 := cell_of_row wa _ 8 _ _ _ V6.blk
  have e9 : wa.cell? ⟨b6, 0 + 9, none⟩ = some y9 := cell_of_row wa _ 9 _ _ _ V6.blk
  have e10 : wa.cell? ⟨b6, 0 + 10, none⟩ = some y10 := cell_of_row wa _ 10 _ _ _ V6.blk
  have k0 : wa.cell? ⟨b4, 0, none⟩ = some z0 := cell_of_row wa _ 0 _ _ _ V4.blk
  have k1 : wa.cell? ⟨b4, 0 + 1, none⟩ = some z1 := cell_of_row wa _ 1 _ _ _ V4.blk
  have k2 : wa.cell? ⟨b4, 0 + 2, none⟩ = some z2 := cell_of_row wa _ 2 _ _ _ V4.blk
  have k3 : wa.cell? ⟨b4, 0 + 3, none⟩ = some z3 := cell_of_row wa _ 3 _ _ _ V4.blk
  have k4 : wa.cell? ⟨b4, 0 + 4, none⟩ = some z4 := cell_of_row wa _ 4 _ _ _ V4.blk
  have k5 : wa.cell? ⟨b4, 0 + 5, none⟩ = some z5 := cell_of_row wa _ 5 _ _ _ V4.blk
  have k6 : wa.cell? ⟨b4, 0 + 6, none⟩ = some z6 := cell_of_row wa _ 6 _ _ _ V4.blk
  have k7 : wa.cell? ⟨b4, 0 + 7, none⟩ = some z7 := cell_of_row wa _ 7 _ _ _ V4.blk
  have k8 : wa.cell? ⟨b4, 0 + 8, none⟩ = some z8 := cell_of_row wa _ 8 _ _ _ V4.blk
  have k9 : wa.cell? ⟨b4, 0 + 9, none⟩ = some z9 := cell_of_row wa _ 9 _ _ _ V4.blk
  have k10 : wa.cell? ⟨b4, 0 + 10, none⟩ = some z10 := cell_of_row wa _ 10 _ _ _ V4.blk
  go_wp2_with fail
  refine (EQ _ _ _ _ _ _ _ V6.an V4.an).mono ?_
  rintro e wb ⟨rfl, hbb⟩
  clear e0 e1 e2 e3 e4 e5 e6 e7 e8 e9 e10 k0 k1 k2 k3 k4 k5 k6 k7 k8 k9 k10
  replace V4 := V4.below hbb
  replace V6 := V6.below hbb
  have hBwb := hBwa.trans (hbb.mono hBwa.size)
  have hxwb := blk_bel hxwa hbb
  clear hBwa hxwa hbb
  go_wp2_with (refine wpList_load_row rfl 43 _ rfl b6 rfl 43 #[y0, y1, y2, y3, y4, y5, y6, y7, y8, y9, y10] (0, 0) _ V6.blk Tryz.underlying43 rfl Tryz.sizeWd ?_)
  refine (V6.an.mark (by omega) (by omega) (by omega) (by omega) (by omega)).mono ?_
  rintro e wc ⟨rfl, K6, T⟩
  replace V4 := V4.tn T (fun j h1 h2 h3 => by omega) (by omega)
  have V6b := T.blk V6.blk (by omega)
  have hBwc := T.bel hBwb hBwb.size (fun k hk => by omega)
  have hxwc := T.blk hxwb (by omega)
  clear T V6 hxwb hBwb
  go_wp2_with (refine wpList_load_row rfl 43 _ rfl b6 rfl 43 #[y0, y1, y2, y3, y4, y5, y6, y7, y8, y9, y10] (0, 0) _ V6b Tryz.underlying43 rfl Tryz.sizeWd ?_)
  refine (K6.held (by omega) (by omega) (by omega) (by omega) (by omega)).mono ?_
  rintro e wd ⟨rfl, hbd⟩
  replace V4 := V4.below hbd
  replace K6 := K6.below hbd
  replace V6b := blk_bel V6b hbd
  have hBwd := hBwc.trans (hbd.mono hBwc.size)
  have hxwd := blk_bel hxwc hbd
  clear hBwc hxwc hbd
  go_wp2_with (refine wpList_load_row rfl 28 _ rfl w.heap.size rfl 28 #[.slice a1 ns.length c1, .slice a2 is.length c2, .slice a3 ds.length c3] (0, 0) _ hxwd Tryz.underlying28 rfl Tryz.sizeLCode ?_)
  refine (tocode_any _ _ _ ns is ds _ (R1.below hBwd) (R2.below hBwd) (R3.below hBwd) (by omega) (by omega) (by omega)).mono ?_
  rintro e we ⟨u1, u2, u3, rfl, S1, S2, S3, hb9⟩
  obtain ⟨f1, g1, rfl⟩ := S1.small
  obtain ⟨f2, g2, rfl⟩ := S2.small
  obtain ⟨f3, g3, rfl⟩ := S3.small
  replace V4 := V4.below hb9
  replace K6 := K6.below hb9
  replace V6b := blk_bel V6b hb9
  have hBwe := hBwd.trans (hb9.mono hBwd.size)
  clear hBwd hxwd hb9
  go_wp2_with fail
  refine (IT _ _ _ _ S1 S2 S3 hBwe).mono ?_
  rintro e wf ⟨⟨cs10, rfl, A10⟩, hb10⟩
  obtain ⟨x0, x1, x2, x3, x4, x5, x6, x7, x8, x9, x10, rfl⟩ := A10.form
  clear S1 S2 S3
  replace V4 := V4.below hb10
  replace K6 := K6.below hb10
  replace V6b := blk_bel V6b hb10
  have hBwf := hBwe.trans (hb10.mono hBwe.size)
  clear hBwe hb10
  go_wp2_with (refine wpList_store_own rfl 43 _ _ rfl wf.heap.size #[x0, x1, x2, x3, x4, x5, x6, x7, x8, x9, x10] rfl rfl 43 _ (heap_alloc_new _ _) Tryz.sizeWd rfl A10.one ?_)
  intro wg hnwg hbwg hswg
  have hdwg : Below wf.heap.size wf wg := ((Below.refl _ _).alloc (Nat.le_refl _) _).trans hbwg
  have V10 : VarN wg wf.heap.size we.heap.size wf.heap.size #[x0, x1, x2, x3, x4, x5, x6, x7, x8, x9, x10] ns is ds pn I M Q bb := ⟨hnwg, A10.below hdwg, Nat.le_refl _⟩
  replace V4 := V4.below hdwg
  replace K6 := K6.below hdwg
  replace V6b := blk_bel V6b hdwg
  have hBwg := hBwf.trans (hdwg.mono hBwf.size)
  clear hBwf A10 hnwg hbwg hswg hdwg
  generalize wf.heap.size = b10 at *
  go_wp2_with (first | (refine wpList_load_row rfl 43 _ rfl b10 rfl 43 #[x0, x1, x2, x3, x4, x5, x6, x7, x8, x9, x10] (0, 0) _ V10.blk Tryz.underlying43 rfl Tryz.sizeWd ?_) | (refine wpList_load_row rfl 43 _ rfl b4 rfl 43 #[z0, z1, z2, z3, z4, z5, z6, z7, z8, z9, z10] (0, 0) _ V4.blk Tryz.underlying43 rfl Tryz.sizeWd ?_))
  refine (EQ _ _ _ _ _ _ _ V10.an V4.an).mono ?_
  rintro e wh ⟨rfl, hbh⟩
  replace K6 := K6.below hbh
  replace V6b := blk_bel V6b hbh
  have hBwh := hBwg.trans (hbh.mono hBwg.size)
  clear hBwg hbh
  go_wp2_with (refine wpList_load_row rfl 43 _ rfl b6 rfl 43 #[y0, y1, y2, y3, y4, y5, y6, y7, y8, y9, y10] (0, 0) _ V6b Tryz.underlying43 rfl Tryz.sizeWd ?_)
  refine (K6.held (by omega) (by omega) (by omega) (by omega) (by omega)).mono ?_
  rintro e wi ⟨rfl, hbi⟩
  have hBwi := hBwh.trans (hbi.mono hBwh.size)
  clear V6b V4 V10 K6 hbi hBwh
  go_wp2
  go_ret
  exact ⟨rfl, hBwi⟩
end Go.Proofs.YtbhfooafhbfniaaGreatDoor
/-
  What a pool and a node that came in read as. Nothing of the program; no condition.
-/
namespace Go.Proofs.YtbhfooafhbfniaaGreatDoor
open Go.ChangeShapes Go.WideShapes Go.ChangeAt Go.RowKit Go.Deep
theorem laidOut_true2 : laidOutB Tryz.prog = true := by kernel_rfl
section
variable {H : Type} {enc : TypeId × Value → H} {w : World} {base : Nat} {spare : Nat → Bool} {held : Bool}
set_option maxRecDepth 100000 in
theorem node_cells {fuel : Nat} {cs : List Value} {x : DataW H × List MemPlace} (h : DataW.trod enc Tryz.prog w base spare held fuel 127 cs = some x) :
    ∃ nd : Nd, cs = nd.cs ∧ nd.s.size ≤ maxLen := by
  obtain ⟨xs, n, _, _, hl, hlen, hf⟩ := DataW.trod_struct Tryz.underlying127 h
  rw [show Tryz.prog.cellsOf 127 = 5 by kernel_rfl] at hl
  match cs, hl with
  | [v0, v1, v2, v3, v4], _ =>
    have g0 := hf 0 _ rfl
    have g1 := hf 1 _ rfl
    have g2 := hf 2 _ rfl
    have g3 := hf 3 _ rfl
    have g4 := hf 4 _ rfl
    have i1 : Tryz.prog.cellsOf 3 = 1 := by kernel_rfl
    have i2 : Tryz.prog.cellsOf 9 = 1 := by kernel_rfl
    match xs, hlen with
    | [y0, y1, y2, y3, y4], _ =>
      simp [i1, i2] at g0 g1 g2 g3 g4
      obtain ⟨k, e0, _⟩ := DataW.trod_int Tryz.underlying3 g0
      obtain ⟨m, e1, _⟩ := DataW.trod_int Tryz.underlying3 g1
      obtain ⟨s, e2, _, hs⟩ := DataW.trod_string Tryz.underlying9 g2
      obtain ⟨a, e3, _⟩ := DataW.trod_int Tryz.underlying3 g3
      obtain ⟨b, e4, _⟩ := DataW.trod_int Tryz.underlying3 g4
      simp only [List.cons.injEq, and_true] at e0 e1 e2 e3 e4
      subst e0 e1 e2 e3 e4
      exact ⟨⟨k, m, s, a, b⟩, rfl, hs⟩
end
end Go.Proofs.YtbhfooafhbfniaaGreatDoor
/-
  What a slice of nodes that came in reads as: a list. Nothing of the program; no condition.
-/
namespace Go.Proofs.YtbhfooafhbfniaaGreatDoor
open Go.ChangeShapes Go.WideShapes Go.ChangeAt Go.RowKit Go.Deep
section
variable {H : Type} {enc : TypeId × Value → H} {w : World} {base : Nat} {spare : Nat → Bool} {held : Bool}
set_option maxRecDepth 100000 in
theorem open_nds {fuel : Nat} {v' : Value} {y0 : DataW H × List MemPlace} (h0 : DataW.trod enc Tryz.prog w base spare held fuel 22 [v'] = some y0) :
    ∃ xs, NRow w v' xs := by
  have i5 : Tryz.prog.cellsOf 127 = 5 := by kernel_rfl
  rcases open_slice Tryz.underlying22 h0 with ⟨hcs, _⟩ | ⟨a, len, cap, m, n, D, Pl, hcs, _, hl, hm, hmm, _, hx⟩
  · simp at hcs
    subst hcs
    exact ⟨[], none, 0, rfl, by simp, by simp, by simp, fun h => absurd rfl h⟩
  · simp at hcs
    subst hcs
    have hlm : len ≤ m := by rw [hmm]; split <;> omega
    rw [i5] at hx
    have each : ∀ i, i < m → ∃ nd : Nd, nd.s.size ≤ maxLen ∧ ∀ j, j < 5 → w.cell? (a.add (i * 5 + j)) = nd.cs[j]? := by
      intro i hi
      obtain ⟨cs', h1, h2⟩ := hx i hi
      obtain ⟨nd, rfl, hs⟩ := node_cells h2
      obtain ⟨_, hlen, hcell⟩ := World.cells?_some h1
      refine ⟨nd, hs, fun j hj => ?_⟩
      have := hcell j (by omega)
      rw [add_add] at this
      rw [this]
    haveI : Inhabited Nd := ⟨⟨0, 0, ByteArray.empty, 0, 0⟩⟩
    obtain ⟨q, hq⟩ := choose_lt each
    refine ⟨(List.range len).map q, some a, cap, ?_, ?_, ?_, ?_, ?_⟩
    · simp
    · exact ⟨by simp; omega, fun h => by cases h⟩
    · unfold maxLen at hm; simp; omega
    · intro x hx'
      simp at hx'
      obtain ⟨i, hi, rfl⟩ := hx'
      exact (hq i (by omega)).1
    · intro hne
      have hpos : 0 < len := by
        rcases Nat.eq_zero_or_pos len with h0 | h0
        · subst h0; simp at hne
        · exact h0
      obtain ⟨b, off, spot⟩ := a
      have hc := (hq 0 (by omega)).2 0 (by omega)
      simp only [Nd.cs, List.getElem?_cons_zero] at hc
      have hspot : spot = none := by simpa [Addr.add] using World.cell?_spot hc
      subst hspot
      have hb := World.block_lt_of_cell? _ _ hc
      refine ⟨b, off, rfl, by simpa [Addr.add_lit] using hb, fun i x hi => ?_⟩
      have hil : i < len := by
        have := (List.getElem?_eq_some_iff.1 hi).1
        simpa using this
      have hxe : x = q i := by
        rw [List.getElem?_map, List.getElem?_range hil] at hi
        simpa using hi.symm
      subst hxe
      have e : ∀ j, j < 5 → w.cell? ⟨b, off + i * 5 + j, none⟩ = (q i).cs[j]? := fun j hj => by
        have := (hq i (by omega)).2 j hj
        rw [Addr.add_lit] at this
        rw [← this, Nat.add_assoc]
      exact ⟨e 0 (by omega), e 1 (by omega), e 2 (by omega), e 3 (by omega), e 4 (by omega)⟩
end
end Go.Proofs.YtbhfooafhbfniaaGreatDoor
