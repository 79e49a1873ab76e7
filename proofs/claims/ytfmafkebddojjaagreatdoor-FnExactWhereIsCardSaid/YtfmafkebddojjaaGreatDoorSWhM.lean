/-
  Texts that stood by themselves, laid into one.
-/
import Derived.Test.YtfmafkebddojjaaGreatDoorWhMvM
import Derived.Test.YtfmafkebddojjaaGreatDoorMRgM
/-
  The region of spec.WhereIs that draws its order. No condition.
-/
set_option maxRecDepth 100000
set_option maxHeartbeats 6400000
namespace Go.Proofs.YtfmafkebddojjaaGreatDoor
open Go.RowKit
theorem ZjJ {t0 t3 t4 t5 t8 t9 t10 t11 t12 t13 t14 t15 t16 t17 t18 t19 t20 t21 t22 t23 t24 t25 t26 t27 t28 t29 t30 t31 t32 t33 t34 t35 t36 t37 t38 t39 t40 t41 t42 t43 t44 t45 t46 t47 t48 t49 t50 t51 t52 t53 t54 t55 t56 t57 t58 t59 t60 t61 t62 t63 t64 t65 t66 t67 t68 t69 t70 t71 t72 t73 t74 : Value} {fs : List Deferred} (b0 ga oa gs os k j nt qa : Nat) (p : Int) (an ai af ah al ag ap ab : Option Addr) (cn ci cf ch cl cg cp ca cb : Nat) (d : Wd) (s : ByteArray) (w : World) (Q : Exit -> Act -> World -> Prop)
  (hx : w.heap[b0]? = some (.cells #[.slice an d.ns.length cn, .slice ai d.is.length ci, .slice af d.ds.length cf, .int .i64 d.pl, .slice ah d.hs.length ch, .slice al d.ls.length cl, .slice ag d.gs.length cg, .slice ap d.ps.length cp, .int .i64 d.nx, .slice (some ⟨ga, oa, none⟩) d.ga.length ca, .slice ab d.tk.length cb] 50 (0, 0))) (hga : ga < w.heap.size) (hgs : gs < w.heap.size) (ha : w.cell? ⟨ga, oa + k, none⟩ = some (.slice (some ⟨gs, os, none⟩) nt qa)) (hs : w.cell? ⟨gs, os + j, none⟩ = some (.string s)) (hka : k < d.ga.length) (hjt : j < nt) (hp : decide (0 < p) = false)
  (hQ : ∀ u55 u56 u57 u58 u59 u60 u61 u62 u63 u64 u65 u66 u67 u68 u69 (W : World), Below w.heap.size w W -> Q .normal ⟨#[t0, .int .i64 p, .pointer (some ⟨b0, 0, none⟩), t3, t4, t5, .int .i64 (k : Nat), .int .i64 (j : Nat), t8, t9, t10, t11, t12, t13, t14, t15, t16, t17, t18, t19, t20, t21, t22, t23, t24, t25, t26, t27, t28, t29, t30, t31, t32, t33, t34, t35, t36, t37, t38, t39, t40, t41, t42, t43, t44, t45, t46, t47, t48, t49, t50, t51, t52, t53, t54, u55, u56, u57, u58, u59, u60, u61, u62, u63, u64, u65, u66, u67, u68, u69, .bool false, t71, t72, t73, t74], fs⟩ W) :
  (Code.region 10 (List.toArray (⟨some 55, .move (.tmp 1), 3, "l13_world.go:133", #[], none⟩ :: ⟨some 56, .binOp .gtr 3 (.tmp 55) (.const (.int IntKind.i64 0)) 3, 4, "l13_world.go:133", #[⟨0, .data⟩], none⟩ :: ⟨some 57, .move (.tmp 56), 4, "l13_world.go:133", #[⟨1, .data⟩], none⟩ :: ⟨some 58, .load 50 (.tmp 2), 50, "l13_world.go:133", #[⟨2, .guard⟩], some (2, true)⟩ :: ⟨some 59, .fieldAddr 50 (.tmp 2) 7, 0, "l13_world.go:133", #[⟨2, .guard⟩], some (2, true)⟩ :: ⟨some 60, .load 33 (.tmp 59), 33, "l13_world.go:133", #[⟨4, .data⟩, ⟨2, .guard⟩], some (2, true)⟩ :: ⟨some 61, .move (.tmp 6), 3, "l13_world.go:133", #[⟨2, .guard⟩], some (2, true)⟩ :: ⟨some 62, .indexAddr 33 (.tmp 60) (.tmp 61), 0, "l13_world.go:133", #[⟨5, .data⟩, ⟨6, .data⟩, ⟨2, .guard⟩], some (2, true)⟩ :: ⟨some 63, .load 54 (.tmp 62), 54, "l13_world.go:133", #[⟨7, .data⟩, ⟨2, .guard⟩], some (2, true)⟩ :: ⟨some 64, .move (.tmp 7), 3, "l13_world.go:133", #[⟨2, .guard⟩], some (2, true)⟩ :: ⟨some 65, .indexAddr 54 (.tmp 63) (.tmp 64), 0, "l13_world.go:133", #[⟨8, .data⟩, ⟨9, .data⟩, ⟨2, .guard⟩], some (2, true)⟩ :: ⟨some 66, .load 9 (.tmp 65), 9, "l13_world.go:133", #[⟨10, .data⟩, ⟨2, .guard⟩], some (2, true)⟩ :: ⟨some 67, .call { callee := .value (.func 50), args := #[.tmp 58, .tmp 66], argTypes := #[50, 9] }, 3, "l13_world.go:133", #[⟨3, .data⟩, ⟨11, .data⟩, ⟨2, .chain⟩, ⟨2, .guard⟩], some (2, true)⟩ :: ⟨some 68, .move (.tmp 1), 3, "l13_world.go:133", #[⟨2, .guard⟩], some (2, true)⟩ :: ⟨some 69, .binOp .eql 3 (.tmp 67) (.tmp 68) 3, 4, "l13_world.go:133", #[⟨12, .data⟩, ⟨13, .data⟩, ⟨2, .guard⟩], some (2, true)⟩ :: ⟨some 70, .pick (.tmp 57) (.tmp 69) (.const (.bool false)), 4, "l13_world.go:133", #[⟨2, .data⟩, ⟨14, .data⟩], none⟩ :: [])) true).wp Tryz.prog Q ⟨#[t0, .int .i64 p, .pointer (some ⟨b0, 0, none⟩), t3, t4, t5, .int .i64 (k : Nat), .int .i64 (j : Nat), t8, t9, t10, t11, t12, t13, t14, t15, t16, t17, t18, t19, t20, t21, t22, t23, t24, t25, t26, t27, t28, t29, t30, t31, t32, t33, t34, t35, t36, t37, t38, t39, t40, t41, t42, t43, t44, t45, t46, t47, t48, t49, t50, t51, t52, t53, t54, t55, t56, t57, t58, t59, t60, t61, t62, t63, t64, t65, t66, t67, t68, t69, t70, t71, t72, t73, t74], fs⟩ w := by
 have hS : ∀ w', Below w.heap.size w w' -> (w'.heap[b0]? = some (.cells #[.slice an d.ns.length cn, .slice ai d.is.length ci, .slice af d.ds.length cf, .int .i64 d.pl, .slice ah d.hs.length ch, .slice al d.ls.length cl, .slice ag d.gs.length cg, .slice ap d.ps.length cp, .int .i64 d.nx, .slice (some ⟨ga, oa, none⟩) d.ga.length ca, .slice ab d.tk.length cb] 50 (0, 0)) /\ w'.cell? ⟨ga, oa + k, none⟩ = some (.slice (some ⟨gs, os, none⟩) nt qa) /\ w'.cell? ⟨gs, os + j, none⟩ = some (.string s)) := fun w' hb => ⟨Zal hx hb, (hb.cell (p := ⟨ga, oa + k, none⟩) hga).trans ha, (hb.cell (p := ⟨gs, os + j, none⟩) hgs).trans hs⟩
 have hk1 : (k : Int) < (d.ga.length : Int) := by omega
 have hk2 : (j : Int) < (nt : Int) := by omega
 have hp0 : ¬ 0 < p := by simpa using hp
 have B : Below w.heap.size w w.drew := ZaX w
 refine wp_region_noPanic ?_
 refine wp_region_held_drew (S := fun w' => w'.heap[b0]? = some (.cells #[.slice an d.ns.length cn, .slice ai d.is.length ci, .slice af d.ds.length cf, .int .i64 d.pl, .slice ah d.hs.length ch, .slice al d.ls.length cl, .slice ag d.gs.length cg, .slice ap d.ps.length cp, .int .i64 d.nx, .slice (some ⟨ga, oa, none⟩) d.ga.length ca, .slice ab d.tk.length cb] 50 (0, 0)) /\ w'.cell? ⟨ga, oa + k, none⟩ = some (.slice (some ⟨gs, os, none⟩) nt qa) /\ w'.cell? ⟨gs, os + j, none⟩ = some (.string s)) (by kernel_rfl) (hS _ B) (fun hHeld => ?_)
 refine wpAnyH_take (i := 0) (oi := ⟨some 55, .move (.tmp 1), 3, "l13_world.go:133", #[], none⟩) (v := .int .i64 p) rfl (by kernel_rfl) (by kernel_rfl) (by kernel_rfl) (fun _ _ _ h => h) (Or.inl ⟨by rfl, by intro w hSw; go_simp⟩) (by assumption) ?_
 simp only [Act.put, sit, sc0, scs]
 refine wpAnyH_take (i := 1) (oi := ⟨some 56, .binOp .gtr 3 (.tmp 55) (.const (.int IntKind.i64 0)) 3, 4, "l13_world.go:133", #[⟨0, .data⟩], none⟩) (v := .bool false) rfl (by kernel_rfl) (by kernel_rfl) (by kernel_rfl) (fun _ _ _ h => h) (Or.inl ⟨by rfl, by intro w' hSw; first | (go_simp; done) | (go_simp; exact hp) | (go_simp; simp; omega)⟩) (by assumption) ?_
 simp only [Act.put, sit, sc0, scs]
 refine wpAnyH_take (i := 2) (oi := ⟨some 57, .move (.tmp 56), 4, "l13_world.go:133", #[⟨1, .data⟩], none⟩) (v := .bool false) rfl (by kernel_rfl) (by kernel_rfl) (by kernel_rfl) (fun _ _ _ h => h) (Or.inl ⟨by rfl, by intro w hSw; go_simp⟩) (by assumption) ?_
 simp only [Act.put, sit, sc0, scs]
 refine wpAnyH_take (i := 3) (oi := ⟨some 58, .load 50 (.tmp 2), 50, "l13_world.go:133", #[⟨2, .guard⟩], some (2, true)⟩) (v := undef) rfl (by kernel_rfl) (by kernel_rfl) (by kernel_rfl) (fun _ _ _ h => h) (Or.inr ⟨by rfl, rfl⟩) (by assumption) ?_
 simp only [Act.put, sit, sc0, scs]
 refine wpAnyH_take (i := 4) (oi := ⟨some 59, .fieldAddr 50 (.tmp 2) 7, 0, "l13_world.go:133", #[⟨2, .guard⟩], some (2, true)⟩) (v := undef) rfl (by kernel_rfl) (by kernel_rfl) (by kernel_rfl) (fun _ _ _ h => h) (Or.inr ⟨by rfl, rfl⟩) (by assumption) ?_
 simp only [Act.put, sit, sc0, scs]
 refine wpAnyH_take (i := 5) (oi := ⟨some 60, .load 33 (.tmp 59), 33, "l13_world.go:133", #[⟨4, .data⟩, ⟨2, .guard⟩], some (2, true)⟩) (v := undef) rfl (by kernel_rfl) (by kernel_rfl) (by kernel_rfl) (fun _ _ _ h => h) (Or.inr ⟨by rfl, rfl⟩) (by assumption) ?_
 simp only [Act.put, sit, sc0, scs]
 refine wpAnyH_take (i := 6) (oi := ⟨some 61, .move (.tmp 6), 3, "l13_world.go:133", #[⟨2, .guard⟩], some (2, true)⟩) (v := undef) rfl (by kernel_rfl) (by kernel_rfl) (by kernel_rfl) (fun _ _ _ h => h) (Or.inr ⟨by rfl, rfl⟩) (by assumption) ?_
 simp only [Act.put, sit, sc0, scs]
 refine wpAnyH_take (i := 7) (oi := ⟨some 62, .indexAddr 33 (.tmp 60) (.tmp 61), 0, "l13_world.go:133", #[⟨5, .data⟩, ⟨6, .data⟩, ⟨2, .guard⟩], some (2, true)⟩) (v := undef) rfl (by kernel_rfl) (by kernel_rfl) (by kernel_rfl) (fun _ _ _ h => h) (Or.inr ⟨by rfl, rfl⟩) (by assumption) ?_
 simp only [Act.put, sit, sc0, scs]
 refine wpAnyH_take (i := 8) (oi := ⟨some 63, .load 54 (.tmp 62), 54, "l13_world.go:133", #[⟨7, .data⟩, ⟨2, .guard⟩], some (2, true)⟩) (v := undef) rfl (by kernel_rfl) (by kernel_rfl) (by kernel_rfl) (fun _ _ _ h => h) (Or.inr ⟨by rfl, rfl⟩) (by assumption) ?_
 simp only [Act.put, sit, sc0, scs]
 refine wpAnyH_take (i := 9) (oi := ⟨some 64, .move (.tmp 7), 3, "l13_world.go:133", #[⟨2, .guard⟩], some (2, true)⟩) (v := undef) rfl (by kernel_rfl) (by kernel_rfl) (by kernel_rfl) (fun _ _ _ h => h) (Or.inr ⟨by rfl, rfl⟩) (by assumption) ?_
 simp only [Act.put, sit, sc0, scs]
 refine wpAnyH_take (i := 10) (oi := ⟨some 65, .indexAddr 54 (.tmp 63) (.tmp 64), 0, "l13_world.go:133", #[⟨8, .data⟩, ⟨9, .data⟩, ⟨2, .guard⟩], some (2, true)⟩) (v := undef) rfl (by kernel_rfl) (by kernel_rfl) (by kernel_rfl) (fun _ _ _ h => h) (Or.inr ⟨by rfl, rfl⟩) (by assumption) ?_
 simp only [Act.put, sit, sc0, scs]
 refine wpAnyH_take (i := 11) (oi := ⟨some 66, .load 9 (.tmp 65), 9, "l13_world.go:133", #[⟨10, .data⟩, ⟨2, .guard⟩], some (2, true)⟩) (v := undef) rfl (by kernel_rfl) (by kernel_rfl) (by kernel_rfl) (fun _ _ _ h => h) (Or.inr ⟨by rfl, rfl⟩) (by assumption) ?_
 simp only [Act.put, sit, sc0, scs]
 refine wpAnyH_take (i := 12) (oi := ⟨some 67, .call { callee := .value (.func 50), args := #[.tmp 58, .tmp 66], argTypes := #[50, 9] }, 3, "l13_world.go:133", #[⟨3, .data⟩, ⟨11, .data⟩, ⟨2, .chain⟩, ⟨2, .guard⟩], some (2, true)⟩) (v := undef) rfl (by kernel_rfl) (by kernel_rfl) (by kernel_rfl) (fun _ _ _ h => h) (Or.inr ⟨by rfl, rfl⟩) (by assumption) ?_
 simp only [Act.put, sit, sc0, scs]
 refine wpAnyH_take (i := 13) (oi := ⟨some 68, .move (.tmp 1), 3, "l13_world.go:133", #[⟨2, .guard⟩], some (2, true)⟩) (v := undef) rfl (by kernel_rfl) (by kernel_rfl) (by kernel_rfl) (fun _ _ _ h => h) (Or.inr ⟨by rfl, rfl⟩) (by assumption) ?_
 simp only [Act.put, sit, sc0, scs]
 refine wpAnyH_take (i := 14) (oi := ⟨some 69, .binOp .eql 3 (.tmp 67) (.tmp 68) 3, 4, "l13_world.go:133", #[⟨12, .data⟩, ⟨13, .data⟩, ⟨2, .guard⟩], some (2, true)⟩) (v := undef) rfl (by kernel_rfl) (by kernel_rfl) (by kernel_rfl) (fun _ _ _ h => h) (Or.inr ⟨by rfl, rfl⟩) (by assumption) ?_
 simp only [Act.put, sit, sc0, scs]
 refine wpAnyH_take (i := 15) (oi := ⟨some 70, .pick (.tmp 57) (.tmp 69) (.const (.bool false)), 4, "l13_world.go:133", #[⟨2, .data⟩, ⟨14, .data⟩], none⟩) (v := .bool false) rfl (by kernel_rfl) (by kernel_rfl) (by kernel_rfl) (fun _ _ _ h => h) (Or.inl ⟨by rfl, by intro w hSw; go_simp⟩) (by assumption) ?_
 simp only [Act.put, sit, sc0, scs]
 refine wpAnyH_done (by kernel_rfl) ?_ _
 exact NoPanic.normal (hQ _ _ _ _ _ _ _ _ _ _ _ _ _ _ _ _ B)
theorem Zgx {t0 t3 t4 t5 t8 t9 t10 t11 t12 t13 t14 t15 t16 t17 t18 t19 t20 t21 t22 t23 t24 t25 t26 t27 t28 t29 t30 t31 t32 t33 t34 t35 t36 t37 t38 t39 t40 t41 t42 t43 t44 t45 t46 t47 t48 t49 t50 t51 t52 t53 t54 t55 t56 t57 t58 t59 t60 t61 t62 t63 t64 t65 t66 t67 t68 t69 t70 t71 t72 t73 t74 : Value} {fs : List Deferred} (b0 ga oa gs os k j nt qa : Nat) (p : Int) (an ai af ah al ag ap ab : Option Addr) (cn ci cf ch cl cg cp ca cb : Nat) (d : Wd) (s : ByteArray) (w : World) (Q : Exit -> Act -> World -> Prop)
  (hx : w.heap[b0]? = some (.cells #[.slice an d.ns.length cn, .slice ai d.is.length ci, .slice af d.ds.length cf, .int .i64 d.pl, .slice ah d.hs.length ch, .slice al d.ls.length cl, .slice ag d.gs.length cg, .slice ap d.ps.length cp, .int .i64 d.nx, .slice (some ⟨ga, oa, none⟩) d.ga.length ca, .slice ab d.tk.length cb] 50 (0, 0))) (hga : ga < w.heap.size) (hgs : gs < w.heap.size) (ha : w.cell? ⟨ga, oa + k, none⟩ = some (.slice (some ⟨gs, os, none⟩) nt qa)) (hs : w.cell? ⟨gs, os + j, none⟩ = some (.string s)) (hka : k < d.ga.length) (hjt : j < nt) (hp : decide (0 < p) = true) (m : Int) (HC : ∀ W, Below w.heap.size w W -> Calls Tryz.prog 50 #[.agg #[.slice an d.ns.length cn, .slice ai d.is.length ci, .slice af d.ds.length cf, .int .i64 d.pl, .slice ah d.hs.length ch, .slice al d.ls.length cl, .slice ag d.gs.length cg, .slice ap d.ps.length cp, .int .i64 d.nx, .slice (some ⟨ga, oa, none⟩) d.ga.length ca, .slice ab d.tk.length cb], .string s] W fun e w' => e = .returned (.int .i64 m) /\ Below W.heap.size W w')
  (hQ : ∀ u55 u56 u57 u58 u59 u60 u61 u62 u63 u64 u65 u66 u67 u68 u69 (W : World), Below w.heap.size w W -> Q .normal ⟨#[t0, .int .i64 p, .pointer (some ⟨b0, 0, none⟩), t3, t4, t5, .int .i64 (k : Nat), .int .i64 (j : Nat), t8, t9, t10, t11, t12, t13, t14, t15, t16, t17, t18, t19, t20, t21, t22, t23, t24, t25, t26, t27, t28, t29, t30, t31, t32, t33, t34, t35, t36, t37, t38, t39, t40, t41, t42, t43, t44, t45, t46, t47, t48, t49, t50, t51, t52, t53, t54, u55, u56, u57, u58, u59, u60, u61, u62, u63, u64, u65, u66, u67, u68, u69, .bool (m == p), t71, t72, t73, t74], fs⟩ W) :
  (Code.region 10 (List.toArray (⟨some 55, .move (.tmp 1), 3, "l13_world.go:133", #[], none⟩ :: ⟨some 56, .binOp .gtr 3 (.tmp 55) (.const (.int IntKind.i64 0)) 3, 4, "l13_world.go:133", #[⟨0, .data⟩], none⟩ :: ⟨some 57, .move (.tmp 56), 4, "l13_world.go:133", #[⟨1, .data⟩], none⟩ :: ⟨some 58, .load 50 (.tmp 2), 50, "l13_world.go:133", #[⟨2, .guard⟩], some (2, true)⟩ :: ⟨some 59, .fieldAddr 50 (.tmp 2) 7, 0, "l13_world.go:133", #[⟨2, .guard⟩], some (2, true)⟩ :: ⟨some 60, .load 33 (.tmp 59), 33, "l13_world.go:133", #[⟨4, .data⟩, ⟨2, .guard⟩], some (2, true)⟩ :: ⟨some 61, .move (.tmp 6), 3, "l13_world.go:133", #[⟨2, .guard⟩], some (2, true)⟩ :: ⟨some 62, .indexAddr 33 (.tmp 60) (.tmp 61), 0, "l13_world.go:133", #[⟨5, .data⟩, ⟨6, .data⟩, ⟨2, .guard⟩], some (2, true)⟩ :: ⟨some 63, .load 54 (.tmp 62), 54, "l13_world.go:133", #[⟨7, .data⟩, ⟨2, .guard⟩], some (2, true)⟩ :: ⟨some 64, .move (.tmp 7), 3, "l13_world.go:133", #[⟨2, .guard⟩], some (2, true)⟩ :: ⟨some 65, .indexAddr 54 (.tmp 63) (.tmp 64), 0, "l13_world.go:133", #[⟨8, .data⟩, ⟨9, .data⟩, ⟨2, .guard⟩], some (2, true)⟩ :: ⟨some 66, .load 9 (.tmp 65), 9, "l13_world.go:133", #[⟨10, .data⟩, ⟨2, .guard⟩], some (2, true)⟩ :: ⟨some 67, .call { callee := .value (.func 50), args := #[.tmp 58, .tmp 66], argTypes := #[50, 9] }, 3, "l13_world.go:133", #[⟨3, .data⟩, ⟨11, .data⟩, ⟨2, .chain⟩, ⟨2, .guard⟩], some (2, true)⟩ :: ⟨some 68, .move (.tmp 1), 3, "l13_world.go:133", #[⟨2, .guard⟩], some (2, true)⟩ :: ⟨some 69, .binOp .eql 3 (.tmp 67) (.tmp 68) 3, 4, "l13_world.go:133", #[⟨12, .data⟩, ⟨13, .data⟩, ⟨2, .guard⟩], some (2, true)⟩ :: ⟨some 70, .pick (.tmp 57) (.tmp 69) (.const (.bool false)), 4, "l13_world.go:133", #[⟨2, .data⟩, ⟨14, .data⟩], none⟩ :: [])) true).wp Tryz.prog Q ⟨#[t0, .int .i64 p, .pointer (some ⟨b0, 0, none⟩), t3, t4, t5, .int .i64 (k : Nat), .int .i64 (j : Nat), t8, t9, t10, t11, t12, t13, t14, t15, t16, t17, t18, t19, t20, t21, t22, t23, t24, t25, t26, t27, t28, t29, t30, t31, t32, t33, t34, t35, t36, t37, t38, t39, t40, t41, t42, t43, t44, t45, t46, t47, t48, t49, t50, t51, t52, t53, t54, t55, t56, t57, t58, t59, t60, t61, t62, t63, t64, t65, t66, t67, t68, t69, t70, t71, t72, t73, t74], fs⟩ w := by
 have hS : ∀ w', Below w.heap.size w w' -> (w'.heap[b0]? = some (.cells #[.slice an d.ns.length cn, .slice ai d.is.length ci, .slice af d.ds.length cf, .int .i64 d.pl, .slice ah d.hs.length ch, .slice al d.ls.length cl, .slice ag d.gs.length cg, .slice ap d.ps.length cp, .int .i64 d.nx, .slice (some ⟨ga, oa, none⟩) d.ga.length ca, .slice ab d.tk.length cb] 50 (0, 0)) /\ w'.cell? ⟨ga, oa + k, none⟩ = some (.slice (some ⟨gs, os, none⟩) nt qa) /\ w'.cell? ⟨gs, os + j, none⟩ = some (.string s)) := fun w' hb => ⟨Zal hx hb, (hb.cell (p := ⟨ga, oa + k, none⟩) hga).trans ha, (hb.cell (p := ⟨gs, os + j, none⟩) hgs).trans hs⟩
 have hk1 : (k : Int) < (d.ga.length : Int) := by omega
 have hk2 : (j : Int) < (nt : Int) := by omega
 have hp0 : 0 < p := by simpa using hp
 have B : Below w.heap.size w w.drew := ZaX w
 refine wp_region_noPanic ?_
 refine wp_region_held_drew (S := fun w' => w'.heap[b0]? = some (.cells #[.slice an d.ns.length cn, .slice ai d.is.length ci, .slice af d.ds.length cf, .int .i64 d.pl, .slice ah d.hs.length ch, .slice al d.ls.length cl, .slice ag d.gs.length cg, .slice ap d.ps.length cp, .int .i64 d.nx, .slice (some ⟨ga, oa, none⟩) d.ga.length ca, .slice ab d.tk.length cb] 50 (0, 0)) /\ w'.cell? ⟨ga, oa + k, none⟩ = some (.slice (some ⟨gs, os, none⟩) nt qa) /\ w'.cell? ⟨gs, os + j, none⟩ = some (.string s)) (by kernel_rfl) (hS _ B) (fun hHeld => ?_)
 refine wpAnyH_take (i := 0) (oi := ⟨some 55, .move (.tmp 1), 3, "l13_world.go:133", #[], none⟩) (v := .int .i64 p) rfl (by kernel_rfl) (by kernel_rfl) (by kernel_rfl) (fun _ _ _ h => h) (Or.inl ⟨by rfl, by intro w hSw; go_simp⟩) (by assumption) ?_
 simp only [Act.put, sit, sc0, scs]
 refine wpAnyH_take (i := 1) (oi := ⟨some 56, .binOp .gtr 3 (.tmp 55) (.const (.int IntKind.i64 0)) 3, 4, "l13_world.go:133", #[⟨0, .data⟩], none⟩) (v := .bool true) rfl (by kernel_rfl) (by kernel_rfl) (by kernel_rfl) (fun _ _ _ h => h) (Or.inl ⟨by rfl, by intro w' hSw; first | (go_simp; done) | (go_simp; exact hp) | (go_simp; simp; omega)⟩) (by assumption) ?_
 simp only [Act.put, sit, sc0, scs]
 refine wpAnyH_take (i := 2) (oi := ⟨some 57, .move (.tmp 56), 4, "l13_world.go:133", #[⟨1, .data⟩], none⟩) (v := .bool true) rfl (by kernel_rfl) (by kernel_rfl) (by kernel_rfl) (fun _ _ _ h => h) (Or.inl ⟨by rfl, by intro w hSw; go_simp⟩) (by assumption) ?_
 simp only [Act.put, sit, sc0, scs]
 refine wpAnyH_take (i := 3) (oi := ⟨some 58, .load 50 (.tmp 2), 50, "l13_world.go:133", #[⟨2, .guard⟩], some (2, true)⟩) (v := .agg #[.slice an d.ns.length cn, .slice ai d.is.length ci, .slice af d.ds.length cf, .int .i64 d.pl, .slice ah d.hs.length ch, .slice al d.ls.length cl, .slice ag d.gs.length cg, .slice ap d.ps.length cp, .int .i64 d.nx, .slice (some ⟨ga, oa, none⟩) d.ga.length ca, .slice ab d.tk.length cb]) rfl (by kernel_rfl) (by kernel_rfl) (by kernel_rfl) (fun _ _ _ h => h) (ZbD (by rfl) 50 _ rfl b0 rfl #[.slice an d.ns.length cn, .slice ai d.is.length ci, .slice af d.ds.length cf, .int .i64 d.pl, .slice ah d.hs.length ch, .slice al d.ls.length cl, .slice ag d.gs.length cg, .slice ap d.ps.length cp, .int .i64 d.nx, .slice (some ⟨ga, oa, none⟩) d.ga.length ca, .slice ab d.tk.length cb] 50 _ (fun _ h => h.1) Tryz.underlying50 rfl Zmt) (by assumption) ?_
 simp only [Act.put, sit, sc0, scs]
 refine wpAnyH_take (i := 4) (oi := ⟨some 59, .fieldAddr 50 (.tmp 2) 7, 0, "l13_world.go:133", #[⟨2, .guard⟩], some (2, true)⟩) (v := .pointer (some ⟨b0, 9, none⟩)) rfl (by kernel_rfl) (by kernel_rfl) (by kernel_rfl) (fun _ _ _ h => h) (Or.inl ⟨by rfl, by intro w hSw; go_simp⟩) (by assumption) ?_
 simp only [Act.put, sit, sc0, scs]
 refine wpAnyH_take (i := 5) (oi := ⟨some 60, .load 33 (.tmp 59), 33, "l13_world.go:133", #[⟨4, .data⟩, ⟨2, .guard⟩], some (2, true)⟩) (v := .slice (some ⟨ga, oa, none⟩) d.ga.length ca) rfl (by kernel_rfl) (by kernel_rfl) (by kernel_rfl) (fun _ _ _ h => h) (Or.inl ⟨by rfl, by intro w' hSw; have c := cell_of_row w' (b0) 9 _ _ _ hSw.1; go_simp⟩) (by assumption) ?_
 simp only [Act.put, sit, sc0, scs]
 refine wpAnyH_take (i := 6) (oi := ⟨some 61, .move (.tmp 6), 3, "l13_world.go:133", #[⟨2, .guard⟩], some (2, true)⟩) (v := .int .i64 (k : Nat)) rfl (by kernel_rfl) (by kernel_rfl) (by kernel_rfl) (fun _ _ _ h => h) (Or.inl ⟨by rfl, by intro w hSw; go_simp⟩) (by assumption) ?_
 simp only [Act.put, sit, sc0, scs]
 refine wpAnyH_take (i := 7) (oi := ⟨some 62, .indexAddr 33 (.tmp 60) (.tmp 61), 0, "l13_world.go:133", #[⟨5, .data⟩, ⟨6, .data⟩, ⟨2, .guard⟩], some (2, true)⟩) (v := .pointer (some ⟨ga, oa + k, none⟩)) rfl (by kernel_rfl) (by kernel_rfl) (by kernel_rfl) (fun _ _ _ h => h) (Or.inl ⟨by rfl, by intro w hSw; go_simp⟩) (by assumption) ?_
 simp only [Act.put, sit, sc0, scs]
 refine wpAnyH_take (i := 8) (oi := ⟨some 63, .load 54 (.tmp 62), 54, "l13_world.go:133", #[⟨7, .data⟩, ⟨2, .guard⟩], some (2, true)⟩) (v := .slice (some ⟨gs, os, none⟩) nt qa) rfl (by kernel_rfl) (by kernel_rfl) (by kernel_rfl) (fun _ _ _ h => h) (Or.inl ⟨by rfl, by intro w' hSw; have c := hSw.2.1; go_simp⟩) (by assumption) ?_
 simp only [Act.put, sit, sc0, scs]
 refine wpAnyH_take (i := 9) (oi := ⟨some 64, .move (.tmp 7), 3, "l13_world.go:133", #[⟨2, .guard⟩], some (2, true)⟩) (v := .int .i64 (j : Nat)) rfl (by kernel_rfl) (by kernel_rfl) (by kernel_rfl) (fun _ _ _ h => h) (Or.inl ⟨by rfl, by intro w hSw; go_simp⟩) (by assumption) ?_
 simp only [Act.put, sit, sc0, scs]
 refine wpAnyH_take (i := 10) (oi := ⟨some 65, .indexAddr 54 (.tmp 63) (.tmp 64), 0, "l13_world.go:133", #[⟨8, .data⟩, ⟨9, .data⟩, ⟨2, .guard⟩], some (2, true)⟩) (v := .pointer (some ⟨gs, os + j, none⟩)) rfl (by kernel_rfl) (by kernel_rfl) (by kernel_rfl) (fun _ _ _ h => h) (Or.inl ⟨by rfl, by intro w hSw; go_simp⟩) (by assumption) ?_
 simp only [Act.put, sit, sc0, scs]
 refine wpAnyH_take (i := 11) (oi := ⟨some 66, .load 9 (.tmp 65), 9, "l13_world.go:133", #[⟨10, .data⟩, ⟨2, .guard⟩], some (2, true)⟩) (v := .string s) rfl (by kernel_rfl) (by kernel_rfl) (by kernel_rfl) (fun _ _ _ h => h) (Or.inl ⟨by rfl, by intro w' hSw; have c := hSw.2.2; go_simp⟩) (by assumption) ?_
 simp only [Act.put, sit, sc0, scs]
 refine wpAnyH_take (i := 13) (oi := ⟨some 68, .move (.tmp 1), 3, "l13_world.go:133", #[⟨2, .guard⟩], some (2, true)⟩) (v := .int .i64 p) rfl (by kernel_rfl) (by kernel_rfl) (by kernel_rfl) (fun _ _ _ h => h) (Or.inl ⟨by rfl, by intro w hSw; go_simp⟩) (by assumption) ?_
 simp only [Act.put, sit, sc0, scs]
 refine wpAnyH_ready (rs := [12]) (by kernel_rfl) (by simp) ?_
 refine AllReadyH.cons rfl (fun K hK => ?_) AllReadyH.nil
 go_simp
 go_wp2_with (go_at_call 50; with_reducible refine (HC _ B).mono ?_; rintro e wE ⟨rfl, hb⟩)
 replace B := B.trans (hb.mono B.size)
 clear hb
 refine hK.out _ _ (hS _ B) (fun hHeld => ?_)
 clear hK
 refine wpAnyH_take (i := 14) (oi := ⟨some 69, .binOp .eql 3 (.tmp 67) (.tmp 68) 3, 4, "l13_world.go:133", #[⟨12, .data⟩, ⟨13, .data⟩, ⟨2, .guard⟩], some (2, true)⟩) (v := .bool (m == p)) rfl (by kernel_rfl) (by kernel_rfl) (by kernel_rfl) (fun _ _ _ h => h) (Or.inl ⟨by rfl, by intro w hSw; go_simp⟩) (by assumption) ?_
 simp only [Act.put, sit, sc0, scs]
 refine wpAnyH_take (i := 15) (oi := ⟨some 70, .pick (.tmp 57) (.tmp 69) (.const (.bool false)), 4, "l13_world.go:133", #[⟨2, .data⟩, ⟨14, .data⟩], none⟩) (v := .bool (m == p)) rfl (by kernel_rfl) (by kernel_rfl) (by kernel_rfl) (fun _ _ _ h => h) (Or.inl ⟨by rfl, by intro w hSw; go_simp⟩) (by assumption) ?_
 simp only [Act.put, sit, sc0, scs]
 refine wpAnyH_done (by kernel_rfl) ?_ _
 exact NoPanic.normal (hQ _ _ _ _ _ _ _ _ _ _ _ _ _ _ _ _ B)
theorem ZjA (a : Int) (w : World) :
  Calls Tryz.prog 64 #[.int .i64 a, .int .i64 0] w fun e w' => e = .returned (.int .i64 (a.toNat : Int)) /\ w' = w := by
 by_cases h : 0 < a
 ·have HR : Hid ((a.toNat : Int) = a) := by unfold Hid; omega
  go_enter Tryz.func64, Tryz.ntmps64
  go_wp2
  go_ret
  exact ⟨ZbR HR.out.symm, rfl⟩
 ·go_enter Tryz.func64, Tryz.ntmps64
  go_wp2
  go_ret
  exact ⟨ZbR (by first | omega | (simp; omega)), rfl⟩
theorem Zka {f : ByteArray -> Bool} {ts : List ByteArray} {j : Nat} {s : ByteArray} (h : ts[j]? = some s) : (ts.drop j).any f = (f s || (ts.drop (j + 1)).any f) := by
 obtain ⟨hl, he⟩ := List.getElem?_eq_some_iff.1 h
 rw [List.drop_eq_getElem_cons hl, he, List.any_cons]
theorem Zhw (vn vi vf vh vl vg vp va vt : Value) (d : Wd) (p : Int) (w : World) (R : WR 0 w vn vi vf vh vl vg vp va vt d) (hS : SmW d) :
  Calls Tryz.prog 26 #[.agg #[vn, vi, vf, .int .i64 d.pl, vh, vl, vg, vp, .int .i64 d.nx, va, vt], .int .i64 p] w fun e w' => e = .returned (.int .i64 (whR d p)) /\ Below w.heap.size w w' := by
 have R0 := R
 obtain ⟨⟨an, cn, rfl⟩, ⟨ai, ci, rfl⟩, ⟨af, cf, rfl⟩, ⟨ah, ch, rfl⟩, ⟨al, cl, rfl⟩, ⟨ag, cg, rfl⟩, ⟨ap, cp, rfl⟩, ⟨aa, ca, rfl⟩, ⟨ab, cb, rfl⟩⟩ := R.form
 clear R
 have hB0 := ZaE w (Obj.cells #[.slice an d.ns.length cn, .slice ai d.is.length ci, .slice af d.ds.length cf, .int .i64 d.pl, .slice ah d.hs.length ch, .slice al d.ls.length cl, .slice ag d.gs.length cg, .slice ap d.ps.length cp, .int .i64 d.nx, .slice aa d.ga.length ca, .slice ab d.tk.length cb] 50)
 have hx0 := heap_alloc_new w (Obj.cells #[.slice an d.ns.length cn, .slice ai d.is.length ci, .slice af d.ds.length cf, .int .i64 d.pl, .slice ah d.hs.length ch, .slice al d.ls.length cl, .slice ag d.gs.length cg, .slice ap d.ps.length cp, .int .i64 d.nx, .slice aa d.ga.length ca, .slice ab d.tk.length cb] 50)
 go_enter Tryz.func26, Tryz.ntmps26
 go_wp2_with (refine wpList_load_row rfl 50 _ rfl w.heap.size rfl 50 #[.slice an d.ns.length cn, .slice ai d.is.length ci, .slice af d.ds.length cf, .int .i64 d.pl, .slice ah d.hs.length ch, .slice al d.ls.length cl, .slice ag d.gs.length cg, .slice ap d.ps.length cp, .int .i64 d.nx, .slice aa d.ga.length ca, .slice ab d.tk.length cb] (0, 0) _ hx0 Tryz.underlying50 rfl Zmt ?_)
 refine (Zgm _ _ _ _ _ _ _ _ _ d p _ _ (R0.below hB0)).mono ?_
 rintro e w1 ⟨rfl, hb⟩
 have hx1 := Zal hx0 hb
 have hB1 := hB0.trans (hb.mono hB0.size)
 clear hb hx0 hB0
 rcases Zen d.hs p 0 with hm | ⟨k, hm, hk⟩
 ·have HW : Hid (whR d p = whL d p) := ZgI hm
  rw [hm]
  clear hm
  have hs1 := Zao hx1
  have c3 : w1.cell? ⟨w.heap.size, 0 + 3, none⟩ = some (.int .i64 d.pl) := cell_of_row w1 _ 3 _ _ _ hx1
  have c5 : w1.cell? ⟨w.heap.size, 0 + 5, none⟩ = some (.slice al d.ls.length cl) := cell_of_row w1 _ 5 _ _ _ hx1
  have c9 : w1.cell? ⟨w.heap.size, 0 + 9, none⟩ = some (.slice aa d.ga.length ca) := cell_of_row w1 _ 9 _ _ _ hx1
  by_cases hpl : 0 < d.pl
  ·have HV : Hid (whR d p = whGo (onW d p) d.pl (min d.ls.length d.ga.length - 0) 0) := by unfold Hid; rw [HW.out]; unfold whL; rw [if_pos hpl]; rfl
   clear HW
   obtain ⟨m, hm⟩ : ∃ m, min d.ls.length d.ga.length = m := ⟨_, rfl⟩
   rw [hm] at HV
   have hm1 : m <= d.ls.length := by omega
   have hm2 : m <= d.ga.length := by omega
   have HM : Hid (min d.ls.length d.ga.length = m) := hm
   clear hm
   obtain ⟨aol, capl, hhl, _, _, hcelll⟩ := R0.rl
   obtain ⟨aoa, capa, hha, _, _, hcella⟩ := R0.ra
   simp only [Value.slice.injEq] at hhl hha
   obtain ⟨rfl, _, rfl⟩ := hhl
   obtain ⟨rfl, _, rfl⟩ := hha
   have hne : d.pl ≠ 0 := by omega
   go_wp2_with fail
   go_loopw [6] (fun i wr => ∃ k : Nat, k <= m /\ i = .int .i64 k /\ Hid (whR d p = whGo (onW d p) d.pl (m - k) k) /\ Below w1.heap.size w1 wr) (fun i _ => m - (intOf i).toNat)
   case atStart => exact ⟨0, by omega, rfl, HV, Below.refl _ _⟩
   case round =>
    clear HV
    obtain ⟨k, hk, rfl, HK, hb⟩ := hrel
    have hxr := Zal hx1 hb
    have hBr := hB1.trans (hb.mono hB1.size)
    have e3 := (hb.cell (p := ⟨w.heap.size, 0 + 3, none⟩) hs1).trans c3
    have e5 := (hb.cell (p := ⟨w.heap.size, 0 + 5, none⟩) hs1).trans c5
    have e9 := (hb.cell (p := ⟨w.heap.size, 0 + 9, none⟩) hs1).trans c9
    by_cases hlt : k < m
    ·have h1 : k < d.ls.length := by omega
     have h2 : k < d.ga.length := by omega
     have h1i : (k : Int) < (d.ls.length : Int) := by omega
     have h2i : (k : Int) < (d.ga.length : Int) := by omega
     obtain ⟨gl, ol, rfl, _, hgl, hcelll⟩ := hcelll (by intro e; rw [e] at h1; simp at h1)
     obtain ⟨ga, oa, rfl, _, hga, hcella⟩ := hcella (by intro e; rw [e] at h2; simp at h2)
     obtain ⟨l, hl⟩ : ∃ x, d.ls[k]? = some x := ⟨d.ls[k], List.getElem?_eq_getElem _⟩
     obtain ⟨ts, hta⟩ : ∃ x, d.ga[k]? = some x := ⟨d.ga[k], List.getElem?_eq_getElem _⟩
     obtain ⟨cs, hcs, hr, vq, vh', hc, L1, L2, _, _⟩ := hcelll k l hl
     obtain ⟨ca', _, hra, ua, rfl, A1, _⟩ := hcella k ts hta
     obtain ⟨hts, hz⟩ := hS.ha.2 ts (List.mem_of_getElem? hta)
     obtain ⟨pq, qq, rfl⟩ := L1.small
     obtain ⟨ph, qh, rfl⟩ := L2.small
     obtain rfl : cs = (#[.int .i64 l.sent, .int .i64 l.acked, .slice pq l.q.length qq, .int .i64 l.got, .slice ph l.h.length qh] : Array Value).toList := congrArg Array.toList hc
     have ON : Hid (onW d p k = (ts.drop l.got.toNat).any (movB d.ns d.is d.ds p)) := Zly hl hta
     have k4 := Zaj hr hBr hgl 3 _ rfl
     have k3 := ZbE hra
     rw [Nat.mul_one] at k3
     obtain ⟨pa, qa, rfl, _, _, _, hcellt⟩ := A1
     clear hcelll hcella hl hta hc hcs hra hr L1 L2
     go_wp2_with fail
     refine (ZjA l.got _).mono ?_
     rintro e w2 ⟨rfl, rfl⟩
     clear k4 e5
     go_wp2_with fail
     go_loopw [7] (fun i wx => ∃ j : Nat, i = .int .i64 j /\ Hid (onW d p k = (ts.drop j).any (movB d.ns d.is d.ds p)) /\ Below w1.heap.size w1 wx) (fun i _ => ts.length - (intOf i).toNat)
     case atStart => exact ⟨l.got.toNat, by first | rfl | (congr 1; omega) | simp, ON, hb⟩
     case round =>
      clear hb hxr hBr e9 e3 ON
      obtain ⟨j, rfl, HJ, hb⟩ := hrel
      have hxr := Zal hx1 hb
      have hBr := hB1.trans (hb.mono hB1.size)
      have e3 := (hb.cell (p := ⟨w.heap.size, 0 + 3, none⟩) hs1).trans c3
      have e9 := (hb.cell (p := ⟨w.heap.size, 0 + 9, none⟩) hs1).trans c9
      have kt := (hBr.cell (p := ⟨ga, oa + k, none⟩) hga).trans k3
      have hgaR := Nat.lt_of_lt_of_le hga hBr.size
      by_cases hj : j < ts.length
      ·obtain ⟨gs, os, rfl, hgs, hcellt⟩ := hcellt (by intro e; rw [e] at hj; simp at hj)
       obtain ⟨x, hx⟩ : ∃ x, ts[j]? = some x := ⟨ts[j], by simp [hj]⟩
       have ks := (hBr.cell (p := ⟨gs, os + j, none⟩) hgs).trans (hcellt j x hx)
       have hgsR := Nat.lt_of_lt_of_le hgs hBr.size
       have hsx := hz x (List.mem_of_getElem? hx)
       have hji : (j : Int) < (ts.length : Int) := by omega
       have HA : Hid (onW d p k = (movB d.ns d.is d.ds p x || (ts.drop (j + 1)).any (movB d.ns d.is d.ds p))) := by unfold Hid; rw [HJ.out, Zka hx]
       clear hcellt hx
       cases hp : decide (0 < p) with
       | false =>
        have HB : Hid (onW d p k = (ts.drop (j + 1)).any (movB d.ns d.is d.ds p)) := by unfold Hid; rw [HA.out]; unfold movB; rw [hp]; rfl
        go_wp2_with fail
        refine ZjJ w.heap.size ga oa gs os k j ts.length qa p an ai af ah (some ⟨gl, ol, none⟩) ag ap ab cn ci cf ch cl cg cp ca cb d x _ _ hxr hgaR hgsR kt ks h2 hj hp ?_
        intro u55 u56 u57 u58 u59 u60 u61 u62 u63 u64 u65 u66 u67 u68 u69 W hW
        have hbW := hb.trans (hW.mono hb.size)
        clear hW hxr hBr e3 e9 kt ks HA HJ
        go_wp2
        go_roundw
        case rel => exact ⟨j + 1, by go_num, HB, hbW⟩
        case measure => simp [intOf]; omega
       | true =>
        have HC := fun W (hW : Below _ _ W) => Ze7 _ _ _ _ _ _ _ _ _ d x _ W (R0.below (hBr.trans (hW.mono hBr.size))) hsx
        cases hq : (movN d.ns d.is d.ds x == p) with
        | false =>
         have HB : Hid (onW d p k = (ts.drop (j + 1)).any (movB d.ns d.is d.ds p)) := by unfold Hid; rw [HA.out]; unfold movB; rw [hp, hq]; rfl
         go_wp2_with fail
         refine Zgx w.heap.size ga oa gs os k j ts.length qa p an ai af ah (some ⟨gl, ol, none⟩) ag ap ab cn ci cf ch cl cg cp ca cb d x _ _ hxr hgaR hgsR kt ks h2 hj hp _ HC ?_
         rw [hq]
         intro u55 u56 u57 u58 u59 u60 u61 u62 u63 u64 u65 u66 u67 u68 u69 W hW
         have hbW := hb.trans (hW.mono hb.size)
         clear hW hxr hBr e3 e9 kt ks HA HJ HC
         go_wp2
         go_roundw
         case rel => exact ⟨j + 1, by go_num, HB, hbW⟩
         case measure => simp [intOf]; omega
        | true =>
         have HB : Hid (whR d p = (k : Int) % d.pl) := by
          unfold Hid
          rw [HK.out, Zew hlt]
          rw [HA.out]; unfold movB; rw [hp, hq]; rfl
         go_wp2_with fail
         refine Zgx w.heap.size ga oa gs os k j ts.length qa p an ai af ah (some ⟨gl, ol, none⟩) ag ap ab cn ci cf ch cl cg cp ca cb d x _ _ hxr hgaR hgsR kt ks h2 hj hp _ HC ?_
         rw [hq]
         intro u55 u56 u57 u58 u59 u60 u61 u62 u63 u64 u65 u66 u67 u68 u69 W hW
         have hBW := hBr.trans (hW.mono hBr.size)
         have e3W := (hW.cell (p := ⟨w.heap.size, 0 + 3, none⟩) (Zao hxr)).trans e3
         clear hW hxr hBr e3 e9 kt ks HA HJ HC hb HK
         go_wp2
         go_ret
         exact ⟨ZbR HB.out.symm, hBW⟩
      ·have HB : Hid (whR d p = whGo (onW d p) d.pl (m - (k + 1)) (k + 1)) := by
        unfold Hid
        rw [HK.out, ZdJ hlt]
        rw [HJ.out, List.drop_eq_nil_of_le (by omega)]; rfl
       clear hcellt HK HJ
       go_wp2
       go_roundw
       case rel => exact ⟨k + 1, by omega, by go_num, HB, hb⟩
       case measure => simp [intOf]; omega
    ·have HR : Hid (whR d p = -1) := by unfold Hid; rw [HK.out, ZeS (by omega)]
     clear HK hcelll hcella
     have hkm : k = m := by omega
     by_cases h1 : k < d.ls.length
     ·have h2 : ¬ k < d.ga.length := by have := HM.out; omega
      have h2i : ¬ (k : Int) < (d.ga.length : Int) := by omega
      have h1i : (k : Int) < (d.ls.length : Int) := by omega
      go_wp2
      go_ret
      exact ⟨ZbR HR.out.symm, hBr⟩
     ·have h1i : ¬ (k : Int) < (d.ls.length : Int) := by omega
      go_wp2
      go_ret
      exact ⟨ZbR HR.out.symm, hBr⟩
  ·have HV : Hid (whR d p = -1) := by unfold Hid; rw [HW.out]; unfold whL; rw [if_neg hpl]
   clear HW
   have R0' := R0
   clear R0 hS
   go_wp2_with fail
   go_loopw [6] (fun i wr => i = .int .i64 0 /\ wr = w1) (fun _ _ => 0)
   case atStart => exact ⟨rfl, rfl⟩
   case round =>
    obtain ⟨rfl, rfl⟩ := hrel
    by_cases h1 : 0 < d.ls.length
    ·have h1i : (0 : Int) < (d.ls.length : Int) := by omega
     by_cases h2 : 0 < d.ga.length
     ·have h2i : (0 : Int) < (d.ga.length : Int) := by omega
      go_wp2
      go_ret
      exact ⟨ZbR HV.out.symm, hB1⟩
     ·have h2i : ¬ (0 : Int) < (d.ga.length : Int) := by omega
      go_wp2
      go_ret
      exact ⟨ZbR HV.out.symm, hB1⟩
    ·have h1i : ¬ (0 : Int) < (d.ls.length : Int) := by omega
     go_wp2
     go_ret
     exact ⟨ZbR HV.out.symm, hB1⟩
 ·rw [Nat.zero_add] at hm
  rw [hm]
  obtain ⟨x, hx⟩ : ∃ x, d.hs[k]? = some x := ⟨d.hs[k], by simp [hk]⟩
  have HR : Hid (whR d p = x.pl) := ZgF hm hx
  obtain ⟨aoh, caph, hhh, _, _, hcellh⟩ := R0.rh
  simp only [Value.slice.injEq] at hhh
  obtain ⟨rfl, _, rfl⟩ := hhh
  obtain ⟨g, o, rfl, _, hg, hcellh⟩ := hcellh (by intro e; rw [e] at hk; simp at hk)
  obtain ⟨cs, hcs, hr, v1, v2, v3, hc, _⟩ := hcellh k x hx
  obtain rfl : cs = (#[.int .i64 x.pl, .int .i64 x.i, v1, .int .i64 x.m.p, .int .i64 x.m.s, .int .i64 x.m.e, .int .i64 x.m.d, .int .i64 x.m.t, .int .i64 x.m.q, .int .i64 x.m.r, v2, v3] : Array Value).toList := congrArg Array.toList hc
  have d1 : w1.cell? ⟨g, o + k * 12, none⟩ = some (.int .i64 x.pl) := Zaj hr hB1 hg 0 _ rfl
  have c4 : w1.cell? ⟨w.heap.size, 0 + 4, none⟩ = some (.slice (some ⟨g, o, none⟩) d.hs.length ch) := cell_of_row w1 _ 4 _ _ _ hx1
  have hki : (k : Int) < (d.hs.length : Int) := by omega
  have hk0 : (0 : Int) <= (k : Int) := by omega
  clear hcellh hc hcs hr hx hm hx1
  go_wp2
  go_ret
  exact ⟨ZbR HR.out.symm, hB1⟩
end Go.Proofs.YtfmafkebddojjaaGreatDoor
