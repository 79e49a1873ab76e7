/-
  The judges' regions that draw their order. No condition.
-/
import Derived.Test.YtfmafkebddojjaaGreatDoorSEqM
import Derived.Test.YtfmafkebddojjaaGreatDoorMPack2M
namespace Go.Proofs.YtfmafkebddojjaaGreatDoor
open Go.RowKit
set_option maxRecDepth 100000 in
set_option maxHeartbeats 6400000 in
theorem Zhb {t0 t3 t4 t7 t8 t9 t10 t11 t12 t13 t14 t15 t16 t17 t18 t19 t20 t21 t22 t23 t24 t25 t26 t27 t28 t29 t30 t31 t32 t33 t34 t35 t36 t37 t38 t39 t40 t41 t42 t43 t44 t45 t46 t47 : Value} {fs : List Deferred} (b0 bj qj F : Nat) (an ai af ah al ag ap aa ab : Option Addr) (cn ci cf ch cl cg cp ca cb : Nat) (d : Wd) (w : World) (Q : Exit -> Act -> World -> Prop)
  (hx : w.heap[b0]? = some (.cells #[.slice an d.ns.length cn, .slice ai d.is.length ci, .slice af d.ds.length cf, .int .i64 d.pl, .slice ah d.hs.length ch, .slice al d.ls.length cl, .slice ag d.gs.length cg, .slice ap d.ps.length cp, .int .i64 d.nx, .slice aa d.ga.length ca, .slice ab d.tk.length cb] 50 (0, 0))) (hbj : bj < w.heap.size) (hc : w.cell? ⟨bj, 0, none⟩ = some (.func (.func F) #[] #[]))
  (hQ : ∀ u38 u39 u40 u41 u42 u43 u44 u45 u46 u47 (W : World), Below w.heap.size w W -> Q .normal ⟨#[t0, .slice (some ⟨bj, 0, none⟩) 1 qj, .pointer (some ⟨b0, 0, none⟩), t3, .bool false, .bool false, .int .i64 1, t7, t8, t9, t10, t11, t12, t13, t14, t15, t16, t17, t18, t19, t20, t21, t22, t23, t24, t25, t26, t27, t28, t29, t30, t31, t32, t33, t34, t35, t36, t37, u38, u39, u40, u41, u42, u43, u44, u45, u46, u47], fs⟩ W) :
  (Code.region 9 (List.toArray (⟨some 38, .move (.tmp 5), 4, "l15_judge.go:44", #[], none⟩ :: ⟨some 39, .move (.tmp 38), 4, "l15_judge.go:44", #[⟨0, .data⟩], none⟩ :: ⟨some 40, .move (.tmp 1), 135, "l15_judge.go:44", #[⟨1, .guard⟩], some (1, true)⟩ :: ⟨some 41, .move (.tmp 6), 3, "l15_judge.go:44", #[⟨1, .guard⟩], some (1, true)⟩ :: ⟨some 42, .binOp .sub 3 (.tmp 41) (.const (.int IntKind.i64 1)) 3, 3, "l15_judge.go:44", #[⟨3, .data⟩, ⟨1, .guard⟩], some (1, true)⟩ :: ⟨some 43, .indexAddr 135 (.tmp 40) (.tmp 42), 0, "l15_judge.go:44", #[⟨2, .data⟩, ⟨4, .data⟩, ⟨1, .guard⟩], some (1, true)⟩ :: ⟨some 44, .load 136 (.tmp 43), 136, "l15_judge.go:44", #[⟨5, .data⟩, ⟨1, .guard⟩], some (1, true)⟩ :: ⟨some 45, .load 50 (.tmp 2), 50, "l15_judge.go:44", #[⟨1, .guard⟩], some (1, true)⟩ :: ⟨some 46, .call { callee := .value (.tmp 44), args := #[.tmp 45], argTypes := #[50] }, 4, "l15_judge.go:44", #[⟨6, .data⟩, ⟨7, .data⟩, ⟨1, .chain⟩, ⟨1, .guard⟩], some (1, true)⟩ :: ⟨some 47, .pick (.tmp 39) (.tmp 46) (.const (.bool false)), 4, "l15_judge.go:44", #[⟨1, .data⟩, ⟨8, .data⟩], none⟩ :: ⟨some 4, .assign (.tmp 47), 4, "l15_judge.go:44", #[⟨9, .data⟩, ⟨8, .chain⟩, ⟨0, .phase⟩, ⟨1, .phase⟩, ⟨2, .phase⟩, ⟨3, .phase⟩, ⟨4, .phase⟩, ⟨5, .phase⟩, ⟨6, .phase⟩, ⟨7, .phase⟩, ⟨8, .phase⟩, ⟨9, .phase⟩], none⟩ :: [])) true).wp Tryz.prog Q ⟨#[t0, .slice (some ⟨bj, 0, none⟩) 1 qj, .pointer (some ⟨b0, 0, none⟩), t3, t4, .bool false, .int .i64 1, t7, t8, t9, t10, t11, t12, t13, t14, t15, t16, t17, t18, t19, t20, t21, t22, t23, t24, t25, t26, t27, t28, t29, t30, t31, t32, t33, t34, t35, t36, t37, t38, t39, t40, t41, t42, t43, t44, t45, t46, t47], fs⟩ w := by
 have hS : ∀ w', Below w.heap.size w w' -> (w'.heap[b0]? = some (.cells #[.slice an d.ns.length cn, .slice ai d.is.length ci, .slice af d.ds.length cf, .int .i64 d.pl, .slice ah d.hs.length ch, .slice al d.ls.length cl, .slice ag d.gs.length cg, .slice ap d.ps.length cp, .int .i64 d.nx, .slice aa d.ga.length ca, .slice ab d.tk.length cb] 50 (0, 0)) /\ w'.cell? ⟨bj, 0, none⟩ = some (.func (.func F) #[] #[])) := fun w' hb => ⟨Zab hx hb, (hb.cell (p := ⟨bj, 0, none⟩) hbj).trans hc⟩
 have B : Below w.heap.size w w.drew := Zax w
 refine wp_region_noPanic ?_
 refine wp_region_held_drew (S := fun w' => w'.heap[b0]? = some (.cells #[.slice an d.ns.length cn, .slice ai d.is.length ci, .slice af d.ds.length cf, .int .i64 d.pl, .slice ah d.hs.length ch, .slice al d.ls.length cl, .slice ag d.gs.length cg, .slice ap d.ps.length cp, .int .i64 d.nx, .slice aa d.ga.length ca, .slice ab d.tk.length cb] 50 (0, 0)) /\ w'.cell? ⟨bj, 0, none⟩ = some (.func (.func F) #[] #[])) (by kernel_rfl) (hS _ B) (fun hHeld => ?_)
 refine wpAnyH_take (i := 0) (oi := ⟨some 38, .move (.tmp 5), 4, "l15_judge.go:44", #[], none⟩) (v := .bool false) rfl (by kernel_rfl) (by kernel_rfl) (by kernel_rfl) (fun _ _ _ h => h) (Or.inl ⟨by rfl, by intro w hSw; go_simp⟩) (by assumption) ?_
 simp only [Act.put, sit, sc0, scs]
 refine wpAnyH_take (i := 1) (oi := ⟨some 39, .move (.tmp 38), 4, "l15_judge.go:44", #[⟨0, .data⟩], none⟩) (v := .bool false) rfl (by kernel_rfl) (by kernel_rfl) (by kernel_rfl) (fun _ _ _ h => h) (Or.inl ⟨by rfl, by intro w hSw; go_simp⟩) (by assumption) ?_
 simp only [Act.put, sit, sc0, scs]
 refine wpAnyH_take (i := 2) (oi := ⟨some 40, .move (.tmp 1), 135, "l15_judge.go:44", #[⟨1, .guard⟩], some (1, true)⟩) (v := undef) rfl (by kernel_rfl) (by kernel_rfl) (by kernel_rfl) (fun _ _ _ h => h) (Or.inr ⟨by rfl, rfl⟩) (by assumption) ?_
 simp only [Act.put, sit, sc0, scs]
 refine wpAnyH_take (i := 3) (oi := ⟨some 41, .move (.tmp 6), 3, "l15_judge.go:44", #[⟨1, .guard⟩], some (1, true)⟩) (v := undef) rfl (by kernel_rfl) (by kernel_rfl) (by kernel_rfl) (fun _ _ _ h => h) (Or.inr ⟨by rfl, rfl⟩) (by assumption) ?_
 simp only [Act.put, sit, sc0, scs]
 refine wpAnyH_take (i := 4) (oi := ⟨some 42, .binOp .sub 3 (.tmp 41) (.const (.int IntKind.i64 1)) 3, 3, "l15_judge.go:44", #[⟨3, .data⟩, ⟨1, .guard⟩], some (1, true)⟩) (v := undef) rfl (by kernel_rfl) (by kernel_rfl) (by kernel_rfl) (fun _ _ _ h => h) (Or.inr ⟨by rfl, rfl⟩) (by assumption) ?_
 simp only [Act.put, sit, sc0, scs]
 refine wpAnyH_take (i := 5) (oi := ⟨some 43, .indexAddr 135 (.tmp 40) (.tmp 42), 0, "l15_judge.go:44", #[⟨2, .data⟩, ⟨4, .data⟩, ⟨1, .guard⟩], some (1, true)⟩) (v := undef) rfl (by kernel_rfl) (by kernel_rfl) (by kernel_rfl) (fun _ _ _ h => h) (Or.inr ⟨by rfl, rfl⟩) (by assumption) ?_
 simp only [Act.put, sit, sc0, scs]
 refine wpAnyH_take (i := 6) (oi := ⟨some 44, .load 136 (.tmp 43), 136, "l15_judge.go:44", #[⟨5, .data⟩, ⟨1, .guard⟩], some (1, true)⟩) (v := undef) rfl (by kernel_rfl) (by kernel_rfl) (by kernel_rfl) (fun _ _ _ h => h) (Or.inr ⟨by rfl, rfl⟩) (by assumption) ?_
 simp only [Act.put, sit, sc0, scs]
 refine wpAnyH_take (i := 7) (oi := ⟨some 45, .load 50 (.tmp 2), 50, "l15_judge.go:44", #[⟨1, .guard⟩], some (1, true)⟩) (v := undef) rfl (by kernel_rfl) (by kernel_rfl) (by kernel_rfl) (fun _ _ _ h => h) (Or.inr ⟨by rfl, rfl⟩) (by assumption) ?_
 simp only [Act.put, sit, sc0, scs]
 refine wpAnyH_take (i := 8) (oi := ⟨some 46, .call { callee := .value (.tmp 44), args := #[.tmp 45], argTypes := #[50] }, 4, "l15_judge.go:44", #[⟨6, .data⟩, ⟨7, .data⟩, ⟨1, .chain⟩, ⟨1, .guard⟩], some (1, true)⟩) (v := undef) rfl (by kernel_rfl) (by kernel_rfl) (by kernel_rfl) (fun _ _ _ h => h) (Or.inr ⟨by rfl, rfl⟩) (by assumption) ?_
 simp only [Act.put, sit, sc0, scs]
 refine wpAnyH_take (i := 9) (oi := ⟨some 47, .pick (.tmp 39) (.tmp 46) (.const (.bool false)), 4, "l15_judge.go:44", #[⟨1, .data⟩, ⟨8, .data⟩], none⟩) (v := .bool false) rfl (by kernel_rfl) (by kernel_rfl) (by kernel_rfl) (fun _ _ _ h => h) (Or.inl ⟨by rfl, by intro w hSw; go_simp⟩) (by assumption) ?_
 simp only [Act.put, sit, sc0, scs]
 refine wpAnyH_take (i := 10) (oi := ⟨some 4, .assign (.tmp 47), 4, "l15_judge.go:44", #[⟨9, .data⟩, ⟨8, .chain⟩, ⟨0, .phase⟩, ⟨1, .phase⟩, ⟨2, .phase⟩, ⟨3, .phase⟩, ⟨4, .phase⟩, ⟨5, .phase⟩, ⟨6, .phase⟩, ⟨7, .phase⟩, ⟨8, .phase⟩, ⟨9, .phase⟩], none⟩) (v := .bool false) rfl (by kernel_rfl) (by kernel_rfl) (by kernel_rfl) (fun _ _ _ h => h) (Or.inl ⟨by rfl, by intro w hSw; go_simp⟩) (by assumption) ?_
 simp only [Act.put, sit, sc0, scs]
 refine wpAnyH_done (by kernel_rfl) ?_ _
 exact NoPanic.normal (hQ _ _ _ _ _ _ _ _ _ _ _ B)
set_option maxRecDepth 100000 in
set_option maxHeartbeats 6400000 in
theorem Zgk {t0 t3 t4 t7 t8 t9 t10 t11 t12 t13 t14 t15 t16 t17 t18 t19 t20 t21 t22 t23 t24 t25 t26 t27 t28 t29 t30 t31 t32 t33 t34 t35 t36 t37 t38 t39 t40 t41 t42 t43 t44 t45 t46 t47 : Value} {fs : List Deferred} (b0 bj qj F : Nat) (an ai af ah al ag ap aa ab : Option Addr) (cn ci cf ch cl cg cp ca cb : Nat) (d : Wd) (w : World) (Q : Exit -> Act -> World -> Prop)
  (hx : w.heap[b0]? = some (.cells #[.slice an d.ns.length cn, .slice ai d.is.length ci, .slice af d.ds.length cf, .int .i64 d.pl, .slice ah d.hs.length ch, .slice al d.ls.length cl, .slice ag d.gs.length cg, .slice ap d.ps.length cp, .int .i64 d.nx, .slice aa d.ga.length ca, .slice ab d.tk.length cb] 50 (0, 0))) (hbj : bj < w.heap.size) (hc : w.cell? ⟨bj, 0, none⟩ = some (.func (.func F) #[] #[])) (hrun : ∀ args w, Sem.run Tryz.prog (callFunc F args) w = .ok (.enter F args) w) (r : Bool) (HC : ∀ W, Below w.heap.size w W -> Calls Tryz.prog F #[.agg #[.slice an d.ns.length cn, .slice ai d.is.length ci, .slice af d.ds.length cf, .int .i64 d.pl, .slice ah d.hs.length ch, .slice al d.ls.length cl, .slice ag d.gs.length cg, .slice ap d.ps.length cp, .int .i64 d.nx, .slice aa d.ga.length ca, .slice ab d.tk.length cb]] W fun e w' => e = .returned (.bool r) /\ Below W.heap.size W w')
  (hQ : ∀ u38 u39 u40 u41 u42 u43 u44 u45 u46 u47 (W : World), Below w.heap.size w W -> Q .normal ⟨#[t0, .slice (some ⟨bj, 0, none⟩) 1 qj, .pointer (some ⟨b0, 0, none⟩), t3, .bool r, .bool true, .int .i64 1, t7, t8, t9, t10, t11, t12, t13, t14, t15, t16, t17, t18, t19, t20, t21, t22, t23, t24, t25, t26, t27, t28, t29, t30, t31, t32, t33, t34, t35, t36, t37, u38, u39, u40, u41, u42, u43, u44, u45, u46, u47], fs⟩ W) :
  (Code.region 9 (List.toArray (⟨some 38, .move (.tmp 5), 4, "l15_judge.go:44", #[], none⟩ :: ⟨some 39, .move (.tmp 38), 4, "l15_judge.go:44", #[⟨0, .data⟩], none⟩ :: ⟨some 40, .move (.tmp 1), 135, "l15_judge.go:44", #[⟨1, .guard⟩], some (1, true)⟩ :: ⟨some 41, .move (.tmp 6), 3, "l15_judge.go:44", #[⟨1, .guard⟩], some (1, true)⟩ :: ⟨some 42, .binOp .sub 3 (.tmp 41) (.const (.int IntKind.i64 1)) 3, 3, "l15_judge.go:44", #[⟨3, .data⟩, ⟨1, .guard⟩], some (1, true)⟩ :: ⟨some 43, .indexAddr 135 (.tmp 40) (.tmp 42), 0, "l15_judge.go:44", #[⟨2, .data⟩, ⟨4, .data⟩, ⟨1, .guard⟩], some (1, true)⟩ :: ⟨some 44, .load 136 (.tmp 43), 136, "l15_judge.go:44", #[⟨5, .data⟩, ⟨1, .guard⟩], some (1, true)⟩ :: ⟨some 45, .load 50 (.tmp 2), 50, "l15_judge.go:44", #[⟨1, .guard⟩], some (1, true)⟩ :: ⟨some 46, .call { callee := .value (.tmp 44), args := #[.tmp 45], argTypes := #[50] }, 4, "l15_judge.go:44", #[⟨6, .data⟩, ⟨7, .data⟩, ⟨1, .chain⟩, ⟨1, .guard⟩], some (1, true)⟩ :: ⟨some 47, .pick (.tmp 39) (.tmp 46) (.const (.bool false)), 4, "l15_judge.go:44", #[⟨1, .data⟩, ⟨8, .data⟩], none⟩ :: ⟨some 4, .assign (.tmp 47), 4, "l15_judge.go:44", #[⟨9, .data⟩, ⟨8, .chain⟩, ⟨0, .phase⟩, ⟨1, .phase⟩, ⟨2, .phase⟩, ⟨3, .phase⟩, ⟨4, .phase⟩, ⟨5, .phase⟩, ⟨6, .phase⟩, ⟨7, .phase⟩, ⟨8, .phase⟩, ⟨9, .phase⟩], none⟩ :: [])) true).wp Tryz.prog Q ⟨#[t0, .slice (some ⟨bj, 0, none⟩) 1 qj, .pointer (some ⟨b0, 0, none⟩), t3, t4, .bool true, .int .i64 1, t7, t8, t9, t10, t11, t12, t13, t14, t15, t16, t17, t18, t19, t20, t21, t22, t23, t24, t25, t26, t27, t28, t29, t30, t31, t32, t33, t34, t35, t36, t37, t38, t39, t40, t41, t42, t43, t44, t45, t46, t47], fs⟩ w := by
 have hS : ∀ w', Below w.heap.size w w' -> (w'.heap[b0]? = some (.cells #[.slice an d.ns.length cn, .slice ai d.is.length ci, .slice af d.ds.length cf, .int .i64 d.pl, .slice ah d.hs.length ch, .slice al d.ls.length cl, .slice ag d.gs.length cg, .slice ap d.ps.length cp, .int .i64 d.nx, .slice aa d.ga.length ca, .slice ab d.tk.length cb] 50 (0, 0)) /\ w'.cell? ⟨bj, 0, none⟩ = some (.func (.func F) #[] #[])) := fun w' hb => ⟨Zab hx hb, (hb.cell (p := ⟨bj, 0, none⟩) hbj).trans hc⟩
 have B : Below w.heap.size w w.drew := Zax w
 refine wp_region_noPanic ?_
 refine wp_region_held_drew (S := fun w' => w'.heap[b0]? = some (.cells #[.slice an d.ns.length cn, .slice ai d.is.length ci, .slice af d.ds.length cf, .int .i64 d.pl, .slice ah d.hs.length ch, .slice al d.ls.length cl, .slice ag d.gs.length cg, .slice ap d.ps.length cp, .int .i64 d.nx, .slice aa d.ga.length ca, .slice ab d.tk.length cb] 50 (0, 0)) /\ w'.cell? ⟨bj, 0, none⟩ = some (.func (.func F) #[] #[])) (by kernel_rfl) (hS _ B) (fun hHeld => ?_)
 refine wpAnyH_take (i := 0) (oi := ⟨some 38, .move (.tmp 5), 4, "l15_judge.go:44", #[], none⟩) (v := .bool true) rfl (by kernel_rfl) (by kernel_rfl) (by kernel_rfl) (fun _ _ _ h => h) (Or.inl ⟨by rfl, by intro w hSw; go_simp⟩) (by assumption) ?_
 simp only [Act.put, sit, sc0, scs]
 refine wpAnyH_take (i := 1) (oi := ⟨some 39, .move (.tmp 38), 4, "l15_judge.go:44", #[⟨0, .data⟩], none⟩) (v := .bool true) rfl (by kernel_rfl) (by kernel_rfl) (by kernel_rfl) (fun _ _ _ h => h) (Or.inl ⟨by rfl, by intro w hSw; go_simp⟩) (by assumption) ?_
 simp only [Act.put, sit, sc0, scs]
 refine wpAnyH_take (i := 2) (oi := ⟨some 40, .move (.tmp 1), 135, "l15_judge.go:44", #[⟨1, .guard⟩], some (1, true)⟩) (v := .slice (some ⟨bj, 0, none⟩) 1 qj) rfl (by kernel_rfl) (by kernel_rfl) (by kernel_rfl) (fun _ _ _ h => h) (Or.inl ⟨by rfl, by intro w hSw; go_simp⟩) (by assumption) ?_
 simp only [Act.put, sit, sc0, scs]
 refine wpAnyH_take (i := 3) (oi := ⟨some 41, .move (.tmp 6), 3, "l15_judge.go:44", #[⟨1, .guard⟩], some (1, true)⟩) (v := .int .i64 1) rfl (by kernel_rfl) (by kernel_rfl) (by kernel_rfl) (fun _ _ _ h => h) (Or.inl ⟨by rfl, by intro w hSw; go_simp⟩) (by assumption) ?_
 simp only [Act.put, sit, sc0, scs]
 refine wpAnyH_take (i := 4) (oi := ⟨some 42, .binOp .sub 3 (.tmp 41) (.const (.int IntKind.i64 1)) 3, 3, "l15_judge.go:44", #[⟨3, .data⟩, ⟨1, .guard⟩], some (1, true)⟩) (v := .int .i64 0) rfl (by kernel_rfl) (by kernel_rfl) (by kernel_rfl) (fun _ _ _ h => h) (Or.inl ⟨by rfl, by intro w hSw; first | (go_simp; done) | (go_simp; rfl) | (go_simp; decide)⟩) (by assumption) ?_
 simp only [Act.put, sit, sc0, scs]
 refine wpAnyH_take (i := 5) (oi := ⟨some 43, .indexAddr 135 (.tmp 40) (.tmp 42), 0, "l15_judge.go:44", #[⟨2, .data⟩, ⟨4, .data⟩, ⟨1, .guard⟩], some (1, true)⟩) (v := .pointer (some ⟨bj, 0, none⟩)) rfl (by kernel_rfl) (by kernel_rfl) (by kernel_rfl) (fun _ _ _ h => h) (Or.inl ⟨by rfl, by intro w hSw; go_simp⟩) (by assumption) ?_
 simp only [Act.put, sit, sc0, scs]
 refine wpAnyH_take (i := 6) (oi := ⟨some 44, .load 136 (.tmp 43), 136, "l15_judge.go:44", #[⟨5, .data⟩, ⟨1, .guard⟩], some (1, true)⟩) (v := .func (.func F) #[] #[]) rfl (by kernel_rfl) (by kernel_rfl) (by kernel_rfl) (fun _ _ _ h => h) (Or.inl ⟨by rfl, by intro w' hSw; have c := hSw.2; go_simp⟩) (by assumption) ?_
 simp only [Act.put, sit, sc0, scs]
 refine wpAnyH_take (i := 7) (oi := ⟨some 45, .load 50 (.tmp 2), 50, "l15_judge.go:44", #[⟨1, .guard⟩], some (1, true)⟩) (v := .agg #[.slice an d.ns.length cn, .slice ai d.is.length ci, .slice af d.ds.length cf, .int .i64 d.pl, .slice ah d.hs.length ch, .slice al d.ls.length cl, .slice ag d.gs.length cg, .slice ap d.ps.length cp, .int .i64 d.nx, .slice aa d.ga.length ca, .slice ab d.tk.length cb]) rfl (by kernel_rfl) (by kernel_rfl) (by kernel_rfl) (fun _ _ _ h => h) (ZaJ (by rfl) 50 _ rfl b0 rfl #[.slice an d.ns.length cn, .slice ai d.is.length ci, .slice af d.ds.length cf, .int .i64 d.pl, .slice ah d.hs.length ch, .slice al d.ls.length cl, .slice ag d.gs.length cg, .slice ap d.ps.length cp, .int .i64 d.nx, .slice aa d.ga.length ca, .slice ab d.tk.length cb] 50 _ (fun _ h => h.1) Tryz.underlying50 rfl Zle) (by assumption) ?_
 simp only [Act.put, sit, sc0, scs]
 refine wpAnyH_ready (rs := [8]) (by kernel_rfl) (by simp) ?_
 refine AllReadyH.cons rfl (fun K hK => ?_) AllReadyH.nil
 go_simp
 go_wp2_with fail
 with_reducible refine (HC _ B).mono ?_
 rintro e wE ⟨rfl, hb⟩
 go_wp2_with fail
 replace B := B.trans (hb.mono B.size)
 clear hb
 refine hK.out _ _ (hS _ B) (fun hHeld => ?_)
 clear hK
 refine wpAnyH_take (i := 9) (oi := ⟨some 47, .pick (.tmp 39) (.tmp 46) (.const (.bool false)), 4, "l15_judge.go:44", #[⟨1, .data⟩, ⟨8, .data⟩], none⟩) (v := .bool r) rfl (by kernel_rfl) (by kernel_rfl) (by kernel_rfl) (fun _ _ _ h => h) (Or.inl ⟨by rfl, by intro w hSw; go_simp⟩) (by assumption) ?_
 simp only [Act.put, sit, sc0, scs]
 refine wpAnyH_take (i := 10) (oi := ⟨some 4, .assign (.tmp 47), 4, "l15_judge.go:44", #[⟨9, .data⟩, ⟨8, .chain⟩, ⟨0, .phase⟩, ⟨1, .phase⟩, ⟨2, .phase⟩, ⟨3, .phase⟩, ⟨4, .phase⟩, ⟨5, .phase⟩, ⟨6, .phase⟩, ⟨7, .phase⟩, ⟨8, .phase⟩, ⟨9, .phase⟩], none⟩) (v := .bool r) rfl (by kernel_rfl) (by kernel_rfl) (by kernel_rfl) (fun _ _ _ h => h) (Or.inl ⟨by rfl, by intro w hSw; go_simp⟩) (by assumption) ?_
 simp only [Act.put, sit, sc0, scs]
 refine wpAnyH_done (by kernel_rfl) ?_ _
 exact NoPanic.normal (hQ _ _ _ _ _ _ _ _ _ _ _ B)
set_option maxRecDepth 100000 in
set_option maxHeartbeats 6400000 in
theorem ZjP {t0 t2 t5 t6 t7 t8 t9 t10 t11 t12 t13 t14 t15 t16 t17 t18 t19 t20 t21 : Value} {fs : List Deferred} (b0 b4 ga oa k nt qa qq qh : Nat) (pa pq ph : Option Addr) (an ai af ah al ag ap ab : Option Addr) (cn ci cf ch cl cg cp ca cb : Nat) (d : Wd) (l : Lk) (r : Bool) (w : World) (Q : Exit -> Act -> World -> Prop)
  (hx : w.heap[b0]? = some (.cells #[.slice an d.ns.length cn, .slice ai d.is.length ci, .slice af d.ds.length cf, .int .i64 d.pl, .slice ah d.hs.length ch, .slice al d.ls.length cl, .slice ag d.gs.length cg, .slice ap d.ps.length cp, .int .i64 d.nx, .slice (some ⟨ga, oa, none⟩) d.ga.length ca, .slice ab d.tk.length cb] 50 (0, 0))) (hy : w.heap[b4]? = some (.cells #[.int .i64 l.sent, .int .i64 l.acked, .slice pq l.q.length qq, .int .i64 l.got, .slice ph l.h.length qh] 88 (0, 0))) (hga : ga < w.heap.size) (ha : w.cell? ⟨ga, oa + k, none⟩ = some (.slice pa nt qa)) (hka : k < d.ga.length) (HC : ∀ W, Below w.heap.size w W -> Calls Tryz.prog 102 #[.agg #[.int .i64 l.sent, .int .i64 l.acked, .slice pq l.q.length qq, .int .i64 l.got, .slice ph l.h.length qh], .slice pa nt qa] W fun e w' => e = .returned (.bool r) /\ Below W.heap.size W w')
  (hQ : ∀ u13 u14 u15 u16 u17 u18 u19 (W : World), Below w.heap.size w W -> Q .normal ⟨#[t0, .pointer (some ⟨b0, 0, none⟩), t2, .int .i64 (k : Nat), .pointer (some ⟨b4, 0, none⟩), t5, t6, t7, t8, t9, t10, t11, t12, u13, u14, u15, u16, u17, u18, u19, .bool (!r), t21], fs⟩ W) :
  (Code.region 4 (List.toArray (⟨some 13, .load 88 (.tmp 4), 88, "l15_judge.go:84", #[], none⟩ :: ⟨some 14, .fieldAddr 50 (.tmp 1) 7, 0, "l15_judge.go:84", #[], none⟩ :: ⟨some 15, .load 33 (.tmp 14), 33, "l15_judge.go:84", #[⟨1, .data⟩], none⟩ :: ⟨some 16, .move (.tmp 3), 3, "l15_judge.go:84", #[], none⟩ :: ⟨some 17, .indexAddr 33 (.tmp 15) (.tmp 16), 0, "l15_judge.go:84", #[⟨2, .data⟩, ⟨3, .data⟩], none⟩ :: ⟨some 18, .load 54 (.tmp 17), 54, "l15_judge.go:84", #[⟨4, .data⟩], none⟩ :: ⟨some 19, .call { callee := .value (.func 102), args := #[.tmp 13, .tmp 18], argTypes := #[88, 54] }, 4, "l15_judge.go:84", #[⟨0, .data⟩, ⟨5, .data⟩], none⟩ :: ⟨some 20, .unOp .not 4 (.tmp 19), 4, "l15_judge.go:84", #[⟨6, .data⟩], none⟩ :: [])) true).wp Tryz.prog Q ⟨#[t0, .pointer (some ⟨b0, 0, none⟩), t2, .int .i64 (k : Nat), .pointer (some ⟨b4, 0, none⟩), t5, t6, t7, t8, t9, t10, t11, t12, t13, t14, t15, t16, t17, t18, t19, t20, t21], fs⟩ w := by
 have hS : ∀ w', Below w.heap.size w w' -> (w'.heap[b0]? = some (.cells #[.slice an d.ns.length cn, .slice ai d.is.length ci, .slice af d.ds.length cf, .int .i64 d.pl, .slice ah d.hs.length ch, .slice al d.ls.length cl, .slice ag d.gs.length cg, .slice ap d.ps.length cp, .int .i64 d.nx, .slice (some ⟨ga, oa, none⟩) d.ga.length ca, .slice ab d.tk.length cb] 50 (0, 0)) /\ w'.heap[b4]? = some (.cells #[.int .i64 l.sent, .int .i64 l.acked, .slice pq l.q.length qq, .int .i64 l.got, .slice ph l.h.length qh] 88 (0, 0)) /\ w'.cell? ⟨ga, oa + k, none⟩ = some (.slice pa nt qa)) := fun w' hb => ⟨Zab hx hb, Zab hy hb, (hb.cell (p := ⟨ga, oa + k, none⟩) hga).trans ha⟩
 have hk1 : (k : Int) < (d.ga.length : Int) := by omega
 have B : Below w.heap.size w w.drew := Zax w
 refine wp_region_noPanic ?_
 refine wp_region_held_drew (S := fun w' => w'.heap[b0]? = some (.cells #[.slice an d.ns.length cn, .slice ai d.is.length ci, .slice af d.ds.length cf, .int .i64 d.pl, .slice ah d.hs.length ch, .slice al d.ls.length cl, .slice ag d.gs.length cg, .slice ap d.ps.length cp, .int .i64 d.nx, .slice (some ⟨ga, oa, none⟩) d.ga.length ca, .slice ab d.tk.length cb] 50 (0, 0)) /\ w'.heap[b4]? = some (.cells #[.int .i64 l.sent, .int .i64 l.acked, .slice pq l.q.length qq, .int .i64 l.got, .slice ph l.h.length qh] 88 (0, 0)) /\ w'.cell? ⟨ga, oa + k, none⟩ = some (.slice pa nt qa)) (by kernel_rfl) (hS _ B) (fun hHeld => ?_)
 refine wpAnyH_take (i := 0) (oi := ⟨some 13, .load 88 (.tmp 4), 88, "l15_judge.go:84", #[], none⟩) (v := .agg #[.int .i64 l.sent, .int .i64 l.acked, .slice pq l.q.length qq, .int .i64 l.got, .slice ph l.h.length qh]) rfl (by kernel_rfl) (by kernel_rfl) (by kernel_rfl) (fun _ _ _ h => h) (ZaJ (by rfl) 88 _ rfl b4 rfl #[.int .i64 l.sent, .int .i64 l.acked, .slice pq l.q.length qq, .int .i64 l.got, .slice ph l.h.length qh] 88 _ (fun _ h => h.2.1) Tryz.underlying88 rfl (by kernel_rfl)) (by assumption) ?_
 simp only [Act.put, sit, sc0, scs]
 refine wpAnyH_take (i := 1) (oi := ⟨some 14, .fieldAddr 50 (.tmp 1) 7, 0, "l15_judge.go:84", #[], none⟩) (v := .pointer (some ⟨b0, 9, none⟩)) rfl (by kernel_rfl) (by kernel_rfl) (by kernel_rfl) (fun _ _ _ h => h) (Or.inl ⟨by rfl, by intro w hSw; go_simp⟩) (by assumption) ?_
 simp only [Act.put, sit, sc0, scs]
 refine wpAnyH_take (i := 2) (oi := ⟨some 15, .load 33 (.tmp 14), 33, "l15_judge.go:84", #[⟨1, .data⟩], none⟩) (v := .slice (some ⟨ga, oa, none⟩) d.ga.length ca) rfl (by kernel_rfl) (by kernel_rfl) (by kernel_rfl) (fun _ _ _ h => h) (Or.inl ⟨by rfl, by intro w' hSw; have c := cell_of_row w' (b0) 9 _ _ _ hSw.1; go_simp⟩) (by assumption) ?_
 simp only [Act.put, sit, sc0, scs]
 refine wpAnyH_take (i := 3) (oi := ⟨some 16, .move (.tmp 3), 3, "l15_judge.go:84", #[], none⟩) (v := .int .i64 (k : Nat)) rfl (by kernel_rfl) (by kernel_rfl) (by kernel_rfl) (fun _ _ _ h => h) (Or.inl ⟨by rfl, by intro w hSw; go_simp⟩) (by assumption) ?_
 simp only [Act.put, sit, sc0, scs]
 refine wpAnyH_take (i := 4) (oi := ⟨some 17, .indexAddr 33 (.tmp 15) (.tmp 16), 0, "l15_judge.go:84", #[⟨2, .data⟩, ⟨3, .data⟩], none⟩) (v := .pointer (some ⟨ga, oa + k, none⟩)) rfl (by kernel_rfl) (by kernel_rfl) (by kernel_rfl) (fun _ _ _ h => h) (Or.inl ⟨by rfl, by intro w hSw; go_simp⟩) (by assumption) ?_
 simp only [Act.put, sit, sc0, scs]
 refine wpAnyH_take (i := 5) (oi := ⟨some 18, .load 54 (.tmp 17), 54, "l15_judge.go:84", #[⟨4, .data⟩], none⟩) (v := .slice pa nt qa) rfl (by kernel_rfl) (by kernel_rfl) (by kernel_rfl) (fun _ _ _ h => h) (Or.inl ⟨by rfl, by intro w' hSw; have c := hSw.2.2; go_simp⟩) (by assumption) ?_
 simp only [Act.put, sit, sc0, scs]
 refine wpAnyH_ready (rs := [6]) (by kernel_rfl) (by simp) ?_
 refine AllReadyH.cons rfl (fun K hK => ?_) AllReadyH.nil
 go_simp
 go_wp2_with (go_at_call 102; with_reducible refine (HC _ B).mono ?_; rintro e wE ⟨rfl, hb⟩)
 replace B := B.trans (hb.mono B.size)
 clear hb
 refine hK.out _ _ (hS _ B) (fun hHeld => ?_)
 clear hK
 refine wpAnyH_take (i := 7) (oi := ⟨some 20, .unOp .not 4 (.tmp 19), 4, "l15_judge.go:84", #[⟨6, .data⟩], none⟩) (v := .bool (!r)) rfl (by kernel_rfl) (by kernel_rfl) (by kernel_rfl) (fun _ _ _ h => h) (Or.inl ⟨by rfl, by intro w hSw; go_simp⟩) (by assumption) ?_
 simp only [Act.put, sit, sc0, scs]
 refine wpAnyH_done (by kernel_rfl) ?_ _
 exact NoPanic.normal (hQ _ _ _ _ _ _ _ _ B)
set_option maxRecDepth 100000 in
set_option maxHeartbeats 6400000 in
theorem ZhX {t0 t3 t4 t5 t6 t7 t8 t9 t10 t11 t12 t13 t14 t15 t16 t17 t18 t19 t20 t21 t22 t23 t24 t25 t26 t27 t28 t29 : Value} {fs : List Deferred} (b0 a qq qh : Nat) (pa pq ph : Option Addr) (l : Lk) (r : Bool) (w : World) (Q : Exit -> Act -> World -> Prop)
  (hx : w.heap[b0]? = some (.cells #[.int .i64 l.sent, .int .i64 l.acked, .slice pq l.q.length qq, .int .i64 l.got, .slice ph l.h.length qh] 88 (0, 0))) (hl : l.acked = (a : Int)) (HC : ∀ W, Below w.heap.size w W -> Calls Tryz.prog 87 #[.slice pq l.q.length qq, .slice pa 0 0] W fun e w' => e = .returned (.bool r) /\ Below W.heap.size W w')
  (hQ : ∀ u23 u24 u25 u26 u27 u28 u29 (W : World), Below w.heap.size w W -> Q .normal ⟨#[t0, .slice pa a a, .pointer (some ⟨b0, 0, none⟩), t3, .bool r, t5, t6, t7, t8, t9, t10, t11, t12, t13, t14, t15, t16, t17, t18, t19, t20, t21, t22, u23, u24, u25, u26, u27, u28, u29], fs⟩ W) :
  (Code.region 7 (List.toArray (⟨some 23, .fieldAddr 88 (.tmp 2) 2, 0, "l15_judge.go:98", #[], none⟩ :: ⟨some 24, .load 54 (.tmp 23), 54, "l15_judge.go:98", #[⟨0, .data⟩], none⟩ :: ⟨some 25, .move (.tmp 1), 54, "l15_judge.go:98", #[], none⟩ :: ⟨some 26, .fieldAddr 88 (.tmp 2) 1, 0, "l15_judge.go:98", #[], none⟩ :: ⟨some 27, .load 3 (.tmp 26), 3, "l15_judge.go:98", #[⟨3, .data⟩], none⟩ :: ⟨some 28, .slice 54 (.tmp 25) (some (.tmp 27)) none none, 54, "l15_judge.go:98", #[⟨2, .data⟩, ⟨4, .data⟩], none⟩ :: ⟨some 29, .call { callee := .value (.func 87), args := #[.tmp 24, .tmp 28], argTypes := #[54, 54] }, 4, "l15_judge.go:98", #[⟨1, .data⟩, ⟨5, .data⟩], none⟩ :: ⟨some 4, .assign (.tmp 29), 4, "l15_judge.go:98", #[⟨6, .data⟩, ⟨6, .chain⟩, ⟨0, .phase⟩, ⟨1, .phase⟩, ⟨2, .phase⟩, ⟨3, .phase⟩, ⟨4, .phase⟩, ⟨5, .phase⟩, ⟨6, .phase⟩], none⟩ :: [])) true).wp Tryz.prog Q ⟨#[t0, .slice pa a a, .pointer (some ⟨b0, 0, none⟩), t3, t4, t5, t6, t7, t8, t9, t10, t11, t12, t13, t14, t15, t16, t17, t18, t19, t20, t21, t22, t23, t24, t25, t26, t27, t28, t29], fs⟩ w := by
 have hS : ∀ w', Below w.heap.size w w' -> (w'.heap[b0]? = some (.cells #[.int .i64 l.sent, .int .i64 l.acked, .slice pq l.q.length qq, .int .i64 l.got, .slice ph l.h.length qh] 88 (0, 0))) := fun w' hb => Zab hx hb
 have B : Below w.heap.size w w.drew := Zax w
 refine wp_region_noPanic ?_
 refine wp_region_held_drew (S := fun w' => w'.heap[b0]? = some (.cells #[.int .i64 l.sent, .int .i64 l.acked, .slice pq l.q.length qq, .int .i64 l.got, .slice ph l.h.length qh] 88 (0, 0))) (by kernel_rfl) (hS _ B) (fun hHeld => ?_)
 refine wpAnyH_take (i := 0) (oi := ⟨some 23, .fieldAddr 88 (.tmp 2) 2, 0, "l15_judge.go:98", #[], none⟩) (v := .pointer (some ⟨b0, 2, none⟩)) rfl (by kernel_rfl) (by kernel_rfl) (by kernel_rfl) (fun _ _ _ h => h) (Or.inl ⟨by rfl, by intro w hSw; go_simp⟩) (by assumption) ?_
 simp only [Act.put, sit, sc0, scs]
 refine wpAnyH_take (i := 1) (oi := ⟨some 24, .load 54 (.tmp 23), 54, "l15_judge.go:98", #[⟨0, .data⟩], none⟩) (v := .slice pq l.q.length qq) rfl (by kernel_rfl) (by kernel_rfl) (by kernel_rfl) (fun _ _ _ h => h) (Or.inl ⟨by rfl, by intro w' hSw; have c := cell_of_row w' (b0) 2 _ _ _ hSw; go_simp⟩) (by assumption) ?_
 simp only [Act.put, sit, sc0, scs]
 refine wpAnyH_take (i := 2) (oi := ⟨some 25, .move (.tmp 1), 54, "l15_judge.go:98", #[], none⟩) (v := .slice pa a a) rfl (by kernel_rfl) (by kernel_rfl) (by kernel_rfl) (fun _ _ _ h => h) (Or.inl ⟨by rfl, by intro w hSw; go_simp⟩) (by assumption) ?_
 simp only [Act.put, sit, sc0, scs]
 refine wpAnyH_take (i := 3) (oi := ⟨some 26, .fieldAddr 88 (.tmp 2) 1, 0, "l15_judge.go:98", #[], none⟩) (v := .pointer (some ⟨b0, 1, none⟩)) rfl (by kernel_rfl) (by kernel_rfl) (by kernel_rfl) (fun _ _ _ h => h) (Or.inl ⟨by rfl, by intro w hSw; go_simp⟩) (by assumption) ?_
 simp only [Act.put, sit, sc0, scs]
 refine wpAnyH_take (i := 4) (oi := ⟨some 27, .load 3 (.tmp 26), 3, "l15_judge.go:98", #[⟨3, .data⟩], none⟩) (v := .int .i64 (a : Nat)) rfl (by kernel_rfl) (by kernel_rfl) (by kernel_rfl) (fun _ _ _ h => h) (Or.inl ⟨by rfl, by intro w' hSw; have c := cell_of_row w' (b0) 1 _ _ _ hSw; rw [<- hl]; go_simp⟩) (by assumption) ?_
 simp only [Act.put, sit, sc0, scs]
 refine wpAnyH_take (i := 5) (oi := ⟨some 28, .slice 54 (.tmp 25) (some (.tmp 27)) none none, 54, "l15_judge.go:98", #[⟨2, .data⟩, ⟨4, .data⟩], none⟩) (v := .slice pa 0 0) rfl (by kernel_rfl) (by kernel_rfl) (by kernel_rfl) (fun _ _ _ h => h) (Or.inl ⟨by rfl, by intro w' hSw; go_simp⟩) (by assumption) ?_
 simp only [Act.put, sit, sc0, scs]
 refine wpAnyH_ready (rs := [6]) (by kernel_rfl) (by simp) ?_
 refine AllReadyH.cons rfl (fun K hK => ?_) AllReadyH.nil
 go_simp
 go_wp2_with (go_at_call 87; with_reducible refine (HC _ B).mono ?_; rintro e wE ⟨rfl, hb⟩)
 replace B := B.trans (hb.mono B.size)
 clear hb
 refine hK.out _ _ (hS _ B) (fun hHeld => ?_)
 clear hK
 refine wpAnyH_take (i := 7) (oi := ⟨some 4, .assign (.tmp 29), 4, "l15_judge.go:98", #[⟨6, .data⟩, ⟨6, .chain⟩, ⟨0, .phase⟩, ⟨1, .phase⟩, ⟨2, .phase⟩, ⟨3, .phase⟩, ⟨4, .phase⟩, ⟨5, .phase⟩, ⟨6, .phase⟩], none⟩) (v := .bool r) rfl (by kernel_rfl) (by kernel_rfl) (by kernel_rfl) (fun _ _ _ h => h) (Or.inl ⟨by rfl, by intro w hSw; go_simp⟩) (by assumption) ?_
 simp only [Act.put, sit, sc0, scs]
 refine wpAnyH_done (by kernel_rfl) ?_ _
 exact NoPanic.normal (hQ _ _ _ _ _ _ _ _ B)
set_option maxRecDepth 100000 in
set_option maxHeartbeats 6400000 in
theorem Ziq {t0 t3 t4 t5 t6 t7 t8 t9 t10 t11 t12 t13 t14 t15 t16 t17 t18 t19 t20 t21 t22 t23 t24 t25 t26 t27 t28 t29 : Value} {fs : List Deferred} (b0 nt qa a qq qh : Nat) (pa pq ph : Option Addr) (l : Lk) (r : Bool) (w : World) (Q : Exit -> Act -> World -> Prop)
  (hx : w.heap[b0]? = some (.cells #[.int .i64 l.sent, .int .i64 l.acked, .slice pq l.q.length qq, .int .i64 l.got, .slice ph l.h.length qh] 88 (0, 0))) (hl : l.acked = (a : Int)) (hnt : a <= nt) (hqa : nt <= qa) (hca : a < qa) (HC : ∀ W, Below w.heap.size w W -> Calls Tryz.prog 87 #[.slice pq l.q.length qq, .slice (pa.map fun x => x.add a) (nt - a) (qa - a)] W fun e w' => e = .returned (.bool r) /\ Below W.heap.size W w')
  (hQ : ∀ u23 u24 u25 u26 u27 u28 u29 (W : World), Below w.heap.size w W -> Q .normal ⟨#[t0, .slice pa nt qa, .pointer (some ⟨b0, 0, none⟩), t3, .bool r, t5, t6, t7, t8, t9, t10, t11, t12, t13, t14, t15, t16, t17, t18, t19, t20, t21, t22, u23, u24, u25, u26, u27, u28, u29], fs⟩ W) :
  (Code.region 7 (List.toArray (⟨some 23, .fieldAddr 88 (.tmp 2) 2, 0, "l15_judge.go:98", #[], none⟩ :: ⟨some 24, .load 54 (.tmp 23), 54, "l15_judge.go:98", #[⟨0, .data⟩], none⟩ :: ⟨some 25, .move (.tmp 1), 54, "l15_judge.go:98", #[], none⟩ :: ⟨some 26, .fieldAddr 88 (.tmp 2) 1, 0, "l15_judge.go:98", #[], none⟩ :: ⟨some 27, .load 3 (.tmp 26), 3, "l15_judge.go:98", #[⟨3, .data⟩], none⟩ :: ⟨some 28, .slice 54 (.tmp 25) (some (.tmp 27)) none none, 54, "l15_judge.go:98", #[⟨2, .data⟩, ⟨4, .data⟩], none⟩ :: ⟨some 29, .call { callee := .value (.func 87), args := #[.tmp 24, .tmp 28], argTypes := #[54, 54] }, 4, "l15_judge.go:98", #[⟨1, .data⟩, ⟨5, .data⟩], none⟩ :: ⟨some 4, .assign (.tmp 29), 4, "l15_judge.go:98", #[⟨6, .data⟩, ⟨6, .chain⟩, ⟨0, .phase⟩, ⟨1, .phase⟩, ⟨2, .phase⟩, ⟨3, .phase⟩, ⟨4, .phase⟩, ⟨5, .phase⟩, ⟨6, .phase⟩], none⟩ :: [])) true).wp Tryz.prog Q ⟨#[t0, .slice pa nt qa, .pointer (some ⟨b0, 0, none⟩), t3, t4, t5, t6, t7, t8, t9, t10, t11, t12, t13, t14, t15, t16, t17, t18, t19, t20, t21, t22, t23, t24, t25, t26, t27, t28, t29], fs⟩ w := by
 have hS : ∀ w', Below w.heap.size w w' -> (w'.heap[b0]? = some (.cells #[.int .i64 l.sent, .int .i64 l.acked, .slice pq l.q.length qq, .int .i64 l.got, .slice ph l.h.length qh] 88 (0, 0))) := fun w' hb => Zab hx hb
 have h1 : ¬ (qa : Int) < (nt : Int) := by omega
 have h2 : (a : Int) <= (nt : Int) := by omega
 have h3 : ¬ (a : Int) < 0 := by omega
 have h4 : ¬ qa = a := by omega
 have B : Below w.heap.size w w.drew := Zax w
 refine wp_region_noPanic ?_
 refine wp_region_held_drew (S := fun w' => w'.heap[b0]? = some (.cells #[.int .i64 l.sent, .int .i64 l.acked, .slice pq l.q.length qq, .int .i64 l.got, .slice ph l.h.length qh] 88 (0, 0))) (by kernel_rfl) (hS _ B) (fun hHeld => ?_)
 refine wpAnyH_take (i := 0) (oi := ⟨some 23, .fieldAddr 88 (.tmp 2) 2, 0, "l15_judge.go:98", #[], none⟩) (v := .pointer (some ⟨b0, 2, none⟩)) rfl (by kernel_rfl) (by kernel_rfl) (by kernel_rfl) (fun _ _ _ h => h) (Or.inl ⟨by rfl, by intro w hSw; go_simp⟩) (by assumption) ?_
 simp only [Act.put, sit, sc0, scs]
 refine wpAnyH_take (i := 1) (oi := ⟨some 24, .load 54 (.tmp 23), 54, "l15_judge.go:98", #[⟨0, .data⟩], none⟩) (v := .slice pq l.q.length qq) rfl (by kernel_rfl) (by kernel_rfl) (by kernel_rfl) (fun _ _ _ h => h) (Or.inl ⟨by rfl, by intro w' hSw; have c := cell_of_row w' (b0) 2 _ _ _ hSw; go_simp⟩) (by assumption) ?_
 simp only [Act.put, sit, sc0, scs]
 refine wpAnyH_take (i := 2) (oi := ⟨some 25, .move (.tmp 1), 54, "l15_judge.go:98", #[], none⟩) (v := .slice pa nt qa) rfl (by kernel_rfl) (by kernel_rfl) (by kernel_rfl) (fun _ _ _ h => h) (Or.inl ⟨by rfl, by intro w hSw; go_simp⟩) (by assumption) ?_
 simp only [Act.put, sit, sc0, scs]
 refine wpAnyH_take (i := 3) (oi := ⟨some 26, .fieldAddr 88 (.tmp 2) 1, 0, "l15_judge.go:98", #[], none⟩) (v := .pointer (some ⟨b0, 1, none⟩)) rfl (by kernel_rfl) (by kernel_rfl) (by kernel_rfl) (fun _ _ _ h => h) (Or.inl ⟨by rfl, by intro w hSw; go_simp⟩) (by assumption) ?_
 simp only [Act.put, sit, sc0, scs]
 refine wpAnyH_take (i := 4) (oi := ⟨some 27, .load 3 (.tmp 26), 3, "l15_judge.go:98", #[⟨3, .data⟩], none⟩) (v := .int .i64 (a : Nat)) rfl (by kernel_rfl) (by kernel_rfl) (by kernel_rfl) (fun _ _ _ h => h) (Or.inl ⟨by rfl, by intro w' hSw; have c := cell_of_row w' (b0) 1 _ _ _ hSw; rw [<- hl]; go_simp⟩) (by assumption) ?_
 simp only [Act.put, sit, sc0, scs]
 refine wpAnyH_take (i := 5) (oi := ⟨some 28, .slice 54 (.tmp 25) (some (.tmp 27)) none none, 54, "l15_judge.go:98", #[⟨2, .data⟩, ⟨4, .data⟩], none⟩) (v := .slice (pa.map fun x => x.add a) (nt - a) (qa - a)) rfl (by kernel_rfl) (by kernel_rfl) (by kernel_rfl) (fun _ _ _ h => h) (Or.inl ⟨by rfl, by intro w' hSw; go_simp⟩) (by assumption) ?_
 simp only [Act.put, sit, sc0, scs]
 refine wpAnyH_ready (rs := [6]) (by kernel_rfl) (by simp) ?_
 refine AllReadyH.cons rfl (fun K hK => ?_) AllReadyH.nil
 go_simp
 go_wp2_with (go_at_call 87; with_reducible refine (HC _ B).mono ?_; rintro e wE ⟨rfl, hb⟩)
 replace B := B.trans (hb.mono B.size)
 clear hb
 refine hK.out _ _ (hS _ B) (fun hHeld => ?_)
 clear hK
 refine wpAnyH_take (i := 7) (oi := ⟨some 4, .assign (.tmp 29), 4, "l15_judge.go:98", #[⟨6, .data⟩, ⟨6, .chain⟩, ⟨0, .phase⟩, ⟨1, .phase⟩, ⟨2, .phase⟩, ⟨3, .phase⟩, ⟨4, .phase⟩, ⟨5, .phase⟩, ⟨6, .phase⟩], none⟩) (v := .bool r) rfl (by kernel_rfl) (by kernel_rfl) (by kernel_rfl) (fun _ _ _ h => h) (Or.inl ⟨by rfl, by intro w hSw; go_simp⟩) (by assumption) ?_
 simp only [Act.put, sit, sc0, scs]
 refine wpAnyH_done (by kernel_rfl) ?_ _
 exact NoPanic.normal (hQ _ _ _ _ _ _ _ _ B)
end Go.Proofs.YtfmafkebddojjaaGreatDoor
