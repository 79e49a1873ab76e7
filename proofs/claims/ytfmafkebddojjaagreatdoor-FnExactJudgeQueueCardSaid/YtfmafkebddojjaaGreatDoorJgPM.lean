/-
  Texts that stood by themselves, laid into one.
-/
import Derived.Test.YtfmafkebddojjaaGreatDoorWhRM
import Derived.Test.YtfmafkebddojjaaGreatDoorSameTM
/-
  Contract of spec.WhereIs. No condition.
-/
namespace Go.Proofs.YtfmafkebddojjaaGreatDoor
open Go.RowKit
theorem Zdy {f : FuncId} {fn : Func} {c : Code} (hf : Tryz.prog.funcs[f]? = some fn) (hname : (fn.name == "runtime.NumGoroutine") = false) (hb : fn.body = some c) (args : Array Value) (w : World) :
  Sem.run Tryz.prog (callFunc f args) w = .ok (.enter f args) w := by
 have h1 : fn.name ≠ "runtime.NumGoroutine" := by simpa using hname
 simp [callFunc, hf, h1, hb]
set_option maxRecDepth 100000 in
set_option maxHeartbeats 3200000 in
theorem Zdu (vn vi vf vh vl vg vp va vt : Value) (d : Wd) (w : World) (R : WR 0 w vn vi vf vh vl vg vp va vt d) (hS : SmW d) (hg : ErrT w) (bj qj F1 : Nat) (r1 : Bool) (hbj : bj < w.heap.size) (hc1 : w.cell? ⟨bj, 0, none⟩ = some (.func (.func F1) #[] #[])) (hrun1 : ∀ args w, Sem.run Tryz.prog (callFunc F1 args) w = .ok (.enter F1 args) w) (HC1 : Zap d = true -> (∀ W, Below w.heap.size w W -> Calls Tryz.prog F1 #[.agg #[vn, vi, vf, .int .i64 d.pl, vh, vl, vg, vp, .int .i64 d.nx, va, vt]] W fun e w' => e = .returned (.bool r1) /\ Below W.heap.size W w')) :
  Calls Tryz.prog 41 #[.agg #[vn, vi, vf, .int .i64 d.pl, vh, vl, vg, vp, .int .i64 d.nx, va, vt], .slice (some ⟨bj, 0, none⟩) 1 qj] w fun e w' => e = .returned (.bool (Zap d && r1)) /\ Below w.heap.size w w' := by
 have R0 := R
 obtain ⟨⟨an, cn, rfl⟩, ⟨ai, ci, rfl⟩, ⟨af, cf, rfl⟩, ⟨ah, ch, rfl⟩, ⟨al, cl, rfl⟩, ⟨ag, cg, rfl⟩, ⟨ap, cp, rfl⟩, ⟨aa, ca, rfl⟩, ⟨ab, cb, rfl⟩⟩ := R.form
 clear R
 have hB0 := Zam w (Obj.cells #[.slice an d.ns.length cn, .slice ai d.is.length ci, .slice af d.ds.length cf, .int .i64 d.pl, .slice ah d.hs.length ch, .slice al d.ls.length cl, .slice ag d.gs.length cg, .slice ap d.ps.length cp, .int .i64 d.nx, .slice aa d.ga.length ca, .slice ab d.tk.length cb] 50)
 have hx0 := heap_alloc_new w (Obj.cells #[.slice an d.ns.length cn, .slice ai d.is.length ci, .slice af d.ds.length cf, .int .i64 d.pl, .slice ah d.hs.length ch, .slice al d.ls.length cl, .slice ag d.gs.length cg, .slice ap d.ps.length cp, .int .i64 d.nx, .slice aa d.ga.length ca, .slice ab d.tk.length cb] 50)
 have k1 := (hB0.cell (p := ⟨bj, 0, none⟩) hbj).trans hc1
 clear hc1
 go_enter Tryz.func41, Tryz.ntmps41
 go_wp2_with (refine wpList_load_row rfl 50 _ rfl w.heap.size rfl 50 #[.slice an d.ns.length cn, .slice ai d.is.length ci, .slice af d.ds.length cf, .int .i64 d.pl, .slice ah d.hs.length ch, .slice al d.ls.length cl, .slice ag d.gs.length cg, .slice ap d.ps.length cp, .int .i64 d.nx, .slice aa d.ga.length ca, .slice ab d.tk.length cb] (0, 0) _ hx0 Tryz.underlying50 rfl Zle ?_)
 refine (Zex _ _ _ _ _ _ _ _ _ d 0 _ (R0.below hB0) hS.hh.2 (hg.below hB0 (Nat.le_refl _))).mono ?_
 rintro e w1 ⟨rfl, hb⟩
 have hx1 := Zab hx0 hb
 have hB1 := hB0.trans (hb.mono hB0.size)
 have hj0 : bj < (w.alloc (Obj.cells #[.slice an d.ns.length cn, .slice ai d.is.length ci, .slice af d.ds.length cf, .int .i64 d.pl, .slice ah d.hs.length ch, .slice al d.ls.length cl, .slice ag d.gs.length cg, .slice ap d.ps.length cp, .int .i64 d.nx, .slice aa d.ga.length ca, .slice ab d.tk.length cb] 50)).heap.size := Nat.lt_of_lt_of_le hbj hB0.size
 have hj1 : bj < w1.heap.size := Nat.lt_of_lt_of_le hj0 hb.size
 replace k1 := (hb.cell (p := ⟨bj, 0, none⟩) hj0).trans k1
 clear hb hx0 hB0 hj0 hbj
 cases hw : Zap d with
 | false =>
  go_wp2_with fail
  refine Zhb w.heap.size bj qj F1 an ai af ah al ag ap aa ab cn ci cf ch cl cg cp ca cb d _ _ hx1 hj1 k1 ?_
  intro u38 u39 u40 u41 u42 u43 u44 u45 u46 u47 W hW
  replace hx1 := Zab hx1 hW
  replace k1 := (hW.cell (p := ⟨bj, 0, none⟩) hj1).trans k1
  replace hj1 := Nat.lt_of_lt_of_le hj1 hW.size
  replace hB1 := hB1.trans (hW.mono hB1.size)
  clear hW
  go_wp2
  go_ret
  exact ⟨retB (by rw [hw]; rfl), hB1⟩
 | true =>
  go_wp2_with fail
  refine Zgk w.heap.size bj qj F1 an ai af ah al ag ap aa ab cn ci cf ch cl cg cp ca cb d _ _ hx1 hj1 k1 hrun1 r1 (fun W hW => HC1 hw W (hB1.trans (hW.mono hB1.size))) ?_
  intro u38 u39 u40 u41 u42 u43 u44 u45 u46 u47 W hW
  replace hx1 := Zab hx1 hW
  replace k1 := (hW.cell (p := ⟨bj, 0, none⟩) hj1).trans k1
  replace hj1 := Nat.lt_of_lt_of_le hj1 hW.size
  replace hB1 := hB1.trans (hW.mono hB1.size)
  clear hW
  go_wp2
  go_ret
  exact ⟨retB (by rw [hw]; rfl), hB1⟩
set_option maxRecDepth 100000 in
set_option maxHeartbeats 3200000 in
theorem Zfq (vn vi vf vh vl vg vp va vt : Value) (d : Wd) (w : World) (R : WR 0 w vn vi vf vh vl vg vp va vt d) (hS : SmW d) (hg : ErrT w) :
  Calls Tryz.prog 12 #[.agg #[vn, vi, vf, .int .i64 d.pl, vh, vl, vg, vp, .int .i64 d.nx, va, vt]] w fun e w' => e = .returned (.bool (Zap d && ordB d)) /\ Below w.heap.size w w' := by
 have R0 := R
 obtain ⟨⟨an, cn, rfl⟩, ⟨ai, ci, rfl⟩, ⟨af, cf, rfl⟩, ⟨ah, ch, rfl⟩, ⟨al, cl, rfl⟩, ⟨ag, cg, rfl⟩, ⟨ap, cp, rfl⟩, ⟨aa, ca, rfl⟩, ⟨ab, cb, rfl⟩⟩ := R.form
 clear R
 have hx0 := heap_alloc_new w (Obj.cells #[.slice an d.ns.length cn, .slice ai d.is.length ci, .slice af d.ds.length cf, .int .i64 d.pl, .slice ah d.hs.length ch, .slice al d.ls.length cl, .slice ag d.gs.length cg, .slice ap d.ps.length cp, .int .i64 d.nx, .slice aa d.ga.length ca, .slice ab d.tk.length cb] 50)
 obtain ⟨hB, hx, hy⟩ := ZaB w (Obj.cells #[.slice an d.ns.length cn, .slice ai d.is.length ci, .slice af d.ds.length cf, .int .i64 d.pl, .slice ah d.hs.length ch, .slice al d.ls.length cl, .slice ag d.gs.length cg, .slice ap d.ps.length cp, .int .i64 d.nx, .slice aa d.ga.length ca, .slice ab d.tk.length cb] 50) (Obj.cells #[.func (.func 42) #[] #[]] 136)
 go_enter Tryz.func12, Tryz.ntmps12
 go_wp2_with (refine wpList_load_row rfl 50 _ rfl w.heap.size rfl 50 #[.slice an d.ns.length cn, .slice ai d.is.length ci, .slice af d.ds.length cf, .int .i64 d.pl, .slice ah d.hs.length ch, .slice al d.ls.length cl, .slice ag d.gs.length cg, .slice ap d.ps.length cp, .int .i64 d.nx, .slice aa d.ga.length ca, .slice ab d.tk.length cb] (0, 0) _ hx0 Tryz.underlying50 rfl Zle ?_)
 refine (Zdu _ _ _ _ _ _ _ _ _ d _ (R0.below hB) hS (hg.below hB (Nat.le_refl _)) (w.heap.size + 1) _ 42 (ordB d) (Zbc hy) (cell_of_row _ _ 0 _ _ _ hy) (Zdy Tryz.func42 (by kernel_rfl) rfl) (fun hw W hW => ZeP _ _ _ _ _ _ _ _ _ d 0 W (R0.below (hB.trans (hW.mono hB.size))) (ZcL hw))).mono ?_
 rintro e w1 ⟨rfl, hb⟩
 replace hB := hB.trans (hb.mono hB.size)
 clear hb hx hy hx0
 go_wp2
 go_ret
 exact ⟨rfl, hB⟩
set_option maxRecDepth 100000 in
set_option maxHeartbeats 3200000 in
theorem Zfh (vn vi vf vh vl vg vp va vt : Value) (d : Wd) (w : World) (R : WR 0 w vn vi vf vh vl vg vp va vt d) (hS : SmW d) (hg : ErrT w) :
  Calls Tryz.prog 17 #[.agg #[vn, vi, vf, .int .i64 d.pl, vh, vl, vg, vp, .int .i64 d.nx, va, vt]] w fun e w' => e = .returned (.bool (Zap d && queB d)) /\ Below w.heap.size w w' := by
 have R0 := R
 obtain ⟨⟨an, cn, rfl⟩, ⟨ai, ci, rfl⟩, ⟨af, cf, rfl⟩, ⟨ah, ch, rfl⟩, ⟨al, cl, rfl⟩, ⟨ag, cg, rfl⟩, ⟨ap, cp, rfl⟩, ⟨aa, ca, rfl⟩, ⟨ab, cb, rfl⟩⟩ := R.form
 clear R
 have hx0 := heap_alloc_new w (Obj.cells #[.slice an d.ns.length cn, .slice ai d.is.length ci, .slice af d.ds.length cf, .int .i64 d.pl, .slice ah d.hs.length ch, .slice al d.ls.length cl, .slice ag d.gs.length cg, .slice ap d.ps.length cp, .int .i64 d.nx, .slice aa d.ga.length ca, .slice ab d.tk.length cb] 50)
 obtain ⟨hB, hx, hy⟩ := ZaB w (Obj.cells #[.slice an d.ns.length cn, .slice ai d.is.length ci, .slice af d.ds.length cf, .int .i64 d.pl, .slice ah d.hs.length ch, .slice al d.ls.length cl, .slice ag d.gs.length cg, .slice ap d.ps.length cp, .int .i64 d.nx, .slice aa d.ga.length ca, .slice ab d.tk.length cb] 50) (Obj.cells #[.func (.func 52) #[] #[]] 136)
 go_enter Tryz.func17, Tryz.ntmps17
 go_wp2_with (refine wpList_load_row rfl 50 _ rfl w.heap.size rfl 50 #[.slice an d.ns.length cn, .slice ai d.is.length ci, .slice af d.ds.length cf, .int .i64 d.pl, .slice ah d.hs.length ch, .slice al d.ls.length cl, .slice ag d.gs.length cg, .slice ap d.ps.length cp, .int .i64 d.nx, .slice aa d.ga.length ca, .slice ab d.tk.length cb] (0, 0) _ hx0 Tryz.underlying50 rfl Zle ?_)
 refine (Zdu _ _ _ _ _ _ _ _ _ d _ (R0.below hB) hS (hg.below hB (Nat.le_refl _)) (w.heap.size + 1) _ 52 (queB d) (Zbc hy) (cell_of_row _ _ 0 _ _ _ hy) (Zdy Tryz.func52 (by kernel_rfl) rfl) (fun hw W hW => Zeg _ _ _ _ _ _ _ _ _ d 0 W (R0.below (hB.trans (hW.mono hB.size))) (ZcL hw))).mono ?_
 rintro e w1 ⟨rfl, hb⟩
 replace hB := hB.trans (hb.mono hB.size)
 clear hb hx hy hx0
 go_wp2
 go_ret
 exact ⟨rfl, hB⟩
end Go.Proofs.YtfmafkebddojjaaGreatDoor
