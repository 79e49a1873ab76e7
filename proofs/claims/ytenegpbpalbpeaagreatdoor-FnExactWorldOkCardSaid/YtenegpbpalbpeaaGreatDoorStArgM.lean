/-
  Texts that stood by themselves, laid into one.
-/
import Derived.Test.YtenegpbpalbpeaaGreatDoorWOkM
import Derived.Test.YtenegpbpalbpeaaGreatDoorNameM
import Derived.ProofKit
import Derived.OpenShut
import Derived.ShutString
import Derived.ChangeOld
import Derived.Below
import Derived.Deep.Slices
import Derived.ChangeSame
import Derived.Test.YtenegpbpalbpeaaGreatDoorPcMarkM
import Derived.Test.YtenegpbpalbpeaaGreatDoorStrsM
/-
  The law FnExactWorldOk, walked: for every world it returns true and writes nothing that was there.
-/
namespace Go.Proofs.YtenegpbpalbpeaaGreatDoor
open Go.RowKit
set_option maxRecDepth 100000 in
set_option maxHeartbeats 6400000 in
theorem worldok_r10 {t0 t2 t3 t4 t6 t7 t8 t9 t10 t11 t12 t13 t14 t15 t16 t17 t18 t19 t20 t21 t22 t23 t24 t25 t26 : Value} {fs : List Deferred} (y0 b0 C : Nat) (yyn aan yyi aai yyf aaf yyh aah yyl aal yyg aag yyp aap yya aaa yyt aat : Option Addr) (zzn ccn zzi cci zzf ccf zzh cch zzl ccl zzg ccg zzp ccp zza cca zzt cct : Nat) (d : Wd) (w : World) (Q : Exit → Act → World → Prop)
    (hy : w.heap[y0]? = some (.cells #[.slice yyn d.ns.length zzn, .slice yyi d.is.length zzi, .slice yyf d.ds.length zzf, .int .i64 d.pl, .slice yyh d.hs.length zzh, .slice yyl d.ls.length zzl, .slice yyg d.gs.length zzg, .slice yyp d.ps.length zzp, .int .i64 d.nx, .slice yya d.ga.length zza, .slice yyt d.tk.length zzt] 50 (0, 0))) (hk : w.heap[b0]? = some (.cells #[.slice aan d.ns.length ccn, .slice aai d.is.length cci, .slice aaf d.ds.length ccf, .int .i64 d.pl, .slice aah d.hs.length cch, .slice aal d.ls.length ccl, .slice aag d.gs.length ccg, .slice aap d.ps.length ccp, .int .i64 d.nx, .slice aaa d.ga.length cca, .slice aat d.tk.length cct] 35 (0, 0))) (E : WR C w (.slice yyn d.ns.length zzn) (.slice yyi d.is.length zzi) (.slice yyf d.ds.length zzf) (.slice yyh d.hs.length zzh) (.slice yyl d.ls.length zzl) (.slice yyg d.gs.length zzg) (.slice yyp d.ps.length zzp) (.slice yya d.ga.length zza) (.slice yyt d.tk.length zzt) d) (R : WR 0 w (.slice aan d.ns.length ccn) (.slice aai d.is.length cci) (.slice aaf d.ds.length ccf) (.slice aah d.hs.length cch) (.slice aal d.ls.length ccl) (.slice aag d.gs.length ccg) (.slice aap d.ps.length ccp) (.slice aaa d.ga.length cca) (.slice aat d.tk.length cct) d) (Sm : SmW d)
    (hQ : ∀ u22 u23 u24 u25 (W : World), Below w.heap.size w W → Q .normal ⟨#[t0, .pointer (some ⟨b0, 0, none⟩), t2, t3, t4, .pointer (some ⟨y0, 0, none⟩), t6, t7, t8, t9, t10, t11, t12, t13, t14, t15, t16, t17, t18, t19, t20, t21, u22, u23, u24, u25, .bool false], fs⟩ W) :
    (Code.region 10 (List.toArray (({ dst := some 22, op := Op.load 50 (Operand.tmp 5), type := 50, pos := "exact.go:4048", after := #[], guard := none } : Oper) :: ({ dst := some 23, op := Op.load 35 (Operand.tmp 1), type := 35, pos := "exact.go:4048", after := #[], guard := none } : Oper) :: ({ dst := some 24, op := Op.call { callee := Callee.value (Operand.func 7), args := #[Operand.tmp 23], argTypes := #[35] }, type := 50, pos := "exact.go:4048", after := #[{ on := 1, ground := Ground.data }], guard := none } : Oper) :: ({ dst := some 25, op := Op.call { callee := Callee.value (Operand.func 9), args := #[Operand.tmp 22, Operand.tmp 24], argTypes := #[50, 50] }, type := 4, pos := "exact.go:4048", after := #[{ on := 0, ground := Ground.data }, { on := 2, ground := Ground.data }, { on := 2, ground := Ground.chain }], guard := none } : Oper) :: ({ dst := some 26, op := Op.unOp UnOp.not 4 (Operand.tmp 25), type := 4, pos := "exact.go:4048", after := #[{ on := 3, ground := Ground.data }], guard := none } : Oper) :: [])) true).wp Tryz.prog Q ⟨#[t0, .pointer (some ⟨b0, 0, none⟩), t2, t3, t4, .pointer (some ⟨y0, 0, none⟩), t6, t7, t8, t9, t10, t11, t12, t13, t14, t15, t16, t17, t18, t19, t20, t21, t22, t23, t24, t25, t26], fs⟩ w := by
  have hS : ∀ w', Below w.heap.size w w' → (w'.heap[y0]? = some (.cells #[.slice yyn d.ns.length zzn, .slice yyi d.is.length zzi, .slice yyf d.ds.length zzf, .int .i64 d.pl, .slice yyh d.hs.length zzh, .slice yyl d.ls.length zzl, .slice yyg d.gs.length zzg, .slice yyp d.ps.length zzp, .int .i64 d.nx, .slice yya d.ga.length zza, .slice yyt d.tk.length zzt] 50 (0, 0)) ∧ w'.heap[b0]? = some (.cells #[.slice aan d.ns.length ccn, .slice aai d.is.length cci, .slice aaf d.ds.length ccf, .int .i64 d.pl, .slice aah d.hs.length cch, .slice aal d.ls.length ccl, .slice aag d.gs.length ccg, .slice aap d.ps.length ccp, .int .i64 d.nx, .slice aaa d.ga.length cca, .slice aat d.tk.length cct] 35 (0, 0))) := fun w' hb => ⟨blk_bel hy hb, blk_bel hk hb⟩
  have B : Below w.heap.size w w.drew := drew_bel w
  refine wp_region_noPanic ?_
  refine wp_region_held_drew (S := fun w' => w'.heap[y0]? = some (.cells #[.slice yyn d.ns.length zzn, .slice yyi d.is.length zzi, .slice yyf d.ds.length zzf, .int .i64 d.pl, .slice yyh d.hs.length zzh, .slice yyl d.ls.length zzl, .slice yyg d.gs.length zzg, .slice yyp d.ps.length zzp, .int .i64 d.nx, .slice yya d.ga.length zza, .slice yyt d.tk.length zzt] 50 (0, 0)) ∧ w'.heap[b0]? = some (.cells #[.slice aan d.ns.length ccn, .slice aai d.is.length cci, .slice aaf d.ds.length ccf, .int .i64 d.pl, .slice aah d.hs.length cch, .slice aal d.ls.length ccl, .slice aag d.gs.length ccg, .slice aap d.ps.length ccp, .int .i64 d.nx, .slice aaa d.ga.length cca, .slice aat d.tk.length cct] 35 (0, 0))) (by kernel_rfl) (hS _ B) (fun hHeld => ?_)
  refine wpAnyH_take (i := 0) (oi := ({ dst := some 22, op := Op.load 50 (Operand.tmp 5), type := 50, pos := "exact.go:4048", after := #[], guard := none } : Oper)) (v := .agg #[.slice yyn d.ns.length zzn, .slice yyi d.is.length zzi, .slice yyf d.ds.length zzf, .int .i64 d.pl, .slice yyh d.hs.length zzh, .slice yyl d.ls.length zzl, .slice yyg d.gs.length zzg, .slice yyp d.ps.length zzp, .int .i64 d.nx, .slice yya d.ga.length zza, .slice yyt d.tk.length zzt]) rfl (by kernel_rfl) (by kernel_rfl) (by kernel_rfl) (fun _ _ _ h => h) (yields_row (by rfl) 50 _ rfl y0 rfl #[.slice yyn d.ns.length zzn, .slice yyi d.is.length zzi, .slice yyf d.ds.length zzf, .int .i64 d.pl, .slice yyh d.hs.length zzh, .slice yyl d.ls.length zzl, .slice yyg d.gs.length zzg, .slice yyp d.ps.length zzp, .int .i64 d.nx, .slice yya d.ga.length zza, .slice yyt d.tk.length zzt] 50 _ (fun _ h => h.1) Tryz.underlying50 rfl Tryz.sizeWd) (by assumption) ?_
  simp only [Act.put, List.setIfInBounds_toArray, List.set_cons_zero, List.set_cons_succ]
  refine wpAnyH_take (i := 1) (oi := ({ dst := some 23, op := Op.load 35 (Operand.tmp 1), type := 35, pos := "exact.go:4048", after := #[], guard := none } : Oper)) (v := .agg #[.slice aan d.ns.length ccn, .slice aai d.is.length cci, .slice aaf d.ds.length ccf, .int .i64 d.pl, .slice aah d.hs.length cch, .slice aal d.ls.length ccl, .slice aag d.gs.length ccg, .slice aap d.ps.length ccp, .int .i64 d.nx, .slice aaa d.ga.length cca, .slice aat d.tk.length cct]) rfl (by kernel_rfl) (by kernel_rfl) (by kernel_rfl) (fun _ _ _ h => h) (yields_row (by rfl) 35 _ rfl b0 rfl #[.slice aan d.ns.length ccn, .slice aai d.is.length cci, .slice aaf d.ds.length ccf, .int .i64 d.pl, .slice aah d.hs.length cch, .slice aal d.ls.length ccl, .slice aag d.gs.length ccg, .slice aap d.ps.length ccp, .int .i64 d.nx, .slice aaa d.ga.length cca, .slice aat d.tk.length cct] 35 _ (fun _ h => h.2) Tryz.underlying35 rfl Tryz.sizeLWd) (by assumption) ?_
  simp only [Act.put, List.setIfInBounds_toArray, List.set_cons_zero, List.set_cons_succ]
  refine wpAnyH_ready (rs := [2]) (by kernel_rfl) (by simp) ?_
  refine AllReadyH.cons rfl (fun K hK => ?_) AllReadyH.nil
  go_simp
  go_wp2_with (go_at_call 7; with_reducible refine (toworld_any _ _ _ _ _ _ _ _ _ d 0 _ (R.below B) Sm).mono ?_; rintro e wA ⟨un, ui, uf, uh, ul, ug, up, ua, ut, rfl, RT, hb⟩)
  replace B := B.trans (hb.mono B.size)
  obtain ⟨⟨ttn, vvn, rfl⟩, ⟨tti, vvi, rfl⟩, ⟨ttf, vvf, rfl⟩, ⟨tth, vvh, rfl⟩, ⟨ttl, vvl, rfl⟩, ⟨ttg, vvg, rfl⟩, ⟨ttp, vvp, rfl⟩, ⟨tta, vva, rfl⟩, ⟨ttt, vvt, rfl⟩⟩ := RT.form
  clear hb
  refine hK.out _ _ (hS _ B) (fun hHeld => ?_)
  clear hK
  refine wpAnyH_ready (rs := [3]) (by kernel_rfl) (by simp) ?_
  refine AllReadyH.cons rfl (fun K hK => ?_) AllReadyH.nil
  go_simp
  go_wp2_with (go_at_call 9; with_reducible refine (eqworld_any _ _ _ _ _ _ _ _ _ _ _ _ _ _ _ _ _ _ d C _ _ (E.below B) RT).mono ?_; rintro e wZ ⟨rfl, hb⟩)
  replace B := B.trans (hb.mono B.size)
  clear hb
  refine hK.out _ _ (hS _ B) (fun hHeld => ?_)
  clear hK
  refine wpAnyH_take (i := 4) (oi := ({ dst := some 26, op := Op.unOp UnOp.not 4 (Operand.tmp 25), type := 4, pos := "exact.go:4048", after := #[{ on := 3, ground := Ground.data }], guard := none } : Oper)) (v := .bool false) rfl (by kernel_rfl) (by kernel_rfl) (by kernel_rfl) (fun _ _ _ h => h) (Or.inl ⟨by rfl, by intro w hSw; go_simp⟩) (by assumption) ?_
  simp only [Act.put, List.setIfInBounds_toArray, List.set_cons_zero, List.set_cons_succ]
  refine wpAnyH_done (by kernel_rfl) ?_ _
  exact NoPanic.normal (hQ _ _ _ _ _ B)
set_option maxRecDepth 100000 in
set_option maxHeartbeats 6400000 in
theorem lworldok_any (vn vi vf vh vl vg vp va vt : Value) (d : Wd) (w : World) (R : WR 0 w vn vi vf vh vl vg vp va vt d) (hg : ErrT w) :
    Calls Tryz.prog 3 #[.agg #[vn, vi, vf, .int .i64 d.pl, vh, vl, vg, vp, .int .i64 d.nx, va, vt]] w fun e w' => e = .returned (.bool true) ∧ Below w.heap.size w w' := by
  obtain ⟨⟨aan, ccn, rfl⟩, ⟨aai, cci, rfl⟩, ⟨aaf, ccf, rfl⟩, ⟨aah, cch, rfl⟩, ⟨aal, ccl, rfl⟩, ⟨aag, ccg, rfl⟩, ⟨aap, ccp, rfl⟩, ⟨aaa, cca, rfl⟩, ⟨aat, cct, rfl⟩⟩ := R.form
  have hB : Below w.heap.size w (w.alloc (Obj.cells #[.slice aan d.ns.length ccn, .slice aai d.is.length cci, .slice aaf d.ds.length ccf, .int .i64 d.pl, .slice aah d.hs.length cch, .slice aal d.ls.length ccl, .slice aag d.gs.length ccg, .slice aap d.ps.length ccp, .int .i64 d.nx, .slice aaa d.ga.length cca, .slice aat d.tk.length cct] 35)) := (Below.refl _ _).alloc (Nat.le_refl _) _
  have hx : (w.alloc (Obj.cells #[.slice aan d.ns.length ccn, .slice aai d.is.length cci, .slice aaf d.ds.length ccf, .int .i64 d.pl, .slice aah d.hs.length cch, .slice aal d.ls.length ccl, .slice aag d.gs.length ccg, .slice aap d.ps.length ccp, .int .i64 d.nx, .slice aaa d.ga.length cca, .slice aat d.tk.length cct] 35)).heap[w.heap.size]? = some (Obj.cells #[.slice aan d.ns.length ccn, .slice aai d.is.length cci, .slice aaf d.ds.length ccf, .int .i64 d.pl, .slice aah d.hs.length cch, .slice aal d.ls.length ccl, .slice aag d.gs.length ccg, .slice aap d.ps.length ccp, .int .i64 d.nx, .slice aaa d.ga.length cca, .slice aat d.tk.length cct] 35) := heap_alloc_new _ _
  go_enter Tryz.func3, Tryz.ntmps3
  go_wp2_with (refine wpList_load_row rfl 35 _ rfl w.heap.size rfl 35 #[.slice aan d.ns.length ccn, .slice aai d.is.length cci, .slice aaf d.ds.length ccf, .int .i64 d.pl, .slice aah d.hs.length cch, .slice aal d.ls.length ccl, .slice aag d.gs.length ccg, .slice aap d.ps.length ccp, .int .i64 d.nx, .slice aaa d.ga.length cca, .slice aat d.tk.length cct] (0, 0) _ hx Tryz.underlying35 rfl Tryz.sizeLWd ?_)
  refine (szworld_any _ _ _ _ _ _ _ _ _ d 0 _ (R.below hB)).mono ?_
  rintro e w1 ⟨r, rfl, h0, h1, h2, hb⟩
  replace hx := blk_bel hx hb
  replace hB := hB.trans (hb.mono hB.size)
  clear hb
  by_cases hr : r < 0
  · go_wp2
    go_ret
    exact ⟨rfl, hB⟩
  · have Sm := h2 (by omega)
    go_wp2_with (refine wpList_load_row rfl 35 _ rfl w.heap.size rfl 35 #[.slice aan d.ns.length ccn, .slice aai d.is.length cci, .slice aaf d.ds.length ccf, .int .i64 d.pl, .slice aah d.hs.length cch, .slice aal d.ls.length ccl, .slice aag d.gs.length ccg, .slice aap d.ps.length ccp, .int .i64 d.nx, .slice aaa d.ga.length cca, .slice aat d.tk.length cct] (0, 0) _ hx Tryz.underlying35 rfl Tryz.sizeLWd ?_)
    refine (toworld_any _ _ _ _ _ _ _ _ _ d 0 _ (R.below hB) Sm).mono ?_
    rintro e w2 ⟨un, ui, uf, uh, ul, ug, up, ua, ut, rfl, RT, hb⟩
    replace hx := blk_bel hx hb
    replace hB := hB.trans (hb.mono hB.size)
    clear hb
    go_wp2_with fail
    refine (sworldok_any _ _ _ _ _ _ _ _ _ d _ _ RT Sm.hh.2).mono ?_
    rintro e w3 ⟨rfl, hb⟩
    replace hx := blk_bel hx hb
    replace hB := hB.trans (hb.mono hB.size)
    clear hb RT
    go_wp2_with (refine wpList_load_row rfl 35 _ rfl w.heap.size rfl 35 #[.slice aan d.ns.length ccn, .slice aai d.is.length cci, .slice aaf d.ds.length ccf, .int .i64 d.pl, .slice aah d.hs.length cch, .slice aal d.ls.length ccl, .slice aag d.gs.length ccg, .slice aap d.ps.length ccp, .int .i64 d.nx, .slice aaa d.ga.length cca, .slice aat d.tk.length cct] (0, 0) _ hx Tryz.underlying35 rfl Tryz.sizeLWd ?_)
    refine (toworld_any _ _ _ _ _ _ _ _ _ d 0 _ (R.below hB) Sm).mono ?_
    rintro e w4 ⟨un, ui, uf, uh, ul, ug, up, ua, ut, rfl, RT, hb⟩
    replace hx := blk_bel hx hb
    replace hB := hB.trans (hb.mono hB.size)
    clear hb
    obtain ⟨⟨yyn, zzn, rfl⟩, ⟨yyi, zzi, rfl⟩, ⟨yyf, zzf, rfl⟩, ⟨yyh, zzh, rfl⟩, ⟨yyl, zzl, rfl⟩, ⟨yyg, zzg, rfl⟩, ⟨yyp, zzp, rfl⟩, ⟨yya, zza, rfl⟩, ⟨yyt, zzt, rfl⟩⟩ := RT.form
    have hb := alloc_bel w4 (Obj.cells #[.slice yyn d.ns.length zzn, .slice yyi d.is.length zzi, .slice yyf d.ds.length zzf, .int .i64 d.pl, .slice yyh d.hs.length zzh, .slice yyl d.ls.length zzl, .slice yyg d.gs.length zzg, .slice yyp d.ps.length zzp, .int .i64 d.nx, .slice yya d.ga.length zza, .slice yyt d.tk.length zzt] 50)
    have hy : (w4.alloc (Obj.cells #[.slice yyn d.ns.length zzn, .slice yyi d.is.length zzi, .slice yyf d.ds.length zzf, .int .i64 d.pl, .slice yyh d.hs.length zzh, .slice yyl d.ls.length zzl, .slice yyg d.gs.length zzg, .slice yyp d.ps.length zzp, .int .i64 d.nx, .slice yya d.ga.length zza, .slice yyt d.tk.length zzt] 50)).heap[w4.heap.size]? = some (Obj.cells #[.slice yyn d.ns.length zzn, .slice yyi d.is.length zzi, .slice yyf d.ds.length zzf, .int .i64 d.pl, .slice yyh d.hs.length zzh, .slice yyl d.ls.length zzl, .slice yyg d.gs.length zzg, .slice yyp d.ps.length zzp, .int .i64 d.nx, .slice yya d.ga.length zza, .slice yyt d.tk.length zzt] 50) := heap_alloc_new _ _
    replace hx := blk_bel hx hb
    replace hB := hB.trans (hb.mono hB.size)
    replace RT := RT.below hb
    clear hb
    obtain ⟨W5, hW5⟩ : ∃ W5, w4.alloc (Obj.cells #[.slice yyn d.ns.length zzn, .slice yyi d.is.length zzi, .slice yyf d.ds.length zzf, .int .i64 d.pl, .slice yyh d.hs.length zzh, .slice yyl d.ls.length zzl, .slice yyg d.gs.length zzg, .slice yyp d.ps.length zzp, .int .i64 d.nx, .slice yya d.ga.length zza, .slice yyt d.tk.length zzt] 50) = W5 := ⟨_, rfl⟩
    rw [hW5] at hx hy hB RT
    go_wp2_with (refine wpList_load_row rfl 50 _ rfl w4.heap.size rfl 50 #[.slice yyn d.ns.length zzn, .slice yyi d.is.length zzi, .slice yyf d.ds.length zzf, .int .i64 d.pl, .slice yyh d.hs.length zzh, .slice yyl d.ls.length zzl, .slice yyg d.gs.length zzg, .slice yyp d.ps.length zzp, .int .i64 d.nx, .slice yya d.ga.length zza, .slice yyt d.tk.length zzt] (0, 0) _ (by first | exact hy | (rw [hW5]; exact hy)) Tryz.underlying50 rfl Tryz.sizeWd ?_)
    first | rw [hW5] | skip
    refine (iworldok_any _ _ _ _ _ _ _ _ _ d _ _ RT Sm.hh.2 (hg.below hB (Nat.le_refl _))).mono ?_
    rintro e w6 ⟨rfl, hb⟩
    replace hx := blk_bel hx hb
    replace hy := blk_bel hy hb
    replace hB := hB.trans (hb.mono hB.size)
    replace RT := RT.below hb
    clear hb hW5
    obtain ⟨q, hq⟩ : ∃ q, worldB d = q := ⟨_, rfl⟩
    rw [hq]
    clear hq
    have hne : (q != q) = false := by simp
    go_wp2_with fail
    refine worldok_r10 w4.heap.size w.heap.size _ yyn aan yyi aai yyf aaf yyh aah yyl aal yyg aag yyp aap yya aaa yyt aat zzn ccn zzi cci zzf ccf zzh cch zzl ccl zzg ccg zzp ccp zza cca zzt cct d w6 _ hy hx RT (R.below hB) Sm ?_
    intro u22 u23 u24 u25 W hW
    replace hB := hB.trans (hW.mono hB.size)
    go_wp2
    go_ret
    exact ⟨rfl, hB⟩
end Go.Proofs.YtenegpbpalbpeaaGreatDoor
/-
  What a pool and a node that came in read as. Nothing of the program; no condition.
-/
namespace Go.Proofs.YtenegpbpalbpeaaGreatDoor
open Go.ChangeShapes Go.WideShapes Go.ChangeAt Go.RowKit Go.Deep
theorem laidOut_true2 : laidOutB Tryz.prog = true := by kernel_rfl
section
variable {H : Type} {enc : TypeId × Value → H} {w : World} {base : Nat} {spare : Nat → Bool} {held : Bool}
set_option maxRecDepth 100000 in
theorem node_cells {fuel : Nat} {cs : List Value} {x : DataW H × List MemPlace} (h : DataW.trod enc Tryz.prog w base spare held fuel 197 cs = some x) :
    ∃ nd : Nd, cs = nd.cs ∧ nd.s.size ≤ maxLen := by
  obtain ⟨xs, n, _, _, hl, hlen, hf⟩ := DataW.trod_struct Tryz.underlying197 h
  rw [show Tryz.prog.cellsOf 197 = 5 by kernel_rfl] at hl
  match cs, hl with
  | [v0, v1, v2, v3, v4], _ =>
    have g0 := hf 0 _ rfl
    have g1 := hf 1 _ rfl
    have g2 := hf 2 _ rfl
    have g3 := hf 3 _ rfl
    have g4 := hf 4 _ rfl
    have i1 : Tryz.prog.cellsOf 3 = 1 := by kernel_rfl
    have i2 : Tryz.prog.cellsOf 9 = 1 := by kernel_rfl
    match xs, hlen with
    | [y0, y1, y2, y3, y4], _ =>
      simp [i1, i2] at g0 g1 g2 g3 g4
      obtain ⟨k, e0, _⟩ := DataW.trod_int Tryz.underlying3 g0
      obtain ⟨m, e1, _⟩ := DataW.trod_int Tryz.underlying3 g1
      obtain ⟨s, e2, _, hs⟩ := DataW.trod_string Tryz.underlying9 g2
      obtain ⟨a, e3, _⟩ := DataW.trod_int Tryz.underlying3 g3
      obtain ⟨b, e4, _⟩ := DataW.trod_int Tryz.underlying3 g4
      simp only [List.cons.injEq, and_true] at e0 e1 e2 e3 e4
      subst e0 e1 e2 e3 e4
      exact ⟨⟨k, m, s, a, b⟩, rfl, hs⟩
end
end Go.Proofs.YtenegpbpalbpeaaGreatDoor
/-
  What a slice of these records that came in reads as. Nothing of the program; no condition.
-/
namespace Go.Proofs.YtenegpbpalbpeaaGreatDoor
open Go.ChangeShapes Go.WideShapes Go.ChangeAt Go.RowKit Go.Deep
section
variable {H : Type} {enc : TypeId × Value → H} {w : World} {base : Nat} {spare : Nat → Bool} {held : Bool}
set_option maxRecDepth 100000 in
theorem pc_cells {fuel : Nat} {cs : List Value} {x : DataW H × List MemPlace} (h : DataW.trod enc Tryz.prog w base spare held fuel 121 cs = some x) :
    ∃ nd : Pc, cs = nd.cs ∧ nd.s.size ≤ maxLen := by
  obtain ⟨xs, n, _, _, hl, hlen, hf⟩ := DataW.trod_struct Tryz.underlying121 h
  rw [show Tryz.prog.cellsOf 121 = 2 by kernel_rfl] at hl
  match cs, hl with
  | [v0, v1], _ =>
    have g0 := hf 0 _ rfl
    have g1 := hf 1 _ rfl
    have i1 : Tryz.prog.cellsOf 3 = 1 := by kernel_rfl
    have i2 : Tryz.prog.cellsOf 9 = 1 := by kernel_rfl
    match xs, hlen with
    | [y0, y1], _ =>
      simp [i1, i2] at g0 g1
      obtain ⟨m0, e0, _⟩ := DataW.trod_int Tryz.underlying3 g0
      obtain ⟨m1, e1, _, hs⟩ := DataW.trod_string Tryz.underlying9 g1
      simp only [List.cons.injEq, and_true] at e0 e1
      subst e0 e1
      exact ⟨⟨m0, m1⟩, rfl, hs⟩
set_option maxRecDepth 100000 in
theorem open_pcs {fuel : Nat} {v' : Value} {y0 : DataW H × List MemPlace} (h0 : DataW.trod enc Tryz.prog w base spare held fuel 116 [v'] = some y0) :
    ∃ xs, PcRow w v' xs := by
  have i5 : Tryz.prog.cellsOf 121 = 2 := by kernel_rfl
  rcases open_slice Tryz.underlying116 h0 with ⟨hcs, _⟩ | ⟨a, len, cap, m, n, D, Pl, hcs, _, hl, hm, hmm, _, hx⟩
  · simp at hcs
    subst hcs
    exact ⟨[], none, 0, rfl, by simp, by simp, by simp, fun h => absurd rfl h⟩
  · simp at hcs
    subst hcs
    have hlm : len ≤ m := by rw [hmm]; split <;> omega
    rw [i5] at hx
    have each : ∀ i, i < m → ∃ nd : Pc, nd.s.size ≤ maxLen ∧ ∀ j, j < 2 → w.cell? (a.add (i * 2 + j)) = nd.cs[j]? := by
      intro i hi
      obtain ⟨cs', h1, h2⟩ := hx i hi
      obtain ⟨nd, rfl, hs⟩ := pc_cells h2
      obtain ⟨_, hlen, hcell⟩ := World.cells?_some h1
      refine ⟨nd, hs, fun j hj => ?_⟩
      have := hcell j (by omega)
      rw [add_add] at this
      rw [this]
    haveI : Inhabited Pc := ⟨zeroPc⟩
    obtain ⟨q, hq⟩ := choose_lt each
    refine ⟨(List.range len).map q, some a, cap, ?_, ?_, ?_, ?_, ?_⟩
    · simp
    · exact ⟨by simp; omega, fun h => by cases h⟩
    · unfold maxLen at hm; simp; omega
    · intro x hx'
      simp at hx'
      obtain ⟨i, hi, rfl⟩ := hx'
      exact (hq i (by omega)).1
    · intro hne
      have hpos : 0 < len := by
        rcases Nat.eq_zero_or_pos len with h0 | h0
        · subst h0; simp at hne
        · exact h0
      obtain ⟨b, off, spot⟩ := a
      have hc := (hq 0 (by omega)).2 0 (by omega)
      simp only [Pc.cs, List.getElem?_cons_zero] at hc
      have hspot : spot = none := by simpa [Addr.add] using World.cell?_spot hc
      subst hspot
      have hb := World.block_lt_of_cell? _ _ hc
      refine ⟨b, off, rfl, by simpa [Addr.add_lit] using hb, fun i x hi => ?_⟩
      have hil : i < len := by
        have := (List.getElem?_eq_some_iff.1 hi).1
        simpa using this
      have hxe : x = q i := by
        rw [List.getElem?_map, List.getElem?_range hil] at hi
        simpa using hi.symm
      subst hxe
      have e : ∀ j, j < 2 → w.cell? ⟨b, off + i * 2 + j, none⟩ = (q i).cs[j]? := fun j hj => by
        have := (hq i (by omega)).2 j hj
        rw [Addr.add_lit] at this
        rw [← this, Nat.add_assoc]
      exact ⟨e 0 (by omega), e 1 (by omega)⟩
end
end Go.Proofs.YtenegpbpalbpeaaGreatDoor
/-
  What a slice of nodes that came in reads as: a list. Nothing of the program; no condition.
-/
namespace Go.Proofs.YtenegpbpalbpeaaGreatDoor
open Go.ChangeShapes Go.WideShapes Go.ChangeAt Go.RowKit Go.Deep
section
variable {H : Type} {enc : TypeId × Value → H} {w : World} {base : Nat} {spare : Nat → Bool} {held : Bool}
set_option maxRecDepth 100000 in
theorem open_nds {fuel : Nat} {v' : Value} {y0 : DataW H × List MemPlace} (h0 : DataW.trod enc Tryz.prog w base spare held fuel 22 [v'] = some y0) :
    ∃ xs, NRow w v' xs := by
  have i5 : Tryz.prog.cellsOf 197 = 5 := by kernel_rfl
  rcases open_slice Tryz.underlying22 h0 with ⟨hcs, _⟩ | ⟨a, len, cap, m, n, D, Pl, hcs, _, hl, hm, hmm, _, hx⟩
  · simp at hcs
    subst hcs
    exact ⟨[], none, 0, rfl, by simp, by simp, by simp, fun h => absurd rfl h⟩
  · simp at hcs
    subst hcs
    have hlm : len ≤ m := by rw [hmm]; split <;> omega
    rw [i5] at hx
    have each : ∀ i, i < m → ∃ nd : Nd, nd.s.size ≤ maxLen ∧ ∀ j, j < 5 → w.cell? (a.add (i * 5 + j)) = nd.cs[j]? := by
      intro i hi
      obtain ⟨cs', h1, h2⟩ := hx i hi
      obtain ⟨nd, rfl, hs⟩ := node_cells h2
      obtain ⟨_, hlen, hcell⟩ := World.cells?_some h1
      refine ⟨nd, hs, fun j hj => ?_⟩
      have := hcell j (by omega)
      rw [add_add] at this
      rw [this]
    haveI : Inhabited Nd := ⟨⟨0, 0, ByteArray.empty, 0, 0⟩⟩
    obtain ⟨q, hq⟩ := choose_lt each
    refine ⟨(List.range len).map q, some a, cap, ?_, ?_, ?_, ?_, ?_⟩
    · simp
    · exact ⟨by simp; omega, fun h => by cases h⟩
    · unfold maxLen at hm; simp; omega
    · intro x hx'
      simp at hx'
      obtain ⟨i, hi, rfl⟩ := hx'
      exact (hq i (by omega)).1
    · intro hne
      have hpos : 0 < len := by
        rcases Nat.eq_zero_or_pos len with h0 | h0
        · subst h0; simp at hne
        · exact h0
      obtain ⟨b, off, spot⟩ := a
      have hc := (hq 0 (by omega)).2 0 (by omega)
      simp only [Nd.cs, List.getElem?_cons_zero] at hc
      have hspot : spot = none := by simpa [Addr.add] using World.cell?_spot hc
      subst hspot
      have hb := World.block_lt_of_cell? _ _ hc
      refine ⟨b, off, rfl, by simpa [Addr.add_lit] using hb, fun i x hi => ?_⟩
      have hil : i < len := by
        have := (List.getElem?_eq_some_iff.1 hi).1
        simpa using this
      have hxe : x = q i := by
        rw [List.getElem?_map, List.getElem?_range hil] at hi
        simpa using hi.symm
      subst hxe
      have e : ∀ j, j < 5 → w.cell? ⟨b, off + i * 5 + j, none⟩ = (q i).cs[j]? := fun j hj => by
        have := (hq i (by omega)).2 j hj
        rw [Addr.add_lit] at this
        rw [← this, Nat.add_assoc]
      exact ⟨e 0 (by omega), e 1 (by omega), e 2 (by omega), e 3 (by omega), e 4 (by omega)⟩
end
end Go.Proofs.YtenegpbpalbpeaaGreatDoor
/-
  What a slice of texts that came in reads as. Nothing of the program; no condition.
-/
namespace Go.Proofs.YtenegpbpalbpeaaGreatDoor
open Go.ChangeShapes Go.WideShapes Go.ChangeAt Go.RowKit Go.Deep
section
variable {H : Type} {enc : TypeId × Value → H} {w : World} {base : Nat} {spare : Nat → Bool} {held : Bool}
set_option maxRecDepth 100000 in
theorem open_strs {fuel : Nat} {v' : Value} {y0 : DataW H × List MemPlace} (h0 : DataW.trod enc Tryz.prog w base spare held fuel 86 [v'] = some y0) :
    ∃ xs, StRow w v' xs := by
  have i5 : Tryz.prog.cellsOf 9 = 1 := by kernel_rfl
  rcases open_slice Tryz.underlying86 h0 with ⟨hcs, _⟩ | ⟨a, len, cap, m, n, D, Pl, hcs, _, hl, hm, hmm, _, hx⟩
  · simp at hcs
    subst hcs
    exact ⟨[], none, 0, rfl, by simp, by simp, by simp, fun h => absurd rfl h⟩
  · simp at hcs
    subst hcs
    have hlm : len ≤ m := by rw [hmm]; split <;> omega
    rw [i5] at hx
    have each : ∀ i, i < m → ∃ s : ByteArray, s.size ≤ maxLen ∧ w.cell? (a.add i) = some (.string s) := by
      intro i hi
      obtain ⟨cs', h1, h2⟩ := hx i hi
      obtain ⟨_, hlen, hcell⟩ := World.cells?_some h1
      obtain ⟨u, rfl⟩ : ∃ u, cs' = [u] := by
        match cs', hlen with
        | [u], _ => exact ⟨u, rfl⟩
      obtain ⟨s, e, _, hs⟩ := DataW.trod_string Tryz.underlying9 h2
      simp only [List.cons.injEq, and_true] at e
      subst e
      have := hcell 0 (by omega)
      rw [add_add] at this
      simp only [Nat.mul_one, Nat.add_zero] at this
      exact ⟨s, hs, by rw [this]; rfl⟩
    obtain ⟨q, hq⟩ := choose_lt each
    refine ⟨(List.range len).map q, some a, cap, ?_, ?_, ?_, ?_, ?_⟩
    · simp
    · exact ⟨by simp; omega, fun h => by cases h⟩
    · unfold maxLen at hm; simp; omega
    · intro x hx'
      simp at hx'
      obtain ⟨i, hi, rfl⟩ := hx'
      exact (hq i (by omega)).1
    · intro hne
      have hpos : 0 < len := by
        rcases Nat.eq_zero_or_pos len with h0 | h0
        · subst h0; simp at hne
        · exact h0
      obtain ⟨b, off, spot⟩ := a
      have hc := (hq 0 (by omega)).2
      have hspot : spot = none := by simpa [Addr.add] using World.cell?_spot hc
      subst hspot
      have hb := World.block_lt_of_cell? _ _ hc
      refine ⟨b, off, rfl, by simpa [Addr.add_lit] using hb, fun i x hi => ?_⟩
      have hil : i < len := by
        have := (List.getElem?_eq_some_iff.1 hi).1
        simpa using this
      have hxe : x = q i := by
        rw [List.getElem?_map, List.getElem?_range hil] at hi
        simpa using hi.symm
      subst hxe
      have := (hq i (by omega)).2
      rwa [Addr.add_lit] at this
end
end Go.Proofs.YtenegpbpalbpeaaGreatDoor
