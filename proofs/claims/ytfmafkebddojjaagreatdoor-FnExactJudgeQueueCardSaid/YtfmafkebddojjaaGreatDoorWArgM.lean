/-
  Texts that stood by themselves, laid into one.
-/
import Derived.Test.YtfmafkebddojjaaGreatDoorJgPM
import Derived.Test.YtfmafkebddojjaaGreatDoorMcTM
import Derived.ProofKit
import Derived.OpenShut
import Derived.ShutString
import Derived.ChangeOld
import Derived.Below
import Derived.Deep.Slices
import Derived.ChangeSame
import Derived.Test.YtfmafkebddojjaaGreatDoorPcMarkM
import Derived.Test.YtfmafkebddojjaaGreatDoorSubM
import Derived.Test.YtfmafkebddojjaaGreatDoorSInstrM
import Derived.Test.YtfmafkebddojjaaGreatDoorSMlRM
/-
  The law FnExactJudgeOrder, walked: for every world it returns true and writes nothing that was there. The variable errors.errorType reads as it is laid.
-/
namespace Go.Proofs.YtfmafkebddojjaaGreatDoor
open Go.RowKit
set_option maxRecDepth 100000 in
set_option maxHeartbeats 6400000 in
theorem ZgI {t0 t2 t3 t4 t6 t7 t8 t9 t10 t11 t12 t13 t14 t15 t16 t17 t18 t19 t20 t21 t22 t23 t24 t25 t26 : Value} {fs : List Deferred} (y0 b0 C : Nat) (yyn aan yyi aai yyf aaf yyh aah yyl aal yyg aag yyp aap yya aaa yyt aat : Option Addr) (zzn ccn zzi cci zzf ccf zzh cch zzl ccl zzg ccg zzp ccp zza cca zzt cct : Nat) (d : Wd) (w : World) (Q : Exit -> Act -> World -> Prop)
  (hy : w.heap[y0]? = some (.cells #[.slice yyn d.ns.length zzn, .slice yyi d.is.length zzi, .slice yyf d.ds.length zzf, .int .i64 d.pl, .slice yyh d.hs.length zzh, .slice yyl d.ls.length zzl, .slice yyg d.gs.length zzg, .slice yyp d.ps.length zzp, .int .i64 d.nx, .slice yya d.ga.length zza, .slice yyt d.tk.length zzt] 50 (0, 0))) (hk : w.heap[b0]? = some (.cells #[.slice aan d.ns.length ccn, .slice aai d.is.length cci, .slice aaf d.ds.length ccf, .int .i64 d.pl, .slice aah d.hs.length cch, .slice aal d.ls.length ccl, .slice aag d.gs.length ccg, .slice aap d.ps.length ccp, .int .i64 d.nx, .slice aaa d.ga.length cca, .slice aat d.tk.length cct] 35 (0, 0))) (E : WR C w (.slice yyn d.ns.length zzn) (.slice yyi d.is.length zzi) (.slice yyf d.ds.length zzf) (.slice yyh d.hs.length zzh) (.slice yyl d.ls.length zzl) (.slice yyg d.gs.length zzg) (.slice yyp d.ps.length zzp) (.slice yya d.ga.length zza) (.slice yyt d.tk.length zzt) d) (R : WR 0 w (.slice aan d.ns.length ccn) (.slice aai d.is.length cci) (.slice aaf d.ds.length ccf) (.slice aah d.hs.length cch) (.slice aal d.ls.length ccl) (.slice aag d.gs.length ccg) (.slice aap d.ps.length ccp) (.slice aaa d.ga.length cca) (.slice aat d.tk.length cct) d) (Sm : SmW d)
  (hQ : ∀ u22 u23 u24 u25 (W : World), Below w.heap.size w W -> Q .normal ⟨#[t0, .pointer (some ⟨b0, 0, none⟩), t2, t3, t4, .pointer (some ⟨y0, 0, none⟩), t6, t7, t8, t9, t10, t11, t12, t13, t14, t15, t16, t17, t18, t19, t20, t21, u22, u23, u24, u25, .bool false], fs⟩ W) :
  (Code.region 10 (List.toArray (⟨some 22, .load 50 (.tmp 5), 50, "exact.go:4271", #[], none⟩ :: ⟨some 23, .load 35 (.tmp 1), 35, "exact.go:4271", #[], none⟩ :: ⟨some 24, .call { callee := .value (.func 11), args := #[.tmp 23], argTypes := #[35] }, 50, "exact.go:4271", #[⟨1, .data⟩], none⟩ :: ⟨some 25, .call { callee := .value (.func 13), args := #[.tmp 22, .tmp 24], argTypes := #[50, 50] }, 4, "exact.go:4271", #[⟨0, .data⟩, ⟨2, .data⟩, ⟨2, .chain⟩], none⟩ :: ⟨some 26, .unOp .not 4 (.tmp 25), 4, "exact.go:4271", #[⟨3, .data⟩], none⟩ :: [])) true).wp Tryz.prog Q ⟨#[t0, .pointer (some ⟨b0, 0, none⟩), t2, t3, t4, .pointer (some ⟨y0, 0, none⟩), t6, t7, t8, t9, t10, t11, t12, t13, t14, t15, t16, t17, t18, t19, t20, t21, t22, t23, t24, t25, t26], fs⟩ w := by
 have hS : ∀ w', Below w.heap.size w w' -> (w'.heap[y0]? = some (.cells #[.slice yyn d.ns.length zzn, .slice yyi d.is.length zzi, .slice yyf d.ds.length zzf, .int .i64 d.pl, .slice yyh d.hs.length zzh, .slice yyl d.ls.length zzl, .slice yyg d.gs.length zzg, .slice yyp d.ps.length zzp, .int .i64 d.nx, .slice yya d.ga.length zza, .slice yyt d.tk.length zzt] 50 (0, 0)) /\ w'.heap[b0]? = some (.cells #[.slice aan d.ns.length ccn, .slice aai d.is.length cci, .slice aaf d.ds.length ccf, .int .i64 d.pl, .slice aah d.hs.length cch, .slice aal d.ls.length ccl, .slice aag d.gs.length ccg, .slice aap d.ps.length ccp, .int .i64 d.nx, .slice aaa d.ga.length cca, .slice aat d.tk.length cct] 35 (0, 0))) := fun w' hb => ⟨Zab hy hb, Zab hk hb⟩
 have B : Below w.heap.size w w.drew := Zax w
 refine wp_region_noPanic ?_
 refine wp_region_held_drew (S := fun w' => w'.heap[y0]? = some (.cells #[.slice yyn d.ns.length zzn, .slice yyi d.is.length zzi, .slice yyf d.ds.length zzf, .int .i64 d.pl, .slice yyh d.hs.length zzh, .slice yyl d.ls.length zzl, .slice yyg d.gs.length zzg, .slice yyp d.ps.length zzp, .int .i64 d.nx, .slice yya d.ga.length zza, .slice yyt d.tk.length zzt] 50 (0, 0)) /\ w'.heap[b0]? = some (.cells #[.slice aan d.ns.length ccn, .slice aai d.is.length cci, .slice aaf d.ds.length ccf, .int .i64 d.pl, .slice aah d.hs.length cch, .slice aal d.ls.length ccl, .slice aag d.gs.length ccg, .slice aap d.ps.length ccp, .int .i64 d.nx, .slice aaa d.ga.length cca, .slice aat d.tk.length cct] 35 (0, 0))) (by kernel_rfl) (hS _ B) (fun hHeld => ?_)
 refine wpAnyH_take (i := 0) (oi := ⟨some 22, .load 50 (.tmp 5), 50, "exact.go:4271", #[], none⟩) (v := .agg #[.slice yyn d.ns.length zzn, .slice yyi d.is.length zzi, .slice yyf d.ds.length zzf, .int .i64 d.pl, .slice yyh d.hs.length zzh, .slice yyl d.ls.length zzl, .slice yyg d.gs.length zzg, .slice yyp d.ps.length zzp, .int .i64 d.nx, .slice yya d.ga.length zza, .slice yyt d.tk.length zzt]) rfl (by kernel_rfl) (by kernel_rfl) (by kernel_rfl) (fun _ _ _ h => h) (ZaJ (by rfl) 50 _ rfl y0 rfl #[.slice yyn d.ns.length zzn, .slice yyi d.is.length zzi, .slice yyf d.ds.length zzf, .int .i64 d.pl, .slice yyh d.hs.length zzh, .slice yyl d.ls.length zzl, .slice yyg d.gs.length zzg, .slice yyp d.ps.length zzp, .int .i64 d.nx, .slice yya d.ga.length zza, .slice yyt d.tk.length zzt] 50 _ (fun _ h => h.1) Tryz.underlying50 rfl Zle) (by assumption) ?_
 simp only [Act.put, sit, sc0, scs]
 refine wpAnyH_take (i := 1) (oi := ⟨some 23, .load 35 (.tmp 1), 35, "exact.go:4271", #[], none⟩) (v := .agg #[.slice aan d.ns.length ccn, .slice aai d.is.length cci, .slice aaf d.ds.length ccf, .int .i64 d.pl, .slice aah d.hs.length cch, .slice aal d.ls.length ccl, .slice aag d.gs.length ccg, .slice aap d.ps.length ccp, .int .i64 d.nx, .slice aaa d.ga.length cca, .slice aat d.tk.length cct]) rfl (by kernel_rfl) (by kernel_rfl) (by kernel_rfl) (fun _ _ _ h => h) (ZaJ (by rfl) 35 _ rfl b0 rfl #[.slice aan d.ns.length ccn, .slice aai d.is.length cci, .slice aaf d.ds.length ccf, .int .i64 d.pl, .slice aah d.hs.length cch, .slice aal d.ls.length ccl, .slice aag d.gs.length ccg, .slice aap d.ps.length ccp, .int .i64 d.nx, .slice aaa d.ga.length cca, .slice aat d.tk.length cct] 35 _ (fun _ h => h.2) Tryz.underlying35 rfl Zk7) (by assumption) ?_
 simp only [Act.put, sit, sc0, scs]
 refine wpAnyH_ready (rs := [2]) (by kernel_rfl) (by simp) ?_
 refine AllReadyH.cons rfl (fun K hK => ?_) AllReadyH.nil
 go_simp
 go_wp2_with (go_at_call 11; with_reducible refine (Za7 _ _ _ _ _ _ _ _ _ d 0 _ (R.below B) Sm).mono ?_; rintro e wA ⟨un, ui, uf, uh, ul, ug, up, ua, ut, rfl, RT, hb⟩)
 replace B := B.trans (hb.mono B.size)
 obtain ⟨⟨ttn, vvn, rfl⟩, ⟨tti, vvi, rfl⟩, ⟨ttf, vvf, rfl⟩, ⟨tth, vvh, rfl⟩, ⟨ttl, vvl, rfl⟩, ⟨ttg, vvg, rfl⟩, ⟨ttp, vvp, rfl⟩, ⟨tta, vva, rfl⟩, ⟨ttt, vvt, rfl⟩⟩ := RT.form
 clear hb
 refine hK.out _ _ (hS _ B) (fun hHeld => ?_)
 clear hK
 refine wpAnyH_ready (rs := [3]) (by kernel_rfl) (by simp) ?_
 refine AllReadyH.cons rfl (fun K hK => ?_) AllReadyH.nil
 go_simp
 go_wp2_with (go_at_call 13; with_reducible refine (Zdd _ _ _ _ _ _ _ _ _ _ _ _ _ _ _ _ _ _ d C _ _ (E.below B) RT).mono ?_; rintro e wZ ⟨rfl, hb⟩)
 replace B := B.trans (hb.mono B.size)
 clear hb
 refine hK.out _ _ (hS _ B) (fun hHeld => ?_)
 clear hK
 refine wpAnyH_take (i := 4) (oi := ⟨some 26, .unOp .not 4 (.tmp 25), 4, "exact.go:4271", #[⟨3, .data⟩], none⟩) (v := .bool false) rfl (by kernel_rfl) (by kernel_rfl) (by kernel_rfl) (fun _ _ _ h => h) (Or.inl ⟨by rfl, by intro w hSw; go_simp⟩) (by assumption) ?_
 simp only [Act.put, sit, sc0, scs]
 refine wpAnyH_done (by kernel_rfl) ?_ _
 exact NoPanic.normal (hQ _ _ _ _ _ B)
set_option maxRecDepth 100000 in
set_option maxHeartbeats 6400000 in
theorem ZfQ (vn vi vf vh vl vg vp va vt : Value) (d : Wd) (w : World) (R : WR 0 w vn vi vf vh vl vg vp va vt d) (hg : ErrT w) :
  Calls Tryz.prog 3 #[.agg #[vn, vi, vf, .int .i64 d.pl, vh, vl, vg, vp, .int .i64 d.nx, va, vt]] w fun e w' => e = .returned (.bool true) /\ Below w.heap.size w w' := by
 obtain ⟨⟨aan, ccn, rfl⟩, ⟨aai, cci, rfl⟩, ⟨aaf, ccf, rfl⟩, ⟨aah, cch, rfl⟩, ⟨aal, ccl, rfl⟩, ⟨aag, ccg, rfl⟩, ⟨aap, ccp, rfl⟩, ⟨aaa, cca, rfl⟩, ⟨aat, cct, rfl⟩⟩ := R.form
 have hB : Below w.heap.size w (w.alloc (Obj.cells #[.slice aan d.ns.length ccn, .slice aai d.is.length cci, .slice aaf d.ds.length ccf, .int .i64 d.pl, .slice aah d.hs.length cch, .slice aal d.ls.length ccl, .slice aag d.gs.length ccg, .slice aap d.ps.length ccp, .int .i64 d.nx, .slice aaa d.ga.length cca, .slice aat d.tk.length cct] 35)) := (Below.refl _ _).alloc (Nat.le_refl _) _
 have hx : (w.alloc (Obj.cells #[.slice aan d.ns.length ccn, .slice aai d.is.length cci, .slice aaf d.ds.length ccf, .int .i64 d.pl, .slice aah d.hs.length cch, .slice aal d.ls.length ccl, .slice aag d.gs.length ccg, .slice aap d.ps.length ccp, .int .i64 d.nx, .slice aaa d.ga.length cca, .slice aat d.tk.length cct] 35)).heap[w.heap.size]? = some (Obj.cells #[.slice aan d.ns.length ccn, .slice aai d.is.length cci, .slice aaf d.ds.length ccf, .int .i64 d.pl, .slice aah d.hs.length cch, .slice aal d.ls.length ccl, .slice aag d.gs.length ccg, .slice aap d.ps.length ccp, .int .i64 d.nx, .slice aaa d.ga.length cca, .slice aat d.tk.length cct] 35) := heap_alloc_new _ _
 go_enter Tryz.func3, Tryz.ntmps3
 go_wp2_with (refine wpList_load_row rfl 35 _ rfl w.heap.size rfl 35 #[.slice aan d.ns.length ccn, .slice aai d.is.length cci, .slice aaf d.ds.length ccf, .int .i64 d.pl, .slice aah d.hs.length cch, .slice aal d.ls.length ccl, .slice aag d.gs.length ccg, .slice aap d.ps.length ccp, .int .i64 d.nx, .slice aaa d.ga.length cca, .slice aat d.tk.length cct] (0, 0) _ hx Tryz.underlying35 rfl Zk7 ?_)
 refine (Zc9 _ _ _ _ _ _ _ _ _ d 0 _ (R.below hB)).mono ?_
 rintro e w1 ⟨r, rfl, h0, h1, h2, hb⟩
 replace hx := Zab hx hb
 replace hB := hB.trans (hb.mono hB.size)
 clear hb
 by_cases hr : r < 0
 ·go_wp2
  go_ret
  exact ⟨rfl, hB⟩
 ·have Sm := h2 (by omega)
  go_wp2_with (refine wpList_load_row rfl 35 _ rfl w.heap.size rfl 35 #[.slice aan d.ns.length ccn, .slice aai d.is.length cci, .slice aaf d.ds.length ccf, .int .i64 d.pl, .slice aah d.hs.length cch, .slice aal d.ls.length ccl, .slice aag d.gs.length ccg, .slice aap d.ps.length ccp, .int .i64 d.nx, .slice aaa d.ga.length cca, .slice aat d.tk.length cct] (0, 0) _ hx Tryz.underlying35 rfl Zk7 ?_)
  refine (Za7 _ _ _ _ _ _ _ _ _ d 0 _ (R.below hB) Sm).mono ?_
  rintro e w2 ⟨un, ui, uf, uh, ul, ug, up, ua, ut, rfl, RT, hb⟩
  replace hx := Zab hx hb
  replace hB := hB.trans (hb.mono hB.size)
  clear hb
  go_wp2_with fail
  refine (Zfe _ _ _ _ _ _ _ _ _ d _ _ RT Sm.hh.2).mono ?_
  rintro e w3 ⟨rfl, hb⟩
  replace hx := Zab hx hb
  replace hB := hB.trans (hb.mono hB.size)
  clear hb RT
  go_wp2_with (refine wpList_load_row rfl 35 _ rfl w.heap.size rfl 35 #[.slice aan d.ns.length ccn, .slice aai d.is.length cci, .slice aaf d.ds.length ccf, .int .i64 d.pl, .slice aah d.hs.length cch, .slice aal d.ls.length ccl, .slice aag d.gs.length ccg, .slice aap d.ps.length ccp, .int .i64 d.nx, .slice aaa d.ga.length cca, .slice aat d.tk.length cct] (0, 0) _ hx Tryz.underlying35 rfl Zk7 ?_)
  refine (Za7 _ _ _ _ _ _ _ _ _ d 0 _ (R.below hB) Sm).mono ?_
  rintro e w4 ⟨un, ui, uf, uh, ul, ug, up, ua, ut, rfl, RT, hb⟩
  replace hx := Zab hx hb
  replace hB := hB.trans (hb.mono hB.size)
  clear hb
  obtain ⟨⟨yyn, zzn, rfl⟩, ⟨yyi, zzi, rfl⟩, ⟨yyf, zzf, rfl⟩, ⟨yyh, zzh, rfl⟩, ⟨yyl, zzl, rfl⟩, ⟨yyg, zzg, rfl⟩, ⟨yyp, zzp, rfl⟩, ⟨yya, zza, rfl⟩, ⟨yyt, zzt, rfl⟩⟩ := RT.form
  have hb := Zam w4 (Obj.cells #[.slice yyn d.ns.length zzn, .slice yyi d.is.length zzi, .slice yyf d.ds.length zzf, .int .i64 d.pl, .slice yyh d.hs.length zzh, .slice yyl d.ls.length zzl, .slice yyg d.gs.length zzg, .slice yyp d.ps.length zzp, .int .i64 d.nx, .slice yya d.ga.length zza, .slice yyt d.tk.length zzt] 50)
  have hy : (w4.alloc (Obj.cells #[.slice yyn d.ns.length zzn, .slice yyi d.is.length zzi, .slice yyf d.ds.length zzf, .int .i64 d.pl, .slice yyh d.hs.length zzh, .slice yyl d.ls.length zzl, .slice yyg d.gs.length zzg, .slice yyp d.ps.length zzp, .int .i64 d.nx, .slice yya d.ga.length zza, .slice yyt d.tk.length zzt] 50)).heap[w4.heap.size]? = some (Obj.cells #[.slice yyn d.ns.length zzn, .slice yyi d.is.length zzi, .slice yyf d.ds.length zzf, .int .i64 d.pl, .slice yyh d.hs.length zzh, .slice yyl d.ls.length zzl, .slice yyg d.gs.length zzg, .slice yyp d.ps.length zzp, .int .i64 d.nx, .slice yya d.ga.length zza, .slice yyt d.tk.length zzt] 50) := heap_alloc_new _ _
  replace hx := Zab hx hb
  replace hB := hB.trans (hb.mono hB.size)
  replace RT := RT.below hb
  clear hb
  obtain ⟨W5, hW5⟩ : ∃ W5, w4.alloc (Obj.cells #[.slice yyn d.ns.length zzn, .slice yyi d.is.length zzi, .slice yyf d.ds.length zzf, .int .i64 d.pl, .slice yyh d.hs.length zzh, .slice yyl d.ls.length zzl, .slice yyg d.gs.length zzg, .slice yyp d.ps.length zzp, .int .i64 d.nx, .slice yya d.ga.length zza, .slice yyt d.tk.length zzt] 50) = W5 := ⟨_, rfl⟩
  rw [hW5] at hx hy hB RT
  go_wp2_with (refine wpList_load_row rfl 50 _ rfl w4.heap.size rfl 50 #[.slice yyn d.ns.length zzn, .slice yyi d.is.length zzi, .slice yyf d.ds.length zzf, .int .i64 d.pl, .slice yyh d.hs.length zzh, .slice yyl d.ls.length zzl, .slice yyg d.gs.length zzg, .slice yyp d.ps.length zzp, .int .i64 d.nx, .slice yya d.ga.length zza, .slice yyt d.tk.length zzt] (0, 0) _ (by first | exact hy | (rw [hW5]; exact hy)) Tryz.underlying50 rfl Zle ?_)
  first | rw [hW5] | skip
  refine (Zfq _ _ _ _ _ _ _ _ _ d _ (RT.mono (Nat.zero_le _)) Sm (hg.below hB (Nat.le_refl _))).mono ?_
  rintro e w6 ⟨rfl, hb⟩
  replace hx := Zab hx hb
  replace hy := Zab hy hb
  replace hB := hB.trans (hb.mono hB.size)
  replace RT := RT.below hb
  clear hb hW5
  obtain ⟨q, hq⟩ : ∃ q, (Zap d && ordB d) = q := ⟨_, rfl⟩
  rw [hq]
  clear hq
  have hne : (q != q) = false := by simp
  go_wp2_with fail
  refine ZgI w4.heap.size w.heap.size _ yyn aan yyi aai yyf aaf yyh aah yyl aal yyg aag yyp aap yya aaa yyt aat zzn ccn zzi cci zzf ccf zzh cch zzl ccl zzg ccg zzp ccp zza cca zzt cct d w6 _ hy hx RT (R.below hB) Sm ?_
  intro u22 u23 u24 u25 W hW
  replace hB := hB.trans (hW.mono hB.size)
  go_wp2
  go_ret
  exact ⟨rfl, hB⟩
end Go.Proofs.YtfmafkebddojjaaGreatDoor
namespace Go.Proofs.YtfmafkebddojjaaGreatDoor
open Go.ChangeShapes Go.WideShapes Go.ChangeAt Go.RowKit Go.Deep
theorem Zcl : laidOutB Tryz.prog = true := by kernel_rfl
section
variable {H : Type} {enc : TypeId × Value -> H} {w : World} {base : Nat} {spare : Nat -> Bool} {held : Bool}
set_option maxRecDepth 100000 in
theorem ZgA {fuel : Nat} {cs : List Value} {x : DataW H × List MemPlace} (h : DataW.trod enc Tryz.prog w base spare held fuel 213 cs = some x) :
  ∃ nd : Nd, cs = nd.cs /\ nd.s.size <= maxLen := by
 obtain ⟨xs, n, _, _, hl, hlen, hf⟩ := DataW.trod_struct Tryz.underlying213 h
 rw [show Tryz.prog.cellsOf 213 = 5 by kernel_rfl] at hl
 match cs, hl with
 | [v0, v1, v2, v3, v4], _ =>
  have g0 := hf 0 _ rfl
  have g1 := hf 1 _ rfl
  have g2 := hf 2 _ rfl
  have g3 := hf 3 _ rfl
  have g4 := hf 4 _ rfl
  have i1 : Tryz.prog.cellsOf 3 = 1 := by kernel_rfl
  have i2 : Tryz.prog.cellsOf 9 = 1 := by kernel_rfl
  match xs, hlen with
  | [y0, y1, y2, y3, y4], _ =>
   simp [i1, i2] at g0 g1 g2 g3 g4
   obtain ⟨k, e0, _⟩ := DataW.trod_int Tryz.underlying3 g0
   obtain ⟨m, e1, _⟩ := DataW.trod_int Tryz.underlying3 g1
   obtain ⟨s, e2, _, hs⟩ := DataW.trod_string Tryz.underlying9 g2
   obtain ⟨a, e3, _⟩ := DataW.trod_int Tryz.underlying3 g3
   obtain ⟨b, e4, _⟩ := DataW.trod_int Tryz.underlying3 g4
   simp only [List.cons.injEq, and_true] at e0 e1 e2 e3 e4
   subst e0 e1 e2 e3 e4
   exact ⟨⟨k, m, s, a, b⟩, rfl, hs⟩
end
section
variable {H : Type} {enc : TypeId × Value -> H} {w : World} {base : Nat} {spare : Nat -> Bool} {held : Bool}
set_option maxRecDepth 100000 in
theorem Zf1 {fuel : Nat} {cs : List Value} {x : DataW H × List MemPlace} (h : DataW.trod enc Tryz.prog w base spare held fuel 117 cs = some x) :
  ∃ nd : Pc, cs = nd.cs /\ nd.s.size <= maxLen := by
 obtain ⟨xs, n, _, _, hl, hlen, hf⟩ := DataW.trod_struct Tryz.underlying117 h
 rw [show Tryz.prog.cellsOf 117 = 2 by kernel_rfl] at hl
 match cs, hl with
 | [v0, v1], _ =>
  have g0 := hf 0 _ rfl
  have g1 := hf 1 _ rfl
  have i1 : Tryz.prog.cellsOf 3 = 1 := by kernel_rfl
  have i2 : Tryz.prog.cellsOf 9 = 1 := by kernel_rfl
  match xs, hlen with
  | [y0, y1], _ =>
   simp [i1, i2] at g0 g1
   obtain ⟨m0, e0, _⟩ := DataW.trod_int Tryz.underlying3 g0
   obtain ⟨m1, e1, _, hs⟩ := DataW.trod_string Tryz.underlying9 g1
   simp only [List.cons.injEq, and_true] at e0 e1
   subst e0 e1
   exact ⟨⟨m0, m1⟩, rfl, hs⟩
set_option maxRecDepth 100000 in
theorem Zjh {fuel : Nat} {v' : Value} {y0 : DataW H × List MemPlace} (h0 : DataW.trod enc Tryz.prog w base spare held fuel 113 [v'] = some y0) :
  ∃ xs, PcRow w v' xs := by
 have i5 : Tryz.prog.cellsOf 117 = 2 := by kernel_rfl
 rcases open_slice Tryz.underlying113 h0 with ⟨hcs, _⟩ | ⟨a, len, cap, m, n, D, Pl, hcs, _, hl, hm, hmm, _, hx⟩
 ·simp at hcs
  subst hcs
  exact ⟨[], none, 0, rfl, by simp, by simp, by simp, fun h => absurd rfl h⟩
 ·simp at hcs
  subst hcs
  have hlm : len <= m := by rw [hmm]; split <;> omega
  rw [i5] at hx
  have each : ∀ i, i < m -> ∃ nd : Pc, nd.s.size <= maxLen /\ ∀ j, j < 2 -> w.cell? (a.add (i * 2 + j)) = nd.cs[j]? := by
   intro i hi
   obtain ⟨cs', h1, h2⟩ := hx i hi
   obtain ⟨nd, rfl, hs⟩ := Zf1 h2
   obtain ⟨_, hlen, hcell⟩ := World.cells?_some h1
   refine ⟨nd, hs, fun j hj => ?_⟩
   have := hcell j (by omega)
   rw [add_add] at this
   rw [this]
  haveI : Inhabited Pc := ⟨Zew⟩
  obtain ⟨q, hq⟩ := choose_lt each
  refine ⟨(List.range len).map q, some a, cap, ?_, ?_, ?_, ?_, ?_⟩
  ·simp
  ·exact ⟨by simp; omega, fun h => by cases h⟩
  ·unfold maxLen at hm; simp; omega
  ·intro x hx'
   simp at hx'
   obtain ⟨i, hi, rfl⟩ := hx'
   exact (hq i (by omega)).1
  ·intro hne
   have hpos : 0 < len := by
    rcases Nat.eq_zero_or_pos len with h0 | h0
    ·subst h0; simp at hne
    ·exact h0
   obtain ⟨b, off, spot⟩ := a
   have hc := (hq 0 (by omega)).2 0 (by omega)
   simp only [Pc.cs, List.getElem?_cons_zero] at hc
   have hspot : spot = none := by simpa [Addr.add] using World.cell?_spot hc
   subst hspot
   have hb := World.block_lt_of_cell? _ _ hc
   refine ⟨b, off, rfl, by simpa [Addr.add_lit] using hb, fun i x hi => ?_⟩
   have hil : i < len := by
    have := (List.getElem?_eq_some_iff.1 hi).1
    simpa using this
   have hxe : x = q i := by
    rw [List.getElem?_map, List.getElem?_range hil] at hi
    simpa using hi.symm
   subst hxe
   have e : ∀ j, j < 2 -> w.cell? ⟨b, off + i * 2 + j, none⟩ = (q i).cs[j]? := fun j hj => by
    have := (hq i (by omega)).2 j hj
    rw [Addr.add_lit] at this
    rw [<- this, Nat.add_assoc]
   exact ⟨e 0 (by omega), e 1 (by omega)⟩
end
section
variable {H : Type} {enc : TypeId × Value -> H} {w : World} {base : Nat} {spare : Nat -> Bool} {held : Bool}
set_option maxRecDepth 100000 in
theorem Zf9 {fuel : Nat} {v' : Value} {y0 : DataW H × List MemPlace} (h0 : DataW.trod enc Tryz.prog w base spare held fuel 22 [v'] = some y0) :
  ∃ xs, NRow w v' xs := by
 have i5 : Tryz.prog.cellsOf 213 = 5 := by kernel_rfl
 rcases open_slice Tryz.underlying22 h0 with ⟨hcs, _⟩ | ⟨a, len, cap, m, n, D, Pl, hcs, _, hl, hm, hmm, _, hx⟩
 ·simp at hcs
  subst hcs
  exact ⟨[], none, 0, rfl, by simp, by simp, by simp, fun h => absurd rfl h⟩
 ·simp at hcs
  subst hcs
  have hlm : len <= m := by rw [hmm]; split <;> omega
  rw [i5] at hx
  have each : ∀ i, i < m -> ∃ nd : Nd, nd.s.size <= maxLen /\ ∀ j, j < 5 -> w.cell? (a.add (i * 5 + j)) = nd.cs[j]? := by
   intro i hi
   obtain ⟨cs', h1, h2⟩ := hx i hi
   obtain ⟨nd, rfl, hs⟩ := ZgA h2
   obtain ⟨_, hlen, hcell⟩ := World.cells?_some h1
   refine ⟨nd, hs, fun j hj => ?_⟩
   have := hcell j (by omega)
   rw [add_add] at this
   rw [this]
  haveI : Inhabited Nd := ⟨⟨0, 0, ByteArray.empty, 0, 0⟩⟩
  obtain ⟨q, hq⟩ := choose_lt each
  refine ⟨(List.range len).map q, some a, cap, ?_, ?_, ?_, ?_, ?_⟩
  ·simp
  ·exact ⟨by simp; omega, fun h => by cases h⟩
  ·unfold maxLen at hm; simp; omega
  ·intro x hx'
   simp at hx'
   obtain ⟨i, hi, rfl⟩ := hx'
   exact (hq i (by omega)).1
  ·intro hne
   have hpos : 0 < len := by
    rcases Nat.eq_zero_or_pos len with h0 | h0
    ·subst h0; simp at hne
    ·exact h0
   obtain ⟨b, off, spot⟩ := a
   have hc := (hq 0 (by omega)).2 0 (by omega)
   simp only [Nd.cs, List.getElem?_cons_zero] at hc
   have hspot : spot = none := by simpa [Addr.add] using World.cell?_spot hc
   subst hspot
   have hb := World.block_lt_of_cell? _ _ hc
   refine ⟨b, off, rfl, by simpa [Addr.add_lit] using hb, fun i x hi => ?_⟩
   have hil : i < len := by
    have := (List.getElem?_eq_some_iff.1 hi).1
    simpa using this
   have hxe : x = q i := by
    rw [List.getElem?_map, List.getElem?_range hil] at hi
    simpa using hi.symm
   subst hxe
   have e : ∀ j, j < 5 -> w.cell? ⟨b, off + i * 5 + j, none⟩ = (q i).cs[j]? := fun j hj => by
    have := (hq i (by omega)).2 j hj
    rw [Addr.add_lit] at this
    rw [<- this, Nat.add_assoc]
   exact ⟨e 0 (by omega), e 1 (by omega), e 2 (by omega), e 3 (by omega), e 4 (by omega)⟩
end
section
variable {H : Type} {enc : TypeId × Value -> H} {w : World} {base : Nat} {spare : Nat -> Bool} {held : Bool}
set_option maxRecDepth 100000 in
theorem ZbP {fuel : Nat} {v' : Value} {y0 : DataW H × List MemPlace} (h0 : DataW.trod enc Tryz.prog w base spare held fuel 54 [v'] = some y0) :
  ∃ xs, StRow w v' xs := by
 have i5 : Tryz.prog.cellsOf 9 = 1 := by kernel_rfl
 rcases open_slice Tryz.underlying54 h0 with ⟨hcs, _⟩ | ⟨a, len, cap, m, n, D, Pl, hcs, _, hl, hm, hmm, _, hx⟩
 ·simp at hcs
  subst hcs
  exact ⟨[], none, 0, rfl, by simp, by simp, by simp, fun h => absurd rfl h⟩
 ·simp at hcs
  subst hcs
  have hlm : len <= m := by rw [hmm]; split <;> omega
  rw [i5] at hx
  have each : ∀ i, i < m -> ∃ s : ByteArray, s.size <= maxLen /\ w.cell? (a.add i) = some (.string s) := by
   intro i hi
   obtain ⟨cs', h1, h2⟩ := hx i hi
   obtain ⟨_, hlen, hcell⟩ := World.cells?_some h1
   obtain ⟨u, rfl⟩ : ∃ u, cs' = [u] := by
    match cs', hlen with
    | [u], _ => exact ⟨u, rfl⟩
   obtain ⟨s, e, _, hs⟩ := DataW.trod_string Tryz.underlying9 h2
   simp only [List.cons.injEq, and_true] at e
   subst e
   have := hcell 0 (by omega)
   rw [add_add] at this
   simp only [Nat.mul_one, Nat.add_zero] at this
   exact ⟨s, hs, by rw [this]; rfl⟩
  obtain ⟨q, hq⟩ := choose_lt each
  refine ⟨(List.range len).map q, some a, cap, ?_, ?_, ?_, ?_, ?_⟩
  ·simp
  ·exact ⟨by simp; omega, fun h => by cases h⟩
  ·unfold maxLen at hm; simp; omega
  ·intro x hx'
   simp at hx'
   obtain ⟨i, hi, rfl⟩ := hx'
   exact (hq i (by omega)).1
  ·intro hne
   have hpos : 0 < len := by
    rcases Nat.eq_zero_or_pos len with h0 | h0
    ·subst h0; simp at hne
    ·exact h0
   obtain ⟨b, off, spot⟩ := a
   have hc := (hq 0 (by omega)).2
   have hspot : spot = none := by simpa [Addr.add] using World.cell?_spot hc
   subst hspot
   have hb := World.block_lt_of_cell? _ _ hc
   refine ⟨b, off, rfl, by simpa [Addr.add_lit] using hb, fun i x hi => ?_⟩
   have hil : i < len := by
    have := (List.getElem?_eq_some_iff.1 hi).1
    simpa using this
   have hxe : x = q i := by
    rw [List.getElem?_map, List.getElem?_range hil] at hi
    simpa using hi.symm
   subst hxe
   have := (hq i (by omega)).2
   rwa [Addr.add_lit] at this
end
section
variable {H : Type} {enc : TypeId × Value -> H} {w : World} {base : Nat} {spare : Nat -> Bool} {held : Bool}
set_option maxRecDepth 100000 in
set_option maxHeartbeats 1600000 in
theorem ZgM {fuel : Nat} {v0 v1 v2 v3 v4 v5 v6 v7 : Value} {x : DataW H × List MemPlace} (hf : DataW.trod enc Tryz.prog w base spare held fuel 107 [v0, v1, v2, v3, v4, v5, v6, v7] = some x) :
  ∃ xs, ∃ m : Mc, v1 = .int .i64 m.p /\ v2 = .int .i64 m.s /\ v3 = .int .i64 m.e /\ v4 = .int .i64 m.d /\ v5 = .int .i64 m.t /\ v6 = .int .i64 m.q /\ v7 = .int .i64 m.r /\ NRow w v0 xs := by
 obtain ⟨xs, n, _, _, hl, hlen, hff⟩ := DataW.trod_struct Tryz.underlying107 hf
 have g0 := hff 0 _ rfl
 have g1 := hff 1 _ rfl
 have g2 := hff 2 _ rfl
 have g3 := hff 3 _ rfl
 have g4 := hff 4 _ rfl
 have g5 := hff 5 _ rfl
 have g6 := hff 6 _ rfl
 have g7 := hff 7 _ rfl
 have i0 : Tryz.prog.cellsOf 24 = 1 := by kernel_rfl
 have i1 : Tryz.prog.cellsOf 3 = 1 := by kernel_rfl
 match xs, hlen with
 | [y0, y1, y2, y3, y4, y5, y6, y7], _ =>
  simp [i0, i1] at g0 g1 g2 g3 g4 g5 g6 g7
  obtain ⟨m1, e1, _⟩ := DataW.trod_int Tryz.underlying3 g1
  obtain ⟨m2, e2, _⟩ := DataW.trod_int Tryz.underlying3 g2
  obtain ⟨m3, e3, _⟩ := DataW.trod_int Tryz.underlying3 g3
  obtain ⟨m4, e4, _⟩ := DataW.trod_int Tryz.underlying3 g4
  obtain ⟨m5, e5, _⟩ := DataW.trod_int Tryz.underlying3 g5
  obtain ⟨m6, e6, _⟩ := DataW.trod_int Tryz.underlying3 g6
  obtain ⟨m7, e7, _⟩ := DataW.trod_int Tryz.underlying3 g7
  simp only [List.cons.injEq, and_true] at e1 e2 e3 e4 e5 e6 e7
  subst e1 e2 e3 e4 e5 e6 e7
  obtain ⟨z0, n', _, _, h0⟩ := trod_struct1 Tryz.underlying24 g0
  have i3 : Tryz.prog.cellsOf 22 = 1 := by kernel_rfl
  simp [i3] at h0
  obtain ⟨ns, R1⟩ := Zf9 h0
  exact ⟨ns, ⟨m1, m2, m3, m4, m5, m6, m7⟩, rfl, rfl, rfl, rfl, rfl, rfl, rfl, R1⟩
end
section
variable {H : Type} {enc : TypeId × Value -> H} {w : World} {base : Nat} {spare : Nat -> Bool} {held : Bool}
set_option maxRecDepth 100000 in
theorem Zjp {fuel : Nat} {cs : List Value} {x : DataW H × List MemPlace} (h : DataW.trod enc Tryz.prog w base spare held fuel 168 cs = some x) :
  ∃ nd : In, cs = nd.cs /\ nd.s.size <= maxLen := by
 obtain ⟨xs, n, _, _, hl, hlen, hf⟩ := DataW.trod_struct Tryz.underlying168 h
 rw [show Tryz.prog.cellsOf 168 = 4 by kernel_rfl] at hl
 match cs, hl with
 | [v0, v1, v2, v3], _ =>
  have g0 := hf 0 _ rfl
  have g1 := hf 1 _ rfl
  have g2 := hf 2 _ rfl
  have g3 := hf 3 _ rfl
  have i1 : Tryz.prog.cellsOf 3 = 1 := by kernel_rfl
  have i2 : Tryz.prog.cellsOf 9 = 1 := by kernel_rfl
  match xs, hlen with
  | [y0, y1, y2, y3], _ =>
   simp [i1, i2] at g0 g1 g2 g3
   obtain ⟨m0, e0, _⟩ := DataW.trod_int Tryz.underlying3 g0
   obtain ⟨m1, e1, _⟩ := DataW.trod_int Tryz.underlying3 g1
   obtain ⟨m2, e2, _⟩ := DataW.trod_int Tryz.underlying3 g2
   obtain ⟨m3, e3, _, hs⟩ := DataW.trod_string Tryz.underlying9 g3
   simp only [List.cons.injEq, and_true] at e0 e1 e2 e3
   subst e0 e1 e2 e3
   exact ⟨⟨m0, m1, m2, m3⟩, rfl, hs⟩
set_option maxRecDepth 100000 in
theorem ZiY {fuel : Nat} {v' : Value} {y0 : DataW H × List MemPlace} (h0 : DataW.trod enc Tryz.prog w base spare held fuel 25 [v'] = some y0) :
  ∃ xs, InRow w v' xs := by
 have i5 : Tryz.prog.cellsOf 168 = 4 := by kernel_rfl
 rcases open_slice Tryz.underlying25 h0 with ⟨hcs, _⟩ | ⟨a, len, cap, m, n, D, Pl, hcs, _, hl, hm, hmm, _, hx⟩
 ·simp at hcs
  subst hcs
  exact ⟨[], none, 0, rfl, by simp, by simp, by simp, fun h => absurd rfl h⟩
 ·simp at hcs
  subst hcs
  have hlm : len <= m := by rw [hmm]; split <;> omega
  rw [i5] at hx
  have each : ∀ i, i < m -> ∃ nd : In, nd.s.size <= maxLen /\ ∀ j, j < 4 -> w.cell? (a.add (i * 4 + j)) = nd.cs[j]? := by
   intro i hi
   obtain ⟨cs', h1, h2⟩ := hx i hi
   obtain ⟨nd, rfl, hs⟩ := Zjp h2
   obtain ⟨_, hlen, hcell⟩ := World.cells?_some h1
   refine ⟨nd, hs, fun j hj => ?_⟩
   have := hcell j (by omega)
   rw [add_add] at this
   rw [this]
  haveI : Inhabited In := ⟨Zfb⟩
  obtain ⟨q, hq⟩ := choose_lt each
  refine ⟨(List.range len).map q, some a, cap, ?_, ?_, ?_, ?_, ?_⟩
  ·simp
  ·exact ⟨by simp; omega, fun h => by cases h⟩
  ·unfold maxLen at hm; simp; omega
  ·intro x hx'
   simp at hx'
   obtain ⟨i, hi, rfl⟩ := hx'
   exact (hq i (by omega)).1
  ·intro hne
   have hpos : 0 < len := by
    rcases Nat.eq_zero_or_pos len with h0 | h0
    ·subst h0; simp at hne
    ·exact h0
   obtain ⟨b, off, spot⟩ := a
   have hc := (hq 0 (by omega)).2 0 (by omega)
   simp only [In.cs, List.getElem?_cons_zero] at hc
   have hspot : spot = none := by simpa [Addr.add] using World.cell?_spot hc
   subst hspot
   have hb := World.block_lt_of_cell? _ _ hc
   refine ⟨b, off, rfl, by simpa [Addr.add_lit] using hb, fun i x hi => ?_⟩
   have hil : i < len := by
    have := (List.getElem?_eq_some_iff.1 hi).1
    simpa using this
   have hxe : x = q i := by
    rw [List.getElem?_map, List.getElem?_range hil] at hi
    simpa using hi.symm
   subst hxe
   have e : ∀ j, j < 4 -> w.cell? ⟨b, off + i * 4 + j, none⟩ = (q i).cs[j]? := fun j hj => by
    have := (hq i (by omega)).2 j hj
    rw [Addr.add_lit] at this
    rw [<- this, Nat.add_assoc]
   exact ⟨e 0 (by omega), e 1 (by omega), e 2 (by omega), e 3 (by omega)⟩
end
section
variable {H : Type} {enc : TypeId × Value -> H} {w : World} {base : Nat} {spare : Nat -> Bool} {held : Bool}
set_option maxRecDepth 100000 in
theorem Zi9 {fuel : Nat} {cs : List Value} {x : DataW H × List MemPlace} (h : DataW.trod enc Tryz.prog w base spare held fuel 171 cs = some x) :
  ∃ nd : Df, cs = nd.cs /\ nd.s.size <= maxLen := by
 obtain ⟨xs, n, _, _, hl, hlen, hf⟩ := DataW.trod_struct Tryz.underlying171 h
 rw [show Tryz.prog.cellsOf 171 = 3 by kernel_rfl] at hl
 match cs, hl with
 | [v0, v1, v2], _ =>
  have g0 := hf 0 _ rfl
  have g1 := hf 1 _ rfl
  have g2 := hf 2 _ rfl
  have i1 : Tryz.prog.cellsOf 3 = 1 := by kernel_rfl
  have i2 : Tryz.prog.cellsOf 9 = 1 := by kernel_rfl
  match xs, hlen with
  | [y0, y1, y2], _ =>
   simp [i1, i2] at g0 g1 g2
   obtain ⟨m0, e0, _, hs⟩ := DataW.trod_string Tryz.underlying9 g0
   obtain ⟨m1, e1, _⟩ := DataW.trod_int Tryz.underlying3 g1
   obtain ⟨m2, e2, _⟩ := DataW.trod_int Tryz.underlying3 g2
   simp only [List.cons.injEq, and_true] at e0 e1 e2
   subst e0 e1 e2
   exact ⟨⟨m0, m1, m2⟩, rfl, hs⟩
set_option maxRecDepth 100000 in
theorem Zi6 {fuel : Nat} {v' : Value} {y0 : DataW H × List MemPlace} (h0 : DataW.trod enc Tryz.prog w base spare held fuel 26 [v'] = some y0) :
  ∃ xs, DfRow w v' xs := by
 have i5 : Tryz.prog.cellsOf 171 = 3 := by kernel_rfl
 rcases open_slice Tryz.underlying26 h0 with ⟨hcs, _⟩ | ⟨a, len, cap, m, n, D, Pl, hcs, _, hl, hm, hmm, _, hx⟩
 ·simp at hcs
  subst hcs
  exact ⟨[], none, 0, rfl, by simp, by simp, by simp, fun h => absurd rfl h⟩
 ·simp at hcs
  subst hcs
  have hlm : len <= m := by rw [hmm]; split <;> omega
  rw [i5] at hx
  have each : ∀ i, i < m -> ∃ nd : Df, nd.s.size <= maxLen /\ ∀ j, j < 3 -> w.cell? (a.add (i * 3 + j)) = nd.cs[j]? := by
   intro i hi
   obtain ⟨cs', h1, h2⟩ := hx i hi
   obtain ⟨nd, rfl, hs⟩ := Zi9 h2
   obtain ⟨_, hlen, hcell⟩ := World.cells?_some h1
   refine ⟨nd, hs, fun j hj => ?_⟩
   have := hcell j (by omega)
   rw [add_add] at this
   rw [this]
  haveI : Inhabited Df := ⟨Zey⟩
  obtain ⟨q, hq⟩ := choose_lt each
  refine ⟨(List.range len).map q, some a, cap, ?_, ?_, ?_, ?_, ?_⟩
  ·simp
  ·exact ⟨by simp; omega, fun h => by cases h⟩
  ·unfold maxLen at hm; simp; omega
  ·intro x hx'
   simp at hx'
   obtain ⟨i, hi, rfl⟩ := hx'
   exact (hq i (by omega)).1
  ·intro hne
   have hpos : 0 < len := by
    rcases Nat.eq_zero_or_pos len with h0 | h0
    ·subst h0; simp at hne
    ·exact h0
   obtain ⟨b, off, spot⟩ := a
   have hc := (hq 0 (by omega)).2 0 (by omega)
   simp only [Df.cs, List.getElem?_cons_zero] at hc
   have hspot : spot = none := by simpa [Addr.add] using World.cell?_spot hc
   subst hspot
   have hb := World.block_lt_of_cell? _ _ hc
   refine ⟨b, off, rfl, by simpa [Addr.add_lit] using hb, fun i x hi => ?_⟩
   have hil : i < len := by
    have := (List.getElem?_eq_some_iff.1 hi).1
    simpa using this
   have hxe : x = q i := by
    rw [List.getElem?_map, List.getElem?_range hil] at hi
    simpa using hi.symm
   subst hxe
   have e : ∀ j, j < 3 -> w.cell? ⟨b, off + i * 3 + j, none⟩ = (q i).cs[j]? := fun j hj => by
    have := (hq i (by omega)).2 j hj
    rw [Addr.add_lit] at this
    rw [<- this, Nat.add_assoc]
   exact ⟨e 0 (by omega), e 1 (by omega), e 2 (by omega)⟩
end
section
variable {H : Type} {enc : TypeId × Value -> H} {w : World} {base : Nat} {spare : Nat -> Bool} {held : Bool}
set_option maxRecDepth 100000 in
theorem ZdM {α : Type} [Inhabited α] {T t : TypeId} {k : Nat} (hT : Tryz.prog.underlying T = some (.slice t)) (hk : Tryz.prog.cellsOf t = k) (hk0 : 0 < k) {E : Nat -> World -> List Value -> α -> Prop}
  (hE : ∀ (fuel : Nat) (cs : List Value) (y : DataW H × List MemPlace), DataW.trod enc Tryz.prog w base spare held fuel t cs = some y -> ∃ x, cs.length = k /\ E 0 w cs x)
  {fuel : Nat} {v' : Value} {y0 : DataW H × List MemPlace} (h0 : DataW.trod enc Tryz.prog w base spare held fuel T [v'] = some y0) : ∃ xs, XRow 0 k E w v' xs := by
 rcases open_slice hT h0 with ⟨hcs, _⟩ | ⟨a, len, cap, m, n, D, Pl, hcs, _, hl, hm, hmm, _, hx⟩
 ·simp at hcs
  subst hcs
  exact ⟨[], none, 0, rfl, by simp, by simp, fun h => absurd rfl h⟩
 ·simp at hcs
  subst hcs
  have hlm : len <= m := by rw [hmm]; split <;> omega
  rw [hk] at hx
  have each : ∀ i, i < m -> ∃ q : List Value × α, (q.1.length = k /\ E 0 w q.1 q.2) /\ ∀ j, j < k -> w.cell? (a.add (i * k + j)) = q.1[j]? := by
   intro i hi
   obtain ⟨cs', h1, h2⟩ := hx i hi
   obtain ⟨x, hl, he⟩ := hE _ _ _ h2
   obtain ⟨_, hlen, hcell⟩ := World.cells?_some h1
   refine ⟨(cs', x), ⟨hl, he⟩, fun j hj => ?_⟩
   have := hcell j (by omega)
   rw [add_add] at this
   rw [this]
  obtain ⟨q, hq⟩ := choose_lt each
  refine ⟨(List.range len).map fun i => (q i).2, some a, cap, ?_, ?_, ?_, ?_⟩
  ·simp
  ·exact ⟨by simp; omega, fun h => by cases h⟩
  ·unfold maxLen at hm; simp; omega
  ·intro hne
   have hpos : 0 < len := by
    rcases Nat.eq_zero_or_pos len with h0 | h0
    ·subst h0; simp at hne
    ·exact h0
   obtain ⟨b, off, spot⟩ := a
   obtain ⟨⟨hl0, _⟩, hc0⟩ := hq 0 (by omega)
   have hc := hc0 0 hk0
   obtain ⟨u0, hu0⟩ : ∃ u, (q 0).1[0]? = some u := ⟨_, List.getElem?_eq_getElem (by omega)⟩
   rw [hu0] at hc
   have hspot : spot = none := by simpa [Addr.add] using World.cell?_spot hc
   subst hspot
   have hb := World.block_lt_of_cell? _ _ hc
   refine ⟨b, off, rfl, Nat.zero_le _, by simpa [Addr.add_lit] using hb, fun i x hi => ?_⟩
   have hil : i < len := by
    have := (List.getElem?_eq_some_iff.1 hi).1
    simpa using this
   have hxe : x = (q i).2 := by
    rw [List.getElem?_map, List.getElem?_range hil] at hi
    simpa using hi.symm
   subst hxe
   obtain ⟨⟨h1, h2⟩, h3⟩ := hq i (by omega)
   refine ⟨(q i).1, h1, fun j u hj => ?_, h2⟩
   have hjk : j < k := by have := (List.getElem?_eq_some_iff.1 hj).1; omega
   have := h3 j hjk
   rw [Addr.add_lit] at this
   rw [Nat.add_assoc, this]
   exact hj
set_option maxRecDepth 100000 in
set_option maxHeartbeats 1600000 in
theorem ZgZ (fuel : Nat) (cs : List Value) (y : DataW H × List MemPlace) (hf : DataW.trod enc Tryz.prog w base spare held fuel 111 cs = some y) : ∃ h : Hm, cs.length = 12 /\ EH 0 w cs h := by
 obtain ⟨xs, n, _, _, hl, hlen, hff⟩ := DataW.trod_struct Tryz.underlying111 hf
 rw [show Tryz.prog.cellsOf 111 = 12 by kernel_rfl] at hl
 match cs, hl with
 | [v0, v1, v2, v3, v4, v5, v6, v7, v8, v9, v10, v11], _ =>
  have g0 := hff 0 _ rfl
  have g1 := hff 1 _ rfl
  have i0 : Tryz.prog.cellsOf 3 = 1 := by kernel_rfl
  have i1 : Tryz.prog.cellsOf 109 = 11 := by kernel_rfl
  match xs, hlen with
  | [y0, y1], _ =>
   simp [i0, i1] at g0 g1
   obtain ⟨m0, e0, _⟩ := DataW.trod_int Tryz.underlying3 g0
   simp only [List.cons.injEq, and_true] at e0
   subst e0
   obtain ⟨xs, n, _, _, hl, hlen, hff⟩ := DataW.trod_struct Tryz.underlying109 g1
   have k0 := hff 0 _ rfl
   have k1 := hff 1 _ rfl
   have k2 := hff 2 _ rfl
   have k3 := hff 3 _ rfl
   have i2 : Tryz.prog.cellsOf 107 = 8 := by kernel_rfl
   have i3 : Tryz.prog.cellsOf 54 = 1 := by kernel_rfl
   match xs, hlen with
   | [z0, z1, z2, z3], _ =>
    simp [i0, i2, i3] at k0 k1 k2 k3
    obtain ⟨m1, e1, _⟩ := DataW.trod_int Tryz.underlying3 k0
    simp only [List.cons.injEq, and_true] at e1
    subst e1
    obtain ⟨xs, m, rfl, rfl, rfl, rfl, rfl, rfl, rfl, R⟩ := ZgM k1
    obtain ⟨bx, Rb⟩ := ZbP k2
    obtain ⟨ox, Ro⟩ := ZbP k3
    exact ⟨⟨m0, m1, xs, m, bx, ox⟩, rfl, v2, v10, v11, rfl, R, Rb, Ro, Fr.zero _, Fr.zero _, Fr.zero _⟩
set_option maxRecDepth 100000 in
set_option maxHeartbeats 1600000 in
theorem Zg7 (fuel : Nat) (cs : List Value) (y : DataW H × List MemPlace) (hf : DataW.trod enc Tryz.prog w base spare held fuel 115 cs = some y) : ∃ l : Lk, cs.length = 5 /\ EL 0 w cs l := by
 obtain ⟨xs, n, _, _, hl, hlen, hff⟩ := DataW.trod_struct Tryz.underlying115 hf
 rw [show Tryz.prog.cellsOf 115 = 5 by kernel_rfl] at hl
 match cs, hl with
 | [v0, v1, v2, v3, v4], _ =>
  have g0 := hff 0 _ rfl
  have g1 := hff 1 _ rfl
  have g2 := hff 2 _ rfl
  have g3 := hff 3 _ rfl
  have g4 := hff 4 _ rfl
  have i0 : Tryz.prog.cellsOf 3 = 1 := by kernel_rfl
  have i1 : Tryz.prog.cellsOf 54 = 1 := by kernel_rfl
  have i2 : Tryz.prog.cellsOf 113 = 1 := by kernel_rfl
  match xs, hlen with
  | [y0, y1, y2, y3, y4], _ =>
   simp [i0, i1, i2] at g0 g1 g2 g3 g4
   obtain ⟨m0, e0, _⟩ := DataW.trod_int Tryz.underlying3 g0
   obtain ⟨m1, e1, _⟩ := DataW.trod_int Tryz.underlying3 g1
   obtain ⟨m3, e3, _⟩ := DataW.trod_int Tryz.underlying3 g3
   obtain ⟨ss, R1⟩ := ZbP g2
   obtain ⟨ps, R2⟩ := Zjh g4
   simp only [List.cons.injEq, and_true] at e0 e1 e3
   subst e0 e1 e3
   exact ⟨⟨m0, m1, ss, m3, ps⟩, rfl, v2, v4, rfl, R1, R2, Fr.zero _, Fr.zero _⟩
set_option maxRecDepth 100000 in
set_option maxHeartbeats 1600000 in
theorem Zgz (fuel : Nat) (cs : List Value) (y : DataW H × List MemPlace) (hf : DataW.trod enc Tryz.prog w base spare held fuel 119 cs = some y) : ∃ g : Gm, cs.length = 5 /\ EG 0 w cs g := by
 obtain ⟨xs, n, _, _, hl, hlen, hff⟩ := DataW.trod_struct Tryz.underlying119 hf
 rw [show Tryz.prog.cellsOf 119 = 5 by kernel_rfl] at hl
 match cs, hl with
 | [v0, v1, v2, v3, v4], _ =>
  have g0 := hff 0 _ rfl
  have g1 := hff 1 _ rfl
  have g2 := hff 2 _ rfl
  have g3 := hff 3 _ rfl
  have i0 : Tryz.prog.cellsOf 3 = 1 := by kernel_rfl
  have i1 : Tryz.prog.cellsOf 117 = 2 := by kernel_rfl
  match xs, hlen with
  | [y0, y1, y2, y3], _ =>
   simp [i0, i1] at g0 g1 g2 g3
   obtain ⟨m0, e0, _⟩ := DataW.trod_int Tryz.underlying3 g0
   obtain ⟨m1, e1, _⟩ := DataW.trod_int Tryz.underlying3 g1
   obtain ⟨m2, e2, _⟩ := DataW.trod_int Tryz.underlying3 g2
   simp only [List.cons.injEq, and_true] at e0 e1 e2
   subst e0 e1 e2
   obtain ⟨nd, hc, hs⟩ := Zf1 g3
   simp only [Pc.cs, List.cons.injEq, and_true] at hc
   obtain ⟨rfl, rfl⟩ := hc
   exact ⟨⟨m0, m1, m2, nd.n, nd.s⟩, rfl, rfl, hs⟩
set_option maxRecDepth 100000 in
set_option maxHeartbeats 1600000 in
theorem ZeX (fuel : Nat) (cs : List Value) (y : DataW H × List MemPlace) (hf : DataW.trod enc Tryz.prog w base spare held fuel 122 cs = some y) : ∃ p : Pd, cs.length = 3 /\ EP 0 w cs p := by
 obtain ⟨xs, n, _, _, hl, hlen, hff⟩ := DataW.trod_struct Tryz.underlying122 hf
 rw [show Tryz.prog.cellsOf 122 = 3 by kernel_rfl] at hl
 match cs, hl with
 | [v0, v1, v2], _ =>
  have g0 := hff 0 _ rfl
  have g1 := hff 1 _ rfl
  have g2 := hff 2 _ rfl
  have i0 : Tryz.prog.cellsOf 3 = 1 := by kernel_rfl
  have i1 : Tryz.prog.cellsOf 9 = 1 := by kernel_rfl
  match xs, hlen with
  | [y0, y1, y2], _ =>
   simp [i0, i1] at g0 g1 g2
   obtain ⟨m0, e0, _⟩ := DataW.trod_int Tryz.underlying3 g0
   obtain ⟨m1, e1, _⟩ := DataW.trod_int Tryz.underlying3 g1
   obtain ⟨m2, e2, _, hs⟩ := DataW.trod_string Tryz.underlying9 g2
   simp only [List.cons.injEq, and_true] at e0 e1 e2
   subst e0 e1 e2
   exact ⟨⟨m0, m1, m2⟩, rfl, rfl, hs⟩
set_option maxRecDepth 100000 in
theorem ZdP (fuel : Nat) (cs : List Value) (y : DataW H × List MemPlace) (hf : DataW.trod enc Tryz.prog w base spare held fuel 54 cs = some y) : ∃ ts, cs.length = 1 /\ ES 0 w cs ts := by
 rcases open_slice Tryz.underlying54 hf with ⟨hcs, _⟩ | ⟨a, len, cap, m, n, D, Pl, hcs, _⟩
 ·subst hcs
  obtain ⟨ts, R⟩ := ZbP hf
  exact ⟨ts, rfl, _, rfl, R, Fr.zero _⟩
 ·subst hcs
  obtain ⟨ts, R⟩ := ZbP hf
  exact ⟨ts, rfl, _, rfl, R, Fr.zero _⟩
set_option maxRecDepth 100000 in
set_option maxHeartbeats 3200000 in
theorem ZdI {v : Value} {d : DataW H} {p : List MemPlace} (hv : Value.okWide Tryz.prog w .any base 35 v) (h : DataW.Trod enc Tryz.prog w 0 (fun _ => true) true 35 v d p) :
  ∃ vn vi vf vh vl vg vp va vt, ∃ d : Wd, v = .agg #[vn, vi, vf, .int .i64 d.pl, vh, vl, vg, vp, .int .i64 d.nx, va, vt] /\ WR 0 w vn vi vf vh vl vg vp va vt d := by
 haveI : Inhabited Hm := ⟨⟨0, 0, [], ⟨0, 0, 0, 0, 0, 0, 0⟩, [], []⟩⟩
 haveI : Inhabited Lk := ⟨⟨0, 0, [], 0, []⟩⟩
 haveI : Inhabited Gm := ⟨⟨0, 0, 0, 0, ByteArray.empty⟩⟩
 haveI : Inhabited Pd := ⟨⟨0, 0, ByteArray.empty⟩⟩
 obtain ⟨cs, rfl, hsz⟩ := okWide_struct Tryz.underlying35 hv
 rw [show Tryz.prog.cellsOf 35 = 11 by kernel_rfl] at hsz
 obtain ⟨fuel, hf⟩ := h
 obtain ⟨v0, v1, v2, v3, v4, v5, v6, v7, v8, v9, v10, rfl⟩ : ∃ v0 v1 v2 v3 v4 v5 v6 v7 v8 v9 v10, cs = #[v0, v1, v2, v3, v4, v5, v6, v7, v8, v9, v10] := by
  obtain ⟨l⟩ := cs
  match l, hsz with
  | [v0, v1, v2, v3, v4, v5, v6, v7, v8, v9, v10], _ => exact ⟨v0, v1, v2, v3, v4, v5, v6, v7, v8, v9, v10, rfl⟩
 obtain ⟨xs, n, _, _, hl, hlen, hff⟩ := DataW.trod_struct Tryz.underlying35 hf
 have g0 := hff 0 _ rfl
 have g1 := hff 1 _ rfl
 have g2 := hff 2 _ rfl
 have g3 := hff 3 _ rfl
 have g4 := hff 4 _ rfl
 have g5 := hff 5 _ rfl
 have g6 := hff 6 _ rfl
 have g7 := hff 7 _ rfl
 have g8 := hff 8 _ rfl
 have i0 : Tryz.prog.cellsOf 3 = 1 := by kernel_rfl
 have i1 : Tryz.prog.cellsOf 28 = 3 := by kernel_rfl
 have i2 : Tryz.prog.cellsOf 29 = 1 := by kernel_rfl
 have i3 : Tryz.prog.cellsOf 30 = 1 := by kernel_rfl
 have i4 : Tryz.prog.cellsOf 31 = 1 := by kernel_rfl
 have i5 : Tryz.prog.cellsOf 32 = 1 := by kernel_rfl
 have i6 : Tryz.prog.cellsOf 33 = 1 := by kernel_rfl
 match xs, hlen with
 | [y0, y1, y2, y3, y4, y5, y6, y7, y8], _ =>
  simp [Value.cells, i0, i1, i2, i3, i4, i5, i6] at g0 g1 g2 g3 g4 g5 g6 g7 g8
  obtain ⟨m1, e1, _⟩ := DataW.trod_int Tryz.underlying3 g1
  obtain ⟨m6, e6, _⟩ := DataW.trod_int Tryz.underlying3 g6
  simp only [List.cons.injEq, and_true] at e1 e6
  subst e1 e6
  obtain ⟨hs, Rh⟩ := ZdM (α := Hm) Tryz.underlying29 (k := 12) (by kernel_rfl) (by decide) ZgZ g2
  obtain ⟨ls, Rl⟩ := ZdM (α := Lk) Tryz.underlying30 (k := 5) (by kernel_rfl) (by decide) Zg7 g3
  obtain ⟨gs, Rg⟩ := ZdM (α := Gm) Tryz.underlying31 (k := 5) (by kernel_rfl) (by decide) Zgz g4
  obtain ⟨ps, Rp⟩ := ZdM (α := Pd) Tryz.underlying32 (k := 3) (by kernel_rfl) (by decide) ZeX g5
  obtain ⟨ga, Ra⟩ := ZdM (α := List ByteArray) Tryz.underlying33 (k := 1) (by kernel_rfl) (by decide) ZdP g7
  obtain ⟨tk, Rt⟩ := ZdM (α := List ByteArray) Tryz.underlying33 (k := 1) (by kernel_rfl) (by decide) ZdP g8
  obtain ⟨xs, n, _, _, hl, hlen, hff⟩ := DataW.trod_struct Tryz.underlying28 g0
  have k0 := hff 0 _ rfl
  have k1 := hff 1 _ rfl
  have k2 := hff 2 _ rfl
  have j0 : Tryz.prog.cellsOf 24 = 1 := by kernel_rfl
  have j1 : Tryz.prog.cellsOf 25 = 1 := by kernel_rfl
  have j2 : Tryz.prog.cellsOf 26 = 1 := by kernel_rfl
  match xs, hlen with
  | [z0, z1, z2], _ =>
   simp [j0, j1, j2] at k0 k1 k2
   obtain ⟨q0, n', _, _, h0⟩ := trod_struct1 Tryz.underlying24 k0
   have i3 : Tryz.prog.cellsOf 22 = 1 := by kernel_rfl
   simp [i3] at h0
   obtain ⟨ns, R1⟩ := Zf9 h0
   obtain ⟨is, R2⟩ := ZiY k1
   obtain ⟨ds, R3⟩ := Zi6 k2
   exact ⟨v0, v1, v2, v4, v5, v6, v7, v9, v10, ⟨ns, is, ds, m1, hs, ls, gs, ps, m6, ga, tk⟩, rfl, R1, R2, R3, Rh, Rl, Rg, Rp, Ra, Rt, Fr.zero _, Fr.zero _, Fr.zero _⟩
end
end Go.Proofs.YtfmafkebddojjaaGreatDoor
