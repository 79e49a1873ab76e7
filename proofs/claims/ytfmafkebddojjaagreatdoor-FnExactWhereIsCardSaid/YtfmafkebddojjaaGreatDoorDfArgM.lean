/-
  Texts that stood by themselves, laid into one.
-/
import Derived.Test.YtfmafkebddojjaaGreatDoorWhI2M
import Derived.Test.YtfmafkebddojjaaGreatDoorSWhM
import Derived.Test.YtfmafkebddojjaaGreatDoorShapeM
import Derived.ProofKit
import Derived.OpenShut
import Derived.ShutString
import Derived.ChangeOld
import Derived.Below
import Derived.Deep.Slices
import Derived.ChangeSame
import Derived.Test.YtfmafkebddojjaaGreatDoorPcMarkM
import Derived.Test.YtfmafkebddojjaaGreatDoorInM
import Derived.Test.YtfmafkebddojjaaGreatDoorMcTM
import Derived.Test.YtfmafkebddojjaaGreatDoorSInstrM
/-
  The law FnExactWhereIs, walked: for every world and number it returns true and writes nothing that was there. The variable errors.errorType reads as it is laid.
-/
set_option maxRecDepth 100000
set_option maxHeartbeats 6400000
namespace Go.Proofs.YtfmafkebddojjaaGreatDoor
open Go.RowKit
theorem Zjq {t0 t1 t3 t4 t5 t6 t8 t9 t10 t11 t12 t13 t14 t15 t16 t17 t18 t19 t20 t21 t22 t23 t24 t25 t26 t27 t28 t29 t30 : Value} {fs : List Deferred} (y0 b0 C : Nat) (yyn aan yyi aai yyf aaf yyh aah yyl aal yyg aag yyp aap yya aaa yyt aat : Option Addr) (zzn ccn zzi cci zzf ccf zzh cch zzl ccl zzg ccg zzp ccp zza cca zzt cct : Nat) (d : Wd) (w : World) (Q : Exit -> Act -> World -> Prop)
  (hy : w.heap[y0]? = some (.cells #[.slice yyn d.ns.length zzn, .slice yyi d.is.length zzi, .slice yyf d.ds.length zzf, .int .i64 d.pl, .slice yyh d.hs.length zzh, .slice yyl d.ls.length zzl, .slice yyg d.gs.length zzg, .slice yyp d.ps.length zzp, .int .i64 d.nx, .slice yya d.ga.length zza, .slice yyt d.tk.length zzt] 50 (0, 0))) (hk : w.heap[b0]? = some (.cells #[.slice aan d.ns.length ccn, .slice aai d.is.length cci, .slice aaf d.ds.length ccf, .int .i64 d.pl, .slice aah d.hs.length cch, .slice aal d.ls.length ccl, .slice aag d.gs.length ccg, .slice aap d.ps.length ccp, .int .i64 d.nx, .slice aaa d.ga.length cca, .slice aat d.tk.length cct] 35 (0, 0))) (E : WR C w (.slice yyn d.ns.length zzn) (.slice yyi d.is.length zzi) (.slice yyf d.ds.length zzf) (.slice yyh d.hs.length zzh) (.slice yyl d.ls.length zzl) (.slice yyg d.gs.length zzg) (.slice yyp d.ps.length zzp) (.slice yya d.ga.length zza) (.slice yyt d.tk.length zzt) d) (R : WR 0 w (.slice aan d.ns.length ccn) (.slice aai d.is.length cci) (.slice aaf d.ds.length ccf) (.slice aah d.hs.length cch) (.slice aal d.ls.length ccl) (.slice aag d.gs.length ccg) (.slice aap d.ps.length ccp) (.slice aaa d.ga.length cca) (.slice aat d.tk.length cct) d) (Sm : SmW d)
  (hQ : ∀ u26 u27 u28 u29 (W : World), Below w.heap.size w W -> Q .normal ⟨#[t0, t1, .pointer (some ⟨b0, 0, none⟩), t3, t4, t5, t6, .pointer (some ⟨y0, 0, none⟩), t8, t9, t10, t11, t12, t13, t14, t15, t16, t17, t18, t19, t20, t21, t22, t23, t24, t25, u26, u27, u28, u29, .bool false], fs⟩ W) :
  (Code.region 10 (List.toArray (⟨some 26, .load 50 (.tmp 7), 50, "exact.go:4132", #[], none⟩ :: ⟨some 27, .load 35 (.tmp 2), 35, "exact.go:4132", #[], none⟩ :: ⟨some 28, .call { callee := .value (.func 11), args := #[.tmp 27], argTypes := #[35] }, 50, "exact.go:4132", #[⟨1, .data⟩], none⟩ :: ⟨some 29, .call { callee := .value (.func 13), args := #[.tmp 26, .tmp 28], argTypes := #[50, 50] }, 4, "exact.go:4132", #[⟨0, .data⟩, ⟨2, .data⟩, ⟨2, .chain⟩], none⟩ :: ⟨some 30, .unOp .not 4 (.tmp 29), 4, "exact.go:4132", #[⟨3, .data⟩], none⟩ :: [])) true).wp Tryz.prog Q ⟨#[t0, t1, .pointer (some ⟨b0, 0, none⟩), t3, t4, t5, t6, .pointer (some ⟨y0, 0, none⟩), t8, t9, t10, t11, t12, t13, t14, t15, t16, t17, t18, t19, t20, t21, t22, t23, t24, t25, t26, t27, t28, t29, t30], fs⟩ w := by
 have hS : ∀ w', Below w.heap.size w w' -> (w'.heap[y0]? = some (.cells #[.slice yyn d.ns.length zzn, .slice yyi d.is.length zzi, .slice yyf d.ds.length zzf, .int .i64 d.pl, .slice yyh d.hs.length zzh, .slice yyl d.ls.length zzl, .slice yyg d.gs.length zzg, .slice yyp d.ps.length zzp, .int .i64 d.nx, .slice yya d.ga.length zza, .slice yyt d.tk.length zzt] 50 (0, 0)) /\ w'.heap[b0]? = some (.cells #[.slice aan d.ns.length ccn, .slice aai d.is.length cci, .slice aaf d.ds.length ccf, .int .i64 d.pl, .slice aah d.hs.length cch, .slice aal d.ls.length ccl, .slice aag d.gs.length ccg, .slice aap d.ps.length ccp, .int .i64 d.nx, .slice aaa d.ga.length cca, .slice aat d.tk.length cct] 35 (0, 0))) := fun w' hb => ⟨Zal hy hb, Zal hk hb⟩
 have B : Below w.heap.size w w.drew := ZaX w
 refine wp_region_noPanic ?_
 refine wp_region_held_drew (S := fun w' => w'.heap[y0]? = some (.cells #[.slice yyn d.ns.length zzn, .slice yyi d.is.length zzi, .slice yyf d.ds.length zzf, .int .i64 d.pl, .slice yyh d.hs.length zzh, .slice yyl d.ls.length zzl, .slice yyg d.gs.length zzg, .slice yyp d.ps.length zzp, .int .i64 d.nx, .slice yya d.ga.length zza, .slice yyt d.tk.length zzt] 50 (0, 0)) /\ w'.heap[b0]? = some (.cells #[.slice aan d.ns.length ccn, .slice aai d.is.length cci, .slice aaf d.ds.length ccf, .int .i64 d.pl, .slice aah d.hs.length cch, .slice aal d.ls.length ccl, .slice aag d.gs.length ccg, .slice aap d.ps.length ccp, .int .i64 d.nx, .slice aaa d.ga.length cca, .slice aat d.tk.length cct] 35 (0, 0))) (by kernel_rfl) (hS _ B) (fun hHeld => ?_)
 refine wpAnyH_take (i := 0) (oi := ⟨some 26, .load 50 (.tmp 7), 50, "exact.go:4132", #[], none⟩) (v := .agg #[.slice yyn d.ns.length zzn, .slice yyi d.is.length zzi, .slice yyf d.ds.length zzf, .int .i64 d.pl, .slice yyh d.hs.length zzh, .slice yyl d.ls.length zzl, .slice yyg d.gs.length zzg, .slice yyp d.ps.length zzp, .int .i64 d.nx, .slice yya d.ga.length zza, .slice yyt d.tk.length zzt]) rfl (by kernel_rfl) (by kernel_rfl) (by kernel_rfl) (fun _ _ _ h => h) (ZbD (by rfl) 50 _ rfl y0 rfl #[.slice yyn d.ns.length zzn, .slice yyi d.is.length zzi, .slice yyf d.ds.length zzf, .int .i64 d.pl, .slice yyh d.hs.length zzh, .slice yyl d.ls.length zzl, .slice yyg d.gs.length zzg, .slice yyp d.ps.length zzp, .int .i64 d.nx, .slice yya d.ga.length zza, .slice yyt d.tk.length zzt] 50 _ (fun _ h => h.1) Tryz.underlying50 rfl Zmt) (by assumption) ?_
 simp only [Act.put, sit, sc0, scs]
 refine wpAnyH_take (i := 1) (oi := ⟨some 27, .load 35 (.tmp 2), 35, "exact.go:4132", #[], none⟩) (v := .agg #[.slice aan d.ns.length ccn, .slice aai d.is.length cci, .slice aaf d.ds.length ccf, .int .i64 d.pl, .slice aah d.hs.length cch, .slice aal d.ls.length ccl, .slice aag d.gs.length ccg, .slice aap d.ps.length ccp, .int .i64 d.nx, .slice aaa d.ga.length cca, .slice aat d.tk.length cct]) rfl (by kernel_rfl) (by kernel_rfl) (by kernel_rfl) (fun _ _ _ h => h) (ZbD (by rfl) 35 _ rfl b0 rfl #[.slice aan d.ns.length ccn, .slice aai d.is.length cci, .slice aaf d.ds.length ccf, .int .i64 d.pl, .slice aah d.hs.length cch, .slice aal d.ls.length ccl, .slice aag d.gs.length ccg, .slice aap d.ps.length ccp, .int .i64 d.nx, .slice aaa d.ga.length cca, .slice aat d.tk.length cct] 35 _ (fun _ h => h.2) Tryz.underlying35 rfl Zmf) (by assumption) ?_
 simp only [Act.put, sit, sc0, scs]
 refine wpAnyH_ready (rs := [2]) (by kernel_rfl) (by simp) ?_
 refine AllReadyH.cons rfl (fun K hK => ?_) AllReadyH.nil
 go_simp
 go_wp2_with (go_at_call 11; with_reducible refine (Zcz _ _ _ _ _ _ _ _ _ d 0 _ (R.below B) Sm).mono ?_; rintro e wA ⟨un, ui, uf, uh, ul, ug, up, ua, ut, rfl, RT, hb⟩)
 replace B := B.trans (hb.mono B.size)
 obtain ⟨⟨ttn, vvn, rfl⟩, ⟨tti, vvi, rfl⟩, ⟨ttf, vvf, rfl⟩, ⟨tth, vvh, rfl⟩, ⟨ttl, vvl, rfl⟩, ⟨ttg, vvg, rfl⟩, ⟨ttp, vvp, rfl⟩, ⟨tta, vva, rfl⟩, ⟨ttt, vvt, rfl⟩⟩ := RT.form
 clear hb
 refine hK.out _ _ (hS _ B) (fun hHeld => ?_)
 clear hK
 refine wpAnyH_ready (rs := [3]) (by kernel_rfl) (by simp) ?_
 refine AllReadyH.cons rfl (fun K hK => ?_) AllReadyH.nil
 go_simp
 go_wp2_with (go_at_call 13; with_reducible refine (Zf9 _ _ _ _ _ _ _ _ _ _ _ _ _ _ _ _ _ _ d C _ _ (E.below B) RT).mono ?_; rintro e wZ ⟨rfl, hb⟩)
 replace B := B.trans (hb.mono B.size)
 clear hb
 refine hK.out _ _ (hS _ B) (fun hHeld => ?_)
 clear hK
 refine wpAnyH_take (i := 4) (oi := ⟨some 30, .unOp .not 4 (.tmp 29), 4, "exact.go:4132", #[⟨3, .data⟩], none⟩) (v := .bool false) rfl (by kernel_rfl) (by kernel_rfl) (by kernel_rfl) (fun _ _ _ h => h) (Or.inl ⟨by rfl, by intro w hSw; go_simp⟩) (by assumption) ?_
 simp only [Act.put, sit, sc0, scs]
 refine wpAnyH_done (by kernel_rfl) ?_ _
 exact NoPanic.normal (hQ _ _ _ _ _ B)
theorem Zhe (vn vi vf vh vl vg vp va vt : Value) (d : Wd) (p : Int) (w : World) (R : WR 0 w vn vi vf vh vl vg vp va vt d) (hE : ErrT w) :
  Calls Tryz.prog 8 #[.agg #[vn, vi, vf, .int .i64 d.pl, vh, vl, vg, vp, .int .i64 d.nx, va, vt], .int .i64 p] w fun e w' => e = .returned (.bool true) /\ Below w.heap.size w w' := by
 obtain ⟨⟨aan, ccn, rfl⟩, ⟨aai, cci, rfl⟩, ⟨aaf, ccf, rfl⟩, ⟨aah, cch, rfl⟩, ⟨aal, ccl, rfl⟩, ⟨aag, ccg, rfl⟩, ⟨aap, ccp, rfl⟩, ⟨aaa, cca, rfl⟩, ⟨aat, cct, rfl⟩⟩ := R.form
 have hB : Below w.heap.size w (w.alloc (Obj.cells #[.slice aan d.ns.length ccn, .slice aai d.is.length cci, .slice aaf d.ds.length ccf, .int .i64 d.pl, .slice aah d.hs.length cch, .slice aal d.ls.length ccl, .slice aag d.gs.length ccg, .slice aap d.ps.length ccp, .int .i64 d.nx, .slice aaa d.ga.length cca, .slice aat d.tk.length cct] 35)) := (Below.refl _ _).alloc (Nat.le_refl _) _
 have hx : (w.alloc (Obj.cells #[.slice aan d.ns.length ccn, .slice aai d.is.length cci, .slice aaf d.ds.length ccf, .int .i64 d.pl, .slice aah d.hs.length cch, .slice aal d.ls.length ccl, .slice aag d.gs.length ccg, .slice aap d.ps.length ccp, .int .i64 d.nx, .slice aaa d.ga.length cca, .slice aat d.tk.length cct] 35)).heap[w.heap.size]? = some (Obj.cells #[.slice aan d.ns.length ccn, .slice aai d.is.length cci, .slice aaf d.ds.length ccf, .int .i64 d.pl, .slice aah d.hs.length cch, .slice aal d.ls.length ccl, .slice aag d.gs.length ccg, .slice aap d.ps.length ccp, .int .i64 d.nx, .slice aaa d.ga.length cca, .slice aat d.tk.length cct] 35) := heap_alloc_new _ _
 go_enter Tryz.func8, Tryz.ntmps8
 go_wp2_with (refine wpList_load_row rfl 35 _ rfl w.heap.size rfl 35 #[.slice aan d.ns.length ccn, .slice aai d.is.length cci, .slice aaf d.ds.length ccf, .int .i64 d.pl, .slice aah d.hs.length cch, .slice aal d.ls.length ccl, .slice aag d.gs.length ccg, .slice aap d.ps.length ccp, .int .i64 d.nx, .slice aaa d.ga.length cca, .slice aat d.tk.length cct] (0, 0) _ hx Tryz.underlying35 rfl Zmf ?_)
 refine (ZfT _ _ _ _ _ _ _ _ _ d 0 _ (R.below hB)).mono ?_
 rintro e w1 ⟨r, rfl, h0, h1, h2, hb⟩
 replace hx := Zal hx hb
 replace hB := hB.trans (hb.mono hB.size)
 clear hb
 by_cases hr : r < 0
 ·go_wp2
  go_ret
  exact ⟨rfl, hB⟩
 ·have Sm := h2 (by omega)
  go_wp2_with (refine wpList_load_row rfl 35 _ rfl w.heap.size rfl 35 #[.slice aan d.ns.length ccn, .slice aai d.is.length cci, .slice aaf d.ds.length ccf, .int .i64 d.pl, .slice aah d.hs.length cch, .slice aal d.ls.length ccl, .slice aag d.gs.length ccg, .slice aap d.ps.length ccp, .int .i64 d.nx, .slice aaa d.ga.length cca, .slice aat d.tk.length cct] (0, 0) _ hx Tryz.underlying35 rfl Zmf ?_)
  refine (Zcz _ _ _ _ _ _ _ _ _ d 0 _ (R.below hB) Sm).mono ?_
  rintro e w2 ⟨un, ui, uf, uh, ul, ug, up, ua, ut, rfl, RT, hb⟩
  replace hx := Zal hx hb
  replace hB := hB.trans (hb.mono hB.size)
  clear hb
  go_wp2_with fail
  refine (Zhw _ _ _ _ _ _ _ _ _ d p _ (RT.mono (Nat.zero_le _)) Sm).mono ?_
  rintro e w3 ⟨rfl, hb⟩
  replace hx := Zal hx hb
  replace hB := hB.trans (hb.mono hB.size)
  clear hb RT
  go_wp2_with (refine wpList_load_row rfl 35 _ rfl w.heap.size rfl 35 #[.slice aan d.ns.length ccn, .slice aai d.is.length cci, .slice aaf d.ds.length ccf, .int .i64 d.pl, .slice aah d.hs.length cch, .slice aal d.ls.length ccl, .slice aag d.gs.length ccg, .slice aap d.ps.length ccp, .int .i64 d.nx, .slice aaa d.ga.length cca, .slice aat d.tk.length cct] (0, 0) _ hx Tryz.underlying35 rfl Zmf ?_)
  refine (Zcz _ _ _ _ _ _ _ _ _ d 0 _ (R.below hB) Sm).mono ?_
  rintro e w4 ⟨un, ui, uf, uh, ul, ug, up, ua, ut, rfl, RT, hb⟩
  replace hx := Zal hx hb
  replace hB := hB.trans (hb.mono hB.size)
  clear hb
  obtain ⟨⟨yyn, zzn, rfl⟩, ⟨yyi, zzi, rfl⟩, ⟨yyf, zzf, rfl⟩, ⟨yyh, zzh, rfl⟩, ⟨yyl, zzl, rfl⟩, ⟨yyg, zzg, rfl⟩, ⟨yyp, zzp, rfl⟩, ⟨yya, zza, rfl⟩, ⟨yyt, zzt, rfl⟩⟩ := RT.form
  have hb := ZaE w4 (Obj.cells #[.slice yyn d.ns.length zzn, .slice yyi d.is.length zzi, .slice yyf d.ds.length zzf, .int .i64 d.pl, .slice yyh d.hs.length zzh, .slice yyl d.ls.length zzl, .slice yyg d.gs.length zzg, .slice yyp d.ps.length zzp, .int .i64 d.nx, .slice yya d.ga.length zza, .slice yyt d.tk.length zzt] 50)
  have hy : (w4.alloc (Obj.cells #[.slice yyn d.ns.length zzn, .slice yyi d.is.length zzi, .slice yyf d.ds.length zzf, .int .i64 d.pl, .slice yyh d.hs.length zzh, .slice yyl d.ls.length zzl, .slice yyg d.gs.length zzg, .slice yyp d.ps.length zzp, .int .i64 d.nx, .slice yya d.ga.length zza, .slice yyt d.tk.length zzt] 50)).heap[w4.heap.size]? = some (Obj.cells #[.slice yyn d.ns.length zzn, .slice yyi d.is.length zzi, .slice yyf d.ds.length zzf, .int .i64 d.pl, .slice yyh d.hs.length zzh, .slice yyl d.ls.length zzl, .slice yyg d.gs.length zzg, .slice yyp d.ps.length zzp, .int .i64 d.nx, .slice yya d.ga.length zza, .slice yyt d.tk.length zzt] 50) := heap_alloc_new _ _
  replace hx := Zal hx hb
  replace hB := hB.trans (hb.mono hB.size)
  replace RT := RT.below hb
  clear hb
  obtain ⟨W5, hW5⟩ : ∃ W5, w4.alloc (Obj.cells #[.slice yyn d.ns.length zzn, .slice yyi d.is.length zzi, .slice yyf d.ds.length zzf, .int .i64 d.pl, .slice yyh d.hs.length zzh, .slice yyl d.ls.length zzl, .slice yyg d.gs.length zzg, .slice yyp d.ps.length zzp, .int .i64 d.nx, .slice yya d.ga.length zza, .slice yyt d.tk.length zzt] 50) = W5 := ⟨_, rfl⟩
  rw [hW5] at hx hy hB RT
  go_wp2_with (refine wpList_load_row rfl 50 _ rfl w4.heap.size rfl 50 #[.slice yyn d.ns.length zzn, .slice yyi d.is.length zzi, .slice yyf d.ds.length zzf, .int .i64 d.pl, .slice yyh d.hs.length zzh, .slice yyl d.ls.length zzl, .slice yyg d.gs.length zzg, .slice yyp d.ps.length zzp, .int .i64 d.nx, .slice yya d.ga.length zza, .slice yyt d.tk.length zzt] (0, 0) _ (by first | exact hy | (rw [hW5]; exact hy)) Tryz.underlying50 rfl Zmt ?_)
  first | rw [hW5] | skip
  refine (Zhd _ _ _ _ _ _ _ _ _ d p _ (RT.mono (Nat.zero_le _)) Sm (hE.below hB (Nat.le_refl _))).mono ?_
  rintro e w6 ⟨rfl, hb⟩
  replace hx := Zal hx hb
  replace hy := Zal hy hb
  replace hB := hB.trans (hb.mono hB.size)
  replace RT := RT.below hb
  clear hb hW5
  obtain ⟨q, hq⟩ : ∃ q, whR d p = q := ⟨_, rfl⟩
  rw [hq]
  clear hq
  have hne : (q != q) = false := by simp
  go_wp2_with fail
  refine Zjq w4.heap.size w.heap.size _ yyn aan yyi aai yyf aaf yyh aah yyl aal yyg aag yyp aap yya aaa yyt aat zzn ccn zzi cci zzf ccf zzh cch zzl ccl zzg ccg zzp ccp zza cca zzt cct d w6 _ hy hx RT (R.below hB) Sm ?_
  intro u26 u27 u28 u29 W hW
  replace hB := hB.trans (hW.mono hB.size)
  go_wp2
  go_ret
  exact ⟨rfl, hB⟩
end Go.Proofs.YtfmafkebddojjaaGreatDoor
namespace Go.Proofs.YtfmafkebddojjaaGreatDoor
open Go.ChangeShapes Go.WideShapes Go.ChangeAt Go.RowKit Go.Deep
theorem ZeK : laidOutB Tryz.prog = true := by kernel_rfl
section
variable {H : Type} {enc : TypeId × Value -> H} {w : World} {base : Nat} {spare : Nat -> Bool} {held : Bool}
theorem ZhU {fuel : Nat} {cs : List Value} {x : DataW H × List MemPlace} (h : DataW.trod enc Tryz.prog w base spare held fuel 213 cs = some x) :
  ∃ nd : Nd, cs = nd.cs /\ nd.s.size <= maxLen := by
 obtain ⟨xs, n, _, _, hl, hlen, hf⟩ := DataW.trod_struct Tryz.underlying213 h
 rw [show Tryz.prog.cellsOf 213 = 5 by kernel_rfl] at hl
 match cs, hl with
 | [v0, v1, v2, v3, v4], _ =>
  have g0 := hf 0 _ rfl
  have g1 := hf 1 _ rfl
  have g2 := hf 2 _ rfl
  have g3 := hf 3 _ rfl
  have g4 := hf 4 _ rfl
  have i1 : Tryz.prog.cellsOf 3 = 1 := by kernel_rfl
  have i2 : Tryz.prog.cellsOf 9 = 1 := by kernel_rfl
  match xs, hlen with
  | [y0, y1, y2, y3, y4], _ =>
   simp [i1, i2] at g0 g1 g2 g3 g4
   obtain ⟨k, e0, _⟩ := DataW.trod_int Tryz.underlying3 g0
   obtain ⟨m, e1, _⟩ := DataW.trod_int Tryz.underlying3 g1
   obtain ⟨s, e2, _, hs⟩ := DataW.trod_string Tryz.underlying9 g2
   obtain ⟨a, e3, _⟩ := DataW.trod_int Tryz.underlying3 g3
   obtain ⟨b, e4, _⟩ := DataW.trod_int Tryz.underlying3 g4
   simp only [List.cons.injEq, and_true] at e0 e1 e2 e3 e4
   subst e0 e1 e2 e3 e4
   exact ⟨⟨k, m, s, a, b⟩, rfl, hs⟩
end
section
variable {H : Type} {enc : TypeId × Value -> H} {w : World} {base : Nat} {spare : Nat -> Bool} {held : Bool}
theorem ZgX {fuel : Nat} {cs : List Value} {x : DataW H × List MemPlace} (h : DataW.trod enc Tryz.prog w base spare held fuel 117 cs = some x) :
  ∃ nd : Pc, cs = nd.cs /\ nd.s.size <= maxLen := by
 obtain ⟨xs, n, _, _, hl, hlen, hf⟩ := DataW.trod_struct Tryz.underlying117 h
 rw [show Tryz.prog.cellsOf 117 = 2 by kernel_rfl] at hl
 match cs, hl with
 | [v0, v1], _ =>
  have g0 := hf 0 _ rfl
  have g1 := hf 1 _ rfl
  have i1 : Tryz.prog.cellsOf 3 = 1 := by kernel_rfl
  have i2 : Tryz.prog.cellsOf 9 = 1 := by kernel_rfl
  match xs, hlen with
  | [y0, y1], _ =>
   simp [i1, i2] at g0 g1
   obtain ⟨m0, e0, _⟩ := DataW.trod_int Tryz.underlying3 g0
   obtain ⟨m1, e1, _, hs⟩ := DataW.trod_string Tryz.underlying9 g1
   simp only [List.cons.injEq, and_true] at e0 e1
   subst e0 e1
   exact ⟨⟨m0, m1⟩, rfl, hs⟩
theorem Zkx {fuel : Nat} {v' : Value} {y0 : DataW H × List MemPlace} (h0 : DataW.trod enc Tryz.prog w base spare held fuel 113 [v'] = some y0) :
  ∃ xs, PcRow w v' xs := by
 have i5 : Tryz.prog.cellsOf 117 = 2 := by kernel_rfl
 rcases open_slice Tryz.underlying113 h0 with ⟨hcs, _⟩ | ⟨a, len, cap, m, n, D, Pl, hcs, _, hl, hm, hmm, _, hx⟩
 ·simp at hcs
  subst hcs
  exact ⟨[], none, 0, rfl, by simp, by simp, by simp, fun h => absurd rfl h⟩
 ·simp at hcs
  subst hcs
  have hlm : len <= m := by rw [hmm]; split <;> omega
  rw [i5] at hx
  have each : ∀ i, i < m -> ∃ nd : Pc, nd.s.size <= maxLen /\ ∀ j, j < 2 -> w.cell? (a.add (i * 2 + j)) = nd.cs[j]? := by
   intro i hi
   obtain ⟨cs', h1, h2⟩ := hx i hi
   obtain ⟨nd, rfl, hs⟩ := ZgX h2
   obtain ⟨_, hlen, hcell⟩ := World.cells?_some h1
   refine ⟨nd, hs, fun j hj => ?_⟩
   have := hcell j (by omega)
   rw [add_add] at this
   rw [this]
  haveI : Inhabited Pc := ⟨Zfb⟩
  obtain ⟨q, hq⟩ := choose_lt each
  refine ⟨(List.range len).map q, some a, cap, ?_, ?_, ?_, ?_, ?_⟩
  ·simp
  ·exact ⟨by simp; omega, fun h => by cases h⟩
  ·unfold maxLen at hm; simp; omega
  ·intro x hx'
   simp at hx'
   obtain ⟨i, hi, rfl⟩ := hx'
   exact (hq i (by omega)).1
  ·intro hne
   have hpos : 0 < len := by
    rcases Nat.eq_zero_or_pos len with h0 | h0
    ·subst h0; simp at hne
    ·exact h0
   obtain ⟨b, off, spot⟩ := a
   have hc := (hq 0 (by omega)).2 0 (by omega)
   simp only [Pc.cs, List.getElem?_cons_zero] at hc
   have hspot : spot = none := by simpa [Addr.add] using World.cell?_spot hc
   subst hspot
   have hb := World.block_lt_of_cell? _ _ hc
   refine ⟨b, off, rfl, by simpa [Addr.add_lit] using hb, fun i x hi => ?_⟩
   have hil : i < len := by
    have := (List.getElem?_eq_some_iff.1 hi).1
    simpa using this
   have hxe : x = q i := by
    rw [List.getElem?_map, List.getElem?_range hil] at hi
    simpa using hi.symm
   subst hxe
   have e : ∀ j, j < 2 -> w.cell? ⟨b, off + i * 2 + j, none⟩ = (q i).cs[j]? := fun j hj => by
    have := (hq i (by omega)).2 j hj
    rw [Addr.add_lit] at this
    rw [<- this, Nat.add_assoc]
   exact ⟨e 0 (by omega), e 1 (by omega)⟩
end
section
variable {H : Type} {enc : TypeId × Value -> H} {w : World} {base : Nat} {spare : Nat -> Bool} {held : Bool}
theorem ZgK {fuel : Nat} {v' : Value} {y0 : DataW H × List MemPlace} (h0 : DataW.trod enc Tryz.prog w base spare held fuel 22 [v'] = some y0) :
  ∃ xs, NRow w v' xs := by
 have i5 : Tryz.prog.cellsOf 213 = 5 := by kernel_rfl
 rcases open_slice Tryz.underlying22 h0 with ⟨hcs, _⟩ | ⟨a, len, cap, m, n, D, Pl, hcs, _, hl, hm, hmm, _, hx⟩
 ·simp at hcs
  subst hcs
  exact ⟨[], none, 0, rfl, by simp, by simp, by simp, fun h => absurd rfl h⟩
 ·simp at hcs
  subst hcs
  have hlm : len <= m := by rw [hmm]; split <;> omega
  rw [i5] at hx
  have each : ∀ i, i < m -> ∃ nd : Nd, nd.s.size <= maxLen /\ ∀ j, j < 5 -> w.cell? (a.add (i * 5 + j)) = nd.cs[j]? := by
   intro i hi
   obtain ⟨cs', h1, h2⟩ := hx i hi
   obtain ⟨nd, rfl, hs⟩ := ZhU h2
   obtain ⟨_, hlen, hcell⟩ := World.cells?_some h1
   refine ⟨nd, hs, fun j hj => ?_⟩
   have := hcell j (by omega)
   rw [add_add] at this
   rw [this]
  haveI : Inhabited Nd := ⟨⟨0, 0, ByteArray.empty, 0, 0⟩⟩
  obtain ⟨q, hq⟩ := choose_lt each
  refine ⟨(List.range len).map q, some a, cap, ?_, ?_, ?_, ?_, ?_⟩
  ·simp
  ·exact ⟨by simp; omega, fun h => by cases h⟩
  ·unfold maxLen at hm; simp; omega
  ·intro x hx'
   simp at hx'
   obtain ⟨i, hi, rfl⟩ := hx'
   exact (hq i (by omega)).1
  ·intro hne
   have hpos : 0 < len := by
    rcases Nat.eq_zero_or_pos len with h0 | h0
    ·subst h0; simp at hne
    ·exact h0
   obtain ⟨b, off, spot⟩ := a
   have hc := (hq 0 (by omega)).2 0 (by omega)
   simp only [Nd.cs, List.getElem?_cons_zero] at hc
   have hspot : spot = none := by simpa [Addr.add] using World.cell?_spot hc
   subst hspot
   have hb := World.block_lt_of_cell? _ _ hc
   refine ⟨b, off, rfl, by simpa [Addr.add_lit] using hb, fun i x hi => ?_⟩
   have hil : i < len := by
    have := (List.getElem?_eq_some_iff.1 hi).1
    simpa using this
   have hxe : x = q i := by
    rw [List.getElem?_map, List.getElem?_range hil] at hi
    simpa using hi.symm
   subst hxe
   have e : ∀ j, j < 5 -> w.cell? ⟨b, off + i * 5 + j, none⟩ = (q i).cs[j]? := fun j hj => by
    have := (hq i (by omega)).2 j hj
    rw [Addr.add_lit] at this
    rw [<- this, Nat.add_assoc]
   exact ⟨e 0 (by omega), e 1 (by omega), e 2 (by omega), e 3 (by omega), e 4 (by omega)⟩
end
section
variable {H : Type} {enc : TypeId × Value -> H} {w : World} {base : Nat} {spare : Nat -> Bool} {held : Bool}
theorem Zca {fuel : Nat} {v' : Value} {y0 : DataW H × List MemPlace} (h0 : DataW.trod enc Tryz.prog w base spare held fuel 54 [v'] = some y0) :
  ∃ xs, StRow w v' xs := by
 have i5 : Tryz.prog.cellsOf 9 = 1 := by kernel_rfl
 rcases open_slice Tryz.underlying54 h0 with ⟨hcs, _⟩ | ⟨a, len, cap, m, n, D, Pl, hcs, _, hl, hm, hmm, _, hx⟩
 ·simp at hcs
  subst hcs
  exact ⟨[], none, 0, rfl, by simp, by simp, by simp, fun h => absurd rfl h⟩
 ·simp at hcs
  subst hcs
  have hlm : len <= m := by rw [hmm]; split <;> omega
  rw [i5] at hx
  have each : ∀ i, i < m -> ∃ s : ByteArray, s.size <= maxLen /\ w.cell? (a.add i) = some (.string s) := by
   intro i hi
   obtain ⟨cs', h1, h2⟩ := hx i hi
   obtain ⟨_, hlen, hcell⟩ := World.cells?_some h1
   obtain ⟨u, rfl⟩ : ∃ u, cs' = [u] := by
    match cs', hlen with
    | [u], _ => exact ⟨u, rfl⟩
   obtain ⟨s, e, _, hs⟩ := DataW.trod_string Tryz.underlying9 h2
   simp only [List.cons.injEq, and_true] at e
   subst e
   have := hcell 0 (by omega)
   rw [add_add] at this
   simp only [Nat.mul_one, Nat.add_zero] at this
   exact ⟨s, hs, by rw [this]; rfl⟩
  obtain ⟨q, hq⟩ := choose_lt each
  refine ⟨(List.range len).map q, some a, cap, ?_, ?_, ?_, ?_, ?_⟩
  ·simp
  ·exact ⟨by simp; omega, fun h => by cases h⟩
  ·unfold maxLen at hm; simp; omega
  ·intro x hx'
   simp at hx'
   obtain ⟨i, hi, rfl⟩ := hx'
   exact (hq i (by omega)).1
  ·intro hne
   have hpos : 0 < len := by
    rcases Nat.eq_zero_or_pos len with h0 | h0
    ·subst h0; simp at hne
    ·exact h0
   obtain ⟨b, off, spot⟩ := a
   have hc := (hq 0 (by omega)).2
   have hspot : spot = none := by simpa [Addr.add] using World.cell?_spot hc
   subst hspot
   have hb := World.block_lt_of_cell? _ _ hc
   refine ⟨b, off, rfl, by simpa [Addr.add_lit] using hb, fun i x hi => ?_⟩
   have hil : i < len := by
    have := (List.getElem?_eq_some_iff.1 hi).1
    simpa using this
   have hxe : x = q i := by
    rw [List.getElem?_map, List.getElem?_range hil] at hi
    simpa using hi.symm
   subst hxe
   have := (hq i (by omega)).2
   rwa [Addr.add_lit] at this
end
section
variable {H : Type} {enc : TypeId × Value -> H} {w : World} {base : Nat} {spare : Nat -> Bool} {held : Bool}
theorem Zg6 {fuel : Nat} {v0 v1 v2 v3 v4 v5 v6 v7 : Value} {x : DataW H × List MemPlace} (hf : DataW.trod enc Tryz.prog w base spare held fuel 107 [v0, v1, v2, v3, v4, v5, v6, v7] = some x) :
  ∃ xs, ∃ m : Mc, v1 = .int .i64 m.p /\ v2 = .int .i64 m.s /\ v3 = .int .i64 m.e /\ v4 = .int .i64 m.d /\ v5 = .int .i64 m.t /\ v6 = .int .i64 m.q /\ v7 = .int .i64 m.r /\ NRow w v0 xs := by
 obtain ⟨xs, n, _, _, hl, hlen, hff⟩ := DataW.trod_struct Tryz.underlying107 hf
 have g0 := hff 0 _ rfl
 have g1 := hff 1 _ rfl
 have g2 := hff 2 _ rfl
 have g3 := hff 3 _ rfl
 have g4 := hff 4 _ rfl
 have g5 := hff 5 _ rfl
 have g6 := hff 6 _ rfl
 have g7 := hff 7 _ rfl
 have i0 : Tryz.prog.cellsOf 24 = 1 := by kernel_rfl
 have i1 : Tryz.prog.cellsOf 3 = 1 := by kernel_rfl
 match xs, hlen with
 | [y0, y1, y2, y3, y4, y5, y6, y7], _ =>
  simp [i0, i1] at g0 g1 g2 g3 g4 g5 g6 g7
  obtain ⟨m1, e1, _⟩ := DataW.trod_int Tryz.underlying3 g1
  obtain ⟨m2, e2, _⟩ := DataW.trod_int Tryz.underlying3 g2
  obtain ⟨m3, e3, _⟩ := DataW.trod_int Tryz.underlying3 g3
  obtain ⟨m4, e4, _⟩ := DataW.trod_int Tryz.underlying3 g4
  obtain ⟨m5, e5, _⟩ := DataW.trod_int Tryz.underlying3 g5
  obtain ⟨m6, e6, _⟩ := DataW.trod_int Tryz.underlying3 g6
  obtain ⟨m7, e7, _⟩ := DataW.trod_int Tryz.underlying3 g7
  simp only [List.cons.injEq, and_true] at e1 e2 e3 e4 e5 e6 e7
  subst e1 e2 e3 e4 e5 e6 e7
  obtain ⟨z0, n', _, _, h0⟩ := trod_struct1 Tryz.underlying24 g0
  have i3 : Tryz.prog.cellsOf 22 = 1 := by kernel_rfl
  simp [i3] at h0
  obtain ⟨ns, R1⟩ := ZgK h0
  exact ⟨ns, ⟨m1, m2, m3, m4, m5, m6, m7⟩, rfl, rfl, rfl, rfl, rfl, rfl, rfl, R1⟩
end
section
variable {H : Type} {enc : TypeId × Value -> H} {w : World} {base : Nat} {spare : Nat -> Bool} {held : Bool}
theorem Zkl {fuel : Nat} {cs : List Value} {x : DataW H × List MemPlace} (h : DataW.trod enc Tryz.prog w base spare held fuel 168 cs = some x) :
  ∃ nd : In, cs = nd.cs /\ nd.s.size <= maxLen := by
 obtain ⟨xs, n, _, _, hl, hlen, hf⟩ := DataW.trod_struct Tryz.underlying168 h
 rw [show Tryz.prog.cellsOf 168 = 4 by kernel_rfl] at hl
 match cs, hl with
 | [v0, v1, v2, v3], _ =>
  have g0 := hf 0 _ rfl
  have g1 := hf 1 _ rfl
  have g2 := hf 2 _ rfl
  have g3 := hf 3 _ rfl
  have i1 : Tryz.prog.cellsOf 3 = 1 := by kernel_rfl
  have i2 : Tryz.prog.cellsOf 9 = 1 := by kernel_rfl
  match xs, hlen with
  | [y0, y1, y2, y3], _ =>
   simp [i1, i2] at g0 g1 g2 g3
   obtain ⟨m0, e0, _⟩ := DataW.trod_int Tryz.underlying3 g0
   obtain ⟨m1, e1, _⟩ := DataW.trod_int Tryz.underlying3 g1
   obtain ⟨m2, e2, _⟩ := DataW.trod_int Tryz.underlying3 g2
   obtain ⟨m3, e3, _, hs⟩ := DataW.trod_string Tryz.underlying9 g3
   simp only [List.cons.injEq, and_true] at e0 e1 e2 e3
   subst e0 e1 e2 e3
   exact ⟨⟨m0, m1, m2, m3⟩, rfl, hs⟩
theorem Zkc {fuel : Nat} {v' : Value} {y0 : DataW H × List MemPlace} (h0 : DataW.trod enc Tryz.prog w base spare held fuel 25 [v'] = some y0) :
  ∃ xs, InRow w v' xs := by
 have i5 : Tryz.prog.cellsOf 168 = 4 := by kernel_rfl
 rcases open_slice Tryz.underlying25 h0 with ⟨hcs, _⟩ | ⟨a, len, cap, m, n, D, Pl, hcs, _, hl, hm, hmm, _, hx⟩
 ·simp at hcs
  subst hcs
  exact ⟨[], none, 0, rfl, by simp, by simp, by simp, fun h => absurd rfl h⟩
 ·simp at hcs
  subst hcs
  have hlm : len <= m := by rw [hmm]; split <;> omega
  rw [i5] at hx
  have each : ∀ i, i < m -> ∃ nd : In, nd.s.size <= maxLen /\ ∀ j, j < 4 -> w.cell? (a.add (i * 4 + j)) = nd.cs[j]? := by
   intro i hi
   obtain ⟨cs', h1, h2⟩ := hx i hi
   obtain ⟨nd, rfl, hs⟩ := Zkl h2
   obtain ⟨_, hlen, hcell⟩ := World.cells?_some h1
   refine ⟨nd, hs, fun j hj => ?_⟩
   have := hcell j (by omega)
   rw [add_add] at this
   rw [this]
  haveI : Inhabited In := ⟨Ze9⟩
  obtain ⟨q, hq⟩ := choose_lt each
  refine ⟨(List.range len).map q, some a, cap, ?_, ?_, ?_, ?_, ?_⟩
  ·simp
  ·exact ⟨by simp; omega, fun h => by cases h⟩
  ·unfold maxLen at hm; simp; omega
  ·intro x hx'
   simp at hx'
   obtain ⟨i, hi, rfl⟩ := hx'
   exact (hq i (by omega)).1
  ·intro hne
   have hpos : 0 < len := by
    rcases Nat.eq_zero_or_pos len with h0 | h0
    ·subst h0; simp at hne
    ·exact h0
   obtain ⟨b, off, spot⟩ := a
   have hc := (hq 0 (by omega)).2 0 (by omega)
   simp only [In.cs, List.getElem?_cons_zero] at hc
   have hspot : spot = none := by simpa [Addr.add] using World.cell?_spot hc
   subst hspot
   have hb := World.block_lt_of_cell? _ _ hc
   refine ⟨b, off, rfl, by simpa [Addr.add_lit] using hb, fun i x hi => ?_⟩
   have hil : i < len := by
    have := (List.getElem?_eq_some_iff.1 hi).1
    simpa using this
   have hxe : x = q i := by
    rw [List.getElem?_map, List.getElem?_range hil] at hi
    simpa using hi.symm
   subst hxe
   have e : ∀ j, j < 4 -> w.cell? ⟨b, off + i * 4 + j, none⟩ = (q i).cs[j]? := fun j hj => by
    have := (hq i (by omega)).2 j hj
    rw [Addr.add_lit] at this
    rw [<- this, Nat.add_assoc]
   exact ⟨e 0 (by omega), e 1 (by omega), e 2 (by omega), e 3 (by omega)⟩
end
section
variable {H : Type} {enc : TypeId × Value -> H} {w : World} {base : Nat} {spare : Nat -> Bool} {held : Bool}
theorem Zkv {fuel : Nat} {cs : List Value} {x : DataW H × List MemPlace} (h : DataW.trod enc Tryz.prog w base spare held fuel 171 cs = some x) :
  ∃ nd : Df, cs = nd.cs /\ nd.s.size <= maxLen := by
 obtain ⟨xs, n, _, _, hl, hlen, hf⟩ := DataW.trod_struct Tryz.underlying171 h
 rw [show Tryz.prog.cellsOf 171 = 3 by kernel_rfl] at hl
 match cs, hl with
 | [v0, v1, v2], _ =>
  have g0 := hf 0 _ rfl
  have g1 := hf 1 _ rfl
  have g2 := hf 2 _ rfl
  have i1 : Tryz.prog.cellsOf 3 = 1 := by kernel_rfl
  have i2 : Tryz.prog.cellsOf 9 = 1 := by kernel_rfl
  match xs, hlen with
  | [y0, y1, y2], _ =>
   simp [i1, i2] at g0 g1 g2
   obtain ⟨m0, e0, _, hs⟩ := DataW.trod_string Tryz.underlying9 g0
   obtain ⟨m1, e1, _⟩ := DataW.trod_int Tryz.underlying3 g1
   obtain ⟨m2, e2, _⟩ := DataW.trod_int Tryz.underlying3 g2
   simp only [List.cons.injEq, and_true] at e0 e1 e2
   subst e0 e1 e2
   exact ⟨⟨m0, m1, m2⟩, rfl, hs⟩
theorem Zkr {fuel : Nat} {v' : Value} {y0 : DataW H × List MemPlace} (h0 : DataW.trod enc Tryz.prog w base spare held fuel 26 [v'] = some y0) :
  ∃ xs, DfRow w v' xs := by
 have i5 : Tryz.prog.cellsOf 171 = 3 := by kernel_rfl
 rcases open_slice Tryz.underlying26 h0 with ⟨hcs, _⟩ | ⟨a, len, cap, m, n, D, Pl, hcs, _, hl, hm, hmm, _, hx⟩
 ·simp at hcs
  subst hcs
  exact ⟨[], none, 0, rfl, by simp, by simp, by simp, fun h => absurd rfl h⟩
 ·simp at hcs
  subst hcs
  have hlm : len <= m := by rw [hmm]; split <;> omega
  rw [i5] at hx
  have each : ∀ i, i < m -> ∃ nd : Df, nd.s.size <= maxLen /\ ∀ j, j < 3 -> w.cell? (a.add (i * 3 + j)) = nd.cs[j]? := by
   intro i hi
   obtain ⟨cs', h1, h2⟩ := hx i hi
   obtain ⟨nd, rfl, hs⟩ := Zkv h2
   obtain ⟨_, hlen, hcell⟩ := World.cells?_some h1
   refine ⟨nd, hs, fun j hj => ?_⟩
   have := hcell j (by omega)
   rw [add_add] at this
   rw [this]
  haveI : Inhabited Df := ⟨Ze3⟩
  obtain ⟨q, hq⟩ := choose_lt each
  refine ⟨(List.range len).map q, some a, cap, ?_, ?_, ?_, ?_, ?_⟩
  ·simp
  ·exact ⟨by simp; omega, fun h => by cases h⟩
  ·unfold maxLen at hm; simp; omega
  ·intro x hx'
   simp at hx'
   obtain ⟨i, hi, rfl⟩ := hx'
   exact (hq i (by omega)).1
  ·intro hne
   have hpos : 0 < len := by
    rcases Nat.eq_zero_or_pos len with h0 | h0
    ·subst h0; simp at hne
    ·exact h0
   obtain ⟨b, off, spot⟩ := a
   have hc := (hq 0 (by omega)).2 0 (by omega)
   simp only [Df.cs, List.getElem?_cons_zero] at hc
   have hspot : spot = none := by simpa [Addr.add] using World.cell?_spot hc
   subst hspot
   have hb := World.block_lt_of_cell? _ _ hc
   refine ⟨b, off, rfl, by simpa [Addr.add_lit] using hb, fun i x hi => ?_⟩
   have hil : i < len := by
    have := (List.getElem?_eq_some_iff.1 hi).1
    simpa using this
   have hxe : x = q i := by
    rw [List.getElem?_map, List.getElem?_range hil] at hi
    simpa using hi.symm
   subst hxe
   have e : ∀ j, j < 3 -> w.cell? ⟨b, off + i * 3 + j, none⟩ = (q i).cs[j]? := fun j hj => by
    have := (hq i (by omega)).2 j hj
    rw [Addr.add_lit] at this
    rw [<- this, Nat.add_assoc]
   exact ⟨e 0 (by omega), e 1 (by omega), e 2 (by omega)⟩
end
end Go.Proofs.YtfmafkebddojjaaGreatDoor
