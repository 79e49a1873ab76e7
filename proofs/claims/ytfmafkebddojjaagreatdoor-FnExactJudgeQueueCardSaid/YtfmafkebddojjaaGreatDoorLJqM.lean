/-
  The law FnExactJudgeQueue, walked: for every world it returns true and writes nothing that was there. The variable errors.errorType reads as it is laid.
-/
import Derived.Test.YtfmafkebddojjaaGreatDoorJgPM
namespace Go.Proofs.YtfmafkebddojjaaGreatDoor
open Go.RowKit
set_option maxRecDepth 100000 in
set_option maxHeartbeats 6400000 in
theorem ZgD {t0 t2 t3 t4 t6 t7 t8 t9 t10 t11 t12 t13 t14 t15 t16 t17 t18 t19 t20 t21 t22 t23 t24 t25 t26 : Value} {fs : List Deferred} (y0 b0 C : Nat) (yyn aan yyi aai yyf aaf yyh aah yyl aal yyg aag yyp aap yya aaa yyt aat : Option Addr) (zzn ccn zzi cci zzf ccf zzh cch zzl ccl zzg ccg zzp ccp zza cca zzt cct : Nat) (d : Wd) (w : World) (Q : Exit -> Act -> World -> Prop)
  (hy : w.heap[y0]? = some (.cells #[.slice yyn d.ns.length zzn, .slice yyi d.is.length zzi, .slice yyf d.ds.length zzf, .int .i64 d.pl, .slice yyh d.hs.length zzh, .slice yyl d.ls.length zzl, .slice yyg d.gs.length zzg, .slice yyp d.ps.length zzp, .int .i64 d.nx, .slice yya d.ga.length zza, .slice yyt d.tk.length zzt] 50 (0, 0))) (hk : w.heap[b0]? = some (.cells #[.slice aan d.ns.length ccn, .slice aai d.is.length cci, .slice aaf d.ds.length ccf, .int .i64 d.pl, .slice aah d.hs.length cch, .slice aal d.ls.length ccl, .slice aag d.gs.length ccg, .slice aap d.ps.length ccp, .int .i64 d.nx, .slice aaa d.ga.length cca, .slice aat d.tk.length cct] 35 (0, 0))) (E : WR C w (.slice yyn d.ns.length zzn) (.slice yyi d.is.length zzi) (.slice yyf d.ds.length zzf) (.slice yyh d.hs.length zzh) (.slice yyl d.ls.length zzl) (.slice yyg d.gs.length zzg) (.slice yyp d.ps.length zzp) (.slice yya d.ga.length zza) (.slice yyt d.tk.length zzt) d) (R : WR 0 w (.slice aan d.ns.length ccn) (.slice aai d.is.length cci) (.slice aaf d.ds.length ccf) (.slice aah d.hs.length cch) (.slice aal d.ls.length ccl) (.slice aag d.gs.length ccg) (.slice aap d.ps.length ccp) (.slice aaa d.ga.length cca) (.slice aat d.tk.length cct) d) (Sm : SmW d)
  (hQ : ∀ u22 u23 u24 u25 (W : World), Below w.heap.size w W -> Q .normal ⟨#[t0, .pointer (some ⟨b0, 0, none⟩), t2, t3, t4, .pointer (some ⟨y0, 0, none⟩), t6, t7, t8, t9, t10, t11, t12, t13, t14, t15, t16, t17, t18, t19, t20, t21, u22, u23, u24, u25, .bool false], fs⟩ W) :
  (Code.region 10 (List.toArray (⟨some 22, .load 50 (.tmp 5), 50, "exact.go:4309", #[], none⟩ :: ⟨some 23, .load 35 (.tmp 1), 35, "exact.go:4309", #[], none⟩ :: ⟨some 24, .call { callee := .value (.func 11), args := #[.tmp 23], argTypes := #[35] }, 50, "exact.go:4309", #[⟨1, .data⟩], none⟩ :: ⟨some 25, .call { callee := .value (.func 13), args := #[.tmp 22, .tmp 24], argTypes := #[50, 50] }, 4, "exact.go:4309", #[⟨0, .data⟩, ⟨2, .data⟩, ⟨2, .chain⟩], none⟩ :: ⟨some 26, .unOp .not 4 (.tmp 25), 4, "exact.go:4309", #[⟨3, .data⟩], none⟩ :: [])) true).wp Tryz.prog Q ⟨#[t0, .pointer (some ⟨b0, 0, none⟩), t2, t3, t4, .pointer (some ⟨y0, 0, none⟩), t6, t7, t8, t9, t10, t11, t12, t13, t14, t15, t16, t17, t18, t19, t20, t21, t22, t23, t24, t25, t26], fs⟩ w := by
 have hS : ∀ w', Below w.heap.size w w' -> (w'.heap[y0]? = some (.cells #[.slice yyn d.ns.length zzn, .slice yyi d.is.length zzi, .slice yyf d.ds.length zzf, .int .i64 d.pl, .slice yyh d.hs.length zzh, .slice yyl d.ls.length zzl, .slice yyg d.gs.length zzg, .slice yyp d.ps.length zzp, .int .i64 d.nx, .slice yya d.ga.length zza, .slice yyt d.tk.length zzt] 50 (0, 0)) /\ w'.heap[b0]? = some (.cells #[.slice aan d.ns.length ccn, .slice aai d.is.length cci, .slice aaf d.ds.length ccf, .int .i64 d.pl, .slice aah d.hs.length cch, .slice aal d.ls.length ccl, .slice aag d.gs.length ccg, .slice aap d.ps.length ccp, .int .i64 d.nx, .slice aaa d.ga.length cca, .slice aat d.tk.length cct] 35 (0, 0))) := fun w' hb => ⟨Zab hy hb, Zab hk hb⟩
 have B : Below w.heap.size w w.drew := Zax w
 refine wp_region_noPanic ?_
 refine wp_region_held_drew (S := fun w' => w'.heap[y0]? = some (.cells #[.slice yyn d.ns.length zzn, .slice yyi d.is.length zzi, .slice yyf d.ds.length zzf, .int .i64 d.pl, .slice yyh d.hs.length zzh, .slice yyl d.ls.length zzl, .slice yyg d.gs.length zzg, .slice yyp d.ps.length zzp, .int .i64 d.nx, .slice yya d.ga.length zza, .slice yyt d.tk.length zzt] 50 (0, 0)) /\ w'.heap[b0]? = some (.cells #[.slice aan d.ns.length ccn, .slice aai d.is.length cci, .slice aaf d.ds.length ccf, .int .i64 d.pl, .slice aah d.hs.length cch, .slice aal d.ls.length ccl, .slice aag d.gs.length ccg, .slice aap d.ps.length ccp, .int .i64 d.nx, .slice aaa d.ga.length cca, .slice aat d.tk.length cct] 35 (0, 0))) (by kernel_rfl) (hS _ B) (fun hHeld => ?_)
 refine wpAnyH_take (i := 0) (oi := ⟨some 22, .load 50 (.tmp 5), 50, "exact.go:4309", #[], none⟩) (v := .agg #[.slice yyn d.ns.length zzn, .slice yyi d.is.length zzi, .slice yyf d.ds.length zzf, .int .i64 d.pl, .slice yyh d.hs.length zzh, .slice yyl d.ls.length zzl, .slice yyg d.gs.length zzg, .slice yyp d.ps.length zzp, .int .i64 d.nx, .slice yya d.ga.length zza, .slice yyt d.tk.length zzt]) rfl (by kernel_rfl) (by kernel_rfl) (by kernel_rfl) (fun _ _ _ h => h) (ZaJ (by rfl) 50 _ rfl y0 rfl #[.slice yyn d.ns.length zzn, .slice yyi d.is.length zzi, .slice yyf d.ds.length zzf, .int .i64 d.pl, .slice yyh d.hs.length zzh, .slice yyl d.ls.length zzl, .slice yyg d.gs.length zzg, .slice yyp d.ps.length zzp, .int .i64 d.nx, .slice yya d.ga.length zza, .slice yyt d.tk.length zzt] 50 _ (fun _ h => h.1) Tryz.underlying50 rfl Zle) (by assumption) ?_
 simp only [Act.put, sit, sc0, scs]
 refine wpAnyH_take (i := 1) (oi := ⟨some 23, .load 35 (.tmp 1), 35, "exact.go:4309", #[], none⟩) (v := .agg #[.slice aan d.ns.length ccn, .slice aai d.is.length cci, .slice aaf d.ds.length ccf, .int .i64 d.pl, .slice aah d.hs.length cch, .slice aal d.ls.length ccl, .slice aag d.gs.length ccg, .slice aap d.ps.length ccp, .int .i64 d.nx, .slice aaa d.ga.length cca, .slice aat d.tk.length cct]) rfl (by kernel_rfl) (by kernel_rfl) (by kernel_rfl) (fun _ _ _ h => h) (ZaJ (by rfl) 35 _ rfl b0 rfl #[.slice aan d.ns.length ccn, .slice aai d.is.length cci, .slice aaf d.ds.length ccf, .int .i64 d.pl, .slice aah d.hs.length cch, .slice aal d.ls.length ccl, .slice aag d.gs.length ccg, .slice aap d.ps.length ccp, .int .i64 d.nx, .slice aaa d.ga.length cca, .slice aat d.tk.length cct] 35 _ (fun _ h => h.2) Tryz.underlying35 rfl Zk7) (by assumption) ?_
 simp only [Act.put, sit, sc0, scs]
 refine wpAnyH_ready (rs := [2]) (by kernel_rfl) (by simp) ?_
 refine AllReadyH.cons rfl (fun K hK => ?_) AllReadyH.nil
 go_simp
 go_wp2_with (go_at_call 11; with_reducible refine (Za7 _ _ _ _ _ _ _ _ _ d 0 _ (R.below B) Sm).mono ?_; rintro e wA ⟨un, ui, uf, uh, ul, ug, up, ua, ut, rfl, RT, hb⟩)
 replace B := B.trans (hb.mono B.size)
 obtain ⟨⟨ttn, vvn, rfl⟩, ⟨tti, vvi, rfl⟩, ⟨ttf, vvf, rfl⟩, ⟨tth, vvh, rfl⟩, ⟨ttl, vvl, rfl⟩, ⟨ttg, vvg, rfl⟩, ⟨ttp, vvp, rfl⟩, ⟨tta, vva, rfl⟩, ⟨ttt, vvt, rfl⟩⟩ := RT.form
 clear hb
 refine hK.out _ _ (hS _ B) (fun hHeld => ?_)
 clear hK
 refine wpAnyH_ready (rs := [3]) (by kernel_rfl) (by simp) ?_
 refine AllReadyH.cons rfl (fun K hK => ?_) AllReadyH.nil
 go_simp
 go_wp2_with (go_at_call 13; with_reducible refine (Zdd _ _ _ _ _ _ _ _ _ _ _ _ _ _ _ _ _ _ d C _ _ (E.below B) RT).mono ?_; rintro e wZ ⟨rfl, hb⟩)
 replace B := B.trans (hb.mono B.size)
 clear hb
 refine hK.out _ _ (hS _ B) (fun hHeld => ?_)
 clear hK
 refine wpAnyH_take (i := 4) (oi := ⟨some 26, .unOp .not 4 (.tmp 25), 4, "exact.go:4309", #[⟨3, .data⟩], none⟩) (v := .bool false) rfl (by kernel_rfl) (by kernel_rfl) (by kernel_rfl) (fun _ _ _ h => h) (Or.inl ⟨by rfl, by intro w hSw; go_simp⟩) (by assumption) ?_
 simp only [Act.put, sit, sc0, scs]
 refine wpAnyH_done (by kernel_rfl) ?_ _
 exact NoPanic.normal (hQ _ _ _ _ _ B)
set_option maxRecDepth 100000 in
set_option maxHeartbeats 6400000 in
theorem Zfr (vn vi vf vh vl vg vp va vt : Value) (d : Wd) (w : World) (R : WR 0 w vn vi vf vh vl vg vp va vt d) (hg : ErrT w) :
  Calls Tryz.prog 5 #[.agg #[vn, vi, vf, .int .i64 d.pl, vh, vl, vg, vp, .int .i64 d.nx, va, vt]] w fun e w' => e = .returned (.bool true) /\ Below w.heap.size w w' := by
 obtain ⟨⟨aan, ccn, rfl⟩, ⟨aai, cci, rfl⟩, ⟨aaf, ccf, rfl⟩, ⟨aah, cch, rfl⟩, ⟨aal, ccl, rfl⟩, ⟨aag, ccg, rfl⟩, ⟨aap, ccp, rfl⟩, ⟨aaa, cca, rfl⟩, ⟨aat, cct, rfl⟩⟩ := R.form
 have hB : Below w.heap.size w (w.alloc (Obj.cells #[.slice aan d.ns.length ccn, .slice aai d.is.length cci, .slice aaf d.ds.length ccf, .int .i64 d.pl, .slice aah d.hs.length cch, .slice aal d.ls.length ccl, .slice aag d.gs.length ccg, .slice aap d.ps.length ccp, .int .i64 d.nx, .slice aaa d.ga.length cca, .slice aat d.tk.length cct] 35)) := (Below.refl _ _).alloc (Nat.le_refl _) _
 have hx : (w.alloc (Obj.cells #[.slice aan d.ns.length ccn, .slice aai d.is.length cci, .slice aaf d.ds.length ccf, .int .i64 d.pl, .slice aah d.hs.length cch, .slice aal d.ls.length ccl, .slice aag d.gs.length ccg, .slice aap d.ps.length ccp, .int .i64 d.nx, .slice aaa d.ga.length cca, .slice aat d.tk.length cct] 35)).heap[w.heap.size]? = some (Obj.cells #[.slice aan d.ns.length ccn, .slice aai d.is.length cci, .slice aaf d.ds.length ccf, .int .i64 d.pl, .slice aah d.hs.length cch, .slice aal d.ls.length ccl, .slice aag d.gs.length ccg, .slice aap d.ps.length ccp, .int .i64 d.nx, .slice aaa d.ga.length cca, .slice aat d.tk.length cct] 35) := heap_alloc_new _ _
 go_enter Tryz.func5, Tryz.ntmps5
 go_wp2_with (refine wpList_load_row rfl 35 _ rfl w.heap.size rfl 35 #[.slice aan d.ns.length ccn, .slice aai d.is.length cci, .slice aaf d.ds.length ccf, .int .i64 d.pl, .slice aah d.hs.length cch, .slice aal d.ls.length ccl, .slice aag d.gs.length ccg, .slice aap d.ps.length ccp, .int .i64 d.nx, .slice aaa d.ga.length cca, .slice aat d.tk.length cct] (0, 0) _ hx Tryz.underlying35 rfl Zk7 ?_)
 refine (Zc9 _ _ _ _ _ _ _ _ _ d 0 _ (R.below hB)).mono ?_
 rintro e w1 ⟨r, rfl, h0, h1, h2, hb⟩
 replace hx := Zab hx hb
 replace hB := hB.trans (hb.mono hB.size)
 clear hb
 by_cases hr : r < 0
 ·go_wp2
  go_ret
  exact ⟨rfl, hB⟩
 ·have Sm := h2 (by omega)
  go_wp2_with (refine wpList_load_row rfl 35 _ rfl w.heap.size rfl 35 #[.slice aan d.ns.length ccn, .slice aai d.is.length cci, .slice aaf d.ds.length ccf, .int .i64 d.pl, .slice aah d.hs.length cch, .slice aal d.ls.length ccl, .slice aag d.gs.length ccg, .slice aap d.ps.length ccp, .int .i64 d.nx, .slice aaa d.ga.length cca, .slice aat d.tk.length cct] (0, 0) _ hx Tryz.underlying35 rfl Zk7 ?_)
  refine (Za7 _ _ _ _ _ _ _ _ _ d 0 _ (R.below hB) Sm).mono ?_
  rintro e w2 ⟨un, ui, uf, uh, ul, ug, up, ua, ut, rfl, RT, hb⟩
  replace hx := Zab hx hb
  replace hB := hB.trans (hb.mono hB.size)
  clear hb
  go_wp2_with fail
  refine (Zfw _ _ _ _ _ _ _ _ _ d _ _ RT Sm.hh.2).mono ?_
  rintro e w3 ⟨rfl, hb⟩
  replace hx := Zab hx hb
  replace hB := hB.trans (hb.mono hB.size)
  clear hb RT
  go_wp2_with (refine wpList_load_row rfl 35 _ rfl w.heap.size rfl 35 #[.slice aan d.ns.length ccn, .slice aai d.is.length cci, .slice aaf d.ds.length ccf, .int .i64 d.pl, .slice aah d.hs.length cch, .slice aal d.ls.length ccl, .slice aag d.gs.length ccg, .slice aap d.ps.length ccp, .int .i64 d.nx, .slice aaa d.ga.length cca, .slice aat d.tk.length cct] (0, 0) _ hx Tryz.underlying35 rfl Zk7 ?_)
  refine (Za7 _ _ _ _ _ _ _ _ _ d 0 _ (R.below hB) Sm).mono ?_
  rintro e w4 ⟨un, ui, uf, uh, ul, ug, up, ua, ut, rfl, RT, hb⟩
  replace hx := Zab hx hb
  replace hB := hB.trans (hb.mono hB.size)
  clear hb
  obtain ⟨⟨yyn, zzn, rfl⟩, ⟨yyi, zzi, rfl⟩, ⟨yyf, zzf, rfl⟩, ⟨yyh, zzh, rfl⟩, ⟨yyl, zzl, rfl⟩, ⟨yyg, zzg, rfl⟩, ⟨yyp, zzp, rfl⟩, ⟨yya, zza, rfl⟩, ⟨yyt, zzt, rfl⟩⟩ := RT.form
  have hb := Zam w4 (Obj.cells #[.slice yyn d.ns.length zzn, .slice yyi d.is.length zzi, .slice yyf d.ds.length zzf, .int .i64 d.pl, .slice yyh d.hs.length zzh, .slice yyl d.ls.length zzl, .slice yyg d.gs.length zzg, .slice yyp d.ps.length zzp, .int .i64 d.nx, .slice yya d.ga.length zza, .slice yyt d.tk.length zzt] 50)
  have hy : (w4.alloc (Obj.cells #[.slice yyn d.ns.length zzn, .slice yyi d.is.length zzi, .slice yyf d.ds.length zzf, .int .i64 d.pl, .slice yyh d.hs.length zzh, .slice yyl d.ls.length zzl, .slice yyg d.gs.length zzg, .slice yyp d.ps.length zzp, .int .i64 d.nx, .slice yya d.ga.length zza, .slice yyt d.tk.length zzt] 50)).heap[w4.heap.size]? = some (Obj.cells #[.slice yyn d.ns.length zzn, .slice yyi d.is.length zzi, .slice yyf d.ds.length zzf, .int .i64 d.pl, .slice yyh d.hs.length zzh, .slice yyl d.ls.length zzl, .slice yyg d.gs.length zzg, .slice yyp d.ps.length zzp, .int .i64 d.nx, .slice yya d.ga.length zza, .slice yyt d.tk.length zzt] 50) := heap_alloc_new _ _
  replace hx := Zab hx hb
  replace hB := hB.trans (hb.mono hB.size)
  replace RT := RT.below hb
  clear hb
  obtain ⟨W5, hW5⟩ : ∃ W5, w4.alloc (Obj.cells #[.slice yyn d.ns.length zzn, .slice yyi d.is.length zzi, .slice yyf d.ds.length zzf, .int .i64 d.pl, .slice yyh d.hs.length zzh, .slice yyl d.ls.length zzl, .slice yyg d.gs.length zzg, .slice yyp d.ps.length zzp, .int .i64 d.nx, .slice yya d.ga.length zza, .slice yyt d.tk.length zzt] 50) = W5 := ⟨_, rfl⟩
  rw [hW5] at hx hy hB RT
  go_wp2_with (refine wpList_load_row rfl 50 _ rfl w4.heap.size rfl 50 #[.slice yyn d.ns.length zzn, .slice yyi d.is.length zzi, .slice yyf d.ds.length zzf, .int .i64 d.pl, .slice yyh d.hs.length zzh, .slice yyl d.ls.length zzl, .slice yyg d.gs.length zzg, .slice yyp d.ps.length zzp, .int .i64 d.nx, .slice yya d.ga.length zza, .slice yyt d.tk.length zzt] (0, 0) _ (by first | exact hy | (rw [hW5]; exact hy)) Tryz.underlying50 rfl Zle ?_)
  first | rw [hW5] | skip
  refine (Zfh _ _ _ _ _ _ _ _ _ d _ (RT.mono (Nat.zero_le _)) Sm (hg.below hB (Nat.le_refl _))).mono ?_
  rintro e w6 ⟨rfl, hb⟩
  replace hx := Zab hx hb
  replace hy := Zab hy hb
  replace hB := hB.trans (hb.mono hB.size)
  replace RT := RT.below hb
  clear hb hW5
  obtain ⟨q, hq⟩ : ∃ q, (Zap d && queB d) = q := ⟨_, rfl⟩
  rw [hq]
  clear hq
  have hne : (q != q) = false := by simp
  go_wp2_with fail
  refine ZgD w4.heap.size w.heap.size _ yyn aan yyi aai yyf aaf yyh aah yyl aal yyg aag yyp aap yya aaa yyt aat zzn ccn zzi cci zzf ccf zzh cch zzl ccl zzg ccg zzp ccp zza cca zzt cct d w6 _ hy hx RT (R.below hB) Sm ?_
  intro u22 u23 u24 u25 W hW
  replace hB := hB.trans (hW.mono hB.size)
  go_wp2
  go_ret
  exact ⟨rfl, hB⟩
end Go.Proofs.YtfmafkebddojjaaGreatDoor
