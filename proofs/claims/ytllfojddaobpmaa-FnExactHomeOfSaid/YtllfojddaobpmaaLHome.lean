/-
  The law FnExactHomeOf, walked: for every world and number it returns true and writes nothing that was there.
-/
import Derived.Test.YtllfojddaobpmaaWHome
namespace Go.Proofs.Ytllfojddaobpmaa
open Go.RowKit

set_option maxRecDepth 100000 in
set_option maxHeartbeats 6400000 in
theorem homeof_r10 {t0 t1 t3 t4 t5 t6 t8 t9 t10 t11 t12 t13 t14 t15 t16 t17 t18 t19 t20 t21 t22 t23 t24 t25 t26 t27 t28 t29 t30 : Value} {fs : List Deferred} (y0 b0 C : Nat) (yyn aan yyi aai yyf aaf yyh aah yyl aal yyg aag yyp aap yya aaa yyt aat : Option Addr) (zzn ccn zzi cci zzf ccf zzh cch zzl ccl zzg ccg zzp ccp zza cca zzt cct : Nat) (d : Wd) (w : World) (Q : Exit → Act → World → Prop)
    (hy : w.heap[y0]? = some (.cells #[.slice yyn d.ns.length zzn, .slice yyi d.is.length zzi, .slice yyf d.ds.length zzf, .int .i64 d.pl, .slice yyh d.hs.length zzh, .slice yyl d.ls.length zzl, .slice yyg d.gs.length zzg, .slice yyp d.ps.length zzp, .int .i64 d.nx, .slice yya d.ga.length zza, .slice yyt d.tk.length zzt] 54 (0, 0))) (hk : w.heap[b0]? = some (.cells #[.slice aan d.ns.length ccn, .slice aai d.is.length cci, .slice aaf d.ds.length ccf, .int .i64 d.pl, .slice aah d.hs.length cch, .slice aal d.ls.length ccl, .slice aag d.gs.length ccg, .slice aap d.ps.length ccp, .int .i64 d.nx, .slice aaa d.ga.length cca, .slice aat d.tk.length cct] 39 (0, 0))) (E : WR C w (.slice yyn d.ns.length zzn) (.slice yyi d.is.length zzi) (.slice yyf d.ds.length zzf) (.slice yyh d.hs.length zzh) (.slice yyl d.ls.length zzl) (.slice yyg d.gs.length zzg) (.slice yyp d.ps.length zzp) (.slice yya d.ga.length zza) (.slice yyt d.tk.length zzt) d) (R : WR 0 w (.slice aan d.ns.length ccn) (.slice aai d.is.length cci) (.slice aaf d.ds.length ccf) (.slice aah d.hs.length cch) (.slice aal d.ls.length ccl) (.slice aag d.gs.length ccg) (.slice aap d.ps.length ccp) (.slice aaa d.ga.length cca) (.slice aat d.tk.length cct) d) (Sm : SmW d)
    (hQ : ∀ u26 u27 u28 u29 (W : World), Below w.heap.size w W → Q .normal ⟨#[t0, t1, .pointer (some ⟨b0, 0, none⟩), t3, t4, t5, t6, .pointer (some ⟨y0, 0, none⟩), t8, t9, t10, t11, t12, t13, t14, t15, t16, t17, t18, t19, t20, t21, t22, t23, t24, t25, u26, u27, u28, u29, .bool false], fs⟩ W) :
    (Code.region 10 (List.toArray (({ dst := some 26, op := Op.load 54 (Operand.tmp 7), type := 54, pos := "exact.go:4113", after := #[], guard := none } : Oper) :: ({ dst := some 27, op := Op.load 39 (Operand.tmp 2), type := 39, pos := "exact.go:4113", after := #[], guard := none } : Oper) :: ({ dst := some 28, op := Op.call { callee := Callee.value (Operand.func 12), args := #[Operand.tmp 27], argTypes := #[39] }, type := 54, pos := "exact.go:4113", after := #[{ on := 1, ground := Ground.data }], guard := none } : Oper) :: ({ dst := some 29, op := Op.call { callee := Callee.value (Operand.func 14), args := #[Operand.tmp 26, Operand.tmp 28], argTypes := #[54, 54] }, type := 4, pos := "exact.go:4113", after := #[{ on := 0, ground := Ground.data }, { on := 2, ground := Ground.data }, { on := 2, ground := Ground.chain }], guard := none } : Oper) :: ({ dst := some 30, op := Op.unOp UnOp.not 4 (Operand.tmp 29), type := 4, pos := "exact.go:4113", after := #[{ on := 3, ground := Ground.data }], guard := none } : Oper) :: [])) true).wp Try.prog Q ⟨#[t0, t1, .pointer (some ⟨b0, 0, none⟩), t3, t4, t5, t6, .pointer (some ⟨y0, 0, none⟩), t8, t9, t10, t11, t12, t13, t14, t15, t16, t17, t18, t19, t20, t21, t22, t23, t24, t25, t26, t27, t28, t29, t30], fs⟩ w := by
  have hS : ∀ w', Below w.heap.size w w' → (w'.heap[y0]? = some (.cells #[.slice yyn d.ns.length zzn, .slice yyi d.is.length zzi, .slice yyf d.ds.length zzf, .int .i64 d.pl, .slice yyh d.hs.length zzh, .slice yyl d.ls.length zzl, .slice yyg d.gs.length zzg, .slice yyp d.ps.length zzp, .int .i64 d.nx, .slice yya d.ga.length zza, .slice yyt d.tk.length zzt] 54 (0, 0)) ∧ w'.heap[b0]? = some (.cells #[.slice aan d.ns.length ccn, .slice aai d.is.length cci, .slice aaf d.ds.length ccf, .int .i64 d.pl, .slice aah d.hs.length cch, .slice aal d.ls.length ccl, .slice aag d.gs.length ccg, .slice aap d.ps.length ccp, .int .i64 d.nx, .slice aaa d.ga.length cca, .slice aat d.tk.length cct] 39 (0, 0))) := fun w' hb => ⟨blk_bel hy hb, blk_bel hk hb⟩
  have B : Below w.heap.size w w.drew := drew_bel w
  refine wp_region_noPanic ?_
  refine wp_region_held_drew (S := fun w' => w'.heap[y0]? = some (.cells #[.slice yyn d.ns.length zzn, .slice yyi d.is.length zzi, .slice yyf d.ds.length zzf, .int .i64 d.pl, .slice yyh d.hs.length zzh, .slice yyl d.ls.length zzl, .slice yyg d.gs.length zzg, .slice yyp d.ps.length zzp, .int .i64 d.nx, .slice yya d.ga.length zza, .slice yyt d.tk.length zzt] 54 (0, 0)) ∧ w'.heap[b0]? = some (.cells #[.slice aan d.ns.length ccn, .slice aai d.is.length cci, .slice aaf d.ds.length ccf, .int .i64 d.pl, .slice aah d.hs.length cch, .slice aal d.ls.length ccl, .slice aag d.gs.length ccg, .slice aap d.ps.length ccp, .int .i64 d.nx, .slice aaa d.ga.length cca, .slice aat d.tk.length cct] 39 (0, 0))) (by kernel_rfl) (hS _ B) (fun hHeld => ?_)
  refine wpAnyH_take (i := 0) (oi := ({ dst := some 26, op := Op.load 54 (Operand.tmp 7), type := 54, pos := "exact.go:4113", after := #[], guard := none } : Oper)) (v := .agg #[.slice yyn d.ns.length zzn, .slice yyi d.is.length zzi, .slice yyf d.ds.length zzf, .int .i64 d.pl, .slice yyh d.hs.length zzh, .slice yyl d.ls.length zzl, .slice yyg d.gs.length zzg, .slice yyp d.ps.length zzp, .int .i64 d.nx, .slice yya d.ga.length zza, .slice yyt d.tk.length zzt]) rfl (by kernel_rfl) (by kernel_rfl) (by kernel_rfl) (fun _ _ _ h => h) (yields_row (by rfl) 54 _ rfl y0 rfl #[.slice yyn d.ns.length zzn, .slice yyi d.is.length zzi, .slice yyf d.ds.length zzf, .int .i64 d.pl, .slice yyh d.hs.length zzh, .slice yyl d.ls.length zzl, .slice yyg d.gs.length zzg, .slice yyp d.ps.length zzp, .int .i64 d.nx, .slice yya d.ga.length zza, .slice yyt d.tk.length zzt] 54 _ (fun _ h => h.1) Try.underlying54 rfl Try.sizeWd) (by assumption) ?_
  simp only [Act.put, List.setIfInBounds_toArray, List.set_cons_zero, List.set_cons_succ]
  refine wpAnyH_take (i := 1) (oi := ({ dst := some 27, op := Op.load 39 (Operand.tmp 2), type := 39, pos := "exact.go:4113", after := #[], guard := none } : Oper)) (v := .agg #[.slice aan d.ns.length ccn, .slice aai d.is.length cci, .slice aaf d.ds.length ccf, .int .i64 d.pl, .slice aah d.hs.length cch, .slice aal d.ls.length ccl, .slice aag d.gs.length ccg, .slice aap d.ps.length ccp, .int .i64 d.nx, .slice aaa d.ga.length cca, .slice aat d.tk.length cct]) rfl (by kernel_rfl) (by kernel_rfl) (by kernel_rfl) (fun _ _ _ h => h) (yields_row (by rfl) 39 _ rfl b0 rfl #[.slice aan d.ns.length ccn, .slice aai d.is.length cci, .slice aaf d.ds.length ccf, .int .i64 d.pl, .slice aah d.hs.length cch, .slice aal d.ls.length ccl, .slice aag d.gs.length ccg, .slice aap d.ps.length ccp, .int .i64 d.nx, .slice aaa d.ga.length cca, .slice aat d.tk.length cct] 39 _ (fun _ h => h.2) Try.underlying39 rfl Try.sizeLWd) (by assumption) ?_
  simp only [Act.put, List.setIfInBounds_toArray, List.set_cons_zero, List.set_cons_succ]
  refine wpAnyH_ready (rs := [2]) (by kernel_rfl) (by simp) ?_
  refine AllReadyH.cons rfl (fun K hK => ?_) AllReadyH.nil
  go_simp
  go_wp2_with (go_at_call 12; with_reducible refine (toworld_any _ _ _ _ _ _ _ _ _ d 0 _ (R.below B) Sm).mono ?_; rintro e wA ⟨un, ui, uf, uh, ul, ug, up, ua, ut, rfl, RT, hb⟩)
  replace B := B.trans (hb.mono B.size)
  obtain ⟨⟨ttn, vvn, rfl⟩, ⟨tti, vvi, rfl⟩, ⟨ttf, vvf, rfl⟩, ⟨tth, vvh, rfl⟩, ⟨ttl, vvl, rfl⟩, ⟨ttg, vvg, rfl⟩, ⟨ttp, vvp, rfl⟩, ⟨tta, vva, rfl⟩, ⟨ttt, vvt, rfl⟩⟩ := RT.form
  clear hb
  refine hK.out _ _ (hS _ B) (fun hHeld => ?_)
  clear hK
  refine wpAnyH_ready (rs := [3]) (by kernel_rfl) (by simp) ?_
  refine AllReadyH.cons rfl (fun K hK => ?_) AllReadyH.nil
  go_simp
  go_wp2_with (go_at_call 14; with_reducible refine (eqworld_any _ _ _ _ _ _ _ _ _ _ _ _ _ _ _ _ _ _ d C _ _ (E.below B) RT).mono ?_; rintro e wZ ⟨rfl, hb⟩)
  replace B := B.trans (hb.mono B.size)
  clear hb
  refine hK.out _ _ (hS _ B) (fun hHeld => ?_)
  clear hK
  refine wpAnyH_take (i := 4) (oi := ({ dst := some 30, op := Op.unOp UnOp.not 4 (Operand.tmp 29), type := 4, pos := "exact.go:4113", after := #[{ on := 3, ground := Ground.data }], guard := none } : Oper)) (v := .bool false) rfl (by kernel_rfl) (by kernel_rfl) (by kernel_rfl) (fun _ _ _ h => h) (Or.inl ⟨by rfl, by intro w hSw; go_simp⟩) (by assumption) ?_
  simp only [Act.put, List.setIfInBounds_toArray, List.set_cons_zero, List.set_cons_succ]
  refine wpAnyH_done (by kernel_rfl) ?_ _
  exact NoPanic.normal (hQ _ _ _ _ _ B)


set_option maxRecDepth 100000 in
set_option maxHeartbeats 6400000 in
theorem lhomeof_any (vn vi vf vh vl vg vp va vt : Value) (d : Wd) (p : Int) (w : World) (R : WR 0 w vn vi vf vh vl vg vp va vt d) :
    Calls Try.prog 5 #[.agg #[vn, vi, vf, .int .i64 d.pl, vh, vl, vg, vp, .int .i64 d.nx, va, vt], .int .i64 p] w fun e w' => e = .returned (.bool true) ∧ Below w.heap.size w w' := by
  obtain ⟨⟨aan, ccn, rfl⟩, ⟨aai, cci, rfl⟩, ⟨aaf, ccf, rfl⟩, ⟨aah, cch, rfl⟩, ⟨aal, ccl, rfl⟩, ⟨aag, ccg, rfl⟩, ⟨aap, ccp, rfl⟩, ⟨aaa, cca, rfl⟩, ⟨aat, cct, rfl⟩⟩ := R.form
  have hB : Below w.heap.size w (w.alloc (Obj.cells #[.slice aan d.ns.length ccn, .slice aai d.is.length cci, .slice aaf d.ds.length ccf, .int .i64 d.pl, .slice aah d.hs.length cch, .slice aal d.ls.length ccl, .slice aag d.gs.length ccg, .slice aap d.ps.length ccp, .int .i64 d.nx, .slice aaa d.ga.length cca, .slice aat d.tk.length cct] 39)) := (Below.refl _ _).alloc (Nat.le_refl _) _
  have hx : (w.alloc (Obj.cells #[.slice aan d.ns.length ccn, .slice aai d.is.length cci, .slice aaf d.ds.length ccf, .int .i64 d.pl, .slice aah d.hs.length cch, .slice aal d.ls.length ccl, .slice aag d.gs.length ccg, .slice aap d.ps.length ccp, .int .i64 d.nx, .slice aaa d.ga.length cca, .slice aat d.tk.length cct] 39)).heap[w.heap.size]? = some (Obj.cells #[.slice aan d.ns.length ccn, .slice aai d.is.length cci, .slice aaf d.ds.length ccf, .int .i64 d.pl, .slice aah d.hs.length cch, .slice aal d.ls.length ccl, .slice aag d.gs.length ccg, .slice aap d.ps.length ccp, .int .i64 d.nx, .slice aaa d.ga.length cca, .slice aat d.tk.length cct] 39) := heap_alloc_new _ _
  go_enter Try.func5, Try.ntmps5
  go_wp2_with (refine wpList_load_row rfl 39 _ rfl w.heap.size rfl 39 #[.slice aan d.ns.length ccn, .slice aai d.is.length cci, .slice aaf d.ds.length ccf, .int .i64 d.pl, .slice aah d.hs.length cch, .slice aal d.ls.length ccl, .slice aag d.gs.length ccg, .slice aap d.ps.length ccp, .int .i64 d.nx, .slice aaa d.ga.length cca, .slice aat d.tk.length cct] (0, 0) _ hx Try.underlying39 rfl Try.sizeLWd ?_)
  refine (szworld_any _ _ _ _ _ _ _ _ _ d 0 _ (R.below hB)).mono ?_
  rintro e w1 ⟨r, rfl, h0, h1, h2, hb⟩
  replace hx := blk_bel hx hb
  replace hB := hB.trans (hb.mono hB.size)
  clear hb
  by_cases hr : r < 0
  · go_wp2
    go_ret
    exact ⟨rfl, hB⟩
  · have Sm := h2 (by omega)
    go_wp2_with (refine wpList_load_row rfl 39 _ rfl w.heap.size rfl 39 #[.slice aan d.ns.length ccn, .slice aai d.is.length cci, .slice aaf d.ds.length ccf, .int .i64 d.pl, .slice aah d.hs.length cch, .slice aal d.ls.length ccl, .slice aag d.gs.length ccg, .slice aap d.ps.length ccp, .int .i64 d.nx, .slice aaa d.ga.length cca, .slice aat d.tk.length cct] (0, 0) _ hx Try.underlying39 rfl Try.sizeLWd ?_)
    refine (toworld_any _ _ _ _ _ _ _ _ _ d 0 _ (R.below hB) Sm).mono ?_
    rintro e w2 ⟨un, ui, uf, uh, ul, ug, up, ua, ut, rfl, RT, hb⟩
    replace hx := blk_bel hx hb
    replace hB := hB.trans (hb.mono hB.size)
    clear hb
    go_wp2_with fail
    refine (shomeof_any _ _ _ _ _ _ _ _ _ d p _ _ RT).mono ?_
    rintro e w3 ⟨rfl, hb⟩
    replace hx := blk_bel hx hb
    replace hB := hB.trans (hb.mono hB.size)
    clear hb RT
    go_wp2_with (refine wpList_load_row rfl 39 _ rfl w.heap.size rfl 39 #[.slice aan d.ns.length ccn, .slice aai d.is.length cci, .slice aaf d.ds.length ccf, .int .i64 d.pl, .slice aah d.hs.length cch, .slice aal d.ls.length ccl, .slice aag d.gs.length ccg, .slice aap d.ps.length ccp, .int .i64 d.nx, .slice aaa d.ga.length cca, .slice aat d.tk.length cct] (0, 0) _ hx Try.underlying39 rfl Try.sizeLWd ?_)
    refine (toworld_any _ _ _ _ _ _ _ _ _ d 0 _ (R.below hB) Sm).mono ?_
    rintro e w4 ⟨un, ui, uf, uh, ul, ug, up, ua, ut, rfl, RT, hb⟩
    replace hx := blk_bel hx hb
    replace hB := hB.trans (hb.mono hB.size)
    clear hb
    obtain ⟨⟨yyn, zzn, rfl⟩, ⟨yyi, zzi, rfl⟩, ⟨yyf, zzf, rfl⟩, ⟨yyh, zzh, rfl⟩, ⟨yyl, zzl, rfl⟩, ⟨yyg, zzg, rfl⟩, ⟨yyp, zzp, rfl⟩, ⟨yya, zza, rfl⟩, ⟨yyt, zzt, rfl⟩⟩ := RT.form
    have hb := alloc_bel w4 (Obj.cells #[.slice yyn d.ns.length zzn, .slice yyi d.is.length zzi, .slice yyf d.ds.length zzf, .int .i64 d.pl, .slice yyh d.hs.length zzh, .slice yyl d.ls.length zzl, .slice yyg d.gs.length zzg, .slice yyp d.ps.length zzp, .int .i64 d.nx, .slice yya d.ga.length zza, .slice yyt d.tk.length zzt] 54)
    have hy : (w4.alloc (Obj.cells #[.slice yyn d.ns.length zzn, .slice yyi d.is.length zzi, .slice yyf d.ds.length zzf, .int .i64 d.pl, .slice yyh d.hs.length zzh, .slice yyl d.ls.length zzl, .slice yyg d.gs.length zzg, .slice yyp d.ps.length zzp, .int .i64 d.nx, .slice yya d.ga.length zza, .slice yyt d.tk.length zzt] 54)).heap[w4.heap.size]? = some (Obj.cells #[.slice yyn d.ns.length zzn, .slice yyi d.is.length zzi, .slice yyf d.ds.length zzf, .int .i64 d.pl, .slice yyh d.hs.length zzh, .slice yyl d.ls.length zzl, .slice yyg d.gs.length zzg, .slice yyp d.ps.length zzp, .int .i64 d.nx, .slice yya d.ga.length zza, .slice yyt d.tk.length zzt] 54) := heap_alloc_new _ _
    replace hx := blk_bel hx hb
    replace hB := hB.trans (hb.mono hB.size)
    replace RT := RT.below hb
    clear hb
    obtain ⟨W5, hW5⟩ : ∃ W5, w4.alloc (Obj.cells #[.slice yyn d.ns.length zzn, .slice yyi d.is.length zzi, .slice yyf d.ds.length zzf, .int .i64 d.pl, .slice yyh d.hs.length zzh, .slice yyl d.ls.length zzl, .slice yyg d.gs.length zzg, .slice yyp d.ps.length zzp, .int .i64 d.nx, .slice yya d.ga.length zza, .slice yyt d.tk.length zzt] 54) = W5 := ⟨_, rfl⟩
    rw [hW5] at hx hy hB RT
    go_wp2_with (refine wpList_load_row rfl 54 _ rfl w4.heap.size rfl 54 #[.slice yyn d.ns.length zzn, .slice yyi d.is.length zzi, .slice yyf d.ds.length zzf, .int .i64 d.pl, .slice yyh d.hs.length zzh, .slice yyl d.ls.length zzl, .slice yyg d.gs.length zzg, .slice yyp d.ps.length zzp, .int .i64 d.nx, .slice yya d.ga.length zza, .slice yyt d.tk.length zzt] (0, 0) _ (by first | exact hy | (rw [hW5]; exact hy)) Try.underlying54 rfl Try.sizeWd ?_)
    first | rw [hW5] | skip
    refine (ihomeof_any _ _ _ _ _ _ _ _ _ d p _ _ RT).mono ?_
    rintro e w6 ⟨rfl, hb⟩
    replace hx := blk_bel hx hb
    replace hy := blk_bel hy hb
    replace hB := hB.trans (hb.mono hB.size)
    replace RT := RT.below hb
    clear hb hW5
    obtain ⟨q, hq⟩ : ∃ q, hmIdx d.hs p 0 = q := ⟨_, rfl⟩
    rw [hq]
    clear hq
    have hne : (q != q) = false := by simp
    go_wp2_with fail
    refine homeof_r10 w4.heap.size w.heap.size _ yyn aan yyi aai yyf aaf yyh aah yyl aal yyg aag yyp aap yya aaa yyt aat zzn ccn zzi cci zzf ccf zzh cch zzl ccl zzg ccg zzp ccp zza cca zzt cct d w6 _ hy hx RT (R.below hB) Sm ?_
    intro u26 u27 u28 u29 W hW
    replace hB := hB.trans (hW.mono hB.size)
    go_wp2
    go_ret
    exact ⟨rfl, hB⟩
end Go.Proofs.Ytllfojddaobpmaa
