/-
  Texts that stood by themselves, laid into one.
-/
import Derived.Test.YtfmafkebddojjaaGreatDoorWSsM
import Derived.Test.YtfmafkebddojjaaGreatDoorSInstrM
/-
  Worlds: what one is, and the contracts of the laws' szWorld, toWorld, eqWorld. No condition.
-/
set_option maxRecDepth 100000
set_option maxHeartbeats 12800000
namespace Go.Proofs.YtfmafkebddojjaaGreatDoor
open Go.RowKit
structure Wd where
 ns : List Nd
 is : List In
 ds : List Df
 pl : Int
 hs : List Hm
 ls : List Lk
 gs : List Gm
 ps : List Pd
 nx : Int
 ga : List (List ByteArray)
 tk : List (List ByteArray)
theorem InRow.kp {w w' : World} {v : Value} {xs : List In} {B : Nat} (R : InRow w v xs) (hf : Fr B v) (hk : Kp B w w') : InRow w' v xs := by
 obtain ⟨ao, cap, rfl, hc, hm, hz, hcell⟩ := R
 refine ⟨ao, cap, rfl, hc, hm, hz, fun hne => ?_⟩
 obtain ⟨g, o, rfl, hg, hcell⟩ := hcell hne
 have e := Zdl hk hf rfl hg
 refine ⟨g, o, rfl, Nat.lt_of_lt_of_le hg hk.1, fun i x hi => ?_⟩
 obtain ⟨c0, c1, c2, c3⟩ := hcell i x hi
 exact ⟨(World.cell?_of_block e).trans c0, (World.cell?_of_block e).trans c1, (World.cell?_of_block e).trans c2, (World.cell?_of_block e).trans c3⟩
theorem DfRow.kp {w w' : World} {v : Value} {xs : List Df} {B : Nat} (R : DfRow w v xs) (hf : Fr B v) (hk : Kp B w w') : DfRow w' v xs := by
 obtain ⟨ao, cap, rfl, hc, hm, hz, hcell⟩ := R
 refine ⟨ao, cap, rfl, hc, hm, hz, fun hne => ?_⟩
 obtain ⟨g, o, rfl, hg, hcell⟩ := hcell hne
 have e := Zdl hk hf rfl hg
 refine ⟨g, o, rfl, Nat.lt_of_lt_of_le hg hk.1, fun i x hi => ?_⟩
 obtain ⟨c0, c1, c2⟩ := hcell i x hi
 exact ⟨(World.cell?_of_block e).trans c0, (World.cell?_of_block e).trans c1, (World.cell?_of_block e).trans c2⟩
structure WR (B : Nat) (w : World) (vn vi vf vh vl vg vp va vt : Value) (d : Wd) : Prop where
 rn : NRow w vn d.ns
 ri : InRow w vi d.is
 rf : DfRow w vf d.ds
 rh : XRow B 12 EH w vh d.hs
 rl : XRow B 5 EL w vl d.ls
 rg : XRow B 5 EG w vg d.gs
 rp : XRow B 3 EP w vp d.ps
 ra : XRow B 1 ES w va d.ga
 rt : XRow B 1 ES w vt d.tk
 fn : Fr B vn
 fi : Fr B vi
 ff : Fr B vf
theorem WR.kp {B : Nat} {w w' : World} {vn vi vf vh vl vg vp va vt : Value} {d : Wd} (R : WR B w vn vi vf vh vl vg vp va vt d) (hk : Kp B w w') : WR B w' vn vi vf vh vl vg vp va vt d :=
 ⟨R.rn.kp R.fn hk, R.ri.kp R.fi hk, R.rf.kp R.ff hk, R.rh.kp stbH hk, R.rl.kp stbL hk, R.rg.kp stbG hk, R.rp.kp stbP hk, R.ra.kp stbS hk, R.rt.kp stbS hk, R.fn, R.fi, R.ff⟩
theorem WR.below {B : Nat} {w w' : World} {vn vi vf vh vl vg vp va vt : Value} {d : Wd} (R : WR B w vn vi vf vh vl vg vp va vt d) (hb : Below w.heap.size w w') : WR B w' vn vi vf vh vl vg vp va vt d := R.kp (Kp.of_below hb)
theorem WR.form {B : Nat} {w : World} {vn vi vf vh vl vg vp va vt : Value} {d : Wd} (R : WR B w vn vi vf vh vl vg vp va vt d) : (∃ ao cap, vn = .slice ao d.ns.length cap) /\ (∃ ao cap, vi = .slice ao d.is.length cap) /\ (∃ ao cap, vf = .slice ao d.ds.length cap) /\ (∃ ao cap, vh = .slice ao d.hs.length cap) /\ (∃ ao cap, vl = .slice ao d.ls.length cap) /\ (∃ ao cap, vg = .slice ao d.gs.length cap) /\ (∃ ao cap, vp = .slice ao d.ps.length cap) /\ (∃ ao cap, va = .slice ao d.ga.length cap) /\ (∃ ao cap, vt = .slice ao d.tk.length cap) :=
 ⟨R.rn.small8, R.ri.small, R.rf.small, R.rh.small, R.rl.small, R.rg.small, R.rp.small, R.ra.small, R.rt.small⟩
structure SmW (d : Wd) : Prop where
 hn : d.ns.length <= 1048576
 hi : d.is.length <= 1048576
 hf : d.ds.length <= 1048576
 hh : d.hs.length <= 1048576 /\ ∀ x ∈ d.hs, SmH x
 hl : d.ls.length <= 1048576 /\ ∀ x ∈ d.ls, SmL x
 hg : d.gs.length <= 1048576 /\ ∀ x ∈ d.gs, SmG x
 hp : d.ps.length <= 1048576 /\ ∀ x ∈ d.ps, SmP x
 ha : d.ga.length <= 1048576 /\ ∀ x ∈ d.ga, SmS x
 ht : d.tk.length <= 1048576 /\ ∀ x ∈ d.tk, SmS x
theorem Zmt : (Tryz.prog.info? 50).map (·.size) = some 11 := by kernel_rfl
theorem Zmf : (Tryz.prog.info? 35).map (·.size) = some 11 := by kernel_rfl
theorem Zl8 : (Tryz.prog.info? 44).map (·.size) = some 3 := by kernel_rfl
theorem Zl5 : (Tryz.prog.info? 28).map (·.size) = some 3 := by kernel_rfl
theorem ZfT (vn vi vf vh vl vg vp va vt : Value) (d : Wd) (B : Nat) (w : World) (R : WR B w vn vi vf vh vl vg vp va vt d) :
  Calls Tryz.prog 9 #[.agg #[vn, vi, vf, .int .i64 d.pl, vh, vl, vg, vp, .int .i64 d.nx, va, vt], .int .i64 1048576] w fun e w' => ∃ r : Int, e = .returned (.int .i64 r) /\ -1 <= r /\ r <= 1048576 /\ (0 <= r -> SmW d) /\ Below w.heap.size w w' := by
 obtain ⟨⟨aan, ccn, rfl⟩, ⟨aai, cci, rfl⟩, ⟨aaf, ccf, rfl⟩, ⟨aah, cch, rfl⟩, ⟨aal, ccl, rfl⟩, ⟨aag, ccg, rfl⟩, ⟨aap, ccp, rfl⟩, ⟨aaa, cca, rfl⟩, ⟨aat, cct, rfl⟩⟩ := R.form
 have hB : Below w.heap.size w (w.alloc (Obj.cells #[.slice aan d.ns.length ccn, .slice aai d.is.length cci, .slice aaf d.ds.length ccf, .int .i64 d.pl, .slice aah d.hs.length cch, .slice aal d.ls.length ccl, .slice aag d.gs.length ccg, .slice aap d.ps.length ccp, .int .i64 d.nx, .slice aaa d.ga.length cca, .slice aat d.tk.length cct] 35)) := (Below.refl _ _).alloc (Nat.le_refl _) _
 have hx : (w.alloc (Obj.cells #[.slice aan d.ns.length ccn, .slice aai d.is.length cci, .slice aaf d.ds.length ccf, .int .i64 d.pl, .slice aah d.hs.length cch, .slice aal d.ls.length ccl, .slice aag d.gs.length ccg, .slice aap d.ps.length ccp, .int .i64 d.nx, .slice aaa d.ga.length cca, .slice aat d.tk.length cct] 35)).heap[w.heap.size]? = some (Obj.cells #[.slice aan d.ns.length ccn, .slice aai d.is.length cci, .slice aaf d.ds.length ccf, .int .i64 d.pl, .slice aah d.hs.length cch, .slice aal d.ls.length ccl, .slice aag d.gs.length ccg, .slice aap d.ps.length ccp, .int .i64 d.nx, .slice aaa d.ga.length cca, .slice aat d.tk.length cct] 35) := heap_alloc_new _ _
 go_enter Tryz.func9, Tryz.ntmps9
 go_wp2_with (refine Zan rfl 28 _ rfl w.heap.size 0 rfl _ 35 #[.slice aan d.ns.length ccn, .slice aai d.is.length cci, .slice aaf d.ds.length ccf] _ hx rfl Tryz.underlying28 rfl Zl5 ?_)
 refine (Zib _ _ _ d.ns d.is d.ds _ (R.rn.below hB) (R.ri.below hB) (R.rf.below hB)).mono ?_
 rintro e w0 ⟨r0, rfl, h0, h1, k0, hb⟩
 replace hx := (bb hx hb)
 replace hB := hB.trans (hb.mono hB.size)
 clear hb
 by_cases hr : r0 < 0
 ·have HR : Hid (r0 = -1) := by unfold Hid; omega
  go_wp2
  go_ret
  exact ⟨-1, rfl, by omega, by omega, fun h => by omega, hB⟩
 have k0 := k0 (by omega)
 have kc : w0.cell? ⟨w.heap.size, 0 + 4, none⟩ = some (.slice aah d.hs.length cch) := cell_of_row w0 _ 4 _ _ _ hx
 go_wp2_with fail
 refine (Zix _ d.hs B r0 _ (R.rh.below stbH hB) (by omega) (by omega)).mono ?_
 rintro e w1 ⟨r1, rfl, h0h, h1h, kh, hb⟩
 replace hx := (bb hx hb)
 replace hB := hB.trans (hb.mono hB.size)
 clear hb kc
 by_cases hr : r1 < 0
 ·have HR : Hid (r1 = -1) := by unfold Hid; omega
  go_wp2
  go_ret
  exact ⟨-1, rfl, by omega, by omega, fun h => by omega, hB⟩
 have kh := kh (by omega)
 have kc : w1.cell? ⟨w.heap.size, 0 + 5, none⟩ = some (.slice aal d.ls.length ccl) := cell_of_row w1 _ 5 _ _ _ hx
 go_wp2_with fail
 refine (ZiO _ d.ls B r1 _ (R.rl.below stbL hB) (by omega) (by omega)).mono ?_
 rintro e w2 ⟨r2, rfl, h0l, h1l, kl, hb⟩
 replace hx := (bb hx hb)
 replace hB := hB.trans (hb.mono hB.size)
 clear hb kc
 by_cases hr : r2 < 0
 ·have HR : Hid (r2 = -1) := by unfold Hid; omega
  go_wp2
  go_ret
  exact ⟨-1, rfl, by omega, by omega, fun h => by omega, hB⟩
 have kl := kl (by omega)
 have kc : w2.cell? ⟨w.heap.size, 0 + 6, none⟩ = some (.slice aag d.gs.length ccg) := cell_of_row w2 _ 6 _ _ _ hx
 go_wp2_with fail
 refine (Zje _ d.gs B r2 _ (R.rg.below stbG hB) (by omega) (by omega)).mono ?_
 rintro e w3 ⟨r3, rfl, h0g, h1g, kg, hb⟩
 replace hx := (bb hx hb)
 replace hB := hB.trans (hb.mono hB.size)
 clear hb kc
 by_cases hr : r3 < 0
 ·have HR : Hid (r3 = -1) := by unfold Hid; omega
  go_wp2
  go_ret
  exact ⟨-1, rfl, by omega, by omega, fun h => by omega, hB⟩
 have kg := kg (by omega)
 have kc : w3.cell? ⟨w.heap.size, 0 + 7, none⟩ = some (.slice aap d.ps.length ccp) := cell_of_row w3 _ 7 _ _ _ hx
 go_wp2_with fail
 refine (Zja _ d.ps B r3 _ (R.rp.below stbP hB) (by omega) (by omega)).mono ?_
 rintro e w4 ⟨r4, rfl, h0p, h1p, kp, hb⟩
 replace hx := (bb hx hb)
 replace hB := hB.trans (hb.mono hB.size)
 clear hb kc
 by_cases hr : r4 < 0
 ·have HR : Hid (r4 = -1) := by unfold Hid; omega
  go_wp2
  go_ret
  exact ⟨-1, rfl, by omega, by omega, fun h => by omega, hB⟩
 have kp := kp (by omega)
 have kc : w4.cell? ⟨w.heap.size, 0 + 9, none⟩ = some (.slice aaa d.ga.length cca) := cell_of_row w4 _ 9 _ _ _ hx
 go_wp2_with fail
 refine (Ze1 _ d.ga B r4 _ (R.ra.below stbS hB) (by omega) (by omega)).mono ?_
 rintro e w5 ⟨r5, rfl, h0a, h1a, ka, hb⟩
 replace hx := (bb hx hb)
 replace hB := hB.trans (hb.mono hB.size)
 clear hb kc
 by_cases hr : r5 < 0
 ·have HR : Hid (r5 = -1) := by unfold Hid; omega
  go_wp2
  go_ret
  exact ⟨-1, rfl, by omega, by omega, fun h => by omega, hB⟩
 have ka := ka (by omega)
 have kc : w5.cell? ⟨w.heap.size, 0 + 10, none⟩ = some (.slice aat d.tk.length cct) := cell_of_row w5 _ 10 _ _ _ hx
 go_wp2_with fail
 refine (Ze1 _ d.tk B r5 _ (R.rt.below stbS hB) (by omega) (by omega)).mono ?_
 rintro e w6 ⟨r6, rfl, h0t, h1t, kt, hb⟩
 replace hx := (bb hx hb)
 replace hB := hB.trans (hb.mono hB.size)
 clear hb kc
 by_cases hr : r6 < 0
 ·have HR : Hid (r6 = -1) := by unfold Hid; omega
  go_wp2
  go_ret
  exact ⟨-1, rfl, by omega, by omega, fun h => by omega, hB⟩
 have kt := kt (by omega)
 clear hx
 go_wp2
 go_ret
 exact ⟨r6, rfl, by omega, by omega, fun _ => ⟨k0.1, k0.2.1, k0.2.2, kh, kl, kg, kp, ka, kt⟩, hB⟩
theorem Zcz (vn vi vf vh vl vg vp va vt : Value) (d : Wd) (B : Nat) (w : World) (R : WR B w vn vi vf vh vl vg vp va vt d) (S : SmW d) :
  Calls Tryz.prog 11 #[.agg #[vn, vi, vf, .int .i64 d.pl, vh, vl, vg, vp, .int .i64 d.nx, va, vt]] w fun e w' => ∃ un ui uf uh ul ug up ua ut, e = .returned (.agg #[un, ui, uf, .int .i64 d.pl, uh, ul, ug, up, .int .i64 d.nx, ua, ut]) /\ WR w.heap.size w' un ui uf uh ul ug up ua ut d /\ Below w.heap.size w w' := by
 have hz1 := R.rn.szn
 have hz2 := R.ri.sz
 have hz3 := R.rf.sz
 obtain ⟨⟨aan, ccn, rfl⟩, ⟨aai, cci, rfl⟩, ⟨aaf, ccf, rfl⟩, ⟨aah, cch, rfl⟩, ⟨aal, ccl, rfl⟩, ⟨aag, ccg, rfl⟩, ⟨aap, ccp, rfl⟩, ⟨aaa, cca, rfl⟩, ⟨aat, cct, rfl⟩⟩ := R.form
 have hB : Below w.heap.size w (((w.alloc (Obj.cells #[.slice aan d.ns.length ccn, .slice aai d.is.length cci, .slice aaf d.ds.length ccf, .int .i64 d.pl, .slice aah d.hs.length cch, .slice aal d.ls.length ccl, .slice aag d.gs.length ccg, .slice aap d.ps.length ccp, .int .i64 d.nx, .slice aaa d.ga.length cca, .slice aat d.tk.length cct] 35)).alloc (Obj.cells #[.slice none 0 0, .slice none 0 0, .slice none 0 0, .int .i64 0, .slice none 0 0, .slice none 0 0, .slice none 0 0, .slice none 0 0, .int .i64 0, .slice none 0 0, .slice none 0 0] 50)).alloc (Obj.cells #[.slice none 0 0, .slice none 0 0, .slice none 0 0, .int .i64 0, .slice none 0 0, .slice none 0 0, .slice none 0 0, .slice none 0 0, .int .i64 0, .slice none 0 0, .slice none 0 0] 50)) := (((Below.refl _ _).alloc (Nat.le_refl _) _).alloc (by simp) _).alloc (by simp; omega) _
 have hx : (((w.alloc (Obj.cells #[.slice aan d.ns.length ccn, .slice aai d.is.length cci, .slice aaf d.ds.length ccf, .int .i64 d.pl, .slice aah d.hs.length cch, .slice aal d.ls.length ccl, .slice aag d.gs.length ccg, .slice aap d.ps.length ccp, .int .i64 d.nx, .slice aaa d.ga.length cca, .slice aat d.tk.length cct] 35)).alloc (Obj.cells #[.slice none 0 0, .slice none 0 0, .slice none 0 0, .int .i64 0, .slice none 0 0, .slice none 0 0, .slice none 0 0, .slice none 0 0, .int .i64 0, .slice none 0 0, .slice none 0 0] 50)).alloc (Obj.cells #[.slice none 0 0, .slice none 0 0, .slice none 0 0, .int .i64 0, .slice none 0 0, .slice none 0 0, .slice none 0 0, .slice none 0 0, .int .i64 0, .slice none 0 0, .slice none 0 0] 50)).heap[w.heap.size]? = some (Obj.cells #[.slice aan d.ns.length ccn, .slice aai d.is.length cci, .slice aaf d.ds.length ccf, .int .i64 d.pl, .slice aah d.hs.length cch, .slice aal d.ls.length ccl, .slice aag d.gs.length ccg, .slice aap d.ps.length ccp, .int .i64 d.nx, .slice aaa d.ga.length cca, .slice aat d.tk.length cct] 35) := (heap_alloc_old _ _ (by simp; omega)).trans ((heap_alloc_old _ _ (by simp)).trans (heap_alloc_new _ _))
 have hy : (((w.alloc (Obj.cells #[.slice aan d.ns.length ccn, .slice aai d.is.length cci, .slice aaf d.ds.length ccf, .int .i64 d.pl, .slice aah d.hs.length cch, .slice aal d.ls.length ccl, .slice aag d.gs.length ccg, .slice aap d.ps.length ccp, .int .i64 d.nx, .slice aaa d.ga.length cca, .slice aat d.tk.length cct] 35)).alloc (Obj.cells #[.slice none 0 0, .slice none 0 0, .slice none 0 0, .int .i64 0, .slice none 0 0, .slice none 0 0, .slice none 0 0, .slice none 0 0, .int .i64 0, .slice none 0 0, .slice none 0 0] 50)).alloc (Obj.cells #[.slice none 0 0, .slice none 0 0, .slice none 0 0, .int .i64 0, .slice none 0 0, .slice none 0 0, .slice none 0 0, .slice none 0 0, .int .i64 0, .slice none 0 0, .slice none 0 0] 50)).heap[w.heap.size + 1]? = some (Obj.cells #[.slice none 0 0, .slice none 0 0, .slice none 0 0, .int .i64 0, .slice none 0 0, .slice none 0 0, .slice none 0 0, .slice none 0 0, .int .i64 0, .slice none 0 0, .slice none 0 0] 50) := (heap_alloc_old _ _ (by simp)).trans (heap_alloc2_new _ _ _)
 have hv : (((w.alloc (Obj.cells #[.slice aan d.ns.length ccn, .slice aai d.is.length cci, .slice aaf d.ds.length ccf, .int .i64 d.pl, .slice aah d.hs.length cch, .slice aal d.ls.length ccl, .slice aag d.gs.length ccg, .slice aap d.ps.length ccp, .int .i64 d.nx, .slice aaa d.ga.length cca, .slice aat d.tk.length cct] 35)).alloc (Obj.cells #[.slice none 0 0, .slice none 0 0, .slice none 0 0, .int .i64 0, .slice none 0 0, .slice none 0 0, .slice none 0 0, .slice none 0 0, .int .i64 0, .slice none 0 0, .slice none 0 0] 50)).alloc (Obj.cells #[.slice none 0 0, .slice none 0 0, .slice none 0 0, .int .i64 0, .slice none 0 0, .slice none 0 0, .slice none 0 0, .slice none 0 0, .int .i64 0, .slice none 0 0, .slice none 0 0] 50)).heap[w.heap.size + 2]? = some (Obj.cells #[.slice none 0 0, .slice none 0 0, .slice none 0 0, .int .i64 0, .slice none 0 0, .slice none 0 0, .slice none 0 0, .slice none 0 0, .int .i64 0, .slice none 0 0, .slice none 0 0] 50) := by
  have h := heap_alloc_new ((w.alloc (Obj.cells #[.slice aan d.ns.length ccn, .slice aai d.is.length cci, .slice aaf d.ds.length ccf, .int .i64 d.pl, .slice aah d.hs.length cch, .slice aal d.ls.length ccl, .slice aag d.gs.length ccg, .slice aap d.ps.length ccp, .int .i64 d.nx, .slice aaa d.ga.length cca, .slice aat d.tk.length cct] 35)).alloc (Obj.cells #[.slice none 0 0, .slice none 0 0, .slice none 0 0, .int .i64 0, .slice none 0 0, .slice none 0 0, .slice none 0 0, .slice none 0 0, .int .i64 0, .slice none 0 0, .slice none 0 0] 50)) (Obj.cells #[.slice none 0 0, .slice none 0 0, .slice none 0 0, .int .i64 0, .slice none 0 0, .slice none 0 0, .slice none 0 0, .slice none 0 0, .int .i64 0, .slice none 0 0, .slice none 0 0] 50)
  simpa using h
 have hs3 : w.heap.size + 3 <= (((w.alloc (Obj.cells #[.slice aan d.ns.length ccn, .slice aai d.is.length cci, .slice aaf d.ds.length ccf, .int .i64 d.pl, .slice aah d.hs.length cch, .slice aal d.ls.length ccl, .slice aag d.gs.length ccg, .slice aap d.ps.length ccp, .int .i64 d.nx, .slice aaa d.ga.length cca, .slice aat d.tk.length cct] 35)).alloc (Obj.cells #[.slice none 0 0, .slice none 0 0, .slice none 0 0, .int .i64 0, .slice none 0 0, .slice none 0 0, .slice none 0 0, .slice none 0 0, .int .i64 0, .slice none 0 0, .slice none 0 0] 50)).alloc (Obj.cells #[.slice none 0 0, .slice none 0 0, .slice none 0 0, .int .i64 0, .slice none 0 0, .slice none 0 0, .slice none 0 0, .slice none 0 0, .int .i64 0, .slice none 0 0, .slice none 0 0] 50)).heap.size := by simp
 go_enter Tryz.func11, Tryz.ntmps11
 go_wp2_with (refine Zan rfl 28 _ rfl w.heap.size 0 rfl _ 35 #[.slice aan d.ns.length ccn, .slice aai d.is.length cci, .slice aaf d.ds.length ccf] _ hx rfl Tryz.underlying28 rfl Zl5 ?_)
 refine (Zho _ _ _ d.ns d.is d.ds _ (R.rn.below hB) (R.ri.below hB) (R.rf.below hB) (by have := S.hn; omega) (by have := S.hi; omega) (by have := S.hf; omega)).mono ?_
 rintro e w1 ⟨v1, v2, v3, rfl, O1, O2, O3, hb⟩
 replace hx := (bb hx hb)
 replace hy := (bb hy hb)
 replace hv := (bb hv hb)
 replace hB := hB.trans (hb.mono hB.size)
 have hsb := hb.size
 obtain ⟨ppn, qqn, rfl⟩ := Zae O1
 obtain ⟨ppi, qqi, rfl⟩ := Zae O2
 obtain ⟨ppf, qqf, rfl⟩ := Zae O3
 have F1 := (Fr.of_own O1).mono hs3
 have F2 := (Fr.of_own O2).mono hs3
 have F3 := (Fr.of_own O3).mono hs3
 have P1 := NRow.of_own O1 (by have := S.hn; omega) hz1
 have P2 := InRow.of_own O2 (by have := S.hi; omega) hz2
 have P3 := DfRow.of_own O3 (by have := S.hf; omega) hz3
 clear O1 O2 O3
 replace hs3 : w.heap.size + 3 <= w1.heap.size := Nat.le_trans hs3 hsb
 clear hb hsb
 go_wp2_with (refine ZaH rfl 44 _ _ rfl (w.heap.size + 2) 0 #[.slice ppn d.ns.length qqn, .slice ppi d.is.length qqi, .slice ppf d.ds.length qqf] rfl rfl 50 #[.slice none 0 0, .slice none 0 0, .slice none 0 0, .int .i64 0, .slice none 0 0, .slice none 0 0, .slice none 0 0, .slice none 0 0, .int .i64 0, .slice none 0 0, .slice none 0 0] #[.slice ppn d.ns.length qqn, .slice ppi d.is.length qqi, .slice ppf d.ds.length qqf, .int .i64 0, .slice none 0 0, .slice none 0 0, .slice none 0 0, .slice none 0 0, .int .i64 0, .slice none 0 0, .slice none 0 0] hv (by simp) Zl8 (by simp [Value.oneCell']) rfl ?_)
 intro u1 hn hbl hsz hoth
 have hk : Kp (w.heap.size + 3) _ u1 := Kp.of_oth (by omega) hoth (by omega)
 replace P1 := P1.kp F1 hk
 replace P2 := P2.kp F2 hk
 replace P3 := P3.kp F3 hk
 replace hx := (hoth w.heap.size (by omega)).trans hx
 replace hy := (hoth (w.heap.size + 1) (by omega)).trans hy
 replace hB := hB.trans (hbl.mono (by omega))
 replace hv := hn
 replace hs3 : w.heap.size + 3 <= u1.heap.size := by omega
 clear hn hbl hsz hoth hk
 have kc : u1.cell? ⟨w.heap.size, 0 + 3, none⟩ = some (.int .i64 d.pl) := cell_of_row u1 _ 3 _ _ _ hx
 go_wp2_with (refine Zaa rfl 3 _ _ rfl (w.heap.size + 2) 3 (.int .i64 d.pl) #[.int .i64 d.pl] rfl rfl rfl rfl 50 #[.slice ppn d.ns.length qqn, .slice ppi d.is.length qqi, .slice ppf d.ds.length qqf, .int .i64 0, .slice none 0 0, .slice none 0 0, .slice none 0 0, .slice none 0 0, .int .i64 0, .slice none 0 0, .slice none 0 0] #[.slice ppn d.ns.length qqn, .slice ppi d.is.length qqi, .slice ppf d.ds.length qqf, .int .i64 d.pl, .slice none 0 0, .slice none 0 0, .slice none 0 0, .slice none 0 0, .int .i64 0, .slice none 0 0, .slice none 0 0] hv (by simp) (by kernel_rfl) rfl ?_)
 intro u2 hn hbl hsz hoth
 have hk : Kp (w.heap.size + 3) _ u2 := Kp.of_oth (by omega) hoth (by omega)
 replace P1 := P1.kp F1 hk
 replace P2 := P2.kp F2 hk
 replace P3 := P3.kp F3 hk
 replace hx := (hoth w.heap.size (by omega)).trans hx
 replace hy := (hoth (w.heap.size + 1) (by omega)).trans hy
 replace hB := hB.trans (hbl.mono (by omega))
 replace hv := hn
 replace hs3 : w.heap.size + 3 <= u2.heap.size := by omega
 clear hn hbl hsz hoth hk kc
 have kc : u2.cell? ⟨w.heap.size, 0 + 4, none⟩ = some (.slice aah d.hs.length cch) := cell_of_row u2 _ 4 _ _ _ hx
 go_wp2_with fail
 refine (Zi9 _ d.hs B _ (R.rh.below stbH hB) (by have := S.hh.1; omega) S.hh.2).mono ?_
 rintro e w3 ⟨vh, rfl, Xh, hb⟩
 have hk : Kp (w.heap.size + 3) _ w3 := Kp.of_below hb
 replace P1 := P1.kp F1 hk
 replace P2 := P2.kp F2 hk
 replace P3 := P3.kp F3 hk
 replace hx := (bb hx hb)
 replace hy := (bb hy hb)
 replace hv := (bb hv hb)
 replace hB := hB.trans (hb.mono hB.size)
 have hsb := hb.size
 obtain ⟨pph, qqh, rfl⟩ := Xh.small
 replace Xh := (Xh.mono stbH hs3)
 replace hs3 : w.heap.size + 3 <= w3.heap.size := Nat.le_trans hs3 hsb
 clear hb hk hsb kc
 go_wp2_with (refine Zaa rfl 45 _ _ rfl (w.heap.size + 2) 4 (.slice pph d.hs.length qqh) #[.slice pph d.hs.length qqh] rfl rfl rfl rfl 50 #[.slice ppn d.ns.length qqn, .slice ppi d.is.length qqi, .slice ppf d.ds.length qqf, .int .i64 d.pl, .slice none 0 0, .slice none 0 0, .slice none 0 0, .slice none 0 0, .int .i64 0, .slice none 0 0, .slice none 0 0] #[.slice ppn d.ns.length qqn, .slice ppi d.is.length qqi, .slice ppf d.ds.length qqf, .int .i64 d.pl, .slice pph d.hs.length qqh, .slice none 0 0, .slice none 0 0, .slice none 0 0, .int .i64 0, .slice none 0 0, .slice none 0 0] hv (by simp) (by kernel_rfl) rfl ?_)
 intro u3 hn hbl hsz hoth
 have hk : Kp (w.heap.size + 3) _ u3 := Kp.of_oth (by omega) hoth (by omega)
 replace P1 := P1.kp F1 hk
 replace P2 := P2.kp F2 hk
 replace P3 := P3.kp F3 hk
 replace Xh := Xh.kp stbH hk
 replace hx := (hoth w.heap.size (by omega)).trans hx
 replace hy := (hoth (w.heap.size + 1) (by omega)).trans hy
 replace hB := hB.trans (hbl.mono (by omega))
 replace hv := hn
 replace hs3 : w.heap.size + 3 <= u3.heap.size := by omega
 clear hn hbl hsz hoth hk
 have kc : u3.cell? ⟨w.heap.size, 0 + 5, none⟩ = some (.slice aal d.ls.length ccl) := cell_of_row u3 _ 5 _ _ _ hx
 go_wp2_with fail
 refine (ZiK _ d.ls B _ (R.rl.below stbL hB) (by have := S.hl.1; omega) S.hl.2).mono ?_
 rintro e w4 ⟨vl, rfl, Xl, hb⟩
 have hk : Kp (w.heap.size + 3) _ w4 := Kp.of_below hb
 replace P1 := P1.kp F1 hk
 replace P2 := P2.kp F2 hk
 replace P3 := P3.kp F3 hk
 replace Xh := Xh.kp stbH hk
 replace hx := (bb hx hb)
 replace hy := (bb hy hb)
 replace hv := (bb hv hb)
 replace hB := hB.trans (hb.mono hB.size)
 have hsb := hb.size
 obtain ⟨ppl, qql, rfl⟩ := Xl.small
 replace Xl := (Xl.mono stbL hs3)
 replace hs3 : w.heap.size + 3 <= w4.heap.size := Nat.le_trans hs3 hsb
 clear hb hk hsb kc
 go_wp2_with (refine Zaa rfl 46 _ _ rfl (w.heap.size + 2) 5 (.slice ppl d.ls.length qql) #[.slice ppl d.ls.length qql] rfl rfl rfl rfl 50 #[.slice ppn d.ns.length qqn, .slice ppi d.is.length qqi, .slice ppf d.ds.length qqf, .int .i64 d.pl, .slice pph d.hs.length qqh, .slice none 0 0, .slice none 0 0, .slice none 0 0, .int .i64 0, .slice none 0 0, .slice none 0 0] #[.slice ppn d.ns.length qqn, .slice ppi d.is.length qqi, .slice ppf d.ds.length qqf, .int .i64 d.pl, .slice pph d.hs.length qqh, .slice ppl d.ls.length qql, .slice none 0 0, .slice none 0 0, .int .i64 0, .slice none 0 0, .slice none 0 0] hv (by simp) (by kernel_rfl) rfl ?_)
 intro u4 hn hbl hsz hoth
 have hk : Kp (w.heap.size + 3) _ u4 := Kp.of_oth (by omega) hoth (by omega)
 replace P1 := P1.kp F1 hk
 replace P2 := P2.kp F2 hk
 replace P3 := P3.kp F3 hk
 replace Xh := Xh.kp stbH hk
 replace Xl := Xl.kp stbL hk
 replace hx := (hoth w.heap.size (by omega)).trans hx
 replace hy := (hoth (w.heap.size + 1) (by omega)).trans hy
 replace hB := hB.trans (hbl.mono (by omega))
 replace hv := hn
 replace hs3 : w.heap.size + 3 <= u4.heap.size := by omega
 clear hn hbl hsz hoth hk
 have kc : u4.cell? ⟨w.heap.size, 0 + 6, none⟩ = some (.slice aag d.gs.length ccg) := cell_of_row u4 _ 6 _ _ _ hx
 go_wp2_with fail
 refine (ZiI _ d.gs B _ (R.rg.below stbG hB) (by have := S.hg.1; omega) S.hg.2).mono ?_
 rintro e w5 ⟨vg, rfl, Xg, hb⟩
 have hk : Kp (w.heap.size + 3) _ w5 := Kp.of_below hb
 replace P1 := P1.kp F1 hk
 replace P2 := P2.kp F2 hk
 replace P3 := P3.kp F3 hk
 replace Xh := Xh.kp stbH hk
 replace Xl := Xl.kp stbL hk
 replace hx := (bb hx hb)
 replace hy := (bb hy hb)
 replace hv := (bb hv hb)
 replace hB := hB.trans (hb.mono hB.size)
 have hsb := hb.size
 obtain ⟨ppg, qqg, rfl⟩ := Xg.small
 replace Xg := (Xg.mono stbG hs3)
 replace hs3 : w.heap.size + 3 <= w5.heap.size := Nat.le_trans hs3 hsb
 clear hb hk hsb kc
 go_wp2_with (refine Zaa rfl 47 _ _ rfl (w.heap.size + 2) 6 (.slice ppg d.gs.length qqg) #[.slice ppg d.gs.length qqg] rfl rfl rfl rfl 50 #[.slice ppn d.ns.length qqn, .slice ppi d.is.length qqi, .slice ppf d.ds.length qqf, .int .i64 d.pl, .slice pph d.hs.length qqh, .slice ppl d.ls.length qql, .slice none 0 0, .slice none 0 0, .int .i64 0, .slice none 0 0, .slice none 0 0] #[.slice ppn d.ns.length qqn, .slice ppi d.is.length qqi, .slice ppf d.ds.length qqf, .int .i64 d.pl, .slice pph d.hs.length qqh, .slice ppl d.ls.length qql, .slice ppg d.gs.length qqg, .slice none 0 0, .int .i64 0, .slice none 0 0, .slice none 0 0] hv (by simp) (by kernel_rfl) rfl ?_)
 intro u5 hn hbl hsz hoth
 have hk : Kp (w.heap.size + 3) _ u5 := Kp.of_oth (by omega) hoth (by omega)
 replace P1 := P1.kp F1 hk
 replace P2 := P2.kp F2 hk
 replace P3 := P3.kp F3 hk
 replace Xh := Xh.kp stbH hk
 replace Xl := Xl.kp stbL hk
 replace Xg := Xg.kp stbG hk
 replace hx := (hoth w.heap.size (by omega)).trans hx
 replace hy := (hoth (w.heap.size + 1) (by omega)).trans hy
 replace hB := hB.trans (hbl.mono (by omega))
 replace hv := hn
 replace hs3 : w.heap.size + 3 <= u5.heap.size := by omega
 clear hn hbl hsz hoth hk
 have kc : u5.cell? ⟨w.heap.size, 0 + 7, none⟩ = some (.slice aap d.ps.length ccp) := cell_of_row u5 _ 7 _ _ _ hx
 go_wp2_with fail
 refine (Zjw _ d.ps B _ (R.rp.below stbP hB) (by have := S.hp.1; omega) S.hp.2).mono ?_
 rintro e w6 ⟨vp, rfl, Xp, hb⟩
 have hk : Kp (w.heap.size + 3) _ w6 := Kp.of_below hb
 replace P1 := P1.kp F1 hk
 replace P2 := P2.kp F2 hk
 replace P3 := P3.kp F3 hk
 replace Xh := Xh.kp stbH hk
 replace Xl := Xl.kp stbL hk
 replace Xg := Xg.kp stbG hk
 replace hx := (bb hx hb)
 replace hy := (bb hy hb)
 replace hv := (bb hv hb)
 replace hB := hB.trans (hb.mono hB.size)
 have hsb := hb.size
 obtain ⟨ppp, qqp, rfl⟩ := Xp.small
 replace Xp := (Xp.mono stbP hs3)
 replace hs3 : w.heap.size + 3 <= w6.heap.size := Nat.le_trans hs3 hsb
 clear hb hk hsb kc
 go_wp2_with (refine Zaa rfl 48 _ _ rfl (w.heap.size + 2) 7 (.slice ppp d.ps.length qqp) #[.slice ppp d.ps.length qqp] rfl rfl rfl rfl 50 #[.slice ppn d.ns.length qqn, .slice ppi d.is.length qqi, .slice ppf d.ds.length qqf, .int .i64 d.pl, .slice pph d.hs.length qqh, .slice ppl d.ls.length qql, .slice ppg d.gs.length qqg, .slice none 0 0, .int .i64 0, .slice none 0 0, .slice none 0 0] #[.slice ppn d.ns.length qqn, .slice ppi d.is.length qqi, .slice ppf d.ds.length qqf, .int .i64 d.pl, .slice pph d.hs.length qqh, .slice ppl d.ls.length qql, .slice ppg d.gs.length qqg, .slice ppp d.ps.length qqp, .int .i64 0, .slice none 0 0, .slice none 0 0] hv (by simp) (by kernel_rfl) rfl ?_)
 intro u6 hn hbl hsz hoth
 have hk : Kp (w.heap.size + 3) _ u6 := Kp.of_oth (by omega) hoth (by omega)
 replace P1 := P1.kp F1 hk
 replace P2 := P2.kp F2 hk
 replace P3 := P3.kp F3 hk
 replace Xh := Xh.kp stbH hk
 replace Xl := Xl.kp stbL hk
 replace Xg := Xg.kp stbG hk
 replace Xp := Xp.kp stbP hk
 replace hx := (hoth w.heap.size (by omega)).trans hx
 replace hy := (hoth (w.heap.size + 1) (by omega)).trans hy
 replace hB := hB.trans (hbl.mono (by omega))
 replace hv := hn
 replace hs3 : w.heap.size + 3 <= u6.heap.size := by omega
 clear hn hbl hsz hoth hk
 have kc : u6.cell? ⟨w.heap.size, 0 + 8, none⟩ = some (.int .i64 d.nx) := cell_of_row u6 _ 8 _ _ _ hx
 go_wp2_with (refine Zaa rfl 3 _ _ rfl (w.heap.size + 2) 8 (.int .i64 d.nx) #[.int .i64 d.nx] rfl rfl rfl rfl 50 #[.slice ppn d.ns.length qqn, .slice ppi d.is.length qqi, .slice ppf d.ds.length qqf, .int .i64 d.pl, .slice pph d.hs.length qqh, .slice ppl d.ls.length qql, .slice ppg d.gs.length qqg, .slice ppp d.ps.length qqp, .int .i64 0, .slice none 0 0, .slice none 0 0] #[.slice ppn d.ns.length qqn, .slice ppi d.is.length qqi, .slice ppf d.ds.length qqf, .int .i64 d.pl, .slice pph d.hs.length qqh, .slice ppl d.ls.length qql, .slice ppg d.gs.length qqg, .slice ppp d.ps.length qqp, .int .i64 d.nx, .slice none 0 0, .slice none 0 0] hv (by simp) (by kernel_rfl) rfl ?_)
 intro u7 hn hbl hsz hoth
 have hk : Kp (w.heap.size + 3) _ u7 := Kp.of_oth (by omega) hoth (by omega)
 replace P1 := P1.kp F1 hk
 replace P2 := P2.kp F2 hk
 replace P3 := P3.kp F3 hk
 replace Xh := Xh.kp stbH hk
 replace Xl := Xl.kp stbL hk
 replace Xg := Xg.kp stbG hk
 replace Xp := Xp.kp stbP hk
 replace hx := (hoth w.heap.size (by omega)).trans hx
 replace hy := (hoth (w.heap.size + 1) (by omega)).trans hy
 replace hB := hB.trans (hbl.mono (by omega))
 replace hv := hn
 replace hs3 : w.heap.size + 3 <= u7.heap.size := by omega
 clear hn hbl hsz hoth hk kc
 have kc : u7.cell? ⟨w.heap.size, 0 + 9, none⟩ = some (.slice aaa d.ga.length cca) := cell_of_row u7 _ 9 _ _ _ hx
 go_wp2_with fail
 refine (ZeW _ d.ga B _ (R.ra.below stbS hB) (by have := S.ha.1; omega) S.ha.2).mono ?_
 rintro e w8 ⟨va, rfl, Xa, hb⟩
 have hk : Kp (w.heap.size + 3) _ w8 := Kp.of_below hb
 replace P1 := P1.kp F1 hk
 replace P2 := P2.kp F2 hk
 replace P3 := P3.kp F3 hk
 replace Xh := Xh.kp stbH hk
 replace Xl := Xl.kp stbL hk
 replace Xg := Xg.kp stbG hk
 replace Xp := Xp.kp stbP hk
 replace hx := (bb hx hb)
 replace hy := (bb hy hb)
 replace hv := (bb hv hb)
 replace hB := hB.trans (hb.mono hB.size)
 have hsb := hb.size
 obtain ⟨ppa, qqa, rfl⟩ := Xa.small
 replace Xa := (Xa.mono stbS hs3)
 replace hs3 : w.heap.size + 3 <= w8.heap.size := Nat.le_trans hs3 hsb
 clear hb hk hsb kc
 go_wp2_with (refine Zaa rfl 33 _ _ rfl (w.heap.size + 2) 9 (.slice ppa d.ga.length qqa) #[.slice ppa d.ga.length qqa] rfl rfl rfl rfl 50 #[.slice ppn d.ns.length qqn, .slice ppi d.is.length qqi, .slice ppf d.ds.length qqf, .int .i64 d.pl, .slice pph d.hs.length qqh, .slice ppl d.ls.length qql, .slice ppg d.gs.length qqg, .slice ppp d.ps.length qqp, .int .i64 d.nx, .slice none 0 0, .slice none 0 0] #[.slice ppn d.ns.length qqn, .slice ppi d.is.length qqi, .slice ppf d.ds.length qqf, .int .i64 d.pl, .slice pph d.hs.length qqh, .slice ppl d.ls.length qql, .slice ppg d.gs.length qqg, .slice ppp d.ps.length qqp, .int .i64 d.nx, .slice ppa d.ga.length qqa, .slice none 0 0] hv (by simp) (by kernel_rfl) rfl ?_)
 intro u8 hn hbl hsz hoth
 have hk : Kp (w.heap.size + 3) _ u8 := Kp.of_oth (by omega) hoth (by omega)
 replace P1 := P1.kp F1 hk
 replace P2 := P2.kp F2 hk
 replace P3 := P3.kp F3 hk
 replace Xh := Xh.kp stbH hk
 replace Xl := Xl.kp stbL hk
 replace Xg := Xg.kp stbG hk
 replace Xp := Xp.kp stbP hk
 replace Xa := Xa.kp stbS hk
 replace hx := (hoth w.heap.size (by omega)).trans hx
 replace hy := (hoth (w.heap.size + 1) (by omega)).trans hy
 replace hB := hB.trans (hbl.mono (by omega))
 replace hv := hn
 replace hs3 : w.heap.size + 3 <= u8.heap.size := by omega
 clear hn hbl hsz hoth hk
 have kc : u8.cell? ⟨w.heap.size, 0 + 10, none⟩ = some (.slice aat d.tk.length cct) := cell_of_row u8 _ 10 _ _ _ hx
 go_wp2_with fail
 refine (ZeW _ d.tk B _ (R.rt.below stbS hB) (by have := S.ht.1; omega) S.ht.2).mono ?_
 rintro e w9 ⟨vt, rfl, Xt, hb⟩
 have hk : Kp (w.heap.size + 3) _ w9 := Kp.of_below hb
 replace P1 := P1.kp F1 hk
 replace P2 := P2.kp F2 hk
 replace P3 := P3.kp F3 hk
 replace Xh := Xh.kp stbH hk
 replace Xl := Xl.kp stbL hk
 replace Xg := Xg.kp stbG hk
 replace Xp := Xp.kp stbP hk
 replace Xa := Xa.kp stbS hk
 replace hx := (bb hx hb)
 replace hy := (bb hy hb)
 replace hv := (bb hv hb)
 replace hB := hB.trans (hb.mono hB.size)
 have hsb := hb.size
 obtain ⟨ppt, qqt, rfl⟩ := Xt.small
 replace Xt := (Xt.mono stbS hs3)
 replace hs3 : w.heap.size + 3 <= w9.heap.size := Nat.le_trans hs3 hsb
 clear hb hk hsb kc
 go_wp2_with (refine Zaa rfl 33 _ _ rfl (w.heap.size + 2) 10 (.slice ppt d.tk.length qqt) #[.slice ppt d.tk.length qqt] rfl rfl rfl rfl 50 #[.slice ppn d.ns.length qqn, .slice ppi d.is.length qqi, .slice ppf d.ds.length qqf, .int .i64 d.pl, .slice pph d.hs.length qqh, .slice ppl d.ls.length qql, .slice ppg d.gs.length qqg, .slice ppp d.ps.length qqp, .int .i64 d.nx, .slice ppa d.ga.length qqa, .slice none 0 0] #[.slice ppn d.ns.length qqn, .slice ppi d.is.length qqi, .slice ppf d.ds.length qqf, .int .i64 d.pl, .slice pph d.hs.length qqh, .slice ppl d.ls.length qql, .slice ppg d.gs.length qqg, .slice ppp d.ps.length qqp, .int .i64 d.nx, .slice ppa d.ga.length qqa, .slice ppt d.tk.length qqt] hv (by simp) (by kernel_rfl) rfl ?_)
 intro u9 hn hbl hsz hoth
 have hk : Kp (w.heap.size + 3) _ u9 := Kp.of_oth (by omega) hoth (by omega)
 replace P1 := P1.kp F1 hk
 replace P2 := P2.kp F2 hk
 replace P3 := P3.kp F3 hk
 replace Xh := Xh.kp stbH hk
 replace Xl := Xl.kp stbL hk
 replace Xg := Xg.kp stbG hk
 replace Xp := Xp.kp stbP hk
 replace Xa := Xa.kp stbS hk
 replace Xt := Xt.kp stbS hk
 replace hx := (hoth w.heap.size (by omega)).trans hx
 replace hy := (hoth (w.heap.size + 1) (by omega)).trans hy
 replace hB := hB.trans (hbl.mono (by omega))
 replace hv := hn
 replace hs3 : w.heap.size + 3 <= u9.heap.size := by omega
 clear hn hbl hsz hoth hk
 go_wp2_with (first
  | (refine wpList_load_row rfl 50 _ rfl (w.heap.size + 2) rfl 50 #[.slice ppn d.ns.length qqn, .slice ppi d.is.length qqi, .slice ppf d.ds.length qqf, .int .i64 d.pl, .slice pph d.hs.length qqh, .slice ppl d.ls.length qql, .slice ppg d.gs.length qqg, .slice ppp d.ps.length qqp, .int .i64 d.nx, .slice ppa d.ga.length qqa, .slice ppt d.tk.length qqt] (0, 0) _ hv Tryz.underlying50 rfl Zmt ?_)
  | (refine Zac rfl 50 _ _ rfl (w.heap.size + 1) #[.slice ppn d.ns.length qqn, .slice ppi d.is.length qqi, .slice ppf d.ds.length qqf, .int .i64 d.pl, .slice pph d.hs.length qqh, .slice ppl d.ls.length qql, .slice ppg d.gs.length qqg, .slice ppp d.ps.length qqp, .int .i64 d.nx, .slice ppa d.ga.length qqa, .slice ppt d.tk.length qqt] rfl rfl 50 #[.slice none 0 0, .slice none 0 0, .slice none 0 0, .int .i64 0, .slice none 0 0, .slice none 0 0, .slice none 0 0, .slice none 0 0, .int .i64 0, .slice none 0 0, .slice none 0 0] hy Zmt rfl (by simp [Value.oneCell']) ?_))
 intro w9 hh9 hb9 hs9 hoth9
 have hk : Kp (w.heap.size + 3) _ w9 := Kp.of_oth (by omega) hoth9 (by omega)
 replace P1 := P1.kp F1 hk
 replace P2 := P2.kp F2 hk
 replace P3 := P3.kp F3 hk
 replace Xh := Xh.kp stbH hk
 replace Xl := Xl.kp stbL hk
 replace Xg := Xg.kp stbG hk
 replace Xp := Xp.kp stbP hk
 replace Xa := Xa.kp stbS hk
 replace Xt := Xt.kp stbS hk
 have hB9 : Below w.heap.size w w9 := hB.trans (hb9.mono (by omega))
 go_wp2
 exact bodyPost_ret (results_cell_row rfl _ _ (w.heap.size + 1) 50 _ (0, 0) _ rfl hh9 Tryz.underlying50 rfl Zmt) rfl ⟨_, _, _, _, _, _, _, _, _, rfl, ⟨P1, P2, P3, Xh.mono stbH (by omega), Xl.mono stbL (by omega), Xg.mono stbG (by omega), Xp.mono stbP (by omega), Xa.mono stbS (by omega), Xt.mono stbS (by omega), F1.mono (by omega), F2.mono (by omega), F3.mono (by omega)⟩, hB9⟩
theorem Zf9 (vn vi vf vh vl vg vp va vt un ui uf uh ul ug up ua ut : Value) (d : Wd) (B C : Nat) (w : World) (R : WR B w vn vi vf vh vl vg vp va vt d) (Q : WR C w un ui uf uh ul ug up ua ut d) :
  Calls Tryz.prog 13 #[.agg #[vn, vi, vf, .int .i64 d.pl, vh, vl, vg, vp, .int .i64 d.nx, va, vt], .agg #[un, ui, uf, .int .i64 d.pl, uh, ul, ug, up, .int .i64 d.nx, ua, ut]] w fun e w' => e = .returned (.bool true) /\ Below w.heap.size w w' := by
 obtain ⟨⟨aan, ccn, rfl⟩, ⟨aai, cci, rfl⟩, ⟨aaf, ccf, rfl⟩, ⟨aah, cch, rfl⟩, ⟨aal, ccl, rfl⟩, ⟨aag, ccg, rfl⟩, ⟨aap, ccp, rfl⟩, ⟨aaa, cca, rfl⟩, ⟨aat, cct, rfl⟩⟩ := R.form
 obtain ⟨⟨bbn, een, rfl⟩, ⟨bbi, eei, rfl⟩, ⟨bbf, eef, rfl⟩, ⟨bbh, eeh, rfl⟩, ⟨bbl, eel, rfl⟩, ⟨bbg, eeg, rfl⟩, ⟨bbp, eep, rfl⟩, ⟨bba, eea, rfl⟩, ⟨bbt, eet, rfl⟩⟩ := Q.form
 obtain ⟨hB, hx, hy⟩ := Zat w (Obj.cells #[.slice aan d.ns.length ccn, .slice aai d.is.length cci, .slice aaf d.ds.length ccf, .int .i64 d.pl, .slice aah d.hs.length cch, .slice aal d.ls.length ccl, .slice aag d.gs.length ccg, .slice aap d.ps.length ccp, .int .i64 d.nx, .slice aaa d.ga.length cca, .slice aat d.tk.length cct] 50) (Obj.cells #[.slice bbn d.ns.length een, .slice bbi d.is.length eei, .slice bbf d.ds.length eef, .int .i64 d.pl, .slice bbh d.hs.length eeh, .slice bbl d.ls.length eel, .slice bbg d.gs.length eeg, .slice bbp d.ps.length eep, .int .i64 d.nx, .slice bba d.ga.length eea, .slice bbt d.tk.length eet] 50)
 go_enter Tryz.func13, Tryz.ntmps13
 go_wp2_with (first
  | (refine Zan rfl 44 _ rfl w.heap.size 0 rfl _ 50 #[.slice aan d.ns.length ccn, .slice aai d.is.length cci, .slice aaf d.ds.length ccf] _ hx rfl Tryz.underlying44 rfl Zl8 ?_)
  | (refine Zan rfl 44 _ rfl (w.heap.size + 1) 0 rfl _ 50 #[.slice bbn d.ns.length een, .slice bbi d.is.length eei, .slice bbf d.ds.length eef] _ hy rfl Tryz.underlying44 rfl Zl8 ?_))
 refine (Zhp _ _ _ _ _ _ d.ns d.is d.ds _ (R.rn.below hB) (R.ri.below hB) (R.rf.below hB) (Q.rn.below hB) (Q.ri.below hB) (Q.rf.below hB)).mono ?_
 rintro e w0 ⟨rfl, hb⟩
 replace hx := (bb hx hb)
 replace hy := (bb hy hb)
 replace hB := hB.trans (hb.mono hB.size)
 clear hb
 have i1 : w0.cell? ⟨w.heap.size, 0 + 3, none⟩ = some (.int .i64 d.pl) := cell_of_row w0 _ 3 _ _ _ hx
 have i2 : w0.cell? ⟨w.heap.size + 1, 0 + 3, none⟩ = some (.int .i64 d.pl) := cell_of_row w0 _ 3 _ _ _ hy
 have k1 : w0.cell? ⟨w.heap.size, 0 + 4, none⟩ = some (.slice aah d.hs.length cch) := cell_of_row w0 _ 4 _ _ _ hx
 have k2 : w0.cell? ⟨w.heap.size + 1, 0 + 4, none⟩ = some (.slice bbh d.hs.length eeh) := cell_of_row w0 _ 4 _ _ _ hy
 go_wp2_with fail
 refine (ZiC _ _ d.hs B C _ (R.rh.below stbH hB) (Q.rh.below stbH hB)).mono ?_
 rintro e w1 ⟨rfl, hb⟩
 replace hx := (bb hx hb)
 replace hy := (bb hy hb)
 replace hB := hB.trans (hb.mono hB.size)
 clear hb k1 k2 i1 i2
 have k1 : w1.cell? ⟨w.heap.size, 0 + 5, none⟩ = some (.slice aal d.ls.length ccl) := cell_of_row w1 _ 5 _ _ _ hx
 have k2 : w1.cell? ⟨w.heap.size + 1, 0 + 5, none⟩ = some (.slice bbl d.ls.length eel) := cell_of_row w1 _ 5 _ _ _ hy
 go_wp2_with fail
 refine (ZiZ _ _ d.ls B C _ (R.rl.below stbL hB) (Q.rl.below stbL hB)).mono ?_
 rintro e w2 ⟨rfl, hb⟩
 replace hx := (bb hx hb)
 replace hy := (bb hy hb)
 replace hB := hB.trans (hb.mono hB.size)
 clear hb k1 k2
 have k1 : w2.cell? ⟨w.heap.size, 0 + 6, none⟩ = some (.slice aag d.gs.length ccg) := cell_of_row w2 _ 6 _ _ _ hx
 have k2 : w2.cell? ⟨w.heap.size + 1, 0 + 6, none⟩ = some (.slice bbg d.gs.length eeg) := cell_of_row w2 _ 6 _ _ _ hy
 go_wp2_with fail
 refine (Zjp _ _ d.gs B C _ (R.rg.below stbG hB) (Q.rg.below stbG hB)).mono ?_
 rintro e w3 ⟨rfl, hb⟩
 replace hx := (bb hx hb)
 replace hy := (bb hy hb)
 replace hB := hB.trans (hb.mono hB.size)
 clear hb k1 k2
 have k1 : w3.cell? ⟨w.heap.size, 0 + 7, none⟩ = some (.slice aap d.ps.length ccp) := cell_of_row w3 _ 7 _ _ _ hx
 have k2 : w3.cell? ⟨w.heap.size + 1, 0 + 7, none⟩ = some (.slice bbp d.ps.length eep) := cell_of_row w3 _ 7 _ _ _ hy
 go_wp2_with fail
 refine (Zii _ _ d.ps B C _ (R.rp.below stbP hB) (Q.rp.below stbP hB)).mono ?_
 rintro e w4 ⟨rfl, hb⟩
 replace hx := (bb hx hb)
 replace hy := (bb hy hb)
 replace hB := hB.trans (hb.mono hB.size)
 clear hb k1 k2
 have i1 : w4.cell? ⟨w.heap.size, 0 + 8, none⟩ = some (.int .i64 d.nx) := cell_of_row w4 _ 8 _ _ _ hx
 have i2 : w4.cell? ⟨w.heap.size + 1, 0 + 8, none⟩ = some (.int .i64 d.nx) := cell_of_row w4 _ 8 _ _ _ hy
 have k1 : w4.cell? ⟨w.heap.size, 0 + 9, none⟩ = some (.slice aaa d.ga.length cca) := cell_of_row w4 _ 9 _ _ _ hx
 have k2 : w4.cell? ⟨w.heap.size + 1, 0 + 9, none⟩ = some (.slice bba d.ga.length eea) := cell_of_row w4 _ 9 _ _ _ hy
 go_wp2_with fail
 refine (ZfK _ _ d.ga B C _ (R.ra.below stbS hB) (Q.ra.below stbS hB)).mono ?_
 rintro e w5 ⟨rfl, hb⟩
 replace hx := (bb hx hb)
 replace hy := (bb hy hb)
 replace hB := hB.trans (hb.mono hB.size)
 clear hb k1 k2 i1 i2
 have k1 : w5.cell? ⟨w.heap.size, 0 + 10, none⟩ = some (.slice aat d.tk.length cct) := cell_of_row w5 _ 10 _ _ _ hx
 have k2 : w5.cell? ⟨w.heap.size + 1, 0 + 10, none⟩ = some (.slice bbt d.tk.length eet) := cell_of_row w5 _ 10 _ _ _ hy
 go_wp2_with fail
 refine (ZfK _ _ d.tk B C _ (R.rt.below stbS hB) (Q.rt.below stbS hB)).mono ?_
 rintro e w6 ⟨rfl, hb⟩
 replace hx := (bb hx hb)
 replace hy := (bb hy hb)
 replace hB := hB.trans (hb.mono hB.size)
 clear hb k1 k2
 clear hx hy
 go_wp2
 go_ret
 exact ⟨rfl, hB⟩
def Za2 : List Hm -> Int -> Nat -> Int
 | [], _, _ => -1
 | h :: hs, p, i => if h.i == p then i else Za2 hs p (i + 1)
theorem Zfs (hs : List Hm) (p : Int) (i : Nat) (h : Hm) (hx : hs[i]? = some h) (e : (h.i == p) = true) : Za2 (hs.drop i) p i = i := by
 obtain ⟨hl, he⟩ := List.getElem?_eq_some_iff.1 hx
 rw [List.drop_eq_getElem_cons hl, he, Za2, if_pos e]
theorem ZdT (hs : List Hm) (p : Int) (i : Nat) (h : Hm) (hx : hs[i]? = some h) (e : (h.i == p) = false) : Za2 (hs.drop i) p i = Za2 (hs.drop (i + 1)) p (i + 1) := by
 obtain ⟨hl, he⟩ := List.getElem?_eq_some_iff.1 hx
 rw [List.drop_eq_getElem_cons hl, he, Za2, if_neg (by rw [e]; simp)]
theorem ZfG (hs : List Hm) (p : Int) (i : Nat) (h : hs.length <= i) : Za2 (hs.drop i) p i = -1 := by
 rw [List.drop_eq_nil_of_le h, Za2]
theorem Zgm (vn vi vf vh vl vg vp va vt : Value) (d : Wd) (p : Int) (B : Nat) (w : World) (R : WR B w vn vi vf vh vl vg vp va vt d) :
  Calls Tryz.prog 53 #[.agg #[vn, vi, vf, .int .i64 d.pl, vh, vl, vg, vp, .int .i64 d.nx, va, vt], .int .i64 p] w fun e w' => e = .returned (.int .i64 (Za2 d.hs p 0)) /\ Below w.heap.size w w' := by
 have R4 := R.rh
 obtain ⟨⟨an, cn, rfl⟩, ⟨ai, ci, rfl⟩, ⟨af, cf, rfl⟩, ⟨ah, ch, rfl⟩, ⟨al, cl, rfl⟩, ⟨ag, cg, rfl⟩, ⟨ap, cp, rfl⟩, ⟨aa, ca, rfl⟩, ⟨ab, cb, rfl⟩⟩ := R.form
 clear R
 obtain ⟨ao, cap, hh, hcap, hm, hcell⟩ := R4
 simp only [Value.slice.injEq] at hh
 obtain ⟨rfl, _, rfl⟩ := hh
 go_enter Tryz.func53, Tryz.ntmps53
 have hB0 : Below w.heap.size w (w.alloc (Obj.cells #[.slice an d.ns.length cn, .slice ai d.is.length ci, .slice af d.ds.length cf, .int .i64 d.pl, .slice ah d.hs.length ch, .slice al d.ls.length cl, .slice ag d.gs.length cg, .slice ap d.ps.length cp, .int .i64 d.nx, .slice aa d.ga.length ca, .slice ab d.tk.length cb] 50)) := (Below.refl _ _).alloc (Nat.le_refl _) _
 have hx0 := heap_alloc_new w (Obj.cells #[.slice an d.ns.length cn, .slice ai d.is.length ci, .slice af d.ds.length cf, .int .i64 d.pl, .slice ah d.hs.length ch, .slice al d.ls.length cl, .slice ag d.gs.length cg, .slice ap d.ps.length cp, .int .i64 d.nx, .slice aa d.ga.length ca, .slice ab d.tk.length cb] 50)
 go_wp2_with fail
 generalize w.alloc (Obj.cells #[.slice an d.ns.length cn, .slice ai d.is.length ci, .slice af d.ds.length cf, .int .i64 d.pl, .slice ah d.hs.length ch, .slice al d.ls.length cl, .slice ag d.gs.length cg, .slice ap d.ps.length cp, .int .i64 d.nx, .slice aa d.ga.length ca, .slice ab d.tk.length cb] 50) = w0 at *
 have hc0 : w0.cell? ⟨w.heap.size, 0 + 4, none⟩ = some (.slice ah d.hs.length ch) := by rw [cell_of_row w0 _ 4 _ _ _ hx0]; rfl
 have hs0 := (bl hx0)
 go_loopw [5] (fun i wr => ∃ k : Nat, k <= d.hs.length /\ i = .int .i64 k /\ Hid (Za2 d.hs p 0 = Za2 (d.hs.drop k) p k) /\ Below w0.heap.size w0 wr) (fun i _ => d.hs.length - (intOf i).toNat)
 case atStart => exact ⟨0, by omega, rfl, rfl, Below.refl _ _⟩
 case round =>
  obtain ⟨k, hk, rfl, HK, hb⟩ := hrel
  have hB := hB0.trans (hb.mono hB0.size)
  have hcr := (hb.cell (p := ⟨w.heap.size, 0 + 4, none⟩) hs0).trans hc0
  by_cases hlt : k < d.hs.length
  ·obtain ⟨g, o, rfl, _, hg, hcell⟩ := hcell (by intro e; rw [e] at hlt; simp at hlt)
   obtain ⟨x, hx⟩ : ∃ x, d.hs[k]? = some x := ⟨d.hs[k], by simp [hlt]⟩
   obtain ⟨cs, hcs, hr, v1, v2, v3, hc, _⟩ := hcell k x hx
   obtain rfl : cs = (#[.int .i64 x.pl, .int .i64 x.i, v1, .int .i64 x.m.p, .int .i64 x.m.s, .int .i64 x.m.e, .int .i64 x.m.d, .int .i64 x.m.t, .int .i64 x.m.q, .int .i64 x.m.r, v2, v3] : Array Value).toList := congrArg Array.toList hc
   have d1 : wr.cell? ⟨g, o + k * 12 + 1, none⟩ = some (.int .i64 x.i) := Zaj hr hB hg 1 _ rfl
   have d2 : wr.cell? ⟨g, o + k * 12 + 1 + 0, none⟩ = some (.int .i64 x.i) := d1
   clear hcell hc hcs hr
   cases e : (x.i == p) with
   | true =>
    have HR : Hid (Za2 d.hs p 0 = k) := by unfold Hid; rw [HK.out, Zfs d.hs p k x hx e]
    clear hx HK
    go_wp2
    go_ret
    exact ⟨by rw [HR.out]; rfl, hB⟩
   | false =>
    have HR : Hid (Za2 d.hs p 0 = Za2 (d.hs.drop (k + 1)) p (k + 1)) := by unfold Hid; rw [HK.out, ZdT d.hs p k x hx e]
    clear hx HK
    go_wp2
    go_roundw
    case rel => exact ⟨k + 1, by omega, by go_num, HR, hb⟩
    case measure => simp [intOf]; omega
  ·have HR : Hid (Za2 d.hs p 0 = -1) := by unfold Hid; rw [HK.out, ZfG d.hs p k (by omega)]
   clear HK hcell
   go_wp2
   go_ret
   exact ⟨by rw [HR.out]; rfl, hB⟩
theorem Zc0 (x : Hm) (v1 v2 v3 : Value) (p : Int) (q : Nat) (w : World) (hq : w.cell? ⟨q, 0, none⟩ = some (.int .i64 p)) (hl : q < w.heap.size) :
  Calls Tryz.prog 104 #[.agg #[.int .i64 x.pl, .int .i64 x.i, v1, .int .i64 x.m.p, .int .i64 x.m.s, .int .i64 x.m.e, .int .i64 x.m.d, .int .i64 x.m.t, .int .i64 x.m.q, .int .i64 x.m.r, v2, v3], .pointer (some ⟨q, 0, none⟩)] w fun e w' => e = .returned (.bool (x.i == p)) /\ Below w.heap.size w w' := by
 have hx0 := heap_alloc_new w (Obj.cells #[.int .i64 x.pl, .int .i64 x.i, v1, .int .i64 x.m.p, .int .i64 x.m.s, .int .i64 x.m.e, .int .i64 x.m.d, .int .i64 x.m.t, .int .i64 x.m.q, .int .i64 x.m.r, v2, v3] 85)
 have hB0 : Below w.heap.size w (w.alloc (Obj.cells #[.int .i64 x.pl, .int .i64 x.i, v1, .int .i64 x.m.p, .int .i64 x.m.s, .int .i64 x.m.e, .int .i64 x.m.d, .int .i64 x.m.t, .int .i64 x.m.q, .int .i64 x.m.r, v2, v3] 85)) := (Below.refl _ _).alloc (Nat.le_refl _) _
 have c1 : (w.alloc (Obj.cells #[.int .i64 x.pl, .int .i64 x.i, v1, .int .i64 x.m.p, .int .i64 x.m.s, .int .i64 x.m.e, .int .i64 x.m.d, .int .i64 x.m.t, .int .i64 x.m.q, .int .i64 x.m.r, v2, v3] 85)).cell? ⟨w.heap.size, 1, none⟩ = some (.int .i64 x.i) := cell_of_row _ _ 1 _ _ _ hx0
 have c2 := (hB0.cell (p := ⟨q, 0, none⟩) hl).trans hq
 clear hx0
 go_enter Tryz.func104, Tryz.ntmps104
 go_wp2
 go_ret
 exact ⟨rfl, hB0⟩
theorem ZhL (v : Value) (hs : List Hm) (p : Int) (q B : Nat) (w : World) (R : XRow B 12 EH w v hs) (hq : w.cell? ⟨q, 0, none⟩ = some (.int .i64 p)) (hl : q < w.heap.size) :
  Calls Tryz.prog 103 #[v, .func (.func 104) #[] #[.pointer (some ⟨q, 0, none⟩)]] w fun e w' => e = .returned (.int .i64 (Za2 hs p 0)) /\ Below w.heap.size w w' := by
 obtain ⟨ao, cap, rfl, hcap, hm, hcell⟩ := R
 go_enter Tryz.func103, Tryz.ntmps103
 go_wp2_with fail
 go_loopw [8] (fun i wr => ∃ k : Nat, k <= hs.length /\ i = .int .i64 k /\ Hid (Za2 hs p 0 = Za2 (hs.drop k) p k) /\ Below w.heap.size w wr) (fun i _ => hs.length - (intOf i).toNat)
 case atStart => exact ⟨0, by omega, rfl, rfl, Below.refl _ _⟩
 case round =>
  obtain ⟨k, hk, rfl, HK, hb⟩ := hrel
  have hcr := (hb.cell (p := ⟨q, 0, none⟩) hl).trans hq
  have hlr := Nat.lt_of_lt_of_le hl hb.size
  by_cases hlt : k < hs.length
  ·obtain ⟨g, o, rfl, _, hg, hcell⟩ := hcell (by intro e; subst e; simp at hlt)
   obtain ⟨x, hx⟩ : ∃ x, hs[k]? = some x := ⟨hs[k], by simp [hlt]⟩
   obtain ⟨cs, hcs, hr, v1, v2, v3, hc, _⟩ := hcell k x hx
   obtain rfl : cs = (#[.int .i64 x.pl, .int .i64 x.i, v1, .int .i64 x.m.p, .int .i64 x.m.s, .int .i64 x.m.e, .int .i64 x.m.d, .int .i64 x.m.t, .int .i64 x.m.q, .int .i64 x.m.r, v2, v3] : Array Value).toList := congrArg Array.toList hc
   replace hr := Zaj hr hb hg
   clear hcell hc hcs
   cases e : (x.i == p) with
   | true =>
    have HR : Hid (Za2 hs p 0 = k) := by unfold Hid; rw [HK.out, Zfs hs p k x hx e]
    clear hx HK
    go_wp2_with (refine wpList_load_mid rfl 85 _ rfl g (o + k * 12) rfl _ _ hr Tryz.underlying85 rfl (by kernel_rfl) ?_)
    refine (Zc0 x v1 v2 v3 p q _ hcr hlr).mono ?_
    rintro e' w2 ⟨rfl, hb2⟩
    rw [e]
    have hB2 := hb.trans (hb2.mono hb.size)
    clear hr hcr hb2
    go_wp2
    go_ret
    exact ⟨by rw [HR.out]; rfl, hB2⟩
   | false =>
    have HR : Hid (Za2 hs p 0 = Za2 (hs.drop (k + 1)) p (k + 1)) := by unfold Hid; rw [HK.out, ZdT hs p k x hx e]
    clear hx HK
    go_wp2_with (refine wpList_load_mid rfl 85 _ rfl g (o + k * 12) rfl _ _ hr Tryz.underlying85 rfl (by kernel_rfl) ?_)
    refine (Zc0 x v1 v2 v3 p q _ hcr hlr).mono ?_
    rintro e' w2 ⟨rfl, hb2⟩
    rw [e]
    have hB2 := hb.trans (hb2.mono hb.size)
    clear hr hcr hb2
    go_wp2
    go_roundw
    case rel => exact ⟨k + 1, by omega, by go_num, HR, hB2⟩
    case measure => simp [intOf]; omega
  ·have HR : Hid (Za2 hs p 0 = -1) := by unfold Hid; rw [HK.out, ZfG hs p k (by omega)]
   clear HK hcell
   go_wp2
   go_ret
   exact ⟨by rw [HR.out]; rfl, hb⟩
theorem Zgc (vn vi vf vh vl vg vp va vt : Value) (d : Wd) (p : Int) (B : Nat) (w : World) (R : WR B w vn vi vf vh vl vg vp va vt d) :
  Calls Tryz.prog 54 #[.agg #[vn, vi, vf, .int .i64 d.pl, vh, vl, vg, vp, .int .i64 d.nx, va, vt], .int .i64 p] w fun e w' => e = .returned (.int .i64 (Za2 d.hs p 0)) /\ Below w.heap.size w w' := by
 have hmf : ∀ (fn : Fn) (first cap : Array Value) (w : World), (Instr.makeFunc fn first cap).run Tryz.prog w = .ok (.func fn first cap) w := fun _ _ _ _ => rfl
 have R4 := R.rh
 obtain ⟨⟨an, cn, rfl⟩, ⟨ai, ci, rfl⟩, ⟨af, cf, rfl⟩, ⟨ah, ch, rfl⟩, ⟨al, cl, rfl⟩, ⟨ag, cg, rfl⟩, ⟨ap, cp, rfl⟩, ⟨aa, ca, rfl⟩, ⟨ab, cb, rfl⟩⟩ := R.form
 clear R
 obtain ⟨hB0, hx, hy⟩ := Zat w (Obj.cells #[.slice an d.ns.length cn, .slice ai d.is.length ci, .slice af d.ds.length cf, .int .i64 d.pl, .slice ah d.hs.length ch, .slice al d.ls.length cl, .slice ag d.gs.length cg, .slice ap d.ps.length cp, .int .i64 d.nx, .slice aa d.ga.length ca, .slice ab d.tk.length cb] 50) (Obj.cells #[.int .i64 p] 3)
 have k1 := cell_of_row _ _ 0 _ _ _ hy
 go_enter Tryz.func54, Tryz.ntmps54
 go_wp2_with fail
 refine (ZhL _ d.hs p (w.heap.size + 1) B _ (R4.below stbH hB0) k1 (bl hy)).mono ?_
 rintro e w1 ⟨rfl, hb1⟩
 have hB1 := hB0.trans (hb1.mono hB0.size)
 clear hB0 hb1 hx hy k1
 go_wp2
 go_ret
 exact ⟨rfl, hB1⟩
end Go.Proofs.YtfmafkebddojjaaGreatDoor
