/-
  Texts that stood by themselves, laid into one.
-/
import Derived.Test.YtgaaklpbpmbihaaGreatLMachHelpM
import Derived.Deep.RegionHeld
import Derived.Deep.CutBlock
import Derived.Test.YtgaaklpbpmbihaaGreatNdM
import Derived.ProofKit
import Derived.OpenShut
import Derived.ShutString
import Derived.ChangeOld
import Derived.Below
import Derived.Deep.Slices
import Derived.ChangeSame
/-
  The law FnExactMachinePack, walked: at every code and machine it returns true.
-/
namespace Go.Proofs.YtgaaklpbpmbihaaGreat
open Go.RowKit

set_option maxRecDepth 100000 in
set_option maxHeartbeats 16000000 in
theorem lmpack_any (v1 v2 v3 v : Value) (ns : List Nd) (is : List In) (ds : List Df) (xs : List Nd) (m : Mc) (w : World) (R1 : NRow w v1 ns) (R2 : InRow w v2 is) (R3 : DfRow w v3 ds) (R : NRow w v xs) :
    Calls Tryz.prog 3 #[.agg #[v1, v2, v3], .agg #[v, .int .i64 m.p, .int .i64 m.s, .int .i64 m.e, .int .i64 m.d, .int .i64 m.t, .int .i64 m.q, .int .i64 m.r]] w fun e w' => e = .returned (.bool true) ∧ Below w.heap.size w w' := by
  have hzx := R.sz
  have R' := R
  obtain ⟨ao, cap, rfl, _⟩ := R'
  obtain ⟨a1, c1, rfl⟩ := R1.small
  obtain ⟨a2, c2, rfl⟩ := R2.small
  obtain ⟨a3, c3, rfl⟩ := R3.small
  obtain ⟨hB0, hk0, hx0⟩ := two_boxes w (Obj.cells #[.slice a1 ns.length c1, .slice a2 is.length c2, .slice a3 ds.length c3] 28) (Obj.cells #[.slice ao xs.length cap, .int .i64 m.p, .int .i64 m.s, .int .i64 m.e, .int .i64 m.d, .int .i64 m.t, .int .i64 m.q, .int .i64 m.r] 30)
  go_enter Tryz.func3, Tryz.ntmps3
  go_wp2_with fail
  refine (szcode_any _ _ _ ns is ds _ (R1.below hB0) (R2.below hB0) (R3.below hB0)).mono ?_
  rintro e w1 ⟨r, rfl, hr0, hr1, hr2, hb1⟩
  have hB1 := hB0.trans (hb1.mono hB0.size)
  have hk1 := (hb1.block _ (Array.getElem?_eq_some_iff.1 hk0).1).trans hk0
  have hx1 := (hb1.block _ (Array.getElem?_eq_some_iff.1 hx0).1).trans hx0
  clear hB0 hk0 hx0 hb1
  by_cases hr : r < 0
  · go_wp2
    go_ret
    exact ⟨rfl, hB1⟩
  obtain ⟨l1, l2, l3⟩ := hr2 (by omega)
  clear hr2
  go_wp2_with (refine wpList_load_row rfl 30 _ rfl (w.heap.size + 1) rfl 30 #[.slice ao xs.length cap, .int .i64 m.p, .int .i64 m.s, .int .i64 m.e, .int .i64 m.d, .int .i64 m.t, .int .i64 m.q, .int .i64 m.r] (0, 0) _ hx1 Tryz.underlying30 rfl Tryz.sizeLM ?_)
  refine (szmach_gen r (by omega) hr1 _ xs m _ (R.below hB1)).mono ?_
  rintro e w2 ⟨r2, rfl, hr20, hr21, hr22, hb2⟩
  have hB2 := hB1.trans (hb2.mono hB1.size)
  have hk2 := (hb2.block _ (Array.getElem?_eq_some_iff.1 hk1).1).trans hk1
  have hx2 := (hb2.block _ (Array.getElem?_eq_some_iff.1 hx1).1).trans hx1
  clear hB1 hk1 hx1 hb2
  by_cases hr2 : r2 < 0
  · go_wp2
    go_ret
    exact ⟨rfl, hB2⟩
  have hlx := (hr22 (by omega)).1
  clear hr22 hr20 hr21 hr0 hr1
  have q0 := (Array.getElem?_eq_some_iff.1 hk2).1
  have q1 := (Array.getElem?_eq_some_iff.1 hx2).1
  have sS : w2.cell? ⟨w.heap.size, 0, none⟩ = some (.slice a1 ns.length c1) ∧ w2.cell? ⟨w.heap.size, 1, none⟩ = some (.slice a2 is.length c2) ∧ w2.cell? ⟨w.heap.size, 2, none⟩ = some (.slice a3 ds.length c3) ∧ w2.cell? ⟨w.heap.size + 1, 0, none⟩ = some (.slice ao xs.length cap) ∧ w2.cell? ⟨w.heap.size + 1, 1, none⟩ = some (.int .i64 m.p) ∧ w2.cell? ⟨w.heap.size + 1, 2, none⟩ = some (.int .i64 m.s) ∧ w2.cell? ⟨w.heap.size + 1, 3, none⟩ = some (.int .i64 m.e) ∧ w2.cell? ⟨w.heap.size + 1, 4, none⟩ = some (.int .i64 m.d) ∧ w2.cell? ⟨w.heap.size + 1, 5, none⟩ = some (.int .i64 m.t) ∧ w2.cell? ⟨w.heap.size + 1, 6, none⟩ = some (.int .i64 m.q) ∧ w2.cell? ⟨w.heap.size + 1, 7, none⟩ = some (.int .i64 m.r) := ⟨cell_of_row w2 _ 0 _ _ _ hk2, cell_of_row w2 _ 1 _ _ _ hk2, cell_of_row w2 _ 2 _ _ _ hk2, cell_of_row w2 _ 0 _ _ _ hx2, cell_of_row w2 _ 1 _ _ _ hx2, cell_of_row w2 _ 2 _ _ _ hx2, cell_of_row w2 _ 3 _ _ _ hx2, cell_of_row w2 _ 4 _ _ _ hx2, cell_of_row w2 _ 5 _ _ _ hx2, cell_of_row w2 _ 6 _ _ _ hx2, cell_of_row w2 _ 7 _ _ _ hx2⟩
  go_wp2_with fail
  go_cut [6, 7] from 22 (fun s6 s7 wc => s6 = .string (mpR ns is ds xs m) ∧ s7 = .bool (machB ns is ds xs m) ∧ Below w.heap.size w wc ∧ wc.heap[w.heap.size]? = some (.cells #[.slice a1 ns.length c1, .slice a2 is.length c2, .slice a3 ds.length c3] 28 (0, 0)) ∧ wc.heap[w.heap.size + 1]? = some (.cells #[.slice ao xs.length cap, .int .i64 m.p, .int .i64 m.s, .int .i64 m.e, .int .i64 m.d, .int .i64 m.t, .int .i64 m.q, .int .i64 m.r] 30 (0, 0)))
  case first =>
    go_region_held (fun w' => w'.cell? ⟨w.heap.size, 0, none⟩ = some (.slice a1 ns.length c1) ∧ w'.cell? ⟨w.heap.size, 1, none⟩ = some (.slice a2 is.length c2) ∧ w'.cell? ⟨w.heap.size, 2, none⟩ = some (.slice a3 ds.length c3) ∧ w'.cell? ⟨w.heap.size + 1, 0, none⟩ = some (.slice ao xs.length cap) ∧ w'.cell? ⟨w.heap.size + 1, 1, none⟩ = some (.int .i64 m.p) ∧ w'.cell? ⟨w.heap.size + 1, 2, none⟩ = some (.int .i64 m.s) ∧ w'.cell? ⟨w.heap.size + 1, 3, none⟩ = some (.int .i64 m.e) ∧ w'.cell? ⟨w.heap.size + 1, 4, none⟩ = some (.int .i64 m.d) ∧ w'.cell? ⟨w.heap.size + 1, 5, none⟩ = some (.int .i64 m.t) ∧ w'.cell? ⟨w.heap.size + 1, 6, none⟩ = some (.int .i64 m.q) ∧ w'.cell? ⟨w.heap.size + 1, 7, none⟩ = some (.int .i64 m.r)) (first | exact sZ | exact sA | exact sM | go_keep) (first
      | (go_at_call 7; refine (tocode_any _ _ _ ns is ds _ ?_ ?_ ?_ ?_ ?_ ?_).mono ?_; (first | exact R1.below hB2.drew | exact R1.below hBM); (first | exact R2.below hB2.drew | exact R2.below hBM); (first | exact R3.below hB2.drew | exact R3.below hBM); omega; omega; omega; rintro e wA ⟨u1, u2, u3, rfl, S1, S2, S3, hbA⟩; obtain ⟨b1, d1, rfl⟩ := S1.small; obtain ⟨b2, d2, rfl⟩ := S2.small; obtain ⟨b3, d3, rfl⟩ := S3.small
         have hA : Below w2.heap.size w2 wA := (by first | exact stepD hbA | exact hM.trans (hbA.mono hM.size))
         have hBA := hB2.trans (hA.mono hB2.size)
         have sA := cells11 sS hA q0 q0 q0 q1 q1 q1 q1 q1 q1 q1 q1)
      | (go_at_call 8; refine (tomach_any _ xs m _ ?_ ?_).mono ?_; (first | exact R.below hB2.drew | exact R.below hBA); omega; rintro e wM ⟨vm, rfl, hoM, hbM⟩; obtain ⟨am, cm, rfl⟩ := own_form hoM; have SM := NRow.of_own hoM (by omega) hzx
         have hM : Below w2.heap.size w2 wM := (by first | exact stepD hbM | exact hA.trans (hbM.mono hA.size))
         have hBM := hB2.trans (hM.mono hB2.size)
         have sM := cells11 sS hM q0 q0 q0 q1 q1 q1 q1 q1 q1 q1 q1)
      | (go_at_call 6; refine (smpack_any _ _ _ _ ns is ds xs m _ ?_ ?_ ?_ ?_).mono ?_; (first | exact S1.below hbM | exact S1); (first | exact S2.below hbM | exact S2); (first | exact S3.below hbM | exact S3); (first | exact SM | exact SM.below hbA); rintro e wZ ⟨rfl, hbZ⟩
         have hZ : Below w2.heap.size w2 wZ := (by first | exact hM.trans (hbZ.mono hM.size) | exact hA.trans (hbZ.mono hA.size))
         have sZ := cells11 sS hZ q0 q0 q0 q1 q1 q1 q1 q1 q1 q1 q1))
    all_goals
      go_wp2_with fail
      go_meet
      case rel => exact ⟨rfl, rfl, hB2.trans (hZ.mono hB2.size), (hZ.block _ q0).trans hk2, (hZ.block _ q1).trans hx2⟩
  case rest =>
    obtain ⟨rfl, rfl, hBc, hkc, hxc⟩ := hcut
    clear hB2 hk2 hx2 sS q0 q1
    go_wp2_with (refine wpList_load_row rfl 28 _ rfl w.heap.size rfl 28 #[.slice a1 ns.length c1, .slice a2 is.length c2, .slice a3 ds.length c3] (0, 0) _ hkc Tryz.underlying28 rfl Tryz.sizeLC ?_)
    refine (tocode_any _ _ _ ns is ds _ (R1.below hBc) (R2.below hBc) (R3.below hBc) (by omega) (by omega) (by omega)).mono ?_
    rintro e wd ⟨u1, u2, u3, rfl, S1, S2, S3, hbd⟩
    obtain ⟨b1, d1, rfl⟩ := S1.small
    obtain ⟨b2, d2, rfl⟩ := S2.small
    obtain ⟨b3, d3, rfl⟩ := S3.small
    have hkd := (hbd.block _ (Array.getElem?_eq_some_iff.1 hkc).1).trans hkc
    have hxd := (hbd.block _ (Array.getElem?_eq_some_iff.1 hxc).1).trans hxc
    have hBd := hBc.trans (hbd.mono hBc.size)
    clear hBc hkc hxc hbd
    go_wp2_with (refine wpList_store_own rfl 41 _ _ rfl wd.heap.size #[.slice b1 ns.length d1, .slice b2 is.length d2, .slice b3 ds.length d3] rfl rfl 41 _ (heap_alloc_new _ _) Tryz.sizeCode rfl (by simp [Value.oneCell']) ?_)
    intro we hye hbe hse
    have hde : Below wd.heap.size wd we := ((Below.refl _ _).alloc (Nat.le_refl _) _).trans hbe
    have hke := (hde.block _ (Array.getElem?_eq_some_iff.1 hkd).1).trans hkd
    have hxe := (hde.block _ (Array.getElem?_eq_some_iff.1 hxd).1).trans hxd
    have hBe := hBd.trans (hde.mono hBd.size)
    have T1 := S1.below hde
    have T2 := S2.below hde
    have T3 := S3.below hde
    generalize wd.heap.size = yc at *
    clear hBd hkd hxd hbe hse hde S1 S2 S3
    go_wp2_with (refine wpList_load_row rfl 30 _ rfl (w.heap.size + 1) rfl 30 #[.slice ao xs.length cap, .int .i64 m.p, .int .i64 m.s, .int .i64 m.e, .int .i64 m.d, .int .i64 m.t, .int .i64 m.q, .int .i64 m.r] (0, 0) _ hxe Tryz.underlying30 rfl Tryz.sizeLM ?_)
    refine (tomach_any _ xs m _ (R.below hBe) (by omega)).mono ?_
    rintro e wf ⟨vm, rfl, hoM, hbf⟩
    obtain ⟨am, cm, rfl⟩ := own_form hoM
    have SM := NRow.of_own hoM (by omega) hzx
    have hkf := (hbf.block _ (Array.getElem?_eq_some_iff.1 hke).1).trans hke
    have hxf := (hbf.block _ (Array.getElem?_eq_some_iff.1 hxe).1).trans hxe
    have hyf := (hbf.block _ (Array.getElem?_eq_some_iff.1 hye).1).trans hye
    have hBf := hBe.trans (hbf.mono hBe.size)
    replace T1 := T1.below hbf
    replace T2 := T2.below hbf
    replace T3 := T3.below hbf
    clear hBe hke hxe hye hbf hoM
    go_wp2_with (refine wpList_store_own rfl 44 _ _ rfl wf.heap.size #[.slice am xs.length cm, .int .i64 m.p, .int .i64 m.s, .int .i64 m.e, .int .i64 m.d, .int .i64 m.t, .int .i64 m.q, .int .i64 m.r] rfl rfl 44 _ (heap_alloc_new _ _) Tryz.sizeMach rfl (by simp [Value.oneCell']) ?_)
    intro wg hzg hbg hsg
    have hdg : Below wf.heap.size wf wg := ((Below.refl _ _).alloc (Nat.le_refl _) _).trans hbg
    have hkg := (hdg.block _ (Array.getElem?_eq_some_iff.1 hkf).1).trans hkf
    have hxg := (hdg.block _ (Array.getElem?_eq_some_iff.1 hxf).1).trans hxf
    have hyg := (hdg.block _ (Array.getElem?_eq_some_iff.1 hyf).1).trans hyf
    have hBg := hBf.trans (hdg.mono hBf.size)
    replace T1 := T1.below hdg
    replace T2 := T2.below hdg
    replace T3 := T3.below hdg
    replace SM := SM.below hdg
    generalize wf.heap.size = ym at *
    clear hBf hkf hxf hyf hbg hsg hdg
    go_wp2_with (first
      | (refine wpList_load_row rfl 41 _ rfl yc rfl 41 #[.slice b1 ns.length d1, .slice b2 is.length d2, .slice b3 ds.length d3] (0, 0) _ hyg Tryz.underlying41 rfl Tryz.sizeCode ?_)
      | (refine wpList_load_row rfl 44 _ rfl ym rfl 44 #[.slice am xs.length cm, .int .i64 m.p, .int .i64 m.s, .int .i64 m.e, .int .i64 m.d, .int .i64 m.t, .int .i64 m.q, .int .i64 m.r] (0, 0) _ hzg Tryz.underlying44 rfl Tryz.sizeMach ?_))
    refine (impack_any _ _ _ _ ns is ds xs m _ T1 T2 T3 SM).mono ?_
    rintro e wh ⟨rfl, hbh⟩
    have hkh := (hbh.block _ (Array.getElem?_eq_some_iff.1 hkg).1).trans hkg
    have hxh := (hbh.block _ (Array.getElem?_eq_some_iff.1 hxg).1).trans hxg
    have hyh := (hbh.block _ (Array.getElem?_eq_some_iff.1 hyg).1).trans hyg
    have hzh := (hbh.block _ (Array.getElem?_eq_some_iff.1 hzg).1).trans hzg
    have hBh := hBg.trans (hbh.mono hBg.size)
    replace T1 := T1.below hbh
    replace T2 := T2.below hbh
    replace T3 := T3.below hbh
    replace SM := SM.below hbh
    clear hBg hkg hxg hyg hzg hbh
    generalize machB ns is ds xs m = bb at *
    generalize mpR ns is ds xs m = rr at *
    have qy := (Array.getElem?_eq_some_iff.1 hyh).1
    have qz := (Array.getElem?_eq_some_iff.1 hzh).1
    have qk := (Array.getElem?_eq_some_iff.1 hkh).1
    have qx := (Array.getElem?_eq_some_iff.1 hxh).1
    have e0 : wh.cell? ⟨w.heap.size, 0, none⟩ = some (.slice a1 ns.length c1) := cell_of_row wh _ 0 _ _ _ hkh
    have k0 : wh.cell? ⟨yc, 0, none⟩ = some (.slice b1 ns.length d1) := cell_of_row wh _ 0 _ _ _ hyh
    have e1 : wh.cell? ⟨w.heap.size, 1, none⟩ = some (.slice a2 is.length c2) := cell_of_row wh _ 1 _ _ _ hkh
    have k1 : wh.cell? ⟨yc, 1, none⟩ = some (.slice b2 is.length d2) := cell_of_row wh _ 1 _ _ _ hyh
    have e2 : wh.cell? ⟨w.heap.size, 2, none⟩ = some (.slice a3 ds.length c3) := cell_of_row wh _ 2 _ _ _ hkh
    have k2 : wh.cell? ⟨yc, 2, none⟩ = some (.slice b3 ds.length d3) := cell_of_row wh _ 2 _ _ _ hyh
    go_wp2_with fail
    go_region_with (first
      | (go_at_call 7; refine (tocode_any _ _ _ ns is ds _ ?_ ?_ ?_ ?_ ?_ ?_).mono ?_; exact R1.below hBh.drew; exact R2.below hBh.drew; exact R3.below hBh.drew; omega; omega; omega; rintro e wi ⟨p1, p2, p3, rfl, P1, P2, P3, hbi⟩; obtain ⟨f1, g1, rfl⟩ := P1.small; obtain ⟨f2, g2, rfl⟩ := P2.small; obtain ⟨f3, g3, rfl⟩ := P3.small; have hbi' : Below wh.heap.size wh wi := stepD hbi; have U1 := T1.below hbi'; have U2 := T2.below hbi'; have U3 := T3.below hbi'; have m0 := (hbi'.cell (p := ⟨yc, 0, none⟩) qy).trans k0; have m1 := (hbi'.cell (p := ⟨yc, 1, none⟩) qy).trans k1; have m2 := (hbi'.cell (p := ⟨yc, 2, none⟩) qy).trans k2)
      | (go_at_call 10; refine (eqcode_any _ _ _ _ _ _ ns is ds _ ?_ ?_ ?_ ?_ ?_ ?_).mono ?_; exact U1; exact U2; exact U3; exact P1; exact P2; exact P3; rintro e wj ⟨rfl, hbj⟩))
    all_goals
      have hij : Below wh.heap.size wh wj := hbi'.trans (hbj.mono hbi'.size)
      have hxj := (hij.block _ qx).trans hxh
      have hzj := (hij.block _ qz).trans hzh
      have hBj := hBh.trans (hij.mono hBh.size)
      have SJ := SM.below hij
      clear hbi hbi' hbj hij m0 m1 m2 U1 U2 U3 P1 P2 P3 e0 e1 e2 k0 k1 k2 T1 T2 T3 hkh hxh hyh hzh hBh SM
      have qz' := (Array.getElem?_eq_some_iff.1 hzj).1
      have e0 : wj.cell? ⟨w.heap.size + 1, 0, none⟩ = some (.slice ao xs.length cap) := cell_of_row wj _ 0 _ _ _ hxj
      have k0 : wj.cell? ⟨ym, 0, none⟩ = some (.slice am xs.length cm) := cell_of_row wj _ 0 _ _ _ hzj
      have e1 : wj.cell? ⟨w.heap.size + 1, 1, none⟩ = some (.int .i64 m.p) := cell_of_row wj _ 1 _ _ _ hxj
      have k1 : wj.cell? ⟨ym, 1, none⟩ = some (.int .i64 m.p) := cell_of_row wj _ 1 _ _ _ hzj
      have e2 : wj.cell? ⟨w.heap.size + 1, 2, none⟩ = some (.int .i64 m.s) := cell_of_row wj _ 2 _ _ _ hxj
      have k2 : wj.cell? ⟨ym, 2, none⟩ = some (.int .i64 m.s) := cell_of_row wj _ 2 _ _ _ hzj
      have e3 : wj.cell? ⟨w.heap.size + 1, 3, none⟩ = some (.int .i64 m.e) := cell_of_row wj _ 3 _ _ _ hxj
      have k3 : wj.cell? ⟨ym, 3, none⟩ = some (.int .i64 m.e) := cell_of_row wj _ 3 _ _ _ hzj
      have e4 : wj.cell? ⟨w.heap.size + 1, 4, none⟩ = some (.int .i64 m.d) := cell_of_row wj _ 4 _ _ _ hxj
      have k4 : wj.cell? ⟨ym, 4, none⟩ = some (.int .i64 m.d) := cell_of_row wj _ 4 _ _ _ hzj
      have e5 : wj.cell? ⟨w.heap.size + 1, 5, none⟩ = some (.int .i64 m.t) := cell_of_row wj _ 5 _ _ _ hxj
      have k5 : wj.cell? ⟨ym, 5, none⟩ = some (.int .i64 m.t) := cell_of_row wj _ 5 _ _ _ hzj
      have e6 : wj.cell? ⟨w.heap.size + 1, 6, none⟩ = some (.int .i64 m.q) := cell_of_row wj _ 6 _ _ _ hxj
      have k6 : wj.cell? ⟨ym, 6, none⟩ = some (.int .i64 m.q) := cell_of_row wj _ 6 _ _ _ hzj
      have e7 : wj.cell? ⟨w.heap.size + 1, 7, none⟩ = some (.int .i64 m.r) := cell_of_row wj _ 7 _ _ _ hxj
      have k7 : wj.cell? ⟨ym, 7, none⟩ = some (.int .i64 m.r) := cell_of_row wj _ 7 _ _ _ hzj
      go_wp2_with fail
      go_region_with (first
        | (go_at_call 8; refine (tomach_any _ xs m _ ?_ ?_).mono ?_; exact R.below hBj.drew; omega; rintro e wk ⟨vk, rfl, hok, hbk⟩; obtain ⟨ak, ck, rfl⟩ := own_form hok; have SK := NRow.of_own hok (by omega) hzx; have hbk' : Below wj.heap.size wj wk := stepD hbk; have UK := SJ.below hbk'; have m0 := (hbk'.cell (p := ⟨ym, 0, none⟩) qz').trans k0; have m1 := (hbk'.cell (p := ⟨ym, 1, none⟩) qz').trans k1; have m2 := (hbk'.cell (p := ⟨ym, 2, none⟩) qz').trans k2; have m3 := (hbk'.cell (p := ⟨ym, 3, none⟩) qz').trans k3; have m4 := (hbk'.cell (p := ⟨ym, 4, none⟩) qz').trans k4; have m5 := (hbk'.cell (p := ⟨ym, 5, none⟩) qz').trans k5; have m6 := (hbk'.cell (p := ⟨ym, 6, none⟩) qz').trans k6; have m7 := (hbk'.cell (p := ⟨ym, 7, none⟩) qz').trans k7)
        | (go_at_call 11; refine (eqmach_any _ _ xs m _ ?_ ?_).mono ?_; exact UK; exact SK; rintro e wl ⟨rfl, hbl⟩))
      all_goals
        have hBl := hBj.trans ((hbk'.trans (hbl.mono hbk'.size)).mono hBj.size)
        clear hbk hbk' hbl hok UK SK SJ e0 k0 m0 e1 k1 m1 e2 k2 m2 e3 k3 m3 e4 k4 m4 e5 k5 m5 e6 k6 m6 e7 k7 m7
        go_wp2
        go_ret
        exact ⟨rfl, hBl⟩
end Go.Proofs.YtgaaklpbpmbihaaGreat

/-
  What a pool and a node that came in read as. Nothing of the program; no condition.
-/
namespace Go.Proofs.YtgaaklpbpmbihaaGreat
open Go.ChangeShapes Go.WideShapes Go.ChangeAt Go.RowKit Go.Deep

theorem ownKnob_none2 : ownKnob Tryz.prog.godebug = none := by kernel_rfl
theorem laidOut_true2 : laidOutB Tryz.prog = true := by kernel_rfl

section
variable {H : Type} {enc : TypeId × Value → H} {w : World} {base : Nat} {spare : Nat → Bool} {held : Bool}

set_option maxRecDepth 100000 in
/-- A node that came in: its five cells. -/
theorem node_cells {fuel : Nat} {cs : List Value} {x : DataW H × List MemPlace} (h : DataW.trod enc Tryz.prog w base spare held fuel 105 cs = some x) :
    ∃ nd : Nd, cs = nd.cs ∧ nd.s.size ≤ maxLen := by
  obtain ⟨xs, n, _, _, hl, hlen, hf⟩ := DataW.trod_struct Tryz.underlying105 h
  rw [show Tryz.prog.cellsOf 105 = 5 by kernel_rfl] at hl
  match cs, hl with
  | [v0, v1, v2, v3, v4], _ =>
    have g0 := hf 0 _ rfl
    have g1 := hf 1 _ rfl
    have g2 := hf 2 _ rfl
    have g3 := hf 3 _ rfl
    have g4 := hf 4 _ rfl
    have i1 : Tryz.prog.cellsOf 3 = 1 := by kernel_rfl
    have i2 : Tryz.prog.cellsOf 9 = 1 := by kernel_rfl
    match xs, hlen with
    | [y0, y1, y2, y3, y4], _ =>
      simp [i1, i2] at g0 g1 g2 g3 g4
      obtain ⟨k, e0, _⟩ := DataW.trod_int Tryz.underlying3 g0
      obtain ⟨m, e1, _⟩ := DataW.trod_int Tryz.underlying3 g1
      obtain ⟨s, e2, _, hs⟩ := DataW.trod_string Tryz.underlying9 g2
      obtain ⟨a, e3, _⟩ := DataW.trod_int Tryz.underlying3 g3
      obtain ⟨b, e4, _⟩ := DataW.trod_int Tryz.underlying3 g4
      simp only [List.cons.injEq, and_true] at e0 e1 e2 e3 e4
      subst e0 e1 e2 e3 e4
      exact ⟨⟨k, m, s, a, b⟩, rfl, hs⟩

set_option maxRecDepth 100000 in
/-- A pool that came in: a slice that reads as nodes. -/
theorem open_pool {v : Value} {d : DataW H} {p : List MemPlace} (hv : Value.okWide Tryz.prog w .any base 24 v) (h : DataW.Trod enc Tryz.prog w 0 (fun _ => true) true 24 v d p) :
    ∃ v' xs, v = .agg #[v'] ∧ NRow w v' xs := by
  obtain ⟨cs, rfl, hsz⟩ := okWide_struct Tryz.underlying24 hv
  rw [show Tryz.prog.cellsOf 24 = 1 by kernel_rfl] at hsz
  obtain ⟨fuel, hf⟩ := h
  obtain ⟨y0, n, _, _, h0⟩ := trod_struct1 Tryz.underlying24 hf
  obtain ⟨v', rfl⟩ : ∃ v', cs = #[v'] := by
    obtain ⟨l⟩ := cs
    match l, hsz with
    | [v'], _ => exact ⟨v', rfl⟩
  · have i1 : Tryz.prog.cellsOf 22 = 1 := by kernel_rfl
    have i5 : Tryz.prog.cellsOf 105 = 5 := by kernel_rfl
    simp [Value.cells, i1] at h0
    rcases open_slice Tryz.underlying22 h0 with ⟨hcs, _⟩ | ⟨a, len, cap, m, n, D, Pl, hcs, _, hl, hm, hmm, _, hx⟩
    · simp at hcs
      subst hcs
      exact ⟨_, [], rfl, none, 0, rfl, by simp, by simp, by simp, fun h => absurd rfl h⟩
    · simp at hcs
      subst hcs
      simp at hmm
      subst hmm
      rw [i5] at hx
      have each : ∀ i, i < m → ∃ nd : Nd, nd.s.size ≤ maxLen ∧ ∀ j, j < 5 → w.cell? (a.add (i * 5 + j)) = nd.cs[j]? := by
        intro i hi
        obtain ⟨cs', h1, h2⟩ := hx i hi
        obtain ⟨nd, rfl, hs⟩ := node_cells h2
        obtain ⟨_, hlen, hcell⟩ := World.cells?_some h1
        refine ⟨nd, hs, fun j hj => ?_⟩
        have := hcell j (by omega)
        rw [add_add] at this
        rw [this]
      haveI : Inhabited Nd := ⟨⟨0, 0, ByteArray.empty, 0, 0⟩⟩
      obtain ⟨q, hq⟩ := choose_lt each
      refine ⟨_, (List.range len).map q, rfl, some a, m, ?_, ?_, ?_, ?_, ?_⟩
      · simp
      · exact ⟨by simpa using hl, fun h => by cases h⟩
      · unfold maxLen at hm; simp; omega
      · intro x hx'
        simp at hx'
        obtain ⟨i, hi, rfl⟩ := hx'
        exact (hq i (by omega)).1
      · intro hne
        have hpos : 0 < len := by
          rcases Nat.eq_zero_or_pos len with h0 | h0
          · subst h0; simp at hne
          · exact h0
        obtain ⟨b, off, spot⟩ := a
        have hc := (hq 0 (by omega)).2 0 (by omega)
        simp only [Nd.cs, List.getElem?_cons_zero] at hc
        have hspot : spot = none := by simpa [Addr.add] using World.cell?_spot hc
        subst hspot
        have hb := World.block_lt_of_cell? _ _ hc
        refine ⟨b, off, rfl, by simpa [Addr.add_lit] using hb, fun i x hi => ?_⟩
        have hil : i < len := by
          have := (List.getElem?_eq_some_iff.1 hi).1
          simpa using this
        have hxe : x = q i := by
          rw [List.getElem?_map, List.getElem?_range hil] at hi
          simpa using hi.symm
        subst hxe
        have e : ∀ j, j < 5 → w.cell? ⟨b, off + i * 5 + j, none⟩ = (q i).cs[j]? := fun j hj => by
          have := (hq i (by omega)).2 j hj
          rw [Addr.add_lit] at this
          rw [← this, Nat.add_assoc]
        exact ⟨e 0 (by omega), e 1 (by omega), e 2 (by omega), e 3 (by omega), e 4 (by omega)⟩

end
end Go.Proofs.YtgaaklpbpmbihaaGreat
