/-
  The law FnExactMachineOk, walked: at every code and machine it returns true.
-/
import Derived.Test.YtajgebmjbeiijaaMach3
import Derived.Test.YtajgebmjbeiijaaMachRec
import Derived.Deep.RegionHeld
import Derived.Deep.CutBlock
namespace Go.Proofs.Ytajgebmjbeiijaa
open Go.RowKit

theorem cells11 {w w' : World} {B : Nat} {a1 a2 a3 a4 a5 a6 a7 a8 a9 a10 a11 : Addr} {u1 u2 u3 u4 u5 u6 u7 u8 u9 u10 u11 : Value} (h : w.cell? a1 = some u1 ∧ w.cell? a2 = some u2 ∧ w.cell? a3 = some u3 ∧ w.cell? a4 = some u4 ∧ w.cell? a5 = some u5 ∧ w.cell? a6 = some u6 ∧ w.cell? a7 = some u7 ∧ w.cell? a8 = some u8 ∧ w.cell? a9 = some u9 ∧ w.cell? a10 = some u10 ∧ w.cell? a11 = some u11)
    (hb : Below B w w') (h1 : a1.block < B) (h2 : a2.block < B) (h3 : a3.block < B) (h4 : a4.block < B) (h5 : a5.block < B) (h6 : a6.block < B) (h7 : a7.block < B) (h8 : a8.block < B) (h9 : a9.block < B) (h10 : a10.block < B) (h11 : a11.block < B) : w'.cell? a1 = some u1 ∧ w'.cell? a2 = some u2 ∧ w'.cell? a3 = some u3 ∧ w'.cell? a4 = some u4 ∧ w'.cell? a5 = some u5 ∧ w'.cell? a6 = some u6 ∧ w'.cell? a7 = some u7 ∧ w'.cell? a8 = some u8 ∧ w'.cell? a9 = some u9 ∧ w'.cell? a10 = some u10 ∧ w'.cell? a11 = some u11 := by
  obtain ⟨e1, e2, e3, e4, e5, e6, e7, e8, e9, e10, e11⟩ := h
  exact ⟨(hb.cell h1).trans e1, (hb.cell h2).trans e2, (hb.cell h3).trans e3, (hb.cell h4).trans e4, (hb.cell h5).trans e5, (hb.cell h6).trans e6, (hb.cell h7).trans e7, (hb.cell h8).trans e8, (hb.cell h9).trans e9, (hb.cell h10).trans e10, (hb.cell h11).trans e11⟩
theorem Try.sizeLM : (Try.prog.info? 30).map (·.size) = some 8 := by kernel_rfl
theorem Try.sizeLC : (Try.prog.info? 28).map (·.size) = some 3 := by kernel_rfl
theorem stepD {w2 w3 : World} (h : Below w2.drew.heap.size w2.drew w3) : Below w2.heap.size w2 w3 := (Below.refl _ _).drew.trans h

set_option maxRecDepth 100000 in
set_option maxHeartbeats 16000000 in
theorem lmachok_any (v1 v2 v3 v : Value) (ns : List Nd) (is : List In) (ds : List Df) (xs : List Nd) (m : Mc) (w : World) (R1 : NRow w v1 ns) (R2 : InRow w v2 is) (R3 : DfRow w v3 ds) (R : NRow w v xs) :
    Calls Try.prog 3 #[.agg #[v1, v2, v3], .agg #[v, .int .i64 m.p, .int .i64 m.s, .int .i64 m.e, .int .i64 m.d, .int .i64 m.t, .int .i64 m.q, .int .i64 m.r]] w fun e w' => e = .returned (.bool true) ∧ Below w.heap.size w w' := by
  have hzx := R.sz
  have R' := R
  obtain ⟨ao, cap, rfl, _⟩ := R'
  obtain ⟨a1, c1, rfl⟩ := R1.small
  obtain ⟨a2, c2, rfl⟩ := R2.small
  obtain ⟨a3, c3, rfl⟩ := R3.small
  obtain ⟨hB0, hk0, hx0⟩ := two_boxes w (Obj.cells #[.slice a1 ns.length c1, .slice a2 is.length c2, .slice a3 ds.length c3] 28) (Obj.cells #[.slice ao xs.length cap, .int .i64 m.p, .int .i64 m.s, .int .i64 m.e, .int .i64 m.d, .int .i64 m.t, .int .i64 m.q, .int .i64 m.r] 30)
  go_enter Try.func3, Try.ntmps3
  go_wp2_with fail
  refine (szcode_any _ _ _ ns is ds _ (R1.below hB0) (R2.below hB0) (R3.below hB0)).mono ?_
  rintro e w1 ⟨r, rfl, hr0, hr1, hr2, hb1⟩
  have hB1 := hB0.trans (hb1.mono hB0.size)
  have hk1 := (hb1.block _ (Array.getElem?_eq_some_iff.1 hk0).1).trans hk0
  have hx1 := (hb1.block _ (Array.getElem?_eq_some_iff.1 hx0).1).trans hx0
  clear hB0 hk0 hx0 hb1
  by_cases hr : r < 0
  · go_wp2
    go_ret
    exact ⟨rfl, hB1⟩
  obtain ⟨l1, l2, l3⟩ := hr2 (by omega)
  clear hr2
  go_wp2_with (refine wpList_load_row rfl 30 _ rfl (w.heap.size + 1) rfl 30 #[.slice ao xs.length cap, .int .i64 m.p, .int .i64 m.s, .int .i64 m.e, .int .i64 m.d, .int .i64 m.t, .int .i64 m.q, .int .i64 m.r] (0, 0) _ hx1 Try.underlying30 rfl Try.sizeLM ?_)
  refine (szmach_gen r (by omega) hr1 _ xs m _ (R.below hB1)).mono ?_
  rintro e w2 ⟨r2, rfl, hr20, hr21, hr22, hb2⟩
  have hB2 := hB1.trans (hb2.mono hB1.size)
  have hk2 := (hb2.block _ (Array.getElem?_eq_some_iff.1 hk1).1).trans hk1
  have hx2 := (hb2.block _ (Array.getElem?_eq_some_iff.1 hx1).1).trans hx1
  clear hB1 hk1 hx1 hb2
  by_cases hr2 : r2 < 0
  · go_wp2
    go_ret
    exact ⟨rfl, hB2⟩
  have hlx := (hr22 (by omega)).1
  clear hr22 hr20 hr21 hr0 hr1
  have q0 := (Array.getElem?_eq_some_iff.1 hk2).1
  have q1 := (Array.getElem?_eq_some_iff.1 hx2).1
  have sS : w2.cell? ⟨w.heap.size, 0, none⟩ = some (.slice a1 ns.length c1) ∧ w2.cell? ⟨w.heap.size, 1, none⟩ = some (.slice a2 is.length c2) ∧ w2.cell? ⟨w.heap.size, 2, none⟩ = some (.slice a3 ds.length c3) ∧ w2.cell? ⟨w.heap.size + 1, 0, none⟩ = some (.slice ao xs.length cap) ∧ w2.cell? ⟨w.heap.size + 1, 1, none⟩ = some (.int .i64 m.p) ∧ w2.cell? ⟨w.heap.size + 1, 2, none⟩ = some (.int .i64 m.s) ∧ w2.cell? ⟨w.heap.size + 1, 3, none⟩ = some (.int .i64 m.e) ∧ w2.cell? ⟨w.heap.size + 1, 4, none⟩ = some (.int .i64 m.d) ∧ w2.cell? ⟨w.heap.size + 1, 5, none⟩ = some (.int .i64 m.t) ∧ w2.cell? ⟨w.heap.size + 1, 6, none⟩ = some (.int .i64 m.q) ∧ w2.cell? ⟨w.heap.size + 1, 7, none⟩ = some (.int .i64 m.r) := ⟨cell_of_row w2 _ 0 _ _ _ hk2, cell_of_row w2 _ 1 _ _ _ hk2, cell_of_row w2 _ 2 _ _ _ hk2, cell_of_row w2 _ 0 _ _ _ hx2, cell_of_row w2 _ 1 _ _ _ hx2, cell_of_row w2 _ 2 _ _ _ hx2, cell_of_row w2 _ 3 _ _ _ hx2, cell_of_row w2 _ 4 _ _ _ hx2, cell_of_row w2 _ 5 _ _ _ hx2, cell_of_row w2 _ 6 _ _ _ hx2, cell_of_row w2 _ 7 _ _ _ hx2⟩
  go_wp2_with fail
  go_cut [6] from 20 (fun s6 wc => s6 = .bool (machB ns is ds xs m) ∧ Below w.heap.size w wc ∧ wc.heap[w.heap.size]? = some (.cells #[.slice a1 ns.length c1, .slice a2 is.length c2, .slice a3 ds.length c3] 28 (0, 0)) ∧ wc.heap[w.heap.size + 1]? = some (.cells #[.slice ao xs.length cap, .int .i64 m.p, .int .i64 m.s, .int .i64 m.e, .int .i64 m.d, .int .i64 m.t, .int .i64 m.q, .int .i64 m.r] 30 (0, 0)))
  case first =>
    go_region_held (fun w' => w'.cell? ⟨w.heap.size, 0, none⟩ = some (.slice a1 ns.length c1) ∧ w'.cell? ⟨w.heap.size, 1, none⟩ = some (.slice a2 is.length c2) ∧ w'.cell? ⟨w.heap.size, 2, none⟩ = some (.slice a3 ds.length c3) ∧ w'.cell? ⟨w.heap.size + 1, 0, none⟩ = some (.slice ao xs.length cap) ∧ w'.cell? ⟨w.heap.size + 1, 1, none⟩ = some (.int .i64 m.p) ∧ w'.cell? ⟨w.heap.size + 1, 2, none⟩ = some (.int .i64 m.s) ∧ w'.cell? ⟨w.heap.size + 1, 3, none⟩ = some (.int .i64 m.e) ∧ w'.cell? ⟨w.heap.size + 1, 4, none⟩ = some (.int .i64 m.d) ∧ w'.cell? ⟨w.heap.size + 1, 5, none⟩ = some (.int .i64 m.t) ∧ w'.cell? ⟨w.heap.size + 1, 6, none⟩ = some (.int .i64 m.q) ∧ w'.cell? ⟨w.heap.size + 1, 7, none⟩ = some (.int .i64 m.r)) (first | exact sZ | exact sA | exact sM | go_keep) (first
      | (go_at_call 9; refine (tocode_any _ _ _ ns is ds _ ?_ ?_ ?_ ?_ ?_ ?_).mono ?_; (first | exact R1.below hB2.drew | exact R1.below hBM); (first | exact R2.below hB2.drew | exact R2.below hBM); (first | exact R3.below hB2.drew | exact R3.below hBM); omega; omega; omega; rintro e wA ⟨u1, u2, u3, rfl, S1, S2, S3, hbA⟩; obtain ⟨b1, d1, rfl⟩ := S1.small; obtain ⟨b2, d2, rfl⟩ := S2.small; obtain ⟨b3, d3, rfl⟩ := S3.small
         have hA : Below w2.heap.size w2 wA := (by first | exact stepD hbA | exact hM.trans (hbA.mono hM.size))
         have hBA := hB2.trans (hA.mono hB2.size)
         have sA := cells11 sS hA q0 q0 q0 q1 q1 q1 q1 q1 q1 q1 q1)
      | (go_at_call 10; refine (tomach_any _ xs m _ ?_ ?_).mono ?_; (first | exact R.below hB2.drew | exact R.below hBA); omega; rintro e wM ⟨vm, rfl, hoM, hbM⟩; obtain ⟨am, cm, rfl⟩ := own_form hoM; have SM := NRow.of_own hoM (by omega) hzx
         have hM : Below w2.heap.size w2 wM := (by first | exact stepD hbM | exact hA.trans (hbM.mono hA.size))
         have hBM := hB2.trans (hM.mono hB2.size)
         have sM := cells11 sS hM q0 q0 q0 q1 q1 q1 q1 q1 q1 q1 q1)
      | (go_at_call 8; refine (smachok_any _ _ _ _ ns is ds xs m _ ?_ ?_ ?_ ?_).mono ?_; (first | exact S1.below hbM | exact S1); (first | exact S2.below hbM | exact S2); (first | exact S3.below hbM | exact S3); (first | exact SM | exact SM.below hbA); rintro e wZ ⟨rfl, hbZ⟩
         have hZ : Below w2.heap.size w2 wZ := (by first | exact hM.trans (hbZ.mono hM.size) | exact hA.trans (hbZ.mono hA.size))
         have sZ := cells11 sS hZ q0 q0 q0 q1 q1 q1 q1 q1 q1 q1 q1))
    all_goals
      go_wp2_with fail
      go_meet
      case rel => exact ⟨rfl, hB2.trans (hZ.mono hB2.size), (hZ.block _ q0).trans hk2, (hZ.block _ q1).trans hx2⟩
  case rest =>
    obtain ⟨rfl, hBc, hkc, hxc⟩ := hcut
    clear hB2 hk2 hx2 sS q0 q1
    go_wp2_with (refine wpList_load_row rfl 28 _ rfl w.heap.size rfl 28 #[.slice a1 ns.length c1, .slice a2 is.length c2, .slice a3 ds.length c3] (0, 0) _ hkc Try.underlying28 rfl Try.sizeLC ?_)
    refine (tocode_any _ _ _ ns is ds _ (R1.below hBc) (R2.below hBc) (R3.below hBc) (by omega) (by omega) (by omega)).mono ?_
    rintro e wd ⟨u1, u2, u3, rfl, S1, S2, S3, hbd⟩
    obtain ⟨b1, d1, rfl⟩ := S1.small
    obtain ⟨b2, d2, rfl⟩ := S2.small
    obtain ⟨b3, d3, rfl⟩ := S3.small
    have hkd := (hbd.block _ (Array.getElem?_eq_some_iff.1 hkc).1).trans hkc
    have hxd := (hbd.block _ (Array.getElem?_eq_some_iff.1 hxc).1).trans hxc
    have hBd := hBc.trans (hbd.mono hBc.size)
    clear hBc hkc hxc hbd
    go_wp2_with (refine wpList_store_own rfl 40 _ _ rfl wd.heap.size #[.slice b1 ns.length d1, .slice b2 is.length d2, .slice b3 ds.length d3] rfl rfl 40 _ (heap_alloc_new _ _) Try.sizeCode rfl (by simp [Value.oneCell']) ?_)
    intro we hye hbe hse
    have hde : Below wd.heap.size wd we := ((Below.refl _ _).alloc (Nat.le_refl _) _).trans hbe
    have hke := (hde.block _ (Array.getElem?_eq_some_iff.1 hkd).1).trans hkd
    have hxe := (hde.block _ (Array.getElem?_eq_some_iff.1 hxd).1).trans hxd
    have hBe := hBd.trans (hde.mono hBd.size)
    have T1 := S1.below hde
    have T2 := S2.below hde
    have T3 := S3.below hde
    generalize wd.heap.size = yc at *
    clear hBd hkd hxd hbe hse hde S1 S2 S3
    go_wp2_with (refine wpList_load_row rfl 30 _ rfl (w.heap.size + 1) rfl 30 #[.slice ao xs.length cap, .int .i64 m.p, .int .i64 m.s, .int .i64 m.e, .int .i64 m.d, .int .i64 m.t, .int .i64 m.q, .int .i64 m.r] (0, 0) _ hxe Try.underlying30 rfl Try.sizeLM ?_)
    refine (tomach_any _ xs m _ (R.below hBe) (by omega)).mono ?_
    rintro e wf ⟨vm, rfl, hoM, hbf⟩
    obtain ⟨am, cm, rfl⟩ := own_form hoM
    have SM := NRow.of_own hoM (by omega) hzx
    have hkf := (hbf.block _ (Array.getElem?_eq_some_iff.1 hke).1).trans hke
    have hxf := (hbf.block _ (Array.getElem?_eq_some_iff.1 hxe).1).trans hxe
    have hyf := (hbf.block _ (Array.getElem?_eq_some_iff.1 hye).1).trans hye
    have hBf := hBe.trans (hbf.mono hBe.size)
    replace T1 := T1.below hbf
    replace T2 := T2.below hbf
    replace T3 := T3.below hbf
    clear hBe hke hxe hye hbf hoM
    go_wp2_with (refine wpList_store_own rfl 43 _ _ rfl wf.heap.size #[.slice am xs.length cm, .int .i64 m.p, .int .i64 m.s, .int .i64 m.e, .int .i64 m.d, .int .i64 m.t, .int .i64 m.q, .int .i64 m.r] rfl rfl 43 _ (heap_alloc_new _ _) Try.sizeMach rfl (by simp [Value.oneCell']) ?_)
    intro wg hzg hbg hsg
    have hdg : Below wf.heap.size wf wg := ((Below.refl _ _).alloc (Nat.le_refl _) _).trans hbg
    have hkg := (hdg.block _ (Array.getElem?_eq_some_iff.1 hkf).1).trans hkf
    have hxg := (hdg.block _ (Array.getElem?_eq_some_iff.1 hxf).1).trans hxf
    have hyg := (hdg.block _ (Array.getElem?_eq_some_iff.1 hyf).1).trans hyf
    have hBg := hBf.trans (hdg.mono hBf.size)
    replace T1 := T1.below hdg
    replace T2 := T2.below hdg
    replace T3 := T3.below hdg
    replace SM := SM.below hdg
    generalize wf.heap.size = ym at *
    clear hBf hkf hxf hyf hbg hsg hdg
    go_wp2_with (first
      | (refine wpList_load_row rfl 40 _ rfl yc rfl 40 #[.slice b1 ns.length d1, .slice b2 is.length d2, .slice b3 ds.length d3] (0, 0) _ hyg Try.underlying40 rfl Try.sizeCode ?_)
      | (refine wpList_load_row rfl 43 _ rfl ym rfl 43 #[.slice am xs.length cm, .int .i64 m.p, .int .i64 m.s, .int .i64 m.e, .int .i64 m.d, .int .i64 m.t, .int .i64 m.q, .int .i64 m.r] (0, 0) _ hzg Try.underlying43 rfl Try.sizeMach ?_))
    refine (imachok_any _ _ _ _ ns is ds xs m _ T1 T2 T3 SM).mono ?_
    rintro e wh ⟨rfl, hbh⟩
    have hkh := (hbh.block _ (Array.getElem?_eq_some_iff.1 hkg).1).trans hkg
    have hxh := (hbh.block _ (Array.getElem?_eq_some_iff.1 hxg).1).trans hxg
    have hyh := (hbh.block _ (Array.getElem?_eq_some_iff.1 hyg).1).trans hyg
    have hzh := (hbh.block _ (Array.getElem?_eq_some_iff.1 hzg).1).trans hzg
    have hBh := hBg.trans (hbh.mono hBg.size)
    replace T1 := T1.below hbh
    replace T2 := T2.below hbh
    replace T3 := T3.below hbh
    replace SM := SM.below hbh
    clear hBg hkg hxg hyg hzg hbh
    generalize machB ns is ds xs m = bb
    have qy := (Array.getElem?_eq_some_iff.1 hyh).1
    have qz := (Array.getElem?_eq_some_iff.1 hzh).1
    have qk := (Array.getElem?_eq_some_iff.1 hkh).1
    have qx := (Array.getElem?_eq_some_iff.1 hxh).1
    have e0 : wh.cell? ⟨w.heap.size, 0, none⟩ = some (.slice a1 ns.length c1) := cell_of_row wh _ 0 _ _ _ hkh
    have k0 : wh.cell? ⟨yc, 0, none⟩ = some (.slice b1 ns.length d1) := cell_of_row wh _ 0 _ _ _ hyh
    have e1 : wh.cell? ⟨w.heap.size, 1, none⟩ = some (.slice a2 is.length c2) := cell_of_row wh _ 1 _ _ _ hkh
    have k1 : wh.cell? ⟨yc, 1, none⟩ = some (.slice b2 is.length d2) := cell_of_row wh _ 1 _ _ _ hyh
    have e2 : wh.cell? ⟨w.heap.size, 2, none⟩ = some (.slice a3 ds.length c3) := cell_of_row wh _ 2 _ _ _ hkh
    have k2 : wh.cell? ⟨yc, 2, none⟩ = some (.slice b3 ds.length d3) := cell_of_row wh _ 2 _ _ _ hyh
    go_wp2_with fail
    go_region_with (first
      | (go_at_call 9; refine (tocode_any _ _ _ ns is ds _ ?_ ?_ ?_ ?_ ?_ ?_).mono ?_; exact R1.below hBh.drew; exact R2.below hBh.drew; exact R3.below hBh.drew; omega; omega; omega; rintro e wi ⟨p1, p2, p3, rfl, P1, P2, P3, hbi⟩; obtain ⟨f1, g1, rfl⟩ := P1.small; obtain ⟨f2, g2, rfl⟩ := P2.small; obtain ⟨f3, g3, rfl⟩ := P3.small; have hbi' : Below wh.heap.size wh wi := stepD hbi; have U1 := T1.below hbi'; have U2 := T2.below hbi'; have U3 := T3.below hbi'; have m0 := (hbi'.cell (p := ⟨yc, 0, none⟩) qy).trans k0; have m1 := (hbi'.cell (p := ⟨yc, 1, none⟩) qy).trans k1; have m2 := (hbi'.cell (p := ⟨yc, 2, none⟩) qy).trans k2)
      | (go_at_call 12; refine (eqcode_any _ _ _ _ _ _ ns is ds _ ?_ ?_ ?_ ?_ ?_ ?_).mono ?_; exact U1; exact U2; exact U3; exact P1; exact P2; exact P3; rintro e wj ⟨rfl, hbj⟩))
    all_goals
      have hij : Below wh.heap.size wh wj := hbi'.trans (hbj.mono hbi'.size)
      have hxj := (hij.block _ qx).trans hxh
      have hzj := (hij.block _ qz).trans hzh
      have hBj := hBh.trans (hij.mono hBh.size)
      have SJ := SM.below hij
      clear hbi hbi' hbj hij m0 m1 m2 U1 U2 U3 P1 P2 P3 e0 e1 e2 k0 k1 k2 T1 T2 T3 hkh hxh hyh hzh hBh SM
      have qz' := (Array.getElem?_eq_some_iff.1 hzj).1
      have e0 : wj.cell? ⟨w.heap.size + 1, 0, none⟩ = some (.slice ao xs.length cap) := cell_of_row wj _ 0 _ _ _ hxj
      have k0 : wj.cell? ⟨ym, 0, none⟩ = some (.slice am xs.length cm) := cell_of_row wj _ 0 _ _ _ hzj
      have e1 : wj.cell? ⟨w.heap.size + 1, 1, none⟩ = some (.int .i64 m.p) := cell_of_row wj _ 1 _ _ _ hxj
      have k1 : wj.cell? ⟨ym, 1, none⟩ = some (.int .i64 m.p) := cell_of_row wj _ 1 _ _ _ hzj
      have e2 : wj.cell? ⟨w.heap.size + 1, 2, none⟩ = some (.int .i64 m.s) := cell_of_row wj _ 2 _ _ _ hxj
      have k2 : wj.cell? ⟨ym, 2, none⟩ = some (.int .i64 m.s) := cell_of_row wj _ 2 _ _ _ hzj
      have e3 : wj.cell? ⟨w.heap.size + 1, 3, none⟩ = some (.int .i64 m.e) := cell_of_row wj _ 3 _ _ _ hxj
      have k3 : wj.cell? ⟨ym, 3, none⟩ = some (.int .i64 m.e) := cell_of_row wj _ 3 _ _ _ hzj
      have e4 : wj.cell? ⟨w.heap.size + 1, 4, none⟩ = some (.int .i64 m.d) := cell_of_row wj _ 4 _ _ _ hxj
      have k4 : wj.cell? ⟨ym, 4, none⟩ = some (.int .i64 m.d) := cell_of_row wj _ 4 _ _ _ hzj
      have e5 : wj.cell? ⟨w.heap.size + 1, 5, none⟩ = some (.int .i64 m.t) := cell_of_row wj _ 5 _ _ _ hxj
      have k5 : wj.cell? ⟨ym, 5, none⟩ = some (.int .i64 m.t) := cell_of_row wj _ 5 _ _ _ hzj
      have e6 : wj.cell? ⟨w.heap.size + 1, 6, none⟩ = some (.int .i64 m.q) := cell_of_row wj _ 6 _ _ _ hxj
      have k6 : wj.cell? ⟨ym, 6, none⟩ = some (.int .i64 m.q) := cell_of_row wj _ 6 _ _ _ hzj
      have e7 : wj.cell? ⟨w.heap.size + 1, 7, none⟩ = some (.int .i64 m.r) := cell_of_row wj _ 7 _ _ _ hxj
      have k7 : wj.cell? ⟨ym, 7, none⟩ = some (.int .i64 m.r) := cell_of_row wj _ 7 _ _ _ hzj
      go_wp2_with fail
      go_region_with (first
        | (go_at_call 10; refine (tomach_any _ xs m _ ?_ ?_).mono ?_; exact R.below hBj.drew; omega; rintro e wk ⟨vk, rfl, hok, hbk⟩; obtain ⟨ak, ck, rfl⟩ := own_form hok; have SK := NRow.of_own hok (by omega) hzx; have hbk' : Below wj.heap.size wj wk := stepD hbk; have UK := SJ.below hbk'; have m0 := (hbk'.cell (p := ⟨ym, 0, none⟩) qz').trans k0; have m1 := (hbk'.cell (p := ⟨ym, 1, none⟩) qz').trans k1; have m2 := (hbk'.cell (p := ⟨ym, 2, none⟩) qz').trans k2; have m3 := (hbk'.cell (p := ⟨ym, 3, none⟩) qz').trans k3; have m4 := (hbk'.cell (p := ⟨ym, 4, none⟩) qz').trans k4; have m5 := (hbk'.cell (p := ⟨ym, 5, none⟩) qz').trans k5; have m6 := (hbk'.cell (p := ⟨ym, 6, none⟩) qz').trans k6; have m7 := (hbk'.cell (p := ⟨ym, 7, none⟩) qz').trans k7)
        | (go_at_call 13; refine (eqmach_any _ _ xs m _ ?_ ?_).mono ?_; exact UK; exact SK; rintro e wl ⟨rfl, hbl⟩))
      all_goals
        have hBl := hBj.trans ((hbk'.trans (hbl.mono hbk'.size)).mono hBj.size)
        clear hbk hbk' hbl hok UK SK SJ e0 k0 m0 e1 k1 m1 e2 k2 m2 e3 k3 m3 e4 k4 m4 e5 k5 m5 e6 k6 m6 e7 k7 m7
        go_wp2
        go_ret
        exact ⟨rfl, hBl⟩
end Go.Proofs.Ytajgebmjbeiijaa
