/-
  Texts that stood by themselves, laid into one.
-/
import Derived.Test.YtfmafkebddojjaaGreatDoorSameTM
import Derived.Shelf.SlGeneric
import Derived.Shelf.Sort.Plain
import Derived.Shelf.Slices.CompactI
import Derived.Shelf.SlicesE.DeleteFunc
import Derived.Ground.SlgfProg
import Derived.Test.YtfmafkebddojjaaGreatDoorProg
import Derived.Test.YtfmafkebddojjaaGreatDoorJgRM
import Derived.Test.YtfmafkebddojjaaGreatDoorMcTM
import Derived.Test.YtfmafkebddojjaaGreatDoorSEqM
import Derived.Test.YtfmafkebddojjaaGreatDoorSubM
import Derived.Lib.OwnBridge
import Derived.Test.YtfmafkebddojjaaGreatDoorMPack2M
/-
  Contracts of impl's tookInOrder and spec's JudgeOrder. Of a world that is right; the variable errors.errorType is not read by these.
-/
namespace Go.Proofs.YtfmafkebddojjaaGreatDoor
open Go.RowKit
set_option maxRecDepth 100000 in
set_option maxHeartbeats 3200000 in
theorem ZeP (vn vi vf vh vl vg vp va vt : Value) (d : Wd) (B : Nat) (w : World) (R : WR B w vn vi vf vh vl vg vp va vt d) (L : LkAll d) :
  Calls Tryz.prog 42 #[.agg #[vn, vi, vf, .int .i64 d.pl, vh, vl, vg, vp, .int .i64 d.nx, va, vt]] w fun e w' => e = .returned (.bool (ordB d)) /\ Below w.heap.size w w' := by
 have R0 := R
 obtain ⟨⟨an, cn, rfl⟩, ⟨ai, ci, rfl⟩, ⟨af, cf, rfl⟩, ⟨ah, ch, rfl⟩, ⟨al, cl, rfl⟩, ⟨ag, cg, rfl⟩, ⟨ap, cp, rfl⟩, ⟨aa, ca, rfl⟩, ⟨ab, cb, rfl⟩⟩ := R.form
 clear R
 have hB0 := Zam w (Obj.cells #[.slice an d.ns.length cn, .slice ai d.is.length ci, .slice af d.ds.length cf, .int .i64 d.pl, .slice ah d.hs.length ch, .slice al d.ls.length cl, .slice ag d.gs.length cg, .slice ap d.ps.length cp, .int .i64 d.nx, .slice aa d.ga.length ca, .slice ab d.tk.length cb] 50)
 have hx0 := heap_alloc_new w (Obj.cells #[.slice an d.ns.length cn, .slice ai d.is.length ci, .slice af d.ds.length cf, .int .i64 d.pl, .slice ah d.hs.length ch, .slice al d.ls.length cl, .slice ag d.gs.length cg, .slice ap d.ps.length cp, .int .i64 d.nx, .slice aa d.ga.length ca, .slice ab d.tk.length cb] 50)
 obtain ⟨aoa, capa, hha, _, _, hcella⟩ := R0.ra
 simp only [Value.slice.injEq] at hha
 obtain ⟨rfl, _, rfl⟩ := hha
 obtain ⟨aot, capt, hht, _, _, hcellt⟩ := R0.rt
 simp only [Value.slice.injEq] at hht
 obtain ⟨rfl, _, rfl⟩ := hht
 have HV : Hid (ordB d = allN (Zb9 d) (d.tk.length - 0) 0) := by unfold Hid ordB; rw [L.lt]; rfl
 have hle : d.tk.length <= d.ga.length := by have := L.lg; have := L.lt; omega
 have hll : d.tk.length <= d.ls.length := by have := L.lt; omega
 have L0 : Hid (LkAll d) := L
 clear L
 have k1 := cell_of_row _ _ 9 _ _ _ hx0
 have k2 := cell_of_row _ _ 10 _ _ _ hx0
 have hs1 := Zbc hx0
 go_enter Tryz.func42, Tryz.ntmps42
 go_wp2_with fail
 clear k2
 generalize w.alloc (Obj.cells #[.slice an d.ns.length cn, .slice ai d.is.length ci, .slice af d.ds.length cf, .int .i64 d.pl, .slice ah d.hs.length ch, .slice al d.ls.length cl, .slice ag d.gs.length cg, .slice ap d.ps.length cp, .int .i64 d.nx, .slice aa d.ga.length ca, .slice ab d.tk.length cb] 50) = w0 at *
 go_loopw [8] (fun i wr => ∃ k : Nat, k <= d.tk.length /\ i = .int .i64 k /\ Hid (ordB d = allN (Zb9 d) (d.tk.length - k) k) /\ Below w0.heap.size w0 wr) (fun i _ => d.tk.length - (intOf i).toNat)
 case atStart => exact ⟨0, by omega, rfl, HV, Below.refl _ _⟩
 case round =>
  clear HV
  obtain ⟨k, hk, rfl, HK, hb⟩ := hrel
  have hB := hB0.trans (hb.mono hB0.size)
  have c9 := (hb.cell (p := ⟨w.heap.size, 0 + 9, none⟩) hs1).trans k1
  clear k1 hx0
  by_cases hlt : k < d.tk.length
  ·have h2 : k < d.ga.length := by omega
   have h2i : (k : Int) < (d.ga.length : Int) := by omega
   have h3 : k < d.ls.length := by omega
   obtain ⟨ga, oa, rfl, _, hga, hcella⟩ := hcella (by intro e; rw [e] at h2; simp at h2)
   obtain ⟨gt, ot, rfl, _, hgt, hcellt⟩ := hcellt (by intro e; rw [e] at hlt; simp at hlt)
   obtain ⟨l, hl⟩ : ∃ x, d.ls[k]? = some x := ⟨d.ls[k], List.getElem?_eq_getElem _⟩
   obtain ⟨ts, hta⟩ : ∃ x, d.ga[k]? = some x := ⟨d.ga[k], List.getElem?_eq_getElem _⟩
   obtain ⟨us, htu⟩ : ∃ x, d.tk[k]? = some x := ⟨d.tk[k], List.getElem?_eq_getElem _⟩
   obtain ⟨_, _, hra, ua, rfl, A1, _⟩ := hcella k ts hta
   obtain ⟨_, _, hrt, ut, rfl, T1, _⟩ := hcellt k us htu
   have hus : us.length <= ts.length := by
    have g1 := L0.out.ts hl hta
    have g2 := L0.out.us hl htu
    have g3 := Za6 g1.1
    omega
   have HS : Hid (ordB d = (eqTs us (ts.take us.length) && allN (Zb9 d) (d.tk.length - (k + 1)) (k + 1))) := by unfold Hid; rw [HK.out, Zce hlt, Zgb htu hta]
   have ka := ZaC (Zaa hra hB hga)
   have kt := ZaC (Zaa hrt hB hgt)
   rw [Nat.mul_one] at ka kt
   have A2 := A1.below hB
   have T2 := T1.below hB
   obtain ⟨pa, qa, rfl⟩ := A1.small
   obtain ⟨pt, qt, rfl⟩ := T1.small
   have hqa : us.length <= qa := by
    obtain ⟨ao, cap, e, hc, _⟩ := A2
    simp only [Value.slice.injEq] at e
    obtain ⟨rfl, _, rfl⟩ := e
    exact Nat.le_trans hus hc.1
   have hqi : (us.length : Int) <= (qa : Int) := by omega
   have EQ := fun W (hW : Below wr.heap.size wr W) => Zcs _ _ us (ts.take us.length) W (T2.below hW) ((A2.take hus).below hW)
   clear hcella hcellt hl hta htu hra hrt A1 T1 A2 T2 HK L0
   obtain ⟨r, hr⟩ : ∃ r, eqTs us (ts.take us.length) = r := ⟨_, rfl⟩
   rw [hr] at HS EQ
   clear hr
   go_wp2_with fail
   refine (EQ _ (Below.refl _ _)).mono ?_
   rintro e w2 ⟨rfl, hb2⟩
   have hb3 := hb.trans (hb2.mono hb.size)
   have hB3 := hB.trans (hb2.mono hB.size)
   clear EQ hb2 ka kt c9
   cases r with
   | true =>
    have HB : Hid (ordB d = allN (Zb9 d) (d.tk.length - (k + 1)) (k + 1)) := by unfold Hid; rw [HS.out]; rfl
    clear HS
    go_wp2
    go_roundw
    case rel => exact ⟨k + 1, by omega, by go_num, HB, hb3⟩
    case measure => simp [intOf]; omega
   | false =>
    have HB : Hid (ordB d = false) := by unfold Hid; rw [HS.out]; rfl
    clear HS
    go_wp2
    go_ret
    exact ⟨retB HB.out.symm, hB3⟩
  ·have HB : Hid (ordB d = true) := by unfold Hid; rw [HK.out, ZcM (by omega)]
   clear HK hcella hcellt
   go_wp2
   go_ret
   exact ⟨retB HB.out.symm, hB⟩
set_option maxRecDepth 100000 in
set_option maxHeartbeats 3200000 in
theorem Zfe (vn vi vf vh vl vg vp va vt : Value) (d : Wd) (B : Nat) (w : World) (R : WR B w vn vi vf vh vl vg vp va vt d) (hsm : ∀ x ∈ d.hs, SmH x) :
  Calls Tryz.prog 10 #[.agg #[vn, vi, vf, .int .i64 d.pl, vh, vl, vg, vp, .int .i64 d.nx, va, vt]] w fun e w' => e = .returned (.bool (Zap d && ordB d)) /\ Below w.heap.size w w' := by
 have R0 := R
 obtain ⟨⟨an, cn, rfl⟩, ⟨ai, ci, rfl⟩, ⟨af, cf, rfl⟩, ⟨ah, ch, rfl⟩, ⟨al, cl, rfl⟩, ⟨ag, cg, rfl⟩, ⟨ap, cp, rfl⟩, ⟨aa, ca, rfl⟩, ⟨ab, cb, rfl⟩⟩ := R.form
 clear R
 have hB0 := Zam w (Obj.cells #[.slice an d.ns.length cn, .slice ai d.is.length ci, .slice af d.ds.length cf, .int .i64 d.pl, .slice ah d.hs.length ch, .slice al d.ls.length cl, .slice ag d.gs.length cg, .slice ap d.ps.length cp, .int .i64 d.nx, .slice aa d.ga.length ca, .slice ab d.tk.length cb] 50)
 have hx0 := heap_alloc_new w (Obj.cells #[.slice an d.ns.length cn, .slice ai d.is.length ci, .slice af d.ds.length cf, .int .i64 d.pl, .slice ah d.hs.length ch, .slice al d.ls.length cl, .slice ag d.gs.length cg, .slice ap d.ps.length cp, .int .i64 d.nx, .slice aa d.ga.length ca, .slice ab d.tk.length cb] 50)
 go_enter Tryz.func10, Tryz.ntmps10
 go_wp2_with (refine wpList_load_row rfl 50 _ rfl w.heap.size rfl 50 #[.slice an d.ns.length cn, .slice ai d.is.length ci, .slice af d.ds.length cf, .int .i64 d.pl, .slice ah d.hs.length ch, .slice al d.ls.length cl, .slice ag d.gs.length cg, .slice ap d.ps.length cp, .int .i64 d.nx, .slice aa d.ga.length ca, .slice ab d.tk.length cb] (0, 0) _ hx0 Tryz.underlying50 rfl Zle ?_)
 refine (Zcy _ _ _ _ _ _ _ _ _ d B _ (R0.below hB0) hsm).mono ?_
 rintro e w1 ⟨rfl, hb⟩
 have hx1 := Zab hx0 hb
 have hB1 := hB0.trans (hb.mono hB0.size)
 clear hb hx0 hB0
 cases hw : Zap d with
 | false =>
  go_wp2
  go_ret
  exact ⟨retB (by rw [hw]; rfl), hB1⟩
 | true =>
  have L := ZcL hw
  have HW : Hid (Zap d = true) := hw
  have HV : Hid (ordB d = allN (Zb9 d) (d.ls.length - 0) 0) := by unfold Hid ordB; rfl
  have hle : d.ls.length <= d.ga.length := by have := L.lg; omega
  have hll : d.ls.length <= d.tk.length := by have := L.lt; omega
  have L0 : Hid (LkAll d) := L
  clear L hw
  obtain ⟨aoa, capa, hha, _, _, hcella⟩ := R0.ra
  simp only [Value.slice.injEq] at hha
  obtain ⟨rfl, _, rfl⟩ := hha
  obtain ⟨aot, capt, hht, _, _, hcellt⟩ := R0.rt
  simp only [Value.slice.injEq] at hht
  obtain ⟨rfl, _, rfl⟩ := hht
  have k1 := cell_of_row _ _ 9 _ _ _ hx1
  have k2 := cell_of_row _ _ 10 _ _ _ hx1
  have k3 := cell_of_row _ _ 5 _ _ _ hx1
  have hs1 := Zbc hx1
  clear hx1
  go_wp2_with fail
  go_loopw [3] (fun i wr => ∃ k : Nat, k <= d.ls.length /\ i = .int .i64 k /\ Hid (ordB d = allN (Zb9 d) (d.ls.length - k) k) /\ Below w1.heap.size w1 wr) (fun i _ => d.ls.length - (intOf i).toNat)
  case atStart => exact ⟨0, by omega, rfl, HV, Below.refl _ _⟩
  case round =>
   clear HV
   obtain ⟨k, hk, rfl, HK, hb⟩ := hrel
   have c5 := (hb.cell (p := ⟨w.heap.size, 0 + 5, none⟩) hs1).trans k3
   by_cases hlt : k < d.ls.length
   ·have h2 : k < d.ga.length := by omega
    have h2i : (k : Int) < (d.ga.length : Int) := by omega
    have h3 : k < d.tk.length := by omega
    have h3i : (k : Int) < (d.tk.length : Int) := by omega
    obtain ⟨ga, oa, rfl, _, hga, hcella⟩ := hcella (by intro e; rw [e] at h2; simp at h2)
    obtain ⟨gt, ot, rfl, _, hgt, hcellt⟩ := hcellt (by intro e; rw [e] at h3; simp at h3)
    obtain ⟨l, hl⟩ : ∃ x, d.ls[k]? = some x := ⟨d.ls[k], List.getElem?_eq_getElem _⟩
    obtain ⟨ts, hta⟩ : ∃ x, d.ga[k]? = some x := ⟨d.ga[k], List.getElem?_eq_getElem _⟩
    obtain ⟨us, htu⟩ : ∃ x, d.tk[k]? = some x := ⟨d.tk[k], List.getElem?_eq_getElem _⟩
    obtain ⟨_, _, hra, ua, rfl, A1, _⟩ := hcella k ts hta
    obtain ⟨_, _, hrt, ut, rfl, T1, _⟩ := hcellt k us htu
    have hus : us.length <= ts.length := by
     have g1 := L0.out.ts hl hta
     have g2 := L0.out.us hl htu
     have g3 := Za6 g1.1
     omega
    have HS : Hid (ordB d = (eqTs us (ts.take us.length) && allN (Zb9 d) (d.ls.length - (k + 1)) (k + 1))) := by unfold Hid; rw [HK.out, Zce hlt, Zgb htu hta]
    obtain ⟨pa, qa, rfl, _, _, _, hcA⟩ := A1
    obtain ⟨pt, qt, rfl, _, _, _, hcT⟩ := T1
    have ka := ZaC hra
    have kt := ZaC hrt
    rw [Nat.mul_one] at ka kt
    clear hcella hcellt hl hta htu hra hrt HK L0
    go_wp2_with fail
    clear c5
    go_loopw [4] (fun i wx => ∃ j : Nat, j <= us.length /\ i = .int .i64 j /\ Hid (ordB d = (eqTs (us.drop j) ((ts.take us.length).drop j) && allN (Zb9 d) (d.ls.length - (k + 1)) (k + 1))) /\ Below w1.heap.size w1 wx) (fun i _ => us.length - (intOf i).toNat)
    case atStart => exact ⟨0, by omega, rfl, HS, hb⟩
    case round =>
     clear hb HS
     obtain ⟨j, hj, rfl, HJ, hb⟩ := hrel
     have hB := hB1.trans (hb.mono hB1.size)
     have c9 := (hb.cell (p := ⟨w.heap.size, 0 + 9, none⟩) hs1).trans k1
     have c10 := (hb.cell (p := ⟨w.heap.size, 0 + 10, none⟩) hs1).trans k2
     have ka1 := (hB.cell (p := ⟨ga, oa + k, none⟩) hga).trans ka
     have kt1 := (hB.cell (p := ⟨gt, ot + k, none⟩) hgt).trans kt
     clear ka kt k1 k2 k3
     by_cases hjl : j < us.length
     ·have hjt : j < ts.length := by omega
      have hji : (j : Int) < (us.length : Int) := by omega
      have hjti : (j : Int) < (ts.length : Int) := by omega
      obtain ⟨g1, o1, rfl, hg1, hcA⟩ := hcA (by intro e; rw [e] at hjt; simp at hjt)
      obtain ⟨g2, o2, rfl, hg2, hcT⟩ := hcT (by intro e; rw [e] at hjl; simp at hjl)
      obtain ⟨x, hx⟩ : ∃ x, us[j]? = some x := ⟨us[j], List.getElem?_eq_getElem _⟩
      obtain ⟨y, hy⟩ : ∃ x, ts[j]? = some x := ⟨ts[j], List.getElem?_eq_getElem _⟩
      have hy' : (ts.take us.length)[j]? = some y := by rw [List.getElem?_take, if_pos hjl, hy]
      have kx := (hB.cell (p := ⟨g2, o2 + j, none⟩) hg2).trans (hcT j x hx)
      have ky := (hB.cell (p := ⟨g1, o1 + j, none⟩) hg1).trans (hcA j y hy)
      have HX : Hid (ordB d = (((x.toList == y.toList) && eqTs (us.drop (j + 1)) ((ts.take us.length).drop (j + 1))) && allN (Zb9 d) (d.ls.length - (k + 1)) (k + 1))) := by unfold Hid; rw [HJ.out, Zdh hx hy']
      clear hcA hcT hx hy hy' HJ
      cases e : (x.toList == y.toList) with
      | true =>
       have HB : Hid (ordB d = (eqTs (us.drop (j + 1)) ((ts.take us.length).drop (j + 1)) && allN (Zb9 d) (d.ls.length - (k + 1)) (k + 1))) := by unfold Hid; rw [HX.out, e]; rfl
       clear HX
       go_wp2
       go_quiet (fail)
       go_wp2
       go_roundw
       case rel => exact ⟨j + 1, by omega, by go_num, HB, hb.trans ((ZaU _ _).mono hb.size)⟩
       case measure => simp [intOf]; omega
      | false =>
       have HB : Hid (ordB d = false) := by unfold Hid; rw [HX.out, e]; rfl
       clear HX
       go_wp2
       go_quiet (fail)
       go_wp2
       go_ret
       exact ⟨retB (by rw [HW.out, HB.out]; rfl), hB.trans ((ZaU _ _).mono hB.size)⟩
     ·have HB : Hid (ordB d = allN (Zb9 d) (d.ls.length - (k + 1)) (k + 1)) := by unfold Hid; rw [HJ.out, ZdU (by omega) (by rw [List.length_take]; omega)]; rfl
      clear HJ hcA hcT
      go_wp2
      go_roundw
      case rel => exact ⟨k + 1, by omega, by go_num, HB, hb⟩
      case measure => simp [intOf]; omega
   ·have HB : Hid (ordB d = true) := by unfold Hid; rw [HK.out, ZcM (by omega)]
    have hB := hB1.trans (hb.mono hB1.size)
    clear HK hcella hcellt
    go_wp2
    go_ret
    exact ⟨retB (by rw [HW.out, HB.out]; rfl), hB⟩
end Go.Proofs.YtfmafkebddojjaaGreatDoor
namespace Go.Proofs.YtfmafkebddojjaaGreatDoor
open Go.RowKit Go.Sort
def PidsAns (L : List Int) (B : Nat) (e : Ending) (w : World) : Prop := ∃ g cap, e = .returned (.slice (some ⟨g, 0, none⟩) L.length cap) /\ w.ownsRow B 3 1 (.slice (some ⟨g, 0, none⟩) L.length cap) L.length (iv L)
theorem PidsAns.of {L : List Int} {B : Nat} {e : Ending} {w : World} {v : Value} (he : e = .returned v) (h : w.ownsRow B 3 1 v L.length (iv L)) (hn : v ≠ .slice none 0 0) : PidsAns L B e w := by
 obtain ⟨g, cap, rfl, _⟩ := Lib.holds_of_ownsRow (enc := Value.int .i64) (zs := L) h hn
 exact ⟨g, cap, he, h⟩
end Go.Proofs.YtfmafkebddojjaaGreatDoor
namespace Go.Proofs.YtfmafkebddojjaaGreatDoor
open Go.RowKit
end Go.Proofs.YtfmafkebddojjaaGreatDoor
