/-
  Texts that stood by themselves, laid into one.
-/
import Derived.Test.YtfmafkebddojjaaGreatDoorWLsM
import Derived.Test.YtfmafkebddojjaaGreatDoorSInstrM
import Derived.Test.YtfmafkebddojjaaGreatDoorPcMarkM
import Derived.Test.YtfmafkebddojjaaGreatDoorSR8M
import Derived.Test.YtfmafkebddojjaaGreatDoorSGTextM
import Derived.Test.YtfmafkebddojjaaGreatDoorMcTM
import Derived.Test.YtfmafkebddojjaaGreatDoorSWireM
import Derived.Test.YtfmafkebddojjaaGreatDoorMPack2M
/-
  Slices of slices of texts: the contracts of the laws' helpers. No condition.
-/
namespace Go.Proofs.YtfmafkebddojjaaGreatDoor
open Go.RowKit
def ES (B : Nat) (w : World) (cs : List Value) (ts : List ByteArray) : Prop := ∃ v, cs = [v] /\ StRow w v ts /\ Fr B v
theorem stbS : Stb ES := ⟨fun _ _ _ _ _ ⟨v, h, r, f⟩ hk => ⟨v, h, r.kp f hk, f⟩, fun _ _ _ _ _ ⟨v, h, r, f⟩ hc => ⟨v, h, r, f.mono hc⟩⟩
def SmS (ts : List ByteArray) : Prop := ts.length <= 1048576 /\ ∀ x ∈ ts, x.size <= 1048576
theorem Zk8 : (Tryz.prog.info? 54).map (fun i => (i.zero, i.size, i.bytes)) = some (some (.slice none 0 0), 1, 24) := by kernel_rfl
theorem ZaC {w : World} {g o : Nat} {v : Value} (h : w.rangeAt g o [v]) : w.cell? ⟨g, o, none⟩ = some v := h 0 v rfl
theorem Zhu (us : List Value) : (us.map fun u => [u]).flatten = us := by
 induction us with
 | nil => rfl
 | cons u us ih => simp [ih]
set_option maxRecDepth 100000 in
set_option maxHeartbeats 3200000 in
theorem Zeo (v : Value) (xs : List (List ByteArray)) (B : Nat) (w : World) (R : XRow B 1 ES w v xs) (hm : xs.length <= 2097152) (hs : ∀ x ∈ xs, SmS x) :
  Calls Tryz.prog 40 #[v] w fun e w' => ∃ v', e = .returned v' /\ XRow w.heap.size 1 ES w' v' xs /\ Below w.heap.size w w' := by
 obtain ⟨ao, cap, rfl, hcap, hm0, hcell⟩ := R
 obtain ⟨i0, hi, hz0, hz1, hz2⟩ := info_parts Zk8
 have hbytes : i0.bytes * xs.length <= 281474976710656 := by rw [hz2]; omega
 have hmax : xs.length <= maxLen := by unfold maxLen; omega
 go_enter Tryz.func40, Tryz.ntmps40
 go_wp2_with (at_make; refine wpList_make_full _ rfl _ _ 33 rfl w.heap.size 54 i0 _ 1 Tryz.underlying33 hi hz0 hz1 _ _ _ _ xs.length rfl rfl rfl rfl hbytes hmax (Nat.le_refl _) ?_)
 intro w1 hown hgrow
 have hbel : Below w.heap.size w w1 := (Below.refl _ _).grown hgrow (Nat.le_refl _) (by intro k hk; cases hk)
 clear hgrow
 go_wp2
 go_loopw [4] (fun i wr => ∃ (j : Nat) (us : List Value), j <= xs.length /\ i = .int .i64 j /\ Hid (us.length = xs.length) /\ Hid (∀ (i : Nat) c x, i < j -> us[i]? = some c -> xs[i]? = some x -> StRow wr c x /\ Fr (w.heap.size + 1) c) /\ wr.ownsRow w.heap.size 54 1 (.slice (some ⟨w.heap.size, 0, none⟩) xs.length xs.length) xs.length us /\ Below w.heap.size w wr) (fun i _ => xs.length - (intOf i).toNat)
 case atStart => exact ⟨0, _, by omega, rfl, by unfold Hid; simp [madeCells], fun i c x h => by omega, hown, hbel⟩
 case round =>
  clear hown hbel hbytes hmax
  obtain ⟨j, us, hj, rfl, HL, HE, hown, hbel⟩ := hrel
  by_cases hlt : j < xs.length
  ·obtain ⟨g, o, rfl, _, hg, hcell⟩ := hcell (by intro e; subst e; simp at hlt)
   obtain ⟨x, hx⟩ : ∃ x, xs[j]? = some x := ⟨xs[j], by simp [hlt]⟩
   obtain ⟨cs, hcs, hr, hE⟩ := hcell j x hx
   have HX : Hid (xs[j]? = some x) := hx
   replace hr := Zaa hr hbel hg
   obtain ⟨u, rfl, R1, _⟩ := stbS.1 _ _ _ _ _ hE (Kp.of_below hbel)
   have c0 := ZaC hr
   rw [Nat.mul_one] at c0
   have hsx := hs x (List.mem_of_getElem? hx)
   obtain ⟨p0, q0, rfl⟩ := R1.small
   have hwl : w.heap.size + 1 <= wr.heap.size := (hown.lt w.heap.size rfl).2
   clear hcell hx hcs hr hE
   go_wp2_with fail
   refine (ZbZ _ x _ R1 (by have := hsx.1; omega)).mono ?_
   rintro e w2 ⟨u2, rfl, O2, hb2⟩
   have F2 := Fr.of_own O2
   have P2 := StRow.of_own O2 (by have := hsx.1; omega) R1.szs
   obtain ⟨p2, q2, rfl⟩ := Zaf O2
   have hown2 := Zad hown hb2
   have hB2 := hbel.trans (hb2.mono hbel.size)
   have hk2 : Kp (w.heap.size + 1) wr w2 := Kp.of_below hb2
   have d0 := hown2.cellAt j (by omega)
   obtain ⟨y, hy⟩ : ∃ y, us[j]? = some y := ⟨_, List.getElem?_eq_getElem (by rw [HL.out]; exact hlt)⟩
   rw [hy] at d0
   have f0 := hown2.frozenAt j
   obtain ⟨S0, g0⟩ := hown2.stored j (.slice p2 x.length q2)
   have hB3 : Below w.heap.size w (w2.setCell ⟨w.heap.size, j, none⟩ (.slice p2 x.length q2)) := hB2.setCell (p := ⟨w.heap.size, j, none⟩) (by simp) _
   have hk3 : Kp (w.heap.size + 1) w2 (w2.setCell ⟨w.heap.size, j, none⟩ (.slice p2 x.length q2)) := Kp.of_set (by omega)
   have HL3 : Hid ((us.set j (.slice p2 x.length q2)).length = xs.length) := by unfold Hid; rw [List.length_set]; exact HL.out
   have HE3 : Hid (∀ (i : Nat) c y, i < j + 1 -> (us.set j (.slice p2 x.length q2))[i]? = some c -> xs[i]? = some y -> StRow (w2.setCell ⟨w.heap.size, j, none⟩ (.slice p2 x.length q2)) c y /\ Fr (w.heap.size + 1) c) := by
    intro i c z hij hc hz
    by_cases e : i = j
    ·subst e
     rw [List.getElem?_set_self (by rw [HL.out]; exact hlt)] at hc
     rw [HX.out] at hz
     cases hc
     cases hz
     exact ⟨P2.kp (F2.mono hwl) hk3, F2.mono hwl⟩
    ·rw [List.getElem?_set_ne (fun h => e h.symm)] at hc
     obtain ⟨h1, h2⟩ := HE.out i c z (by omega) hc hz
     exact ⟨(h1.kp h2 hk2).kp h2 hk3, h2⟩
   clear hown hown2 hb2 hbel g0 hy HE HL HX P2 F2 O2 hk2 hk3 c0
   go_wp2
   go_roundw
   case rel => exact ⟨j + 1, _, by omega, by go_num, HL3, HE3, S0, hB3⟩
   case measure => simp [intOf]; omega
  ·go_wp2
   go_ret
   have : j = xs.length := by omega
   subst this
   rw [<- Zhu us] at hown
   refine ⟨_, rfl, XRow.of_own hown (by rw [List.length_map]; exact HL.out) (by intro c hc; simp at hc; obtain ⟨a, _, rfl⟩ := hc; rfl) hm0 (fun i c x hc hx => ?_), hbel⟩
   rw [List.getElem?_map] at hc
   cases hu : us[i]? with
   | none => rw [hu] at hc; cases hc
   | some u =>
    rw [hu] at hc
    cases hc
    obtain ⟨h1, h2⟩ := HE.out i u x (List.getElem?_eq_some_iff.1 hx).1 hu hx
    exact ⟨u, rfl, h1, h2.mono (by omega)⟩
set_option maxRecDepth 100000 in
set_option maxHeartbeats 1600000 in
theorem Zer (v : Value) (xs : List (List ByteArray)) (B : Nat) (l : Int) (w : World) (R : XRow B 1 ES w v xs) (hl0 : 0 <= l) (hl1 : l <= 1048576) :
  Calls Tryz.prog 33 #[v, .int .i64 l] w fun e w' => ∃ r : Int, e = .returned (.int .i64 r) /\ -1 <= r /\ r <= 1048576 /\ (0 <= r -> xs.length <= 1048576 /\ ∀ x ∈ xs, SmS x) /\ Below w.heap.size w w' := by
 obtain ⟨ao, cap, rfl, hcap, hm, hcell⟩ := R
 by_cases hlen : (xs.length : Int) <= l
 ·go_enter Tryz.func33, Tryz.ntmps33
  go_wp2
  go_loopw [1, 5] (fun l i wr => ∃ (k : Nat) (r : Int), k <= xs.length /\ i = .int .i64 k /\ l = .int .i64 r /\ 0 <= r /\ r <= 1048576 /\ Hid (∀ (j : Nat) x, xs[j]? = some x -> j < k -> SmS x) /\ Below w.heap.size w wr) (fun _ i _ => xs.length - (intOf i).toNat)
  case atStart => exact ⟨0, _, by omega, rfl, rfl, by omega, by omega, fun j x _ h => by omega, Below.refl _ _⟩
  case round =>
   obtain ⟨k, r, hk, rfl, rfl, hr0, hr1, HA, hb⟩ := hrel
   by_cases hlt : k < xs.length
   ·obtain ⟨g, o, rfl, _, hg, hcell⟩ := hcell (by intro e; subst e; simp at hlt)
    obtain ⟨x, hx⟩ : ∃ x, xs[k]? = some x := ⟨xs[k], by simp [hlt]⟩
    obtain ⟨cs, hcs, hr, hE⟩ := hcell k x hx
    have HX : Hid (xs[k]? = some x) := hx
    replace hr := Zaa hr hb hg
    obtain ⟨u, rfl, R1, _⟩ := stbS.1 _ _ _ _ _ hE (Kp.of_below hb)
    have c0 := ZaC hr
    rw [Nat.mul_one] at c0
    obtain ⟨p0, q0, rfl⟩ := R1.small
    clear hcell hx hcs hr hE
    go_wp2_with fail
    refine (ZbW _ x r _ R1 hr0 hr1).mono ?_
    rintro e w2 ⟨r2, rfl, h0, h1, h2, hb2⟩
    have hB2 := hb.trans (hb2.mono hb.size)
    clear hb2 c0
    by_cases hr2 : r2 < 0
    ·have HR : Hid (r2 = -1) := by unfold Hid; omega
     go_wp2
     go_ret
     exact ⟨-1, rfl, by omega, by omega, fun h => by omega, hB2⟩
    ·have h2 : SmS x := h2 (by omega)
     have HA2 : Hid (∀ (j : Nat) x, xs[j]? = some x -> j < k + 1 -> SmS x) := by
      intro j y hy hj
      by_cases e : j = k
      ·subst e
       rw [HX.out] at hy
       cases hy
       exact h2
      ·exact HA.out j y hy (by omega)
     go_wp2
     go_roundw
     case rel => exact ⟨k + 1, _, by omega, by go_num, rfl, by omega, by omega, HA2, hB2⟩
     case measure => simp [intOf]; omega
   ·go_wp2
    go_ret
    refine ⟨r, rfl, by omega, by omega, fun _ => ⟨by omega, fun x hx => ?_⟩, hb⟩
    obtain ⟨j, hj, e⟩ := List.getElem_of_mem hx
    exact HA.out j x (by rw [<- e]; simp [hj]) (by omega)
 ·go_enter Tryz.func33, Tryz.ntmps33
  go_wp2
  go_ret
  exact ⟨-1, rfl, by omega, by omega, fun h => by omega, Below.refl _ _⟩
set_option maxRecDepth 100000 in
set_option maxHeartbeats 1600000 in
theorem ZeO (va vb : Value) (xs : List (List ByteArray)) (B C : Nat) (w : World) (Ra : XRow B 1 ES w va xs) (Rb : XRow C 1 ES w vb xs) :
  Calls Tryz.prog 48 #[va, vb] w fun e w' => e = .returned (.bool true) /\ Below w.heap.size w w' := by
 obtain ⟨aa, ca, rfl, hca, hm, hcella⟩ := Ra
 obtain ⟨ab, cb, rfl, hcb, _, hcellb⟩ := Rb
 have hn : ((xs.length : Int) != (xs.length : Int)) = false := by simp
 go_enter Tryz.func48, Tryz.ntmps48
 go_wp2
 go_loopw [5] (fun i wr => ∃ k : Nat, k <= xs.length /\ i = .int .i64 k /\ Below w.heap.size w wr) (fun i _ => xs.length - (intOf i).toNat)
 case atStart => exact ⟨0, by omega, rfl, Below.refl _ _⟩
 case round =>
  obtain ⟨k, hk, rfl, hb⟩ := hrel
  by_cases hlt : k < xs.length
  ·obtain ⟨ga, oa, rfl, _, hga, hcella⟩ := hcella (by intro e; subst e; simp at hlt)
   obtain ⟨gb, ob, rfl, _, hgb, hcellb⟩ := hcellb (by intro e; subst e; simp at hlt)
   obtain ⟨x, hx⟩ : ∃ x, xs[k]? = some x := ⟨xs[k], by simp [hlt]⟩
   obtain ⟨cs, hcs, ra, hEa⟩ := hcella k x hx
   obtain ⟨ds, hds, rb, hEb⟩ := hcellb k x hx
   replace ra := Zaa ra hb hga
   replace rb := Zaa rb hb hgb
   obtain ⟨ua, rfl, R1, _⟩ := stbS.1 _ _ _ _ _ hEa (Kp.of_below hb)
   obtain ⟨ub, rfl, R2, _⟩ := stbS.1 _ _ _ _ _ hEb (Kp.of_below hb)
   have c1 := ZaC ra
   have c2 := ZaC rb
   rw [Nat.mul_one] at c1 c2
   have HC : ∀ W, Below wr.heap.size wr W -> Calls Tryz.prog 22 #[ua, ub] W fun e w' => e = .returned (.bool true) /\ Below W.heap.size W w' := fun W hW => ZbV _ _ x W (R1.below hW) (R2.below hW)
   have hga' := Nat.lt_of_lt_of_le hga hb.size
   have hgb' := Nat.lt_of_lt_of_le hgb hb.size
   clear hcella hcellb hx hEa hEb ra rb
   go_wp2_with fail
   refine Zky ga oa gb ob xs.length ca cb k ua ub wr _ hlt hga' hgb' c1 c2 HC ?_
   intro u17 u18 u19 u20 u21 u22 u23 u24 u25 W hW
   have hB2 : Below w.heap.size w W := hb.trans (hW.mono hb.size)
   clear HC c1 c2
   go_wp2
   go_roundw
   case rel => exact ⟨k + 1, by omega, by go_num, hB2⟩
   case measure => simp [intOf]; omega
  ·go_wp2
   go_ret
   exact ⟨rfl, hb⟩
structure Wd where
 ns : List Nd
 is : List In
 ds : List Df
 pl : Int
 hs : List Hm
 ls : List Lk
 gs : List Gm
 ps : List Pd
 nx : Int
 ga : List (List ByteArray)
 tk : List (List ByteArray)
theorem InRow.kp {w w' : World} {v : Value} {xs : List In} {B : Nat} (R : InRow w v xs) (hf : Fr B v) (hk : Kp B w w') : InRow w' v xs := by
 obtain ⟨ao, cap, rfl, hc, hm, hz, hcell⟩ := R
 refine ⟨ao, cap, rfl, hc, hm, hz, fun hne => ?_⟩
 obtain ⟨g, o, rfl, hg, hcell⟩ := hcell hne
 have e := Zdc hk hf rfl hg
 refine ⟨g, o, rfl, Nat.lt_of_lt_of_le hg hk.1, fun i x hi => ?_⟩
 obtain ⟨c0, c1, c2, c3⟩ := hcell i x hi
 exact ⟨(World.cell?_of_block e).trans c0, (World.cell?_of_block e).trans c1, (World.cell?_of_block e).trans c2, (World.cell?_of_block e).trans c3⟩
theorem DfRow.kp {w w' : World} {v : Value} {xs : List Df} {B : Nat} (R : DfRow w v xs) (hf : Fr B v) (hk : Kp B w w') : DfRow w' v xs := by
 obtain ⟨ao, cap, rfl, hc, hm, hz, hcell⟩ := R
 refine ⟨ao, cap, rfl, hc, hm, hz, fun hne => ?_⟩
 obtain ⟨g, o, rfl, hg, hcell⟩ := hcell hne
 have e := Zdc hk hf rfl hg
 refine ⟨g, o, rfl, Nat.lt_of_lt_of_le hg hk.1, fun i x hi => ?_⟩
 obtain ⟨c0, c1, c2⟩ := hcell i x hi
 exact ⟨(World.cell?_of_block e).trans c0, (World.cell?_of_block e).trans c1, (World.cell?_of_block e).trans c2⟩
structure WR (B : Nat) (w : World) (vn vi vf vh vl vg vp va vt : Value) (d : Wd) : Prop where
 rn : NRow w vn d.ns
 ri : InRow w vi d.is
 rf : DfRow w vf d.ds
 rh : XRow B 12 EH w vh d.hs
 rl : XRow B 5 EL w vl d.ls
 rg : XRow B 5 EG w vg d.gs
 rp : XRow B 3 EP w vp d.ps
 ra : XRow B 1 ES w va d.ga
 rt : XRow B 1 ES w vt d.tk
 fn : Fr B vn
 fi : Fr B vi
 ff : Fr B vf
theorem WR.kp {B : Nat} {w w' : World} {vn vi vf vh vl vg vp va vt : Value} {d : Wd} (R : WR B w vn vi vf vh vl vg vp va vt d) (hk : Kp B w w') : WR B w' vn vi vf vh vl vg vp va vt d :=
 ⟨R.rn.kp R.fn hk, R.ri.kp R.fi hk, R.rf.kp R.ff hk, R.rh.kp stbH hk, R.rl.kp stbL hk, R.rg.kp stbG hk, R.rp.kp stbP hk, R.ra.kp stbS hk, R.rt.kp stbS hk, R.fn, R.fi, R.ff⟩
theorem WR.below {B : Nat} {w w' : World} {vn vi vf vh vl vg vp va vt : Value} {d : Wd} (R : WR B w vn vi vf vh vl vg vp va vt d) (hb : Below w.heap.size w w') : WR B w' vn vi vf vh vl vg vp va vt d := R.kp (Kp.of_below hb)
theorem WR.form {B : Nat} {w : World} {vn vi vf vh vl vg vp va vt : Value} {d : Wd} (R : WR B w vn vi vf vh vl vg vp va vt d) : (∃ ao cap, vn = .slice ao d.ns.length cap) /\ (∃ ao cap, vi = .slice ao d.is.length cap) /\ (∃ ao cap, vf = .slice ao d.ds.length cap) /\ (∃ ao cap, vh = .slice ao d.hs.length cap) /\ (∃ ao cap, vl = .slice ao d.ls.length cap) /\ (∃ ao cap, vg = .slice ao d.gs.length cap) /\ (∃ ao cap, vp = .slice ao d.ps.length cap) /\ (∃ ao cap, va = .slice ao d.ga.length cap) /\ (∃ ao cap, vt = .slice ao d.tk.length cap) :=
 ⟨R.rn.small8, R.ri.small, R.rf.small, R.rh.small, R.rl.small, R.rg.small, R.rp.small, R.ra.small, R.rt.small⟩
structure SmW (d : Wd) : Prop where
 hn : d.ns.length <= 1048576
 hi : d.is.length <= 1048576
 hf : d.ds.length <= 1048576
 hh : d.hs.length <= 1048576 /\ ∀ x ∈ d.hs, SmH x
 hl : d.ls.length <= 1048576 /\ ∀ x ∈ d.ls, SmL x
 hg : d.gs.length <= 1048576 /\ ∀ x ∈ d.gs, SmG x
 hp : d.ps.length <= 1048576 /\ ∀ x ∈ d.ps, SmP x
 ha : d.ga.length <= 1048576 /\ ∀ x ∈ d.ga, SmS x
 ht : d.tk.length <= 1048576 /\ ∀ x ∈ d.tk, SmS x
theorem Zle : (Tryz.prog.info? 50).map (·.size) = some 11 := by kernel_rfl
theorem Zk7 : (Tryz.prog.info? 35).map (·.size) = some 11 := by kernel_rfl
theorem Zk2 : (Tryz.prog.info? 44).map (·.size) = some 3 := by kernel_rfl
theorem ZkY : (Tryz.prog.info? 28).map (·.size) = some 3 := by kernel_rfl
set_option maxRecDepth 100000 in
set_option maxHeartbeats 3200000 in
theorem Zc9 (vn vi vf vh vl vg vp va vt : Value) (d : Wd) (B : Nat) (w : World) (R : WR B w vn vi vf vh vl vg vp va vt d) :
  Calls Tryz.prog 9 #[.agg #[vn, vi, vf, .int .i64 d.pl, vh, vl, vg, vp, .int .i64 d.nx, va, vt], .int .i64 1048576] w fun e w' => ∃ r : Int, e = .returned (.int .i64 r) /\ -1 <= r /\ r <= 1048576 /\ (0 <= r -> SmW d) /\ Below w.heap.size w w' := by
 obtain ⟨⟨aan, ccn, rfl⟩, ⟨aai, cci, rfl⟩, ⟨aaf, ccf, rfl⟩, ⟨aah, cch, rfl⟩, ⟨aal, ccl, rfl⟩, ⟨aag, ccg, rfl⟩, ⟨aap, ccp, rfl⟩, ⟨aaa, cca, rfl⟩, ⟨aat, cct, rfl⟩⟩ := R.form
 have hB : Below w.heap.size w (w.alloc (Obj.cells #[.slice aan d.ns.length ccn, .slice aai d.is.length cci, .slice aaf d.ds.length ccf, .int .i64 d.pl, .slice aah d.hs.length cch, .slice aal d.ls.length ccl, .slice aag d.gs.length ccg, .slice aap d.ps.length ccp, .int .i64 d.nx, .slice aaa d.ga.length cca, .slice aat d.tk.length cct] 35)) := (Below.refl _ _).alloc (Nat.le_refl _) _
 have hx : (w.alloc (Obj.cells #[.slice aan d.ns.length ccn, .slice aai d.is.length cci, .slice aaf d.ds.length ccf, .int .i64 d.pl, .slice aah d.hs.length cch, .slice aal d.ls.length ccl, .slice aag d.gs.length ccg, .slice aap d.ps.length ccp, .int .i64 d.nx, .slice aaa d.ga.length cca, .slice aat d.tk.length cct] 35)).heap[w.heap.size]? = some (Obj.cells #[.slice aan d.ns.length ccn, .slice aai d.is.length cci, .slice aaf d.ds.length ccf, .int .i64 d.pl, .slice aah d.hs.length cch, .slice aal d.ls.length ccl, .slice aag d.gs.length ccg, .slice aap d.ps.length ccp, .int .i64 d.nx, .slice aaa d.ga.length cca, .slice aat d.tk.length cct] 35) := heap_alloc_new _ _
 go_enter Tryz.func9, Tryz.ntmps9
 go_wp2_with (refine Zag rfl 28 _ rfl w.heap.size 0 rfl _ 35 #[.slice aan d.ns.length ccn, .slice aai d.is.length cci, .slice aaf d.ds.length ccf] _ hx rfl Tryz.underlying28 rfl ZkY ?_)
 refine (ZgN _ _ _ d.ns d.is d.ds _ (R.rn.below hB) (R.ri.below hB) (R.rf.below hB)).mono ?_
 rintro e w0 ⟨r0, rfl, h0, h1, k0, hb⟩
 replace hx := (bb hx hb)
 replace hB := hB.trans (hb.mono hB.size)
 clear hb
 by_cases hr : r0 < 0
 ·have HR : Hid (r0 = -1) := by unfold Hid; omega
  go_wp2
  go_ret
  exact ⟨-1, rfl, by omega, by omega, fun h => by omega, hB⟩
 have k0 := k0 (by omega)
 have kc : w0.cell? ⟨w.heap.size, 0 + 4, none⟩ = some (.slice aah d.hs.length cch) := cell_of_row w0 _ 4 _ _ _ hx
 go_wp2_with fail
 refine (Ziz _ d.hs B r0 _ (R.rh.below stbH hB) (by omega) (by omega)).mono ?_
 rintro e w1 ⟨r1, rfl, h0h, h1h, kh, hb⟩
 replace hx := (bb hx hb)
 replace hB := hB.trans (hb.mono hB.size)
 clear hb kc
 by_cases hr : r1 < 0
 ·have HR : Hid (r1 = -1) := by unfold Hid; omega
  go_wp2
  go_ret
  exact ⟨-1, rfl, by omega, by omega, fun h => by omega, hB⟩
 have kh := kh (by omega)
 have kc : w1.cell? ⟨w.heap.size, 0 + 5, none⟩ = some (.slice aal d.ls.length ccl) := cell_of_row w1 _ 5 _ _ _ hx
 go_wp2_with fail
 refine (Zhz _ d.ls B r1 _ (R.rl.below stbL hB) (by omega) (by omega)).mono ?_
 rintro e w2 ⟨r2, rfl, h0l, h1l, kl, hb⟩
 replace hx := (bb hx hb)
 replace hB := hB.trans (hb.mono hB.size)
 clear hb kc
 by_cases hr : r2 < 0
 ·have HR : Hid (r2 = -1) := by unfold Hid; omega
  go_wp2
  go_ret
  exact ⟨-1, rfl, by omega, by omega, fun h => by omega, hB⟩
 have kl := kl (by omega)
 have kc : w2.cell? ⟨w.heap.size, 0 + 6, none⟩ = some (.slice aag d.gs.length ccg) := cell_of_row w2 _ 6 _ _ _ hx
 go_wp2_with fail
 refine (Zht _ d.gs B r2 _ (R.rg.below stbG hB) (by omega) (by omega)).mono ?_
 rintro e w3 ⟨r3, rfl, h0g, h1g, kg, hb⟩
 replace hx := (bb hx hb)
 replace hB := hB.trans (hb.mono hB.size)
 clear hb kc
 by_cases hr : r3 < 0
 ·have HR : Hid (r3 = -1) := by unfold Hid; omega
  go_wp2
  go_ret
  exact ⟨-1, rfl, by omega, by omega, fun h => by omega, hB⟩
 have kg := kg (by omega)
 have kc : w3.cell? ⟨w.heap.size, 0 + 7, none⟩ = some (.slice aap d.ps.length ccp) := cell_of_row w3 _ 7 _ _ _ hx
 go_wp2_with fail
 refine (ZhG _ d.ps B r3 _ (R.rp.below stbP hB) (by omega) (by omega)).mono ?_
 rintro e w4 ⟨r4, rfl, h0p, h1p, kp, hb⟩
 replace hx := (bb hx hb)
 replace hB := hB.trans (hb.mono hB.size)
 clear hb kc
 by_cases hr : r4 < 0
 ·have HR : Hid (r4 = -1) := by unfold Hid; omega
  go_wp2
  go_ret
  exact ⟨-1, rfl, by omega, by omega, fun h => by omega, hB⟩
 have kp := kp (by omega)
 have kc : w4.cell? ⟨w.heap.size, 0 + 9, none⟩ = some (.slice aaa d.ga.length cca) := cell_of_row w4 _ 9 _ _ _ hx
 go_wp2_with fail
 refine (Zer _ d.ga B r4 _ (R.ra.below stbS hB) (by omega) (by omega)).mono ?_
 rintro e w5 ⟨r5, rfl, h0a, h1a, ka, hb⟩
 replace hx := (bb hx hb)
 replace hB := hB.trans (hb.mono hB.size)
 clear hb kc
 by_cases hr : r5 < 0
 ·have HR : Hid (r5 = -1) := by unfold Hid; omega
  go_wp2
  go_ret
  exact ⟨-1, rfl, by omega, by omega, fun h => by omega, hB⟩
 have ka := ka (by omega)
 have kc : w5.cell? ⟨w.heap.size, 0 + 10, none⟩ = some (.slice aat d.tk.length cct) := cell_of_row w5 _ 10 _ _ _ hx
 go_wp2_with fail
 refine (Zer _ d.tk B r5 _ (R.rt.below stbS hB) (by omega) (by omega)).mono ?_
 rintro e w6 ⟨r6, rfl, h0t, h1t, kt, hb⟩
 replace hx := (bb hx hb)
 replace hB := hB.trans (hb.mono hB.size)
 clear hb kc
 by_cases hr : r6 < 0
 ·have HR : Hid (r6 = -1) := by unfold Hid; omega
  go_wp2
  go_ret
  exact ⟨-1, rfl, by omega, by omega, fun h => by omega, hB⟩
 have kt := kt (by omega)
 clear hx
 go_wp2
 go_ret
 exact ⟨r6, rfl, by omega, by omega, fun _ => ⟨k0.1, k0.2.1, k0.2.2, kh, kl, kg, kp, ka, kt⟩, hB⟩
set_option maxRecDepth 100000 in
set_option maxHeartbeats 12800000 in
theorem Za7 (vn vi vf vh vl vg vp va vt : Value) (d : Wd) (B : Nat) (w : World) (R : WR B w vn vi vf vh vl vg vp va vt d) (S : SmW d) :
  Calls Tryz.prog 11 #[.agg #[vn, vi, vf, .int .i64 d.pl, vh, vl, vg, vp, .int .i64 d.nx, va, vt]] w fun e w' => ∃ un ui uf uh ul ug up ua ut, e = .returned (.agg #[un, ui, uf, .int .i64 d.pl, uh, ul, ug, up, .int .i64 d.nx, ua, ut]) /\ WR w.heap.size w' un ui uf uh ul ug up ua ut d /\ Below w.heap.size w w' := by
 have hz1 := R.rn.szn
 have hz2 := R.ri.sz
 have hz3 := R.rf.sz
 obtain ⟨⟨aan, ccn, rfl⟩, ⟨aai, cci, rfl⟩, ⟨aaf, ccf, rfl⟩, ⟨aah, cch, rfl⟩, ⟨aal, ccl, rfl⟩, ⟨aag, ccg, rfl⟩, ⟨aap, ccp, rfl⟩, ⟨aaa, cca, rfl⟩, ⟨aat, cct, rfl⟩⟩ := R.form
 have hB : Below w.heap.size w (((w.alloc (Obj.cells #[.slice aan d.ns.length ccn, .slice aai d.is.length cci, .slice aaf d.ds.length ccf, .int .i64 d.pl, .slice aah d.hs.length cch, .slice aal d.ls.length ccl, .slice aag d.gs.length ccg, .slice aap d.ps.length ccp, .int .i64 d.nx, .slice aaa d.ga.length cca, .slice aat d.tk.length cct] 35)).alloc (Obj.cells #[.slice none 0 0, .slice none 0 0, .slice none 0 0, .int .i64 0, .slice none 0 0, .slice none 0 0, .slice none 0 0, .slice none 0 0, .int .i64 0, .slice none 0 0, .slice none 0 0] 50)).alloc (Obj.cells #[.slice none 0 0, .slice none 0 0, .slice none 0 0, .int .i64 0, .slice none 0 0, .slice none 0 0, .slice none 0 0, .slice none 0 0, .int .i64 0, .slice none 0 0, .slice none 0 0] 50)) := (((Below.refl _ _).alloc (Nat.le_refl _) _).alloc (by simp) _).alloc (by simp; omega) _
 have hx : (((w.alloc (Obj.cells #[.slice aan d.ns.length ccn, .slice aai d.is.length cci, .slice aaf d.ds.length ccf, .int .i64 d.pl, .slice aah d.hs.length cch, .slice aal d.ls.length ccl, .slice aag d.gs.length ccg, .slice aap d.ps.length ccp, .int .i64 d.nx, .slice aaa d.ga.length cca, .slice aat d.tk.length cct] 35)).alloc (Obj.cells #[.slice none 0 0, .slice none 0 0, .slice none 0 0, .int .i64 0, .slice none 0 0, .slice none 0 0, .slice none 0 0, .slice none 0 0, .int .i64 0, .slice none 0 0, .slice none 0 0] 50)).alloc (Obj.cells #[.slice none 0 0, .slice none 0 0, .slice none 0 0, .int .i64 0, .slice none 0 0, .slice none 0 0, .slice none 0 0, .slice none 0 0, .int .i64 0, .slice none 0 0, .slice none 0 0] 50)).heap[w.heap.size]? = some (Obj.cells #[.slice aan d.ns.length ccn, .slice aai d.is.length cci, .slice aaf d.ds.length ccf, .int .i64 d.pl, .slice aah d.hs.length cch, .slice aal d.ls.length ccl, .slice aag d.gs.length ccg, .slice aap d.ps.length ccp, .int .i64 d.nx, .slice aaa d.ga.length cca, .slice aat d.tk.length cct] 35) := (heap_alloc_old _ _ (by simp; omega)).trans ((heap_alloc_old _ _ (by simp)).trans (heap_alloc_new _ _))
 have hy : (((w.alloc (Obj.cells #[.slice aan d.ns.length ccn, .slice aai d.is.length cci, .slice aaf d.ds.length ccf, .int .i64 d.pl, .slice aah d.hs.length cch, .slice aal d.ls.length ccl, .slice aag d.gs.length ccg, .slice aap d.ps.length ccp, .int .i64 d.nx, .slice aaa d.ga.length cca, .slice aat d.tk.length cct] 35)).alloc (Obj.cells #[.slice none 0 0, .slice none 0 0, .slice none 0 0, .int .i64 0, .slice none 0 0, .slice none 0 0, .slice none 0 0, .slice none 0 0, .int .i64 0, .slice none 0 0, .slice none 0 0] 50)).alloc (Obj.cells #[.slice none 0 0, .slice none 0 0, .slice none 0 0, .int .i64 0, .slice none 0 0, .slice none 0 0, .slice none 0 0, .slice none 0 0, .int .i64 0, .slice none 0 0, .slice none 0 0] 50)).heap[w.heap.size + 1]? = some (Obj.cells #[.slice none 0 0, .slice none 0 0, .slice none 0 0, .int .i64 0, .slice none 0 0, .slice none 0 0, .slice none 0 0, .slice none 0 0, .int .i64 0, .slice none 0 0, .slice none 0 0] 50) := (heap_alloc_old _ _ (by simp)).trans (heap_alloc2_new _ _ _)
 have hv : (((w.alloc (Obj.cells #[.slice aan d.ns.length ccn, .slice aai d.is.length cci, .slice aaf d.ds.length ccf, .int .i64 d.pl, .slice aah d.hs.length cch, .slice aal d.ls.length ccl, .slice aag d.gs.length ccg, .slice aap d.ps.length ccp, .int .i64 d.nx, .slice aaa d.ga.length cca, .slice aat d.tk.length cct] 35)).alloc (Obj.cells #[.slice none 0 0, .slice none 0 0, .slice none 0 0, .int .i64 0, .slice none 0 0, .slice none 0 0, .slice none 0 0, .slice none 0 0, .int .i64 0, .slice none 0 0, .slice none 0 0] 50)).alloc (Obj.cells #[.slice none 0 0, .slice none 0 0, .slice none 0 0, .int .i64 0, .slice none 0 0, .slice none 0 0, .slice none 0 0, .slice none 0 0, .int .i64 0, .slice none 0 0, .slice none 0 0] 50)).heap[w.heap.size + 2]? = some (Obj.cells #[.slice none 0 0, .slice none 0 0, .slice none 0 0, .int .i64 0, .slice none 0 0, .slice none 0 0, .slice none 0 0, .slice none 0 0, .int .i64 0, .slice none 0 0, .slice none 0 0] 50) := by
  have h := heap_alloc_new ((w.alloc (Obj.cells #[.slice aan d.ns.length ccn, .slice aai d.is.length cci, .slice aaf d.ds.length ccf, .int .i64 d.pl, .slice aah d.hs.length cch, .slice aal d.ls.length ccl, .slice aag d.gs.length ccg, .slice aap d.ps.length ccp, .int .i64 d.nx, .slice aaa d.ga.length cca, .slice aat d.tk.length cct] 35)).alloc (Obj.cells #[.slice none 0 0, .slice none 0 0, .slice none 0 0, .int .i64 0, .slice none 0 0, .slice none 0 0, .slice none 0 0, .slice none 0 0, .int .i64 0, .slice none 0 0, .slice none 0 0] 50)) (Obj.cells #[.slice none 0 0, .slice none 0 0, .slice none 0 0, .int .i64 0, .slice none 0 0, .slice none 0 0, .slice none 0 0, .slice none 0 0, .int .i64 0, .slice none 0 0, .slice none 0 0] 50)
  simpa using h
 have hs3 : w.heap.size + 3 <= (((w.alloc (Obj.cells #[.slice aan d.ns.length ccn, .slice aai d.is.length cci, .slice aaf d.ds.length ccf, .int .i64 d.pl, .slice aah d.hs.length cch, .slice aal d.ls.length ccl, .slice aag d.gs.length ccg, .slice aap d.ps.length ccp, .int .i64 d.nx, .slice aaa d.ga.length cca, .slice aat d.tk.length cct] 35)).alloc (Obj.cells #[.slice none 0 0, .slice none 0 0, .slice none 0 0, .int .i64 0, .slice none 0 0, .slice none 0 0, .slice none 0 0, .slice none 0 0, .int .i64 0, .slice none 0 0, .slice none 0 0] 50)).alloc (Obj.cells #[.slice none 0 0, .slice none 0 0, .slice none 0 0, .int .i64 0, .slice none 0 0, .slice none 0 0, .slice none 0 0, .slice none 0 0, .int .i64 0, .slice none 0 0, .slice none 0 0] 50)).heap.size := by simp
 go_enter Tryz.func11, Tryz.ntmps11
 go_wp2_with (refine Zag rfl 28 _ rfl w.heap.size 0 rfl _ 35 #[.slice aan d.ns.length ccn, .slice aai d.is.length cci, .slice aaf d.ds.length ccf] _ hx rfl Tryz.underlying28 rfl ZkY ?_)
 refine (ZgW _ _ _ d.ns d.is d.ds _ (R.rn.below hB) (R.ri.below hB) (R.rf.below hB) (by have := S.hn; omega) (by have := S.hi; omega) (by have := S.hf; omega)).mono ?_
 rintro e w1 ⟨v1, v2, v3, rfl, O1, O2, O3, hb⟩
 replace hx := (bb hx hb)
 replace hy := (bb hy hb)
 replace hv := (bb hv hb)
 replace hB := hB.trans (hb.mono hB.size)
 have hsb := hb.size
 obtain ⟨ppn, qqn, rfl⟩ := Zaf O1
 obtain ⟨ppi, qqi, rfl⟩ := Zaf O2
 obtain ⟨ppf, qqf, rfl⟩ := Zaf O3
 have F1 := (Fr.of_own O1).mono hs3
 have F2 := (Fr.of_own O2).mono hs3
 have F3 := (Fr.of_own O3).mono hs3
 have P1 := NRow.of_own O1 (by have := S.hn; omega) hz1
 have P2 := InRow.of_own O2 (by have := S.hi; omega) hz2
 have P3 := DfRow.of_own O3 (by have := S.hf; omega) hz3
 clear O1 O2 O3
 replace hs3 : w.heap.size + 3 <= w1.heap.size := Nat.le_trans hs3 hsb
 clear hb hsb
 go_wp2_with (refine ZaO rfl 44 _ _ rfl (w.heap.size + 2) 0 #[.slice ppn d.ns.length qqn, .slice ppi d.is.length qqi, .slice ppf d.ds.length qqf] rfl rfl 50 #[.slice none 0 0, .slice none 0 0, .slice none 0 0, .int .i64 0, .slice none 0 0, .slice none 0 0, .slice none 0 0, .slice none 0 0, .int .i64 0, .slice none 0 0, .slice none 0 0] #[.slice ppn d.ns.length qqn, .slice ppi d.is.length qqi, .slice ppf d.ds.length qqf, .int .i64 0, .slice none 0 0, .slice none 0 0, .slice none 0 0, .slice none 0 0, .int .i64 0, .slice none 0 0, .slice none 0 0] hv (by simp) Zk2 (by simp [Value.oneCell']) rfl ?_)
 intro u1 hn hbl hsz hoth
 have hk : Kp (w.heap.size + 3) _ u1 := Kp.of_oth (by omega) hoth (by omega)
 replace P1 := P1.kp F1 hk
 replace P2 := P2.kp F2 hk
 replace P3 := P3.kp F3 hk
 replace hx := (hoth w.heap.size (by omega)).trans hx
 replace hy := (hoth (w.heap.size + 1) (by omega)).trans hy
 replace hB := hB.trans (hbl.mono (by omega))
 replace hv := hn
 replace hs3 : w.heap.size + 3 <= u1.heap.size := by omega
 clear hn hbl hsz hoth hk
 have kc : u1.cell? ⟨w.heap.size, 0 + 3, none⟩ = some (.int .i64 d.pl) := cell_of_row u1 _ 3 _ _ _ hx
 go_wp2_with (refine Zac rfl 3 _ _ rfl (w.heap.size + 2) 3 (.int .i64 d.pl) #[.int .i64 d.pl] rfl rfl rfl rfl 50 #[.slice ppn d.ns.length qqn, .slice ppi d.is.length qqi, .slice ppf d.ds.length qqf, .int .i64 0, .slice none 0 0, .slice none 0 0, .slice none 0 0, .slice none 0 0, .int .i64 0, .slice none 0 0, .slice none 0 0] #[.slice ppn d.ns.length qqn, .slice ppi d.is.length qqi, .slice ppf d.ds.length qqf, .int .i64 d.pl, .slice none 0 0, .slice none 0 0, .slice none 0 0, .slice none 0 0, .int .i64 0, .slice none 0 0, .slice none 0 0] hv (by simp) (by kernel_rfl) rfl ?_)
 intro u2 hn hbl hsz hoth
 have hk : Kp (w.heap.size + 3) _ u2 := Kp.of_oth (by omega) hoth (by omega)
 replace P1 := P1.kp F1 hk
 replace P2 := P2.kp F2 hk
 replace P3 := P3.kp F3 hk
 replace hx := (hoth w.heap.size (by omega)).trans hx
 replace hy := (hoth (w.heap.size + 1) (by omega)).trans hy
 replace hB := hB.trans (hbl.mono (by omega))
 replace hv := hn
 replace hs3 : w.heap.size + 3 <= u2.heap.size := by omega
 clear hn hbl hsz hoth hk kc
 have kc : u2.cell? ⟨w.heap.size, 0 + 4, none⟩ = some (.slice aah d.hs.length cch) := cell_of_row u2 _ 4 _ _ _ hx
 go_wp2_with fail
 refine (Zis _ d.hs B _ (R.rh.below stbH hB) (by have := S.hh.1; omega) S.hh.2).mono ?_
 rintro e w3 ⟨vh, rfl, Xh, hb⟩
 have hk : Kp (w.heap.size + 3) _ w3 := Kp.of_below hb
 replace P1 := P1.kp F1 hk
 replace P2 := P2.kp F2 hk
 replace P3 := P3.kp F3 hk
 replace hx := (bb hx hb)
 replace hy := (bb hy hb)
 replace hv := (bb hv hb)
 replace hB := hB.trans (hb.mono hB.size)
 have hsb := hb.size
 obtain ⟨pph, qqh, rfl⟩ := Xh.small
 replace Xh := (Xh.mono stbH hs3)
 replace hs3 : w.heap.size + 3 <= w3.heap.size := Nat.le_trans hs3 hsb
 clear hb hk hsb kc
 go_wp2_with (refine Zac rfl 45 _ _ rfl (w.heap.size + 2) 4 (.slice pph d.hs.length qqh) #[.slice pph d.hs.length qqh] rfl rfl rfl rfl 50 #[.slice ppn d.ns.length qqn, .slice ppi d.is.length qqi, .slice ppf d.ds.length qqf, .int .i64 d.pl, .slice none 0 0, .slice none 0 0, .slice none 0 0, .slice none 0 0, .int .i64 0, .slice none 0 0, .slice none 0 0] #[.slice ppn d.ns.length qqn, .slice ppi d.is.length qqi, .slice ppf d.ds.length qqf, .int .i64 d.pl, .slice pph d.hs.length qqh, .slice none 0 0, .slice none 0 0, .slice none 0 0, .int .i64 0, .slice none 0 0, .slice none 0 0] hv (by simp) (by kernel_rfl) rfl ?_)
 intro u3 hn hbl hsz hoth
 have hk : Kp (w.heap.size + 3) _ u3 := Kp.of_oth (by omega) hoth (by omega)
 replace P1 := P1.kp F1 hk
 replace P2 := P2.kp F2 hk
 replace P3 := P3.kp F3 hk
 replace Xh := Xh.kp stbH hk
 replace hx := (hoth w.heap.size (by omega)).trans hx
 replace hy := (hoth (w.heap.size + 1) (by omega)).trans hy
 replace hB := hB.trans (hbl.mono (by omega))
 replace hv := hn
 replace hs3 : w.heap.size + 3 <= u3.heap.size := by omega
 clear hn hbl hsz hoth hk
 have kc : u3.cell? ⟨w.heap.size, 0 + 5, none⟩ = some (.slice aal d.ls.length ccl) := cell_of_row u3 _ 5 _ _ _ hx
 go_wp2_with fail
 refine (ZhD _ d.ls B _ (R.rl.below stbL hB) (by have := S.hl.1; omega) S.hl.2).mono ?_
 rintro e w4 ⟨vl, rfl, Xl, hb⟩
 have hk : Kp (w.heap.size + 3) _ w4 := Kp.of_below hb
 replace P1 := P1.kp F1 hk
 replace P2 := P2.kp F2 hk
 replace P3 := P3.kp F3 hk
 replace Xh := Xh.kp stbH hk
 replace hx := (bb hx hb)
 replace hy := (bb hy hb)
 replace hv := (bb hv hb)
 replace hB := hB.trans (hb.mono hB.size)
 have hsb := hb.size
 obtain ⟨ppl, qql, rfl⟩ := Xl.small
 replace Xl := (Xl.mono stbL hs3)
 replace hs3 : w.heap.size + 3 <= w4.heap.size := Nat.le_trans hs3 hsb
 clear hb hk hsb kc
 go_wp2_with (refine Zac rfl 46 _ _ rfl (w.heap.size + 2) 5 (.slice ppl d.ls.length qql) #[.slice ppl d.ls.length qql] rfl rfl rfl rfl 50 #[.slice ppn d.ns.length qqn, .slice ppi d.is.length qqi, .slice ppf d.ds.length qqf, .int .i64 d.pl, .slice pph d.hs.length qqh, .slice none 0 0, .slice none 0 0, .slice none 0 0, .int .i64 0, .slice none 0 0, .slice none 0 0] #[.slice ppn d.ns.length qqn, .slice ppi d.is.length qqi, .slice ppf d.ds.length qqf, .int .i64 d.pl, .slice pph d.hs.length qqh, .slice ppl d.ls.length qql, .slice none 0 0, .slice none 0 0, .int .i64 0, .slice none 0 0, .slice none 0 0] hv (by simp) (by kernel_rfl) rfl ?_)
 intro u4 hn hbl hsz hoth
 have hk : Kp (w.heap.size + 3) _ u4 := Kp.of_oth (by omega) hoth (by omega)
 replace P1 := P1.kp F1 hk
 replace P2 := P2.kp F2 hk
 replace P3 := P3.kp F3 hk
 replace Xh := Xh.kp stbH hk
 replace Xl := Xl.kp stbL hk
 replace hx := (hoth w.heap.size (by omega)).trans hx
 replace hy := (hoth (w.heap.size + 1) (by omega)).trans hy
 replace hB := hB.trans (hbl.mono (by omega))
 replace hv := hn
 replace hs3 : w.heap.size + 3 <= u4.heap.size := by omega
 clear hn hbl hsz hoth hk
 have kc : u4.cell? ⟨w.heap.size, 0 + 6, none⟩ = some (.slice aag d.gs.length ccg) := cell_of_row u4 _ 6 _ _ _ hx
 go_wp2_with fail
 refine (Zin _ d.gs B _ (R.rg.below stbG hB) (by have := S.hg.1; omega) S.hg.2).mono ?_
 rintro e w5 ⟨vg, rfl, Xg, hb⟩
 have hk : Kp (w.heap.size + 3) _ w5 := Kp.of_below hb
 replace P1 := P1.kp F1 hk
 replace P2 := P2.kp F2 hk
 replace P3 := P3.kp F3 hk
 replace Xh := Xh.kp stbH hk
 replace Xl := Xl.kp stbL hk
 replace hx := (bb hx hb)
 replace hy := (bb hy hb)
 replace hv := (bb hv hb)
 replace hB := hB.trans (hb.mono hB.size)
 have hsb := hb.size
 obtain ⟨ppg, qqg, rfl⟩ := Xg.small
 replace Xg := (Xg.mono stbG hs3)
 replace hs3 : w.heap.size + 3 <= w5.heap.size := Nat.le_trans hs3 hsb
 clear hb hk hsb kc
 go_wp2_with (refine Zac rfl 47 _ _ rfl (w.heap.size + 2) 6 (.slice ppg d.gs.length qqg) #[.slice ppg d.gs.length qqg] rfl rfl rfl rfl 50 #[.slice ppn d.ns.length qqn, .slice ppi d.is.length qqi, .slice ppf d.ds.length qqf, .int .i64 d.pl, .slice pph d.hs.length qqh, .slice ppl d.ls.length qql, .slice none 0 0, .slice none 0 0, .int .i64 0, .slice none 0 0, .slice none 0 0] #[.slice ppn d.ns.length qqn, .slice ppi d.is.length qqi, .slice ppf d.ds.length qqf, .int .i64 d.pl, .slice pph d.hs.length qqh, .slice ppl d.ls.length qql, .slice ppg d.gs.length qqg, .slice none 0 0, .int .i64 0, .slice none 0 0, .slice none 0 0] hv (by simp) (by kernel_rfl) rfl ?_)
 intro u5 hn hbl hsz hoth
 have hk : Kp (w.heap.size + 3) _ u5 := Kp.of_oth (by omega) hoth (by omega)
 replace P1 := P1.kp F1 hk
 replace P2 := P2.kp F2 hk
 replace P3 := P3.kp F3 hk
 replace Xh := Xh.kp stbH hk
 replace Xl := Xl.kp stbL hk
 replace Xg := Xg.kp stbG hk
 replace hx := (hoth w.heap.size (by omega)).trans hx
 replace hy := (hoth (w.heap.size + 1) (by omega)).trans hy
 replace hB := hB.trans (hbl.mono (by omega))
 replace hv := hn
 replace hs3 : w.heap.size + 3 <= u5.heap.size := by omega
 clear hn hbl hsz hoth hk
 have kc : u5.cell? ⟨w.heap.size, 0 + 7, none⟩ = some (.slice aap d.ps.length ccp) := cell_of_row u5 _ 7 _ _ _ hx
 go_wp2_with fail
 refine (ZiC _ d.ps B _ (R.rp.below stbP hB) (by have := S.hp.1; omega) S.hp.2).mono ?_
 rintro e w6 ⟨vp, rfl, Xp, hb⟩
 have hk : Kp (w.heap.size + 3) _ w6 := Kp.of_below hb
 replace P1 := P1.kp F1 hk
 replace P2 := P2.kp F2 hk
 replace P3 := P3.kp F3 hk
 replace Xh := Xh.kp stbH hk
 replace Xl := Xl.kp stbL hk
 replace Xg := Xg.kp stbG hk
 replace hx := (bb hx hb)
 replace hy := (bb hy hb)
 replace hv := (bb hv hb)
 replace hB := hB.trans (hb.mono hB.size)
 have hsb := hb.size
 obtain ⟨ppp, qqp, rfl⟩ := Xp.small
 replace Xp := (Xp.mono stbP hs3)
 replace hs3 : w.heap.size + 3 <= w6.heap.size := Nat.le_trans hs3 hsb
 clear hb hk hsb kc
 go_wp2_with (refine Zac rfl 48 _ _ rfl (w.heap.size + 2) 7 (.slice ppp d.ps.length qqp) #[.slice ppp d.ps.length qqp] rfl rfl rfl rfl 50 #[.slice ppn d.ns.length qqn, .slice ppi d.is.length qqi, .slice ppf d.ds.length qqf, .int .i64 d.pl, .slice pph d.hs.length qqh, .slice ppl d.ls.length qql, .slice ppg d.gs.length qqg, .slice none 0 0, .int .i64 0, .slice none 0 0, .slice none 0 0] #[.slice ppn d.ns.length qqn, .slice ppi d.is.length qqi, .slice ppf d.ds.length qqf, .int .i64 d.pl, .slice pph d.hs.length qqh, .slice ppl d.ls.length qql, .slice ppg d.gs.length qqg, .slice ppp d.ps.length qqp, .int .i64 0, .slice none 0 0, .slice none 0 0] hv (by simp) (by kernel_rfl) rfl ?_)
 intro u6 hn hbl hsz hoth
 have hk : Kp (w.heap.size + 3) _ u6 := Kp.of_oth (by omega) hoth (by omega)
 replace P1 := P1.kp F1 hk
 replace P2 := P2.kp F2 hk
 replace P3 := P3.kp F3 hk
 replace Xh := Xh.kp stbH hk
 replace Xl := Xl.kp stbL hk
 replace Xg := Xg.kp stbG hk
 replace Xp := Xp.kp stbP hk
 replace hx := (hoth w.heap.size (by omega)).trans hx
 replace hy := (hoth (w.heap.size + 1) (by omega)).trans hy
 replace hB := hB.trans (hbl.mono (by omega))
 replace hv := hn
 replace hs3 : w.heap.size + 3 <= u6.heap.size := by omega
 clear hn hbl hsz hoth hk
 have kc : u6.cell? ⟨w.heap.size, 0 + 8, none⟩ = some (.int .i64 d.nx) := cell_of_row u6 _ 8 _ _ _ hx
 go_wp2_with (refine Zac rfl 3 _ _ rfl (w.heap.size + 2) 8 (.int .i64 d.nx) #[.int .i64 d.nx] rfl rfl rfl rfl 50 #[.slice ppn d.ns.length qqn, .slice ppi d.is.length qqi, .slice ppf d.ds.length qqf, .int .i64 d.pl, .slice pph d.hs.length qqh, .slice ppl d.ls.length qql, .slice ppg d.gs.length qqg, .slice ppp d.ps.length qqp, .int .i64 0, .slice none 0 0, .slice none 0 0] #[.slice ppn d.ns.length qqn, .slice ppi d.is.length qqi, .slice ppf d.ds.length qqf, .int .i64 d.pl, .slice pph d.hs.length qqh, .slice ppl d.ls.length qql, .slice ppg d.gs.length qqg, .slice ppp d.ps.length qqp, .int .i64 d.nx, .slice none 0 0, .slice none 0 0] hv (by simp) (by kernel_rfl) rfl ?_)
 intro u7 hn hbl hsz hoth
 have hk : Kp (w.heap.size + 3) _ u7 := Kp.of_oth (by omega) hoth (by omega)
 replace P1 := P1.kp F1 hk
 replace P2 := P2.kp F2 hk
 replace P3 := P3.kp F3 hk
 replace Xh := Xh.kp stbH hk
 replace Xl := Xl.kp stbL hk
 replace Xg := Xg.kp stbG hk
 replace Xp := Xp.kp stbP hk
 replace hx := (hoth w.heap.size (by omega)).trans hx
 replace hy := (hoth (w.heap.size + 1) (by omega)).trans hy
 replace hB := hB.trans (hbl.mono (by omega))
 replace hv := hn
 replace hs3 : w.heap.size + 3 <= u7.heap.size := by omega
 clear hn hbl hsz hoth hk kc
 have kc : u7.cell? ⟨w.heap.size, 0 + 9, none⟩ = some (.slice aaa d.ga.length cca) := cell_of_row u7 _ 9 _ _ _ hx
 go_wp2_with fail
 refine (Zeo _ d.ga B _ (R.ra.below stbS hB) (by have := S.ha.1; omega) S.ha.2).mono ?_
 rintro e w8 ⟨va, rfl, Xa, hb⟩
 have hk : Kp (w.heap.size + 3) _ w8 := Kp.of_below hb
 replace P1 := P1.kp F1 hk
 replace P2 := P2.kp F2 hk
 replace P3 := P3.kp F3 hk
 replace Xh := Xh.kp stbH hk
 replace Xl := Xl.kp stbL hk
 replace Xg := Xg.kp stbG hk
 replace Xp := Xp.kp stbP hk
 replace hx := (bb hx hb)
 replace hy := (bb hy hb)
 replace hv := (bb hv hb)
 replace hB := hB.trans (hb.mono hB.size)
 have hsb := hb.size
 obtain ⟨ppa, qqa, rfl⟩ := Xa.small
 replace Xa := (Xa.mono stbS hs3)
 replace hs3 : w.heap.size + 3 <= w8.heap.size := Nat.le_trans hs3 hsb
 clear hb hk hsb kc
 go_wp2_with (refine Zac rfl 33 _ _ rfl (w.heap.size + 2) 9 (.slice ppa d.ga.length qqa) #[.slice ppa d.ga.length qqa] rfl rfl rfl rfl 50 #[.slice ppn d.ns.length qqn, .slice ppi d.is.length qqi, .slice ppf d.ds.length qqf, .int .i64 d.pl, .slice pph d.hs.length qqh, .slice ppl d.ls.length qql, .slice ppg d.gs.length qqg, .slice ppp d.ps.length qqp, .int .i64 d.nx, .slice none 0 0, .slice none 0 0] #[.slice ppn d.ns.length qqn, .slice ppi d.is.length qqi, .slice ppf d.ds.length qqf, .int .i64 d.pl, .slice pph d.hs.length qqh, .slice ppl d.ls.length qql, .slice ppg d.gs.length qqg, .slice ppp d.ps.length qqp, .int .i64 d.nx, .slice ppa d.ga.length qqa, .slice none 0 0] hv (by simp) (by kernel_rfl) rfl ?_)
 intro u8 hn hbl hsz hoth
 have hk : Kp (w.heap.size + 3) _ u8 := Kp.of_oth (by omega) hoth (by omega)
 replace P1 := P1.kp F1 hk
 replace P2 := P2.kp F2 hk
 replace P3 := P3.kp F3 hk
 replace Xh := Xh.kp stbH hk
 replace Xl := Xl.kp stbL hk
 replace Xg := Xg.kp stbG hk
 replace Xp := Xp.kp stbP hk
 replace Xa := Xa.kp stbS hk
 replace hx := (hoth w.heap.size (by omega)).trans hx
 replace hy := (hoth (w.heap.size + 1) (by omega)).trans hy
 replace hB := hB.trans (hbl.mono (by omega))
 replace hv := hn
 replace hs3 : w.heap.size + 3 <= u8.heap.size := by omega
 clear hn hbl hsz hoth hk
 have kc : u8.cell? ⟨w.heap.size, 0 + 10, none⟩ = some (.slice aat d.tk.length cct) := cell_of_row u8 _ 10 _ _ _ hx
 go_wp2_with fail
 refine (Zeo _ d.tk B _ (R.rt.below stbS hB) (by have := S.ht.1; omega) S.ht.2).mono ?_
 rintro e w9 ⟨vt, rfl, Xt, hb⟩
 have hk : Kp (w.heap.size + 3) _ w9 := Kp.of_below hb
 replace P1 := P1.kp F1 hk
 replace P2 := P2.kp F2 hk
 replace P3 := P3.kp F3 hk
 replace Xh := Xh.kp stbH hk
 replace Xl := Xl.kp stbL hk
 replace Xg := Xg.kp stbG hk
 replace Xp := Xp.kp stbP hk
 replace Xa := Xa.kp stbS hk
 replace hx := (bb hx hb)
 replace hy := (bb hy hb)
 replace hv := (bb hv hb)
 replace hB := hB.trans (hb.mono hB.size)
 have hsb := hb.size
 obtain ⟨ppt, qqt, rfl⟩ := Xt.small
 replace Xt := (Xt.mono stbS hs3)
 replace hs3 : w.heap.size + 3 <= w9.heap.size := Nat.le_trans hs3 hsb
 clear hb hk hsb kc
 go_wp2_with (refine Zac rfl 33 _ _ rfl (w.heap.size + 2) 10 (.slice ppt d.tk.length qqt) #[.slice ppt d.tk.length qqt] rfl rfl rfl rfl 50 #[.slice ppn d.ns.length qqn, .slice ppi d.is.length qqi, .slice ppf d.ds.length qqf, .int .i64 d.pl, .slice pph d.hs.length qqh, .slice ppl d.ls.length qql, .slice ppg d.gs.length qqg, .slice ppp d.ps.length qqp, .int .i64 d.nx, .slice ppa d.ga.length qqa, .slice none 0 0] #[.slice ppn d.ns.length qqn, .slice ppi d.is.length qqi, .slice ppf d.ds.length qqf, .int .i64 d.pl, .slice pph d.hs.length qqh, .slice ppl d.ls.length qql, .slice ppg d.gs.length qqg, .slice ppp d.ps.length qqp, .int .i64 d.nx, .slice ppa d.ga.length qqa, .slice ppt d.tk.length qqt] hv (by simp) (by kernel_rfl) rfl ?_)
 intro u9 hn hbl hsz hoth
 have hk : Kp (w.heap.size + 3) _ u9 := Kp.of_oth (by omega) hoth (by omega)
 replace P1 := P1.kp F1 hk
 replace P2 := P2.kp F2 hk
 replace P3 := P3.kp F3 hk
 replace Xh := Xh.kp stbH hk
 replace Xl := Xl.kp stbL hk
 replace Xg := Xg.kp stbG hk
 replace Xp := Xp.kp stbP hk
 replace Xa := Xa.kp stbS hk
 replace Xt := Xt.kp stbS hk
 replace hx := (hoth w.heap.size (by omega)).trans hx
 replace hy := (hoth (w.heap.size + 1) (by omega)).trans hy
 replace hB := hB.trans (hbl.mono (by omega))
 replace hv := hn
 replace hs3 : w.heap.size + 3 <= u9.heap.size := by omega
 clear hn hbl hsz hoth hk
 go_wp2_with (first
  | (refine wpList_load_row rfl 50 _ rfl (w.heap.size + 2) rfl 50 #[.slice ppn d.ns.length qqn, .slice ppi d.is.length qqi, .slice ppf d.ds.length qqf, .int .i64 d.pl, .slice pph d.hs.length qqh, .slice ppl d.ls.length qql, .slice ppg d.gs.length qqg, .slice ppp d.ps.length qqp, .int .i64 d.nx, .slice ppa d.ga.length qqa, .slice ppt d.tk.length qqt] (0, 0) _ hv Tryz.underlying50 rfl Zle ?_)
  | (refine Zaw rfl 50 _ _ rfl (w.heap.size + 1) #[.slice ppn d.ns.length qqn, .slice ppi d.is.length qqi, .slice ppf d.ds.length qqf, .int .i64 d.pl, .slice pph d.hs.length qqh, .slice ppl d.ls.length qql, .slice ppg d.gs.length qqg, .slice ppp d.ps.length qqp, .int .i64 d.nx, .slice ppa d.ga.length qqa, .slice ppt d.tk.length qqt] rfl rfl 50 #[.slice none 0 0, .slice none 0 0, .slice none 0 0, .int .i64 0, .slice none 0 0, .slice none 0 0, .slice none 0 0, .slice none 0 0, .int .i64 0, .slice none 0 0, .slice none 0 0] hy Zle rfl (by simp [Value.oneCell']) ?_))
 intro w9 hh9 hb9 hs9 hoth9
 have hk : Kp (w.heap.size + 3) _ w9 := Kp.of_oth (by omega) hoth9 (by omega)
 replace P1 := P1.kp F1 hk
 replace P2 := P2.kp F2 hk
 replace P3 := P3.kp F3 hk
 replace Xh := Xh.kp stbH hk
 replace Xl := Xl.kp stbL hk
 replace Xg := Xg.kp stbG hk
 replace Xp := Xp.kp stbP hk
 replace Xa := Xa.kp stbS hk
 replace Xt := Xt.kp stbS hk
 have hB9 : Below w.heap.size w w9 := hB.trans (hb9.mono (by omega))
 go_wp2
 exact bodyPost_ret (results_cell_row rfl _ _ (w.heap.size + 1) 50 _ (0, 0) _ rfl hh9 Tryz.underlying50 rfl Zle) rfl ⟨_, _, _, _, _, _, _, _, _, rfl, ⟨P1, P2, P3, Xh.mono stbH (by omega), Xl.mono stbL (by omega), Xg.mono stbG (by omega), Xp.mono stbP (by omega), Xa.mono stbS (by omega), Xt.mono stbS (by omega), F1.mono (by omega), F2.mono (by omega), F3.mono (by omega)⟩, hB9⟩
set_option maxRecDepth 100000 in
set_option maxHeartbeats 6400000 in
theorem Zdd (vn vi vf vh vl vg vp va vt un ui uf uh ul ug up ua ut : Value) (d : Wd) (B C : Nat) (w : World) (R : WR B w vn vi vf vh vl vg vp va vt d) (Q : WR C w un ui uf uh ul ug up ua ut d) :
  Calls Tryz.prog 13 #[.agg #[vn, vi, vf, .int .i64 d.pl, vh, vl, vg, vp, .int .i64 d.nx, va, vt], .agg #[un, ui, uf, .int .i64 d.pl, uh, ul, ug, up, .int .i64 d.nx, ua, ut]] w fun e w' => e = .returned (.bool true) /\ Below w.heap.size w w' := by
 obtain ⟨⟨aan, ccn, rfl⟩, ⟨aai, cci, rfl⟩, ⟨aaf, ccf, rfl⟩, ⟨aah, cch, rfl⟩, ⟨aal, ccl, rfl⟩, ⟨aag, ccg, rfl⟩, ⟨aap, ccp, rfl⟩, ⟨aaa, cca, rfl⟩, ⟨aat, cct, rfl⟩⟩ := R.form
 obtain ⟨⟨bbn, een, rfl⟩, ⟨bbi, eei, rfl⟩, ⟨bbf, eef, rfl⟩, ⟨bbh, eeh, rfl⟩, ⟨bbl, eel, rfl⟩, ⟨bbg, eeg, rfl⟩, ⟨bbp, eep, rfl⟩, ⟨bba, eea, rfl⟩, ⟨bbt, eet, rfl⟩⟩ := Q.form
 obtain ⟨hB, hx, hy⟩ := ZaB w (Obj.cells #[.slice aan d.ns.length ccn, .slice aai d.is.length cci, .slice aaf d.ds.length ccf, .int .i64 d.pl, .slice aah d.hs.length cch, .slice aal d.ls.length ccl, .slice aag d.gs.length ccg, .slice aap d.ps.length ccp, .int .i64 d.nx, .slice aaa d.ga.length cca, .slice aat d.tk.length cct] 50) (Obj.cells #[.slice bbn d.ns.length een, .slice bbi d.is.length eei, .slice bbf d.ds.length eef, .int .i64 d.pl, .slice bbh d.hs.length eeh, .slice bbl d.ls.length eel, .slice bbg d.gs.length eeg, .slice bbp d.ps.length eep, .int .i64 d.nx, .slice bba d.ga.length eea, .slice bbt d.tk.length eet] 50)
 go_enter Tryz.func13, Tryz.ntmps13
 go_wp2_with (first
  | (refine Zag rfl 44 _ rfl w.heap.size 0 rfl _ 50 #[.slice aan d.ns.length ccn, .slice aai d.is.length cci, .slice aaf d.ds.length ccf] _ hx rfl Tryz.underlying44 rfl Zk2 ?_)
  | (refine Zag rfl 44 _ rfl (w.heap.size + 1) 0 rfl _ 50 #[.slice bbn d.ns.length een, .slice bbi d.is.length eei, .slice bbf d.ds.length eef] _ hy rfl Tryz.underlying44 rfl Zk2 ?_))
 refine (Zhd _ _ _ _ _ _ d.ns d.is d.ds _ (R.rn.below hB) (R.ri.below hB) (R.rf.below hB) (Q.rn.below hB) (Q.ri.below hB) (Q.rf.below hB)).mono ?_
 rintro e w0 ⟨rfl, hb⟩
 replace hx := (bb hx hb)
 replace hy := (bb hy hb)
 replace hB := hB.trans (hb.mono hB.size)
 clear hb
 have i1 : w0.cell? ⟨w.heap.size, 0 + 3, none⟩ = some (.int .i64 d.pl) := cell_of_row w0 _ 3 _ _ _ hx
 have i2 : w0.cell? ⟨w.heap.size + 1, 0 + 3, none⟩ = some (.int .i64 d.pl) := cell_of_row w0 _ 3 _ _ _ hy
 have k1 : w0.cell? ⟨w.heap.size, 0 + 4, none⟩ = some (.slice aah d.hs.length cch) := cell_of_row w0 _ 4 _ _ _ hx
 have k2 : w0.cell? ⟨w.heap.size + 1, 0 + 4, none⟩ = some (.slice bbh d.hs.length eeh) := cell_of_row w0 _ 4 _ _ _ hy
 go_wp2_with fail
 refine (Zib _ _ d.hs B C _ (R.rh.below stbH hB) (Q.rh.below stbH hB)).mono ?_
 rintro e w1 ⟨rfl, hb⟩
 replace hx := (bb hx hb)
 replace hy := (bb hy hb)
 replace hB := hB.trans (hb.mono hB.size)
 clear hb k1 k2 i1 i2
 have k1 : w1.cell? ⟨w.heap.size, 0 + 5, none⟩ = some (.slice aal d.ls.length ccl) := cell_of_row w1 _ 5 _ _ _ hx
 have k2 : w1.cell? ⟨w.heap.size + 1, 0 + 5, none⟩ = some (.slice bbl d.ls.length eel) := cell_of_row w1 _ 5 _ _ _ hy
 go_wp2_with fail
 refine (Zhv _ _ d.ls B C _ (R.rl.below stbL hB) (Q.rl.below stbL hB)).mono ?_
 rintro e w2 ⟨rfl, hb⟩
 replace hx := (bb hx hb)
 replace hy := (bb hy hb)
 replace hB := hB.trans (hb.mono hB.size)
 clear hb k1 k2
 have k1 : w2.cell? ⟨w.heap.size, 0 + 6, none⟩ = some (.slice aag d.gs.length ccg) := cell_of_row w2 _ 6 _ _ _ hx
 have k2 : w2.cell? ⟨w.heap.size + 1, 0 + 6, none⟩ = some (.slice bbg d.gs.length eeg) := cell_of_row w2 _ 6 _ _ _ hy
 go_wp2_with fail
 refine (Zit _ _ d.gs B C _ (R.rg.below stbG hB) (Q.rg.below stbG hB)).mono ?_
 rintro e w3 ⟨rfl, hb⟩
 replace hx := (bb hx hb)
 replace hy := (bb hy hb)
 replace hB := hB.trans (hb.mono hB.size)
 clear hb k1 k2
 have k1 : w3.cell? ⟨w.heap.size, 0 + 7, none⟩ = some (.slice aap d.ps.length ccp) := cell_of_row w3 _ 7 _ _ _ hx
 have k2 : w3.cell? ⟨w.heap.size + 1, 0 + 7, none⟩ = some (.slice bbp d.ps.length eep) := cell_of_row w3 _ 7 _ _ _ hy
 go_wp2_with fail
 refine (ZhU _ _ d.ps B C _ (R.rp.below stbP hB) (Q.rp.below stbP hB)).mono ?_
 rintro e w4 ⟨rfl, hb⟩
 replace hx := (bb hx hb)
 replace hy := (bb hy hb)
 replace hB := hB.trans (hb.mono hB.size)
 clear hb k1 k2
 have i1 : w4.cell? ⟨w.heap.size, 0 + 8, none⟩ = some (.int .i64 d.nx) := cell_of_row w4 _ 8 _ _ _ hx
 have i2 : w4.cell? ⟨w.heap.size + 1, 0 + 8, none⟩ = some (.int .i64 d.nx) := cell_of_row w4 _ 8 _ _ _ hy
 have k1 : w4.cell? ⟨w.heap.size, 0 + 9, none⟩ = some (.slice aaa d.ga.length cca) := cell_of_row w4 _ 9 _ _ _ hx
 have k2 : w4.cell? ⟨w.heap.size + 1, 0 + 9, none⟩ = some (.slice bba d.ga.length eea) := cell_of_row w4 _ 9 _ _ _ hy
 go_wp2_with fail
 refine (ZeO _ _ d.ga B C _ (R.ra.below stbS hB) (Q.ra.below stbS hB)).mono ?_
 rintro e w5 ⟨rfl, hb⟩
 replace hx := (bb hx hb)
 replace hy := (bb hy hb)
 replace hB := hB.trans (hb.mono hB.size)
 clear hb k1 k2 i1 i2
 have k1 : w5.cell? ⟨w.heap.size, 0 + 10, none⟩ = some (.slice aat d.tk.length cct) := cell_of_row w5 _ 10 _ _ _ hx
 have k2 : w5.cell? ⟨w.heap.size + 1, 0 + 10, none⟩ = some (.slice bbt d.tk.length eet) := cell_of_row w5 _ 10 _ _ _ hy
 go_wp2_with fail
 refine (ZeO _ _ d.tk B C _ (R.rt.below stbS hB) (Q.rt.below stbS hB)).mono ?_
 rintro e w6 ⟨rfl, hb⟩
 replace hx := (bb hx hb)
 replace hy := (bb hy hb)
 replace hB := hB.trans (hb.mono hB.size)
 clear hb k1 k2
 clear hx hy
 go_wp2
 go_ret
 exact ⟨rfl, hB⟩
def ZjX : List Hm -> Int -> Nat -> Int
 | [], _, _ => -1
 | h :: hs, p, i => if h.i == p then i else ZjX hs p (i + 1)
theorem WR.mono {B C : Nat} {w : World} {vn vi vf vh vl vg vp va vt : Value} {d : Wd} (R : WR B w vn vi vf vh vl vg vp va vt d) (h : C <= B) : WR C w vn vi vf vh vl vg vp va vt d :=
 ⟨R.rn, R.ri, R.rf, R.rh.mono stbH h, R.rl.mono stbL h, R.rg.mono stbG h, R.rp.mono stbP h, R.ra.mono stbS h, R.rt.mono stbS h, R.fn.mono h, R.fi.mono h, R.ff.mono h⟩
def movN (ns : List Nd) (is : List In) (ds : List Df) (s : ByteArray) : Int :=
 match mrd (sb s) with
 | none => 0
 | some (k, _, t) => if k = 2 then (pdT (pdR ns is ds (sb t))).1 else 0
def movB (ns : List Nd) (is : List In) (ds : List Df) (p : Int) (s : ByteArray) : Bool := decide (0 < p) && (movN ns is ds s == p)
def Zkv (f : ByteArray -> Bool) : List ByteArray -> Nat -> Int
 | [], _ => -1
 | s :: ss, i => if f s then i else Zkv f ss (i + 1)
def onW (d : Wd) (p : Int) (i : Nat) : Bool := ((d.ga.getD i []).drop ((d.ls[i]?.map Lk.got).getD 0).toNat).any (movB d.ns d.is d.ds p)
def whGo (f : Nat -> Bool) (pl : Int) : Nat -> Nat -> Int
 | 0, _ => -1
 | n + 1, i => if f i then (i : Int) % pl else whGo f pl n (i + 1)
def whL (d : Wd) (p : Int) : Int := if 0 < d.pl then whGo (onW d p) d.pl (min d.ls.length d.ga.length) 0 else -1
def whR (d : Wd) (p : Int) : Int := if 0 <= ZjX d.hs p 0 then (d.hs[(ZjX d.hs p 0).toNat]?.map Hm.pl).getD 0 else whL d p
end Go.Proofs.YtfmafkebddojjaaGreatDoor
