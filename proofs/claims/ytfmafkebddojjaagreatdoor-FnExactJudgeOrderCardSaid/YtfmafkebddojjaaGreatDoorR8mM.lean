/-
  Texts that stood by themselves, laid into one.
-/
import Derived.Test.YtfmafkebddojjaaGreatDoorSInstrM
import Derived.Test.YtfmafkebddojjaaGreatDoorSR8M
import Derived.Test.YtfmafkebddojjaaGreatDoorS8ValM
import Derived.Test.YtfmafkebddojjaaGreatDoorMcTM
import Derived.Test.YtfmafkebddojjaaGreatDoorIReachM
import Derived.Test.YtfmafkebddojjaaGreatDoorSAddM
import Derived.Test.YtfmafkebddojjaaGreatDoorSubM
import Derived.Deep.CutRange
import Derived.Deep.DeepCutAuto
import Derived.Test.YtfmafkebddojjaaGreatDoorSGTextM
import Derived.Test.YtfmafkebddojjaaGreatDoorSWireM
/-
  A process that is right: ProcOk on both sides. The variable errors.errorType reads as it is laid.
-/
namespace Go.Proofs.YtfmafkebddojjaaGreatDoor
open Go.RowKit
def pidB (i : Int) : Bool := decide (1 <= i /\ i <= 1000000000)
def boxB (bx : List ByteArray) : Bool := decide (bx.length <= 20) && bx.all fun s => vrB (sb s)
def outB (ox : List ByteArray) : Bool := decide (ox.length <= 40) && ox.all fun s => decide (s.size <= 400)
def Zdq (ns : List Nd) (is : List In) (ds : List Df) (i : Int) (xs : List Nd) (m : Mc) (bx ox : List ByteArray) : Bool := pidB i && (boxB bx && (outB ox && ZbH ns is ds xs m))
theorem ZcN {xs : List ByteArray} {f : ByteArray -> Bool} {k : Nat} {x : ByteArray} (h : ∀ j y, xs[j]? = some y -> j < k -> f y = true) (hx : xs[k]? = some x) (hf : f x = true) : ∀ j y, xs[j]? = some y -> j < k + 1 -> f y = true := fun j y hy hj => by
 by_cases e : j = k
 ·subst e
  rw [hx] at hy
  cases hy
  exact hf
 ·exact h j y hy (by omega)
theorem Zd3 {xs : List ByteArray} {f : ByteArray -> Bool} (h : ∀ j y, xs[j]? = some y -> j < xs.length -> f y = true) : xs.all f = true := List.all_eq_true.2 fun x hx => by
 obtain ⟨j, hj, e⟩ := List.getElem_of_mem hx
 exact h j x (by rw [<- e]; simp [hj]) hj
theorem ZcG {xs : List ByteArray} {f : ByteArray -> Bool} {k : Nat} {x : ByteArray} (hx : xs[k]? = some x) (hf : f x = false) : xs.all f = false := by
 rw [List.all_eq_false]
 exact ⟨x, List.mem_of_getElem? hx, by simp [hf]⟩
set_option maxHeartbeats 400000 in
theorem Zeu (i : Int) (w : World) : Calls Tryz.prog 111 #[.int .i64 i] w fun e w' => e = .returned (.bool (pidB i)) /\ w' = w := by
 by_cases h1 : 1 <= i
 ·by_cases h2 : i <= 1000000000
  ·go_enter Tryz.func111, Tryz.ntmps111
   go_wp2
   go_ret
   exact ⟨retB (by simp [pidB, h1, h2]), rfl⟩
  ·go_enter Tryz.func111, Tryz.ntmps111
   go_wp2
   go_ret
   exact ⟨retB (by simp [pidB, h2]), rfl⟩
 ·go_enter Tryz.func111, Tryz.ntmps111
  go_wp2
  go_ret
  exact ⟨retB (by unfold pidB; rw [decide_eq_false_iff_not.2 (by omega)]), rfl⟩
set_option maxRecDepth 100000 in
set_option maxHeartbeats 1600000 in
theorem ZfP (v : Value) (bx : List ByteArray) (w : World) (R : StRow w v bx) (hz : ∀ x ∈ bx, x.size <= 140737488351232) (hg : ErrT w) :
  Calls Tryz.prog 196 #[v] w fun e w' => e = .returned (.bool (boxB bx)) /\ Below w.heap.size w w' := by
 obtain ⟨ao, cap, rfl, hcap, hm, hzm, hcell⟩ := R
 by_cases hl : bx.length <= 20
 rotate_left
 ·have hl' : 20 < (bx.length : Int) := by omega
  have HF : Hid (boxB bx = false) := by show boxB bx = false; simp [boxB, hl]
  go_enter Tryz.func196, Tryz.ntmps196
  go_wp2
  go_ret
  exact ⟨retB HF.out.symm, Below.refl _ _⟩
 have HV : Hid (boxB bx = bx.all fun s => vrB (sb s)) := by show boxB bx = bx.all fun s => vrB (sb s); simp [boxB, hl]
 go_enter Tryz.func196, Tryz.ntmps196
 go_wp2
 go_loopw [13] (fun i wr => ∃ k : Nat, k <= bx.length /\ i = .int .i64 k /\ Hid (∀ j x, bx[j]? = some x -> j < k -> vrB (sb x) = true) /\ Below w.heap.size w wr) (fun i _ => bx.length - (intOf i).toNat)
 case atStart => exact ⟨0, by omega, rfl, fun j x _ h => by omega, Below.refl _ _⟩
 case round =>
  obtain ⟨k, hk, rfl, HA, hb⟩ := hrel
  by_cases hlt : k < bx.length
  ·obtain ⟨g, o, rfl, hgg, hcell⟩ := hcell (by intro e; subst e; simp at hlt)
   obtain ⟨x, hx⟩ : ∃ x, bx[k]? = some x := ⟨bx[k], by simp [hlt]⟩
   have c0 := (hb.cell (p := ⟨g, o + k, none⟩) hgg).trans (hcell k x hx)
   have HR := Zg5 x wr (hz x (List.mem_of_getElem? hx)) (hg.below hb (Nat.le_refl _))
   unfold VrAns at HR
   have HX : Hid (bx[k]? = some x) := hx
   have HF := fun h => ZcG (f := fun s => vrB (sb s)) hx h
   have HA2 := fun h => ZcN (f := fun s => vrB (sb s)) HA.out hx h
   clear hcell hx
   generalize vrB (sb x) = bv at HR HF HA2
   go_wp2_with fail
   refine HR.mono ?_
   rintro e w2 ⟨⟨v2, rfl, ho2⟩, hb2⟩
   obtain ⟨ao2, cap2, rfl⟩ := Zaf ho2
   have hB2 := hb.trans (hb2.mono hb.size)
   clear HR ho2 hb2 c0
   have hB3 : Below w.heap.size w (w2.alloc (Obj.cells #[.slice ao2 (vrL (sb x)).length cap2] 40)) := hB2.alloc hB2.size _
   cases bv with
   | true =>
    have HA3 := HA2 rfl
    have HA4 : Hid (∀ j x, bx[j]? = some x -> j < k + 1 -> vrB (sb x) = true) := HA3
    clear HA HA2 HA3 HF
    go_wp2
    go_roundw
    case rel => exact ⟨k + 1, by omega, by go_num, HA4, hB3⟩
    case measure => simp [intOf]; omega
   | false =>
    have HF2 : Hid ((bx.all fun s => vrB (sb s)) = false) := HF rfl
    clear HA HA2 HF
    go_wp2
    go_ret
    exact ⟨retB (HV.out.trans HF2.out).symm, hB3⟩
  ·go_wp2
   go_ret
   have e : k = bx.length := by omega
   subst e
   exact ⟨retB (HV.out.trans (Zd3 HA.out)).symm, hb⟩
set_option maxRecDepth 100000 in
set_option maxHeartbeats 1600000 in
theorem Zft (v : Value) (ox : List ByteArray) (w : World) (R : StRow w v ox) :
  Calls Tryz.prog 197 #[v] w fun e w' => e = .returned (.bool (outB ox)) /\ Below w.heap.size w w' := by
 obtain ⟨ao, cap, rfl, hcap, hm, hzm, hcell⟩ := R
 by_cases hl : ox.length <= 40
 rotate_left
 ·have hl' : 40 < (ox.length : Int) := by omega
  have HF : Hid (outB ox = false) := by show outB ox = false; simp [outB, hl]
  go_enter Tryz.func197, Tryz.ntmps197
  go_wp2
  go_ret
  exact ⟨retB HF.out.symm, Below.refl _ _⟩
 have HV : Hid (outB ox = ox.all fun s => decide (s.size <= 400)) := by show outB ox = ox.all fun s => decide (s.size <= 400); simp [outB, hl]
 go_enter Tryz.func197, Tryz.ntmps197
 go_wp2
 go_loopw [10] (fun i wr => ∃ k : Nat, k <= ox.length /\ i = .int .i64 k /\ Hid (∀ j x, ox[j]? = some x -> j < k -> decide (x.size <= 400) = true) /\ Below w.heap.size w wr) (fun i _ => ox.length - (intOf i).toNat)
 case atStart => exact ⟨0, by omega, rfl, fun j x _ h => by omega, Below.refl _ _⟩
 case round =>
  obtain ⟨k, hk, rfl, HA, hb⟩ := hrel
  by_cases hlt : k < ox.length
  ·obtain ⟨g, o, rfl, hgg, hcell⟩ := hcell (by intro e; subst e; simp at hlt)
   obtain ⟨x, hx⟩ : ∃ x, ox[k]? = some x := ⟨ox[k], by simp [hlt]⟩
   have c0 := (hb.cell (p := ⟨g, o + k, none⟩) hgg).trans (hcell k x hx)
   have hxs := hzm x (List.mem_of_getElem? hx)
   unfold maxLen at hxs
   have HX : Hid (ox[k]? = some x) := hx
   clear hcell hx
   by_cases h4 : x.size <= 400
   ·have h4' : ¬ 400 < (x.size : Int) := by omega
    go_wp2
    go_roundw
    case rel => exact ⟨k + 1, by omega, by go_num, ZcN (f := fun s => decide (s.size <= 400)) HA.out HX.out (by simp [h4]), hb⟩
    case measure => simp [intOf]; omega
   ·have h4' : 400 < (x.size : Int) := by omega
    go_wp2
    go_ret
    exact ⟨retB (HV.out.trans (ZcG (f := fun s => decide (s.size <= 400)) HX.out (by simp [h4]))).symm, hb⟩
  ·go_wp2
   go_ret
   have e : k = ox.length := by omega
   subst e
   exact ⟨retB (HV.out.trans (Zd3 HA.out)).symm, hb⟩
set_option maxRecDepth 100000 in
set_option maxHeartbeats 3200000 in
theorem Zfj (v1 v2 v3 v vb vo : Value) (ns : List Nd) (is : List In) (ds : List Df) (i : Int) (xs : List Nd) (m : Mc) (bx ox : List ByteArray) (w : World) (R1 : NRow w v1 ns) (R2 : InRow w v2 is) (R3 : DfRow w v3 ds) (R : NRow w v xs) (Rb : StRow w vb bx) (Ro : StRow w vo ox) (hz : ∀ x ∈ bx, x.size <= 140737488351232) (hg : ErrT w) :
  Calls Tryz.prog 156 #[.agg #[v1, v2, v3], .agg #[.int .i64 i, v, .int .i64 m.p, .int .i64 m.s, .int .i64 m.e, .int .i64 m.d, .int .i64 m.t, .int .i64 m.q, .int .i64 m.r, vb, vo]] w fun e w' => e = .returned (.bool (Zdq ns is ds i xs m bx ox)) /\ Below w.heap.size w w' := by
 obtain ⟨ao, cap, rfl⟩ : ∃ ao cap, v = .slice ao xs.length cap := by obtain ⟨ao, cap, rfl, _⟩ := R; exact ⟨ao, cap, rfl⟩
 obtain ⟨a1, c1, rfl⟩ := R1.small
 obtain ⟨a2, c2, rfl⟩ := R2.small
 obtain ⟨a3, c3, rfl⟩ := R3.small
 obtain ⟨ab, cb, rfl⟩ := Rb.small
 obtain ⟨ac, cc, rfl⟩ := Ro.small
 obtain ⟨hB0, hk0, hx0⟩ := ZaB w (Obj.cells #[.slice a1 ns.length c1, .slice a2 is.length c2, .slice a3 ds.length c3] 44) (Obj.cells #[.int .i64 i, .slice ao xs.length cap, .int .i64 m.p, .int .i64 m.s, .int .i64 m.e, .int .i64 m.d, .int .i64 m.t, .int .i64 m.q, .int .i64 m.r, .slice ab bx.length cb, .slice ac ox.length cc] 83)
 have HM : Hid (Zdq ns is ds i xs m bx ox = (pidB i && (boxB bx && (outB ox && ZbH ns is ds xs m)))) := rfl
 go_enter Tryz.func156, Tryz.ntmps156
 go_wp2_with fail
 refine (Zeu _ _).mono ?_
 rintro e w1 ⟨rfl, rfl⟩
 generalize pidB i = b1 at HM ⊢
 cases b1 with
 | false =>
  go_wp2
  go_ret
  exact ⟨retB (by rw [HM.out]; rfl), hB0⟩
 | true =>
  go_wp2_with fail
  refine (ZfP _ bx _ (Rb.below hB0) hz (hg.below hB0 (Nat.le_refl _))).mono ?_
  rintro e w2 ⟨rfl, hb2⟩
  have hB2 := hB0.trans (hb2.mono hB0.size)
  have hk2 := (bb hk0 hb2)
  have hx2 := (bb hx0 hb2)
  clear hB0 hk0 hx0 hb2
  generalize boxB bx = b2 at HM ⊢
  cases b2 with
  | false =>
   go_wp2
   go_ret
   exact ⟨retB (by rw [HM.out]; rfl), hB2⟩
  | true =>
   have k0 : w2.cell? ⟨w.heap.size + 1, 0 + 10, none⟩ = some (.slice ac ox.length cc) := cell_of_row w2 _ 10 _ _ _ hx2
   go_wp2_with fail
   refine (Zft _ ox _ (Ro.below hB2)).mono ?_
   rintro e w3 ⟨rfl, hb3⟩
   have hB3 := hB2.trans (hb3.mono hB2.size)
   have hk3 := (bb hk2 hb3)
   have hx3 := (bb hx2 hb3)
   clear hB2 hk2 hx2 hb3 k0
   generalize outB ox = b3 at HM ⊢
   cases b3 with
   | false =>
    go_wp2
    go_ret
    exact ⟨retB (by rw [HM.out]; rfl), hB3⟩
   | true =>
    have l0 : w3.cell? ⟨w.heap.size, 0, none⟩ = some (.slice a1 ns.length c1) := cell_of_row w3 _ 0 _ _ _ hk3
    have l1 : w3.cell? ⟨w.heap.size, 0 + 1, none⟩ = some (.slice a2 is.length c2) := cell_of_row w3 _ 1 _ _ _ hk3
    have l2 : w3.cell? ⟨w.heap.size, 0 + 2, none⟩ = some (.slice a3 ds.length c3) := cell_of_row w3 _ 2 _ _ _ hk3
    have k1 : w3.cell? ⟨w.heap.size + 1, 0 + 1, none⟩ = some (.slice ao xs.length cap) := cell_of_row w3 _ 1 _ _ _ hx3
    have k2 : w3.cell? ⟨w.heap.size + 1, 0 + 1 + 1, none⟩ = some (.int .i64 m.p) := cell_of_row w3 _ 2 _ _ _ hx3
    have k3 : w3.cell? ⟨w.heap.size + 1, 0 + 1 + 2, none⟩ = some (.int .i64 m.s) := cell_of_row w3 _ 3 _ _ _ hx3
    have k4 : w3.cell? ⟨w.heap.size + 1, 0 + 1 + 3, none⟩ = some (.int .i64 m.e) := cell_of_row w3 _ 4 _ _ _ hx3
    have k5 : w3.cell? ⟨w.heap.size + 1, 0 + 1 + 4, none⟩ = some (.int .i64 m.d) := cell_of_row w3 _ 5 _ _ _ hx3
    have k6 : w3.cell? ⟨w.heap.size + 1, 0 + 1 + 5, none⟩ = some (.int .i64 m.t) := cell_of_row w3 _ 6 _ _ _ hx3
    have k7 : w3.cell? ⟨w.heap.size + 1, 0 + 1 + 6, none⟩ = some (.int .i64 m.q) := cell_of_row w3 _ 7 _ _ _ hx3
    have k8 : w3.cell? ⟨w.heap.size + 1, 0 + 1 + 7, none⟩ = some (.int .i64 m.r) := cell_of_row w3 _ 8 _ _ _ hx3
    go_wp2_with fail
    refine (Zfv _ _ _ _ ns is ds xs m _ (R1.below hB3) (R2.below hB3) (R3.below hB3) (R.below hB3)).mono ?_
    rintro e w4 ⟨rfl, hb4⟩
    have hB4 := hB3.trans (hb4.mono hB3.size)
    clear hB3 hk3 hx3 hb4 l0 l1 l2
    generalize ZbH ns is ds xs m = b4 at HM ⊢
    cases b4 with
    | false =>
     go_wp2
     go_ret
     exact ⟨retB (by rw [HM.out]; rfl), hB4⟩
    | true =>
     go_wp2
     go_ret
     exact ⟨retB (by rw [HM.out]; rfl), hB4⟩
theorem Zka (x : Int) (w : World) : Calls Tryz.prog 74 #[.int .i64 x, .int .i64 1, .int .i64 1000000000] w fun e w' => e = .returned (.bool (pidB x)) /\ w' = w := by
 refine (Zao x 1 1000000000 w).mono ?_
 rintro e w' ⟨rfl, rfl⟩
 exact ⟨retB (by simp [pidB]), rfl⟩
set_option maxRecDepth 100000 in
set_option maxHeartbeats 6400000 in
theorem ZfD (v1 v2 v3 v vb vo : Value) (ns : List Nd) (is : List In) (ds : List Df) (i : Int) (xs : List Nd) (m : Mc) (bx ox : List ByteArray) (w : World) (R1 : NRow w v1 ns) (R2 : InRow w v2 is) (R3 : DfRow w v3 ds) (R : NRow w v xs) (Rb : StRow w vb bx) (Ro : StRow w vo ox) (hz : ∀ x ∈ bx, x.size <= 140737488351232) :
  Calls Tryz.prog 129 #[.agg #[v1, v2, v3], .agg #[.int .i64 i, v, .int .i64 m.p, .int .i64 m.s, .int .i64 m.e, .int .i64 m.d, .int .i64 m.t, .int .i64 m.q, .int .i64 m.r, vb, vo]] w fun e w' => e = .returned (.bool (Zdq ns is ds i xs m bx ox)) /\ Below w.heap.size w w' := by
 obtain ⟨ao, cap, rfl⟩ : ∃ ao cap, v = .slice ao xs.length cap := by obtain ⟨ao, cap, rfl, _⟩ := R; exact ⟨ao, cap, rfl⟩
 obtain ⟨a1, c1, rfl⟩ := R1.small
 obtain ⟨a2, c2, rfl⟩ := R2.small
 obtain ⟨a3, c3, rfl⟩ := R3.small
 obtain ⟨ab, cb, rfl, hcapb, hmb, hzb, hcellb⟩ := Rb
 obtain ⟨ac, cc, rfl, hcapc, hmc, hzc, hcellc⟩ := Ro
 obtain ⟨hB0, hk0, hx0⟩ := ZaB w (Obj.cells #[.slice a1 ns.length c1, .slice a2 is.length c2, .slice a3 ds.length c3] 44) (Obj.cells #[.int .i64 i, .slice ao xs.length cap, .int .i64 m.p, .int .i64 m.s, .int .i64 m.e, .int .i64 m.d, .int .i64 m.t, .int .i64 m.q, .int .i64 m.r, .slice ab bx.length cb, .slice ac ox.length cc] 83)
 have HM : Hid (Zdq ns is ds i xs m bx ox = (pidB i && (boxB bx && (outB ox && ZbH ns is ds xs m)))) := rfl
 have HV : Hid (boxB bx = (decide (bx.length <= 20) && bx.all fun s => vrB (sb s))) := rfl
 have HW : Hid (outB ox = (decide (ox.length <= 40) && ox.all fun s => decide (s.size <= 400))) := rfl
 go_enter Tryz.func129, Tryz.ntmps129
 go_wp2_with fail
 refine (Zka _ _).mono ?_
 rintro e w1 ⟨rfl, rfl⟩
 generalize pidB i = b1 at HM ⊢
 cases b1 with
 | false =>
  go_wp2
  go_ret
  exact ⟨retB (by rw [HM.out]; rfl), hB0⟩
 | true =>
  go_wp2_with fail
  refine (ZfB _ _ _ _ ns is ds xs m _ (R1.below hB0) (R2.below hB0) (R3.below hB0) (R.below hB0)).mono ?_
  rintro e w2 ⟨rfl, hb2⟩
  have hB2 := hB0.trans (hb2.mono hB0.size)
  have hx2 := (bb hx0 hb2)
  clear hB0 hk0 hx0 hb2 R R1 R2 R3
  generalize ZbH ns is ds xs m = b2 at HM ⊢
  cases b2 with
  | false =>
   go_wp2
   go_ret
   exact ⟨retB (by rw [HM.out]; simp), hB2⟩
  | true =>
   have k9 : w2.cell? ⟨w.heap.size + 1, 0 + 9, none⟩ = some (.slice ab bx.length cb) := cell_of_row w2 _ 9 _ _ _ hx2
   by_cases l20 : bx.length <= 20
   rotate_left
   ·have l20' : 20 < (bx.length : Int) := by omega
    have HF : Hid (boxB bx = false) := by show boxB bx = false; simp [boxB, l20]
    go_wp2
    go_ret
    exact ⟨retB (by rw [HM.out, HF.out]; rfl), hB2⟩
   have k10 : w2.cell? ⟨w.heap.size + 1, 0 + 10, none⟩ = some (.slice ac ox.length cc) := cell_of_row w2 _ 10 _ _ _ hx2
   by_cases l40 : ox.length <= 40
   rotate_left
   ·have l40' : 40 < (ox.length : Int) := by omega
    have HF : Hid (outB ox = false) := by show outB ox = false; simp [outB, l40]
    go_wp2
    go_ret
    exact ⟨retB (by rw [HM.out, HF.out]; simp), hB2⟩
   replace HV : Hid (boxB bx = bx.all fun s => vrB (sb s)) := by show boxB bx = bx.all fun s => vrB (sb s); simp [boxB, l20]
   replace HW : Hid (outB ox = ox.all fun s => decide (s.size <= 400)) := by show outB ox = ox.all fun s => decide (s.size <= 400); simp [outB, l40]
   go_wp2
   clear k9 k10 l20 l40
   go_loopw [5] (fun i wr => ∃ k : Nat, k <= bx.length /\ i = .int .i64 k /\ Hid (∀ j x, bx[j]? = some x -> j < k -> vrB (sb x) = true) /\ Below w2.heap.size w2 wr) (fun i _ => bx.length - (intOf i).toNat)
   case atStart => exact ⟨0, by omega, rfl, fun j x _ h => by omega, Below.refl _ _⟩
   case round =>
    obtain ⟨k, hk, rfl, HA, hb⟩ := hrel
    have hxr := (bb hx2 hb)
    have k9 : wr.cell? ⟨w.heap.size + 1, 0 + 9, none⟩ = some (.slice ab bx.length cb) := cell_of_row wr _ 9 _ _ _ hxr
    have hBr := hB2.trans (hb.mono hB2.size)
    clear hB2 hx2
    by_cases hlt : k < bx.length
    ·obtain ⟨g, o, rfl, hgg, hcellb⟩ := hcellb (by intro e; subst e; simp at hlt)
     obtain ⟨x, hx⟩ : ∃ x, bx[k]? = some x := ⟨bx[k], by simp [hlt]⟩
     have c0 := (hBr.cell (p := ⟨g, o + k, none⟩) hgg).trans (hcellb k x hx)
     have HR := Zha x wr (hz x (List.mem_of_getElem? hx))
     unfold VrAns at HR
     have HF := fun h => ZcG (f := fun s => vrB (sb s)) hx h
     have HA2 := fun h => ZcN (f := fun s => vrB (sb s)) HA.out hx h
     clear hcellb hx hcellc hxr
     generalize vrB (sb x) = bv at HR HF HA2
     go_wp2_with fail
     refine HR.mono ?_
     rintro e w3 ⟨⟨v3, rfl, ho3⟩, hb3⟩
     obtain ⟨ao3, cap3, rfl⟩ := Zaf ho3
     have hb4 := hb.trans ((hb3.trans (((Below.refl w3.heap.size w3).alloc (Nat.le_refl _) (Obj.cells #[.slice ao3 (vrL (sb x)).length cap3] 40)).mono hb3.size)).mono hb.size)
     have hB4 := hBr.trans ((hb3.trans (((Below.refl w3.heap.size w3).alloc (Nat.le_refl _) (Obj.cells #[.slice ao3 (vrL (sb x)).length cap3] 40)).mono hb3.size)).mono hBr.size)
     clear HR ho3 hb3 c0 k9 hb hBr
     cases bv with
     | true =>
      have HA4 : Hid (∀ j x, bx[j]? = some x -> j < k + 1 -> vrB (sb x) = true) := HA2 rfl
      clear HA HA2 HF hB4
      go_wp2
      go_roundw
      case rel => exact ⟨k + 1, by omega, by go_num, HA4, hb4⟩
      case measure => simp [intOf]; omega
     | false =>
      have HF2 : Hid ((bx.all fun s => vrB (sb s)) = false) := HF rfl
      clear HA HA2 HF hb4
      go_wp2
      go_ret
      exact ⟨retB (by rw [HM.out, HV.out, HF2.out]; rfl), hB4⟩
    ·have e : k = bx.length := by omega
     subst e
     have HA5 : Hid (boxB bx = true) := HV.out.trans (Zd3 HA.out)
     clear HA HV hcellb hb hlt hk
     go_wp2
     clear k9
     obtain ⟨wz, hwz⟩ : ∃ z, z = wr := ⟨_, rfl⟩
     subst hwz
     go_loopw [9] (fun i wq => ∃ k : Nat, k <= ox.length /\ i = .int .i64 k /\ Hid (∀ j x, ox[j]? = some x -> j < k -> decide (x.size <= 400) = true) /\ Below wz.heap.size wz wq) (fun i _ => ox.length - (intOf i).toNat)
     case atStart => exact ⟨0, by omega, rfl, fun j x _ h => by omega, Below.refl _ _⟩
     case round =>
      obtain ⟨k, hk, rfl, HA, hb⟩ := hrel
      have hxq := (bb hxr hb)
      have k10 : wr.cell? ⟨w.heap.size + 1, 0 + 10, none⟩ = some (.slice ac ox.length cc) := cell_of_row wr _ 10 _ _ _ hxq
      have hBq := hBr.trans (hb.mono hBr.size)
      clear hBr hxr
      by_cases hlt : k < ox.length
      ·obtain ⟨g, o, rfl, hgg, hcellc⟩ := hcellc (by intro e; subst e; simp at hlt)
       obtain ⟨x, hx⟩ : ∃ x, ox[k]? = some x := ⟨ox[k], by simp [hlt]⟩
       have c0 := (hBq.cell (p := ⟨g, o + k, none⟩) hgg).trans (hcellc k x hx)
       have hxs := hzc x (List.mem_of_getElem? hx)
       unfold maxLen at hxs
       have HX : Hid (ox[k]? = some x) := hx
       clear hcellc hx
       by_cases h4 : x.size <= 400
       ·have h4' : ¬ 400 < (x.size : Int) := by omega
        go_wp2
        go_roundw
        case rel => exact ⟨k + 1, by omega, by go_num, ZcN (f := fun s => decide (s.size <= 400)) HA.out HX.out (by simp [h4]), hb⟩
        case measure => simp [intOf]; omega
       ·have h4' : 400 < (x.size : Int) := by omega
        go_wp2
        go_ret
        exact ⟨retB (by rw [HM.out, HW.out, ZcG (f := fun s => decide (s.size <= 400)) HX.out (by simp [h4])]; simp), hBq⟩
      ·go_wp2
       go_ret
       have e : k = ox.length := by omega
       subst e
       exact ⟨retB (by rw [HM.out, HA5.out, HW.out, Zd3 HA.out]; rfl), hBq⟩
def argB (m : Mc) : Bool := (m.t == 1) || (m.t == 2)
def tdR (m : Mc) : List Int := if argB m then [m.s, m.e, m.d, m.r] else [m.s, m.e, m.d]
def tdOk (xs : List Nd) (m : Mc) : Bool := Zaq xs && allI xs (tdR m)
def tdF (xs : List Nd) (m : Mc) (r : Int) : Int := (Zbt 0 xs (Zat xs (tdR m))).2.getD r.toNat 0
def tdL (xs : List Nd) (m : Mc) : List Nd := if tdOk xs m then mvN 0 xs (tdR m) else xs
def tdM (xs : List Nd) (m : Mc) : Mc := if tdOk xs m then ⟨m.p, tdF xs m m.s, tdF xs m m.e, tdF xs m m.d, m.t, m.q, if argB m then tdF xs m m.r else m.r⟩ else m
def mcs (v : Value) (m : Mc) : Array Value := #[v, .int .i64 m.p, .int .i64 m.s, .int .i64 m.e, .int .i64 m.d, .int .i64 m.t, .int .i64 m.q, .int .i64 m.r]
def mpN (M : Mc) : List Int := [M.p, M.t, M.q, M.s, M.e, M.d, M.r]
def mpL (xs : List Nd) (m : Mc) : List Int := (mpN (tdM xs m)).flatMap encI ++ Zb8 (tdL xs m)
def mpR (ns : List Nd) (is : List In) (ds : List Df) (xs : List Nd) (m : Mc) : ByteArray := if ZbH ns is ds xs m then strOfNums (mpL xs m) else ByteArray.empty
def mcOf : List Int -> Mc
 | [p, t, q, s, e, d, r] => ⟨p, s, e, d, t, q, r⟩
 | _ => ⟨0, 0, 0, 0, 0, 0, 0⟩
def Zko (zs : List Int) : Nat -> Int -> Bool -> List Int × Int × Bool
 | 0, a, ok => ([], a, ok)
 | n + 1, a, ok => ((num8 zs a ok).1 :: (Zko zs n (num8 zs a ok).2.1 (num8 zs a ok).2.2).1, (Zko zs n (num8 zs a ok).2.1 (num8 zs a ok).2.2).2)
theorem Lies.whole {zs L : List Int} (h : Lies zs 0 L zs.length) : L = zs := by
 obtain ⟨_, hlen, rest, hr⟩ := h
 rw [Int.toNat_zero, List.drop_zero] at hr
 have hlen2 := congrArg List.length hr
 rw [List.length_append] at hlen2
 have : rest = [] := List.eq_nil_of_length_eq_zero (by omega)
 rw [this, List.append_nil] at hr
 exact hr.symm
def mrR (ns : List Nd) (is : List In) (ds : List Df) (zs : List Int) : Option (List Nd × Mc) :=
 (rdK zs 7 0).bind fun q => (rdP zs q.2).bind fun r => if r.2 = zs.length /\ ZbH ns is ds r.1 (mcOf q.1) = true /\ allR r.1 (tdR (mcOf q.1)) = true then some (r.1, mcOf q.1) else none
end Go.Proofs.YtfmafkebddojjaaGreatDoor
