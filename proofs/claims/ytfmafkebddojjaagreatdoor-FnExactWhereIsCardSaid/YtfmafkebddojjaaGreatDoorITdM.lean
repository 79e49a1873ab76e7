/-
  Texts that stood by themselves, laid into one.
-/
import Derived.Test.YtfmafkebddojjaaGreatDoorSAddM
import Derived.Test.YtfmafkebddojjaaGreatDoorSIntoM
import Derived.Deep.RegionHeld
import Derived.Test.YtfmafkebddojjaaGreatDoorIWire2M
import Derived.Test.YtfmafkebddojjaaGreatDoorVMoveM
import Derived.Test.YtfmafkebddojjaaGreatDoorBsM
import Derived.Test.YtfmafkebddojjaaGreatDoorS8RdM
import Derived.Test.YtfmafkebddojjaaGreatDoorInM
import Derived.Test.YtfmafkebddojjaaGreatDoorSR8M
import Derived.Test.YtfmafkebddojjaaGreatDoorMcTM
import Derived.Test.YtfmafkebddojjaaGreatDoorRcWhyM
import Derived.Deep.CutRange
import Derived.Deep.DeepCutAuto
/-
  Contract of impl's Keep. No condition but that the roots are no more than a row bears.
-/
set_option maxRecDepth 100000
set_option maxHeartbeats 6400000
namespace Go.Proofs.YtfmafkebddojjaaGreatDoor
open Go.RowKit
def Zl2 (xs : List Nd) (rs : List Int) : List Nd := if Zap xs && allI xs rs then mvN 0 xs rs else []
def Zl3 (xs : List Nd) (rs : List Int) : List Int := if Zap xs && allI xs rs then mvR 0 xs rs rs else []
theorem ZiR {w w' : World} (h : Below w.drew.heap.size w.drew w') : Below w.heap.size w w' := (Below.refl w.heap.size w).drew.trans h
theorem Zcp (ao : Option Addr) (cap : Nat) (vl : Value) (xs : List Nd) (rs : List Int) (w : World) (R : NRow w (.slice ao xs.length cap) xs) (L : IRow w vl rs) (hp : Zap xs = true) (hr : allI xs rs = true) (hrs : rs.length <= 1048576) :
    Calls Tryz.prog 234 #[.agg #[.slice ao xs.length cap], vl] w fun e w' => ∃ v1 v2, e = .returned (.tuple #[.agg #[v1], v2]) /\ w'.ownsRow w.heap.size 210 5 v1 (mvN 0 xs rs).length (ncs (mvN 0 xs rs)) /\ w'.ownsRow w.heap.size 3 1 v2 rs.length (iv (mvR 0 xs rs rs)) /\ Below w.heap.size w w' := by
  obtain ⟨i0, hi, hz0, hz1, hz2⟩ := info_parts Zmu
  have hlen := ZaD hp
  have hB2 : Below w.heap.size w ((w.alloc (Obj.cells #[.slice ao xs.length cap] 40)).alloc (Obj.cells #[.slice none 0 0] 40)) := ZkF w _ _
  have hs2 : ((w.alloc (Obj.cells #[.slice ao xs.length cap] 40)).alloc (Obj.cells #[.slice none 0 0] 40)).heap.size = w.heap.size + 1 + 1 := by simp
  have hx2 := old2 w (Obj.cells #[.slice ao xs.length cap] 40) (Obj.cells #[.slice none 0 0] 40)
  have hy2 := heap_alloc2_new w (Obj.cells #[.slice ao xs.length cap] 40) (Obj.cells #[.slice none 0 0] 40)
  have hrl := Za4 xs rs
  go_enter Tryz.func234, Tryz.ntmps234
  go_wp2_with fail
  have hb3 := heap_alloc_new ((w.alloc (Obj.cells #[.slice ao xs.length cap] 40)).alloc (Obj.cells #[.slice none 0 0] 40)) (Obj.cells #[.slice none 0 0] 40)
  have h23 : Below (w.heap.size + 1 + 1) ((w.alloc (Obj.cells #[.slice ao xs.length cap] 40)).alloc (Obj.cells #[.slice none 0 0] 40)) (((w.alloc (Obj.cells #[.slice ao xs.length cap] 40)).alloc (Obj.cells #[.slice none 0 0] 40)).alloc (Obj.cells #[.slice none 0 0] 40)) := (Below.refl _ _).alloc (by rw [hs2]; exact Nat.le_refl _) _
  have hs3 : (((w.alloc (Obj.cells #[.slice ao xs.length cap] 40)).alloc (Obj.cells #[.slice none 0 0] 40)).alloc (Obj.cells #[.slice none 0 0] 40)).heap.size = w.heap.size + 1 + 1 + 1 := by simp
  rw [hs2] at hb3
  generalize ((w.alloc (Obj.cells #[.slice ao xs.length cap] 40)).alloc (Obj.cells #[.slice none 0 0] 40)).alloc (Obj.cells #[.slice none 0 0] 40) = W3 at *
  generalize (w.alloc (Obj.cells #[.slice ao xs.length cap] 40)).alloc (Obj.cells #[.slice none 0 0] 40) = W2 at *
  have hB3 := hB2.trans (h23.mono (by omega))
  have R2 := R.below hB2
  have k3 : W3.cell? ⟨w.heap.size, 0, none⟩ = some (.slice ao xs.length cap) := by rw [cell_of_row W3 _ 0 _ _ _ ((h23.block _ (by omega)).trans hx2)]; rfl
  have hl3 : w.heap.size < W3.heap.size := by omega
  go_region_held (fun w' => w'.cell? ⟨w.heap.size, 0, none⟩ = some (.slice ao xs.length cap)) (first | exact k5 | exact k4 | go_keep) (first
    | (go_at_call 249; refine (ZfQ ao cap vl xs rs _ ?_ ?_ hp hr).mono ?_; exact R.below hB3.drew; exact L.below hB3.drew; rintro e wk ⟨vk, rfl, hok, hbk⟩; obtain ⟨aok, capk, rfl⟩ := Zae hok
       have hb34 : Below W3.heap.size W3 wk := ZiR hbk
       have k4 := (hb34.cell (p := ⟨w.heap.size, 0, none⟩) hl3).trans k3)
    | (go_at_call 248; refine (Zir (w.heap.size + 1 + 1) (w.heap.size + 1 + 1) none 0 [] xs (Zas xs rs) ao cap _ W2 _ ((hb34.block _ (by omega)).trans hb3) (World.ownsRow_nil _ _ _ _) (Nat.le_refl _) R2 (by omega) (h23.trans (hb34.mono (by omega))) (Zaf hok (by show w.heap.size + 1 + 1 <= W3.heap.size; omega)) hrl hp (by simp)).mono ?_; rintro e w5 ⟨v5, vp, rfl, hb5, ho5, hi5, hB5⟩; obtain ⟨a5, q5, rfl⟩ := Zae hi5
       have k5 : w5.cell? ⟨w.heap.size, 0, none⟩ = some (.slice ao xs.length cap) := by rw [cell_of_row w5 _ 0 _ _ _ ((hB5.block _ (by omega)).trans hx2)]; rfl))
  have HN : Hid (mvN 0 xs rs = (Zbv 0 xs (Zas xs rs)).1) := rfl
  have HR : Hid (mvR 0 xs rs rs = rs.map (fun r => (Zbv 0 xs (Zas xs rs)).2.getD r.toNat 0)) := rfl
  have hl2 : (Zbv 0 xs (Zas xs rs)).2.length = xs.length := (Zdm _ _ _).2
  rw [List.nil_append] at ho5
  rw [show ([] : List Nd).length = 0 from rfl] at ho5 hi5
  generalize Zbv 0 xs (Zas xs rs) = M at *
  obtain ⟨S1, S2⟩ := M
  simp only at hl2 ho5 hi5 HN HR
  obtain ⟨ap, qp, rfl⟩ := Zae ho5
  have hBw := hB2.trans (hB5.mono (by omega))
  have hy5 := (hB5.block (w.heap.size + 1) (by omega)).trans hy2
  have hlw5 := (bl hb5)
  obtain ⟨al, cl, rfl, hcl, _, hlc⟩ := L
  have hB6 : Below w5.heap.size w5 (w5.alloc (Obj.cells #[] 3)) := (Below.refl _ _).alloc (Nat.le_refl _) _
  have hi6 := ZcL w5 3 1 w5.heap.size (Nat.le_refl _)
  clear k5 k4 hok hbk hb34 k3 hb3 h23 hx2 hy2 hB3 hB5 R2 R hB2 hrl
  go_wp2_with fail
  go_loopw [8, 9] (fun s i wr => ∃ (j : Nat), j <= rs.length /\ i = .int .i64 j /\ wr.ownsRow w5.heap.size 3 1 s j (iv ((rs.take j).map (fun r => S2.getD r.toNat 0))) /\ Below w5.heap.size w5 wr) (fun _ i _ => rs.length - (intOf i).toNat)
  case atStart => exact ⟨0, by omega, rfl, hi6, hB6⟩
  case round =>
    clear hi6 hB6
    obtain ⟨j, hj, rfl, hownj, hBj⟩ := hrel
    by_cases hlt : j < rs.length
    · obtain ⟨g, o, rfl, hg, hlc⟩ := hlc (by intro e; subst e; simp at hlt)
      have ez := (hBj.cell (p := ⟨g, o + j, none⟩) (Nat.lt_of_lt_of_le hg hBw.size)).trans ((hBw.cell (p := ⟨g, o + j, none⟩) hg).trans (hlc j hlt))
      obtain ⟨z0, z1⟩ := ZfW hr j hlt
      have HT : Hid (iv ((rs.take (j + 1)).map (fun r => S2.getD r.toNat 0)) = iv ((rs.take j).map (fun r => S2.getD r.toNat 0)) ++ [.int .i64 (S2.getD (rs.getD j 0).toNat 0)]) := by
        unfold Hid
        rw [List.take_succ_eq_append_getElem hlt, List.map_append, Zjd, List.getD_eq_getElem?_getD (l := rs), List.getElem?_eq_getElem hlt]
        rfl
      generalize rs.getD j 0 = z at ez z0 z1 HT
      obtain ⟨nz, rfl⟩ := Int.eq_ofNat_of_zero_le z0
      rw [Int.toNat_natCast] at HT
      rcases hi5.2 with ⟨hnil, hn0⟩ | ⟨g5, cap5, cur5, e5, _, _, _⟩
      · omega
      simp only [Value.slice.injEq, true_and] at e5
      obtain ⟨rfl, rfl⟩ := e5
      have e9 := (hBj.cell (p := ⟨g5, nz, none⟩) (hi5.lt _ rfl).2).trans ((hi5.cellAt nz (by omega)).trans (ZcI _ _ (by omega)))
      generalize S2.getD nz 0 = y at e9 HT
      obtain ⟨asj, qsj, rfl⟩ := Zae hownj
      clear hlc hr
      have hsj := hBj.size
      go_wp2_with (at_builtin; refine wpList_append_own _ rfl _ _ 148 rfl w5.heap.size 3 i0 (.int .i64 0) 1 8 Tryz.underlying148 hi hz0 hz1 hz2 rfl (by decide) _ _ _ rfl (hownj.alloc _) ⟨wr.heap.size, 0, none⟩ 1 1 [.int .i64 y] rfl rfl (cell_one_new _ _ _) (by simp [Value.oneCell']) (by unfold maxLen; omega) (by omega) (by simp; omega) ?_)
      intro v7 w8 hown8 hg8' _
      have hB8 : Below w5.heap.size w5 w8 := (hBj.alloc hsj _).grown hg8' (by simp; omega) (fun k hk => (hownj.lt k hk).1)
      have hown8' : w8.ownsRow w5.heap.size 3 1 v7 (j + 1) (iv ((rs.take (j + 1)).map (fun r => S2.getD r.toNat 0))) := by rw [HT.out]; simpa only [List.map_take, List.getD_eq_getElem?_getD] using hown8
      clear hg8' hown8
      go_wp2_with fail
      go_roundw
      case rel => exact ⟨j + 1, by omega, by go_num, hown8', hB8⟩
      case measure => simp [intOf]; omega
    · have hje : j = rs.length := by omega
      subst hje
      have hbj := (hBj.block _ hlw5).trans hb5
      have hyj := (hBj.block _ (by omega)).trans hy5
      have c6 : wr.cell? ⟨w.heap.size + 1 + 1, 0, none⟩ = some (.slice ap S1.length qp) := by rw [cell_of_row wr _ 0 _ _ _ hbj]; rfl
      have c4 : wr.cell? ⟨w.heap.size + 1, 0, none⟩ = some (.slice none 0 0) := by rw [cell_of_row wr _ 0 _ _ _ hyj]; rfl
      have f4 : wr.frozen? ⟨w.heap.size + 1, 0, none⟩ = false := frozen_of_row wr _ 0 _ _ hyj
      have ho6 := Zad ho5 hBj
      rw [List.take_length, <- HR.out] at hownj
      obtain ⟨asj, qsj, rfl⟩ := Zae hownj
      have hBr := hBw.trans (hBj.mono hBw.size)
      obtain ⟨p1, p2, p3⟩ := ZjI hyj ho6 hBr (by omega) (by omega)
      have p4 := Zaf (B' := w.heap.size) (ownsRow_setCell_below hownj (a := ⟨w.heap.size + 1, 0, none⟩) (by show w.heap.size + 1 < w5.heap.size; omega) (.slice ap S1.length qp)) (by omega)
      go_wp2_with fail
      refine bodyPost_ret (Zab rfl _ _ (w.heap.size + 1) 40 _ (0, 0) _ rfl p1 Tryz.underlying40 rfl ZmA) rfl ⟨_, .slice asj rs.length qsj, rfl, ?_, p4, p3⟩
      rw [HN.out]
      exact p2
def vpB (xs : List Nd) (v : Int) : Bool := Zap xs && hasI xs v
def vpR (xs : List Nd) (v : Int) : ByteArray := if vpB xs v then strOfNums (Zbw (mvN 0 xs [v])) else ByteArray.empty
theorem ZhO (v : Value) (xs : List Nd) (a : Int) (w : World) (R : NRow w v xs) :
  Calls Tryz.prog 201 #[.agg #[v], .int .i64 a] w fun e w' => e = .returned (.tuple #[.string (vpR xs a), .bool (vpB xs a)]) /\ Below w.heap.size w w' := by
 have R' := R
 obtain ⟨ao, cap, rfl, _⟩ := R'
 have hB0 : Below w.heap.size w (w.alloc (Obj.cells #[.slice ao xs.length cap] 40)) := (Below.refl _ _).alloc (Nat.le_refl _) _
 go_enter Tryz.func201, Tryz.ntmps201
 go_wp2_with fail
 refine (Zb8 _ xs _ (R.below hB0)).mono ?_
 rintro e w1 ⟨rfl, hb1⟩
 have hx1 : w1.heap[w.heap.size]? = some (.cells #[.slice ao xs.length cap] 40 (0, 0)) := (hb1.block _ (by simp)).trans (heap_alloc_new _ _)
 have hB1 := hB0.trans (hb1.mono hB0.size)
 have c1 : w1.cell? ⟨w.heap.size, 0, none⟩ = some (.slice ao xs.length cap) := cell_of_row w1 _ 0 _ _ _ hx1
 clear hB0 hb1
 cases hp : Zap xs with
 | false =>
  have HB : Hid (vpB xs a = false) := by unfold Hid vpB; rw [hp]; rfl
  have HR : Hid (vpR xs a = ByteArray.empty) := by unfold Hid vpR; rw [HB.out]; rfl
  go_wp2
  go_ret2
  exact ⟨by rw [HB.out, HR.out]; rfl, hB1⟩
 | true =>
  have hlen := ZbB hp
  go_wp2_with fail
  refine (Zks _ xs a _ (R.below hB1)).mono ?_
  rintro e w2 ⟨rfl, hb2⟩
  have hx2 := (bb hx1 hb2)
  have hB2 := hB1.trans (hb2.mono hB1.size)
  have c2 : w2.cell? ⟨w.heap.size, 0, none⟩ = some (.slice ao xs.length cap) := cell_of_row w2 _ 0 _ _ _ hx2
  clear hB1 hb2 hx1 c1
  cases hh : hasI xs a with
  | false =>
   have HB : Hid (vpB xs a = false) := by unfold Hid vpB; rw [hh, Bool.and_false]
   have HR : Hid (vpR xs a = ByteArray.empty) := by unfold Hid vpR; rw [HB.out]; rfl
   go_wp2
   go_ret2
   exact ⟨by rw [HB.out, HR.out]; rfl, hB2⟩
  | true =>
   have HB : Hid (vpB xs a = true) := by unfold Hid vpB; rw [hh, hp]; rfl
   have HR : Hid (vpR xs a = strOfNums (Zbw (mvN 0 xs [a]))) := by unfold Hid vpR; rw [HB.out]; rfl
   have hall : allI xs [a] = true := by simp [allI, hh]
   have hml := Zf8 0 xs [a]
   have hok := ZgT 0 xs [a] hp (by omega)
   have hB3 : Below w2.heap.size w2 (w2.alloc (Obj.cells #[.int .i64 a] 3)) := (Below.refl _ _).alloc (Nat.le_refl _) _
   go_wp2_with fail
   refine (Zcp ao cap _ xs [a] _ (R.below (hB2.trans (hB3.mono hB2.size))) (ZgS (heap_alloc_new w2 _)) hp hall (by simp)).mono ?_
   rintro e w3 ⟨v1, v2, rfl, ho1, _, hb3⟩
   have hB4 := (hB2.trans (hB3.mono hB2.size)).trans (hb3.mono (hB2.trans (hB3.mono hB2.size)).size)
   clear hB2 hB3 hb3 hx2 c2
   generalize mvN 0 xs [a] = ys at *
   obtain ⟨a1, k1, rfl⟩ := Zae ho1
   have hB6 : Below w3.heap.size w3 (w3.alloc (Obj.cells #[.slice a1 ys.length k1] 40)) := (Below.refl _ _).alloc (Nat.le_refl _) _
   have R1 := NRow.of_own ho1 (by omega) (Zbx hok)
   go_wp2_with fail
   refine (ZdE _ ys _ (R1.below hB6) hok (by omega)).mono ?_
   rintro e w4 ⟨v4, rfl, ho4, hb4⟩
   obtain ⟨a4, k4, rfl⟩ := Zae ho4
   have hB5 := (hB4.trans (hB6.mono hB4.size)).trans (hb4.mono (hB4.trans (hB6.mono hB4.size)).size)
   have hT := Zgs ho4
   go_wp2_with (refine ZbG _ rfl _ 162 9 5 rfl Tryz.underlying162 Tryz.underlying9 Tryz.underlying5 a4 (Zbw ys).length k4 (Zbw ys) rfl rfl hT ?_)
   go_ret2
   exact ⟨by rw [HB.out, HR.out]; rfl, hB5⟩
theorem ZkG {l : List Int} {s : ByteArray} (hl : ∀ z ∈ l, 0 <= z /\ z <= 255) : strOfNums l = s <-> l = sb s := by
 constructor
 ·intro h
  rw [<- h, Zi8 hl]
 ·intro h
  rw [h, ZcV]
theorem ZlF {s : ByteArray} {xs : List Nd} {at_ : Int} {k : Bool} (hs : sP (sb s) 0 true = (xs, at_, k)) :
  (sOk (sb s) 0 true = false -> vrR (sb s) = none) /\ (xs = [] -> vrR (sb s) = none) /\ (sOk (sb s) 0 true = true -> xs ≠ [] -> (Zap xs = true /\ vpB xs ((xs.length : Int) - 1) = true) /\ (vpR xs ((xs.length : Int) - 1) = s -> vrR (sb s) = some xs) /\ (vpR xs ((xs.length : Int) - 1) ≠ s -> vrR (sb s) = none)) := by
 have key := fun ys => Zky (sb s) (Zif s) ys
 rw [hs] at key
 refine ⟨fun h => ?_, fun h => ?_, fun h hne => ?_⟩
 ·cases hv : vrR (sb s) with
  | none => rfl
  | some ys => have := ((key ys).1 hv).1.1; rw [h] at this; cases this
 ·cases hv : vrR (sb s) with
  | none => rfl
  | some ys => obtain ⟨⟨_, h2⟩, h3, _⟩ := (key ys).1 hv; exact absurd (h2.symm.trans h) h3
 ·have hp : Zap xs = true := by
   unfold sOk at h
   rw [hs] at h
   simp only [Bool.and_eq_true] at h
   exact h.2
  have hpos := List.length_pos_iff.2 hne
  have hvp : vpB xs ((xs.length : Int) - 1) = true := by unfold vpB hasI; rw [hp]; simp; omega
  have hR : vpR xs ((xs.length : Int) - 1) = strOfNums (Zbw (mvN 0 xs [(xs.length : Int) - 1])) := by unfold vpR; rw [if_pos hvp]
  refine ⟨⟨hp, hvp⟩, fun e => ?_, fun e => ?_⟩
  ·rw [hR, ZkG (ZeJ _)] at e
   exact (key xs).2 ⟨⟨h, rfl⟩, hne, e⟩
  ·cases hv : vrR (sb s) with
   | none => rfl
   | some ys =>
    obtain ⟨⟨_, h2⟩, _, h4⟩ := (key ys).1 hv
    have h2 : xs = ys := h2
    subst h2
    exact absurd (by rw [hR, ZkG (ZeJ _)]; exact h4) e
theorem Zhs (s : ByteArray) (w : World) (hs : s.size <= 140737488351232) :
  Calls Tryz.prog 167 #[.string s] w fun e w' => VrAns w.heap.size (sb s) e w' /\ Below w.heap.size w w' := by
 have hB0 : Below w.heap.size w (w.alloc (Obj.cells #[.slice none 0 0] 40)) := (Below.refl _ _).alloc (Nat.le_refl _) _
 go_enter Tryz.func167, Tryz.ntmps167
 go_wp2_with (first
  | (refine Za7 _ rfl _ 9 162 5 rfl Tryz.underlying9 Tryz.underlying162 Tryz.underlying5 s rfl ?_; intro cap w2 g0 g1 g2 g3))
 have e1 : (w.alloc (Obj.cells #[.slice none 0 0] 40)).heap.size = w.heap.size + 1 := by simp
 have RR := Zbj (w := w.alloc (Obj.cells #[.slice none 0 0] 40)) hs g0 g1 g3
 rw [e1] at RR g3
 have x2 := (g2.block w.heap.size (by rw [e1]; omega) (by simp)).trans (heap_alloc_new w _)
 have B2 : Below w.heap.size w w2 := hB0.grown g2 hB0.size (fun k hk => by cases hk)
 clear e1 g1 g2
 have B3 : Below w2.heap.size w2 (w2.alloc (Obj.cells #[.slice (some ⟨w.heap.size + 1, 0, none⟩) s.size cap, .int .i64 0, .bool true] 197)) := (Below.refl _ _).alloc (Nat.le_refl _) _
 have hC3 : C8 (w2.alloc (Obj.cells #[.slice (some ⟨w.heap.size + 1, 0, none⟩) s.size cap, .int .i64 0, .bool true] 197)) w2.heap.size (.slice (some ⟨w.heap.size + 1, 0, none⟩) s.size cap) 0 true := heap_alloc_new _ _
 have x3 := (B3.block w.heap.size (by omega)).trans x2
 have B03 := B2.trans (B3.mono B2.size)
 have HRD := ZdQ w2.heap.size _ (sb s) 0 true _ (RR.below B3) hC3 (by omega) (by omega)
 have s3 : (w2.alloc (Obj.cells #[.slice (some ⟨w.heap.size + 1, 0, none⟩) s.size cap, .int .i64 0, .bool true] 197)).heap.size = w2.heap.size + 1 := by simp
 obtain ⟨p, hp⟩ : ∃ p, Hid (sP (sb s) 0 true = p) := ⟨_, rfl⟩
 obtain ⟨xs, at_, k⟩ := p
 obtain ⟨b, hb⟩ : ∃ b, Hid (sOk (sb s) 0 true = b) := ⟨_, rfl⟩
 have HV := ZlF hp.out
 rw [hb.out] at HV
 rw [hp.out, hb.out] at HRD
 dsimp only at HRD
 refine HRD.mono ?_
 rintro e w4 ⟨vs, rfl, o4, c4, hg4, hz4⟩
 have x4 := (hg4.block w.heap.size (by rw [s3]; omega) (by simp; omega)).trans x3
 have B04 : Below w.heap.size w w4 := B03.grown hg4 B03.size (fun k hk => by simp at hk; omega)
 have hs4 : w2.heap.size + 1 <= w4.heap.size := by have := hg4.size; omega
 rw [s3] at o4
 have hw2 : w.heap.size + 1 < w2.heap.size := g3
 clear HRD hg4 x3 B03 hC3 B3 s3 hB0 x2 B2 g3 RR
 obtain ⟨av, cv, rfl⟩ := Zae o4
 have B5 : Below w4.heap.size w4 (w4.alloc (Obj.cells #[.slice av xs.length cv] 40)) := (Below.refl _ _).alloc (Nat.le_refl _) _
 have x5 := (B5.block _ (by omega)).trans x4
 have c5 := c4.below B5
 have o5 := Zad o4 B5
 have B05 := B04.trans (B5.mono B04.size)
 have y5 : (w4.alloc (Obj.cells #[.slice av xs.length cv] 40)).heap[w4.heap.size]? = some (.cells #[.slice av xs.length cv] 40 (0, 0)) := heap_alloc_new _ _
 have cok : (w4.alloc (Obj.cells #[.slice av xs.length cv] 40)).cell? ⟨w2.heap.size, 2, none⟩ = some (.bool b) := cell_of_row _ _ 2 _ _ _ c5
 have cp : (w4.alloc (Obj.cells #[.slice av xs.length cv] 40)).cell? ⟨w4.heap.size, 0, none⟩ = some (.slice av xs.length cv) := cell_of_row _ _ 0 _ _ _ y5
 cases b with
 | false =>
  have hN := HV.1 rfl
  have HA : Hid (vrL (sb s) = [] /\ vrI (sb s) = 0 /\ vrB (sb s) = false) := Zkp hN
  clear HV hN
  have r0 : (w4.alloc (Obj.cells #[.slice av xs.length cv] 40)).cell? ⟨w.heap.size, 0, none⟩ = some (.slice none 0 0) := cell_of_row (w4.alloc (Obj.cells #[.slice av xs.length cv] 40)) _ 0 _ _ _ x5
  have rf : (w4.alloc (Obj.cells #[.slice av xs.length cv] 40)).frozen? ⟨w.heap.size, 0, none⟩ = false := frozen_of_row (w4.alloc (Obj.cells #[.slice av xs.length cv] 40)) _ 0 _ _ x5
  have hset := heap_setCell_same (w4.alloc (Obj.cells #[.slice av xs.length cv] 40)) w.heap.size 0 _ _ (.slice none 0 0) x5
  have hBF := B05.setCell (p := ⟨w.heap.size, 0, none⟩) (Nat.le_refl _) (.slice none 0 0)
  go_wp2
  refine bodyPost_ret (ZaP rfl _ _ w.heap.size 40 _ (0, 0) _ rfl hset Tryz.underlying40 rfl ZmA) rfl ⟨VrAns.intro (.slice none 0 0) ?_ ?_, hBF⟩
  ·rw [HA.out.2.1, HA.out.2.2]; rfl
  ·rw [HA.out.1]; exact World.ownsRow_nil _ _ _ _
 | true =>
  by_cases hxe : xs = []
  ·have HA : Hid (vrL (sb s) = [] /\ vrI (sb s) = 0 /\ vrB (sb s) = false) := Zkp (HV.2.1 hxe)
   have hl0 : (xs.length : Int) = 0 := by rw [hxe]; rfl
   clear HV hxe
   have r0 : (w4.alloc (Obj.cells #[.slice av xs.length cv] 40)).cell? ⟨w.heap.size, 0, none⟩ = some (.slice none 0 0) := cell_of_row (w4.alloc (Obj.cells #[.slice av xs.length cv] 40)) _ 0 _ _ _ x5
   have rf : (w4.alloc (Obj.cells #[.slice av xs.length cv] 40)).frozen? ⟨w.heap.size, 0, none⟩ = false := frozen_of_row (w4.alloc (Obj.cells #[.slice av xs.length cv] 40)) _ 0 _ _ x5
   have hset := heap_setCell_same (w4.alloc (Obj.cells #[.slice av xs.length cv] 40)) w.heap.size 0 _ _ (.slice none 0 0) x5
   have hBF := B05.setCell (p := ⟨w.heap.size, 0, none⟩) (Nat.le_refl _) (.slice none 0 0)
   go_wp2
   refine bodyPost_ret (ZaP rfl _ _ w.heap.size 40 _ (0, 0) _ rfl hset Tryz.underlying40 rfl ZmA) rfl ⟨VrAns.intro (.slice none 0 0) ?_ ?_, hBF⟩
   ·rw [HA.out.2.1, HA.out.2.2]; rfl
   ·rw [HA.out.1]; exact World.ownsRow_nil _ _ _ _
  ·obtain ⟨⟨hpool, hvp⟩, hyes, hno⟩ := HV.2.2 rfl hxe
   have hpos := List.length_pos_iff.2 hxe
   have hlen := ZaD hpool
   have hl0 : ¬ (xs.length : Int) = 0 := by omega
   have R5 : NRow (w4.alloc (Obj.cells #[.slice av xs.length cv] 40)) (.slice av xs.length cv) xs := NRow.of_own o5 (by omega) (Zbx (ZbC hpool))
   have HK := ZhO _ xs ((xs.length : Int) - 1) _ R5
   obtain ⟨tx, htx⟩ : ∃ tx, Hid (vpR xs ((xs.length : Int) - 1) = tx) := ⟨_, rfl⟩
   obtain ⟨tb, htb⟩ : ∃ tb, Hid (vpB xs ((xs.length : Int) - 1) = tb) := ⟨_, rfl⟩
   rw [htx.out, htb.out] at HK
   rw [htx.out] at hyes hno
   clear HV htx htb hvp
   go_wp2_with fail
   refine HK.mono ?_
   rintro e w6 ⟨rfl, hb6⟩
   have x6 := (bb x5 hb6)
   have y6 := (bb y5 hb6)
   have o6 := Zad o5 hb6
   have B06 := B05.trans (hb6.mono B05.size)
   clear HK hb6 B05 B5 B04 x4 x5 y5 o4 o5 c4 c5 cok cp R5
   by_cases heq : tx = s
   ·have HA : Hid (vrL (sb s) = xs /\ vrI (sb s) = (xs.length : Int) - 1 /\ vrB (sb s) = true) := ZkN (hyes heq)
    clear hyes hno
    have q0 : w6.cell? ⟨w4.heap.size, 0, none⟩ = some (.slice av xs.length cv) := cell_of_row w6 _ 0 _ _ _ y6
    have r0 : w6.cell? ⟨w.heap.size, 0, none⟩ = some (.slice none 0 0) := cell_of_row w6 _ 0 _ _ _ x6
    have rf : w6.frozen? ⟨w.heap.size, 0, none⟩ = false := frozen_of_row w6 _ 0 _ _ x6
    have hne : w4.heap.size ≠ w.heap.size := by omega
    have hset := heap_setCell_same w6 w.heap.size 0 _ _ (.slice av xs.length cv) x6
    have hBF := B06.setCell (p := ⟨w.heap.size, 0, none⟩) (Nat.le_refl _) (.slice av xs.length cv)
    have hoF := Zaf (ownsRow_setCell_below o6 (a := ⟨w.heap.size, 0, none⟩) (by show w.heap.size < w2.heap.size + 1; omega) (.slice av xs.length cv)) (show w.heap.size <= w2.heap.size + 1 by omega)
    go_wp2_with fail
    go_region
    all_goals
     go_wp2
     refine bodyPost_ret (ZaP rfl _ _ w.heap.size 40 _ (0, 0) _ rfl hset Tryz.underlying40 rfl ZmA) rfl ⟨VrAns.intro (.slice av xs.length cv) ?_ ?_, hBF.drew⟩
     ·rw [HA.out.2.1, HA.out.2.2]; rfl
     ·rw [HA.out.1]; exact hoF
   ·have HA : Hid (vrL (sb s) = [] /\ vrI (sb s) = 0 /\ vrB (sb s) = false) := Zkp (hno heq)
    have hl2 : (tx.toList == s.toList) = false := by
     rw [<- Bool.not_eq_true, beq_iff_eq, ByteArray.toList_eq, ByteArray.toList_eq]
     intro h
     apply heq
     cases tx
     cases s
     congr 1
     exact Array.toList_inj.1 h
    clear hyes hno
    have r0 : w6.cell? ⟨w.heap.size, 0, none⟩ = some (.slice none 0 0) := cell_of_row w6 _ 0 _ _ _ x6
    have rf : w6.frozen? ⟨w.heap.size, 0, none⟩ = false := frozen_of_row w6 _ 0 _ _ x6
    have hset := heap_setCell_same w6 w.heap.size 0 _ _ (.slice none 0 0) x6
    have hBF := B06.setCell (p := ⟨w.heap.size, 0, none⟩) (Nat.le_refl _) (.slice none 0 0)
    go_wp2
    refine bodyPost_ret (ZaP rfl _ _ w.heap.size 40 _ (0, 0) _ rfl hset Tryz.underlying40 rfl ZmA) rfl ⟨VrAns.intro (.slice none 0 0) ?_ ?_, hBF⟩
    ·rw [HA.out.2.1, HA.out.2.2]; rfl
    ·rw [HA.out.1]; exact World.ownsRow_nil _ _ _ _
def pidB (i : Int) : Bool := decide (1 <= i /\ i <= 1000000000)
def boxB (bx : List ByteArray) : Bool := decide (bx.length <= 20) && bx.all fun s => vrB (sb s)
def outB (ox : List ByteArray) : Bool := decide (ox.length <= 40) && ox.all fun s => decide (s.size <= 400)
def ZbJ (ns : List Nd) (is : List In) (ds : List Df) (i : Int) (xs : List Nd) (m : Mc) (bx ox : List ByteArray) : Bool := pidB i && (boxB bx && (outB ox && Za0 ns is ds xs m))
theorem Zc3 {xs : List ByteArray} {f : ByteArray -> Bool} {k : Nat} {x : ByteArray} (h : ∀ j y, xs[j]? = some y -> j < k -> f y = true) (hx : xs[k]? = some x) (hf : f x = true) : ∀ j y, xs[j]? = some y -> j < k + 1 -> f y = true := fun j y hy hj => by
 by_cases e : j = k
 ·subst e
  rw [hx] at hy
  cases hy
  exact hf
 ·exact h j y hy (by omega)
theorem Zek {xs : List ByteArray} {f : ByteArray -> Bool} (h : ∀ j y, xs[j]? = some y -> j < xs.length -> f y = true) : xs.all f = true := List.all_eq_true.2 fun x hx => by
 obtain ⟨j, hj, e⟩ := List.getElem_of_mem hx
 exact h j x (by rw [<- e]; simp [hj]) hj
theorem Zc6 {xs : List ByteArray} {f : ByteArray -> Bool} {k : Nat} {x : ByteArray} (hx : xs[k]? = some x) (hf : f x = false) : xs.all f = false := by
 rw [List.all_eq_false]
 exact ⟨x, List.mem_of_getElem? hx, by simp [hf]⟩
theorem Zjk (i : Int) (w : World) : Calls Tryz.prog 111 #[.int .i64 i] w fun e w' => e = .returned (.bool (pidB i)) /\ w' = w := by
 by_cases h1 : 1 <= i
 ·by_cases h2 : i <= 1000000000
  ·go_enter Tryz.func111, Tryz.ntmps111
   go_wp2
   go_ret
   exact ⟨retB (by simp [pidB, h1, h2]), rfl⟩
  ·go_enter Tryz.func111, Tryz.ntmps111
   go_wp2
   go_ret
   exact ⟨retB (by simp [pidB, h2]), rfl⟩
 ·go_enter Tryz.func111, Tryz.ntmps111
  go_wp2
  go_ret
  exact ⟨retB (by unfold pidB; rw [decide_eq_false_iff_not.2 (by omega)]), rfl⟩
theorem Zgq (v : Value) (bx : List ByteArray) (w : World) (R : StRow w v bx) (hz : ∀ x ∈ bx, x.size <= 140737488351232) (hg : ErrT w) :
  Calls Tryz.prog 196 #[v] w fun e w' => e = .returned (.bool (boxB bx)) /\ Below w.heap.size w w' := by
 obtain ⟨ao, cap, rfl, hcap, hm, hzm, hcell⟩ := R
 by_cases hl : bx.length <= 20
 rotate_left
 ·have hl' : 20 < (bx.length : Int) := by omega
  have HF : Hid (boxB bx = false) := by show boxB bx = false; simp [boxB, hl]
  go_enter Tryz.func196, Tryz.ntmps196
  go_wp2
  go_ret
  exact ⟨retB HF.out.symm, Below.refl _ _⟩
 have HV : Hid (boxB bx = bx.all fun s => vrB (sb s)) := by show boxB bx = bx.all fun s => vrB (sb s); simp [boxB, hl]
 go_enter Tryz.func196, Tryz.ntmps196
 go_wp2
 go_loopw [13] (fun i wr => ∃ k : Nat, k <= bx.length /\ i = .int .i64 k /\ Hid (∀ j x, bx[j]? = some x -> j < k -> vrB (sb x) = true) /\ Below w.heap.size w wr) (fun i _ => bx.length - (intOf i).toNat)
 case atStart => exact ⟨0, by omega, rfl, fun j x _ h => by omega, Below.refl _ _⟩
 case round =>
  obtain ⟨k, hk, rfl, HA, hb⟩ := hrel
  by_cases hlt : k < bx.length
  ·obtain ⟨g, o, rfl, hgg, hcell⟩ := hcell (by intro e; subst e; simp at hlt)
   obtain ⟨x, hx⟩ : ∃ x, bx[k]? = some x := ⟨bx[k], by simp [hlt]⟩
   have c0 := (hb.cell (p := ⟨g, o + k, none⟩) hgg).trans (hcell k x hx)
   have HR := Zg8 x wr (hz x (List.mem_of_getElem? hx)) (hg.below hb (Nat.le_refl _))
   unfold VrAns at HR
   have HX : Hid (bx[k]? = some x) := hx
   have HF := fun h => Zc6 (f := fun s => vrB (sb s)) hx h
   have HA2 := fun h => Zc3 (f := fun s => vrB (sb s)) HA.out hx h
   clear hcell hx
   generalize vrB (sb x) = bv at HR HF HA2
   go_wp2_with fail
   refine HR.mono ?_
   rintro e w2 ⟨⟨v2, rfl, ho2⟩, hb2⟩
   obtain ⟨ao2, cap2, rfl⟩ := Zae ho2
   have hB2 := hb.trans (hb2.mono hb.size)
   clear HR ho2 hb2 c0
   have hB3 : Below w.heap.size w (w2.alloc (Obj.cells #[.slice ao2 (vrL (sb x)).length cap2] 40)) := hB2.alloc hB2.size _
   cases bv with
   | true =>
    have HA3 := HA2 rfl
    have HA4 : Hid (∀ j x, bx[j]? = some x -> j < k + 1 -> vrB (sb x) = true) := HA3
    clear HA HA2 HA3 HF
    go_wp2
    go_roundw
    case rel => exact ⟨k + 1, by omega, by go_num, HA4, hB3⟩
    case measure => simp [intOf]; omega
   | false =>
    have HF2 : Hid ((bx.all fun s => vrB (sb s)) = false) := HF rfl
    clear HA HA2 HF
    go_wp2
    go_ret
    exact ⟨retB (HV.out.trans HF2.out).symm, hB3⟩
  ·go_wp2
   go_ret
   have e : k = bx.length := by omega
   subst e
   exact ⟨retB (HV.out.trans (Zek HA.out)).symm, hb⟩
theorem ZfU (v : Value) (ox : List ByteArray) (w : World) (R : StRow w v ox) :
  Calls Tryz.prog 197 #[v] w fun e w' => e = .returned (.bool (outB ox)) /\ Below w.heap.size w w' := by
 obtain ⟨ao, cap, rfl, hcap, hm, hzm, hcell⟩ := R
 by_cases hl : ox.length <= 40
 rotate_left
 ·have hl' : 40 < (ox.length : Int) := by omega
  have HF : Hid (outB ox = false) := by show outB ox = false; simp [outB, hl]
  go_enter Tryz.func197, Tryz.ntmps197
  go_wp2
  go_ret
  exact ⟨retB HF.out.symm, Below.refl _ _⟩
 have HV : Hid (outB ox = ox.all fun s => decide (s.size <= 400)) := by show outB ox = ox.all fun s => decide (s.size <= 400); simp [outB, hl]
 go_enter Tryz.func197, Tryz.ntmps197
 go_wp2
 go_loopw [10] (fun i wr => ∃ k : Nat, k <= ox.length /\ i = .int .i64 k /\ Hid (∀ j x, ox[j]? = some x -> j < k -> decide (x.size <= 400) = true) /\ Below w.heap.size w wr) (fun i _ => ox.length - (intOf i).toNat)
 case atStart => exact ⟨0, by omega, rfl, fun j x _ h => by omega, Below.refl _ _⟩
 case round =>
  obtain ⟨k, hk, rfl, HA, hb⟩ := hrel
  by_cases hlt : k < ox.length
  ·obtain ⟨g, o, rfl, hgg, hcell⟩ := hcell (by intro e; subst e; simp at hlt)
   obtain ⟨x, hx⟩ : ∃ x, ox[k]? = some x := ⟨ox[k], by simp [hlt]⟩
   have c0 := (hb.cell (p := ⟨g, o + k, none⟩) hgg).trans (hcell k x hx)
   have hxs := hzm x (List.mem_of_getElem? hx)
   unfold maxLen at hxs
   have HX : Hid (ox[k]? = some x) := hx
   clear hcell hx
   by_cases h4 : x.size <= 400
   ·have h4' : ¬ 400 < (x.size : Int) := by omega
    go_wp2
    go_roundw
    case rel => exact ⟨k + 1, by omega, by go_num, Zc3 (f := fun s => decide (s.size <= 400)) HA.out HX.out (by simp [h4]), hb⟩
    case measure => simp [intOf]; omega
   ·have h4' : 400 < (x.size : Int) := by omega
    go_wp2
    go_ret
    exact ⟨retB (HV.out.trans (Zc6 (f := fun s => decide (s.size <= 400)) HX.out (by simp [h4]))).symm, hb⟩
  ·go_wp2
   go_ret
   have e : k = ox.length := by omega
   subst e
   exact ⟨retB (HV.out.trans (Zek HA.out)).symm, hb⟩
theorem Zgg (v1 v2 v3 v vb vo : Value) (ns : List Nd) (is : List In) (ds : List Df) (i : Int) (xs : List Nd) (m : Mc) (bx ox : List ByteArray) (w : World) (R1 : NRow w v1 ns) (R2 : InRow w v2 is) (R3 : DfRow w v3 ds) (R : NRow w v xs) (Rb : StRow w vb bx) (Ro : StRow w vo ox) (hz : ∀ x ∈ bx, x.size <= 140737488351232) (hg : ErrT w) :
  Calls Tryz.prog 156 #[.agg #[v1, v2, v3], .agg #[.int .i64 i, v, .int .i64 m.p, .int .i64 m.s, .int .i64 m.e, .int .i64 m.d, .int .i64 m.t, .int .i64 m.q, .int .i64 m.r, vb, vo]] w fun e w' => e = .returned (.bool (ZbJ ns is ds i xs m bx ox)) /\ Below w.heap.size w w' := by
 obtain ⟨ao, cap, rfl⟩ : ∃ ao cap, v = .slice ao xs.length cap := by obtain ⟨ao, cap, rfl, _⟩ := R; exact ⟨ao, cap, rfl⟩
 obtain ⟨a1, c1, rfl⟩ := R1.small
 obtain ⟨a2, c2, rfl⟩ := R2.small
 obtain ⟨a3, c3, rfl⟩ := R3.small
 obtain ⟨ab, cb, rfl⟩ := Rb.small
 obtain ⟨ac, cc, rfl⟩ := Ro.small
 obtain ⟨hB0, hk0, hx0⟩ := Zat w (Obj.cells #[.slice a1 ns.length c1, .slice a2 is.length c2, .slice a3 ds.length c3] 44) (Obj.cells #[.int .i64 i, .slice ao xs.length cap, .int .i64 m.p, .int .i64 m.s, .int .i64 m.e, .int .i64 m.d, .int .i64 m.t, .int .i64 m.q, .int .i64 m.r, .slice ab bx.length cb, .slice ac ox.length cc] 83)
 have HM : Hid (ZbJ ns is ds i xs m bx ox = (pidB i && (boxB bx && (outB ox && Za0 ns is ds xs m)))) := rfl
 go_enter Tryz.func156, Tryz.ntmps156
 go_wp2_with fail
 refine (Zjk _ _).mono ?_
 rintro e w1 ⟨rfl, rfl⟩
 generalize pidB i = b1 at HM ⊢
 cases b1 with
 | false =>
  go_wp2
  go_ret
  exact ⟨retB (by rw [HM.out]; rfl), hB0⟩
 | true =>
  go_wp2_with fail
  refine (Zgq _ bx _ (Rb.below hB0) hz (hg.below hB0 (Nat.le_refl _))).mono ?_
  rintro e w2 ⟨rfl, hb2⟩
  have hB2 := hB0.trans (hb2.mono hB0.size)
  have hk2 := (bb hk0 hb2)
  have hx2 := (bb hx0 hb2)
  clear hB0 hk0 hx0 hb2
  generalize boxB bx = b2 at HM ⊢
  cases b2 with
  | false =>
   go_wp2
   go_ret
   exact ⟨retB (by rw [HM.out]; rfl), hB2⟩
  | true =>
   have k0 : w2.cell? ⟨w.heap.size + 1, 0 + 10, none⟩ = some (.slice ac ox.length cc) := cell_of_row w2 _ 10 _ _ _ hx2
   go_wp2_with fail
   refine (ZfU _ ox _ (Ro.below hB2)).mono ?_
   rintro e w3 ⟨rfl, hb3⟩
   have hB3 := hB2.trans (hb3.mono hB2.size)
   have hk3 := (bb hk2 hb3)
   have hx3 := (bb hx2 hb3)
   clear hB2 hk2 hx2 hb3 k0
   generalize outB ox = b3 at HM ⊢
   cases b3 with
   | false =>
    go_wp2
    go_ret
    exact ⟨retB (by rw [HM.out]; rfl), hB3⟩
   | true =>
    have l0 : w3.cell? ⟨w.heap.size, 0, none⟩ = some (.slice a1 ns.length c1) := cell_of_row w3 _ 0 _ _ _ hk3
    have l1 : w3.cell? ⟨w.heap.size, 0 + 1, none⟩ = some (.slice a2 is.length c2) := cell_of_row w3 _ 1 _ _ _ hk3
    have l2 : w3.cell? ⟨w.heap.size, 0 + 2, none⟩ = some (.slice a3 ds.length c3) := cell_of_row w3 _ 2 _ _ _ hk3
    have k1 : w3.cell? ⟨w.heap.size + 1, 0 + 1, none⟩ = some (.slice ao xs.length cap) := cell_of_row w3 _ 1 _ _ _ hx3
    have k2 : w3.cell? ⟨w.heap.size + 1, 0 + 1 + 1, none⟩ = some (.int .i64 m.p) := cell_of_row w3 _ 2 _ _ _ hx3
    have k3 : w3.cell? ⟨w.heap.size + 1, 0 + 1 + 2, none⟩ = some (.int .i64 m.s) := cell_of_row w3 _ 3 _ _ _ hx3
    have k4 : w3.cell? ⟨w.heap.size + 1, 0 + 1 + 3, none⟩ = some (.int .i64 m.e) := cell_of_row w3 _ 4 _ _ _ hx3
    have k5 : w3.cell? ⟨w.heap.size + 1, 0 + 1 + 4, none⟩ = some (.int .i64 m.d) := cell_of_row w3 _ 5 _ _ _ hx3
    have k6 : w3.cell? ⟨w.heap.size + 1, 0 + 1 + 5, none⟩ = some (.int .i64 m.t) := cell_of_row w3 _ 6 _ _ _ hx3
    have k7 : w3.cell? ⟨w.heap.size + 1, 0 + 1 + 6, none⟩ = some (.int .i64 m.q) := cell_of_row w3 _ 7 _ _ _ hx3
    have k8 : w3.cell? ⟨w.heap.size + 1, 0 + 1 + 7, none⟩ = some (.int .i64 m.r) := cell_of_row w3 _ 8 _ _ _ hx3
    go_wp2_with fail
    refine (ZcB _ _ _ _ ns is ds xs m _ (R1.below hB3) (R2.below hB3) (R3.below hB3) (R.below hB3)).mono ?_
    rintro e w4 ⟨rfl, hb4⟩
    have hB4 := hB3.trans (hb4.mono hB3.size)
    clear hB3 hk3 hx3 hb4 l0 l1 l2
    generalize Za0 ns is ds xs m = b4 at HM ⊢
    cases b4 with
    | false =>
     go_wp2
     go_ret
     exact ⟨retB (by rw [HM.out]; rfl), hB4⟩
    | true =>
     go_wp2
     go_ret
     exact ⟨retB (by rw [HM.out]; rfl), hB4⟩
theorem ZkS (x : Int) (w : World) : Calls Tryz.prog 74 #[.int .i64 x, .int .i64 1, .int .i64 1000000000] w fun e w' => e = .returned (.bool (pidB x)) /\ w' = w := by
 refine (Zau x 1 1000000000 w).mono ?_
 rintro e w' ⟨rfl, rfl⟩
 exact ⟨retB (by simp [pidB]), rfl⟩
theorem Zgn (v1 v2 v3 v vb vo : Value) (ns : List Nd) (is : List In) (ds : List Df) (i : Int) (xs : List Nd) (m : Mc) (bx ox : List ByteArray) (w : World) (R1 : NRow w v1 ns) (R2 : InRow w v2 is) (R3 : DfRow w v3 ds) (R : NRow w v xs) (Rb : StRow w vb bx) (Ro : StRow w vo ox) (hz : ∀ x ∈ bx, x.size <= 140737488351232) :
  Calls Tryz.prog 129 #[.agg #[v1, v2, v3], .agg #[.int .i64 i, v, .int .i64 m.p, .int .i64 m.s, .int .i64 m.e, .int .i64 m.d, .int .i64 m.t, .int .i64 m.q, .int .i64 m.r, vb, vo]] w fun e w' => e = .returned (.bool (ZbJ ns is ds i xs m bx ox)) /\ Below w.heap.size w w' := by
 obtain ⟨ao, cap, rfl⟩ : ∃ ao cap, v = .slice ao xs.length cap := by obtain ⟨ao, cap, rfl, _⟩ := R; exact ⟨ao, cap, rfl⟩
 obtain ⟨a1, c1, rfl⟩ := R1.small
 obtain ⟨a2, c2, rfl⟩ := R2.small
 obtain ⟨a3, c3, rfl⟩ := R3.small
 obtain ⟨ab, cb, rfl, hcapb, hmb, hzb, hcellb⟩ := Rb
 obtain ⟨ac, cc, rfl, hcapc, hmc, hzc, hcellc⟩ := Ro
 obtain ⟨hB0, hk0, hx0⟩ := Zat w (Obj.cells #[.slice a1 ns.length c1, .slice a2 is.length c2, .slice a3 ds.length c3] 44) (Obj.cells #[.int .i64 i, .slice ao xs.length cap, .int .i64 m.p, .int .i64 m.s, .int .i64 m.e, .int .i64 m.d, .int .i64 m.t, .int .i64 m.q, .int .i64 m.r, .slice ab bx.length cb, .slice ac ox.length cc] 83)
 have HM : Hid (ZbJ ns is ds i xs m bx ox = (pidB i && (boxB bx && (outB ox && Za0 ns is ds xs m)))) := rfl
 have HV : Hid (boxB bx = (decide (bx.length <= 20) && bx.all fun s => vrB (sb s))) := rfl
 have HW : Hid (outB ox = (decide (ox.length <= 40) && ox.all fun s => decide (s.size <= 400))) := rfl
 go_enter Tryz.func129, Tryz.ntmps129
 go_wp2_with fail
 refine (ZkS _ _).mono ?_
 rintro e w1 ⟨rfl, rfl⟩
 generalize pidB i = b1 at HM ⊢
 cases b1 with
 | false =>
  go_wp2
  go_ret
  exact ⟨retB (by rw [HM.out]; rfl), hB0⟩
 | true =>
  go_wp2_with fail
  refine (Zdd _ _ _ _ ns is ds xs m _ (R1.below hB0) (R2.below hB0) (R3.below hB0) (R.below hB0)).mono ?_
  rintro e w2 ⟨rfl, hb2⟩
  have hB2 := hB0.trans (hb2.mono hB0.size)
  have hx2 := (bb hx0 hb2)
  clear hB0 hk0 hx0 hb2 R R1 R2 R3
  generalize Za0 ns is ds xs m = b2 at HM ⊢
  cases b2 with
  | false =>
   go_wp2
   go_ret
   exact ⟨retB (by rw [HM.out]; simp), hB2⟩
  | true =>
   have k9 : w2.cell? ⟨w.heap.size + 1, 0 + 9, none⟩ = some (.slice ab bx.length cb) := cell_of_row w2 _ 9 _ _ _ hx2
   by_cases l20 : bx.length <= 20
   rotate_left
   ·have l20' : 20 < (bx.length : Int) := by omega
    have HF : Hid (boxB bx = false) := by show boxB bx = false; simp [boxB, l20]
    go_wp2
    go_ret
    exact ⟨retB (by rw [HM.out, HF.out]; rfl), hB2⟩
   have k10 : w2.cell? ⟨w.heap.size + 1, 0 + 10, none⟩ = some (.slice ac ox.length cc) := cell_of_row w2 _ 10 _ _ _ hx2
   by_cases l40 : ox.length <= 40
   rotate_left
   ·have l40' : 40 < (ox.length : Int) := by omega
    have HF : Hid (outB ox = false) := by show outB ox = false; simp [outB, l40]
    go_wp2
    go_ret
    exact ⟨retB (by rw [HM.out, HF.out]; simp), hB2⟩
   replace HV : Hid (boxB bx = bx.all fun s => vrB (sb s)) := by show boxB bx = bx.all fun s => vrB (sb s); simp [boxB, l20]
   replace HW : Hid (outB ox = ox.all fun s => decide (s.size <= 400)) := by show outB ox = ox.all fun s => decide (s.size <= 400); simp [outB, l40]
   go_wp2
   clear k9 k10 l20 l40
   go_loopw [5] (fun i wr => ∃ k : Nat, k <= bx.length /\ i = .int .i64 k /\ Hid (∀ j x, bx[j]? = some x -> j < k -> vrB (sb x) = true) /\ Below w2.heap.size w2 wr) (fun i _ => bx.length - (intOf i).toNat)
   case atStart => exact ⟨0, by omega, rfl, fun j x _ h => by omega, Below.refl _ _⟩
   case round =>
    obtain ⟨k, hk, rfl, HA, hb⟩ := hrel
    have hxr := (bb hx2 hb)
    have k9 : wr.cell? ⟨w.heap.size + 1, 0 + 9, none⟩ = some (.slice ab bx.length cb) := cell_of_row wr _ 9 _ _ _ hxr
    have hBr := hB2.trans (hb.mono hB2.size)
    clear hB2 hx2
    by_cases hlt : k < bx.length
    ·obtain ⟨g, o, rfl, hgg, hcellb⟩ := hcellb (by intro e; subst e; simp at hlt)
     obtain ⟨x, hx⟩ : ∃ x, bx[k]? = some x := ⟨bx[k], by simp [hlt]⟩
     have c0 := (hBr.cell (p := ⟨g, o + k, none⟩) hgg).trans (hcellb k x hx)
     have HR := Zhs x wr (hz x (List.mem_of_getElem? hx))
     unfold VrAns at HR
     have HF := fun h => Zc6 (f := fun s => vrB (sb s)) hx h
     have HA2 := fun h => Zc3 (f := fun s => vrB (sb s)) HA.out hx h
     clear hcellb hx hcellc hxr
     generalize vrB (sb x) = bv at HR HF HA2
     go_wp2_with fail
     refine HR.mono ?_
     rintro e w3 ⟨⟨v3, rfl, ho3⟩, hb3⟩
     obtain ⟨ao3, cap3, rfl⟩ := Zae ho3
     have hb4 := hb.trans ((hb3.trans (((Below.refl w3.heap.size w3).alloc (Nat.le_refl _) (Obj.cells #[.slice ao3 (vrL (sb x)).length cap3] 40)).mono hb3.size)).mono hb.size)
     have hB4 := hBr.trans ((hb3.trans (((Below.refl w3.heap.size w3).alloc (Nat.le_refl _) (Obj.cells #[.slice ao3 (vrL (sb x)).length cap3] 40)).mono hb3.size)).mono hBr.size)
     clear HR ho3 hb3 c0 k9 hb hBr
     cases bv with
     | true =>
      have HA4 : Hid (∀ j x, bx[j]? = some x -> j < k + 1 -> vrB (sb x) = true) := HA2 rfl
      clear HA HA2 HF hB4
      go_wp2
      go_roundw
      case rel => exact ⟨k + 1, by omega, by go_num, HA4, hb4⟩
      case measure => simp [intOf]; omega
     | false =>
      have HF2 : Hid ((bx.all fun s => vrB (sb s)) = false) := HF rfl
      clear HA HA2 HF hb4
      go_wp2
      go_ret
      exact ⟨retB (by rw [HM.out, HV.out, HF2.out]; rfl), hB4⟩
    ·have e : k = bx.length := by omega
     subst e
     have HA5 : Hid (boxB bx = true) := HV.out.trans (Zek HA.out)
     clear HA HV hcellb hb hlt hk
     go_wp2
     clear k9
     obtain ⟨wz, hwz⟩ : ∃ z, z = wr := ⟨_, rfl⟩
     subst hwz
     go_loopw [9] (fun i wq => ∃ k : Nat, k <= ox.length /\ i = .int .i64 k /\ Hid (∀ j x, ox[j]? = some x -> j < k -> decide (x.size <= 400) = true) /\ Below wz.heap.size wz wq) (fun i _ => ox.length - (intOf i).toNat)
     case atStart => exact ⟨0, by omega, rfl, fun j x _ h => by omega, Below.refl _ _⟩
     case round =>
      obtain ⟨k, hk, rfl, HA, hb⟩ := hrel
      have hxq := (bb hxr hb)
      have k10 : wr.cell? ⟨w.heap.size + 1, 0 + 10, none⟩ = some (.slice ac ox.length cc) := cell_of_row wr _ 10 _ _ _ hxq
      have hBq := hBr.trans (hb.mono hBr.size)
      clear hBr hxr
      by_cases hlt : k < ox.length
      ·obtain ⟨g, o, rfl, hgg, hcellc⟩ := hcellc (by intro e; subst e; simp at hlt)
       obtain ⟨x, hx⟩ : ∃ x, ox[k]? = some x := ⟨ox[k], by simp [hlt]⟩
       have c0 := (hBq.cell (p := ⟨g, o + k, none⟩) hgg).trans (hcellc k x hx)
       have hxs := hzc x (List.mem_of_getElem? hx)
       unfold maxLen at hxs
       have HX : Hid (ox[k]? = some x) := hx
       clear hcellc hx
       by_cases h4 : x.size <= 400
       ·have h4' : ¬ 400 < (x.size : Int) := by omega
        go_wp2
        go_roundw
        case rel => exact ⟨k + 1, by omega, by go_num, Zc3 (f := fun s => decide (s.size <= 400)) HA.out HX.out (by simp [h4]), hb⟩
        case measure => simp [intOf]; omega
       ·have h4' : 400 < (x.size : Int) := by omega
        go_wp2
        go_ret
        exact ⟨retB (by rw [HM.out, HW.out, Zc6 (f := fun s => decide (s.size <= 400)) HX.out (by simp [h4])]; simp), hBq⟩
      ·go_wp2
       go_ret
       have e : k = ox.length := by omega
       subst e
       exact ⟨retB (by rw [HM.out, HA5.out, HW.out, Zek HA.out]; rfl), hBq⟩
def argB (m : Mc) : Bool := (m.t == 1) || (m.t == 2)
def tdR (m : Mc) : List Int := if argB m then [m.s, m.e, m.d, m.r] else [m.s, m.e, m.d]
def tdOk (xs : List Nd) (m : Mc) : Bool := Zap xs && allI xs (tdR m)
def tdF (xs : List Nd) (m : Mc) (r : Int) : Int := (Zbv 0 xs (Zas xs (tdR m))).2.getD r.toNat 0
def tdL (xs : List Nd) (m : Mc) : List Nd := if tdOk xs m then mvN 0 xs (tdR m) else xs
def tdM (xs : List Nd) (m : Mc) : Mc := if tdOk xs m then ⟨m.p, tdF xs m m.s, tdF xs m m.e, tdF xs m m.d, m.t, m.q, if argB m then tdF xs m m.r else m.r⟩ else m
theorem Zgr (m : Mc) : (tdR m).length = if argB m then 4 else 3 := by unfold tdR; split <;> rfl
theorem Zgd (u : Value) (m : Mc) (w : World) :
  Calls Tryz.prog 266 #[.agg #[u, .int .i64 m.p, .int .i64 m.s, .int .i64 m.e, .int .i64 m.d, .int .i64 m.t, .int .i64 m.q, .int .i64 m.r]] w fun e w' => e = .returned (.bool (argB m)) /\ Below w.heap.size w w' := by
 have hB : Below w.heap.size w (w.alloc (Obj.cells #[u, .int .i64 m.p, .int .i64 m.s, .int .i64 m.e, .int .i64 m.d, .int .i64 m.t, .int .i64 m.q, .int .i64 m.r] 81)) := (Below.refl _ _).alloc (Nat.le_refl _) _
 unfold argB
 by_cases h1 : m.t = 1
 ·rw [h1]
  go_enter Tryz.func266, Tryz.ntmps266
  go_wp2
  go_ret
  exact ⟨rfl, (Below.refl _ _).alloc (Nat.le_refl _) _⟩
 ·have h1b : (m.t == 1) = false := by simp [h1]
  rw [h1b, Bool.false_or]
  go_enter Tryz.func266, Tryz.ntmps266
  go_wp2
  go_ret
  exact ⟨rfl, hB⟩
theorem ZgP (w : World) (l : List Int) (t : TypeId) (n : Nat) (h : n <= l.length) (hm : l.length <= 100) : IRow (w.alloc (Obj.cells (iv l).toArray t)) (.slice (some ⟨w.heap.size, 0, none⟩) n n) (l.take n) := by
 have hl : (l.take n).length = n := by simp; omega
 refine ⟨some ⟨w.heap.size, 0, none⟩, n, by rw [hl], ⟨by omega, fun h => by cases h⟩, by omega, fun _ => ⟨w.heap.size, 0, rfl, by simp, fun i hi => ?_⟩⟩
 rw [cell_of_row _ _ _ _ _ _ (heap_alloc_new w _), Nat.zero_add]
 rw [hl] at hi
 rw [Zjs _ _ _ _ hi, List.getElem?_toArray, ZcI _ _ (by omega)]
theorem Zhm (ao : Option Addr) (n cap : Nat) (m : Mc) (w : World) :
  Calls Tryz.prog 257 #[.agg #[.slice ao n cap, .int .i64 m.p, .int .i64 m.s, .int .i64 m.e, .int .i64 m.d, .int .i64 m.t, .int .i64 m.q, .int .i64 m.r]] w fun e w' => ∃ v', e = .returned v' /\ IRow w' v' (tdR m) /\ Below w.heap.size w w' := by
 have hB2 := ZkF w (Obj.cells #[.slice ao n cap, .int .i64 m.p, .int .i64 m.s, .int .i64 m.e, .int .i64 m.d, .int .i64 m.t, .int .i64 m.q, .int .i64 m.r] 81) (Obj.cells #[.int .i64 m.s, .int .i64 m.e, .int .i64 m.d, .int .i64 m.r] 3)
 have L4 := ZgP (w.alloc (Obj.cells #[.slice ao n cap, .int .i64 m.p, .int .i64 m.s, .int .i64 m.e, .int .i64 m.d, .int .i64 m.t, .int .i64 m.q, .int .i64 m.r] 81)) [m.s, m.e, m.d, m.r] 3 4 (by simp) (by simp)
 have L3 := ZgP (w.alloc (Obj.cells #[.slice ao n cap, .int .i64 m.p, .int .i64 m.s, .int .i64 m.e, .int .i64 m.d, .int .i64 m.t, .int .i64 m.q, .int .i64 m.r] 81)) [m.s, m.e, m.d, m.r] 3 3 (by simp) (by simp)
 have hs1 : (w.alloc (Obj.cells #[.slice ao n cap, .int .i64 m.p, .int .i64 m.s, .int .i64 m.e, .int .i64 m.d, .int .i64 m.t, .int .i64 m.q, .int .i64 m.r] 81)).heap.size = w.heap.size + 1 := by simp
 rw [hs1] at L4 L3
 have HT : Hid (tdR m = if argB m then [m.s, m.e, m.d, m.r] else [m.s, m.e, m.d]) := rfl
 clear hs1
 go_enter Tryz.func257, Tryz.ntmps257
 go_wp2_with fail
 refine (Zgd _ m _).mono ?_
 rintro e w1 ⟨rfl, hb1⟩
 have hB1 := hB2.trans (hb1.mono hB2.size)
 have L4' := L4.below hb1
 have L3' := L3.below hb1
 clear L4 L3 hB2 hb1
 cases hA : argB m with
 | true =>
  rw [hA] at HT
  go_wp2
  go_ret
  exact ⟨_, rfl, by rw [HT.out]; exact L4', hB1⟩
 | false =>
  rw [hA] at HT
  go_wp2
  go_ret
  exact ⟨_, rfl, by rw [HT.out]; exact L3', hB1⟩
def mcs (v : Value) (m : Mc) : Array Value := #[v, .int .i64 m.p, .int .i64 m.s, .int .i64 m.e, .int .i64 m.d, .int .i64 m.t, .int .i64 m.q, .int .i64 m.r]
end Go.Proofs.YtfmafkebddojjaaGreatDoor
