/-
  Texts that stood by themselves, laid into one.
-/
import Derived.Test.YtenegpbpalbpeaaGreatDoorMv2M
import Derived.Test.YtenegpbpalbpeaaGreatDoorSIntoM
import Derived.Deep.RegionHeld
import Derived.Test.YtenegpbpalbpeaaGreatDoorIWire2M
import Derived.Test.YtenegpbpalbpeaaGreatDoorRValM
import Derived.Test.YtenegpbpalbpeaaGreatDoorSzGenM
import Derived.Test.YtenegpbpalbpeaaGreatDoorBsM
import Derived.Test.YtenegpbpalbpeaaGreatDoorS8RdM
/-
  Contract of impl's Keep. No condition but that the roots are no more than a row bears.
-/
namespace Go.Proofs.YtenegpbpalbpeaaGreatDoor
open Go.RowKit
def keepL (xs : List Nd) (rs : List Int) : List Nd := if poolB xs && allI xs rs then mvN 0 xs rs else []
def keepR (xs : List Nd) (rs : List Int) : List Int := if poolB xs && allI xs rs then mvR 0 xs rs rs else []
end Go.Proofs.YtenegpbpalbpeaaGreatDoor
/-
  Contracts of spec's l7Keep and Keep. Conditions of l7Keep: the pool is right, and all roots are nodes of it.
-/
namespace Go.Proofs.YtenegpbpalbpeaaGreatDoor
open Go.RowKit
theorem drew_step {w w' : World} (h : Below w.drew.heap.size w.drew w') : Below w.heap.size w w' := (Below.refl w.heap.size w).drew.trans h
set_option maxRecDepth 100000 in
set_option maxHeartbeats 3200000 in
theorem slkeep_any (ao : Option Addr) (cap : Nat) (vl : Value) (xs : List Nd) (rs : List Int) (w : World) (R : NRow w (.slice ao xs.length cap) xs) (L : IRow w vl rs) (hp : poolB xs = true) (hr : allI xs rs = true) (hrs : rs.length ≤ 1048576) :
    Calls Tryz.prog 179 #[.agg #[.slice ao xs.length cap], vl] w fun e w' => ∃ v1 v2, e = .returned (.tuple #[.agg #[v1], v2]) ∧ w'.ownsRow w.heap.size 178 5 v1 (mvN 0 xs rs).length (ncs (mvN 0 xs rs)) ∧ w'.ownsRow w.heap.size 3 1 v2 rs.length (iv (mvR 0 xs rs rs)) ∧ Below w.heap.size w w' := by
  obtain ⟨i0, hi, hz0, hz1, hz2⟩ := info_parts Tryz.infoI9
  have hlen := poolB_len hp
  have hB2 : Below w.heap.size w ((w.alloc (Obj.cells #[.slice ao xs.length cap] 40)).alloc (Obj.cells #[.slice none 0 0] 40)) := below2 w _ _
  have hs2 : ((w.alloc (Obj.cells #[.slice ao xs.length cap] 40)).alloc (Obj.cells #[.slice none 0 0] 40)).heap.size = w.heap.size + 1 + 1 := by simp
  have hx2 := old2 w (Obj.cells #[.slice ao xs.length cap] 40) (Obj.cells #[.slice none 0 0] 40)
  have hy2 := heap_alloc2_new w (Obj.cells #[.slice ao xs.length cap] 40) (Obj.cells #[.slice none 0 0] 40)
  have hrl := reachL_length xs rs
  go_enter Tryz.func179, Tryz.ntmps179
  go_wp2_with fail
  have hb3 := heap_alloc_new ((w.alloc (Obj.cells #[.slice ao xs.length cap] 40)).alloc (Obj.cells #[.slice none 0 0] 40)) (Obj.cells #[.slice none 0 0] 40)
  have h23 : Below (w.heap.size + 1 + 1) ((w.alloc (Obj.cells #[.slice ao xs.length cap] 40)).alloc (Obj.cells #[.slice none 0 0] 40)) (((w.alloc (Obj.cells #[.slice ao xs.length cap] 40)).alloc (Obj.cells #[.slice none 0 0] 40)).alloc (Obj.cells #[.slice none 0 0] 40)) := (Below.refl _ _).alloc (by rw [hs2]; exact Nat.le_refl _) _
  have hs3 : (((w.alloc (Obj.cells #[.slice ao xs.length cap] 40)).alloc (Obj.cells #[.slice none 0 0] 40)).alloc (Obj.cells #[.slice none 0 0] 40)).heap.size = w.heap.size + 1 + 1 + 1 := by simp
  rw [hs2] at hb3
  generalize ((w.alloc (Obj.cells #[.slice ao xs.length cap] 40)).alloc (Obj.cells #[.slice none 0 0] 40)).alloc (Obj.cells #[.slice none 0 0] 40) = W3 at *
  generalize (w.alloc (Obj.cells #[.slice ao xs.length cap] 40)).alloc (Obj.cells #[.slice none 0 0] 40) = W2 at *
  have hB3 := hB2.trans (h23.mono (by omega))
  have R2 := R.below hB2
  have k3 : W3.cell? ⟨w.heap.size, 0, none⟩ = some (.slice ao xs.length cap) := by rw [cell_of_row W3 _ 0 _ _ _ ((h23.block _ (by omega)).trans hx2)]; rfl
  have hl3 : w.heap.size < W3.heap.size := by omega
  go_region_held (fun w' => w'.cell? ⟨w.heap.size, 0, none⟩ = some (.slice ao xs.length cap)) (first | exact k5 | exact k4 | go_keep) (first
    | (go_at_call 188; refine (slreach_any ao cap vl xs rs _ ?_ ?_ hp hr).mono ?_; exact R.below hB3.drew; exact L.below hB3.drew; rintro e wk ⟨vk, rfl, hok, hbk⟩; obtain ⟨aok, capk, rfl⟩ := own_form hok
       have hb34 : Below W3.heap.size W3 wk := drew_step hbk
       have k4 := (hb34.cell (p := ⟨w.heap.size, 0, none⟩) hl3).trans k3)
    | (go_at_call 187; refine (sinto_any (w.heap.size + 1 + 1) (w.heap.size + 1 + 1) none 0 [] xs (reachL xs rs) ao cap _ W2 _ ((hb34.block _ (by omega)).trans hb3) (World.ownsRow_nil _ _ _ _) (Nat.le_refl _) R2 (by omega) (h23.trans (hb34.mono (by omega))) (own_mono hok (by show w.heap.size + 1 + 1 ≤ W3.heap.size; omega)) hrl hp (by simp)).mono ?_; rintro e w5 ⟨v5, vp, rfl, hb5, ho5, hi5, hB5⟩; obtain ⟨a5, q5, rfl⟩ := own_form hi5
       have k5 : w5.cell? ⟨w.heap.size, 0, none⟩ = some (.slice ao xs.length cap) := by rw [cell_of_row w5 _ 0 _ _ _ ((hB5.block _ (by omega)).trans hx2)]; rfl))
  have HN : Hid (mvN 0 xs rs = (mvAll 0 xs (reachL xs rs)).1) := rfl
  have HR : Hid (mvR 0 xs rs rs = rs.map (fun r => (mvAll 0 xs (reachL xs rs)).2.getD r.toNat 0)) := rfl
  have hl2 : (mvAll 0 xs (reachL xs rs)).2.length = xs.length := (mvF_len _ _ _).2
  rw [List.nil_append] at ho5
  rw [show ([] : List Nd).length = 0 from rfl] at ho5 hi5
  generalize mvAll 0 xs (reachL xs rs) = M at *
  obtain ⟨S1, S2⟩ := M
  simp only at hl2 ho5 hi5 HN HR
  obtain ⟨ap, qp, rfl⟩ := own_form ho5
  have hBw := hB2.trans (hB5.mono (by omega))
  have hy5 := (hB5.block (w.heap.size + 1) (by omega)).trans hy2
  have hlw5 := (Array.getElem?_eq_some_iff.1 hb5).1
  obtain ⟨al, cl, rfl, hcl, _, hlc⟩ := L
  have hB6 : Below w5.heap.size w5 (w5.alloc (Obj.cells #[] 3)) := (Below.refl _ _).alloc (Nat.le_refl _) _
  have hi6 := own_none0 w5 3 1 w5.heap.size (Nat.le_refl _)
  clear k5 k4 hok hbk hb34 k3 hb3 h23 hx2 hy2 hB3 hB5 R2 R hB2 hrl
  go_wp2_with fail
  go_loopw [8, 9] (fun s i wr => ∃ (j : Nat), j ≤ rs.length ∧ i = .int .i64 j ∧ wr.ownsRow w5.heap.size 3 1 s j (iv ((rs.take j).map (fun r => S2.getD r.toNat 0))) ∧ Below w5.heap.size w5 wr) (fun _ i _ => rs.length - (intOf i).toNat)
  case atStart => exact ⟨0, by omega, rfl, hi6, hB6⟩
  case round =>
    clear hi6 hB6
    obtain ⟨j, hj, rfl, hownj, hBj⟩ := hrel
    by_cases hlt : j < rs.length
    · obtain ⟨g, o, rfl, hg, hlc⟩ := hlc (by intro e; subst e; simp at hlt)
      have ez := (hBj.cell (p := ⟨g, o + j, none⟩) (Nat.lt_of_lt_of_le hg hBw.size)).trans ((hBw.cell (p := ⟨g, o + j, none⟩) hg).trans (hlc j hlt))
      obtain ⟨z0, z1⟩ := allI_at hr j hlt
      have HT : Hid (iv ((rs.take (j + 1)).map (fun r => S2.getD r.toNat 0)) = iv ((rs.take j).map (fun r => S2.getD r.toNat 0)) ++ [.int .i64 (S2.getD (rs.getD j 0).toNat 0)]) := by
        unfold Hid
        rw [List.take_succ_eq_append_getElem hlt, List.map_append, iv_append, List.getD_eq_getElem?_getD (l := rs), List.getElem?_eq_getElem hlt]
        rfl
      generalize rs.getD j 0 = z at ez z0 z1 HT
      obtain ⟨nz, rfl⟩ := Int.eq_ofNat_of_zero_le z0
      rw [Int.toNat_natCast] at HT
      rcases hi5.2 with ⟨hnil, hn0⟩ | ⟨g5, cap5, cur5, e5, _, _, _⟩
      · omega
      simp only [Value.slice.injEq, true_and] at e5
      obtain ⟨rfl, rfl⟩ := e5
      have e9 := (hBj.cell (p := ⟨g5, nz, none⟩) (hi5.lt _ rfl).2).trans ((hi5.cellAt nz (by omega)).trans (iv_get _ _ (by omega)))
      generalize S2.getD nz 0 = y at e9 HT
      obtain ⟨asj, qsj, rfl⟩ := own_form hownj
      clear hlc hr
      have hsj := hBj.size
      go_wp2_with (at_builtin; refine wpList_append_own _ rfl _ _ 221 rfl w5.heap.size 3 i0 (.int .i64 0) 1 8 Tryz.underlying221 hi hz0 hz1 hz2 rfl (by decide) _ _ _ rfl (hownj.alloc _) ⟨wr.heap.size, 0, none⟩ 1 1 [.int .i64 y] rfl rfl (cell_one_new _ _ _) (by simp [Value.oneCell']) (by unfold maxLen; omega) (by omega) (by simp; omega) ?_)
      intro v7 w8 hown8 hg8' _
      have hB8 : Below w5.heap.size w5 w8 := (hBj.alloc hsj _).grown hg8' (by simp; omega) (fun k hk => (hownj.lt k hk).1)
      have hown8' : w8.ownsRow w5.heap.size 3 1 v7 (j + 1) (iv ((rs.take (j + 1)).map (fun r => S2.getD r.toNat 0))) := by rw [HT.out]; simpa only [List.map_take, List.getD_eq_getElem?_getD] using hown8
      clear hg8' hown8
      go_wp2_with fail
      go_roundw
      case rel => exact ⟨j + 1, by omega, by go_num, hown8', hB8⟩
      case measure => simp [intOf]; omega
    · have hje : j = rs.length := by omega
      subst hje
      have hbj := (hBj.block _ hlw5).trans hb5
      have hyj := (hBj.block _ (by omega)).trans hy5
      have c6 : wr.cell? ⟨w.heap.size + 1 + 1, 0, none⟩ = some (.slice ap S1.length qp) := by rw [cell_of_row wr _ 0 _ _ _ hbj]; rfl
      have c4 : wr.cell? ⟨w.heap.size + 1, 0, none⟩ = some (.slice none 0 0) := by rw [cell_of_row wr _ 0 _ _ _ hyj]; rfl
      have f4 : wr.frozen? ⟨w.heap.size + 1, 0, none⟩ = false := frozen_of_row wr _ 0 _ _ hyj
      have ho6 := own_below ho5 hBj
      rw [List.take_length, ← HR.out] at hownj
      obtain ⟨asj, qsj, rfl⟩ := own_form hownj
      have hBr := hBw.trans (hBj.mono hBw.size)
      obtain ⟨p1, p2, p3⟩ := put_pool hyj ho6 hBr (by omega) (by omega)
      have p4 := own_mono (B' := w.heap.size) (ownsRow_setCell_below hownj (a := ⟨w.heap.size + 1, 0, none⟩) (by show w.heap.size + 1 < w5.heap.size; omega) (.slice ap S1.length qp)) (by omega)
      go_wp2_with fail
      refine bodyPost_ret (results_row_tmp rfl _ _ (w.heap.size + 1) 40 _ (0, 0) _ rfl p1 Tryz.underlying40 rfl Tryz.sizeP) rfl ⟨_, .slice asj rs.length qsj, rfl, ?_, p4, p3⟩
      rw [HN.out]
      exact p2
end Go.Proofs.YtenegpbpalbpeaaGreatDoor
/-
  What ValuePack answers, and the contracts of both ValuePack. No condition.
-/
namespace Go.Proofs.YtenegpbpalbpeaaGreatDoor
open Go.RowKit
def vpB (xs : List Nd) (v : Int) : Bool := poolB xs && hasI xs v
def vpR (xs : List Nd) (v : Int) : ByteArray := if vpB xs v then strOfNums (wireL (mvN 0 xs [v])) else ByteArray.empty
set_option maxRecDepth 100000 in
set_option maxHeartbeats 3200000 in
theorem svpack_any (v : Value) (xs : List Nd) (a : Int) (w : World) (R : NRow w v xs) :
    Calls Tryz.prog 157 #[.agg #[v], .int .i64 a] w fun e w' => e = .returned (.tuple #[.string (vpR xs a), .bool (vpB xs a)]) ∧ Below w.heap.size w w' := by
  have R' := R
  obtain ⟨ao, cap, rfl, _⟩ := R'
  have hB0 : Below w.heap.size w (w.alloc (Obj.cells #[.slice ao xs.length cap] 40)) := (Below.refl _ _).alloc (Nat.le_refl _) _
  go_enter Tryz.func157, Tryz.ntmps157
  go_wp2_with fail
  refine (spool_any _ xs _ (R.below hB0)).mono ?_
  rintro e w1 ⟨rfl, hb1⟩
  have hx1 : w1.heap[w.heap.size]? = some (.cells #[.slice ao xs.length cap] 40 (0, 0)) := (hb1.block _ (by simp)).trans (heap_alloc_new _ _)
  have hB1 := hB0.trans (hb1.mono hB0.size)
  have c1 : w1.cell? ⟨w.heap.size, 0, none⟩ = some (.slice ao xs.length cap) := cell_of_row w1 _ 0 _ _ _ hx1
  clear hB0 hb1
  cases hp : poolB xs with
  | false =>
    have HB : Hid (vpB xs a = false) := by unfold Hid vpB; rw [hp]; rfl
    have HR : Hid (vpR xs a = ByteArray.empty) := by unfold Hid vpR; rw [HB.out]; rfl
    go_wp2
    go_ret2
    exact ⟨by rw [HB.out, HR.out]; rfl, hB1⟩
  | true =>
    have hlen := pool_small hp
    go_wp2_with fail
    refine (shas_any _ xs a _ (R.below hB1)).mono ?_
    rintro e w2 ⟨rfl, hb2⟩
    have hx2 := (hb2.block _ (Array.getElem?_eq_some_iff.1 hx1).1).trans hx1
    have hB2 := hB1.trans (hb2.mono hB1.size)
    have c2 : w2.cell? ⟨w.heap.size, 0, none⟩ = some (.slice ao xs.length cap) := cell_of_row w2 _ 0 _ _ _ hx2
    clear hB1 hb2 hx1 c1
    cases hh : hasI xs a with
    | false =>
      have HB : Hid (vpB xs a = false) := by unfold Hid vpB; rw [hh, Bool.and_false]
      have HR : Hid (vpR xs a = ByteArray.empty) := by unfold Hid vpR; rw [HB.out]; rfl
      go_wp2
      go_ret2
      exact ⟨by rw [HB.out, HR.out]; rfl, hB2⟩
    | true =>
      have HB : Hid (vpB xs a = true) := by unfold Hid vpB; rw [hh, hp]; rfl
      have HR : Hid (vpR xs a = strOfNums (wireL (mvN 0 xs [a]))) := by unfold Hid vpR; rw [HB.out]; rfl
      have hall : allI xs [a] = true := by simp [allI, hh]
      have hml := mvN_len 0 xs [a]
      have hok := mv_right 0 xs [a] hp (by omega)
      have hB3 : Below w2.heap.size w2 (w2.alloc (Obj.cells #[.int .i64 a] 3)) := (Below.refl _ _).alloc (Nat.le_refl _) _
      go_wp2_with fail
      refine (slkeep_any ao cap _ xs [a] _ (R.below (hB2.trans (hB3.mono hB2.size))) (irow_one (heap_alloc_new w2 _)) hp hall (by simp)).mono ?_
      rintro e w3 ⟨v1, v2, rfl, ho1, _, hb3⟩
      have hB4 := (hB2.trans (hB3.mono hB2.size)).trans (hb3.mono (hB2.trans (hB3.mono hB2.size)).size)
      clear hB2 hB3 hb3 hx2 c2
      generalize mvN 0 xs [a] = ys at *
      obtain ⟨a1, k1, rfl⟩ := own_form ho1
      have hB6 : Below w3.heap.size w3 (w3.alloc (Obj.cells #[.slice a1 ys.length k1] 40)) := (Below.refl _ _).alloc (Nat.le_refl _) _
      have R1 := NRow.of_own ho1 (by omega) (ndok_max hok)
      go_wp2_with fail
      refine (snodes8_any _ ys _ (R1.below hB6) hok (by omega)).mono ?_
      rintro e w4 ⟨v4, rfl, ho4, hb4⟩
      obtain ⟨a4, k4, rfl⟩ := own_form ho4
      have hB5 := (hB4.trans (hB6.mono hB4.size)).trans (hb4.mono (hB4.trans (hB6.mono hB4.size)).size)
      have hT := own_text ho4
      go_wp2_with (refine wpList_bytes_text _ rfl _ 203 9 5 rfl Tryz.underlying203 Tryz.underlying9 Tryz.underlying5 a4 (wireL ys).length k4 (wireL ys) rfl rfl hT ?_)
      go_ret2
      exact ⟨by rw [HB.out, HR.out]; rfl, hB5⟩
end Go.Proofs.YtenegpbpalbpeaaGreatDoor
/-
  The contract of spec.ValueRead: the value of the bytes, or nothing. No condition but a bound on the text.
-/
namespace Go.Proofs.YtenegpbpalbpeaaGreatDoor
open Go.RowKit
theorem str_eq {l : List Int} {s : ByteArray} (hl : ∀ z ∈ l, 0 ≤ z ∧ z ≤ 255) : strOfNums l = s ↔ l = sb s := by
  constructor
  · intro h
    rw [← h, sb_str hl]
  · intro h
    rw [h, strOfNums_sb]
theorem vr_by {s : ByteArray} {xs : List Nd} {at_ : Int} {k : Bool} (hs : sP (sb s) 0 true = (xs, at_, k)) : 
    (sOk (sb s) 0 true = false → vrR (sb s) = none) ∧ (xs = [] → vrR (sb s) = none) ∧ (sOk (sb s) 0 true = true → xs ≠ [] → (poolB xs = true ∧ vpB xs ((xs.length : Int) - 1) = true) ∧ (vpR xs ((xs.length : Int) - 1) = s → vrR (sb s) = some xs) ∧ (vpR xs ((xs.length : Int) - 1) ≠ s → vrR (sb s) = none)) := by
  have key := fun ys => vrR_spec (sb s) (sb_wf s) ys
  rw [hs] at key
  refine ⟨fun h => ?_, fun h => ?_, fun h hne => ?_⟩
  · cases hv : vrR (sb s) with
    | none => rfl
    | some ys => have := ((key ys).1 hv).1.1; rw [h] at this; cases this
  · cases hv : vrR (sb s) with
    | none => rfl
    | some ys => obtain ⟨⟨_, h2⟩, h3, _⟩ := (key ys).1 hv; exact absurd (h2.symm.trans h) h3
  · have hp : poolB xs = true := by
      unfold sOk at h
      rw [hs] at h
      simp only [Bool.and_eq_true] at h
      exact h.2
    have hpos := List.length_pos_iff.2 hne
    have hvp : vpB xs ((xs.length : Int) - 1) = true := by unfold vpB hasI; rw [hp]; simp; omega
    have hR : vpR xs ((xs.length : Int) - 1) = strOfNums (wireL (mvN 0 xs [(xs.length : Int) - 1])) := by unfold vpR; rw [if_pos hvp]
    refine ⟨⟨hp, hvp⟩, fun e => ?_, fun e => ?_⟩
    · rw [hR, str_eq (wireL_wf _)] at e
      exact (key xs).2 ⟨⟨h, rfl⟩, hne, e⟩
    · cases hv : vrR (sb s) with
      | none => rfl
      | some ys =>
        obtain ⟨⟨_, h2⟩, _, h4⟩ := (key ys).1 hv
        have h2 : xs = ys := h2
        subst h2
        exact absurd (by rw [hR, str_eq (wireL_wf _)]; exact h4) e
set_option maxRecDepth 100000 in
set_option maxHeartbeats 3200000 in
theorem svread_any (s : ByteArray) (w : World) (hs : s.size ≤ 140737488351232) :
    Calls Tryz.prog 131 #[.string s] w fun e w' => VrAns w.heap.size (sb s) e w' ∧ Below w.heap.size w w' := by
  have hB0 : Below w.heap.size w (w.alloc (Obj.cells #[.slice none 0 0] 40)) := (Below.refl _ _).alloc (Nat.le_refl _) _
  go_enter Tryz.func131, Tryz.ntmps131
  go_wp2_with (first
    | (refine wpList_bytes8 _ rfl _ 9 203 5 rfl Tryz.underlying9 Tryz.underlying203 Tryz.underlying5 s rfl ?_; intro cap w2 g0 g1 g2 g3))
  have e1 : (w.alloc (Obj.cells #[.slice none 0 0] 40)).heap.size = w.heap.size + 1 := by simp
  have RR := row_of_bytes (w := w.alloc (Obj.cells #[.slice none 0 0] 40)) hs g0 g1 g3
  rw [e1] at RR g3
  have x2 := (g2.block w.heap.size (by rw [e1]; omega) (by simp)).trans (heap_alloc_new w _)
  have B2 : Below w.heap.size w w2 := hB0.grown g2 hB0.size (fun k hk => by cases hk)
  clear e1 g1 g2
  have B3 : Below w2.heap.size w2 (w2.alloc (Obj.cells #[.slice (some ⟨w.heap.size + 1, 0, none⟩) s.size cap, .int .i64 0, .bool true] 207)) := (Below.refl _ _).alloc (Nat.le_refl _) _
  have hC3 : C8 (w2.alloc (Obj.cells #[.slice (some ⟨w.heap.size + 1, 0, none⟩) s.size cap, .int .i64 0, .bool true] 207)) w2.heap.size (.slice (some ⟨w.heap.size + 1, 0, none⟩) s.size cap) 0 true := heap_alloc_new _ _
  have x3 := (B3.block w.heap.size (by omega)).trans x2
  have B03 := B2.trans (B3.mono B2.size)
  have HRD := s8read_any w2.heap.size _ (sb s) 0 true _ (RR.below B3) hC3 (by omega) (by omega)
  have s3 : (w2.alloc (Obj.cells #[.slice (some ⟨w.heap.size + 1, 0, none⟩) s.size cap, .int .i64 0, .bool true] 207)).heap.size = w2.heap.size + 1 := by simp
  obtain ⟨p, hp⟩ : ∃ p, Hid (sP (sb s) 0 true = p) := ⟨_, rfl⟩
  obtain ⟨xs, at_, k⟩ := p
  obtain ⟨b, hb⟩ : ∃ b, Hid (sOk (sb s) 0 true = b) := ⟨_, rfl⟩
  have HV := vr_by hp.out
  rw [hb.out] at HV
  rw [hp.out, hb.out] at HRD
  dsimp only at HRD
  refine HRD.mono ?_
  rintro e w4 ⟨vs, rfl, o4, c4, hg4, hz4⟩
  have x4 := (hg4.block w.heap.size (by rw [s3]; omega) (by simp; omega)).trans x3
  have B04 : Below w.heap.size w w4 := B03.grown hg4 B03.size (fun k hk => by simp at hk; omega)
  have hs4 : w2.heap.size + 1 ≤ w4.heap.size := by have := hg4.size; omega
  rw [s3] at o4
  have hw2 : w.heap.size + 1 < w2.heap.size := g3
  clear HRD hg4 x3 B03 hC3 B3 s3 hB0 x2 B2 g3 RR
  obtain ⟨av, cv, rfl⟩ := own_form o4
  have B5 : Below w4.heap.size w4 (w4.alloc (Obj.cells #[.slice av xs.length cv] 40)) := (Below.refl _ _).alloc (Nat.le_refl _) _
  have x5 := (B5.block _ (by omega)).trans x4
  have c5 := c4.below B5
  have o5 := own_below o4 B5
  have B05 := B04.trans (B5.mono B04.size)
  have y5 : (w4.alloc (Obj.cells #[.slice av xs.length cv] 40)).heap[w4.heap.size]? = some (.cells #[.slice av xs.length cv] 40 (0, 0)) := heap_alloc_new _ _
  have cok : (w4.alloc (Obj.cells #[.slice av xs.length cv] 40)).cell? ⟨w2.heap.size, 2, none⟩ = some (.bool b) := cell_of_row _ _ 2 _ _ _ c5
  have cp : (w4.alloc (Obj.cells #[.slice av xs.length cv] 40)).cell? ⟨w4.heap.size, 0, none⟩ = some (.slice av xs.length cv) := cell_of_row _ _ 0 _ _ _ y5
  cases b with
  | false =>
    have hN := HV.1 rfl
    have HA : Hid (vrL (sb s) = [] ∧ vrI (sb s) = 0 ∧ vrB (sb s) = false) := vr_no hN
    clear HV hN
    have r0 : (w4.alloc (Obj.cells #[.slice av xs.length cv] 40)).cell? ⟨w.heap.size, 0, none⟩ = some (.slice none 0 0) := cell_of_row (w4.alloc (Obj.cells #[.slice av xs.length cv] 40)) _ 0 _ _ _ x5
    have rf : (w4.alloc (Obj.cells #[.slice av xs.length cv] 40)).frozen? ⟨w.heap.size, 0, none⟩ = false := frozen_of_row (w4.alloc (Obj.cells #[.slice av xs.length cv] 40)) _ 0 _ _ x5
    have hset := heap_setCell_same (w4.alloc (Obj.cells #[.slice av xs.length cv] 40)) w.heap.size 0 _ _ (.slice none 0 0) x5
    have hBF := B05.setCell (p := ⟨w.heap.size, 0, none⟩) (Nat.le_refl _) (.slice none 0 0)
    go_wp2
    refine bodyPost_ret (results_row_2 rfl _ _ w.heap.size 40 _ (0, 0) _ rfl hset Tryz.underlying40 rfl Tryz.sizeP) rfl ⟨VrAns.intro (.slice none 0 0) ?_ ?_, hBF⟩
    · rw [HA.out.2.1, HA.out.2.2]; rfl
    · rw [HA.out.1]; exact World.ownsRow_nil _ _ _ _
  | true =>
    by_cases hxe : xs = []
    · have HA : Hid (vrL (sb s) = [] ∧ vrI (sb s) = 0 ∧ vrB (sb s) = false) := vr_no (HV.2.1 hxe)
      have hl0 : (xs.length : Int) = 0 := by rw [hxe]; rfl
      clear HV hxe
      have r0 : (w4.alloc (Obj.cells #[.slice av xs.length cv] 40)).cell? ⟨w.heap.size, 0, none⟩ = some (.slice none 0 0) := cell_of_row (w4.alloc (Obj.cells #[.slice av xs.length cv] 40)) _ 0 _ _ _ x5
      have rf : (w4.alloc (Obj.cells #[.slice av xs.length cv] 40)).frozen? ⟨w.heap.size, 0, none⟩ = false := frozen_of_row (w4.alloc (Obj.cells #[.slice av xs.length cv] 40)) _ 0 _ _ x5
      have hset := heap_setCell_same (w4.alloc (Obj.cells #[.slice av xs.length cv] 40)) w.heap.size 0 _ _ (.slice none 0 0) x5
      have hBF := B05.setCell (p := ⟨w.heap.size, 0, none⟩) (Nat.le_refl _) (.slice none 0 0)
      go_wp2
      refine bodyPost_ret (results_row_2 rfl _ _ w.heap.size 40 _ (0, 0) _ rfl hset Tryz.underlying40 rfl Tryz.sizeP) rfl ⟨VrAns.intro (.slice none 0 0) ?_ ?_, hBF⟩
      · rw [HA.out.2.1, HA.out.2.2]; rfl
      · rw [HA.out.1]; exact World.ownsRow_nil _ _ _ _
    · obtain ⟨⟨hpool, hvp⟩, hyes, hno⟩ := HV.2.2 rfl hxe
      have hpos := List.length_pos_iff.2 hxe
      have hlen := poolB_len hpool
      have hl0 : ¬ (xs.length : Int) = 0 := by omega
      have R5 : NRow (w4.alloc (Obj.cells #[.slice av xs.length cv] 40)) (.slice av xs.length cv) xs := NRow.of_own o5 (by omega) (ndok_max (pool_ndok hpool))
      have HK := svpack_any _ xs ((xs.length : Int) - 1) _ R5
      obtain ⟨tx, htx⟩ : ∃ tx, Hid (vpR xs ((xs.length : Int) - 1) = tx) := ⟨_, rfl⟩
      obtain ⟨tb, htb⟩ : ∃ tb, Hid (vpB xs ((xs.length : Int) - 1) = tb) := ⟨_, rfl⟩
      rw [htx.out, htb.out] at HK
      rw [htx.out] at hyes hno
      clear HV htx htb hvp
      go_wp2_with fail
      refine HK.mono ?_
      rintro e w6 ⟨rfl, hb6⟩
      have x6 := (hb6.block _ (Array.getElem?_eq_some_iff.1 x5).1).trans x5
      have y6 := (hb6.block _ (Array.getElem?_eq_some_iff.1 y5).1).trans y5
      have o6 := own_below o5 hb6
      have B06 := B05.trans (hb6.mono B05.size)
      clear HK hb6 B05 B5 B04 x4 x5 y5 o4 o5 c4 c5 cok cp R5
      by_cases heq : tx = s
      · have HA : Hid (vrL (sb s) = xs ∧ vrI (sb s) = (xs.length : Int) - 1 ∧ vrB (sb s) = true) := vr_yes (hyes heq)
        clear hyes hno
        have q0 : w6.cell? ⟨w4.heap.size, 0, none⟩ = some (.slice av xs.length cv) := cell_of_row w6 _ 0 _ _ _ y6
        have r0 : w6.cell? ⟨w.heap.size, 0, none⟩ = some (.slice none 0 0) := cell_of_row w6 _ 0 _ _ _ x6
        have rf : w6.frozen? ⟨w.heap.size, 0, none⟩ = false := frozen_of_row w6 _ 0 _ _ x6
        have hne : w4.heap.size ≠ w.heap.size := by omega
        have hset := heap_setCell_same w6 w.heap.size 0 _ _ (.slice av xs.length cv) x6
        have hBF := B06.setCell (p := ⟨w.heap.size, 0, none⟩) (Nat.le_refl _) (.slice av xs.length cv)
        have hoF := own_mono (ownsRow_setCell_below o6 (a := ⟨w.heap.size, 0, none⟩) (by show w.heap.size < w2.heap.size + 1; omega) (.slice av xs.length cv)) (show w.heap.size ≤ w2.heap.size + 1 by omega)
        go_wp2_with fail
        go_region
        all_goals
          go_wp2
          refine bodyPost_ret (results_row_2 rfl _ _ w.heap.size 40 _ (0, 0) _ rfl hset Tryz.underlying40 rfl Tryz.sizeP) rfl ⟨VrAns.intro (.slice av xs.length cv) ?_ ?_, hBF.drew⟩
          · rw [HA.out.2.1, HA.out.2.2]; rfl
          · rw [HA.out.1]; exact hoF
      · have HA : Hid (vrL (sb s) = [] ∧ vrI (sb s) = 0 ∧ vrB (sb s) = false) := vr_no (hno heq)
        have hl2 : (tx.toList == s.toList) = false := by
          rw [← Bool.not_eq_true, beq_iff_eq, ByteArray.toList_eq, ByteArray.toList_eq]
          intro h
          apply heq
          cases tx
          cases s
          congr 1
          exact Array.toList_inj.1 h
        clear hyes hno
        have r0 : w6.cell? ⟨w.heap.size, 0, none⟩ = some (.slice none 0 0) := cell_of_row w6 _ 0 _ _ _ x6
        have rf : w6.frozen? ⟨w.heap.size, 0, none⟩ = false := frozen_of_row w6 _ 0 _ _ x6
        have hset := heap_setCell_same w6 w.heap.size 0 _ _ (.slice none 0 0) x6
        have hBF := B06.setCell (p := ⟨w.heap.size, 0, none⟩) (Nat.le_refl _) (.slice none 0 0)
        go_wp2
        refine bodyPost_ret (results_row_2 rfl _ _ w.heap.size 40 _ (0, 0) _ rfl hset Tryz.underlying40 rfl Tryz.sizeP) rfl ⟨VrAns.intro (.slice none 0 0) ?_ ?_, hBF⟩
        · rw [HA.out.2.1, HA.out.2.2]; rfl
        · rw [HA.out.1]; exact World.ownsRow_nil _ _ _ _
end Go.Proofs.YtenegpbpalbpeaaGreatDoor
