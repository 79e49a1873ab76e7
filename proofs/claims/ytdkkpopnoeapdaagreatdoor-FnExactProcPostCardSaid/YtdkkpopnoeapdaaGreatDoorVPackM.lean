/-
  Texts that stood by themselves, laid into one.
-/
import Derived.Test.YtdkkpopnoeapdaaGreatDoorIKeepM
import Derived.Deep.RegionHeld
import Derived.Test.YtdkkpopnoeapdaaGreatDoorRNodeM
import Derived.Test.YtdkkpopnoeapdaaGreatDoorRValM
import Derived.Test.YtdkkpopnoeapdaaGreatDoorSReachM
import Derived.Test.YtdkkpopnoeapdaaGreatDoorListOfM
import Derived.Test.YtdkkpopnoeapdaaGreatDoorBsM
/-
  Contracts of spec's l7Keep and Keep. Conditions of l7Keep: the pool is right, and all roots are nodes of it.
-/
namespace Go.Proofs.YtdkkpopnoeapdaaGreatDoor
open Go.RowKit

theorem drew_step {w w' : World} (h : Below w.drew.heap.size w.drew w') : Below w.heap.size w w' := (Below.refl w.heap.size w).drew.trans h

set_option maxRecDepth 100000 in
set_option maxHeartbeats 3200000 in
theorem slkeep_any (ao : Option Addr) (cap : Nat) (vl : Value) (xs : List Nd) (rs : List Int) (w : World) (R : NRow w (.slice ao xs.length cap) xs) (L : IRow w vl rs) (hp : poolB xs = true) (hr : allI xs rs = true) (hrs : rs.length ≤ 1048576) :
    Calls Tryz.prog 87 #[.agg #[.slice ao xs.length cap], vl] w fun e w' => ∃ v1 v2, e = .returned (.tuple #[.agg #[v1], v2]) ∧ w'.ownsRow w.heap.size 119 5 v1 (mvN 0 xs rs).length (ncs (mvN 0 xs rs)) ∧ w'.ownsRow w.heap.size 3 1 v2 rs.length (iv (mvR 0 xs rs rs)) ∧ Below w.heap.size w w' := by
  obtain ⟨i0, hi, hz0, hz1, hz2⟩ := info_parts Tryz.infoI9
  have hlen := poolB_len hp
  have hB2 : Below w.heap.size w ((w.alloc (Obj.cells #[.slice ao xs.length cap] 39)).alloc (Obj.cells #[.slice none 0 0] 39)) := below2 w _ _
  have hs2 : ((w.alloc (Obj.cells #[.slice ao xs.length cap] 39)).alloc (Obj.cells #[.slice none 0 0] 39)).heap.size = w.heap.size + 1 + 1 := by simp
  have hx2 := old2 w (Obj.cells #[.slice ao xs.length cap] 39) (Obj.cells #[.slice none 0 0] 39)
  have hy2 := heap_alloc2_new w (Obj.cells #[.slice ao xs.length cap] 39) (Obj.cells #[.slice none 0 0] 39)
  have hrl := reachL_length xs rs
  go_enter Tryz.func87, Tryz.ntmps87
  go_wp2_with fail
  have hb3 := heap_alloc_new ((w.alloc (Obj.cells #[.slice ao xs.length cap] 39)).alloc (Obj.cells #[.slice none 0 0] 39)) (Obj.cells #[.slice none 0 0] 39)
  have h23 : Below (w.heap.size + 1 + 1) ((w.alloc (Obj.cells #[.slice ao xs.length cap] 39)).alloc (Obj.cells #[.slice none 0 0] 39)) (((w.alloc (Obj.cells #[.slice ao xs.length cap] 39)).alloc (Obj.cells #[.slice none 0 0] 39)).alloc (Obj.cells #[.slice none 0 0] 39)) := (Below.refl _ _).alloc (by rw [hs2]; exact Nat.le_refl _) _
  have hs3 : (((w.alloc (Obj.cells #[.slice ao xs.length cap] 39)).alloc (Obj.cells #[.slice none 0 0] 39)).alloc (Obj.cells #[.slice none 0 0] 39)).heap.size = w.heap.size + 1 + 1 + 1 := by simp
  rw [hs2] at hb3
  generalize ((w.alloc (Obj.cells #[.slice ao xs.length cap] 39)).alloc (Obj.cells #[.slice none 0 0] 39)).alloc (Obj.cells #[.slice none 0 0] 39) = W3 at *
  generalize (w.alloc (Obj.cells #[.slice ao xs.length cap] 39)).alloc (Obj.cells #[.slice none 0 0] 39) = W2 at *
  have hB3 := hB2.trans (h23.mono (by omega))
  have R2 := R.below hB2
  have k3 : W3.cell? ⟨w.heap.size, 0, none⟩ = some (.slice ao xs.length cap) := by rw [cell_of_row W3 _ 0 _ _ _ ((h23.block _ (by omega)).trans hx2)]; rfl
  have hl3 : w.heap.size < W3.heap.size := by omega
  go_region_held (fun w' => w'.cell? ⟨w.heap.size, 0, none⟩ = some (.slice ao xs.length cap)) (first | exact k5 | exact k4 | go_keep) (first
    | (go_at_call 107; refine (slreach_any ao cap vl xs rs _ ?_ ?_ hp hr).mono ?_; exact R.below hB3.drew; exact L.below hB3.drew; rintro e wk ⟨vk, rfl, hok, hbk⟩; obtain ⟨aok, capk, rfl⟩ := own_form hok
       have hb34 : Below W3.heap.size W3 wk := drew_step hbk
       have k4 := (hb34.cell (p := ⟨w.heap.size, 0, none⟩) hl3).trans k3)
    | (go_at_call 106; refine (sinto_any (w.heap.size + 1 + 1) (w.heap.size + 1 + 1) none 0 [] xs (reachL xs rs) ao cap _ W2 _ ((hb34.block _ (by omega)).trans hb3) (World.ownsRow_nil _ _ _ _) (Nat.le_refl _) R2 (by omega) (h23.trans (hb34.mono (by omega))) (own_mono hok (by show w.heap.size + 1 + 1 ≤ W3.heap.size; omega)) hrl hp (by simp)).mono ?_; rintro e w5 ⟨v5, vp, rfl, hb5, ho5, hi5, hB5⟩; obtain ⟨a5, q5, rfl⟩ := own_form hi5
       have k5 : w5.cell? ⟨w.heap.size, 0, none⟩ = some (.slice ao xs.length cap) := by rw [cell_of_row w5 _ 0 _ _ _ ((hB5.block _ (by omega)).trans hx2)]; rfl))
  have HN : Hid (mvN 0 xs rs = (mvAll 0 xs (reachL xs rs)).1) := rfl
  have HR : Hid (mvR 0 xs rs rs = rs.map (fun r => (mvAll 0 xs (reachL xs rs)).2.getD r.toNat 0)) := rfl
  have hl2 : (mvAll 0 xs (reachL xs rs)).2.length = xs.length := (mvF_len _ _ _).2
  rw [List.nil_append] at ho5
  rw [show ([] : List Nd).length = 0 from rfl] at ho5 hi5
  generalize mvAll 0 xs (reachL xs rs) = M at *
  obtain ⟨S1, S2⟩ := M
  simp only at hl2 ho5 hi5 HN HR
  obtain ⟨ap, qp, rfl⟩ := own_form ho5
  have hBw := hB2.trans (hB5.mono (by omega))
  have hy5 := (hB5.block (w.heap.size + 1) (by omega)).trans hy2
  have hlw5 := (Array.getElem?_eq_some_iff.1 hb5).1
  obtain ⟨al, cl, rfl, hcl, _, hlc⟩ := L
  have hB6 : Below w5.heap.size w5 (w5.alloc (Obj.cells #[] 3)) := (Below.refl _ _).alloc (Nat.le_refl _) _
  have hi6 := own_none0 w5 3 1 w5.heap.size (Nat.le_refl _)
  clear k5 k4 hok hbk hb34 k3 hb3 h23 hx2 hy2 hB3 hB5 R2 R hB2 hrl
  go_wp2_with fail
  go_loopw [8, 9] (fun s i wr => ∃ (j : Nat), j ≤ rs.length ∧ i = .int .i64 j ∧ wr.ownsRow w5.heap.size 3 1 s j (iv ((rs.take j).map (fun r => S2.getD r.toNat 0))) ∧ Below w5.heap.size w5 wr) (fun _ i _ => rs.length - (intOf i).toNat)
  case atStart => exact ⟨0, by omega, rfl, hi6, hB6⟩
  case round =>
    clear hi6 hB6
    obtain ⟨j, hj, rfl, hownj, hBj⟩ := hrel
    by_cases hlt : j < rs.length
    · obtain ⟨g, o, rfl, hg, hlc⟩ := hlc (by intro e; subst e; simp at hlt)
      have ez := (hBj.cell (p := ⟨g, o + j, none⟩) (Nat.lt_of_lt_of_le hg hBw.size)).trans ((hBw.cell (p := ⟨g, o + j, none⟩) hg).trans (hlc j hlt))
      obtain ⟨z0, z1⟩ := allI_at hr j hlt
      have HT : Hid (iv ((rs.take (j + 1)).map (fun r => S2.getD r.toNat 0)) = iv ((rs.take j).map (fun r => S2.getD r.toNat 0)) ++ [.int .i64 (S2.getD (rs.getD j 0).toNat 0)]) := by
        unfold Hid
        rw [List.take_succ_eq_append_getElem hlt, List.map_append, iv_append, List.getD_eq_getElem?_getD (l := rs), List.getElem?_eq_getElem hlt]
        rfl
      generalize rs.getD j 0 = z at ez z0 z1 HT
      obtain ⟨nz, rfl⟩ := Int.eq_ofNat_of_zero_le z0
      rw [Int.toNat_natCast] at HT
      rcases hi5.2 with ⟨hnil, hn0⟩ | ⟨g5, cap5, cur5, e5, _, _, _⟩
      · omega
      simp only [Value.slice.injEq, true_and] at e5
      obtain ⟨rfl, rfl⟩ := e5
      have e9 := (hBj.cell (p := ⟨g5, nz, none⟩) (hi5.lt _ rfl).2).trans ((hi5.cellAt nz (by omega)).trans (iv_get _ _ (by omega)))
      generalize S2.getD nz 0 = y at e9 HT
      obtain ⟨asj, qsj, rfl⟩ := own_form hownj
      clear hlc hr
      have hsj := hBj.size
      go_wp2_with (at_builtin; refine wpList_append_own _ rfl _ _ 112 rfl w5.heap.size 3 i0 (.int .i64 0) 1 8 Tryz.underlying112 hi hz0 hz1 hz2 rfl (by decide) _ _ _ rfl (hownj.alloc _) ⟨wr.heap.size, 0, none⟩ 1 1 [.int .i64 y] rfl rfl (cell_one_new _ _ _) (by simp [Value.oneCell']) (by unfold maxLen; omega) (by omega) (by simp; omega) ?_)
      intro v7 w8 hown8 hg8' _
      have hB8 : Below w5.heap.size w5 w8 := (hBj.alloc hsj _).grown hg8' (by simp; omega) (fun k hk => (hownj.lt k hk).1)
      have hown8' : w8.ownsRow w5.heap.size 3 1 v7 (j + 1) (iv ((rs.take (j + 1)).map (fun r => S2.getD r.toNat 0))) := by rw [HT.out]; simpa only [List.map_take, List.getD_eq_getElem?_getD] using hown8
      clear hg8' hown8
      go_wp2_with fail
      go_roundw
      case rel => exact ⟨j + 1, by omega, by go_num, hown8', hB8⟩
      case measure => simp [intOf]; omega
    · have hje : j = rs.length := by omega
      subst hje
      have hbj := (hBj.block _ hlw5).trans hb5
      have hyj := (hBj.block _ (by omega)).trans hy5
      have c6 : wr.cell? ⟨w.heap.size + 1 + 1, 0, none⟩ = some (.slice ap S1.length qp) := by rw [cell_of_row wr _ 0 _ _ _ hbj]; rfl
      have c4 : wr.cell? ⟨w.heap.size + 1, 0, none⟩ = some (.slice none 0 0) := by rw [cell_of_row wr _ 0 _ _ _ hyj]; rfl
      have f4 : wr.frozen? ⟨w.heap.size + 1, 0, none⟩ = false := frozen_of_row wr _ 0 _ _ hyj
      have ho6 := own_below ho5 hBj
      rw [List.take_length, ← HR.out] at hownj
      obtain ⟨asj, qsj, rfl⟩ := own_form hownj
      have hBr := hBw.trans (hBj.mono hBw.size)
      obtain ⟨p1, p2, p3⟩ := put_pool hyj ho6 hBr (by omega) (by omega)
      have p4 := own_mono (B' := w.heap.size) (ownsRow_setCell_below hownj (a := ⟨w.heap.size + 1, 0, none⟩) (by show w.heap.size + 1 < w5.heap.size; omega) (.slice ap S1.length qp)) (by omega)
      go_wp2_with fail
      refine bodyPost_ret (results_row_tmp rfl _ _ (w.heap.size + 1) 39 _ (0, 0) _ rfl p1 Tryz.underlying39 rfl Tryz.sizeP) rfl ⟨_, .slice asj rs.length qsj, rfl, ?_, p4, p3⟩
      rw [HN.out]
      exact p2

end Go.Proofs.YtdkkpopnoeapdaaGreatDoor

/-
  What ValuePack answers, and the contracts of both ValuePack. No condition.
-/
namespace Go.Proofs.YtdkkpopnoeapdaaGreatDoor
open Go.RowKit

def vpB (xs : List Nd) (v : Int) : Bool := poolB xs && hasI xs v
def vpR (xs : List Nd) (v : Int) : ByteArray := if vpB xs v then strOfNums (wireL (mvN 0 xs [v])) else ByteArray.empty

set_option maxRecDepth 100000 in
set_option maxHeartbeats 3200000 in
theorem svpack_any (v : Value) (xs : List Nd) (a : Int) (w : World) (R : NRow w v xs) :
    Calls Tryz.prog 61 #[.agg #[v], .int .i64 a] w fun e w' => e = .returned (.tuple #[.string (vpR xs a), .bool (vpB xs a)]) ∧ Below w.heap.size w w' := by
  have R' := R
  obtain ⟨ao, cap, rfl, _⟩ := R'
  have hB0 : Below w.heap.size w (w.alloc (Obj.cells #[.slice ao xs.length cap] 39)) := (Below.refl _ _).alloc (Nat.le_refl _) _
  go_enter Tryz.func61, Tryz.ntmps61
  go_wp2_with fail
  refine (spool_any _ xs _ (R.below hB0)).mono ?_
  rintro e w1 ⟨rfl, hb1⟩
  have hx1 : w1.heap[w.heap.size]? = some (.cells #[.slice ao xs.length cap] 39 (0, 0)) := (hb1.block _ (by simp)).trans (heap_alloc_new _ _)
  have hB1 := hB0.trans (hb1.mono hB0.size)
  have c1 : w1.cell? ⟨w.heap.size, 0, none⟩ = some (.slice ao xs.length cap) := cell_of_row w1 _ 0 _ _ _ hx1
  clear hB0 hb1
  cases hp : poolB xs with
  | false =>
    have HB : Hid (vpB xs a = false) := by unfold Hid vpB; rw [hp]; rfl
    have HR : Hid (vpR xs a = ByteArray.empty) := by unfold Hid vpR; rw [HB.out]; rfl
    go_wp2
    go_ret2
    exact ⟨by rw [HB.out, HR.out]; rfl, hB1⟩
  | true =>
    have hlen := pool_small hp
    go_wp2_with fail
    refine (shas_any _ xs a _ (R.below hB1)).mono ?_
    rintro e w2 ⟨rfl, hb2⟩
    have hx2 := (hb2.block _ (Array.getElem?_eq_some_iff.1 hx1).1).trans hx1
    have hB2 := hB1.trans (hb2.mono hB1.size)
    have c2 : w2.cell? ⟨w.heap.size, 0, none⟩ = some (.slice ao xs.length cap) := cell_of_row w2 _ 0 _ _ _ hx2
    clear hB1 hb2 hx1 c1
    cases hh : hasI xs a with
    | false =>
      have HB : Hid (vpB xs a = false) := by unfold Hid vpB; rw [hh, Bool.and_false]
      have HR : Hid (vpR xs a = ByteArray.empty) := by unfold Hid vpR; rw [HB.out]; rfl
      go_wp2
      go_ret2
      exact ⟨by rw [HB.out, HR.out]; rfl, hB2⟩
    | true =>
      have HB : Hid (vpB xs a = true) := by unfold Hid vpB; rw [hh, hp]; rfl
      have HR : Hid (vpR xs a = strOfNums (wireL (mvN 0 xs [a]))) := by unfold Hid vpR; rw [HB.out]; rfl
      have hall : allI xs [a] = true := by simp [allI, hh]
      have hml := mvN_len 0 xs [a]
      have hok := mv_right 0 xs [a] hp (by omega)
      have hB3 : Below w2.heap.size w2 (w2.alloc (Obj.cells #[.int .i64 a] 3)) := (Below.refl _ _).alloc (Nat.le_refl _) _
      go_wp2_with fail
      refine (slkeep_any ao cap _ xs [a] _ (R.below (hB2.trans (hB3.mono hB2.size))) (irow_one (heap_alloc_new w2 _)) hp hall (by simp)).mono ?_
      rintro e w3 ⟨v1, v2, rfl, ho1, _, hb3⟩
      have hB4 := (hB2.trans (hB3.mono hB2.size)).trans (hb3.mono (hB2.trans (hB3.mono hB2.size)).size)
      clear hB2 hB3 hb3 hx2 c2
      generalize mvN 0 xs [a] = ys at *
      obtain ⟨a1, k1, rfl⟩ := own_form ho1
      have hB6 : Below w3.heap.size w3 (w3.alloc (Obj.cells #[.slice a1 ys.length k1] 39)) := (Below.refl _ _).alloc (Nat.le_refl _) _
      have R1 := NRow.of_own ho1 (by omega) (ndok_max hok)
      go_wp2_with fail
      refine (snodes8_any _ ys _ (R1.below hB6) hok (by omega)).mono ?_
      rintro e w4 ⟨v4, rfl, ho4, hb4⟩
      obtain ⟨a4, k4, rfl⟩ := own_form ho4
      have hB5 := (hB4.trans (hB6.mono hB4.size)).trans (hb4.mono (hB4.trans (hB6.mono hB4.size)).size)
      have hT := own_text ho4
      go_wp2_with (refine wpList_bytes_text _ rfl _ 100 9 5 rfl Tryz.underlying100 Tryz.underlying9 Tryz.underlying5 a4 (wireL ys).length k4 (wireL ys) rfl rfl hT ?_)
      go_ret2
      exact ⟨by rw [HB.out, HR.out]; rfl, hB5⟩
end Go.Proofs.YtdkkpopnoeapdaaGreatDoor
