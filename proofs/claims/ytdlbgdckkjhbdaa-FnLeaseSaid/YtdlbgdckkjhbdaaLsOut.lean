/-
  Contract of impl's withoutLease: the list without the one at a place. No condition.
-/
import Derived.Test.YtdlbgdckkjhbdaaCopyK
import Derived.Deep.RegionLawGrows
namespace Go.Proofs.Ytdlbgdckkjhbdaa
open Go.RowKit

theorem splice2 {α : Type} (Z X1 X2 : List α) (k : Nat) (hk : X1.length = k) (hZ : Z.length = k + X2.length) : splice (splice Z 0 X1) k X2 = X1 ++ X2 := by
  subst hk
  unfold splice
  have e1 : Z.take 0 ++ (X1 ++ Z.drop (0 + X1.length)) = X1 ++ Z.drop X1.length := by simp
  rw [e1, List.take_append_of_le_length (Nat.le_refl _), List.take_length, List.drop_eq_nil_of_le (by simp; omega)]
  simp
theorem LsRow.src {w : World} {ao : Option Addr} {n cap : Nat} {xs : List Ls} (h : LsRow w (.slice ao n cap) xs) (h0 : 0 < xs.length) : Src w ao (lscs xs) := by
  have hc := h.cells
  have hn := h.nilcap
  obtain ⟨ao', cap', e, _, _, hcell⟩ := h
  simp only [Value.slice.injEq] at e
  cases ao with
  | none => have := (hn rfl).1; omega
  | some ad => exact ⟨ad, rfl, hc ad rfl⟩
theorem Src.below {w w' : World} {ao : Option Addr} {xs : List Ls} {g o : Nat} (he : ao = some ⟨g, o, none⟩) (h : Src w ao (lscs xs)) (hb : Below w.heap.size w w') (hg : g < w.heap.size) : Src w' ao (lscs xs) := by
  obtain ⟨ad, rfl, hc⟩ := h
  cases he
  exact ⟨_, rfl, fun j v hv => by rw [Addr.add_lit]; rw [← hc j v hv, Addr.add_lit]; exact hb.cell (p := ⟨g, o + j, none⟩) hg⟩
theorem lscs_erase (xs : List Ls) (k : Nat) : lscs (xs.eraseIdx k) = lscs (xs.take k) ++ lscs (xs.drop (k + 1)) := by
  rw [List.eraseIdx_eq_take_drop_succ, lscs_append]

set_option maxRecDepth 100000 in
set_option maxHeartbeats 3200000 in
theorem withoutlease_any (v : Value) (xs : List Ls) (k : Nat) (w : World) (R : LsRow w v xs) (hk : k < xs.length) (hm : xs.length ≤ 20) :
    Calls Try.prog 48 #[v, .int .i64 k] w fun e w' => ∃ u, e = .returned u ∧ w'.ownsRow w.heap.size 40 3 u (xs.eraseIdx k).length (lscs (xs.eraseIdx k)) ∧ Below w.heap.size w w' := by
  have R0 := R
  obtain ⟨ao, cap, rfl, hcap, hml, hcell⟩ := R
  obtain ⟨g, o, rfl, hg, hcell⟩ := hcell (by intro e; subst e; simp at hk)
  obtain ⟨i0, hi, hz0, hz1, hz2⟩ := info_parts Try.infoLs
  obtain ⟨m, hM⟩ : ∃ m, xs.length = m + 1 := ⟨xs.length - 1, by omega⟩
  have HM : Hid (xs.length = m + 1) := hM
  have hm1 : (xs.length : Int) - 1 = (m : Int) := by omega
  have hW : IntKind.i64.wrap ((xs.length : Int) - 1) = (m : Int) := by rw [hm1, IntKind.wrap_i64]; omega
  have hbytes : i0.bytes * m ≤ 281474976710656 := by rw [hz2]; omega
  have hmax : m ≤ maxLen := by unfold maxLen; omega
  have hkm : k ≤ m := by omega
  have hm20 : m ≤ 20 := by omega
  have hmx : m < xs.length := by omega
  have hkc : k < cap := by omega
  have hmc : m < cap := by omega
  have HL : Hid ((xs.eraseIdx k).length = m) := by unfold Hid; rw [List.length_eraseIdx_of_lt hk]; omega
  have HX := lscs_erase xs k
  have hl1 : (lscs (xs.take k)).length = k * 3 := by rw [lscs_length]; simp; omega
  have hl2 : (lscs (xs.drop (k + 1))).length = (m - k) * 3 := by rw [lscs_length]; simp; omega
  have o1 := lscs_one (xs.take k)
  have o2 := lscs_one (xs.drop (k + 1))
  have P1 : ∀ w', Below w.heap.size w w' → 0 < k → Src w' (some ⟨g, o, none⟩) (lscs (xs.take k)) := fun w' hb h0 =>
    ((R0.take (k := k) (by omega)).below hb).src (by simp; omega)
  have P2 : ∀ w', Below w.heap.size w w' → Src w' (some ⟨g, o + (k + 1) * 3, none⟩) (lscs (xs.drop (k + 1))) := fun w' hb => by
    refine ⟨_, rfl, fun j u hu => ?_⟩
    rw [Addr.add_lit]
    have hj : j < (m - k) * 3 := by have := (List.getElem?_eq_some_iff.1 hu).1; omega
    have := (R0.below hb).cells ⟨g, o, none⟩ rfl ((k + 1) * 3 + j) u (by
      have e : lscs xs = lscs (xs.take (k + 1)) ++ lscs (xs.drop (k + 1)) := by rw [← lscs_append, List.take_append_drop]
      rw [e, List.getElem?_append_right (by rw [lscs_length]; simp; omega)]
      rw [show (k + 1) * 3 + j - (lscs (xs.take (k + 1))).length = j by rw [lscs_length]; simp; omega]
      exact hu)
    rw [Addr.add_lit, ← Nat.add_assoc] at this
    exact this
  generalize lscs (xs.take k) = C1 at *
  generalize lscs (xs.drop (k + 1)) = C2 at *
  generalize xs.eraseIdx k = E at *
  have HE : Hid (lscs E = C1 ++ C2) := HX
  have H1 : Hid (C1.length = k * 3) := hl1
  have H2 : Hid (C2.length = (m - k) * 3) := hl2
  clear HX hM hcell R0 hl1 hl2
  go_enter Try.func48, Try.ntmps48
  go_wp2_with (at_make; refine wpList_make_full _ rfl _ _ 24 rfl w.heap.size 40 i0 _ 3 Try.underlying24 hi hz0 hz1 _ _ _ _ m rfl rfl rfl rfl hbytes hmax (Nat.le_refl _) ?_)
  intro w1 hown hgrow
  have hbel : Below w.heap.size w w1 := (Below.refl _ _).grown hgrow (Nat.le_refl _) (by intro k hk; cases hk)
  have hg1 := own_is hown
  have hl1 := hown.1
  obtain ⟨Z, hZ⟩ : ∃ Z, Z = (madeCells #[Value.int .i64 0, .int .i64 0, .int .i64 0] (m * 3)).toList := ⟨_, rfl⟩
  have hg2 : w1.heap[w.heap.size]? = some (.cells Z.toArray 40 (0, 0)) := by rw [hZ]; exact hg1
  have HZ : Hid (Z.length = m * 3) := by unfold Hid; rw [hZ]; exact hl1
  clear hg1 hl1 hown hgrow hZ
  have HN1 : Hid (k = Nat.min k m) := (Nat.min_eq_left hkm).symm
  have P1' := P1 w1 hbel
  go_wp2_with (refine wpList_copy_spliceK rfl (.tmp 10) (.tmp 13) 24 24 rfl 40 3 Try.underlying24 Try.sizeLs (some ⟨w.heap.size, 0, none⟩) (some ⟨g, o, none⟩) m m k cap rfl rfl w.heap.size 0 Z 40 hg2 C1 k HN1.out H1.out (fun h0 => ⟨rfl, P1' h0⟩) (by rw [H1.out, HZ.out]; omega) o1 w.heap.size w hbel (Nat.le_refl _) ?_)
  intro w2 HG2 hB2
  have HS : Hid (splice (splice Z 0 C1) (k * 3) C2 = lscs E) := by unfold Hid; rw [HE.out, splice2 Z C1 C2 _ H1.out (by rw [HZ.out, H2.out]; omega)]
  have HSL : Hid ((splice Z 0 C1).length = m * 3) := by unfold Hid; rw [length_splice _ _ _ (by rw [H1.out, HZ.out]; omega), HZ.out]
  have P2' := P2 w2.drew hB2.drew
  have HG3 : w2.drew.heap[w.heap.size]? = some (.cells (splice Z 0 C1).toArray 40 (0, 0)) := HG2.out
  generalize splice Z 0 C1 = Z2 at *
  clear HG2 hg2 P1 P1' P2 HZ H1 HE
  have hcu : ∀ x : Nat, xs.length - (k + 1) = m - k ∧ xs.length - x = m + 1 - x := fun x => by rw [HM.out]; omega
  have HN2 : Hid (m - k = Nat.min (m - k) (m - k)) := (Nat.min_self _).symm
  have hk1 : k + 1 ≤ xs.length := hk
  have hk2 : k + 1 ≤ cap := by omega
  have hkW : IntKind.i64.wrap ((k : Int) + 1) = (k : Int) + 1 := by rw [IntKind.wrap_i64]; omega
  have hxl : xs.length - (k + 1) = m - k := (hcu 0).1
  clear hcu
  have hi0 : (0 : Int) ≤ (k : Int) + 1 := by omega
  have hi1 : (k : Int) + 1 ≤ (xs.length : Int) := by omega
  by_cases hlast : m = k
  · subst hlast
    have hmm : m - m = 0 := by omega
    have hC2 : C2 = [] := List.eq_nil_of_length_eq_zero (by rw [H2.out]; omega)
    subst hC2
    have HN3 : Hid (0 = Nat.min 0 0) := rfl
    have HN4 : Hid (([] : List Value).length = 0 * 3) := rfl
    clear P2' H2 HN2
    by_cases hcc : cap = m + 1
    · go_wp2_with fail
      go_region_law (refine step_copy_spliceK rfl (.tmp 17) (.tmp 21) 24 24 rfl 40 3 Try.underlying24 Try.sizeLs (some ⟨w.heap.size, 0, none⟩) (some ⟨g, o, none⟩) 0 0 0 0 (by go_simp) (by go_simp) w.heap.size (m * 3) Z2 40 HG3 [] 0 HN3.out HN4.out (fun h0 => absurd h0 (Nat.lt_irrefl _)) (by rw [HSL.out]; simp) o2 w.heap.size w hB2.drew (Nat.le_refl _) ?_; intro w4 HG4 hB4)
      all_goals
        have own5 : w4.ownsRow w.heap.size 40 3 (.slice (some ⟨w.heap.size, 0, none⟩) m m) E.length (lscs E) := by rw [HL.out]; exact own_whole (by rw [← HS.out]; exact HG4.out) (by rw [lscs_length, HL.out]) (Nat.le_refl _) hmax
        clear HG4 HS HSL HL
        go_wp2
        go_ret
        exact ⟨_, rfl, own5, hB4⟩
    · have hcc2 : ¬ cap = m + 1 := hcc
      go_wp2_with fail
      go_region_law (refine step_copy_spliceK rfl (.tmp 17) (.tmp 21) 24 24 rfl 40 3 Try.underlying24 Try.sizeLs (some ⟨w.heap.size, 0, none⟩) (some ⟨g, o + (m + 1) * 3, none⟩) 0 0 0 (cap - (m + 1)) (by go_simp) (by go_simp) w.heap.size (m * 3) Z2 40 HG3 [] 0 HN3.out HN4.out (fun h0 => absurd h0 (Nat.lt_irrefl _)) (by rw [HSL.out]; simp) o2 w.heap.size w hB2.drew (Nat.le_refl _) ?_; intro w4 HG4 hB4)
      all_goals
        have own5 : w4.ownsRow w.heap.size 40 3 (.slice (some ⟨w.heap.size, 0, none⟩) m m) E.length (lscs E) := by rw [HL.out]; exact own_whole (by rw [← HS.out]; exact HG4.out) (by rw [lscs_length, HL.out]) (Nat.le_refl _) hmax
        clear HG4 HS HSL HL
        go_wp2
        go_ret
        exact ⟨_, rfl, own5, hB4⟩
  · have hkm2 : k < m := by omega
    have hk5 : ¬ cap = k + 1 := by omega
    go_wp2_with fail
    go_region_law (refine step_copy_spliceK rfl (.tmp 17) (.tmp 21) 24 24 rfl 40 3 Try.underlying24 Try.sizeLs (some ⟨w.heap.size, k * 3, none⟩) (some ⟨g, o + (k + 1) * 3, none⟩) (m - k) (m - k) (m - k) (cap - (k + 1)) (by go_simp) (by go_simp) w.heap.size (k * 3) Z2 40 HG3 C2 (m - k) HN2.out H2.out (fun h0 => ⟨rfl, P2'⟩) (by rw [H2.out, HSL.out]; omega) o2 w.heap.size w hB2.drew (Nat.le_refl _) ?_; intro w4 HG4 hB4)
    all_goals
      have own5 : w4.ownsRow w.heap.size 40 3 (.slice (some ⟨w.heap.size, 0, none⟩) m m) E.length (lscs E) := by rw [HL.out]; exact own_whole (by rw [← HS.out]; exact HG4.out) (by rw [lscs_length, HL.out]) (Nat.le_refl _) hmax
      clear HG4 HS HSL HL
      go_wp2
      go_ret
      exact ⟨_, rfl, own5, hB4⟩
end Go.Proofs.Ytdlbgdckkjhbdaa
