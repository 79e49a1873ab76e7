/-
  Contract of the laws' own helper toIntS.
-/
import Derived.Test.YtbdgdeoecnhcdaaInts
namespace Go.Proofs.Ytbdgdeoecnhcdaa
open Go.RowKit

theorem Try.infoI3 : (Try.prog.info? 3).map (fun i => (i.zero, i.size, i.bytes)) = some (some (.int .i64 0), 1, 8) := by kernel_rfl
def icopied (zs : List Int) (j : Nat) : List Int := zs.take j ++ List.replicate (zs.length - j) 0
theorem icopied_length (zs : List Int) (j : Nat) (h : j ≤ zs.length) : (icopied zs j).length = zs.length := by simp [icopied]; omega
theorem icopied_full (zs : List Int) : icopied zs zs.length = zs := by simp [icopied]
theorem icopied_zero (zs : List Int) : iv (icopied zs 0) = (madeCells #[Value.int .i64 0] zs.length).toList := by
  rw [toList_madeCells_one]
  simp [icopied, iv]
theorem icopied_set (zs : List Int) (j : Nat) (h : j < zs.length) : (icopied zs j).set j zs[j] = icopied zs (j + 1) := by
  unfold icopied
  rw [show zs.length - j = zs.length - (j + 1) + 1 by omega, List.replicate_succ, List.take_succ_eq_append_getElem h, List.set_append_right _ _ (by simp; omega)]
  have e : j - (List.take j zs).length = 0 := by simp; omega
  rw [e, List.set_cons_zero, List.append_assoc]
  rfl

set_option maxHeartbeats 400000 in
theorem toints_any (v : Value) (zs : List Int) (w : World) (h : IRow w v zs) (hm : zs.length ≤ 2097152) :
    Calls Try.prog 12 #[v] w fun e w' => ∃ v', e = .returned v' ∧ w'.ownsRow w.heap.size 3 1 v' zs.length (iv zs) ∧ Below w.heap.size w w' := by
  obtain ⟨ao, cap, rfl, hcap, _, hcell⟩ := h
  obtain ⟨i0, hi, hz0, hz1, hz2⟩ := info_parts Try.infoI3
  have hbytes : i0.bytes * zs.length ≤ 281474976710656 := by rw [hz2]; omega
  have hmax : zs.length ≤ maxLen := by unfold maxLen; omega
  go_enter Try.func12, Try.ntmps12
  go_wp2_with (at_make; refine wpList_make_full _ rfl _ _ 27 rfl w.heap.size 3 i0 (.int .i64 0) 1 Try.underlying27 hi hz0 hz1 _ _ _ _ zs.length rfl rfl rfl rfl hbytes hmax (Nat.le_refl _) ?_)
  intro w1 hown hgrow
  have hbel : Below w.heap.size w w1 := (Below.refl _ _).grown hgrow (Nat.le_refl _) (by intro k hk; cases hk)
  clear hgrow
  go_wp2
  go_loopw [4] (fun i wr => ∃ j : Nat, j ≤ zs.length ∧ i = .int .i64 j ∧ wr.ownsRow w.heap.size 3 1 (.slice (some ⟨w.heap.size, 0, none⟩) zs.length zs.length) zs.length (iv (icopied zs j)) ∧ Below w.heap.size w wr) (fun i _ => zs.length - (intOf i).toNat)
  case atStart => exact ⟨0, by omega, rfl, by rw [icopied_zero]; exact hown, hbel⟩
  case round =>
    clear hown hbel hbytes hmax
    obtain ⟨j, hj, rfl, hown, hbel⟩ := hrel
    by_cases hlt : j < zs.length
    · obtain ⟨g, o, hao, hg, hcell⟩ := hcell (by intro e; subst e; simp at hlt)
      have hc0 : wr.cell? ⟨g, o + j, none⟩ = some (.int .i64 (zs.getD j 0)) := (hbel.cell (p := ⟨g, o + j, none⟩) hg).trans (hcell j hlt)
      have hc := hown.cellAt j (by omega)
      rw [iv_get _ _ (by rw [icopied_length _ _ hj]; exact hlt)] at hc
      have hf := hown.frozenAt j
      have hs := (hown.stored j (.int .i64 zs[j])).1
      rw [iv_set, icopied_set zs j hlt] at hs
      clear hcell
      go_wp2
      go_roundw
      case rel =>
        refine ⟨j + 1, by omega, by go_num, ?_, hbel.setCell (Nat.le_refl _) _⟩
        exact hs
      case measure => simp [intOf]; omega
    · go_wp2
      go_ret
      have : j = zs.length := by omega
      subst this
      rw [icopied_full] at hown
      exact ⟨_, rfl, hown, hbel⟩

end Go.Proofs.Ytbdgdeoecnhcdaa
