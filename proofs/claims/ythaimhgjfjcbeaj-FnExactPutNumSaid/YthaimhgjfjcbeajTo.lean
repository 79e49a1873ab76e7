/-
  Contract of the laws' own helper toByteS: a new slice of its own that reads as the slice that was handed in (at most 2^21 bytes).
-/
import Derived.Test.YthaimhgjfjcbeajOwn
namespace Go.Proofs.Ythaimhgjfjcbeaj
open Go.RowKit

theorem Try.infoU8 : (Try.prog.info? 5).map (fun i => (i.zero, i.size, i.bytes)) = some (some (.int .u8 0), 1, 1) := by kernel_rfl

/-- The first j of zs, and noughts behind them. -/
def copied (zs : List Int) (j : Nat) : List Int := zs.take j ++ List.replicate (zs.length - j) 0
theorem copied_length (zs : List Int) (j : Nat) (h : j ≤ zs.length) : (copied zs j).length = zs.length := by simp [copied]; omega
theorem copied_full (zs : List Int) : copied zs zs.length = zs := by simp [copied]
theorem copied_zero (zs : List Int) : bv (copied zs 0) = (madeCells #[Value.int .u8 0] zs.length).toList := by
  rw [toList_madeCells_one]
  simp [copied, bv]
theorem copied_set (zs : List Int) (j : Nat) (h : j < zs.length) : (bv (copied zs j)).set j (.int .u8 zs[j]) = bv (copied zs (j + 1)) := by
  unfold copied bv
  rw [show zs.length - j = zs.length - (j + 1) + 1 by omega, List.replicate_succ, List.take_succ_eq_append_getElem h]
  simp only [List.map_append, List.map_cons, List.map_nil]
  rw [List.set_append_right _ _ (by simp; omega)]
  have e : j - (List.map (Value.int IntKind.u8) (List.take j zs)).length = 0 := by simp; omega
  rw [e]
  simp

set_option maxHeartbeats 400000 in
theorem to_any (v : Value) (zs : List Int) (w : World) (h : Row w v zs) (hm : zs.length ≤ 2097152) :
    Calls Try.prog 13 #[v] w fun e w' => ∃ v', e = .returned v' ∧ w'.ownsRow w.heap.size 5 1 v' zs.length (bv zs) ∧ Below w.heap.size w w' := by
  obtain ⟨ao, cap, rfl, hcap, _, hz, hcell⟩ := h
  obtain ⟨i0, hi, hz0, hz1, hz2⟩ := info_parts Try.infoU8
  have hbytes : i0.bytes * zs.length ≤ 281474976710656 := by rw [hz2]; omega
  have hmax : zs.length ≤ maxLen := by unfold maxLen; omega
  go_enter Try.func13, Try.ntmps13
  go_wp2_with (at_make; refine wpList_make_full _ rfl _ _ 22 rfl w.heap.size 5 i0 (.int .u8 0) 1 Try.underlying22 hi hz0 hz1 _ _ _ _ zs.length rfl rfl rfl rfl hbytes hmax (Nat.le_refl _) ?_)
  intro w1 hown hgrow
  have hbel : Below w.heap.size w w1 := (Below.refl _ _).grown hgrow (Nat.le_refl _) (by intro k hk; cases hk)
  clear hgrow
  go_wp2
  go_loopw [4] (fun i wr => ∃ j : Nat, j ≤ zs.length ∧ i = .int .i64 j ∧ wr.ownsRow w.heap.size 5 1 (.slice (some ⟨w.heap.size, 0, none⟩) zs.length zs.length) zs.length (bv (copied zs j)) ∧ Below w.heap.size w wr) (fun i _ => zs.length - (intOf i).toNat)
  case atStart => exact ⟨0, by omega, rfl, by rw [copied_zero]; exact hown, hbel⟩
  case round =>
    clear hown hbel hbytes hmax
    obtain ⟨j, hj, rfl, hown, hbel⟩ := hrel
    by_cases hlt : j < zs.length
    · obtain ⟨g, o, hao, hg, hcell⟩ := hcell (by intro e; subst e; simp at hlt)
      have hc0 : wr.cell? ⟨g, o + j, none⟩ = some (.int .u8 (zs.getD j 0)) := (hbel.cell (p := ⟨g, o + j, none⟩) hg).trans (hcell j hlt)
      have hc := hown.cellAt j (by omega)
      rw [bv_get _ _ (by rw [copied_length _ _ hj]; exact hlt)] at hc
      have hf := hown.frozenAt j
      have hs := (hown.stored j (.int .u8 zs[j])).1
      clear hcell
      go_wp2
      go_roundw
      case rel =>
        refine ⟨j + 1, by omega, by go_num, ?_, hbel.setCell (Nat.le_refl _) _⟩
        rw [← copied_set zs j hlt]
        exact hs
      case measure => simp [intOf]; omega
    · go_wp2
      go_ret
      have : j = zs.length := by omega
      subst this
      rw [copied_full] at hown
      exact ⟨_, rfl, hown, hbel⟩

end Go.Proofs.Ythaimhgjfjcbeaj
