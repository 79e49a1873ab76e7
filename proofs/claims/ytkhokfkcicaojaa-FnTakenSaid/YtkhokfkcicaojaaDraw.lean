/-
  Contracts of the draws' own cursor: l1New makes one; l1Byte gives a number from 0 to 255 and turns nothing but the cursor.
-/
import Derived.Test.YtkhokfkcicaojaaGrow
import Derived.OpenShut
namespace Go.Proofs.Ytkhokfkcicaojaa
open Go.RowKit

theorem and255 (x : Int) : 0 ≤ bits .and .i64 x 255 ∧ bits .and .i64 x 255 ≤ 255 := by
  have e : (BitVec.ofInt IntKind.i64.bits 255).toNat = 255 := by decide
  have hle : ((BitVec.ofInt IntKind.i64.bits x) &&& (BitVec.ofInt IntKind.i64.bits 255)).toNat ≤ 255 := by
    rw [BitVec.toNat_and, e]; exact Nat.and_le_right
  have h : bits .and .i64 x 255 = IntKind.i64.wrap (((BitVec.ofInt IntKind.i64.bits x) &&& (BitVec.ofInt IntKind.i64.bits 255)).toNat : Int) := rfl
  rw [h, IntKind.wrap_i64]
  omega
theorem and30 (x : Int) : 0 ≤ bits .and .i64 x 1073741823 ∧ bits .and .i64 x 1073741823 ≤ 1073741823 := by
  have e : (BitVec.ofInt IntKind.i64.bits 1073741823).toNat = 1073741823 := by decide
  have hle : ((BitVec.ofInt IntKind.i64.bits x) &&& (BitVec.ofInt IntKind.i64.bits 1073741823)).toNat ≤ 1073741823 := by
    rw [BitVec.toNat_and, e]; exact Nat.and_le_right
  have h : bits .and .i64 x 1073741823 = IntKind.i64.wrap (((BitVec.ofInt IntKind.i64.bits x) &&& (BitVec.ofInt IntKind.i64.bits 1073741823)).toNat : Int) := rfl
  rw [h, IntKind.wrap_i64]
  omega

theorem wrap64_bounds (x : Int) : -9223372036854775808 ≤ wrap64 x ∧ wrap64 x ≤ 9223372036854775807 := by
  unfold wrap64; omega

/-- A cursor at block P over a slice that reads as zs in w0: nothing of w0 has turned, and the cursor's place is within zs. -/
def Cur (w0 : World) (v : Value) (zs : List Int) (w : World) (P : Nat) : Prop :=
  Row w0 v zs ∧ Below w0.heap.size w0 w ∧ w0.heap.size ≤ P ∧ ∃ (i : Nat) (h : Int), i ≤ zs.length ∧ -9223372036854775808 ≤ h ∧ h ≤ 9223372036854775807 ∧ w.heap[P]? = some (.cells #[v, .int .i64 i, .int .i64 h] 64 (0, 0))

theorem Cur.lt {w0 : World} {v : Value} {zs : List Int} {w : World} {P : Nat} (c : Cur w0 v zs w P) : P < w.heap.size := by
  obtain ⟨_, _, _, i, h, _, _, _, hh⟩ := c
  exact (Array.getElem?_eq_some_iff.1 hh).1
/-- What leaves the cursor's block alone leaves the cursor. -/
theorem Cur.kept {w0 : World} {v : Value} {zs : List Int} {w w' : World} {P : Nat} (c : Cur w0 v zs w P) (hb : Below (P + 1) w w') : Cur w0 v zs w' P := by
  obtain ⟨R, B, hP, i, h, hi, h1, h2, hh⟩ := c
  exact ⟨R, B.trans (hb.mono (by omega)), hP, i, h, hi, h1, h2, (hb.block P (by omega)).trans hh⟩

theorem Cur.turned {w0 : World} {v : Value} {zs : List Int} {w w' : World} {P : Nat} (R : Row w0 v zs) (B : Below w0.heap.size w0 w) (hP : w0.heap.size ≤ P) (hg : w.grownBy w' (some P)) (hsz : w0.heap.size ≤ w.heap.size) {i : Nat} {h : Int} (hi : i ≤ zs.length) (h1 : -9223372036854775808 ≤ h) (h2 : h ≤ 9223372036854775807)
    (hh : w'.heap[P]? = some (.cells #[v, .int .i64 i, .int .i64 h] 64 (0, 0))) : Cur w0 v zs w' P :=
  ⟨R, B.grown hg hsz (fun k hk => by simp at hk; omega), hP, i, h, hi, h1, h2, hh⟩
theorem grown_drewN {w w' : World} {row : Option Nat} (h : w.grownBy w' row) (n : Nat) : w.grownBy (w'.drewN n) row := ⟨h.os, h.tape, h.output, h.size, h.block⟩

set_option maxHeartbeats 800000 in
theorem byte_any (w0 : World) (v : Value) (zs : List Int) (w : World) (P : Nat) (c : Cur w0 v zs w P) :
    Calls Try.prog 33 #[.pointer (some ⟨P, 0, none⟩)] w fun e w' => ∃ x : Int, e = .returned (.int .i64 x) ∧ 0 ≤ x ∧ x ≤ 255 ∧ Cur w0 v zs w' P ∧ w.grownBy w' (some P) := by
  obtain ⟨R, B, hP, i, h, hi, h1, h2, hh⟩ := c
  have R' := R
  obtain ⟨ao, cap, rfl, hcap, hm, hz, hcell⟩ := R'
  have c0 : w.cell? ⟨P, 0, none⟩ = some (.slice ao zs.length cap) := by rw [cell_of_row w P 0 _ 64 (0, 0) hh]; rfl
  have c1 : w.cell? ⟨P, 1, none⟩ = some (.int .i64 i) := by rw [cell_of_row w P 1 _ 64 (0, 0) hh]; rfl
  have c2 : w.cell? ⟨P, 2, none⟩ = some (.int .i64 h) := by rw [cell_of_row w P 2 _ 64 (0, 0) hh]; rfl
  have f1 := frozen_of_row w P 1 _ 64 hh
  have f2 := frozen_of_row w P 2 _ 64 hh
  by_cases hlt : i < zs.length
  · obtain ⟨g, o, rfl, hg, hcell⟩ := hcell (by intro e; subst e; simp at hlt)
    have hc0 : w.cell? ⟨g, o + i, none⟩ = some (.int .u8 (zs.getD i 0)) := (B.cell (p := ⟨g, o + i, none⟩) hg).trans (hcell i hlt)
    have hzb := hz zs[i] (List.getElem_mem _)
    have hgP : g ≠ P := by omega
    clear hcell hz
    go_enter Try.func33, Try.ntmps33
    go_wp2
    have hwb := wrap64_bounds (wrap64 (h * 6364136223846793005) + 1442695040888963407)
    generalize wrap64 (wrap64 (h * 6364136223846793005) + 1442695040888963407) = h3 at hwb ⊢
    go_quiet (fail)
    have hx := and255 (bits BinOp.xor IntKind.i64 (h3 / 8589934592) (h3 / 35184372088832))
    generalize bits BinOp.and IntKind.i64 (bits BinOp.xor IntKind.i64 (h3 / 8589934592) (h3 / 35184372088832)) 255 = x at hx ⊢
    go_wp2
    go_quiet (fail)
    go_wp2
    go_quiet (fail)
    have hx2 := and255 (x + zs[i])
    generalize bits BinOp.and IntKind.i64 (x + zs[i]) 255 = x2 at hx2 ⊢
    go_wp2
    go_ret
    have hg2 : w.grownBy (w.setCell ⟨P, 2, none⟩ (.int .i64 h3)) (some P) := grown_set w P 2 _
    have hh2 := heap_setCell_same w P 2 _ 64 (.int .i64 h3) hh
    have hh3 := heap_setCell_same (w.setCell ⟨P, 2, none⟩ (.int .i64 h3)) P 1 _ 64 (.int .i64 ((i : Int) + 1)) hh2
    refine ⟨x2, rfl, hx2.1, hx2.2, Cur.turned R B hP ?_ B.size (i := i + 1) (h := h3) (by omega) hwb.1 hwb.2 hh3, ?_⟩
    all_goals exact grown_trans (grown_drewN hg2 _) (grown_set _ P 1 _)
  · clear hcell hz
    go_enter Try.func33, Try.ntmps33
    go_wp2
    have hwb := wrap64_bounds (wrap64 (h * 6364136223846793005) + 1442695040888963407)
    generalize wrap64 (wrap64 (h * 6364136223846793005) + 1442695040888963407) = h3 at hwb ⊢
    go_quiet (fail)
    have hx := and255 (bits BinOp.xor IntKind.i64 (h3 / 8589934592) (h3 / 35184372088832))
    generalize bits BinOp.and IntKind.i64 (bits BinOp.xor IntKind.i64 (h3 / 8589934592) (h3 / 35184372088832)) 255 = x at hx ⊢
    go_wp2
    go_quiet (fail)
    go_wp2
    go_ret
    have hg2 : w.grownBy (w.setCell ⟨P, 2, none⟩ (.int .i64 h3)) (some P) := grown_set w P 2 _
    have hh2 := heap_setCell_same w P 2 _ 64 (.int .i64 h3) hh
    exact ⟨x, rfl, hx.1, hx.2, Cur.turned R B hP (grown_drewN (grown_drewN hg2 _) _) B.size (i := i) (h := h3) hi hwb.1 hwb.2 hh2, grown_drewN (grown_drewN hg2 _) _⟩

end Go.Proofs.Ytkhokfkcicaojaa
