/-
  Texts that stood by themselves, laid into one.
-/
import Derived.Test.YtbgkofinmdpmcaaGreatDoorFormM
import Derived.OpenShut
/-
  Contracts of the draws' own cursor: l1New makes one; l1Byte gives a number from 0 to 255 and turns nothing but the cursor.
-/
namespace Go.Proofs.YtbgkofinmdpmcaaGreatDoor
open Go.RowKit

theorem and255 (x : Int) : 0 ≤ bits .and .i64 x 255 ∧ bits .and .i64 x 255 ≤ 255 := by
  have e : (BitVec.ofInt IntKind.i64.bits 255).toNat = 255 := by decide
  have hle : ((BitVec.ofInt IntKind.i64.bits x) &&& (BitVec.ofInt IntKind.i64.bits 255)).toNat ≤ 255 := by
    rw [BitVec.toNat_and, e]; exact Nat.and_le_right
  have h : bits .and .i64 x 255 = IntKind.i64.wrap (((BitVec.ofInt IntKind.i64.bits x) &&& (BitVec.ofInt IntKind.i64.bits 255)).toNat : Int) := rfl
  rw [h, IntKind.wrap_i64]
  omega
theorem and30 (x : Int) : 0 ≤ bits .and .i64 x 1073741823 ∧ bits .and .i64 x 1073741823 ≤ 1073741823 := by
  have e : (BitVec.ofInt IntKind.i64.bits 1073741823).toNat = 1073741823 := by decide
  have hle : ((BitVec.ofInt IntKind.i64.bits x) &&& (BitVec.ofInt IntKind.i64.bits 1073741823)).toNat ≤ 1073741823 := by
    rw [BitVec.toNat_and, e]; exact Nat.and_le_right
  have h : bits .and .i64 x 1073741823 = IntKind.i64.wrap (((BitVec.ofInt IntKind.i64.bits x) &&& (BitVec.ofInt IntKind.i64.bits 1073741823)).toNat : Int) := rfl
  rw [h, IntKind.wrap_i64]
  omega

theorem wrap64_bounds (x : Int) : -9223372036854775808 ≤ wrap64 x ∧ wrap64 x ≤ 9223372036854775807 := by
  unfold wrap64; omega

/-- A cursor at block P over a slice that reads as zs in w0: nothing of w0 has turned, and the cursor's place is within zs. -/
def Cur (w0 : World) (v : Value) (zs : List Int) (w : World) (P : Nat) : Prop :=
  Row w0 v zs ∧ Below w0.heap.size w0 w ∧ w0.heap.size ≤ P ∧ ∃ (i : Nat) (h : Int), i ≤ zs.length ∧ -9223372036854775808 ≤ h ∧ h ≤ 9223372036854775807 ∧ w.heap[P]? = some (.cells #[v, .int .i64 i, .int .i64 h] 75 (0, 0))

theorem Cur.lt {w0 : World} {v : Value} {zs : List Int} {w : World} {P : Nat} (c : Cur w0 v zs w P) : P < w.heap.size := by
  obtain ⟨_, _, _, i, h, _, _, _, hh⟩ := c
  exact (Array.getElem?_eq_some_iff.1 hh).1
/-- What leaves the cursor's block alone leaves the cursor. -/
theorem Cur.kept {w0 : World} {v : Value} {zs : List Int} {w w' : World} {P : Nat} (c : Cur w0 v zs w P) (hb : Below (P + 1) w w') : Cur w0 v zs w' P := by
  obtain ⟨R, B, hP, i, h, hi, h1, h2, hh⟩ := c
  exact ⟨R, B.trans (hb.mono (by omega)), hP, i, h, hi, h1, h2, (hb.block P (by omega)).trans hh⟩

theorem Cur.turned {w0 : World} {v : Value} {zs : List Int} {w w' : World} {P : Nat} (R : Row w0 v zs) (B : Below w0.heap.size w0 w) (hP : w0.heap.size ≤ P) (hg : w.grownBy w' (some P)) (hsz : w0.heap.size ≤ w.heap.size) {i : Nat} {h : Int} (hi : i ≤ zs.length) (h1 : -9223372036854775808 ≤ h) (h2 : h ≤ 9223372036854775807)
    (hh : w'.heap[P]? = some (.cells #[v, .int .i64 i, .int .i64 h] 75 (0, 0))) : Cur w0 v zs w' P :=
  ⟨R, B.grown hg hsz (fun k hk => by simp at hk; omega), hP, i, h, hi, h1, h2, hh⟩
theorem grown_drewN {w w' : World} {row : Option Nat} (h : w.grownBy w' row) (n : Nat) : w.grownBy (w'.drewN n) row := ⟨h.os, h.tape, h.output, h.size, h.block⟩

set_option maxHeartbeats 800000 in
theorem byte_any (w0 : World) (v : Value) (zs : List Int) (w : World) (P : Nat) (c : Cur w0 v zs w P) :
    Calls Tryz.prog 60 #[.pointer (some ⟨P, 0, none⟩)] w fun e w' => ∃ x : Int, e = .returned (.int .i64 x) ∧ 0 ≤ x ∧ x ≤ 255 ∧ Cur w0 v zs w' P ∧ w.grownBy w' (some P) := by
  obtain ⟨R, B, hP, i, h, hi, h1, h2, hh⟩ := c
  have R' := R
  obtain ⟨ao, cap, rfl, hcap, hm, hz, hcell⟩ := R'
  have c0 : w.cell? ⟨P, 0, none⟩ = some (.slice ao zs.length cap) := by rw [cell_of_row w P 0 _ 75 (0, 0) hh]; rfl
  have c1 : w.cell? ⟨P, 1, none⟩ = some (.int .i64 i) := by rw [cell_of_row w P 1 _ 75 (0, 0) hh]; rfl
  have c2 : w.cell? ⟨P, 2, none⟩ = some (.int .i64 h) := by rw [cell_of_row w P 2 _ 75 (0, 0) hh]; rfl
  have f1 := frozen_of_row w P 1 _ 75 hh
  have f2 := frozen_of_row w P 2 _ 75 hh
  by_cases hlt : i < zs.length
  · obtain ⟨g, o, rfl, hg, hcell⟩ := hcell (by intro e; subst e; simp at hlt)
    have hc0 : w.cell? ⟨g, o + i, none⟩ = some (.int .u8 (zs.getD i 0)) := (B.cell (p := ⟨g, o + i, none⟩) hg).trans (hcell i hlt)
    have hzb := hz zs[i] (List.getElem_mem _)
    have hgP : g ≠ P := by omega
    clear hcell hz
    go_enter Tryz.func60, Tryz.ntmps60
    go_wp2
    have hwb := wrap64_bounds (wrap64 (h * 6364136223846793005) + 1442695040888963407)
    generalize wrap64 (wrap64 (h * 6364136223846793005) + 1442695040888963407) = h3 at hwb ⊢
    go_quiet (fail)
    have hx := and255 (bits BinOp.xor IntKind.i64 (h3 / 8589934592) (h3 / 35184372088832))
    generalize bits BinOp.and IntKind.i64 (bits BinOp.xor IntKind.i64 (h3 / 8589934592) (h3 / 35184372088832)) 255 = x at hx ⊢
    go_wp2
    go_quiet (fail)
    go_wp2
    go_quiet (fail)
    have hx2 := and255 (x + zs[i])
    generalize bits BinOp.and IntKind.i64 (x + zs[i]) 255 = x2 at hx2 ⊢
    go_wp2
    go_ret
    have hg2 : w.grownBy (w.setCell ⟨P, 2, none⟩ (.int .i64 h3)) (some P) := grown_set w P 2 _
    have hh2 := heap_setCell_same w P 2 _ 75 (.int .i64 h3) hh
    have hh3 := heap_setCell_same (w.setCell ⟨P, 2, none⟩ (.int .i64 h3)) P 1 _ 75 (.int .i64 ((i : Int) + 1)) hh2
    refine ⟨x2, rfl, hx2.1, hx2.2, Cur.turned R B hP ?_ B.size (i := i + 1) (h := h3) (by omega) hwb.1 hwb.2 hh3, ?_⟩
    all_goals exact grown_trans (grown_drewN hg2 _) (grown_set _ P 1 _)
  · clear hcell hz
    go_enter Tryz.func60, Tryz.ntmps60
    go_wp2
    have hwb := wrap64_bounds (wrap64 (h * 6364136223846793005) + 1442695040888963407)
    generalize wrap64 (wrap64 (h * 6364136223846793005) + 1442695040888963407) = h3 at hwb ⊢
    go_quiet (fail)
    have hx := and255 (bits BinOp.xor IntKind.i64 (h3 / 8589934592) (h3 / 35184372088832))
    generalize bits BinOp.and IntKind.i64 (bits BinOp.xor IntKind.i64 (h3 / 8589934592) (h3 / 35184372088832)) 255 = x at hx ⊢
    go_wp2
    go_quiet (fail)
    go_wp2
    go_ret
    have hg2 : w.grownBy (w.setCell ⟨P, 2, none⟩ (.int .i64 h3)) (some P) := grown_set w P 2 _
    have hh2 := heap_setCell_same w P 2 _ 75 (.int .i64 h3) hh
    exact ⟨x, rfl, hx.1, hx.2, Cur.turned R B hP (grown_drewN (grown_drewN hg2 _) _) B.size (i := i) (h := h3) hi hwb.1 hwb.2 hh2, grown_drewN (grown_drewN hg2 _) _⟩

end Go.Proofs.YtbgkofinmdpmcaaGreatDoor

/-
  Contracts of the draws' own helpers: l1New, l1Below, l1Size: a cursor; a number below another one; a size.
-/
namespace Go.Proofs.YtbgkofinmdpmcaaGreatDoor
open Go.RowKit

set_option maxRecDepth 100000 in
set_option maxHeartbeats 800000 in
theorem new_any (v : Value) (zs : List Int) (w : World) (R : Row w v zs) (hl : zs.length ≤ 1048576) :
    Calls Tryz.prog 13 #[v] w fun e w' => e = .returned (.pointer (some ⟨w.heap.size, 0, none⟩)) ∧ Cur w v zs w' w.heap.size ∧ Below w.heap.size w w' := by
  have R' := R
  obtain ⟨ao, cap, rfl, hcap, hm, hz, hcell⟩ := R'
  go_enter Tryz.func13, Tryz.ntmps13
  go_wp2
  go_loop [3, 4] (fun h i => ∃ (k : Nat) (q : Int), k ≤ zs.length ∧ i = .int .i64 k ∧ h = .int .i64 q ∧ 0 ≤ q ∧ q ≤ 1073741823) (fun _ i => zs.length - (intOf i).toNat)
  case atStart => exact ⟨0, 17000 + (zs.length : Int), by omega, rfl, rfl, by omega, by omega⟩
  case round =>
    obtain ⟨k, q, hk, rfl, rfl, hq0, hq1⟩ := hrel
    by_cases hlt : k < zs.length
    · by_cases h4 : k < 4000
      · obtain ⟨g, o, hao, hg, hcell2⟩ := hcell (by intro e; subst e; simp at hlt)
        subst hao
        have hc := hcell2 k hlt
        have hzb := hz zs[k] (List.getElem_mem _)
        clear hcell hcell2 hz R
        go_wp2
        have ha := and30 (q * 131 + zs[k] + 7)
        go_round
        case rel => exact ⟨k + 1, _, by omega, by go_num, rfl, ha.1, ha.2⟩
        case measure => simp [intOf]; omega
      · clear hcell hz
        go_wp2
        go_ret
        refine ⟨rfl, ⟨R, (Below.refl _ _).alloc (Nat.le_refl _) _, Nat.le_refl _, 0, q, by omega, by omega, by omega, heap_alloc_new w _⟩, (Below.refl _ _).alloc (Nat.le_refl _) _⟩
    · clear hcell hz
      go_wp2
      go_ret
      refine ⟨rfl, ⟨R, (Below.refl _ _).alloc (Nat.le_refl _) _, Nat.le_refl _, 0, q, by omega, by omega, by omega, heap_alloc_new w _⟩, (Below.refl _ _).alloc (Nat.le_refl _) _⟩

set_option maxHeartbeats 800000 in
theorem below_any (w0 : World) (v : Value) (zs : List Int) (w : World) (P : Nat) (n : Int) (c : Cur w0 v zs w P) (hn : n ≤ 9223372036854775807) :
    Calls Tryz.prog 34 #[.pointer (some ⟨P, 0, none⟩), .int .i64 n] w fun e w' => ∃ x : Int, e = .returned (.int .i64 x) ∧ 0 ≤ x ∧ (1 ≤ n → x < n) ∧ Cur w0 v zs w' P ∧ w.grownBy w' (some P) := by
  by_cases h0 : n ≤ 0
  · go_enter Tryz.func34, Tryz.ntmps34
    go_wp2
    go_ret
    exact ⟨0, rfl, by omega, by omega, c, World.grownBy.refl _ _⟩
  · by_cases h1 : n ≤ 256
    · go_enter Tryz.func34, Tryz.ntmps34
      go_wp2_with fail
      refine (byte_any w0 v zs w P c).mono ?_
      rintro e w1 ⟨x, rfl, hx0, hx1, c1, g1⟩
      go_wp2_with fail
      go_ret
      exact ⟨_, rfl, Int.emod_nonneg _ (by omega), fun _ => Int.emod_lt_of_pos _ (by omega), c1, g1⟩
    · go_enter Tryz.func34, Tryz.ntmps34
      go_wp2_with fail
      refine (byte_any w0 v zs w P c).mono ?_
      rintro e w1 ⟨x, rfl, hx0, hx1, c1, g1⟩
      go_wp2_with fail
      refine (byte_any w0 v zs w1 P c1).mono ?_
      rintro e w2 ⟨y, rfl, hy0, hy1, c2, g2⟩
      go_wp2_with fail
      refine (byte_any w0 v zs w2 P c2).mono ?_
      rintro e w3 ⟨z, rfl, hz0, hz1, c3, g3⟩
      go_wp2_with fail
      refine (byte_any w0 v zs w3 P c3).mono ?_
      rintro e w4 ⟨u, rfl, hu0, hu1, c4, g4⟩
      go_wp2_with fail
      go_ret
      exact ⟨_, rfl, Int.emod_nonneg _ (by omega), fun _ => Int.emod_lt_of_pos _ (by omega), c4, grown_trans (grown_trans (grown_trans g1 g2) g3) g4⟩

end Go.Proofs.YtbgkofinmdpmcaaGreatDoor

/-
  Contracts of the draws: l1PickInt gives one of its numbers; at gives a byte of the code.
-/
namespace Go.Proofs.YtbgkofinmdpmcaaGreatDoor
open Go.RowKit

set_option maxHeartbeats 800000 in
theorem pick_any (w0 : World) (v : Value) (zs : List Int) (w : World) (P g cap : Nat) (xs : List Int) (c : Cur w0 v zs w P) (hg : g ≠ P) (h1 : 1 ≤ xs.length) (h2 : xs.length ≤ 1048576) (hr : ∀ x ∈ xs, -9223372036854775808 ≤ x ∧ x ≤ 9223372036854775807)
    (hc : ∀ i, i < xs.length → w.cell? ⟨g, i, none⟩ = some (.int .i64 (xs.getD i 0))) :
    Calls Tryz.prog 36 #[.pointer (some ⟨P, 0, none⟩), .slice (some ⟨g, 0, none⟩) xs.length cap] w fun e w' => ∃ x : Int, e = .returned (.int .i64 x) ∧ -9223372036854775808 ≤ x ∧ x ≤ 9223372036854775807 ∧ Cur w0 v zs w' P ∧ w.grownBy w' (some P) := by
  have hgl := World.block_lt_of_cell? _ _ (hc 0 (by omega))
  simp only at hgl
  go_enter Tryz.func36, Tryz.ntmps36
  go_wp2_with fail
  refine (below_any w0 v zs w P xs.length c (by omega)).mono ?_
  rintro e w1 ⟨x, rfl, hx0, hx1, c1, g1⟩
  have hx := hx1 (by omega)
  obtain ⟨k, rfl⟩ := Int.eq_ofNat_of_zero_le hx0
  have hk : k < xs.length := by omega
  have hck : w1.cell? ⟨g, k, none⟩ = some (.int .i64 (xs.getD k 0)) := by
    rw [World.cell?_of_block (w := w) (g1.block g hgl (by simpa using hg))]; exact hc k hk
  have hrk := hr xs[k] (List.getElem_mem _)
  clear hc hr hx1
  go_wp2_with fail
  go_ret
  exact ⟨_, rfl, hrk.1, hrk.2, c1, g1⟩

theorem ints_new (w : World) (xs : List Int) (t : TypeId) (i : Nat) (hi : i < xs.length) : (w.alloc (.cells (xs.map (Value.int .i64)).toArray t)).cell? ⟨w.heap.size, i, none⟩ = some (.int .i64 (xs.getD i 0)) := by
  rw [cell_of_row _ w.heap.size i _ t (0, 0) (heap_alloc_new w _)]
  simp [hi]

end Go.Proofs.YtbgkofinmdpmcaaGreatDoor

/-
  Contracts of the draws: l1Once tells yes or no; l1Pick gives one of its texts.
-/
namespace Go.Proofs.YtbgkofinmdpmcaaGreatDoor
open Go.RowKit

set_option maxHeartbeats 800000 in
theorem once_any (w0 : World) (v : Value) (zs : List Int) (w : World) (P : Nat) (n : Int) (c : Cur w0 v zs w P) (hn : n ≤ 9223372036854775807) :
    Calls Tryz.prog 33 #[.pointer (some ⟨P, 0, none⟩), .int .i64 n] w fun e w' => ∃ b : Bool, e = .returned (.bool b) ∧ Cur w0 v zs w' P ∧ w.grownBy w' (some P) := by
  go_enter Tryz.func33, Tryz.ntmps33
  go_wp2_with fail
  refine (below_any w0 v zs w P n c hn).mono ?_
  rintro e w1 ⟨x, rfl, hx0, hx1, c1, g1⟩
  go_wp2_with fail
  go_ret
  exact ⟨_, rfl, c1, g1⟩

set_option maxHeartbeats 800000 in
theorem picks_any (w0 : World) (v : Value) (zs : List Int) (w : World) (P g cap : Nat) (xs : List ByteArray) (c : Cur w0 v zs w P) (hg : g ≠ P) (h1 : 1 ≤ xs.length) (h2 : xs.length ≤ 1048576)
    (hc : ∀ i, i < xs.length → w.cell? ⟨g, i, none⟩ = some (.string (xs.getD i ByteArray.empty))) :
    Calls Tryz.prog 61 #[.pointer (some ⟨P, 0, none⟩), .slice (some ⟨g, 0, none⟩) xs.length cap] w fun e w' => ∃ s ∈ xs, e = .returned (.string s) ∧ Cur w0 v zs w' P ∧ w.grownBy w' (some P) := by
  have hgl := World.block_lt_of_cell? _ _ (hc 0 (by omega))
  simp only at hgl
  go_enter Tryz.func61, Tryz.ntmps61
  go_wp2_with fail
  refine (below_any w0 v zs w P xs.length c (by omega)).mono ?_
  rintro e w1 ⟨x, rfl, hx0, hx1, c1, g1⟩
  have hx := hx1 (by omega)
  obtain ⟨k, rfl⟩ := Int.eq_ofNat_of_zero_le hx0
  have hk : k < xs.length := by omega
  have hck : w1.cell? ⟨g, k, none⟩ = some (.string (xs.getD k ByteArray.empty)) := by
    rw [World.cell?_of_block (w := w) (g1.block g hgl (by simpa using hg))]; exact hc k hk
  rw [show xs.getD k ByteArray.empty = xs[k] by simp [hk]] at hck
  have hmem : xs[k] ∈ xs := List.getElem_mem _
  generalize xs[k] = s at hck hmem
  clear hc hx1
  go_wp2_with fail
  go_ret
  exact ⟨s, hmem, rfl, c1, g1⟩

theorem strs_new (w : World) (xs : List ByteArray) (t : TypeId) (i : Nat) (hi : i < xs.length) : (w.alloc (.cells (xs.map Value.string).toArray t)).cell? ⟨w.heap.size, i, none⟩ = some (.string (xs.getD i ByteArray.empty)) := by
  rw [cell_of_row _ w.heap.size i _ t (0, 0) (heap_alloc_new w _)]
  simp [hi]

end Go.Proofs.YtbgkofinmdpmcaaGreatDoor
