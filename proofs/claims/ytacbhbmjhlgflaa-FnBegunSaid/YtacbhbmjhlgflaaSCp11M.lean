/-
  Texts that stood by themselves, laid into one.
-/
import Derived.Test.YtacbhbmjhlgflaaSMakeM
import Derived.OpenShut
import Derived.Test.YtacbhbmjhlgflaaSSizeM
import Derived.Test.YtacbhbmjhlgflaaTo2M
import Derived.Test.YtacbhbmjhlgflaaShapeM
import Derived.Lib.ItoaNum
import Derived.Test.YtacbhbmjhlgflaaBsM
import Derived.Deep.LoopGhost
import Derived.Test.YtacbhbmjhlgflaaInM
import Derived.Test.YtacbhbmjhlgflaaLPoolOkM
import Derived.Test.YtacbhbmjhlgflaaMOf2M
import Derived.Test.YtacbhbmjhlgflaaDefOfM
import Derived.Test.YtacbhbmjhlgflaaWithM
import Derived.Test.YtacbhbmjhlgflaaSClsM
import Derived.Deep.RegionLaw
import Derived.Deep.AppendLies
import Derived.Deep.RegionHeld
import Derived.Deep.QuietTactic
import Derived.BigQuiet
import Derived.Deep.CutRange
import Derived.Deep.DeepCutAuto
import Derived.Test.YtacbhbmjhlgflaaMcTM
import Derived.Test.YtacbhbmjhlgflaaMkListM
/-
  Contracts of the draws' own cursor: l1New makes one; l1Byte gives a number from 0 to 255 and turns nothing but the cursor.
-/
namespace Go.Proofs.Ytacbhbmjhlgflaa
open Go.RowKit

theorem and255 (x : Int) : 0 ≤ bits .and .i64 x 255 ∧ bits .and .i64 x 255 ≤ 255 := by
  have e : (BitVec.ofInt IntKind.i64.bits 255).toNat = 255 := by decide
  have hle : ((BitVec.ofInt IntKind.i64.bits x) &&& (BitVec.ofInt IntKind.i64.bits 255)).toNat ≤ 255 := by
    rw [BitVec.toNat_and, e]; exact Nat.and_le_right
  have h : bits .and .i64 x 255 = IntKind.i64.wrap (((BitVec.ofInt IntKind.i64.bits x) &&& (BitVec.ofInt IntKind.i64.bits 255)).toNat : Int) := rfl
  rw [h, IntKind.wrap_i64]
  omega
theorem and30 (x : Int) : 0 ≤ bits .and .i64 x 1073741823 ∧ bits .and .i64 x 1073741823 ≤ 1073741823 := by
  have e : (BitVec.ofInt IntKind.i64.bits 1073741823).toNat = 1073741823 := by decide
  have hle : ((BitVec.ofInt IntKind.i64.bits x) &&& (BitVec.ofInt IntKind.i64.bits 1073741823)).toNat ≤ 1073741823 := by
    rw [BitVec.toNat_and, e]; exact Nat.and_le_right
  have h : bits .and .i64 x 1073741823 = IntKind.i64.wrap (((BitVec.ofInt IntKind.i64.bits x) &&& (BitVec.ofInt IntKind.i64.bits 1073741823)).toNat : Int) := rfl
  rw [h, IntKind.wrap_i64]
  omega

theorem wrap64_bounds (x : Int) : -9223372036854775808 ≤ wrap64 x ∧ wrap64 x ≤ 9223372036854775807 := by
  unfold wrap64; omega

/-- A cursor at block P over a slice that reads as zs in w0: nothing of w0 has turned, and the cursor's place is within zs. -/
def Cur (w0 : World) (v : Value) (zs : List Int) (w : World) (P : Nat) : Prop :=
  Row w0 v zs ∧ Below w0.heap.size w0 w ∧ w0.heap.size ≤ P ∧ ∃ (i : Nat) (h : Int), i ≤ zs.length ∧ -9223372036854775808 ≤ h ∧ h ≤ 9223372036854775807 ∧ w.heap[P]? = some (.cells #[v, .int .i64 i, .int .i64 h] 127 (0, 0))

theorem Cur.lt {w0 : World} {v : Value} {zs : List Int} {w : World} {P : Nat} (c : Cur w0 v zs w P) : P < w.heap.size := by
  obtain ⟨_, _, _, i, h, _, _, _, hh⟩ := c
  exact (Array.getElem?_eq_some_iff.1 hh).1
/-- What leaves the cursor's block alone leaves the cursor. -/
theorem Cur.kept {w0 : World} {v : Value} {zs : List Int} {w w' : World} {P : Nat} (c : Cur w0 v zs w P) (hb : Below (P + 1) w w') : Cur w0 v zs w' P := by
  obtain ⟨R, B, hP, i, h, hi, h1, h2, hh⟩ := c
  exact ⟨R, B.trans (hb.mono (by omega)), hP, i, h, hi, h1, h2, (hb.block P (by omega)).trans hh⟩

theorem Cur.turned {w0 : World} {v : Value} {zs : List Int} {w w' : World} {P : Nat} (R : Row w0 v zs) (B : Below w0.heap.size w0 w) (hP : w0.heap.size ≤ P) (hg : w.grownBy w' (some P)) (hsz : w0.heap.size ≤ w.heap.size) {i : Nat} {h : Int} (hi : i ≤ zs.length) (h1 : -9223372036854775808 ≤ h) (h2 : h ≤ 9223372036854775807)
    (hh : w'.heap[P]? = some (.cells #[v, .int .i64 i, .int .i64 h] 127 (0, 0))) : Cur w0 v zs w' P :=
  ⟨R, B.grown hg hsz (fun k hk => by simp at hk; omega), hP, i, h, hi, h1, h2, hh⟩
theorem grown_drewN {w w' : World} {row : Option Nat} (h : w.grownBy w' row) (n : Nat) : w.grownBy (w'.drewN n) row := ⟨h.os, h.tape, h.output, h.size, h.block⟩

set_option maxHeartbeats 800000 in
theorem byte_any (w0 : World) (v : Value) (zs : List Int) (w : World) (P : Nat) (c : Cur w0 v zs w P) :
    Calls Try.prog 88 #[.pointer (some ⟨P, 0, none⟩)] w fun e w' => ∃ x : Int, e = .returned (.int .i64 x) ∧ 0 ≤ x ∧ x ≤ 255 ∧ Cur w0 v zs w' P ∧ w.grownBy w' (some P) := by
  obtain ⟨R, B, hP, i, h, hi, h1, h2, hh⟩ := c
  have R' := R
  obtain ⟨ao, cap, rfl, hcap, hm, hz, hcell⟩ := R'
  have c0 : w.cell? ⟨P, 0, none⟩ = some (.slice ao zs.length cap) := by rw [cell_of_row w P 0 _ 127 (0, 0) hh]; rfl
  have c1 : w.cell? ⟨P, 1, none⟩ = some (.int .i64 i) := by rw [cell_of_row w P 1 _ 127 (0, 0) hh]; rfl
  have c2 : w.cell? ⟨P, 2, none⟩ = some (.int .i64 h) := by rw [cell_of_row w P 2 _ 127 (0, 0) hh]; rfl
  have f1 := frozen_of_row w P 1 _ 127 hh
  have f2 := frozen_of_row w P 2 _ 127 hh
  by_cases hlt : i < zs.length
  · obtain ⟨g, o, rfl, hg, hcell⟩ := hcell (by intro e; subst e; simp at hlt)
    have hc0 : w.cell? ⟨g, o + i, none⟩ = some (.int .u8 (zs.getD i 0)) := (B.cell (p := ⟨g, o + i, none⟩) hg).trans (hcell i hlt)
    have hzb := hz zs[i] (List.getElem_mem _)
    have hgP : g ≠ P := by omega
    clear hcell hz
    go_enter Try.func88, Try.ntmps88
    go_wp2
    have hwb := wrap64_bounds (wrap64 (h * 6364136223846793005) + 1442695040888963407)
    generalize wrap64 (wrap64 (h * 6364136223846793005) + 1442695040888963407) = h3 at hwb ⊢
    go_quiet (fail)
    have hx := and255 (bits BinOp.xor IntKind.i64 (h3 / 8589934592) (h3 / 35184372088832))
    generalize bits BinOp.and IntKind.i64 (bits BinOp.xor IntKind.i64 (h3 / 8589934592) (h3 / 35184372088832)) 255 = x at hx ⊢
    go_wp2
    go_quiet (fail)
    go_wp2
    go_quiet (fail)
    have hx2 := and255 (x + zs[i])
    generalize bits BinOp.and IntKind.i64 (x + zs[i]) 255 = x2 at hx2 ⊢
    go_wp2
    go_ret
    have hg2 : w.grownBy (w.setCell ⟨P, 2, none⟩ (.int .i64 h3)) (some P) := grown_set w P 2 _
    have hh2 := heap_setCell_same w P 2 _ 127 (.int .i64 h3) hh
    have hh3 := heap_setCell_same (w.setCell ⟨P, 2, none⟩ (.int .i64 h3)) P 1 _ 127 (.int .i64 ((i : Int) + 1)) hh2
    refine ⟨x2, rfl, hx2.1, hx2.2, Cur.turned R B hP ?_ B.size (i := i + 1) (h := h3) (by omega) hwb.1 hwb.2 hh3, ?_⟩
    all_goals exact grown_trans (grown_drewN hg2 _) (grown_set _ P 1 _)
  · clear hcell hz
    go_enter Try.func88, Try.ntmps88
    go_wp2
    have hwb := wrap64_bounds (wrap64 (h * 6364136223846793005) + 1442695040888963407)
    generalize wrap64 (wrap64 (h * 6364136223846793005) + 1442695040888963407) = h3 at hwb ⊢
    go_quiet (fail)
    have hx := and255 (bits BinOp.xor IntKind.i64 (h3 / 8589934592) (h3 / 35184372088832))
    generalize bits BinOp.and IntKind.i64 (bits BinOp.xor IntKind.i64 (h3 / 8589934592) (h3 / 35184372088832)) 255 = x at hx ⊢
    go_wp2
    go_quiet (fail)
    go_wp2
    go_ret
    have hg2 : w.grownBy (w.setCell ⟨P, 2, none⟩ (.int .i64 h3)) (some P) := grown_set w P 2 _
    have hh2 := heap_setCell_same w P 2 _ 127 (.int .i64 h3) hh
    exact ⟨x, rfl, hx.1, hx.2, Cur.turned R B hP (grown_drewN (grown_drewN hg2 _) _) B.size (i := i) (h := h3) hi hwb.1 hwb.2 hh2, grown_drewN (grown_drewN hg2 _) _⟩

end Go.Proofs.Ytacbhbmjhlgflaa

/-
  Contracts of the draws' own helpers: l1New, l1Below, l1Size: a cursor; a number below another one; a size.
-/
namespace Go.Proofs.Ytacbhbmjhlgflaa
open Go.RowKit

set_option maxRecDepth 100000 in
set_option maxHeartbeats 800000 in
theorem new_any (v : Value) (zs : List Int) (w : World) (R : Row w v zs) (hl : zs.length ≤ 1048576) :
    Calls Try.prog 50 #[v] w fun e w' => e = .returned (.pointer (some ⟨w.heap.size, 0, none⟩)) ∧ Cur w v zs w' w.heap.size ∧ Below w.heap.size w w' := by
  have R' := R
  obtain ⟨ao, cap, rfl, hcap, hm, hz, hcell⟩ := R'
  go_enter Try.func50, Try.ntmps50
  go_wp2
  go_loop [3, 4] (fun h i => ∃ (k : Nat) (q : Int), k ≤ zs.length ∧ i = .int .i64 k ∧ h = .int .i64 q ∧ 0 ≤ q ∧ q ≤ 1073741823) (fun _ i => zs.length - (intOf i).toNat)
  case atStart => exact ⟨0, 17000 + (zs.length : Int), by omega, rfl, rfl, by omega, by omega⟩
  case round =>
    obtain ⟨k, q, hk, rfl, rfl, hq0, hq1⟩ := hrel
    by_cases hlt : k < zs.length
    · by_cases h4 : k < 4000
      · obtain ⟨g, o, hao, hg, hcell2⟩ := hcell (by intro e; subst e; simp at hlt)
        subst hao
        have hc := hcell2 k hlt
        have hzb := hz zs[k] (List.getElem_mem _)
        clear hcell hcell2 hz R
        go_wp2
        have ha := and30 (q * 131 + zs[k] + 7)
        go_round
        case rel => exact ⟨k + 1, _, by omega, by go_num, rfl, ha.1, ha.2⟩
        case measure => simp [intOf]; omega
      · clear hcell hz
        go_wp2
        go_ret
        refine ⟨rfl, ⟨R, (Below.refl _ _).alloc (Nat.le_refl _) _, Nat.le_refl _, 0, q, by omega, by omega, by omega, heap_alloc_new w _⟩, (Below.refl _ _).alloc (Nat.le_refl _) _⟩
    · clear hcell hz
      go_wp2
      go_ret
      refine ⟨rfl, ⟨R, (Below.refl _ _).alloc (Nat.le_refl _) _, Nat.le_refl _, 0, q, by omega, by omega, by omega, heap_alloc_new w _⟩, (Below.refl _ _).alloc (Nat.le_refl _) _⟩

set_option maxHeartbeats 800000 in
theorem below_any (w0 : World) (v : Value) (zs : List Int) (w : World) (P : Nat) (n : Int) (c : Cur w0 v zs w P) (hn : n ≤ 9223372036854775807) :
    Calls Try.prog 57 #[.pointer (some ⟨P, 0, none⟩), .int .i64 n] w fun e w' => ∃ x : Int, e = .returned (.int .i64 x) ∧ 0 ≤ x ∧ (1 ≤ n → x < n) ∧ Cur w0 v zs w' P ∧ w.grownBy w' (some P) := by
  by_cases h0 : n ≤ 0
  · go_enter Try.func57, Try.ntmps57
    go_wp2
    go_ret
    exact ⟨0, rfl, by omega, by omega, c, World.grownBy.refl _ _⟩
  · by_cases h1 : n ≤ 256
    · go_enter Try.func57, Try.ntmps57
      go_wp2_with fail
      refine (byte_any w0 v zs w P c).mono ?_
      rintro e w1 ⟨x, rfl, hx0, hx1, c1, g1⟩
      go_wp2_with fail
      go_ret
      exact ⟨_, rfl, Int.emod_nonneg _ (by omega), fun _ => Int.emod_lt_of_pos _ (by omega), c1, g1⟩
    · go_enter Try.func57, Try.ntmps57
      go_wp2_with fail
      refine (byte_any w0 v zs w P c).mono ?_
      rintro e w1 ⟨x, rfl, hx0, hx1, c1, g1⟩
      go_wp2_with fail
      refine (byte_any w0 v zs w1 P c1).mono ?_
      rintro e w2 ⟨y, rfl, hy0, hy1, c2, g2⟩
      go_wp2_with fail
      refine (byte_any w0 v zs w2 P c2).mono ?_
      rintro e w3 ⟨z, rfl, hz0, hz1, c3, g3⟩
      go_wp2_with fail
      refine (byte_any w0 v zs w3 P c3).mono ?_
      rintro e w4 ⟨u, rfl, hu0, hu1, c4, g4⟩
      go_wp2_with fail
      go_ret
      exact ⟨_, rfl, Int.emod_nonneg _ (by omega), fun _ => Int.emod_lt_of_pos _ (by omega), c4, grown_trans (grown_trans (grown_trans g1 g2) g3) g4⟩

end Go.Proofs.Ytacbhbmjhlgflaa

/-
  Contracts of the draws: l1PickInt gives one of its numbers; at gives a byte of the code.
-/
namespace Go.Proofs.Ytacbhbmjhlgflaa
open Go.RowKit

set_option maxHeartbeats 800000 in
theorem pick_any (w0 : World) (v : Value) (zs : List Int) (w : World) (P g cap : Nat) (xs : List Int) (c : Cur w0 v zs w P) (hg : g ≠ P) (h1 : 1 ≤ xs.length) (h2 : xs.length ≤ 1048576) (hr : ∀ x ∈ xs, -9223372036854775808 ≤ x ∧ x ≤ 9223372036854775807)
    (hc : ∀ i, i < xs.length → w.cell? ⟨g, i, none⟩ = some (.int .i64 (xs.getD i 0))) :
    Calls Try.prog 56 #[.pointer (some ⟨P, 0, none⟩), .slice (some ⟨g, 0, none⟩) xs.length cap] w fun e w' => ∃ x : Int, e = .returned (.int .i64 x) ∧ -9223372036854775808 ≤ x ∧ x ≤ 9223372036854775807 ∧ Cur w0 v zs w' P ∧ w.grownBy w' (some P) := by
  have hgl := World.block_lt_of_cell? _ _ (hc 0 (by omega))
  simp only at hgl
  go_enter Try.func56, Try.ntmps56
  go_wp2_with fail
  refine (below_any w0 v zs w P xs.length c (by omega)).mono ?_
  rintro e w1 ⟨x, rfl, hx0, hx1, c1, g1⟩
  have hx := hx1 (by omega)
  obtain ⟨k, rfl⟩ := Int.eq_ofNat_of_zero_le hx0
  have hk : k < xs.length := by omega
  have hck : w1.cell? ⟨g, k, none⟩ = some (.int .i64 (xs.getD k 0)) := by
    rw [World.cell?_of_block (w := w) (g1.block g hgl (by simpa using hg))]; exact hc k hk
  have hrk := hr xs[k] (List.getElem_mem _)
  clear hc hr hx1
  go_wp2_with fail
  go_ret
  exact ⟨_, rfl, hrk.1, hrk.2, c1, g1⟩

theorem ints_new (w : World) (xs : List Int) (t : TypeId) (i : Nat) (hi : i < xs.length) : (w.alloc (.cells (xs.map (Value.int .i64)).toArray t)).cell? ⟨w.heap.size, i, none⟩ = some (.int .i64 (xs.getD i 0)) := by
  rw [cell_of_row _ w.heap.size i _ t (0, 0) (heap_alloc_new w _)]
  simp [hi]

end Go.Proofs.Ytacbhbmjhlgflaa

/-
  Contracts of the draws: l1Once tells yes or no; l1Pick gives one of its texts.
-/
namespace Go.Proofs.Ytacbhbmjhlgflaa
open Go.RowKit

set_option maxHeartbeats 800000 in
theorem once_any (w0 : World) (v : Value) (zs : List Int) (w : World) (P : Nat) (n : Int) (c : Cur w0 v zs w P) (hn : n ≤ 9223372036854775807) :
    Calls Try.prog 55 #[.pointer (some ⟨P, 0, none⟩), .int .i64 n] w fun e w' => ∃ b : Bool, e = .returned (.bool b) ∧ Cur w0 v zs w' P ∧ w.grownBy w' (some P) := by
  go_enter Try.func55, Try.ntmps55
  go_wp2_with fail
  refine (below_any w0 v zs w P n c hn).mono ?_
  rintro e w1 ⟨x, rfl, hx0, hx1, c1, g1⟩
  go_wp2_with fail
  go_ret
  exact ⟨_, rfl, c1, g1⟩

set_option maxHeartbeats 800000 in
theorem picks_any (w0 : World) (v : Value) (zs : List Int) (w : World) (P g cap : Nat) (xs : List ByteArray) (c : Cur w0 v zs w P) (hg : g ≠ P) (h1 : 1 ≤ xs.length) (h2 : xs.length ≤ 1048576)
    (hc : ∀ i, i < xs.length → w.cell? ⟨g, i, none⟩ = some (.string (xs.getD i ByteArray.empty))) :
    Calls Try.prog 52 #[.pointer (some ⟨P, 0, none⟩), .slice (some ⟨g, 0, none⟩) xs.length cap] w fun e w' => ∃ s ∈ xs, e = .returned (.string s) ∧ Cur w0 v zs w' P ∧ w.grownBy w' (some P) := by
  have hgl := World.block_lt_of_cell? _ _ (hc 0 (by omega))
  simp only at hgl
  go_enter Try.func52, Try.ntmps52
  go_wp2_with fail
  refine (below_any w0 v zs w P xs.length c (by omega)).mono ?_
  rintro e w1 ⟨x, rfl, hx0, hx1, c1, g1⟩
  have hx := hx1 (by omega)
  obtain ⟨k, rfl⟩ := Int.eq_ofNat_of_zero_le hx0
  have hk : k < xs.length := by omega
  have hck : w1.cell? ⟨g, k, none⟩ = some (.string (xs.getD k ByteArray.empty)) := by
    rw [World.cell?_of_block (w := w) (g1.block g hgl (by simpa using hg))]; exact hc k hk
  rw [show xs.getD k ByteArray.empty = xs[k] by simp [hk]] at hck
  have hmem : xs[k] ∈ xs := List.getElem_mem _
  generalize xs[k] = s at hck hmem
  clear hc hx1
  go_wp2_with fail
  go_ret
  exact ⟨s, hmem, rfl, c1, g1⟩

theorem strs_new (w : World) (xs : List ByteArray) (t : TypeId) (i : Nat) (hi : i < xs.length) : (w.alloc (.cells (xs.map Value.string).toArray t)).cell? ⟨w.heap.size, i, none⟩ = some (.string (xs.getD i ByteArray.empty)) := by
  rw [cell_of_row _ w.heap.size i _ t (0, 0) (heap_alloc_new w _)]
  simp [hi]

end Go.Proofs.Ytacbhbmjhlgflaa

/-
  Contracts of the draws of nodes: l2DrawAtom, l2DrawNode, l2Spoil: each gives some node, and turns nothing but the cursor.
-/
namespace Go.Proofs.Ytacbhbmjhlgflaa
open Go.RowKit

/-- A node as a value. -/
def ndV (y : Nd) : Value := .agg #[.int .i64 y.k, .int .i64 y.n, .string y.s, .int .i64 y.a, .int .i64 y.b]
def ndO (y : Nd) : Obj := .cells #[.int .i64 y.k, .int .i64 y.n, .string y.s, .int .i64 y.a, .int .i64 y.b] 63 (0, 0)
theorem draw_done {w0 w w3 w4 : World} {v : Value} {zs : List Int} {P : Nat} (c3 : Cur w0 v zs w3 P) (hg : w.grownBy w3 (some P)) (b4 : Below w.heap.size w3 w4) (hP : P < w.heap.size) : Cur w0 v zs w4 P ∧ w.grownBy w4 (some P) :=
  ⟨c3.kept (b4.mono (by omega)), ⟨b4.os.trans hg.os, b4.tape.trans hg.tape, b4.output.trans hg.output, Nat.le_trans hg.size b4.size, fun k hk hne => (b4.block k hk).trans (hg.block k hk hne)⟩⟩
theorem draw_step {w w1 w2 : World} {P : Nat} (hb : Below w.heap.size w w1) (hg : w1.grownBy w2 (some P)) : w.grownBy w2 (some P) :=
  ⟨hg.os.trans hb.os, hg.tape.trans hb.tape, hg.output.trans hb.output, Nat.le_trans hb.size hg.size, fun k hk hne => (hg.block k (Nat.lt_of_lt_of_le hk hb.size) hne).trans (hb.block k hk)⟩
/-- A node stored whole into a variable. -/
theorem wpList_store_nd {ops : Array Oper} {rest : List Oper} {o : Oper} {a : Act} {w : World} {Q : Exit → Act → World → Prop} (hgd : o.guard = none) (x y : Operand) (ho : o.op = .store 63 x y)
    (g : Nat) (nd : Nd) (hx : a.eval x = .pointer (some ⟨g, 0, none⟩)) (hy : a.eval y = ndV nd) (old : Nd) (hg : w.heap[g]? = some (ndO old))
    (h : ∀ w2 : World, w2.heap[g]? = some (ndO nd) → Below g w w2 → w2.heap.size = w.heap.size → wpList Try.prog ops Q rest (a.put o.dst undef) w2) : wpList Try.prog ops Q (o :: rest) a w :=
  wpList_store_own hgd 63 x y ho g _ hx hy 63 _ hg Try.sizeN rfl (all_oneCell_toArray nd.one) h
theorem empty40 : ByteArray.empty.size ≤ 40 := by decide

def picks6 : List ByteArray := [⟨#[97]⟩, ⟨#[98, 99]⟩, ⟨#[120]⟩, ⟨#[102]⟩, ⟨#[43]⟩, ⟨#[108, 105, 115, 116]⟩]
theorem picks6_size : ∀ s ∈ picks6, s.size ≤ 40 := by decide
set_option maxHeartbeats 1600000 in
theorem datom_any (w0 : World) (v : Value) (zs : List Int) (w : World) (P : Nat) (c : Cur w0 v zs w P) :
    Calls Try.prog 117 #[.pointer (some ⟨P, 0, none⟩)] w fun e w' => ∃ x : Nd, e = .returned (ndV x) ∧ x.s.size ≤ 40 ∧ Cur w0 v zs w' P ∧ w.grownBy w' (some P) := by
  have hP := c.lt
  go_enter Try.func117, Try.ntmps117
  go_wp2_with fail
  have hB0 : Below w.heap.size w (w.alloc (ndO zeroN)) := (Below.refl _ _).alloc (Nat.le_refl _) _
  refine (below_any w0 v zs _ P 8 (c.kept (hB0.mono (by omega))) (by omega)).mono ?_
  rintro e w1 ⟨r, rfl, hr0, hr1, c1, g1⟩
  have hr := hr1 (by omega)
  have hb1 : w1.heap[w.heap.size]? = some (ndO zeroN) := (g1.block _ (by simp) (by simp; omega)).trans (heap_alloc_new _ _)
  have g1' := draw_step hB0 g1
  have hs1 := g1'.size
  clear hB0 g1 hr1
  by_cases h0 : r = 0
  · subst h0
    go_wp2_with (refine wpList_store_nd rfl _ _ rfl w.heap.size (⟨1, 0, ByteArray.empty, 0, 0⟩) rfl rfl zeroN hb1 ?_)
    intro w5 h5 b5 hs5
    obtain ⟨c6, g6⟩ := draw_done c1 g1' b5 hP
    go_wp2_with fail
    exact bodyPost_ret (results_cell_row rfl _ _ w.heap.size 63 _ (0, 0) _ rfl h5 Try.underlying63 rfl Try.sizeN) rfl ⟨_, rfl, empty40, c6, g6⟩
  by_cases h1 : r = 1
  · subst h1
    go_wp2_with fail
    refine (below_any w0 v zs _ P 2 c1 (by omega)).mono ?_
    rintro e w2 ⟨x, rfl, hx0, hx1, c2, g2⟩
    have hx := hx1 (by omega)
    have hb2 : w2.heap[w.heap.size]? = some (ndO zeroN) := (g2.block _ (Array.getElem?_eq_some_iff.1 hb1).1 (by simp; omega)).trans hb1
    have g2' := grown_trans g1' g2
    clear hx1 g2
    go_wp2_with (refine wpList_store_nd rfl _ _ rfl w.heap.size (⟨2, x, ByteArray.empty, 0, 0⟩) rfl rfl zeroN hb2 ?_)
    intro w5 h5 b5 hs5
    obtain ⟨c6, g6⟩ := draw_done c2 g2' b5 hP
    go_wp2_with fail
    exact bodyPost_ret (results_cell_row rfl _ _ w.heap.size 63 _ (0, 0) _ rfl h5 Try.underlying63 rfl Try.sizeN) rfl ⟨_, rfl, empty40, c6, g6⟩
  by_cases h2 : r = 2
  · subst h2
    go_wp2_with fail
    have hB1 : Below w1.heap.size w1 (w1.alloc (Obj.cells (picks6.map Value.string).toArray 9)) := (Below.refl _ _).alloc (Nat.le_refl _) _
    have hc1 := c1.lt
    refine (picks_any w0 v zs _ P w1.heap.size 6 picks6 (c1.kept (hB1.mono (by omega))) (by omega) (by decide) (by decide) (fun i hi => strs_new w1 picks6 9 i hi)).mono ?_
    rintro e w2 ⟨s, hs, rfl, c2, g2⟩
    have hb2 : w2.heap[w.heap.size]? = some (ndO zeroN) := (g2.block _ (by have := (Array.getElem?_eq_some_iff.1 hb1).1; simp; omega) (by simp; omega)).trans ((heap_alloc_old _ _ (Array.getElem?_eq_some_iff.1 hb1).1).trans hb1)
    have g2' := grown_trans g1' (draw_step hB1 g2)
    have hs40 := picks6_size s hs
    clear hs g2 hB1
    go_wp2_with (refine wpList_store_nd rfl _ _ rfl w.heap.size (⟨4, 0, s, 0, 0⟩) rfl rfl zeroN hb2 ?_)
    intro w5 h5 b5 hs5
    obtain ⟨c6, g6⟩ := draw_done c2 g2' b5 hP
    go_wp2_with fail
    exact bodyPost_ret (results_cell_row rfl _ _ w.heap.size 63 _ (0, 0) _ rfl h5 Try.underlying63 rfl Try.sizeN) rfl ⟨_, rfl, hs40, c6, g6⟩
  by_cases h3 : r = 3
  · subst h3
    go_wp2_with fail
    refine (below_any w0 v zs _ P 5 c1 (by omega)).mono ?_
    rintro e w2 ⟨x, rfl, hx0, hx1, c2, g2⟩
    have hx := hx1 (by omega)
    have hb2 : w2.heap[w.heap.size]? = some (ndO zeroN) := (g2.block _ (Array.getElem?_eq_some_iff.1 hb1).1 (by simp; omega)).trans hb1
    have g2' := grown_trans g1' g2
    clear hx1 g2
    go_wp2_with (refine wpList_store_nd rfl _ _ rfl w.heap.size (⟨9, x, ByteArray.empty, 0, 0⟩) rfl rfl zeroN hb2 ?_)
    intro w5 h5 b5 hs5
    obtain ⟨c6, g6⟩ := draw_done c2 g2' b5 hP
    go_wp2_with fail
    exact bodyPost_ret (results_cell_row rfl _ _ w.heap.size 63 _ (0, 0) _ rfl h5 Try.underlying63 rfl Try.sizeN) rfl ⟨_, rfl, empty40, c6, g6⟩
  by_cases h4 : r = 4
  · subst h4
    go_wp2_with fail
    refine (below_any w0 v zs _ P 5 c1 (by omega)).mono ?_
    rintro e w2 ⟨x, rfl, hx0, hx1, c2, g2⟩
    have hx := hx1 (by omega)
    have hb2 : w2.heap[w.heap.size]? = some (ndO zeroN) := (g2.block _ (Array.getElem?_eq_some_iff.1 hb1).1 (by simp; omega)).trans hb1
    have g2' := grown_trans g1' g2
    clear hx1 g2
    go_wp2_with (refine wpList_store_nd rfl _ _ rfl w.heap.size (⟨8, x, ByteArray.empty, 0, 0⟩) rfl rfl zeroN hb2 ?_)
    intro w5 h5 b5 hs5
    obtain ⟨c6, g6⟩ := draw_done c2 g2' b5 hP
    go_wp2_with fail
    exact bodyPost_ret (results_cell_row rfl _ _ w.heap.size 63 _ (0, 0) _ rfl h5 Try.underlying63 rfl Try.sizeN) rfl ⟨_, rfl, empty40, c6, g6⟩
  · skip
    go_wp2_with fail
    refine (below_any w0 v zs _ P 12 c1 (by omega)).mono ?_
    rintro e w2 ⟨x, rfl, hx0, hx1, c2, g2⟩
    have hx := hx1 (by omega)
    have hb2 : w2.heap[w.heap.size]? = some (ndO zeroN) := (g2.block _ (Array.getElem?_eq_some_iff.1 hb1).1 (by simp; omega)).trans hb1
    have g2' := grown_trans g1' g2
    clear hx1 g2
    go_wp2_with (refine wpList_store_nd rfl _ _ rfl w.heap.size (⟨3, x - 3, ByteArray.empty, 0, 0⟩) rfl rfl zeroN hb2 ?_)
    intro w5 h5 b5 hs5
    obtain ⟨c6, g6⟩ := draw_done c2 g2' b5 hP
    go_wp2_with fail
    exact bodyPost_ret (results_cell_row rfl _ _ w.heap.size 63 _ (0, 0) _ rfl h5 Try.underlying63 rfl Try.sizeN) rfl ⟨_, rfl, empty40, c6, g6⟩

set_option maxHeartbeats 1600000 in
theorem dnode_any (w0 : World) (v : Value) (zs : List Int) (w : World) (P : Nat) (m : Nat) (c : Cur w0 v zs w P) (hm : m ≤ 100000) :
    Calls Try.prog 102 #[.pointer (some ⟨P, 0, none⟩), .int .i64 m] w fun e w' => ∃ x : Nd, e = .returned (ndV x) ∧ x.s.size ≤ 40 ∧ Cur w0 v zs w' P ∧ w.grownBy w' (some P) := by
  have hP := c.lt
  have hB0 : Below w.heap.size w (w.alloc (ndO zeroN)) := (Below.refl _ _).alloc (Nat.le_refl _) _
  have c0 := c.kept (hB0.mono (show P + 1 ≤ w.heap.size by omega))
  have g0' : w.grownBy (w.alloc (ndO zeroN)) (some P) := World.grownBy_alloc w _ _
  have hb0 : (w.alloc (ndO zeroN)).heap[w.heap.size]? = some (ndO zeroN) := heap_alloc_new _ _
  by_cases h0 : m = 0
  · subst h0
    go_enter Try.func102, Try.ntmps102
    go_wp2_with fail
    refine (datom_any w0 v zs _ P c0).mono ?_
    rintro e w3 ⟨x, rfl, hx40, c3, g3⟩
    have hb3 : w3.heap[w.heap.size]? = some (ndO zeroN) := (g3.block _ (Array.getElem?_eq_some_iff.1 hb0).1 (by simp; omega)).trans hb0
    have g3' := grown_trans g0' g3
    clear g3
    rw [ndV]
    go_wp2_with (refine wpList_store_nd rfl _ _ rfl w.heap.size (x) rfl rfl zeroN hb3 ?_)
    intro w5 h5 b5 hs5
    obtain ⟨c6, g6⟩ := draw_done c3 g3' b5 hP
    go_wp2_with fail
    exact bodyPost_ret (results_cell_row rfl _ _ w.heap.size 63 _ (0, 0) _ rfl h5 Try.underlying63 rfl Try.sizeN) rfl ⟨_, rfl, hx40, c6, g6⟩
  · have h0' : ¬ (m : Int) = 0 := by omega
    have hm0 : 0 < m := by omega
    go_enter Try.func102, Try.ntmps102
    go_wp2_with fail
    refine (once_any w0 v zs _ P 2 c0 (by omega)).mono ?_
    rintro e w1 ⟨b, rfl, c1, g1⟩
    have hb1 : w1.heap[w.heap.size]? = some (ndO zeroN) := (g1.block _ (by simp) (by simp; omega)).trans hb0
    have g1' := grown_trans g0' g1
    clear g1 g0' hb0 c0 hB0
    cases b with
    | true =>
      go_wp2_with fail
      refine (datom_any w0 v zs _ P c1).mono ?_
      rintro e w3 ⟨x, rfl, hx40, c3, g3⟩
      have hb3 : w3.heap[w.heap.size]? = some (ndO zeroN) := (g3.block _ (Array.getElem?_eq_some_iff.1 hb1).1 (by simp; omega)).trans hb1
      have g3' := grown_trans g1' g3
      clear g3
      rw [ndV]
      go_wp2_with (refine wpList_store_nd rfl _ _ rfl w.heap.size (x) rfl rfl zeroN hb3 ?_)
      intro w5 h5 b5 hs5
      obtain ⟨c6, g6⟩ := draw_done c3 g3' b5 hP
      go_wp2_with fail
      exact bodyPost_ret (results_cell_row rfl _ _ w.heap.size 63 _ (0, 0) _ rfl h5 Try.underlying63 rfl Try.sizeN) rfl ⟨_, rfl, hx40, c6, g6⟩
    | false =>
      go_wp2_with fail
      refine (lmin_any _ _ _).mono ?_
      rintro e w2 ⟨rfl, rfl⟩
      go_wp2_with fail
      refine (below_any w0 v zs _ P (min (m : Int) 5) c1 (by omega)).mono ?_
      rintro e w3 ⟨x, rfl, hx0, hx1, c3, g3⟩
      have hb3 : w3.heap[w.heap.size]? = some (ndO zeroN) := (g3.block _ (Array.getElem?_eq_some_iff.1 hb1).1 (by simp; omega)).trans hb1
      have g3' := grown_trans g1' g3
      have hx := hx1 (by omega)
      clear hx1 g3
      go_wp2_with fail
      refine (below_any w0 v zs _ P 8 c3 (by omega)).mono ?_
      rintro e w4 ⟨r, rfl, hr0, hr1, c4, g4⟩
      have hb4 : w4.heap[w.heap.size]? = some (ndO zeroN) := (g4.block _ (Array.getElem?_eq_some_iff.1 hb3).1 (by simp; omega)).trans hb3
      have g4' := grown_trans g3' g4
      have hr := hr1 (by omega)
      clear hr1 g4 c3 c1
      by_cases h1 : r = 0
      · subst h1
        go_wp2_with fail
        refine (below_any w0 v zs _ P 9 c4 (by omega)).mono ?_
        rintro e w7 ⟨y, rfl, hy0, hy1, c7, g7⟩
        have hb7 : w7.heap[w.heap.size]? = some (ndO zeroN) := (g7.block _ (Array.getElem?_eq_some_iff.1 hb4).1 (by simp; omega)).trans hb4
        have g7' := grown_trans g4' g7
        clear hy1 g7
        go_wp2_with (refine wpList_store_nd rfl _ _ rfl w.heap.size (⟨6, y, ByteArray.empty, (m : Int) - 1 - x, 0⟩) rfl rfl zeroN hb7 ?_)
        intro w5 h5 b5 hs5
        obtain ⟨c6, g6⟩ := draw_done c7 g7' b5 hP
        go_wp2_with fail
        exact bodyPost_ret (results_cell_row rfl _ _ w.heap.size 63 _ (0, 0) _ rfl h5 Try.underlying63 rfl Try.sizeN) rfl ⟨_, rfl, empty40, c6, g6⟩
      by_cases h2 : r = 1
      · subst h2
        go_wp2_with (refine wpList_store_nd rfl _ _ rfl w.heap.size (⟨7, 0, ByteArray.empty, (m : Int) - 1 - x, 0⟩) rfl rfl zeroN hb4 ?_)
        intro w5 h5 b5 hs5
        obtain ⟨c6, g6⟩ := draw_done c4 g4' b5 hP
        go_wp2_with fail
        exact bodyPost_ret (results_cell_row rfl _ _ w.heap.size 63 _ (0, 0) _ rfl h5 Try.underlying63 rfl Try.sizeN) rfl ⟨_, rfl, empty40, c6, g6⟩
      · go_wp2_with fail
        refine (lmin_any _ _ _).mono ?_
        rintro e w6 ⟨rfl, rfl⟩
        go_wp2_with fail
        refine (below_any w0 v zs _ P (min (m : Int) 4) c4 (by omega)).mono ?_
        rintro e w7 ⟨y, rfl, hy0, hy1, c7, g7⟩
        have hb7 : w7.heap[w.heap.size]? = some (ndO zeroN) := (g7.block _ (Array.getElem?_eq_some_iff.1 hb4).1 (by simp; omega)).trans hb4
        have g7' := grown_trans g4' g7
        have hy := hy1 (by omega)
        clear hy1 g7
        go_wp2_with (refine wpList_store_nd rfl _ _ rfl w.heap.size (⟨5, 0, ByteArray.empty, (m : Int) - 1 - x, (m : Int) - 1 - y⟩) rfl rfl zeroN hb7 ?_)
        intro w5 h5 b5 hs5
        obtain ⟨c6, g6⟩ := draw_done c7 g7' b5 hP
        go_wp2_with fail
        exact bodyPost_ret (results_cell_row rfl _ _ w.heap.size 63 _ (0, 0) _ rfl h5 Try.underlying63 rfl Try.sizeN) rfl ⟨_, rfl, empty40, c6, g6⟩
end Go.Proofs.Ytacbhbmjhlgflaa

/-
  How values are written, as lists of bytes. Nothing of the program; no condition.
-/
namespace Go.Proofs.Ytacbhbmjhlgflaa
open Go.RowKit

theorem dec_len : ∀ (k u : Nat), u < 10 ^ (k + 1) → (Lib.decDigits u).length ≤ k + 1 := by
  intro k
  induction k with
  | zero => intro u h; rw [Lib.decDigits, dif_pos (by simpa using h)]; simp
  | succ k ih =>
    intro u h
    rw [Lib.decDigits]
    split
    · simp
    · have := ih (u / 10) (by rw [Nat.pow_succ] at h; omega)
      simp
      omega
theorem itoa_len {n : Int} (h : -1000000000 ≤ n ∧ n ≤ 1000000000) : (Lib.itoa n).length ≤ 11 := by
  unfold Lib.itoa
  split
  · have := dec_len 9 n.natAbs (by omega)
    simp; omega
  · have := dec_len 9 n.toNat (by omega)
    omega

/-- A node that is no pair, as it is written. -/
def wordL (x : Nd) : List UInt8 :=
  if x.k = 1 then [40, 41] else if x.k = 2 then (if x.n = 0 then [35, 102] else [35, 116]) else if x.k = 3 then Lib.itoa x.n
  else if x.k = 4 then x.s.data.toList else if x.k = 6 then [35, 102, 117, 110] ++ Lib.itoa x.n else if x.k = 7 then [35, 107, 111, 110, 116] ++ Lib.itoa x.n
  else if x.k = 8 then [35, 112, 114, 105, 109] ++ Lib.itoa x.n else if x.k = 9 then [35, 112, 105, 100] ++ Lib.itoa x.n else []

theorem wordL_len {x : Nd} (h : -1000000000 ≤ x.n ∧ x.n ≤ 1000000000) (hs : x.s.size ≤ 1000) : (wordL x).length ≤ 1100 := by
  have := itoa_len h
  have e : x.s.data.toList.length = x.s.size := by rw [Array.length_toList]; rfl
  unfold wordL
  split
  · simp
  · split
    · split <;> simp
    · split
      · omega
      · split
        · omega
        · split
          · simp; omega
          · split
            · simp; omega
            · split
              · simp; omega
              · split
                · simp; omega
                · simp

/-- The node v as it is written, and as it is written as the rest of a list. -/
def ft (xs : List Nd) : Nat → Nat → List UInt8 × List UInt8
  | 0, _ => ([], [])
  | f + 1, v => match xs[v]? with
    | none => ([], [])
    | some x => if x.k = 5 then ([40] ++ (ft xs f x.a.toNat).1 ++ (ft xs f x.b.toNat).2 ++ [41], [32] ++ (ft xs f x.a.toNat).1 ++ (ft xs f x.b.toNat).2)
      else (wordL x, if x.k = 1 then [] else [32, 46, 32] ++ wordL x)
def fullT (xs : List Nd) (v : Nat) : List UInt8 := (ft xs (v + 1) v).1
def restT (xs : List Nd) (v : Nat) : List UInt8 := (ft xs (v + 1) v).2

theorem nodesB_at {xs : List Nd} : ∀ {k i : Nat} {x : Nd}, nodesB xs k = true → xs[i]? = some x → nodeB x ((k + i : Nat) : Int) = true := by
  induction xs with
  | nil => intro k i x _ h; simp at h
  | cons y ys ih =>
    intro k i x h hx
    rw [nodesB, Bool.and_eq_true] at h
    cases i with
    | zero => simp at hx; subst hx; simpa using h.1
    | succ i =>
      have := ih (k := k + 1) (i := i) h.2 (by simpa using hx)
      rw [show k + (i + 1) = k + 1 + i by omega]
      exact this
theorem pool_at {xs : List Nd} (hp : poolB xs = true) {i : Nat} {x : Nd} (hx : xs[i]? = some x) : nodeB x (i : Int) = true := by
  simp only [poolB, Bool.and_eq_true] at hp
  have := nodesB_at hp.2 hx
  simpa using this
theorem pool_pair {xs : List Nd} (hp : poolB xs = true) {i : Nat} {x : Nd} (hx : xs[i]? = some x) (h5 : x.k = 5) : ∃ a b : Nat, x.a = a ∧ x.b = b ∧ a < i ∧ b < i := by
  have h := pool_at hp hx
  simp only [nodeB, Bool.and_eq_true, partB, hasA, hasB, h5] at h
  obtain ⟨_, ⟨_, hA⟩, hB⟩ := h
  simp only [true_or, decide_true, if_true, Bool.and_eq_true, decide_eq_true_eq] at hA hB
  exact ⟨x.a.toNat, x.b.toNat, by omega, by omega, by omega, by omega⟩
theorem lo_ge (k : Int) : -1000000000 ≤ lo k := by unfold lo; split <;> decide
theorem hi_le (k : Int) : hi k ≤ 1000000000 := by
  unfold hi
  split
  · decide
  · split
    · decide
    · split <;> decide
theorem pool_num {xs : List Nd} (hp : poolB xs = true) {i : Nat} {x : Nd} (hx : xs[i]? = some x) : (1 ≤ x.k ∧ x.k ≤ 9) ∧ (-1000000000 ≤ x.n ∧ x.n ≤ 1000000000) := by
  have h := pool_at hp hx
  simp only [nodeB, Bool.and_eq_true, decide_eq_true_eq] at h
  obtain ⟨⟨⟨⟨h1, h2⟩, h3⟩, h4⟩, _⟩ := h
  exact ⟨⟨h1, h2⟩, Int.le_trans (lo_ge _) h3, Int.le_trans h4 (hi_le _)⟩

theorem ft_fuel {xs : List Nd} (hp : poolB xs = true) : ∀ (v f : Nat), v < f → ft xs f v = ft xs (v + 1) v := by
  intro v
  induction v using Nat.strongRecOn with
  | _ v ih =>
    intro f hf
    cases f with
    | zero => omega
    | succ f =>
      rw [ft, ft]
      cases hx : xs[v]? with
      | none => rfl
      | some x =>
        dsimp only
        by_cases h5 : x.k = 5
        · obtain ⟨a, b, ha, hb, hal, hbl⟩ := pool_pair hp hx h5
          rw [if_pos h5, if_pos h5, ha, hb, Int.toNat_natCast, Int.toNat_natCast, ih a hal f (by omega), ih b hbl f (by omega), ih a hal v hal, ih b hbl v hbl]
        · rw [if_neg h5, if_neg h5]
theorem fullT_pair {xs : List Nd} (hp : poolB xs = true) {v : Nat} {x : Nd} (hx : xs[v]? = some x) (h5 : x.k = 5) {a b : Nat} (ha : x.a = a) (hb : x.b = b) (hal : a < v) (hbl : b < v) : fullT xs v = [40] ++ fullT xs a ++ restT xs b ++ [41] := by
  rw [fullT, ft, hx]
  dsimp only
  rw [if_pos h5, ha, hb, Int.toNat_natCast, Int.toNat_natCast, ft_fuel hp a v hal, ft_fuel hp b v hbl]
  rfl
theorem restT_pair {xs : List Nd} (hp : poolB xs = true) {v : Nat} {x : Nd} (hx : xs[v]? = some x) (h5 : x.k = 5) {a b : Nat} (ha : x.a = a) (hb : x.b = b) (hal : a < v) (hbl : b < v) : restT xs v = [32] ++ fullT xs a ++ restT xs b := by
  rw [restT, ft, hx]
  dsimp only
  rw [if_pos h5, ha, hb, Int.toNat_natCast, Int.toNat_natCast, ft_fuel hp a v hal, ft_fuel hp b v hbl]
  rfl
theorem fullT_word {xs : List Nd} {v : Nat} {x : Nd} (hx : xs[v]? = some x) (h5 : ¬ x.k = 5) : fullT xs v = wordL x := by
  rw [fullT, ft, hx]
  dsimp only
  rw [if_neg h5]
theorem restT_nil {xs : List Nd} {v : Nat} {x : Nd} (hx : xs[v]? = some x) (h1 : x.k = 1) : restT xs v = [] := by
  rw [restT, ft, hx]
  dsimp only
  rw [if_neg (by omega), if_pos h1]
theorem restT_word {xs : List Nd} {v : Nat} {x : Nd} (hx : xs[v]? = some x) (h5 : ¬ x.k = 5) (h1 : ¬ x.k = 1) : restT xs v = [32, 46, 32] ++ wordL x := by
  rw [restT, ft, hx]
  dsimp only
  rw [if_neg h5, if_neg h1]
end Go.Proofs.Ytacbhbmjhlgflaa

/-
  The contract of spec.l3Digits: a number's digits are those of strconv.Itoa. No condition beyond its size.
-/
namespace Go.Proofs.Ytacbhbmjhlgflaa
open Go.RowKit

/-- A text of bytes. -/
def tx (l : List UInt8) : ByteArray := ⟨l.toArray⟩
theorem tx_list (l : List UInt8) : (tx l).data.toList = l := by simp [tx]
theorem tx_size (l : List UInt8) : (tx l).size = l.length := by simp [tx, ByteArray.size]
theorem tx_append (a b : List UInt8) : tx a ++ tx b = tx (a ++ b) := by
  apply ByteArray.ext
  simp [tx, ByteArray.data_append]
theorem retS {a b : ByteArray} (h : a = b) : Ending.returned (.string a) = .returned (.string b) := by rw [h]
theorem addS (a b : List UInt8) (w : World) (h : a.length + b.length ≤ 1000000) : (Op.stringOp .add (tx a) (tx b)).run Try.prog w = .ok (.string (tx (a ++ b))) w := by
  rw [run_string_add_sum w _ _ (by rw [tx_size, tx_size]; omega), tx_append]

theorem digit_tx (j : Nat) : strOfNums [48 + (j : Int) % 10] = tx [UInt8.ofNat (48 + j % 10)] := by
  have e : (48 + (j : Int) % 10).toNat = 48 + j % 10 := by omega
  apply ByteArray.ext
  simp [strOfNums, tx, e]
theorem mtGo_dec : ∀ (f k : Nat) (l : List UInt8), 0 < k → k ≤ f → mtGo f k (tx l) = tx (Lib.decDigits k ++ l) := by
  intro f
  induction f with
  | zero => intro k l h0 h; omega
  | succ f ih =>
    intro k l h0 h
    rw [mtGo, if_neg (by omega), digit_tx, tx_append, Lib.decDigits]
    by_cases h10 : k < 10
    · rw [dif_pos h10, show k / 10 = 0 by omega, mtGo_end, show k % 10 = k by omega]
    · rw [dif_neg h10, ih (k / 10) _ (by omega) (by omega)]
      simp

set_option maxHeartbeats 800000 in
theorem sdigits_pos (n : Nat) (w : World) (hn : n ≤ 4611686018427387904) :
    Calls Try.prog 124 #[.int .i64 n] w fun e w' => e = .returned (.string (tx (Lib.decDigits n))) ∧ Below w.heap.size w w' := by
  by_cases h0 : n = 0
  · subst h0
    have HD : Hid (tx (Lib.decDigits 0) = ⟨#[48]⟩) := by unfold Hid; rw [Lib.decDigits]; rfl
    go_enter Try.func124, Try.ntmps124
    go_wp2
    go_ret
    exact ⟨by rw [HD.out]; rfl, Below.refl _ _⟩
  · have HM : Hid (tx (Lib.decDigits n) = mtGo n n ⟨#[]⟩) := by
      unfold Hid
      have := mtGo_dec n n [] (by omega) (Nat.le_refl _)
      rw [List.append_nil] at this
      exact this.symm
    have hne : ((n : Int) == 0) = false := by simp; omega
    have hnl : decide ((n : Int) < 0) = false := by simp
    go_enter Try.func124, Try.ntmps124
    go_wp2_with fail
    go_loopg [0, 3] n (fun j q s wr => ∃ (f : Nat) (t : ByteArray), q = .int .i64 j ∧ s = .string t ∧ j ≤ f ∧ t.size + j ≤ n ∧ mtGo n n ⟨#[]⟩ = mtGo f j t ∧ Below w.heap.size w wr)
    case atStart => exact ⟨n, ⟨#[]⟩, rfl, rfl, by omega, by show 0 + n ≤ n; omega, rfl, Below.refl _ _⟩
    case round =>
      obtain ⟨f, t, rfl, rfl, hjf, hjn, HG', hb⟩ := hrel
      have HG : Hid (mtGo n n ⟨#[]⟩ = mtGo f gk t) := HG'
      clear HG'
      by_cases hj : 0 < gk
      · have hd := digit_size (48 + (gk : Int) % 10)
        have hadd : ∀ w : World, (Op.stringOp .add (strOfNums [48 + (gk : Int) % 10]) t).run Try.prog w = .ok (.string (strOfNums [48 + (gk : Int) % 10] ++ t)) w := fun w => run_string_add_sum w _ _ (by rw [hd]; omega)
        go_wp2_with (refine wpList_bytes_text _ rfl _ 51 9 5 rfl Try.underlying51 Try.underlying9 Try.underlying5 (some ⟨wr.heap.size, 0, none⟩) 1 1 [48 + (gk : Int) % 10] rfl rfl ?_ ?_)
        · intro _
          refine ⟨_, 0, rfl, fun i hi => ?_⟩
          have hi0 : i = 0 := by omega
          subst hi0
          simp
        · have hB := hb.alloc hb.size (Obj.cells #[Value.int .u8 (48 + (gk : Int) % 10)] 5)
          go_roundg (gk / 10)
          case measure => omega
          case rel =>
            refine ⟨f - 1, _, by rw [Int.natCast_ediv]; rfl, rfl, by omega, ?_, ?_, hB⟩
            · rw [ByteArray.size_append, digit_size]; omega
            · rw [HG.out, mtGo_step f gk t hj hjf]
      · have hj0 : gk = 0 := by omega
        subst hj0
        go_wp2_with fail
        go_ret
        refine ⟨?_, hb⟩
        rw [HM.out, HG.out, mtGo_end]
        rfl

set_option maxHeartbeats 800000 in
theorem sdigits_any (n : Int) (w : World) (hn : -1000000000 ≤ n ∧ n ≤ 1000000000) :
    Calls Try.prog 124 #[.int .i64 n] w fun e w' => e = .returned (.string (tx (Lib.itoa n))) ∧ Below w.heap.size w w' := by
  by_cases h0 : n < 0
  · have HI : Hid (Lib.itoa n = [45] ++ Lib.decDigits n.natAbs) := by unfold Hid Lib.itoa; rw [if_pos h0]; rfl
    have hlen := dec_len 9 n.natAbs (by omega)
    have hadd : ∀ w : World, (Op.stringOp .add ⟨#[45]⟩ (tx (Lib.decDigits n.natAbs))).run Try.prog w = .ok (.string (tx ([45] ++ Lib.decDigits n.natAbs))) w := fun w => addS [45] _ w (by simp; omega)
    have hm := sdigits_pos n.natAbs w (by omega)
    rw [show ((n.natAbs : Nat) : Int) = -n by omega] at hm
    clear hlen
    generalize Lib.decDigits n.natAbs = dd at *
    go_enter Try.func124, Try.ntmps124
    go_wp2_with fail
    refine hm.mono ?_
    rintro e w1 ⟨rfl, hb1⟩
    go_wp2_with fail
    go_ret
    exact ⟨retS (by rw [HI.out]; rfl), hb1⟩
  · obtain ⟨m, rfl⟩ := Int.eq_ofNat_of_zero_le (show 0 ≤ n by omega)
    have HI : Hid (Lib.itoa (m : Int) = Lib.decDigits m) := by unfold Hid Lib.itoa; rw [if_neg h0]; rfl
    rw [HI.out]
    exact sdigits_pos m w (by omega)
end Go.Proofs.Ytacbhbmjhlgflaa

/-
  The contract of spec.l3DrawText: a text as a value may be written. No condition beyond how deep it is.
-/
namespace Go.Proofs.Ytacbhbmjhlgflaa
open Go.RowKit

theorem addB (a b : ByteArray) (w : World) (h : a.size + b.size ≤ 1000000) : (Op.stringOp .add a b).run Try.prog w = .ok (.string (a ++ b)) w := by
  have e := addS a.data.toList b.data.toList w (by simpa using h)
  have t : ∀ c : ByteArray, tx c.data.toList = c := fun c => by apply ByteArray.ext; simp [tx]
  rw [t, t] at e
  rw [e]
  congr 2
def picks13 : List ByteArray := [⟨#[97]⟩, ⟨#[98, 99]⟩, ⟨#[49, 50]⟩, ⟨#[45, 51]⟩, ⟨#[48]⟩, ⟨#[35, 116]⟩, ⟨#[35, 102]⟩, ⟨#[40, 41]⟩, ⟨#[43]⟩, ⟨#[105, 102]⟩, ⟨#[120]⟩, ⟨#[110, 117, 108, 108, 63]⟩, ⟨#[49, 48, 48, 48, 48, 48, 48, 48, 48, 48]⟩]
theorem picks13_size : ∀ s ∈ picks13, s.size ≤ 10 := by decide
def picksB : List ByteArray := [⟨#[32]⟩, ⟨#[32]⟩, ⟨#[32, 32]⟩]
theorem picksB_size : ∀ s ∈ picksB, s.size ≤ 2 := by decide
/-- How long such a text may be. -/
def tB : Nat → Nat
  | 0 => 10
  | d + 1 => 12 + 4 * (tB d + 2)
theorem tB_le {d : Nat} (h : d ≤ 4) : tB d ≤ 5000 := by
  have : ∀ d, d ≤ 4 → tB d ≤ 5000 := by decide
  exact this d h
theorem tB_ge (d : Nat) : 10 ≤ tB d := by cases d <;> simp [tB] <;> omega

end Go.Proofs.Ytacbhbmjhlgflaa

/-
  What values are compiled to: plain mathematics. Nothing of the program; no condition.
-/
namespace Go.Proofs.Ytacbhbmjhlgflaa
open Go.RowKit

/-- What is compiled so far, and how it went. -/
structure CS where
  list : List In
  defs : List Df
  how : Int
abbrev Env := List (List ByteArray)
def ins (o n i : Int) : In := ⟨o, n, i, ByteArray.empty⟩
/-- An instruction is put; its place. -/
def CS.emit (s : CS) (x : In) : CS := if s.how = 0 then (if s.list.length = 400 then { s with how := 3 } else { s with list := s.list ++ [x] }) else s
def CS.place (s : CS) : Nat := if s.how = 0 then (if s.list.length = 400 then 0 else s.list.length) else 0
/-- A jump is let go to what comes now. -/
def CS.lead (s : CS) (at_ : Nat) : CS := if s.how = 0 then { s with list := match s.list[at_]? with
  | some x => s.list.set at_ ⟨x.o, s.list.length, x.i, x.s⟩
  | none => s.list } else s
def isW (s : ByteArray) (l : List UInt8) : Bool := s.toList == l
def wQuote : List UInt8 := [113, 117, 111, 116, 101]
def wIf : List UInt8 := [105, 102]
def wFn : List UInt8 := [102, 110]
def wDo : List UInt8 := [100, 111]
def wLet : List UInt8 := [108, 101, 116]
def wDefine : List UInt8 := [100, 101, 102, 105, 110, 101]
def rsv (s : ByteArray) : Bool := isW s wQuote || isW s wIf || isW s wFn || isW s wDo || isW s wLet || isW s wDefine
def ndAt (xs : List Nd) (v : Int) : Nd := xs.getD v.toNat ⟨0, 0, ByteArray.empty, 0, 0⟩
/-- The name of a variable. -/
def varN (xs : List Nd) (v : Int) : Bool := decide ((ndAt xs v).k = 4) && !rsv (ndAt xs v).s
def allVars (xs : List Nd) (l : List Int) : Bool := l.all (varN xs)
def nameL (xs : List Nd) (l : List Int) : List ByteArray := l.map fun v => (ndAt xs v).s
/-- Two names are the same. -/
def memB (s : ByteArray) (l : List ByteArray) : Bool := l.any fun t => t.toList == s.toList
def dupB (l : List ByteArray) : Nat → Bool
  | 0 => false
  | k + 1 => dupB l k || memB (l.getD k ByteArray.empty) (l.take k)
/-- How it goes with names of variables. -/
def namesHow (xs : List Nd) (l : List Int) : Int := if 4 < l.length then 1 else if allVars xs l then (if dupB (nameL xs l) l.length then 2 else 0) else 1
/-- Where a name is bound. -/
def idxS : List ByteArray → ByteArray → Nat → Option Nat
  | [], _, _ => none
  | t :: l, s, i => if t.toList == s.toList then some i else idxS l s (i + 1)
def findV : Env → ByteArray → Nat → Option (Nat × Nat)
  | [], _, _ => none
  | l :: env, s, n => match idxS l s 0 with
    | some i => some (n, i)
    | none => findV env s (n + 1)
abbrev Ex := Int → Env → CS → CS
/-- A body: values with a pop between them. -/
def cseq (e : Ex) (env : Env) : List Int → Bool → CS → CS
  | [], _, s => s
  | v :: l, first, s => if s.how = 0 then cseq e env l false (e v env (if first then s else s.emit (ins 9 0 0))) else s
def cbody (e : Ex) (l : List Int) (env : Env) (s : CS) : CS := cseq e env l true s
def cfun (e : Ex) (names : List ByteArray) (body : List Int) (env : Env) (s : CS) : CS :=
  let s1 := s.emit (ins 6 0 names.length)
  let s2 := s1.emit (ins 5 0 0)
  let s3 := s2.lead s.place
  let s4 := cbody e body (names :: env) s3
  (s4.emit (ins 8 0 0)).lead s1.place
def cif (e : Ex) (a b c : Int) (env : Env) (s : CS) : CS :=
  let s1 := e a env s
  let s2 := e b env (s1.emit (ins 4 0 0))
  let s3 := (s2.emit (ins 5 0 0)).lead s1.place
  (e c env s3).lead s2.place
/-- A function of names, if they are some. -/
def cnames (e : Ex) (xs : List Nd) (vars body : List Int) (env : Env) (s : CS) : CS :=
  if namesHow xs vars = 0 then cfun e (nameL xs vars) body env s else { s with how := namesHow xs vars }
def cform (e : Ex) (xs : List Nd) (head : ByteArray) (l : List Int) (env : Env) (s : CS) : CS :=
  if isW head wQuote ∧ l.length = 2 then s.emit (ins 1 (l.getD 1 0) 0)
  else if isW head wIf ∧ l.length = 4 then cif e (l.getD 1 0) (l.getD 2 0) (l.getD 3 0) env s
  else if isW head wDo ∧ 2 ≤ l.length then cbody e (l.drop 1) env s
  else if isW head wFn ∧ 3 ≤ l.length then (if (chainR xs (l.getD 1 0).toNat).2 then cnames e xs (chainR xs (l.getD 1 0).toNat).1 (l.drop 2) env s else { s with how := 1 })
  else if isW head wLet ∧ 4 ≤ l.length then
    (if namesHow xs [l.getD 1 0] = 0 then (e (l.getD 2 0) env (cfun e (nameL xs [l.getD 1 0]) (l.drop 3) env s)).emit (ins 7 0 1) else { s with how := namesHow xs [l.getD 1 0] })
  else { s with how := 1 }
def ccall (e : Ex) (l : List Int) (env : Env) (s : CS) : CS := (l.foldl (fun s u => e u env s) s).emit (ins 7 0 ((l.length : Int) - 1))
def cone (e : Ex) (xs : List Nd) (v : Int) (env : Env) (s : CS) : CS :=
  if s.how = 0 then
    (if (ndAt xs v).k = 1 ∨ (ndAt xs v).k = 2 ∨ (ndAt xs v).k = 3 then s.emit (ins 1 v 0)
     else if (ndAt xs v).k = 4 then (if rsv (ndAt xs v).s then { s with how := 1 } else match findV env (ndAt xs v).s 0 with
       | some (n, i) => s.emit (ins 2 n i)
       | none => s.emit ⟨3, 0, 0, (ndAt xs v).s⟩)
     else if (ndAt xs v).k = 5 then (if (chainR xs v.toNat).2 then
        (let l := (chainR xs v.toNat).1
         let h := ndAt xs (l.getD 0 0)
         if h.k = 4 ∧ rsv h.s then cform e xs h.s l env s else if 5 < l.length then { s with how := 1 } else ccall e l env s)
       else { s with how := 1 })
     else { s with how := 1 })
  else s
/-- A value as an expression; f: more than its number. -/
def cexp (xs : List Nd) : Nat → Ex
  | 0 => fun _ _ s => s
  | f + 1 => cone (cexp xs f) xs
/-- A definition. -/
def cdefine (e : Ex) (name : ByteArray) (names : List ByteArray) (body : List Int) (s : CS) : CS :=
  if 0 ≤ dfIdx s.defs name 0 then { s with how := 2 }
  else (cbody e body [names] { s with defs := s.defs ++ [⟨name, s.list.length, names.length⟩] }).emit (ins 8 0 0)
/-- What stands outermost. -/
def wMain : ByteArray := ⟨#[109, 97, 105, 110]⟩
def ctop (xs : List Nd) (v : Int) (s : CS) : CS :=
  let e := cexp xs xs.length
  let l := (chainR xs v.toNat).1
  if (ndAt xs v).k = 5 ∧ (chainR xs v.toNat).2 ∧ (ndAt xs (l.getD 0 0)).k = 4 ∧ isW (ndAt xs (l.getD 0 0)).s wDefine then
    (if 3 ≤ l.length ∧ (ndAt xs (l.getD 1 0)).k = 5 ∧ (chainR xs (l.getD 1 0).toNat).2 ∧ varN xs ((chainR xs (l.getD 1 0).toNat).1.getD 0 0) then
      (let g := (chainR xs (l.getD 1 0).toNat).1
       if namesHow xs (g.drop 1) = 0 then cdefine e (ndAt xs (g.getD 0 0)).s (nameL xs (g.drop 1)) (l.drop 2) s else { s with how := namesHow xs (g.drop 1) })
     else { s with how := 1 })
  else cdefine e wMain [] [v] s
/-- All, one behind the other: what is there, or how and where it went wrong. -/
def ctops (xs : List Nd) : List Int → Nat → CS → CS × Nat
  | [], i, s => (s, i)
  | v :: l, i, s => if (ctop xs v s).how = 0 then ctops xs l (i + 1) (ctop xs v s) else (ctop xs v s, i)

/-- What goes on from what is there: nothing is taken away. -/
def Grow (s s' : CS) : Prop := s'.how = 0 → s.how = 0 ∧ s.list.length ≤ s'.list.length
theorem Grow.refl (s : CS) : Grow s s := fun h => ⟨h, Nat.le_refl _⟩
theorem Grow.trans {a b c : CS} (h : Grow a b) (k : Grow b c) : Grow a c := fun e => by
  have h1 := k e
  have h2 := h h1.1
  exact ⟨h2.1, by omega⟩
theorem Grow.emit (s : CS) (x : In) : Grow s (s.emit x) := by
  unfold Grow CS.emit
  split
  · rename_i h
    split
    · intro e; cases e
    · intro _; exact ⟨h, by simp⟩
  · exact fun h => ⟨h, Nat.le_refl _⟩
theorem Grow.lead (s : CS) (a : Nat) : Grow s (s.lead a) := by
  unfold Grow CS.lead
  split
  · rename_i h
    intro _
    refine ⟨h, ?_⟩
    dsimp only
    split <;> simp
  · exact fun h => ⟨h, Nat.le_refl _⟩
theorem Grow.wrong (s : CS) (k : Int) (hk : k ≠ 0) (s' : CS) (h : s'.how = k) : Grow s s' := fun e => absurd (h.symm.trans e) hk
def Mono (e : Ex) : Prop := ∀ v env s, Grow s (e v env s)
theorem Mono.seq {e : Ex} (h : Mono e) (env : Env) : ∀ (l : List Int) (b : Bool) (s : CS), Grow s (cseq e env l b s) := by
  intro l
  induction l with
  | nil => intro b s; exact Grow.refl s
  | cons v l ih =>
    intro b s
    rw [cseq]
    split
    · refine Grow.trans ?_ (ih false _)
      refine Grow.trans ?_ (h v env _)
      split
      · exact Grow.refl s
      · exact Grow.emit s _
    · exact Grow.refl s
theorem Mono.fn {e : Ex} (h : Mono e) (names : List ByteArray) (body : List Int) (env : Env) (s : CS) : Grow s (cfun e names body env s) := by
  unfold cfun
  exact (((((Grow.emit s _).trans (Grow.emit _ _)).trans (Grow.lead _ _)).trans (h.seq _ _ _ _)).trans (Grow.emit _ _)).trans (Grow.lead _ _)
theorem place_lt {s : CS} {x : In} {s' : CS} (h : Grow (s.emit x) s') : s'.how = 0 → s.place < s'.list.length := by
  intro e
  obtain ⟨h1, h2⟩ := h e
  unfold CS.emit at h1 h2
  unfold CS.place
  split at h1
  · rename_i h0
    rw [if_pos h0] at h2
    rw [if_pos h0]
    split at h1
    · cases h1
    · rename_i h4
      rw [if_neg h4] at h2 ⊢
      simp at h2
      omega
  · rename_i h0
    exact absurd h1 h0
theorem Mono.if_ {e : Ex} (h : Mono e) (a b c : Int) (env : Env) (s : CS) : Grow s (cif e a b c env s) := by
  unfold cif
  exact (((((h a env s).trans (Grow.emit _ _)).trans (h b env _)).trans (Grow.emit _ _)).trans (Grow.lead _ _)).trans ((h c env _).trans (Grow.lead _ _))
theorem Mono.fold {e : Ex} (h : Mono e) (env : Env) : ∀ (l : List Int) (s : CS), Grow s (l.foldl (fun s u => e u env s) s) := by
  intro l
  induction l with
  | nil => intro s; exact Grow.refl s
  | cons v l ih => intro s; exact (h v env s).trans (ih _)
theorem namesHow_ne {xs : List Nd} {l : List Int} (h : ¬ namesHow xs l = 0) (s : CS) : Grow s ⟨s.list, s.defs, namesHow xs l⟩ := Grow.wrong s _ h _ rfl
theorem Mono.names {e : Ex} (h : Mono e) (xs : List Nd) (vars body : List Int) (env : Env) (s : CS) : Grow s (cnames e xs vars body env s) := by
  unfold cnames
  split
  · exact h.fn _ _ _ _
  · rename_i hn; exact namesHow_ne hn s
theorem Mono.form {e : Ex} (h : Mono e) (xs : List Nd) (head : ByteArray) (l : List Int) (env : Env) (s : CS) : Grow s (cform e xs head l env s) := by
  have w1 : Grow s { s with how := 1 } := Grow.wrong s 1 (by decide) _ rfl
  unfold cform
  split
  · exact Grow.emit _ _
  split
  · exact h.if_ _ _ _ _ _
  split
  · exact h.seq _ _ _ _
  split
  · split
    · exact h.names _ _ _ _ _
    · exact w1
  split
  · split
    · exact ((h.fn _ _ _ _).trans (h _ _ _)).trans (Grow.emit _ _)
    · rename_i hn; exact namesHow_ne hn s
  · exact w1
theorem Mono.one {e : Ex} (h : Mono e) (xs : List Nd) : Mono (cone e xs) := by
  intro v env s
  have w1 : Grow s { s with how := 1 } := Grow.wrong s 1 (by decide) _ rfl
  unfold cone
  split
  · split
    · exact Grow.emit _ _
    split
    · split
      · exact w1
      · split <;> exact Grow.emit _ _
    split
    · split
      · dsimp only
        split
        · exact h.form _ _ _ _ _
        split
        · exact w1
        · exact (h.fold _ _ _).trans (Grow.emit _ _)
      · exact w1
    · exact w1
  · exact Grow.refl s
theorem cexp_mono (xs : List Nd) : ∀ f, Mono (cexp xs f) := by
  intro f
  induction f with
  | zero => intro v env s; exact Grow.refl s
  | succ f ih => exact ih.one xs
end Go.Proofs.Ytacbhbmjhlgflaa

/-
  The memory of spec's compiler: what it holds, and what stays. Nothing of the program beyond its types; no condition.
-/
namespace Go.Proofs.Ytacbhbmjhlgflaa
open Go.RowKit

/-- All stays but the block M and rows of instructions and of definitions. -/
structure CF (M : Nat) (w w' : World) : Prop where
  below : Below M w w'
  keep : ∀ (k : Nat) (c : Array Value) (t : TypeId) (fr : Nat × Nat), w.heap[k]? = some (.cells c t fr) → k ≠ M → t ≠ 115 → t ≠ 60 → w'.heap[k]? = some (.cells c t fr)
  first : w'.cell? ⟨M, 0, none⟩ = w.cell? ⟨M, 0, none⟩
theorem CF.refl (M : Nat) (w : World) : CF M w w := ⟨Below.refl _ _, fun _ _ _ _ h _ _ _ => h, rfl⟩
theorem CF.trans {M : Nat} {w w1 w2 : World} (h : CF M w w1) (k : CF M w1 w2) : CF M w w2 :=
  ⟨h.below.trans k.below, fun j c t fr e h1 h2 h3 => k.keep j c t fr (h.keep j c t fr e h1 h2 h3) h1 h2 h3, k.first.trans h.first⟩
theorem CF.of_below {M : Nat} {w w' : World} (h : Below w.heap.size w w') (hM : M < w.heap.size) : CF M w w' :=
  ⟨h.mono (Nat.le_of_lt hM), fun j _ _ _ e _ _ _ => (h.block j (Array.getElem?_eq_some_iff.1 e).1).trans e, h.cell (p := ⟨M, 0, none⟩) hM⟩
theorem CF.of_set {M : Nat} (w : World) (o : Nat) (v : Value) (ho : o ≠ 0) : CF M w (w.setCell ⟨M, o, none⟩ v) :=
  ⟨(Below.refl _ w).setCell (p := ⟨M, o, none⟩) (by simp) v, fun j _ _ _ e h1 _ _ => (heap_setCell_other w ⟨M, o, none⟩ j v h1).trans e, World.cell?_setCell_other w ⟨M, o, none⟩ ⟨M, 0, none⟩ v (fun e => ho (by simpa using e.symm))⟩
theorem CF.of_grown {M n k : Nat} {e : TypeId} {w w' : World} {v : Value} {l : List Value} (ho : w.ownsRow (M + 1) e k v n l) (he : e = 115 ∨ e = 60) (hM : M < w.heap.size) (hg : w.grownBy w' v.ownBlock) : CF M w w' := by
  refine ⟨(Below.refl _ w).grown hg (Nat.le_of_lt hM) (fun q hq => by have := (ho.lt q hq).1; omega), fun j c t fr h h1 h2 h3 => (hg.block j (Array.getElem?_eq_some_iff.1 h).1 ?_).trans h, World.cell?_of_block (hg.block M hM (fun q => by have := (ho.lt M q.symm).1; omega))⟩
  have := own_ne ho h (by rcases he with rfl | rfl; exact h2; exact h3)
  exact fun q => this q.symm
theorem CF.own {M B n k : Nat} {e t : TypeId} {w w' : World} {v : Value} {l : List Value} {c : Array Value} {fr : Nat × Nat} (h : CF M w w') (ho : w.ownsRow B e k v n l) (hM : w.heap[M]? = some (.cells c t fr)) (h0 : t ≠ e) (h1 : e ≠ 115) (h2 : e ≠ 60) : w'.ownsRow B e k v n l := by
  have hne := own_ne ho hM h0
  refine ⟨ho.1, ?_⟩
  rcases ho.2 with ⟨rfl, hn⟩ | ⟨g, cap, cur, rfl, hB, hg, hr⟩
  · exact .inl ⟨rfl, hn⟩
  · exact .inr ⟨g, cap, cur, rfl, hB, h.keep g _ _ _ hg (fun q => hne (by rw [q]; rfl)) h1 h2, hr⟩
/-- A slice of texts. -/
def SRow (w : World) (v : Value) (ss : List ByteArray) : Prop := w.ownsRow 0 9 1 v ss.length (ss.map Value.string)
/-- The frames: a slice of slices of texts. -/
def ERow (w : World) (v : Value) (env : Env) : Prop := ∃ vs : List Value, w.ownsRow 0 93 1 v env.length vs ∧ (∀ i u, vs[i]? = some u → u.oneCell' = true ∧ SRow w u (env.getD i []))
theorem CF.srow {M : Nat} {w w' : World} {v : Value} {ss : List ByteArray} {c : Array Value} {fr : Nat × Nat} (h : CF M w w') (hM : w.heap[M]? = some (.cells c 160 fr)) (r : SRow w v ss) : SRow w' v ss := h.own r hM (by decide) (by decide) (by decide)
theorem CF.erow {M : Nat} {w w' : World} {v : Value} {env : Env} {c : Array Value} {fr : Nat × Nat} (h : CF M w w') (hM : w.heap[M]? = some (.cells c 160 fr)) (r : ERow w v env) : ERow w' v env := by
  obtain ⟨vs, ho, hs⟩ := r
  exact ⟨vs, h.own ho hM (by decide) (by decide) (by decide), fun i u e => ⟨(hs i u e).1, h.srow hM (hs i u e).2⟩⟩
/-- What the compiler has: where nothing went wrong, just what is said. -/
structure MK (xs : List Nd) (M d : Nat) (w : World) (s : CS) (pv lv dv : Value) (L : List In) (D : List Df) : Prop where
  blk : w.heap[M]? = some (.cells #[pv, lv, dv, .int .i64 s.how] 160 (0, 0))
  pool : w.ownsRow 0 63 5 pv xs.length (ncs xs)
  list : w.ownsRow (M + 1) 115 4 lv L.length (incs L)
  defs : w.ownsRow (M + 1) 60 3 dv D.length (dfcs D)
  same : s.how = 0 → L = s.list ∧ D = s.defs
  len : L.length ≤ 400
  many : D.length ≤ d
def Mk (xs : List Nd) (M d : Nat) (w : World) (s : CS) : Prop := ∃ pv lv dv L D, MK xs M d w s pv lv dv L D
theorem MK.lt {xs : List Nd} {M d : Nat} {w : World} {s : CS} {pv lv dv : Value} {L : List In} {D : List Df} (h : MK xs M d w s pv lv dv L D) : M < w.heap.size := (Array.getElem?_eq_some_iff.1 h.blk).1
theorem MK.on {xs : List Nd} {M d : Nat} {w w' : World} {s : CS} {pv lv dv : Value} {L : List In} {D : List Df} (h : MK xs M d w s pv lv dv L D) (hb : Below w.heap.size w w') : MK xs M d w' s pv lv dv L D :=
  ⟨(hb.block M h.lt).trans h.blk, own_below h.pool hb, own_below h.list hb, own_below h.defs hb, h.same, h.len, h.many⟩
theorem Mk.on {xs : List Nd} {M d : Nat} {w w' : World} {s : CS} (h : Mk xs M d w s) (hb : Below w.heap.size w w') : Mk xs M d w' s := by
  obtain ⟨pv, lv, dv, L, D, h⟩ := h
  exact ⟨pv, lv, dv, L, D, h.on hb⟩
theorem Mk.lt {xs : List Nd} {M d : Nat} {w : World} {s : CS} (h : Mk xs M d w s) : M < w.heap.size := by
  obtain ⟨_, _, _, _, _, h⟩ := h
  exact h.lt
/-- It went wrong. -/
theorem MK.wrong {xs : List Nd} {M d : Nat} {w : World} {s : CS} {pv lv dv : Value} {L : List In} {D : List Df} (h : MK xs M d w s pv lv dv L D) (k : Int) (hk : k ≠ 0) (s' : CS) (hs : s'.how = k) : Mk xs M d (w.setCell ⟨M, 3, none⟩ (.int .i64 k)) s' ∧ CF M w (w.setCell ⟨M, 3, none⟩ (.int .i64 k)) := by
  have hF : CF M w (w.setCell ⟨M, 3, none⟩ (.int .i64 k)) := CF.of_set w 3 _ (by decide)
  have ne : ∀ {e : TypeId} {m n : Nat} {v : Value} {l : List Value} {B : Nat}, w.ownsRow B e m v n l → 160 ≠ e → (w.setCell ⟨M, 3, none⟩ (.int .i64 k)).ownsRow B e m v n l := fun ho he => ownsRow_setCell_other ho (a := ⟨M, 3, none⟩) (own_ne ho h.blk he) _
  refine ⟨⟨pv, lv, dv, L, D, ?_, ne h.pool (by decide), ne h.list (by decide), ne h.defs (by decide), fun e => ?_, h.len, h.many⟩, hF⟩
  · rw [hs]
    exact heap_setCell_same w M 3 _ _ (.int .i64 k) h.blk
  · rw [hs] at e; exact absurd e hk
theorem MK.cells {xs : List Nd} {M d : Nat} {w : World} {s : CS} {pv lv dv : Value} {L : List In} {D : List Df} (h : MK xs M d w s pv lv dv L D) : w.cell? ⟨M, 0, none⟩ = some pv ∧ w.cell? ⟨M, 1, none⟩ = some lv ∧ w.cell? ⟨M, 2, none⟩ = some dv ∧ w.cell? ⟨M, 3, none⟩ = some (.int .i64 s.how) ∧ w.frozen? ⟨M, 1, none⟩ = false ∧ w.frozen? ⟨M, 2, none⟩ = false ∧ w.frozen? ⟨M, 3, none⟩ = false :=
  ⟨cell_of_row w M 0 _ _ _ h.blk, cell_of_row w M 1 _ _ _ h.blk, cell_of_row w M 2 _ _ _ h.blk, cell_of_row w M 3 _ _ _ h.blk, frozen_of_row w M 1 _ _ h.blk, frozen_of_row w M 2 _ _ h.blk, frozen_of_row w M 3 _ _ h.blk⟩
theorem MK.turnL {xs : List Nd} {M d : Nat} {w w1 : World} {s : CS} {pv lv dv : Value} {L L' : List In} {D : List Df} (h : MK xs M d w s pv lv dv L D) (hg : w.grownBy w1 lv.ownBlock) (ho : w1.ownsRow (M + 1) 115 4 lv L'.length (incs L')) (hl : L'.length ≤ 400)
    (s' : CS) (hh : s'.how = s.how) (hs : s'.how = 0 → L' = s'.list ∧ D = s'.defs) : MK xs M d w1 s' pv lv dv L' D ∧ CF M w w1 := by
  have hM := h.lt
  refine ⟨⟨?_, h.pool.kept hg (own_apart h.pool h.list (by decide)), ho, h.defs.kept hg (own_apart h.defs h.list (by decide)), hs, hl, h.many⟩, CF.of_grown h.list (.inl rfl) (by omega) hg⟩
  rw [hh]
  exact (hg.block M hM (fun e => own_ne h.list h.blk (by decide) e.symm)).trans h.blk
theorem MK.putL {xs : List Nd} {M d : Nat} {w w1 : World} {s : CS} {pv lv lv' dv : Value} {L L' : List In} {D : List Df} (h : MK xs M d w s pv lv dv L D) (hg : w.grownBy w1 lv.ownBlock) (ho : w1.ownsRow (M + 1) 115 4 lv' L'.length (incs L')) (hl : L'.length ≤ 400)
    (s' : CS) (hh : s'.how = s.how) (hs : s'.how = 0 → L' = s'.list ∧ D = s'.defs) : Mk xs M d (w1.setCell ⟨M, 1, none⟩ lv') s' ∧ CF M w (w1.setCell ⟨M, 1, none⟩ lv') := by
  have hM := h.lt
  have hb : w1.heap[M]? = some (.cells #[pv, lv, dv, .int .i64 s.how] 160 (0, 0)) := (hg.block M hM (fun e => own_ne h.list h.blk (by decide) e.symm)).trans h.blk
  have ne : ∀ {e : TypeId} {m n : Nat} {v : Value} {l : List Value} {B : Nat}, w1.ownsRow B e m v n l → 160 ≠ e → (w1.setCell ⟨M, 1, none⟩ lv').ownsRow B e m v n l := fun ho he => ownsRow_setCell_other ho (a := ⟨M, 1, none⟩) (own_ne ho hb he) _
  refine ⟨⟨pv, lv', dv, L', D, ?_, ne (h.pool.kept hg (own_apart h.pool h.list (by decide))) (by decide), ne ho (by decide), ne (h.defs.kept hg (own_apart h.defs h.list (by decide))) (by decide), hs, hl, h.many⟩, (CF.of_grown h.list (.inl rfl) (by omega) hg).trans (CF.of_set w1 1 _ (by decide))⟩
  rw [hh]
  exact heap_setCell_same w1 M 1 _ _ lv' hb
theorem MK.putD {xs : List Nd} {M d : Nat} {w w1 : World} {s : CS} {pv lv dv dv' : Value} {L : List In} {D D' : List Df} (h : MK xs M d w s pv lv dv L D) (hg : w.grownBy w1 dv.ownBlock) (ho : w1.ownsRow (M + 1) 60 3 dv' D'.length (dfcs D')) {d' : Nat} (hl : D'.length ≤ d')
    (s' : CS) (hh : s'.how = s.how) (hs : s'.how = 0 → L = s'.list ∧ D' = s'.defs) : Mk xs M d' (w1.setCell ⟨M, 2, none⟩ dv') s' ∧ CF M w (w1.setCell ⟨M, 2, none⟩ dv') := by
  have hM := h.lt
  have hb : w1.heap[M]? = some (.cells #[pv, lv, dv, .int .i64 s.how] 160 (0, 0)) := (hg.block M hM (fun e => own_ne h.defs h.blk (by decide) e.symm)).trans h.blk
  have ne : ∀ {e : TypeId} {m n : Nat} {v : Value} {l : List Value} {B : Nat}, w1.ownsRow B e m v n l → 160 ≠ e → (w1.setCell ⟨M, 2, none⟩ dv').ownsRow B e m v n l := fun ho he => ownsRow_setCell_other ho (a := ⟨M, 2, none⟩) (own_ne ho hb he) _
  refine ⟨⟨pv, lv, dv', L, D', ?_, ne (h.pool.kept hg (own_apart h.pool h.defs (by decide))) (by decide), ne (h.list.kept hg (own_apart h.list h.defs (by decide))) (by decide), ne ho (by decide), hs, h.len, hl⟩, (CF.of_grown h.defs (.inr rfl) (by omega) hg).trans (CF.of_set w1 2 _ (by decide))⟩
  rw [hh]
  exact heap_setCell_same w1 M 2 _ _ dv' hb
end Go.Proofs.Ytacbhbmjhlgflaa

/-
  The contracts of spec's l4Emit, l4To, l4Reserved, l4Name. No condition beyond the compiler's memory.
-/
namespace Go.Proofs.Ytacbhbmjhlgflaa
open Go.RowKit

set_option maxRecDepth 100000 in
set_option maxHeartbeats 3200000 in
theorem semit_any (xs : List Nd) (M d : Nat) (s : CS) (x : In) (w : World) (h : Mk xs M d w s) :
    Calls Try.prog 126 #[.pointer (some ⟨M, 0, none⟩), .agg #[.int .i64 x.o, .int .i64 x.n, .int .i64 x.i, .string x.s]] w fun e w' => e = .returned (.int .i64 s.place) ∧ Mk xs M d w' (s.emit x) ∧ CF M w w' := by
  obtain ⟨pv, lv, dv, L, D, h⟩ := h
  obtain ⟨i0, hi, hz0, hz1, hz2⟩ := info_parts Try.infoIn
  obtain ⟨al, ql, rfl⟩ := own_form h.list
  have hM := h.lt
  have hB0 : Below w.heap.size w (w.alloc (Obj.cells #[.int .i64 x.o, .int .i64 x.n, .int .i64 x.i, .string x.s] 115)) := (Below.refl _ _).alloc (Nat.le_refl _) _
  have h0 := h.on hB0
  obtain ⟨_, c1, _, c3, _, _, f3⟩ := h0.cells
  have hF0 := CF.of_below (M := M) hB0 (by omega)
  obtain ⟨sl, sd, how⟩ := s
  by_cases hh : how = 0
  · subst hh
    obtain ⟨rfl, rfl⟩ := h.same rfl
    dsimp only at *
    by_cases h4 : L.length = 400
    · have HP : Hid ((⟨L, D, 0⟩ : CS).place = 0 ∧ (⟨L, D, 0⟩ : CS).emit x = ⟨L, D, 3⟩) := by unfold Hid CS.place CS.emit; simp [h4]
      have h4' : (L.length : Int) = 400 := by omega
      obtain ⟨k1, k2⟩ := h.wrong 3 (by decide) ⟨L, D, 3⟩ rfl
      have hBk : Below (w.setCell ⟨M, 3, none⟩ (.int .i64 3)).heap.size (w.setCell ⟨M, 3, none⟩ (.int .i64 3)) ((w.setCell ⟨M, 3, none⟩ (.int .i64 3)).alloc (Obj.cells #[.int .i64 x.o, .int .i64 x.n, .int .i64 x.i, .string x.s] 115)) := (Below.refl _ _).alloc (Nat.le_refl _) _
      obtain ⟨pv', lv', dv', L', D', k1⟩ := k1.on hBk
      have hF := k2.trans (CF.of_below (M := M) hBk (by simp; omega))
      have c3' : ((w.setCell ⟨M, 3, none⟩ (.int .i64 3)).alloc (Obj.cells #[.int .i64 x.o, .int .i64 x.n, .int .i64 x.i, .string x.s] 115)).cell? ⟨M, 3, none⟩ = some (.int .i64 3) := k1.cells.2.2.2.1
      go_enter Try.func126, Try.ntmps126
      go_wp2_with fail
      go_ret
      exact ⟨by rw [HP.out.1]; rfl, by rw [HP.out.2]; exact ⟨_, _, _, _, _, k1⟩, hF⟩
    · have HP : Hid ((⟨L, D, 0⟩ : CS).place = L.length ∧ (⟨L, D, 0⟩ : CS).emit x = ⟨L ++ [x], D, 0⟩) := by unfold Hid CS.place CS.emit; simp [h4]
      have h4' : ¬ (L.length : Int) = 400 := by omega
      have hlen := h.len
      have hne : M ≠ w.heap.size := by omega
      go_enter Try.func126, Try.ntmps126
      go_wp2_with fail
      go_region_law (refine step_append_lies _ rfl _ _ 38 rfl (M + 1) 115 i0 _ 4 40 Try.underlying38 hi hz0 hz1 hz2 rfl (by decide) _ _ _ rfl ((h.list.alloc _).alloc _) ⟨w.heap.size + 1, 0, none⟩ 1 1 (incs [x]) rfl rfl (World.news_of_block (cs := #[.int .i64 x.o, .int .i64 x.n, .int .i64 x.i, .string x.s]) (t := 115) (fr := (0, 0)) (heap_alloc2_new w _ _)) (incs_one _) (by omega) (by unfold maxLen; omega) (by omega) (by simp; omega) (w.heap.size + 2) (by simp) ?_; intro g capg w1 hown hgrow hat hgl; have hb1 : w1.heap[M]? = some (.cells #[pv, .slice al L.length ql, dv, .int .i64 0] 160 (0, 0)) := (hgrow.block M (by simp; omega) (fun e => own_ne h.list h.blk (by decide) e.symm)).trans ((heap_alloc_old _ _ (by simp; omega)).trans ((heap_alloc_old _ _ hM).trans h.blk)); have kb1 : w1.cell? ⟨M, 0 + 1, none⟩ = some (.slice al L.length ql) := cell_of_row w1 M 1 _ _ _ hb1; have fb1 : w1.frozen? ⟨M, 0 + 1, none⟩ = false := frozen_of_row w1 M 1 _ _ hb1)
      all_goals
        have hown2 : w1.ownsRow (M + 1) 115 4 (.slice (some ⟨g, 0, none⟩) (L.length + 1) capg) (L ++ [x]).length (incs (L ++ [x])) := by
          rw [incs_append, List.length_append]
          exact hown
        have hBx := (((Below.refl w.heap.size w).alloc (Nat.le_refl _) (Obj.cells #[.int .i64 x.o, .int .i64 x.n, .int .i64 x.i, .string x.s] 115)).drew.alloc (by simp) (Obj.cells #[.int .i64 x.o, .int .i64 x.n, .int .i64 x.i, .string x.s] 115))
        obtain ⟨k1, k2⟩ := (h.on hBx).putL hgrow hown2 (by simp; omega) ⟨L ++ [x], D, 0⟩ rfl (fun _ => ⟨rfl, rfl⟩)
        have hb2 := heap_setCell_same w1 M 1 _ _ (.slice (some ⟨g, 0, none⟩) (L.length + 1) capg) hb1
        have kc : (w1.setCell ⟨M, 1, none⟩ (.slice (some ⟨g, 0, none⟩) (L.length + 1) capg)).cell? ⟨M, 0 + 1, none⟩ = some (.slice (some ⟨g, 0, none⟩) (L.length + 1) capg) := cell_of_row _ M 1 _ _ _ hb2
        have hF := (CF.of_below (M := M) hBx (by omega)).trans k2
        clear hown hgrow hat c1 c3 f3 h0 hF0 kb1 fb1 hb2 hBx hB0
        go_wp2_with fail
        go_ret
        exact ⟨by rw [HP.out.1]; simp, by rw [HP.out.2]; exact k1, hF⟩
  · have HP : Hid ((⟨sl, sd, how⟩ : CS).place = 0 ∧ (⟨sl, sd, how⟩ : CS).emit x = ⟨sl, sd, how⟩) := by unfold Hid CS.place CS.emit; simp [hh]
    go_enter Try.func126, Try.ntmps126
    go_wp2_with fail
    go_ret
    exact ⟨by rw [HP.out.1]; rfl, by rw [HP.out.2]; exact ⟨_, _, _, _, _, h0⟩, hF0⟩

set_option maxRecDepth 100000 in
set_option maxHeartbeats 1600000 in
theorem sto_any (xs : List Nd) (M d : Nat) (s : CS) (a : Nat) (w : World) (h : Mk xs M d w s) (ha : s.how = 0 → a < s.list.length) :
    Calls Try.prog 131 #[.pointer (some ⟨M, 0, none⟩), .int .i64 a] w fun e w' => e = .returned (.tuple #[]) ∧ Mk xs M d w' (s.lead a) ∧ CF M w w' := by
  obtain ⟨pv, lv, dv, L, D, h⟩ := h
  obtain ⟨al, ql, rfl⟩ := own_form h.list
  have hM := h.lt
  obtain ⟨_, c1, _, c3, _, _, f3⟩ := h.cells
  obtain ⟨sl, sd, how⟩ := s
  by_cases hh : how = 0
  · subst hh
    obtain ⟨rfl, rfl⟩ := h.same rfl
    have ha := ha rfl
    dsimp only at *
    obtain ⟨x, hx⟩ : ∃ x, L[a]? = some x := ⟨L[a], by simp [ha]⟩
    have HP : Hid ((⟨L, D, 0⟩ : CS).lead a = ⟨L.set a ⟨x.o, L.length, x.i, x.s⟩, D, 0⟩) := by unfold Hid CS.lead; simp [hx]
    have hlen := h.len
    obtain ⟨g, rfl, hg0⟩ : ∃ g, al = some ⟨g, 0, none⟩ ∧ M + 1 ≤ g := by
      rcases h.list.2 with ⟨_, h0⟩ | ⟨g, cap, cur, e, hB, hg, _⟩
      · omega
      · simp only [Value.slice.injEq] at e
        exact ⟨g, e.1, hB⟩
    have hst := h.list.stored (a * 4 + 1) (.int .i64 L.length)
    rw [incs_set L a x ⟨x.o, L.length, x.i, x.s⟩ hx 1 (by omega) _ rfl] at hst
    have ho2 : (w.setCell ⟨g, a * 4 + 1, none⟩ (.int .i64 L.length)).ownsRow (M + 1) 115 4 (.slice (some ⟨g, 0, none⟩) L.length ql) (L.set a ⟨x.o, L.length, x.i, x.s⟩).length (incs (L.set a ⟨x.o, L.length, x.i, x.s⟩)) := by rw [List.length_set]; exact hst.1
    obtain ⟨k1, k2⟩ := h.turnL hst.2 ho2 (by rw [List.length_set]; exact hlen) ⟨L.set a ⟨x.o, L.length, x.i, x.s⟩, D, 0⟩ rfl (fun _ => ⟨rfl, rfl⟩)
    have hca := h.list.cellAt (a * 4 + 1) (by omega)
    rw [incs_get L a x hx 1 (by omega)] at hca
    have hfa := h.list.frozenAt (a * 4 + 1)
    have hna : (a : Int) < L.length := by omega
    have hcc : w.cell? ⟨g, a * 4 + 1, none⟩ = some (.int .i64 x.n) := hca
    have hgM : ¬ g = M := by omega
    have hMg : ¬ M = g := by omega
    clear hca
    go_enter Try.func131, Try.ntmps131
    go_wp2_with fail
    go_region_held (fun w' => w'.cell? ⟨M, 1, none⟩ = some (.slice (some ⟨g, 0, none⟩) L.length ql)) (go_keep) (fail)
    all_goals
      go_wp2_with fail
      go_end0
      exact ⟨rfl, by rw [HP.out]; exact Mk.on ⟨_, _, _, _, _, k1⟩ (Below.refl _ _).drew, k2.trans (CF.of_below (Below.refl _ _).drew (by simp; omega))⟩
  · have HP : Hid ((⟨sl, sd, how⟩ : CS).lead a = ⟨sl, sd, how⟩) := by unfold Hid CS.lead; simp [hh]
    go_enter Try.func131, Try.ntmps131
    go_wp2_with fail
    go_end0
    exact ⟨rfl, by rw [HP.out]; exact ⟨_, _, _, _, _, h⟩, CF.refl _ _⟩

set_option maxRecDepth 100000 in
set_option maxHeartbeats 1600000 in
theorem srsv_any (s : ByteArray) (w : World) : Calls Try.prog 127 #[.string s] w fun e w' => e = .returned (.bool (rsv s)) ∧ w' = w := by
  have HR : Hid (rsv s = ((s.toList == [113, 117, 111, 116, 101]) || (s.toList == [105, 102]) || (s.toList == [102, 110]) || (s.toList == [100, 111]) || (s.toList == [108, 101, 116]) || (s.toList == [100, 101, 102, 105, 110, 101]))) := rfl
  go_enter Try.func127, Try.ntmps127
  go_wp2_with fail
  all_goals
    go_ret
    refine ⟨?_, rfl⟩
    rw [HR.out]
    simp [*]
end Go.Proofs.Ytacbhbmjhlgflaa

/-
  The contracts of spec's l4Name and l4Var. No condition beyond the compiler's memory.
-/
namespace Go.Proofs.Ytacbhbmjhlgflaa
open Go.RowKit

theorem ndAt_some {xs : List Nd} {v : Nat} {x : Nd} (h : xs[v]? = some x) : ndAt xs v = x := by
  unfold ndAt
  rw [Int.toNat_natCast, List.getD_eq_getElem?_getD, h]
  rfl
/-- The cells of one node of the pool. -/
theorem own_node {w : World} {B : Nat} {pv : Value} {xs : List Nd} (h : w.ownsRow B 63 5 pv xs.length (ncs xs)) (v : Nat) (x : Nd) (hx : xs[v]? = some x) :
    ∃ g cap, pv = .slice (some ⟨g, 0, none⟩) xs.length cap ∧ g < w.heap.size ∧ w.cell? ⟨g, v * 5, none⟩ = some (.int .i64 x.k) ∧ w.cell? ⟨g, v * 5 + 1, none⟩ = some (.int .i64 x.n) ∧ w.cell? ⟨g, v * 5 + 2, none⟩ = some (.string x.s) ∧ w.cell? ⟨g, v * 5 + 3, none⟩ = some (.int .i64 x.a) ∧ w.cell? ⟨g, v * 5 + 4, none⟩ = some (.int .i64 x.b) := by
  have hv := (List.getElem?_eq_some_iff.1 hx).1
  rcases h.2 with ⟨_, h0⟩ | ⟨g, cap, cur, rfl, hB, hg, _⟩
  · omega
  · have at_ : ∀ j, j < 5 → w.cell? ⟨g, v * 5 + j, none⟩ = x.cs[j]? := fun j hj => by rw [h.cellAt (v * 5 + j) (by omega), ncs_get xs v x hx j hj]
    exact ⟨g, cap, rfl, (Array.getElem?_eq_some_iff.1 hg).1, at_ 0 (by omega), at_ 1 (by omega), at_ 2 (by omega), at_ 3 (by omega), at_ 4 (by omega)⟩

set_option maxRecDepth 100000 in
set_option maxHeartbeats 1600000 in
theorem s4name_any (xs : List Nd) (M d : Nat) (s : CS) (v : Nat) (x : Nd) (w : World) (h : Mk xs M d w s) (hx : xs[v]? = some x) :
    Calls Try.prog 122 #[.pointer (some ⟨M, 0, none⟩), .int .i64 v] w fun e w' => e = .returned (.tuple #[.string x.s, .bool (varN xs v)]) ∧ Below w.heap.size w w' := by
  have HV : Hid (varN xs v = (decide (x.k = 4) && !rsv x.s)) := by unfold Hid varN; rw [ndAt_some hx]
  obtain ⟨pv, lv, dv, L, D, h⟩ := h
  have hM := h.lt
  have hv := (List.getElem?_eq_some_iff.1 hx).1
  obtain ⟨g, cap, rfl, hg, d0, d1, d2, d3, d4⟩ := own_node h.pool v x hx
  obtain ⟨c0, _⟩ := h.cells
  have hv' : (v : Int) < xs.length := by omega
  have hgn : g ≠ w.heap.size := by omega
  have hB0 : Below w.heap.size w (w.alloc (.cells #[.int .i64 x.k, .int .i64 x.n, .string x.s, .int .i64 x.a, .int .i64 x.b] 63)) := (Below.refl _ _).alloc (Nat.le_refl _) _
  have e0 : (w.alloc (.cells #[.int .i64 x.k, .int .i64 x.n, .string x.s, .int .i64 x.a, .int .i64 x.b] 63)).cell? ⟨w.heap.size, 0, none⟩ = some (.int .i64 x.k) := cell_of_row _ _ 0 _ _ _ (heap_alloc_new w _)
  have e2 : (w.alloc (.cells #[.int .i64 x.k, .int .i64 x.n, .string x.s, .int .i64 x.a, .int .i64 x.b] 63)).cell? ⟨w.heap.size, 2, none⟩ = some (.string x.s) := cell_of_row _ _ 2 _ _ _ (heap_alloc_new w _)
  go_enter Try.func122, Try.ntmps122
  by_cases h4 : x.k = 4
  · have HV2 : Hid (varN xs v = !rsv x.s) := by unfold Hid; rw [HV.out, h4]; rfl
    clear HV
    rw [h4] at hB0 e0 d0
    go_wp2_with fail
    go_quiet (first | (go_at_call 127; refine Calls.quiet_of_same (srsv_any x.s _)))
    go_wp2_with fail
    go_ret2
    exact ⟨by rw [HV2.out]; rfl, ⟨hB0.os, hB0.tape, hB0.output, hB0.size, hB0.block⟩⟩
  · have HV2 : Hid (varN xs v = false) := by unfold Hid; rw [HV.out]; simp [h4]
    have hb4 : decide (x.k = 4) = false := by simpa using h4
    have hb5 : (x.k == 4) = false := by simpa using h4
    clear HV h4
    go_wp2_with fail
    go_quiet (fail)
    go_wp2_with fail
    go_ret2
    exact ⟨by rw [HV2.out]; rfl, ⟨hB0.os, hB0.tape, hB0.output, hB0.size, hB0.block⟩⟩
end Go.Proofs.Ytacbhbmjhlgflaa

/-
  The contract of spec's l4Var. No condition beyond that the frames are there.
-/
namespace Go.Proofs.Ytacbhbmjhlgflaa
open Go.RowKit

/-- The cell of one element of a row of one-cell things. -/
theorem own_el {w : World} {B n c : Nat} {e : TypeId} {ao : Option Addr} {vs : List Value} (h : w.ownsRow B e 1 (.slice ao n c) n vs) (k : Nat) (hk : k < n) : ∃ g u, ao = some ⟨g, 0, none⟩ ∧ vs[k]? = some u ∧ g < w.heap.size ∧ w.cell? ⟨g, k, none⟩ = some u := by
  have hl := h.1
  rcases h.2 with ⟨e1, h0⟩ | ⟨g, cap, cur, e1, hg, hh, _⟩
  · omega
  · simp only [Value.slice.injEq, true_and] at e1
    obtain ⟨rfl, rfl⟩ := e1
    refine ⟨g, vs[k]'(by omega), rfl, List.getElem?_eq_getElem (by omega), (Array.getElem?_eq_some_iff.1 hh).1, ?_⟩
    rw [h.cellAt k (by omega), List.getElem?_eq_getElem (by omega)]
theorem SRow.cell {w : World} {ao : Option Addr} {n c : Nat} {ss : List ByteArray} (h : SRow w (.slice ao n c) ss) (k : Nat) (t : ByteArray) (hk : ss[k]? = some t) : ∃ g, ao = some ⟨g, 0, none⟩ ∧ g < w.heap.size ∧ w.cell? ⟨g, k, none⟩ = some (.string t) := by
  have hl := (List.getElem?_eq_some_iff.1 hk).1
  obtain ⟨a, c', e⟩ := own_form h
  simp only [Value.slice.injEq] at e
  obtain ⟨rfl, rfl, rfl⟩ := e
  obtain ⟨g, u, h1, h2, h3, h4⟩ := own_el h k hl
  refine ⟨g, h1, h3, ?_⟩
  rw [h4, ← h2, List.getElem?_map, hk]
  rfl
theorem SRow.form {w : World} {v : Value} {ss : List ByteArray} (h : SRow w v ss) : ∃ ao cap, v = .slice ao ss.length cap := own_form h
theorem own_max {w : World} {B n k : Nat} {e : TypeId} {v : Value} {vs : List Value} (h : w.ownsRow B e k v n vs) : n ≤ 9223372036854775807 := by
  rcases h.2 with ⟨_, h0⟩ | ⟨g, cap, cur, e1, hg, hh, h1, h2, _⟩
  · omega
  · unfold maxLen at h2
    omega
theorem idxS_drop (l : List ByteArray) (s t : ByteArray) (j : Nat) (h : l[j]? = some t) : idxS (l.drop j) s j = if t.toList == s.toList then some j else idxS (l.drop (j + 1)) s (j + 1) := by
  obtain ⟨hl, he⟩ := List.getElem?_eq_some_iff.1 h
  rw [List.drop_eq_getElem_cons hl, he, idxS]
theorem findV_drop (env : Env) (s : ByteArray) (k : Nat) (hk : k < env.length) : findV (env.drop k) s k = (match idxS (env.getD k []) s 0 with
    | some i => some (k, i)
    | none => findV (env.drop (k + 1)) s (k + 1)) := by
  rw [List.drop_eq_getElem_cons hk, findV, List.getD_eq_getElem?_getD, List.getElem?_eq_getElem hk]
  rfl
/-- What l4Var answers. -/
def varV (r : Option (Nat × Nat)) : Value := match r with
  | some (n, i) => .tuple #[.int .i64 n, .int .i64 i]
  | none => .tuple #[.int .i64 (-1), .int .i64 0]

set_option maxRecDepth 100000 in
set_option maxHeartbeats 1600000 in
theorem s4var_any (env : Env) (ev : Value) (s : ByteArray) (w : World) (E : ERow w ev env) :
    Calls Try.prog 129 #[ev, .string s] w fun e w' => e = .returned (varV (findV env s 0)) ∧ w' = w := by
  obtain ⟨vs, ho, hvs⟩ := E
  obtain ⟨ae, ce, rfl⟩ := own_form ho
  have hmax := own_max ho
  go_enter Try.func129, Try.ntmps129
  go_wp2_with fail
  go_loop [6] (fun n => ∃ k : Nat, k ≤ env.length ∧ n = .int .i64 k ∧ Hid (findV env s 0 = findV (env.drop k) s k)) (fun n => env.length - (intOf n).toNat)
  case atStart => exact ⟨0, by omega, rfl, rfl⟩
  case round =>
    obtain ⟨k, hk, rfl, HF⟩ := hrel
    by_cases hlt : k < env.length
    · obtain ⟨g, u, rfl, hu, hg, hc⟩ := own_el ho k hlt
      have hS := (hvs k u hu).2
      have HF2 : Hid (findV env s 0 = (match idxS (env.getD k []) s 0 with
        | some i => some (k, i)
        | none => findV (env.drop (k + 1)) s (k + 1))) := HF.out.trans (findV_drop env s k hlt)
      generalize env.getD k [] = l at hS HF2
      obtain ⟨au, cu, rfl⟩ := hS.form
      have hmaxl := own_max hS
      have hlt' : (k : Int) < env.length := by omega
      clear HF
      go_wp2_with fail
      go_loop [7] (fun i => ∃ j : Nat, j ≤ l.length ∧ i = .int .i64 j ∧ Hid (idxS l s 0 = idxS (l.drop j) s j)) (fun i => l.length - (intOf i).toNat)
      case atStart => exact ⟨0, by omega, rfl, rfl⟩
      case round =>
        obtain ⟨j, hj, rfl, HI⟩ := hrel
        by_cases hjl : j < l.length
        · obtain ⟨t, ht⟩ : ∃ t, l[j]? = some t := ⟨l[j], by simp [hjl]⟩
          obtain ⟨gu, rfl, hgu, hcu⟩ := hS.cell j t ht
          have HD := idxS_drop l s t j ht
          have hjl' : (j : Int) < l.length := by omega
          cases he : (t.toList == s.toList) with
          | true =>
            have HR : Hid (findV env s 0 = some (k, j)) := by unfold Hid; rw [HF2.out, HI.out, HD, he]; rfl
            clear HD
            go_wp2_with fail
            go_ret2
            exact ⟨by rw [HR.out]; rfl, rfl⟩
          | false =>
            have HI2 : Hid (idxS l s 0 = idxS (l.drop (j + 1)) s (j + 1)) := by unfold Hid; rw [HI.out, HD, he]; rfl
            clear HD
            go_wp2_with fail
            go_round
            case rel => exact ⟨j + 1, by omega, by go_num, HI2⟩
            case measure => simp [intOf]; omega
        · have HF3 : Hid (findV env s 0 = findV (env.drop (k + 1)) s (k + 1)) := by
            unfold Hid
            rw [HF2.out, HI.out, List.drop_eq_nil_of_le (by omega)]
            rfl
          have hjl' : ¬ (j : Int) < l.length := by omega
          go_wp2_with fail
          go_round
          case rel => exact ⟨k + 1, by omega, by go_num, HF3⟩
          case measure => simp [intOf]; omega
    · have HR : Hid (findV env s 0 = none) := by unfold Hid; rw [HF.out, List.drop_eq_nil_of_le (by omega)]; rfl
      have hlt' : ¬ (k : Int) < env.length := by omega
      go_wp2_with fail
      go_ret2
      exact ⟨by rw [HR.out]; rfl, rfl⟩
end Go.Proofs.Ytacbhbmjhlgflaa

/-
  The contract of spec's l4Names. No condition beyond the compiler's memory, and that the values are there.
-/
namespace Go.Proofs.Ytacbhbmjhlgflaa
open Go.RowKit

theorem Try.infoStr : (Try.prog.info? 9).map (fun i => (i.zero, i.size, i.bytes)) = some (some (.string ByteArray.empty), 1, 16) := by kernel_rfl
/-- A slice of numbers, a part of a row of these. -/
def TRow (w : World) (v : Value) (l : List Int) : Prop :=
  ∃ ao cap, v = .slice ao l.length cap ∧ l.length ≤ cap ∧ cap ≤ 9223372036854775807 ∧ (l ≠ [] → ∃ g o cur fr, ao = some ⟨g, o, none⟩ ∧ w.heap[g]? = some (.cells cur 3 fr) ∧ ∀ i, i < l.length → cur[o + i]? = some (.int .i64 (l.getD i 0)))
theorem TRow.below {w w' : World} {v : Value} {l : List Int} (h : TRow w v l) (hb : Below w.heap.size w w') : TRow w' v l := by
  obtain ⟨ao, cap, rfl, h1, h2, h3⟩ := h
  refine ⟨ao, cap, rfl, h1, h2, fun hne => ?_⟩
  obtain ⟨g, o, cur, fr, e, hg, hc⟩ := h3 hne
  exact ⟨g, o, cur, fr, e, (hb.block g (Array.getElem?_eq_some_iff.1 hg).1).trans hg, hc⟩
theorem CF.trow {M : Nat} {w w' : World} {v : Value} {l : List Int} {c : Array Value} {fr : Nat × Nat} (h : CF M w w') (hM : w.heap[M]? = some (.cells c 160 fr)) (r : TRow w v l) : TRow w' v l := by
  obtain ⟨ao, cap, rfl, h1, h2, h3⟩ := r
  refine ⟨ao, cap, rfl, h1, h2, fun hne => ?_⟩
  obtain ⟨g, o, cur, fr', e, hg, hc⟩ := h3 hne
  refine ⟨g, o, cur, fr', e, h.keep g cur 3 fr' hg (fun q => ?_) (by decide) (by decide), hc⟩
  subst q
  rw [hM] at hg
  simp at hg
theorem TRow.cell {w : World} {ao : Option Addr} {n cap : Nat} {l : List Int} (h : TRow w (.slice ao n cap) l) (k : Nat) (hk : k < l.length) : ∃ g o, ao = some ⟨g, o, none⟩ ∧ g < w.heap.size ∧ w.cell? ⟨g, o + k, none⟩ = some (.int .i64 (l.getD k 0)) := by
  obtain ⟨ao', cap', e, h1, h2, h3⟩ := h
  simp only [Value.slice.injEq] at e
  obtain ⟨rfl, rfl, rfl⟩ := e
  obtain ⟨g, o, cur, fr, e, hg, hc⟩ := h3 (by intro e; rw [e] at hk; simp at hk)
  refine ⟨g, o, e, (Array.getElem?_eq_some_iff.1 hg).1, ?_⟩
  rw [cell_of_row w g (o + k) _ _ _ hg, hc k hk]
theorem TRow.form {w : World} {v : Value} {l : List Int} (h : TRow w v l) : ∃ ao cap, v = .slice ao l.length cap ∧ l.length ≤ cap ∧ cap ≤ 9223372036854775807 := by
  obtain ⟨ao, cap, e, h1, h2, _⟩ := h
  exact ⟨ao, cap, e, h1, h2⟩
theorem TRow.of_own {w : World} {B : Nat} {v : Value} {l : List Int} (h : w.ownsRow B 3 1 v l.length (iv l)) : TRow w v l := by
  rcases h.2 with ⟨rfl, h0⟩ | ⟨g, cap, cur, rfl, hB, hg, h1, h2, h3, h4⟩
  · exact ⟨none, 0, by rw [h0], by omega, by omega, fun hne => absurd (List.length_eq_zero_iff.1 h0) hne⟩
  · refine ⟨_, cap, rfl, h1, by unfold maxLen at h2; exact h2, fun _ => ⟨g, 0, cur, (0, 0), rfl, hg, fun i hi => ?_⟩⟩
    have e : (cur.toList.take (l.length * 1))[i]? = (iv l)[i]? := by rw [h4]
    rw [List.getElem?_take, if_pos (by omega), Array.getElem?_toList] at e
    rw [Nat.zero_add, e]
    simp [iv, List.getD_eq_getElem?_getD, hi]
/-- All of it from a place on. -/
theorem TRow.drop {w : World} {g o n cap : Nat} {l : List Int} (h : TRow w (.slice (some ⟨g, o, none⟩) n cap) l) (k : Nat) (hk : k ≤ l.length) : TRow w (.slice (some ⟨g, o + k, none⟩) (n - k) (cap - k)) (l.drop k) := by
  obtain ⟨ao', cap', e, h1, h2, h3⟩ := h
  simp only [Value.slice.injEq] at e
  obtain ⟨rfl, rfl, rfl⟩ := e
  refine ⟨_, _, by rw [List.length_drop], by rw [List.length_drop]; omega, by omega, fun hne => ?_⟩
  obtain ⟨g', o', cur, fr, e, hg, hc⟩ := h3 (by rintro rfl; simp at hne)
  simp only [Option.some.injEq, Addr.mk.injEq, and_true] at e
  obtain ⟨rfl, rfl⟩ := e
  refine ⟨g, o + k, cur, fr, rfl, hg, fun i hi => ?_⟩
  rw [List.length_drop] at hi
  rw [show o + k + i = o + (k + i) by omega, hc (k + i) (by omega)]
  simp [List.getD_eq_getElem?_getD, List.getElem?_drop]
theorem nameL_snoc (xs : List Nd) (l : List Int) (k : Nat) (z : Int) (h : l[k]? = some z) : nameL xs (l.take (k + 1)) = nameL xs (l.take k) ++ [(ndAt xs z).s] := by
  rw [List.take_add_one, h]
  simp [nameL]
theorem allVars_snoc (xs : List Nd) (l : List Int) (k : Nat) (z : Int) (h : l[k]? = some z) : allVars xs (l.take (k + 1)) = (allVars xs (l.take k) && varN xs z) := by
  rw [List.take_add_one, h]
  simp [allVars]
theorem allVars_bad (xs : List Nd) (l : List Int) (k : Nat) (z : Int) (h : l[k]? = some z) (hv : varN xs z = false) : allVars xs l = false := by
  rw [Bool.eq_false_iff]
  intro e
  unfold allVars at e
  rw [List.all_eq_true] at e
  rw [e z (List.mem_of_getElem? h)] at hv
  cases hv
theorem dupB_mono {l : List ByteArray} {k m : Nat} (h : dupB l k = true) (hk : k ≤ m) : dupB l m = true := by
  induction m with
  | zero => rw [show k = 0 by omega] at h; exact h
  | succ m ih =>
    by_cases e : k = m + 1
    · rw [← e]; exact h
    · rw [dupB, ih (by omega), Bool.true_or]
theorem memB_snoc (s : ByteArray) (l : List ByteArray) (k : Nat) (t : ByteArray) (h : l[k]? = some t) : memB s (l.take (k + 1)) = (memB s (l.take k) || (t.toList == s.toList)) := by
  rw [List.take_add_one, h]
  simp [memB]
end Go.Proofs.Ytacbhbmjhlgflaa

/-
  The contract of spec's l4Names. No condition beyond the compiler's memory, and that the values are there.
-/
namespace Go.Proofs.Ytacbhbmjhlgflaa
open Go.RowKit

theorem MK.same_how {xs : List Nd} {M d : Nat} {w : World} {s : CS} {pv lv dv : Value} {L : List In} {D : List Df} (h : MK xs M d w s pv lv dv L D) (s' : CS) (h1 : s'.how = s.how) (h2 : s'.how = 0 → s'.list = s.list ∧ s'.defs = s.defs) : MK xs M d w s' pv lv dv L D :=
  ⟨by rw [h1]; exact h.blk, h.pool, h.list, h.defs, fun e => by rw [(h2 e).1, (h2 e).2]; exact h.same (h1 ▸ e), h.len, h.many⟩

theorem CF.grown_new {M n k : Nat} {e : TypeId} {w w3 w6 : World} {v : Value} {l : List Value} (h : CF M w w3) (ho : w3.ownsRow w.heap.size e k v n l) (hM : M < w.heap.size) (hg : w3.grownBy w6 v.ownBlock) : CF M w w6 := by
  have hs := h.below.size
  refine ⟨h.below.grown hg (by omega) (fun q hq => by have := (ho.lt q hq).1; omega), fun j c t fr hj h1 h2 h3 => ?_, (World.cell?_of_block (hg.block M (by omega) (fun q => by have := (ho.lt M q.symm).1; omega))).trans h.first⟩
  have hjl := (Array.getElem?_eq_some_iff.1 hj).1
  refine (hg.block j (by omega) (fun q => ?_)).trans (h.keep j c t fr hj h1 h2 h3)
  have := (ho.lt j q.symm).1
  omega
theorem MK.turnS {xs : List Nd} {M d B n k : Nat} {e : TypeId} {w w1 : World} {s : CS} {pv lv dv v : Value} {L : List In} {D : List Df} {l : List Value} (h : MK xs M d w s pv lv dv L D) (ho : w.ownsRow B e k v n l) (hg : w.grownBy w1 v.ownBlock) (h1 : 160 ≠ e) (h2 : 63 ≠ e) (h3 : 115 ≠ e) (h4 : 60 ≠ e) : MK xs M d w1 s pv lv dv L D :=
  ⟨(hg.block M h.lt (fun q => own_ne ho h.blk h1 q.symm)).trans h.blk, h.pool.kept hg (own_apart h.pool ho h2), h.list.kept hg (own_apart h.list ho h3), h.defs.kept hg (own_apart h.defs ho h4), h.same, h.len, h.many⟩

set_option maxRecDepth 100000 in
set_option maxHeartbeats 6400000 in
theorem s4names_any (xs : List Nd) (M d : Nat) (s : CS) (vl : Value) (l : List Int) (w : World) (h : Mk xs M d w s) (h0 : s.how = 0) (T : TRow w vl l) (hv : ∀ z ∈ l, ∃ n : Nat, z = n ∧ n < xs.length) :
    Calls Try.prog 123 #[.pointer (some ⟨M, 0, none⟩), vl] w fun e w' => ∃ (v' : Value) (ys : List ByteArray), e = .returned v' ∧ SRow w' v' ys ∧ ys.length ≤ 4 ∧ (namesHow xs l = 0 → ys = nameL xs l) ∧ Mk xs M d w' ⟨s.list, s.defs, namesHow xs l⟩ ∧ CF M w w' := by
  obtain ⟨pv, lv, dv, L, D, h⟩ := h
  have hM := h.lt
  obtain ⟨i0, hi, hz0, hz1, hz2⟩ := info_parts Try.infoStr
  obtain ⟨sl, sd, how⟩ := s
  dsimp only at h0
  subst h0
  have T' := T
  obtain ⟨al, cl, rfl, hlc, hcm⟩ := T'.form
  have hB0 : Below w.heap.size w (w.alloc (Obj.cells #[] 9)) := (Below.refl _ _).alloc (Nat.le_refl _) _
  have hN0 : (w.alloc (Obj.cells #[] 9)).ownsRow w.heap.size 9 1 (.slice (some ⟨w.heap.size, 0, none⟩) 0 0) ([] : List ByteArray).length (([] : List ByteArray).map Value.string) := World.ownsRow_made _ _ 0 (Nat.le_refl _) (by simp) (by simp)
  have hF0 := CF.of_below (M := M) hB0 (by omega)
  have h1 := h.on hB0
  obtain ⟨_, _, _, c3, _, _, f3⟩ := h1.cells
  dsimp only at c3
  go_enter Try.func123, Try.ntmps123
  by_cases h4 : 4 < l.length
  · have HN : Hid (namesHow xs l = 1) := by unfold Hid namesHow; rw [if_pos h4]
    have h4' : (4 : Int) < l.length := by omega
    obtain ⟨k1, k2⟩ := h.wrong 1 (by decide) ⟨sl, sd, 1⟩ rfl
    have hBk : Below (w.setCell ⟨M, 3, none⟩ (.int .i64 1)).heap.size (w.setCell ⟨M, 3, none⟩ (.int .i64 1)) ((w.setCell ⟨M, 3, none⟩ (.int .i64 1)).alloc (Obj.cells #[] 9)) := (Below.refl _ _).alloc (Nat.le_refl _) _
    obtain ⟨pv', lv', dv', L', D', h2⟩ := k1.on hBk
    have hF := k2.trans (CF.of_below (M := M) hBk (by simp; omega))
    have hN : ((w.setCell ⟨M, 3, none⟩ (.int .i64 1)).alloc (Obj.cells #[] 9)).ownsRow 0 9 1 (.slice (some ⟨w.heap.size, 0, none⟩) 0 0) 0 [] := by
      have e : (w.setCell ⟨M, 3, none⟩ (.int .i64 1)).heap.size = w.heap.size := by simp [World.setCell]
      have := World.ownsRow_made (base := 0) (e := 9) (size := 1) (w.setCell ⟨M, 3, none⟩ (.int .i64 1)) #[] 0 (Nat.zero_le _) (by simp) (by simp)
      rw [e] at this
      exact this
    obtain ⟨_, _, _, c4, _, _, f4⟩ := h2.cells
    dsimp only at c4
    clear hN0 hF0 T' T
    go_wp2_with fail
    generalize (w.setCell ⟨M, 3, none⟩ (.int .i64 1)).alloc (Obj.cells #[] 9) = w2 at *
    go_loopw [5, 6] (fun o i wr => o = .slice (some ⟨w.heap.size, 0, none⟩) 0 0 ∧ i = .int .i64 0 ∧ wr = w2) (fun _ _ _ => 0)
    case atStart => exact ⟨rfl, rfl, rfl⟩
    case round =>
      obtain ⟨rfl, rfl, rfl⟩ := hrel
      have h00 : (0 : Int) < l.length := by omega
      go_wp2_with fail
      go_loopw [9] (fun i w3 => i = .int .i64 0 ∧ w3 = wr) (fun _ _ => 0)
      case atStart => exact ⟨rfl, rfl⟩
      case round =>
        obtain ⟨rfl, rfl⟩ := hrel
        go_wp2_with fail
        go_ret
        first
          | exact ⟨_, rfl, [], hN, by simp, fun e => by (rw [HN.out] at e; cases e), by rw [HN.out]; exact ⟨_, _, _, _, _, h2⟩, hF⟩
          | exact ⟨_, [], rfl, hN, by simp, fun e => by (rw [HN.out] at e; cases e), by rw [HN.out]; exact ⟨_, _, _, _, _, h2⟩, hF⟩
  · have h4' : ¬ (4 : Int) < l.length := by omega
    go_wp2_with fail
    generalize w.alloc (Obj.cells #[] 9) = w1 at *
    go_loopw [5, 6] (fun o i wr => ∃ (ys : List ByteArray) (hw : Int), ys.length ≤ l.length ∧ i = .int .i64 ys.length ∧ wr.ownsRow w.heap.size 9 1 o ys.length (ys.map Value.string) ∧ Mk xs M d wr ⟨sl, sd, hw⟩ ∧ CF M w wr ∧ Hid ((hw = 0 ∧ allVars xs (l.take ys.length) = true ∧ ys = nameL xs (l.take ys.length)) ∨ (hw = 1 ∧ allVars xs l = false))) (fun _ i _ => l.length - (intOf i).toNat)
    case atStart => exact ⟨[], 0, by simp, rfl, hN0, ⟨_, _, _, _, _, h1⟩, hF0, .inl ⟨rfl, by simp [allVars], by simp [nameL]⟩⟩
    case round =>
      obtain ⟨ys, hw, hk, rfl, hor, hkr, hfr, HH⟩ := hrel
      clear c3 f3 h1 hF0 hN0
      by_cases hw0 : hw = 0
      · subst hw0
        have HAV : Hid (allVars xs (l.take ys.length) = true ∧ ys = nameL xs (l.take ys.length)) := by
          rcases HH.out with h | h
          · exact h.2
          · have := h.1; omega
        obtain ⟨pv2, lv2, dv2, L2, D2, h2⟩ := hkr
        obtain ⟨_, _, _, c3, _, _, f3⟩ := h2.cells
        dsimp only at c3
        have hMr := h2.lt
        by_cases hlt : ys.length < l.length
        · obtain ⟨z, hz⟩ : ∃ z, l[ys.length]? = some z := ⟨l[ys.length], by simp [hlt]⟩
          obtain ⟨n, hn, hnl⟩ := hv z (List.mem_of_getElem? hz)
          obtain ⟨x, hx⟩ : ∃ x, xs[n]? = some x := ⟨xs[n], by simp [hnl]⟩
          have Tr := hfr.trow h.blk T
          obtain ⟨g, o, rfl, hg, hc⟩ := Tr.cell ys.length hlt
          have hgd : l.getD ys.length 0 = n := by rw [List.getD_eq_getElem?_getD, hz]; exact hn
          rw [hgd] at hc
          rw [hn] at hz
          have hlt' : (ys.length : Int) < l.length := by omega
          go_wp2_with fail
          refine (s4name_any xs M d ⟨sl, sd, 0⟩ n x _ ⟨_, _, _, _, _, h2⟩ hx).mono ?_
          rintro e w3 ⟨rfl, hb3⟩
          have h3 := h2.on hb3
          have ho3 := own_below hor hb3
          have hf3 := hfr.trans (CF.of_below hb3 (by omega))
          have HXS : Hid ((ndAt xs n).s = x.s) := by unfold Hid; rw [ndAt_some hx]
          have HZ : Hid (l[ys.length]? = some (n : Int)) := hz
          clear hz hx hn hgd
          clear c3 f3 h2 hor hc
          cases hvb : varN xs n with
          | true =>
            have hsz3 : w.heap.size ≤ w3.heap.size := hf3.below.size
            go_wp2_with (at_builtin; refine wpList_append_own _ rfl _ _ 93 rfl w.heap.size 9 i0 (.string ByteArray.empty) 1 16 Try.underlying93 hi hz0 hz1 hz2 rfl (by decide) _ _ _ rfl (ho3.alloc _) ⟨_, 0, none⟩ 1 1 [.string x.s] rfl rfl (cell_one_new _ _ _) (fun u hu => by simp at hu; subst hu; rfl) (by unfold maxLen; omega) (by omega) (by simp; omega) ?_)
            intro v' w6 hown' hgrow _
            have hown6 : w6.ownsRow w.heap.size 9 1 v' (ys ++ [x.s]).length ((ys ++ [x.s]).map Value.string) := by
              rw [List.map_append, List.length_append]
              exact hown'
            have hBa : Below w3.heap.size w3 (w3.alloc (Obj.cells #[.string x.s] 9)) := (Below.refl _ _).alloc (Nat.le_refl _) _
            have h6 := (h3.on hBa).turnS (own_below ho3 hBa) hgrow (by decide) (by decide) (by decide) (by decide)
            have hf6 := (hf3.trans (CF.of_below hBa (by omega))).grown_new (own_below ho3 hBa) (by omega) hgrow
            have HH2 : Hid (((0 : Int) = 0 ∧ allVars xs (l.take (ys ++ [x.s]).length) = true ∧ ys ++ [x.s] = nameL xs (l.take (ys ++ [x.s]).length)) ∨ ((0 : Int) = 1 ∧ allVars xs l = false)) :=
              .inl ⟨rfl, by rw [List.length_append, List.length_singleton, allVars_snoc xs l ys.length _ HZ.out, HAV.out.1, hvb]; rfl, by rw [List.length_append, List.length_singleton, nameL_snoc xs l ys.length _ HZ.out, ← HAV.out.2, HXS.out]⟩
            clear hown' hgrow HH
            go_wp2_with fail
            go_roundw
            case rel => exact ⟨ys ++ [x.s], 0, by simp; omega, by simp, hown6, ⟨_, _, _, _, _, h6⟩, hf6, HH2⟩
            case measure => simp [intOf]; omega
          | false =>
            obtain ⟨_, _, _, c3, _, _, f3⟩ := h3.cells
            obtain ⟨k1, k2⟩ := h3.wrong 1 (by decide) ⟨sl, sd, 1⟩ rfl
            obtain ⟨pv4, lv4, dv4, L4, D4, h4w⟩ := k1
            have ho4 := ownsRow_setCell_other ho3 (a := ⟨M, 3, none⟩) (own_ne ho3 h3.blk (by decide)) (.int .i64 1)
            have hf4 := hf3.trans k2
            have hsz4 : w.heap.size ≤ (w3.setCell ⟨M, 3, none⟩ (.int .i64 1)).heap.size := hf4.below.size
            dsimp only at c3
            go_upto_region 10 with fail
            generalize w3.setCell ⟨M, 3, none⟩ (.int .i64 1) = w4 at *
            go_wp2_with (at_builtin; refine wpList_append_own _ rfl _ _ 93 rfl w.heap.size 9 i0 (.string ByteArray.empty) 1 16 Try.underlying93 hi hz0 hz1 hz2 rfl (by decide) _ _ _ rfl (ho4.alloc _) ⟨_, 0, none⟩ 1 1 [.string x.s] rfl rfl (cell_one_new _ _ _) (fun u hu => by simp at hu; subst hu; rfl) (by unfold maxLen; omega) (by omega) (by simp; omega) ?_)
            intro v' w6 hown' hgrow _
            have hown6 : w6.ownsRow w.heap.size 9 1 v' (ys ++ [x.s]).length ((ys ++ [x.s]).map Value.string) := by
              rw [List.map_append, List.length_append]
              exact hown'
            have hBa : Below w4.heap.size w4 (w4.alloc (Obj.cells #[.string x.s] 9)) := (Below.refl _ _).alloc (Nat.le_refl _) _
            have h6 := (h4w.on hBa).turnS (own_below ho4 hBa) hgrow (by decide) (by decide) (by decide) (by decide)
            have hf6 := (hf4.trans (CF.of_below hBa (by omega))).grown_new (own_below ho4 hBa) (by omega) hgrow
            have HH2 : Hid (((1 : Int) = 0 ∧ allVars xs (l.take (ys ++ [x.s]).length) = true ∧ ys ++ [x.s] = nameL xs (l.take (ys ++ [x.s]).length)) ∨ ((1 : Int) = 1 ∧ allVars xs l = false)) := .inr ⟨rfl, allVars_bad xs l ys.length _ HZ.out hvb⟩
            clear hown' hgrow HH
            go_wp2_with fail
            go_roundw
            case rel => exact ⟨ys ++ [x.s], 1, by simp; omega, by simp, hown6, ⟨_, _, _, _, _, h6⟩, hf6, HH2⟩
            case measure => simp [intOf]; omega
        · have HYN : Hid (ys = nameL xs l ∧ allVars xs l = true) := by
            have := HAV.out
            rw [List.take_of_length_le (by omega)] at this
            exact ⟨this.2, this.1⟩
          have hlt' : ¬ (ys.length : Int) < l.length := by omega
          have hy4 : ys.length ≤ 4 := by omega
          have HW : Hid (namesHow xs l = if dupB ys ys.length then 2 else 0) := by
            unfold Hid namesHow
            rw [if_neg h4, HYN.out.2, ← HYN.out.1, show l.length = ys.length by omega]
            rfl
          obtain ⟨ar, cr, rfl⟩ := own_form hor
          clear HAV HH
          go_wp2_with fail
          go_loopw [9] (fun i w2 => ∃ (k : Nat) (hw : Int), k ≤ ys.length ∧ i = .int .i64 k ∧ Mk xs M d w2 ⟨sl, sd, hw⟩ ∧ CF M w w2 ∧ w2.ownsRow w.heap.size 9 1 (.slice ar ys.length cr) ys.length (ys.map Value.string) ∧ Hid ((hw = 0 ∧ dupB ys k = false) ∨ (hw = 2 ∧ dupB ys ys.length = true))) (fun i _ => ys.length - (intOf i).toNat)
          case atStart => exact ⟨0, 0, by omega, rfl, ⟨_, _, _, _, _, h2⟩, hfr, hor, .inl ⟨rfl, rfl⟩⟩
          case round =>
            clear c3 f3 h2 hfr hor hMr
            obtain ⟨k, hw, hkk, rfl, ⟨pv3, lv3, dv3, L3, D3, h3⟩, hf3, ho3, HH⟩ := hrel
            obtain ⟨_, _, _, c3, _, _, f3⟩ := h3.cells
            dsimp only at c3
            by_cases hw0 : hw = 0
            · subst hw0
              have HD : Hid (dupB ys k = false) := by
                rcases HH.out with h | h
                · exact h.2
                · have := h.1; omega
              by_cases hkl : k < ys.length
              · have hkl' : (k : Int) < ys.length := by omega
                clear HH
                go_wp2_with fail
                go_loopw [10] (fun j w4 => ∃ (m : Nat) (hw : Int), m ≤ k ∧ j = .int .i64 m ∧ Mk xs M d w4 ⟨sl, sd, hw⟩ ∧ CF M w w4 ∧ w4.ownsRow w.heap.size 9 1 (.slice ar ys.length cr) ys.length (ys.map Value.string) ∧ Hid (hw = if memB (ys.getD k ByteArray.empty) (ys.take m) then 2 else 0)) (fun j _ => k - (intOf j).toNat)
                case atStart => exact ⟨0, 0, by omega, rfl, ⟨_, _, _, _, _, h3⟩, hf3, ho3, rfl⟩
                case round =>
                  clear c3 f3 h3 hf3 ho3
                  obtain ⟨m, hw, hmk, rfl, ⟨pv4, lv4, dv4, L4, D4, h4w⟩, hf4, ho4, HM⟩ := hrel
                  by_cases hml : m < k
                  · obtain ⟨tm, htm⟩ : ∃ t, ys[m]? = some t := ⟨ys[m]'(by omega), by simp [show m < ys.length by omega]⟩
                    obtain ⟨tk, htk⟩ : ∃ t, ys[k]? = some t := ⟨ys[k], by simp [hkl]⟩
                    obtain ⟨g, rfl, hg, hcm'⟩ := SRow.cell (own_mono ho4 (Nat.zero_le _)) m tm htm
                    obtain ⟨g', eg, hg', hck⟩ := SRow.cell (own_mono ho4 (Nat.zero_le _)) k tk htk
                    obtain rfl : g = g' := by simpa using eg
                    have HS := memB_snoc (ys.getD k ByteArray.empty) ys m tm htm
                    rw [show ys.getD k ByteArray.empty = tk by rw [List.getD_eq_getElem?_getD, htk]; rfl] at HS HM
                    have HTK : Hid (ys.getD k ByteArray.empty = tk) := by unfold Hid; rw [List.getD_eq_getElem?_getD, htk]; rfl
                    have hml' : (m : Int) < k := by omega
                    have hms : (m : Int) < ys.length := by omega
                    obtain ⟨_, _, _, c4, _, _, f4⟩ := h4w.cells
                    dsimp only at c4
                    cases he : (tm.toList == tk.toList) with
                    | true =>
                      have HM2 : Hid ((2 : Int) = if memB (ys.getD k ByteArray.empty) (ys.take (m + 1)) then 2 else 0) := by unfold Hid; rw [HTK.out, HS, he, Bool.or_true]; rfl
                      clear HS htm htk eg
                      go_wp2_with fail
                      go_quiet (fail)
                      have hbq : Below wr.heap.size wr (wr.drewN nq) := ⟨rfl, rfl, rfl, Nat.le_refl _, fun _ _ => rfl⟩
                      obtain ⟨k1, k2⟩ := (h4w.on hbq).wrong 2 (by decide) ⟨sl, sd, 2⟩ rfl
                      have ho5 := ownsRow_setCell_other (own_below ho4 hbq) (a := ⟨M, 3, none⟩) (own_ne (own_below ho4 hbq) (h4w.on hbq).blk (by decide)) (.int .i64 2)
                      have hf5 := (hf4.trans (CF.of_below hbq h4w.lt)).trans k2
                      go_wp2_with fail
                      go_roundw
                      case rel => exact ⟨m + 1, 2, by omega, by go_num, k1, hf5, ho5, HM2⟩
                      case measure => simp [intOf]; omega
                    | false =>
                      have HM2 : Hid (hw = if memB (ys.getD k ByteArray.empty) (ys.take (m + 1)) then 2 else 0) := by unfold Hid; rw [HTK.out, HS, he, Bool.or_false]; exact HM.out
                      clear HS htm htk eg
                      go_wp2_with fail
                      go_quiet (fail)
                      have hbq : Below wr.heap.size wr (wr.drewN nq) := ⟨rfl, rfl, rfl, Nat.le_refl _, fun _ _ => rfl⟩
                      have hf5 := hf4.trans (CF.of_below hbq h4w.lt)
                      go_wp2_with fail
                      go_roundw
                      case rel => exact ⟨m + 1, hw, by omega, by go_num, ⟨_, _, _, _, _, h4w.on hbq⟩, hf5, own_below ho4 hbq, HM2⟩
                      case measure => simp [intOf]; omega
                  · obtain rfl : m = k := by omega
                    have hml' : ¬ (m : Int) < m := by omega
                    have HH2 : Hid ((hw = 0 ∧ dupB ys (m + 1) = false) ∨ (hw = 2 ∧ dupB ys ys.length = true)) := by
                      have hm := HM.out
                      cases hq : memB (ys.getD m ByteArray.empty) (ys.take m) with
                      | true =>
                        rw [hq] at hm
                        refine .inr ⟨hm, dupB_mono (k := m + 1) ?_ (by omega)⟩
                        rw [dupB, hq, Bool.or_true]
                      | false =>
                        rw [hq] at hm
                        exact .inl ⟨hm, by rw [dupB, hq, HD.out]; rfl⟩
                    go_wp2_with fail
                    go_roundw
                    case rel => exact ⟨m + 1, hw, by omega, by go_num, ⟨_, _, _, _, _, h4w⟩, hf4, ho4, HH2⟩
                    case measure => simp [intOf]; omega
              · have hkl' : ¬ (k : Int) < ys.length := by omega
                have HW2 : Hid (namesHow xs l = 0) := by unfold Hid; rw [HW.out, show ys.length = k by omega, HD.out]; rfl
                clear HH
                go_wp2_with fail
                go_ret
                first
                  | exact ⟨_, rfl, ys, own_mono ho3 (Nat.zero_le _), hy4, fun _ => HYN.out.1, by rw [HW2.out]; exact ⟨_, _, _, _, _, h3⟩, hf3⟩
                  | exact ⟨_, ys, rfl, own_mono ho3 (Nat.zero_le _), hy4, fun _ => HYN.out.1, by rw [HW2.out]; exact ⟨_, _, _, _, _, h3⟩, hf3⟩
            · obtain ⟨hw2, hdup⟩ : hw = 2 ∧ dupB ys ys.length = true := by
                rcases HH.out with h | h
                · exact absurd h.1 hw0
                · exact h
              subst hw2
              have HW2 : Hid (namesHow xs l = 2) := by unfold Hid; rw [HW.out, hdup]; rfl
              clear HH hdup
              by_cases hkl : k < ys.length
              · have hkl' : (k : Int) < ys.length := by omega
                go_wp2_with fail
                go_ret
                first
                  | exact ⟨_, rfl, ys, own_mono ho3 (Nat.zero_le _), hy4, fun e => by (rw [HW2.out] at e; cases e), by rw [HW2.out]; exact ⟨_, _, _, _, _, h3⟩, hf3⟩
                  | exact ⟨_, ys, rfl, own_mono ho3 (Nat.zero_le _), hy4, fun e => by (rw [HW2.out] at e; cases e), by rw [HW2.out]; exact ⟨_, _, _, _, _, h3⟩, hf3⟩
              · have hkl' : ¬ (k : Int) < ys.length := by omega
                go_wp2_with fail
                go_ret
                first
                  | exact ⟨_, rfl, ys, own_mono ho3 (Nat.zero_le _), hy4, fun e => by (rw [HW2.out] at e; cases e), by rw [HW2.out]; exact ⟨_, _, _, _, _, h3⟩, hf3⟩
                  | exact ⟨_, ys, rfl, own_mono ho3 (Nat.zero_le _), hy4, fun e => by (rw [HW2.out] at e; cases e), by rw [HW2.out]; exact ⟨_, _, _, _, _, h3⟩, hf3⟩
      · obtain ⟨hw1, hbad⟩ : hw = 1 ∧ allVars xs l = false := by
          rcases HH.out with h | h
          · exact absurd h.1 hw0
          · exact h
        subst hw1
        have HW : Hid (namesHow xs l = 1) := by unfold Hid namesHow; rw [if_neg h4, hbad]; rfl
        have hy4 : ys.length ≤ 4 := by omega
        obtain ⟨ar, cr, rfl⟩ := own_form hor
        obtain ⟨pv2, lv2, dv2, L2, D2, h2⟩ := hkr
        obtain ⟨_, _, _, c3, _, _, f3⟩ := h2.cells
        dsimp only at c3
        clear HH hbad
        by_cases hlt : ys.length < l.length
        case' pos => have hlt' : (ys.length : Int) < l.length := by omega
        case' neg => have hlt' : ¬ (ys.length : Int) < l.length := by omega
        all_goals
          go_wp2_with fail
          go_loopw [9] (fun i w2 => i = .int .i64 0 ∧ w2 = wr) (fun _ _ => 0)
          case atStart => exact ⟨rfl, rfl⟩
          case round =>
            obtain ⟨rfl, rfl⟩ := hrel
            by_cases hyl : 0 < ys.length
            case' pos => have hyl' : (0 : Int) < ys.length := by omega
            case' neg => have hyl' : ¬ (0 : Int) < ys.length := by omega
            all_goals
              go_wp2_with fail
              go_ret
              first
                | exact ⟨_, rfl, ys, own_mono hor (Nat.zero_le _), hy4, fun e => by (rw [HW.out] at e; cases e), by rw [HW.out]; exact ⟨_, _, _, _, _, h2⟩, hfr⟩
                | exact ⟨_, ys, rfl, own_mono hor (Nat.zero_le _), hy4, fun e => by (rw [HW.out] at e; cases e), by rw [HW.out]; exact ⟨_, _, _, _, _, h2⟩, hfr⟩
end Go.Proofs.Ytacbhbmjhlgflaa

/-
  The contracts of spec's l4Body and l4Fun, given that of l4Expr. No condition beyond the compiler's memory, and that the values are there.
-/
namespace Go.Proofs.Ytacbhbmjhlgflaa
open Go.RowKit

/-- What l4Expr does at a value. -/
def CE (xs : List Nd) (M d : Nat) (e : Ex) (v : Int) : Prop := ∀ (s : CS) (env : Env) (ev : Value) (w : World), Mk xs M d w s → ERow w ev env → env.length + v.toNat ≤ 3001 →
  Calls Try.prog 128 #[.pointer (some ⟨M, 0, none⟩), .int .i64 v, ev] w fun r w' => r = .returned (.tuple #[]) ∧ Mk xs M d w' (e v env s) ∧ CF M w w'
theorem Mk.blk {xs : List Nd} {M d : Nat} {w : World} {s : CS} (h : Mk xs M d w s) : ∃ c fr, w.heap[M]? = some (.cells c 160 fr) := by
  obtain ⟨_, _, _, _, _, h⟩ := h
  exact ⟨_, _, h.blk⟩
theorem CF.erow' {xs : List Nd} {M d : Nat} {w w' : World} {s : CS} {v : Value} {env : Env} (h : CF M w w') (hk : Mk xs M d w s) (r : ERow w v env) : ERow w' v env := by
  obtain ⟨c, fr, hb⟩ := hk.blk
  exact h.erow hb r
theorem CF.trow' {xs : List Nd} {M d : Nat} {w w' : World} {s : CS} {v : Value} {l : List Int} (h : CF M w w') (hk : Mk xs M d w s) (r : TRow w v l) : TRow w' v l := by
  obtain ⟨c, fr, hb⟩ := hk.blk
  exact h.trow hb r
theorem CF.srow' {xs : List Nd} {M d : Nat} {w w' : World} {s : CS} {v : Value} {ss : List ByteArray} (h : CF M w w') (hk : Mk xs M d w s) (r : SRow w v ss) : SRow w' v ss := by
  obtain ⟨c, fr, hb⟩ := hk.blk
  exact h.srow hb r
theorem ERow.below {w w' : World} {v : Value} {env : Env} (r : ERow w v env) (hb : Below w.heap.size w w') : ERow w' v env := by
  obtain ⟨vs, ho, hs⟩ := r
  exact ⟨vs, own_below ho hb, fun i u e => ⟨(hs i u e).1, own_below (hs i u e).2 hb⟩⟩
theorem ERow.form {w : World} {v : Value} {env : Env} (r : ERow w v env) : ∃ ao cap, v = .slice ao env.length cap := by
  obtain ⟨vs, ho, hs⟩ := r
  exact own_form ho

set_option maxRecDepth 100000 in
set_option maxHeartbeats 3200000 in
theorem s4body_any (xs : List Nd) (M d : Nat) (e : Ex) (body : List Int) (bv : Value) (s : CS) (env : Env) (ev : Value) (w : World) (h : Mk xs M d w s) (T : TRow w bv body) (E : ERow w ev env) (hE : ∀ z ∈ body, CE xs M d e z ∧ env.length + z.toNat ≤ 3001) :
    Calls Try.prog 125 #[.pointer (some ⟨M, 0, none⟩), bv, ev] w fun r w' => r = .returned (.tuple #[]) ∧ Mk xs M d w' (cbody e body env s) ∧ CF M w w' := by
  obtain ⟨ab, cb, rfl, hbc, hcm⟩ := T.form
  obtain ⟨ae, ce, rfl⟩ := E.form
  have HT : Hid (TRow w (.slice ab body.length cb) body) := T
  have HE : Hid (ERow w (.slice ae env.length ce) env) := E
  clear T E
  go_enter Try.func125, Try.ntmps125
  go_wp2_with fail
  go_loopw [6] (fun i wr => ∃ (k : Nat) (sk : CS), k ≤ body.length ∧ i = .int .i64 k ∧ Mk xs M d wr sk ∧ CF M w wr ∧ Hid (cbody e body env s = cseq e env (body.drop k) (k == 0) sk)) (fun i _ => body.length - (intOf i).toNat)
  case atStart => exact ⟨0, s, by omega, rfl, h, CF.refl _ _, rfl⟩
  case round =>
    obtain ⟨k, sk, hk, rfl, hkr, hfr, HC⟩ := hrel
    have hkr0 := hkr
    obtain ⟨pv, lv, dv, L, D, h2⟩ := hkr
    obtain ⟨_, _, _, c3, _, _, f3⟩ := h2.cells
    by_cases hlt : k < body.length
    · obtain ⟨z, hz⟩ : ∃ z, body[k]? = some z := ⟨body[k], by simp [hlt]⟩
      have hzm := List.mem_of_getElem? hz
      have HD : Hid (body.drop k = z :: body.drop (k + 1)) := by
        obtain ⟨hl, he⟩ := List.getElem?_eq_some_iff.1 hz
        unfold Hid
        rw [List.drop_eq_getElem_cons hl, he]
      have hgd : body.getD k 0 = z := by rw [List.getD_eq_getElem?_getD, hz]; rfl
      have HG : Hid (body.getD k 0 = z) := hgd
      have hlt' : (k : Int) < body.length := by omega
      by_cases h0 : sk.how = 0
      · rw [h0] at c3
        have HC2 : Hid (cbody e body env s = cseq e env (body.drop (k + 1)) false (e z env (if k == 0 then sk else sk.emit (ins 9 0 0)))) := by
          unfold Hid; rw [HC.out, HD.out, cseq, if_pos h0]
        have Tr := hfr.trow' h HT.out
        obtain ⟨g, o, rfl, hg, hc⟩ := Tr.cell k hlt
        rw [hgd] at hc
        clear hz hgd HC h0
        by_cases hk0 : k = 0
        · subst hk0
          rw [Nat.add_zero] at hc
          go_wp2_with fail
          refine ((hE z hzm).1 sk env _ wr hkr0 (hfr.erow' h HE.out) (hE z hzm).2).mono ?_
          rintro r w3 ⟨rfl, hk3, hf3⟩
          have hf := hfr.trans hf3
          go_wp2_with fail
          go_roundw
          case rel => exact ⟨0 + 1, _, by omega, by go_num, hk3, hf, HC2⟩
          case measure => simp [intOf]; omega
        · have hk0' : (0 : Int) < k := by omega
          have hkb : (k == 0) = false := by simpa using hk0
          rw [hkb] at HC2
          go_wp2_with fail
          refine (semit_any xs M d sk (ins 9 0 0) _ hkr0).mono ?_
          rintro r w3 ⟨rfl, hk3, hf3⟩
          have hf := hfr.trans hf3
          have Tr3 := hf.trow' h HT.out
          obtain ⟨g', o', e', hg', hc'⟩ := Tr3.cell k hlt
          simp only [Option.some.injEq, Addr.mk.injEq, and_true] at e'
          obtain ⟨rfl, rfl⟩ := e'
          rw [HG.out] at hc'
          clear c3 f3 hc h2
          go_wp2_with fail
          refine ((hE z hzm).1 _ env _ w3 hk3 (hf.erow' h HE.out) (hE z hzm).2).mono ?_
          rintro r w4 ⟨rfl, hk4, hf4⟩
          have hf' := hf.trans hf4
          go_wp2_with fail
          go_roundw
          case rel => exact ⟨k + 1, _, by omega, by go_num, hk4, hf', HC2⟩
          case measure => simp [intOf]; omega
      · have HC2 : Hid (cbody e body env s = sk) := by unfold Hid; rw [HC.out, HD.out, cseq, if_neg h0]
        have hb0 : (sk.how == 0) = false := by simpa using h0
        have hb1 : decide (sk.how = 0) = false := by simpa using h0
        clear h0
        go_wp2_with fail
        go_end0
        exact ⟨rfl, by rw [HC2.out]; exact hkr0, hfr⟩
    · have HC2 : Hid (cbody e body env s = sk) := by unfold Hid; rw [HC.out, List.drop_eq_nil_of_le (by omega)]; rfl
      have hlt' : ¬ (k : Int) < body.length := by omega
      go_wp2_with fail
      go_end0
      exact ⟨rfl, by rw [HC2.out]; exact hkr0, hfr⟩

theorem Try.infoSs : (Try.prog.info? 93).map (fun i => (i.zero, i.size, i.bytes)) = some (some (.slice none 0 0), 1, 24) := by kernel_rfl
theorem own_lit (w : World) (u : Value) (t : TypeId) (B : Nat) (hB : B ≤ w.heap.size) : (w.alloc (.cells #[u] t)).ownsRow B t 1 (.slice (some ⟨w.heap.size, 0, none⟩) 1 1) 1 [u] :=
  ⟨rfl, .inr ⟨w.heap.size, 1, #[u], rfl, hB, heap_alloc_new w _, Nat.le_refl _, by unfold maxLen; omega, rfl, rfl⟩⟩
theorem own_news2 {w : World} {base n c : Nat} {e : TypeId} {ao : Option Addr} {l : List Value} (h : w.ownsRow base e 1 (.slice ao n c) n l) : (ao = none → n = 0 ∧ c = 0) ∧ ∀ ad, ao = some ad → ∀ j u, l[j]? = some u → w.cell? (ad.add j) = some u := by
  have hl := h.1
  rcases h.2 with ⟨e1, hn⟩ | ⟨g, cap, cur, e1, _⟩
  · simp only [Value.slice.injEq] at e1
    obtain ⟨e2, _, e3⟩ := e1
    subst e2
    exact ⟨fun _ => ⟨hn, e3⟩, fun ad h => by cases h⟩
  · simp only [Value.slice.injEq] at e1
    have e2 := e1.1
    subst e2
    refine ⟨fun h => (by cases h), fun ad hd j u hu => ?_⟩
    cases hd
    have hj : j < l.length := (List.getElem?_eq_some_iff.1 hu).1
    have hc := h.cellAt j (by omega)
    have hadd : (⟨g, 0, none⟩ : Addr).add j = ⟨g, j, none⟩ := by unfold Addr.add; split <;> simp_all
    rw [hadd, hc, hu]
theorem ERow.cons {w : World} {v nv : Value} {ns : List ByteArray} {env : Env} {vs : List Value} (ho : w.ownsRow 0 93 1 v (1 + env.length) ([nv] ++ vs)) (h1 : nv.oneCell' = true) (hn : SRow w nv ns) (hs : ∀ i u, vs[i]? = some u → u.oneCell' = true ∧ SRow w u (env.getD i [])) : ERow w v (ns :: env) := by
  refine ⟨[nv] ++ vs, by rw [List.length_cons, Nat.add_comm]; exact ho, fun i u hu => ?_⟩
  cases i with
  | zero => simp at hu; subst hu; exact ⟨h1, hn⟩
  | succ i => exact hs i u (by simpa using hu)

set_option maxRecDepth 100000 in
set_option maxHeartbeats 3200000 in
theorem s4fun_any (xs : List Nd) (M d : Nat) (e : Ex) (names : List ByteArray) (nv : Value) (body : List Int) (bv : Value) (s : CS) (env : Env) (ev : Value) (w : World) (h : Mk xs M d w s) (N : SRow w nv names) (T : TRow w bv body) (E : ERow w ev env)
    (hm : Mono e) (hl : env.length ≤ 3000) (hE : ∀ z ∈ body, CE xs M d e z ∧ env.length + 1 + z.toNat ≤ 3001) :
    Calls Try.prog 132 #[.pointer (some ⟨M, 0, none⟩), nv, bv, ev] w fun r w' => r = .returned (.tuple #[]) ∧ Mk xs M d w' (cfun e names body env s) ∧ CF M w w' := by
  obtain ⟨i0, hi, hz0, hz1, hz2⟩ := info_parts Try.infoSs
  obtain ⟨ab, cb, rfl, hbc, hcm⟩ := T.form
  obtain ⟨ae, ce, rfl⟩ := E.form
  obtain ⟨an, cn, rfl⟩ := N.form
  have HT : Hid (TRow w (.slice ab body.length cb) body) := T
  have HE : Hid (ERow w (.slice ae env.length ce) env) := E
  have HN : Hid (SRow w (.slice an names.length cn) names) := N
  clear T E N
  go_enter Try.func132, Try.ntmps132
  go_wp2_with fail
  refine (semit_any xs M d s (ins 6 0 names.length) _ h).mono ?_
  rintro r w1 ⟨rfl, k1, f1⟩
  go_wp2_with fail
  refine (semit_any xs M d _ (ins 5 0 0) _ k1).mono ?_
  rintro r w2 ⟨rfl, k2, f2⟩
  have f2' := f1.trans f2
  go_wp2_with fail
  refine (sto_any xs M d _ s.place _ k2 (place_lt (Grow.emit _ _))).mono ?_
  rintro r w3 ⟨rfl, k3, f3⟩
  have f3' := f2'.trans f3
  have E3 := f3'.erow' h HE.out
  have T3 := f3'.trow' h HT.out
  have N3 := f3'.srow' h HN.out
  obtain ⟨vs, hov, hvs⟩ := E3
  obtain ⟨n1, n2⟩ := own_news2 hov
  have hl3 := own_lit w3 (.slice an names.length cn) 93 w3.heap.size (Nat.le_refl _)
  have hBa : Below w3.heap.size w3 (w3.alloc (Obj.cells #[.slice an names.length cn] 93)) := (Below.refl _ _).alloc (Nat.le_refl _) _
  have hvl : vs.length = env.length * 1 := hov.1
  have n2' : ∀ ad, ae = some ad → ∀ j u, vs[j]? = some u → (w3.alloc (Obj.cells #[.slice an names.length cn] 93)).cell? (ad.add j) = some u := (own_news2 (own_below hov hBa)).2
  have h1c : ∀ u ∈ vs, u.oneCell' = true := fun u hu => by
    obtain ⟨i, hi, rfl⟩ := List.getElem_of_mem hu
    exact (hvs i _ (List.getElem?_eq_getElem hi)).1
  go_wp2_with (at_builtin; refine wpList_append_own_any _ rfl _ _ 172 rfl w3.heap.size 93 i0 (.slice none 0 0) 1 24 Try.underlying172 hi hz0 hz1 hz2 rfl (by decide) _ _ _ rfl hl3 ae env.length ce vs rfl hvl n1 n2' h1c (by unfold maxLen; omega) (by omega) (by simp) ?_)
  intro v4 w4 hown hgrow
  have hB4 : Below w3.heap.size w3 w4 := hBa.grown hgrow (by simp) (fun j hj => (hl3.lt j hj).1)
  have E4 : ERow w4 v4 (names :: env) := ERow.cons (own_mono hown (Nat.zero_le _)) rfl (own_below N3 hB4) (fun i u hu => ⟨(hvs i u hu).1, own_below (hvs i u hu).2 hB4⟩)
  have k4 := k3.on hB4
  have f4' := f3'.trans (CF.of_below hB4 k3.lt)
  have T4 := T3.below hB4
  clear hown hgrow n1 n2 n2' hl3 hBa hvl h1c
  go_wp2_with fail
  refine (s4body_any xs M d e body _ _ (names :: env) _ _ k4 T4 E4 (fun z hz => ⟨(hE z hz).1, by have := (hE z hz).2; simp; omega⟩)).mono ?_
  rintro r w5 ⟨rfl, k5, f5⟩
  go_wp2_with fail
  refine (semit_any xs M d _ (ins 8 0 0) _ k5).mono ?_
  rintro r w6 ⟨rfl, k6, f6⟩
  go_wp2_with fail
  refine (sto_any xs M d _ (s.emit (ins 6 0 names.length)).place _ k6 (place_lt (((Grow.lead _ _).trans (hm.seq _ _ _ _)).trans (Grow.emit _ _)))).mono ?_
  rintro r w7 ⟨rfl, k7, f7⟩
  go_wp2_with fail
  go_end0
  exact ⟨rfl, k7, ((f4'.trans f5).trans f6).trans f7⟩
end Go.Proofs.Ytacbhbmjhlgflaa

/-
  The contract of spec's l4Form, given that of l4Expr. No condition beyond the compiler's memory, and that the values are there.
-/
namespace Go.Proofs.Ytacbhbmjhlgflaa
open Go.RowKit

theorem chain_mem {xs : List Nd} (hp : poolB xs = true) (B : Nat) : ∀ (f j : Nat) (acc l : List Int), (∀ z ∈ acc, ∃ n : Nat, z = n ∧ n < B) → j ≤ B → chain xs f j acc = some l → ∀ z ∈ l, ∃ n : Nat, z = n ∧ n < B := by
  intro f
  induction f with
  | zero => intro j acc l _ _ h; simp [chain] at h
  | succ f ih =>
    intro j acc l ha hj h
    rw [chain] at h
    cases hx : xs[j]? with
    | none => rw [hx] at h; cases h
    | some x =>
      rw [hx] at h
      dsimp only at h
      split at h
      · rename_i h5
        obtain ⟨a, b, e1, e2, l1, l2⟩ := pool_pair hp hx h5
        rw [e2, Int.toNat_natCast] at h
        refine ih b _ l (fun z hz => ?_) (by omega) h
        rcases List.mem_append.1 hz with hz | hz
        · exact ha z hz
        · rw [List.mem_singleton] at hz
          exact ⟨a, by rw [hz, e1], by omega⟩
      · split at h
        · cases h; exact ha
        · cases h
theorem chainR_mem {xs : List Nd} (hp : poolB xs = true) (v : Nat) : ∀ z ∈ (chainR xs v).1, ∃ n : Nat, z = n ∧ n < v := by
  intro z hz
  unfold chainR at hz
  cases h : chain xs (v + 1) v [] with
  | none => rw [h] at hz; simp at hz
  | some l =>
    rw [h] at hz
    exact chain_mem hp v _ _ _ _ (fun z hz => by simp at hz) (Nat.le_refl _) h z hz

theorem pool_s2 {xs : List Nd} (hp : poolB xs = true) : xs.length ≤ 3000 ∧ ∀ x ∈ xs, x.s.size ≤ maxLen := by
  have hl : xs.length ≤ 3000 := by simp only [poolB, Bool.and_eq_true, decide_eq_true_eq] at hp; exact hp.1
  refine ⟨hl, fun x hx => ?_⟩
  obtain ⟨i, hi, rfl⟩ := List.getElem_of_mem hx
  have h := pool_at hp (List.getElem?_eq_getElem hi)
  simp only [nodeB, Bool.and_eq_true] at h
  obtain ⟨_, ⟨hn, _⟩, _⟩ := h
  unfold maxLen
  unfold nameFB at hn
  split at hn
  · simp only [nameB, Bool.and_eq_true, decide_eq_true_eq] at hn
    have := hn.1.2
    omega
  · have e : (xs[i].s).toList = [] := by simpa using hn
    rw [ByteArray.toList_eq] at e
    have := congrArg List.length e
    rw [Array.length_toList] at this
    have h0 : (xs[i].s).size = 0 := this
    omega
/-- What went wrong stays so. -/
def Stay (e : Ex) : Prop := ∀ v env s, ¬ s.how = 0 → e v env s = s
theorem cseq_stay (e : Ex) (env : Env) (l : List Int) (b : Bool) (s : CS) (h : ¬ s.how = 0) : cseq e env l b s = s := by
  cases l with
  | nil => rfl
  | cons v l => rw [cseq, if_neg h]
theorem emit_stay (s : CS) (x : In) (h : ¬ s.how = 0) : s.emit x = s := by unfold CS.emit; rw [if_neg h]
theorem lead_stay (s : CS) (a : Nat) (h : ¬ s.how = 0) : s.lead a = s := by unfold CS.lead; rw [if_neg h]
theorem cfun_stay (e : Ex) (ns : List ByteArray) (body : List Int) (env : Env) (s : CS) (h : ¬ s.how = 0) : cfun e ns body env s = s := by
  unfold cfun cbody
  dsimp only
  rw [emit_stay s _ h, emit_stay s _ h, lead_stay s _ h, cseq_stay e _ _ _ s h, emit_stay s _ h, lead_stay s _ h]
theorem TRow.one {w : World} {g o n cap : Nat} {l : List Int} (h : TRow w (.slice (some ⟨g, o, none⟩) n cap) l) (k : Nat) (hk : k < l.length) : TRow w (.slice (some ⟨g, o + k, none⟩) 1 (cap - k)) [l.getD k 0] := by
  obtain ⟨ao', cap', e, h1, h2, h3⟩ := h
  simp only [Value.slice.injEq] at e
  obtain ⟨rfl, rfl, rfl⟩ := e
  refine ⟨_, _, rfl, by simp; omega, by omega, fun _ => ?_⟩
  obtain ⟨g', o', cur, fr, e, hg, hc⟩ := h3 (by rintro rfl; simp at hk)
  simp only [Option.some.injEq, Addr.mk.injEq, and_true] at e
  obtain ⟨rfl, rfl⟩ := e
  refine ⟨g, o + k, cur, fr, rfl, hg, fun i hi => ?_⟩
  have : i = 0 := by simpa using hi
  subst this
  exact hc k hk

/-- What is asked of each value of a list. -/
def Elt (xs : List Nd) (M d : Nat) (e : Ex) (n : Nat) (z : Int) : Prop := ∃ k : Nat, z = k ∧ k < xs.length ∧ CE xs M d e k ∧ n + 1 + k ≤ 3001

set_option maxRecDepth 100000 in
set_option maxHeartbeats 6400000 in
theorem s4form_any (xs : List Nd) (hp : poolB xs = true) (M d : Nat) (e : Ex) (hm : Mono e) (hst : Stay e) (head : ByteArray) (l : List Int) (lv : Value) (s : CS) (env : Env) (ev : Value) (w : World) (h : Mk xs M d w s) (h0 : s.how = 0) (T : TRow w lv l) (E : ERow w ev env)
    (hE : ∀ z ∈ l, Elt xs M d e env.length z) (hne : 0 < l.length) :
    Calls Try.prog 130 #[.pointer (some ⟨M, 0, none⟩), .string head, lv, ev] w fun r w' => r = .returned (.tuple #[]) ∧ Mk xs M d w' (cform e xs head l env s) ∧ CF M w w' := by
  obtain ⟨al, cl, rfl, hlc, hcm⟩ := T.form
  obtain ⟨ae, ce, rfl⟩ := E.form
  obtain ⟨g, o, rfl, _, _⟩ := T.cell 0 hne
  have HT : Hid (TRow w (.slice (some ⟨g, o, none⟩) l.length cl) l) := T
  have HE : Hid (ERow w (.slice ae env.length ce) env) := E
  have HH : Hid (s.how = 0) := h0
  have hlist : Hid (∀ k, k < l.length → Elt xs M d e env.length (l.getD k 0)) := fun k hk => hE _ (by rw [List.getD_eq_getElem?_getD, List.getElem?_eq_getElem hk]; exact List.getElem_mem _)
  clear T E h0
  have hk0 := h
  obtain ⟨pv, lv', dv, L, D, h2⟩ := hk0
  obtain ⟨c0, _, _, c3, _, _, f3⟩ := h2.cells
  have bad : ∃ (s' : CS), s' = { s with how := 1 } ∧ Mk xs M d (w.setCell ⟨M, 3, none⟩ (.int .i64 1)) s' ∧ CF M w (w.setCell ⟨M, 3, none⟩ (.int .i64 1)) := ⟨_, rfl, h2.wrong 1 (by decide) _ rfl⟩
  obtain ⟨sb, esb, kb, fb⟩ := bad
  have HE2 : Hid (∀ z ∈ l, Elt xs M d e env.length z) := hE
  clear hE
  have at_ : Hid (∀ (W : World), CF M w W → ∀ k, k < l.length → W.cell? ⟨g, o + k, none⟩ = some (.int .i64 (l.getD k 0))) := fun W hF k hk => by
    obtain ⟨g', o', e', _, hc'⟩ := (hF.trow' h HT.out).cell k hk
    simp only [Option.some.injEq, Addr.mk.injEq, and_true] at e'
    obtain ⟨rfl, rfl⟩ := e'
    exact hc'
  obtain ⟨z1, e1⟩ : ∃ z, Hid (l.getD 1 0 = z) := ⟨_, rfl⟩
  obtain ⟨z2, e2⟩ : ∃ z, Hid (l.getD 2 0 = z) := ⟨_, rfl⟩
  obtain ⟨z3, e3⟩ : ∃ z, Hid (l.getD 3 0 = z) := ⟨_, rfl⟩
  have at1 : Hid (∀ (W : World), CF M w W → 1 < l.length → W.cell? ⟨g, o + 1, none⟩ = some (.int .i64 z1)) := fun W hF hk => by rw [← e1.out]; exact at_.out W hF 1 hk
  have at2 : Hid (∀ (W : World), CF M w W → 2 < l.length → W.cell? ⟨g, o + 2, none⟩ = some (.int .i64 z2)) := fun W hF hk => by rw [← e2.out]; exact at_.out W hF 2 hk
  have at3 : Hid (∀ (W : World), CF M w W → 3 < l.length → W.cell? ⟨g, o + 3, none⟩ = some (.int .i64 z3)) := fun W hF hk => by rw [← e3.out]; exact at_.out W hF 3 hk
  have el1 : Hid (1 < l.length → Elt xs M d e env.length z1) := fun hk => by rw [← e1.out]; exact hlist.out 1 hk
  have el2 : Hid (2 < l.length → Elt xs M d e env.length z2) := fun hk => by rw [← e2.out]; exact hlist.out 2 hk
  have el3 : Hid (3 < l.length → Elt xs M d e env.length z3) := fun hk => by rw [← e3.out]; exact hlist.out 3 hk
  clear at_ hlist
  go_enter Try.func130, Try.ntmps130
  by_cases q1 : head.toList = [113, 117, 111, 116, 101]
  · have b1 : (head.toList == [113, 117, 111, 116, 101]) = true := by rw [q1]; decide
    have b2 : (head.toList == [105, 102]) = false := by rw [q1]; decide
    have b3 : (head.toList == [100, 111]) = false := by rw [q1]; decide
    have b4 : (head.toList == [102, 110]) = false := by rw [q1]; decide
    have b5 : (head.toList == [108, 101, 116]) = false := by rw [q1]; decide
    have HF : Hid (cform e xs head l env s = if l.length = 2 then s.emit (ins 1 z1 0) else { s with how := 1 }) := by
      unfold Hid cform isW wQuote wIf wFn wDo wLet
      rw [e1.out]
      simp [b1, b2, b3, b4, b5]
    clear q1
    by_cases hn : l.length = 2
    · have HR : Hid (cform e xs head l env s = s.emit (ins 1 z1 0)) := by unfold Hid; rw [HF.out, if_pos hn]
      have hc := at1.out w (CF.refl _ _) (by omega)
      have hn' : (l.length : Int) = 2 := by omega
      have hn1 : (1 : Int) < l.length := by omega
      clear HF
      go_wp2_with fail
      refine (semit_any xs M d s (ins 1 z1 0) _ h).mono ?_
      rintro r w1 ⟨rfl, k1, f1⟩
      go_wp2_with fail
      go_end0
      exact ⟨rfl, by rw [HR.out]; exact k1, f1⟩
    · have HR : Hid (cform e xs head l env s = sb) := by unfold Hid; rw [HF.out, if_neg hn, esb]
      have hn' : ((l.length : Int) == 2) = false := by simp; omega
      have hn2 : decide ((l.length : Int) = 2) = false := by simp; omega
      clear HF hn
      go_wp2_with fail
      go_end0
      exact ⟨rfl, by rw [HR.out]; exact kb, fb⟩
  by_cases q2 : head.toList = [105, 102]
  · have b1 : (head.toList == [113, 117, 111, 116, 101]) = false := by rw [q2]; decide
    have b2 : (head.toList == [105, 102]) = true := by rw [q2]; decide
    have b3 : (head.toList == [100, 111]) = false := by rw [q2]; decide
    have b4 : (head.toList == [102, 110]) = false := by rw [q2]; decide
    have b5 : (head.toList == [108, 101, 116]) = false := by rw [q2]; decide
    have HF : Hid (cform e xs head l env s = if l.length = 4 then cif e z1 z2 z3 env s else { s with how := 1 }) := by
      unfold Hid cform isW wQuote wIf wFn wDo wLet
      rw [e1.out, e2.out, e3.out]
      simp [b1, b2, b3, b4, b5]
    clear q1 q2
    by_cases hn : l.length = 4
    · have HR : Hid (cform e xs head l env s = cif e z1 z2 z3 env s) := by unfold Hid; rw [HF.out, if_pos hn]
      have hc1 := at1.out w (CF.refl _ _) (by omega)
      obtain ⟨n1, rfl, ln1, ce1, en1⟩ := el1.out (by omega)
      obtain ⟨n2, rfl, ln2, ce2, en2⟩ := el2.out (by omega)
      obtain ⟨n3, rfl, ln3, ce3, en3⟩ := el3.out (by omega)
      have hn' : (l.length : Int) = 4 := by omega
      have hn1 : (1 : Int) < l.length := by omega
      have hn2 : (2 : Int) < l.length := by omega
      have hn3 : (3 : Int) < l.length := by omega
      have hnN : 1 < l.length ∧ 2 < l.length ∧ 3 < l.length := by omega
      have HNN : Hid (1 < l.length ∧ 2 < l.length ∧ 3 < l.length) := hnN
      clear HF hnN c3 f3
      go_wp2_with fail
      refine (ce1 s env _ w h HE.out (by simp; omega)).mono ?_
      rintro r w1 ⟨rfl, k1, f1⟩
      go_wp2_with fail
      refine (semit_any xs M d _ (ins 4 0 0) _ k1).mono ?_
      rintro r w2 ⟨rfl, k2, f2⟩
      have f2' := f1.trans f2
      have hc2 := at2.out w2 f2' HNN.out.2.1
      go_wp2_with fail
      refine (ce2 _ env _ w2 k2 (f2'.erow' h HE.out) (by simp; omega)).mono ?_
      rintro r w3 ⟨rfl, k3, f3⟩
      have f3' := f2'.trans f3
      go_wp2_with fail
      refine (semit_any xs M d _ (ins 5 0 0) _ k3).mono ?_
      rintro r w4 ⟨rfl, k4, f4⟩
      have f4' := f3'.trans f4
      go_wp2_with fail
      refine (sto_any xs M d _ _ _ k4 (place_lt ((hm _ _ _).trans (Grow.emit _ _)))).mono ?_
      rintro r w5 ⟨rfl, k5, f5⟩
      have f5' := f4'.trans f5
      have hc3 := at3.out w5 f5' HNN.out.2.2
      go_wp2_with fail
      refine (ce3 _ env _ w5 k5 (f5'.erow' h HE.out) (by simp; omega)).mono ?_
      rintro r w6 ⟨rfl, k6, f6⟩
      have f6' := f5'.trans f6
      go_wp2_with fail
      refine (sto_any xs M d _ _ _ k6 (place_lt ((Grow.lead _ _).trans (hm _ _ _)))).mono ?_
      rintro r w7 ⟨rfl, k7, f7⟩
      go_wp2_with fail
      go_end0
      exact ⟨rfl, by rw [HR.out]; exact k7, f6'.trans f7⟩
    · have HR : Hid (cform e xs head l env s = sb) := by unfold Hid; rw [HF.out, if_neg hn, esb]
      have hn' : ((l.length : Int) == 4) = false := by simp; omega
      have hn2 : decide ((l.length : Int) = 4) = false := by simp; omega
      clear HF hn
      go_wp2_with fail
      go_end0
      exact ⟨rfl, by rw [HR.out]; exact kb, fb⟩
  by_cases q3 : head.toList = [100, 111]
  · have b1 : (head.toList == [113, 117, 111, 116, 101]) = false := by rw [q3]; decide
    have b2 : (head.toList == [105, 102]) = false := by rw [q3]; decide
    have b3 : (head.toList == [100, 111]) = true := by rw [q3]; decide
    have b4 : (head.toList == [102, 110]) = false := by rw [q3]; decide
    have b5 : (head.toList == [108, 101, 116]) = false := by rw [q3]; decide
    have HF : Hid (cform e xs head l env s = if 2 ≤ l.length then cbody e (l.drop 1) env s else { s with how := 1 }) := by
      unfold Hid cform isW wQuote wIf wFn wDo wLet
      simp [b1, b2, b3, b4, b5]
    clear q1 q2 q3
    by_cases hn : 2 ≤ l.length
    · have HR : Hid (cform e xs head l env s = cbody e (l.drop 1) env s) := by unfold Hid; rw [HF.out, if_pos hn]
      have hn' : (2 : Int) ≤ l.length := by omega
      have hT1 := HT.out.drop 1 (by omega)
      clear HF
      go_wp2_with fail
      refine (s4body_any xs M d e (l.drop 1) _ s env _ w h hT1 HE.out (fun z hz => by
        obtain ⟨k, rfl, _, hc, hb⟩ := HE2.out z (List.mem_of_mem_drop hz)
        exact ⟨hc, by simp; omega⟩)).mono ?_
      rintro r w1 ⟨rfl, k1, f1⟩
      go_wp2_with fail
      go_end0
      exact ⟨rfl, by rw [HR.out]; exact k1, f1⟩
    · have HR : Hid (cform e xs head l env s = sb) := by unfold Hid; rw [HF.out, if_neg hn, esb]
      have hn' : ¬ (2 : Int) ≤ l.length := by omega
      have hn2 : decide ((2 : Int) ≤ l.length) = false := by simp; omega
      clear HF
      go_wp2_with fail
      go_end0
      exact ⟨rfl, by rw [HR.out]; exact kb, fb⟩
  have HPS := pool_s2 hp
  by_cases q4 : head.toList = [102, 110]
  · have b1 : (head.toList == [113, 117, 111, 116, 101]) = false := by rw [q4]; decide
    have b2 : (head.toList == [105, 102]) = false := by rw [q4]; decide
    have b3 : (head.toList == [100, 111]) = false := by rw [q4]; decide
    have b4 : (head.toList == [102, 110]) = true := by rw [q4]; decide
    have b5 : (head.toList == [108, 101, 116]) = false := by rw [q4]; decide
    have HF : Hid (cform e xs head l env s = if 3 ≤ l.length then (if (chainR xs z1.toNat).2 then cnames e xs (chainR xs z1.toNat).1 (l.drop 2) env s else { s with how := 1 }) else { s with how := 1 }) := by
      unfold Hid cform isW wQuote wIf wFn wDo wLet
      rw [e1.out]
      simp [b1, b2, b3, b4, b5]
    clear q1 q2 q3 q4
    by_cases hn : 3 ≤ l.length
    · have hn' : (3 : Int) ≤ l.length := by omega
      obtain ⟨n1, rfl, ln1, ce1, en1⟩ := el1.out (by omega)
      rw [if_pos hn, Int.toNat_natCast] at HF
      have hc1 := at1.out w (CF.refl _ _) (by omega)
      have hn1 : (1 : Int) < l.length := by omega
      have R := NRow.of_own h2.pool (by omega) HPS.2
      obtain ⟨ap, cp, rfl⟩ := own_form h2.pool
      have hgl := World.block_lt_of_cell? _ _ hc1
      go_wp2_with fail
      go_region_held (fun w' => w'.cell? ⟨M, 0, none⟩ = some (.slice ap xs.length cp) ∧ w'.cell? ⟨g, o + 1, none⟩ = some (.int .i64 n1)) (first | exact ⟨d0, d1⟩ | go_keep) (first
        | (go_at_call 120; refine (slistof_in ap cp xs n1 _ ?_ hp ln1).mono ?_; exact R.below (Below.refl _ _).drew; rintro r w1 ⟨v1, rfl, ho1, hb1⟩; have hb01 : Below w.heap.size w w1 := (Below.refl _ _).drew.trans hb1; have d0 := (hb01.cell (p := ⟨M, 0, none⟩) h2.lt).trans c0; have d1 := (hb01.cell (p := ⟨g, o + 1, none⟩) hgl).trans hc1))
      have k1 := h.on hb01
      have f1 := CF.of_below (M := M) hb01 h.lt
      have h21 := h2.on hb01
      have T1 := TRow.of_own ho1
      obtain ⟨_, _, _, c31, _, _, f31⟩ := h21.cells
      clear c3 f3 d0 d1 R hc1
      cases hch : (chainR xs n1).2 with
      | false =>
        have HR : Hid (cform e xs head l env s = { s with how := 1 }) := by unfold Hid; rw [HF.out, hch]; rfl
        obtain ⟨kb1, fb1⟩ := h21.wrong 1 (by decide) { s with how := 1 } rfl
        clear HF
        go_wp2_with fail
        exact bodyPost_ret (results_none rfl _ _ _) rfl ⟨rfl, by rw [HR.out]; exact kb1, f1.trans fb1⟩
      | true =>
        have HF2 : Hid (cform e xs head l env s = cnames e xs (chainR xs n1).1 (l.drop 2) env s) := by unfold Hid; rw [HF.out, hch]; rfl
        have hmem := chainR_mem hp n1
        generalize (chainR xs n1).1 = args at *
        clear HF
        go_wp2_with fail
        refine (s4names_any xs M d s _ args _ k1 HH.out T1 (fun z hz => by obtain ⟨k, e, hk⟩ := hmem z hz; exact ⟨k, e, by omega⟩)).mono ?_
        rintro r w2 ⟨v2, ys, rfl, S2, hy4, hys, k2, f2⟩
        have f2' := f1.trans f2
        have hT2 := (f2'.trow' h HT.out).drop 2 (by omega)
        have hl30 : env.length ≤ 3000 := by omega
        have hn2 : (2 : Int) ≤ l.length := by omega
        go_wp2_with fail
        refine (s4fun_any xs M d e ys _ (l.drop 2) _ _ env _ w2 k2 S2 hT2 (f2'.erow' h HE.out) hm hl30 (fun z hz => by
          obtain ⟨k, rfl, _, hc, hb⟩ := HE2.out z (List.mem_of_mem_drop hz)
          exact ⟨hc, by simp; omega⟩)).mono ?_
        rintro r w3 ⟨rfl, k3, f3⟩
        have HR : Hid (cform e xs head l env s = cfun e ys (l.drop 2) env ⟨s.list, s.defs, namesHow xs args⟩) := by
          unfold Hid
          rw [HF2.out]
          unfold cnames
          by_cases hnh : namesHow xs args = 0
          · have hs : s = ⟨s.list, s.defs, 0⟩ := by
              have := HH.out
              obtain ⟨a, b, c⟩ := s
              dsimp only at this ⊢
              rw [this]
            rw [if_pos hnh, hys hnh, hnh, ← hs]
          · rw [if_neg hnh, cfun_stay _ _ _ _ _ (by exact hnh)]
        go_wp2_with fail
        go_end0
        exact ⟨rfl, by rw [HR.out]; exact k3, f2'.trans f3⟩
    · have HR : Hid (cform e xs head l env s = sb) := by unfold Hid; rw [HF.out, if_neg hn, esb]
      have hn' : ¬ (3 : Int) ≤ l.length := by omega
      have hn2 : decide ((3 : Int) ≤ l.length) = false := by simp; omega
      clear HF
      go_wp2_with fail
      go_end0
      exact ⟨rfl, by rw [HR.out]; exact kb, fb⟩
  by_cases q5 : head.toList = [108, 101, 116]
  · have b1 : (head.toList == [113, 117, 111, 116, 101]) = false := by rw [q5]; decide
    have b2 : (head.toList == [105, 102]) = false := by rw [q5]; decide
    have b3 : (head.toList == [100, 111]) = false := by rw [q5]; decide
    have b4 : (head.toList == [102, 110]) = false := by rw [q5]; decide
    have b5 : (head.toList == [108, 101, 116]) = true := by rw [q5]; decide
    have HF : Hid (cform e xs head l env s = if 4 ≤ l.length then (if namesHow xs [z1] = 0 then (e z2 env (cfun e (nameL xs [z1]) (l.drop 3) env s)).emit (ins 7 0 1) else { s with how := namesHow xs [z1] }) else { s with how := 1 }) := by
      unfold Hid cform isW wQuote wIf wFn wDo wLet
      rw [e1.out, e2.out]
      simp [b1, b2, b3, b4, b5]
    clear q1 q2 q3 q4 q5
    by_cases hn : 4 ≤ l.length
    · have hn' : (4 : Int) ≤ l.length := by omega
      obtain ⟨n1, rfl, ln1, ce1, en1⟩ := el1.out (by omega)
      obtain ⟨n2, rfl, ln2, ce2, en2⟩ := el2.out (by omega)
      rw [if_pos hn] at HF
      have T1 := HT.out.one 1 (by omega)
      rw [e1.out] at T1
      have hn2' : (2 : Int) ≤ l.length := by omega
      go_wp2_with fail
      refine (s4names_any xs M d s _ [(n1 : Int)] _ h HH.out T1 (fun z hz => by rw [List.mem_singleton] at hz; exact ⟨n1, hz, ln1⟩)).mono ?_
      rintro r w2 ⟨v2, ys, rfl, S2, hy4, hys, k2, f2'⟩
      have hT2 := (f2'.trow' h HT.out).drop 3 (by omega)
      have hl30 : env.length ≤ 3000 := by omega
      have hn3 : (3 : Int) ≤ l.length := by omega
      clear c3 f3
      go_wp2_with fail
      refine (s4fun_any xs M d e ys _ (l.drop 3) _ _ env _ w2 k2 S2 hT2 (f2'.erow' h HE.out) hm hl30 (fun z hz => by
        obtain ⟨k, rfl, _, hc, hb⟩ := HE2.out z (List.mem_of_mem_drop hz)
        exact ⟨hc, by simp; omega⟩)).mono ?_
      rintro r w3 ⟨rfl, k3, f3⟩
      have f3' := f2'.trans f3
      have hc2 := at2.out w3 f3' (by omega)
      have hn22 : (2 : Int) < l.length := by omega
      go_wp2_with fail
      refine (ce2 _ env _ w3 k3 (f3'.erow' h HE.out) (by simp; omega)).mono ?_
      rintro r w4 ⟨rfl, k4, f4⟩
      go_wp2_with fail
      refine (semit_any xs M d _ (ins 7 0 1) _ k4).mono ?_
      rintro r w5 ⟨rfl, k5, f5⟩
      have HR : Hid (cform e xs head l env s = (e n2 env (cfun e ys (l.drop 3) env ⟨s.list, s.defs, namesHow xs [(n1 : Int)]⟩)).emit (ins 7 0 1)) := by
        unfold Hid
        rw [HF.out]
        by_cases hnh : namesHow xs [(n1 : Int)] = 0
        · have hs : s = ⟨s.list, s.defs, 0⟩ := by
            have := HH.out
            obtain ⟨a, b, c⟩ := s
            dsimp only at this ⊢
            rw [this]
          rw [if_pos hnh, hys hnh, hnh, ← hs]
        · rw [if_neg hnh, cfun_stay _ _ _ _ _ (by exact hnh), hst _ _ _ (by exact hnh), emit_stay _ _ (by exact hnh)]
      go_wp2_with fail
      go_end0
      exact ⟨rfl, by rw [HR.out]; exact k5, (f3'.trans f4).trans f5⟩
    · have HR : Hid (cform e xs head l env s = sb) := by unfold Hid; rw [HF.out, if_neg hn, esb]
      have hn' : ¬ (4 : Int) ≤ l.length := by omega
      have hn2 : decide ((4 : Int) ≤ l.length) = false := by simp; omega
      clear HF
      go_wp2_with fail
      go_end0
      exact ⟨rfl, by rw [HR.out]; exact kb, fb⟩
  have b1 : (head.toList == [113, 117, 111, 116, 101]) = false := by simpa using q1
  have b2 : (head.toList == [105, 102]) = false := by simpa using q2
  have b3 : (head.toList == [100, 111]) = false := by simpa using q3
  have b4 : (head.toList == [102, 110]) = false := by simpa using q4
  have b5 : (head.toList == [108, 101, 116]) = false := by simpa using q5
  have HR : Hid (cform e xs head l env s = sb) := by
    unfold Hid cform isW wQuote wIf wFn wDo wLet
    rw [esb]
    simp [b1, b2, b3, b4, b5]
  clear q1 q2 q3 q4 q5
  go_wp2_with fail
  go_end0
  exact ⟨rfl, by rw [HR.out]; exact kb, fb⟩
end Go.Proofs.Ytacbhbmjhlgflaa

/-
  The contract of spec's l4Expr. No condition beyond the compiler's memory, and that the value is there.
-/
namespace Go.Proofs.Ytacbhbmjhlgflaa
open Go.RowKit

theorem cexp_stay (xs : List Nd) : ∀ f, Stay (cexp xs f) := by
  intro f v env s h
  cases f with
  | zero => rfl
  | succ f => show cone _ _ _ _ _ = s; unfold cone; rw [if_neg h]
theorem chain_ne {xs : List Nd} {v : Nat} {x : Nd} (hx : xs[v]? = some x) (h5 : x.k = 5) (h : (chainR xs v).2 = true) : 0 < (chainR xs v).1.length := by
  unfold chainR at h ⊢
  cases hc : chain xs (v + 1) v [] with
  | none => rw [hc] at h; cases h
  | some l =>
    rw [chain, hx] at hc
    dsimp only at hc
    rw [if_pos h5] at hc
    have grow : ∀ (f j : Nat) (acc l : List Int), chain xs f j acc = some l → acc.length ≤ l.length := by
      intro f
      induction f with
      | zero => intro j acc l h; simp [chain] at h
      | succ f ih =>
        intro j acc l h
        rw [chain] at h
        cases hy : xs[j]? with
        | none => rw [hy] at h; cases h
        | some y =>
          rw [hy] at h
          dsimp only at h
          split at h
          · have := ih _ _ _ h; simp at this; omega
          · split at h
            · cases h; exact Nat.le_refl _
            · cases h
    have := grow _ _ _ _ hc
    simp at this
    show 0 < l.length
    omega

set_option maxRecDepth 100000 in
set_option maxHeartbeats 6400000 in
theorem s4expr_any (xs : List Nd) (hp : poolB xs = true) (M d : Nat) : ∀ (v : Nat), v < xs.length → ∀ f, v < f → CE xs M d (cexp xs f) v := by
  intro v
  induction v using Nat.strongRecOn with
  | _ v ih =>
  intro hv f hf
  obtain ⟨f, rfl⟩ : ∃ f', f = f' + 1 := ⟨f - 1, by omega⟩
  have ih' : ∀ (n : Nat), n < v → CE xs M d (cexp xs f) n := fun n hn => ih n hn (by omega) f (by omega)
  have HI : Hid (∀ (n : Nat), n < v → CE xs M d (cexp xs f) n) := ih'
  clear ih ih'
  have hmono := cexp_mono xs f
  have hstay := cexp_stay xs f
  intro s env ev w h E hlen
  rw [Int.toNat_natCast] at hlen
  obtain ⟨x, hx⟩ : ∃ x, xs[v]? = some x := ⟨xs[v], by simp [hv]⟩
  have hnd : ndAt xs (v : Int) = x := ndAt_some hx
  have HC : Hid (cexp xs (f + 1) v env s = cone (cexp xs f) xs v env s) := rfl
  have HX : Hid (xs[v]? = some x) := hx
  obtain ⟨ae, ce, rfl⟩ := E.form
  have HE : Hid (ERow w (.slice ae env.length ce) env) := E
  clear E
  have hk0 := h
  obtain ⟨pv, lv, dv, L, D, h2⟩ := hk0
  have hM := h2.lt
  obtain ⟨c0, _, _, c3, _, _, f3⟩ := h2.cells
  have HPS := pool_s2 hp
  go_enter Try.func128, Try.ntmps128
  by_cases h0 : s.how = 0
  · rw [h0] at c3
    have HH : Hid (s.how = 0) := h0
    obtain ⟨g, cap, rfl, hg, d0, d1, d2, d3, d4⟩ := own_node h2.pool v x hx
    have hv' : (v : Int) < xs.length := by omega
    have hgn : g ≠ w.heap.size := by omega
    have hB0 : Below w.heap.size w (w.alloc (.cells #[.int .i64 x.k, .int .i64 x.n, .string x.s, .int .i64 x.a, .int .i64 x.b] 63)) := (Below.refl _ _).alloc (Nat.le_refl _) _
    have hbx : (w.alloc (.cells #[.int .i64 x.k, .int .i64 x.n, .string x.s, .int .i64 x.a, .int .i64 x.b] 63)).heap[w.heap.size]? = some (.cells #[.int .i64 x.k, .int .i64 x.n, .string x.s, .int .i64 x.a, .int .i64 x.b] 63 (0, 0)) := heap_alloc_new w _
    have HC2 : Hid (cexp xs (f + 1) v env s = (if x.k = 1 ∨ x.k = 2 ∨ x.k = 3 then s.emit (ins 1 v 0)
     else if x.k = 4 then (if rsv x.s then { s with how := 1 } else match findV env x.s 0 with
       | some (n, i) => s.emit (ins 2 n i)
       | none => s.emit ⟨3, 0, 0, x.s⟩)
     else if x.k = 5 then (if (chainR xs v).2 then
        (if (ndAt xs ((chainR xs v).1.getD 0 0)).k = 4 ∧ rsv (ndAt xs ((chainR xs v).1.getD 0 0)).s then cform (cexp xs f) xs (ndAt xs ((chainR xs v).1.getD 0 0)).s (chainR xs v).1 env s else if 5 < (chainR xs v).1.length then { s with how := 1 } else ccall (cexp xs f) (chainR xs v).1 env s)
       else { s with how := 1 })
     else { s with how := 1 })) := by
      unfold Hid
      rw [HC.out]
      unfold cone
      rw [if_pos HH.out, hnd, Int.toNat_natCast]
      all_goals rfl
    have h1 := h2.on hB0
    have k1 := h.on hB0
    have f1 := CF.of_below (M := M) hB0 (by omega)
    have e0 : (w.alloc (.cells #[.int .i64 x.k, .int .i64 x.n, .string x.s, .int .i64 x.a, .int .i64 x.b] 63)).cell? ⟨w.heap.size, 0, none⟩ = some (.int .i64 x.k) := cell_of_row _ _ 0 _ _ _ hbx
    have e2 : (w.alloc (.cells #[.int .i64 x.k, .int .i64 x.n, .string x.s, .int .i64 x.a, .int .i64 x.b] 63)).cell? ⟨w.heap.size, 2, none⟩ = some (.string x.s) := cell_of_row _ _ 2 _ _ _ hbx
    have E1 := HE.out.below hB0
    clear HC h0 hnd hx
    go_upto_region 2 with fail
    generalize w.alloc (.cells #[.int .i64 x.k, .int .i64 x.n, .string x.s, .int .i64 x.a, .int .i64 x.b] 63) = w1 at *
    obtain ⟨c10, _, _, c13, _, _, f13⟩ := h1.cells
    rw [HH.out] at c13
    clear c0 c3 f3 d0 d1 d2 d3 d4
    obtain ⟨sb, esb, kb, fb⟩ : ∃ (s' : CS), s' = { s with how := 1 } ∧ Mk xs M d (w1.setCell ⟨M, 3, none⟩ (.int .i64 1)) s' ∧ CF M w1 (w1.setCell ⟨M, 3, none⟩ (.int .i64 1)) := ⟨_, rfl, h1.wrong 1 (by decide) _ rfl⟩
    by_cases h123 : x.k = 1 ∨ x.k = 2 ∨ x.k = 3
    · have HR : Hid (cexp xs (f + 1) v env s = s.emit (ins 1 v 0)) := by unfold Hid; rw [HC2.out, if_pos h123]
      clear HC2
      rcases h123 with hk | hk | hk
      all_goals
        go_wp2_with fail
        refine (semit_any xs M d s (ins 1 v 0) _ k1).mono ?_
        rintro r w3 ⟨rfl, k3, f3⟩
        go_wp2_with fail
        exact bodyPost_ret (results_none rfl _ _ _) rfl ⟨rfl, by rw [HR.out]; exact k3, f1.trans f3⟩
    · rw [if_neg h123] at HC2
      have n1 : (x.k == 1) = false := by simp; omega
      have n2 : (x.k == 2) = false := by simp; omega
      have n3 : (x.k == 3) = false := by simp; omega
      have n1' : ¬ x.k = 1 := by omega
      have n2' : ¬ x.k = 2 := by omega
      have n3' : ¬ x.k = 3 := by omega
      clear h123
      by_cases h4 : x.k = 4
      · rw [if_pos h4] at HC2
        clear n1 n2 n3 n1' n2' n3'
        go_wp2_with fail
        refine (srsv_any x.s _).mono ?_
        rintro r w2 ⟨rfl, rfl⟩
        cases hr : rsv x.s with
        | true =>
          have HR : Hid (cexp xs (f + 1) v env s = sb) := by unfold Hid; rw [HC2.out, hr, esb]; rfl
          clear HC2
          go_wp2_with fail
          exact bodyPost_ret (results_none rfl _ _ _) rfl ⟨rfl, by rw [HR.out]; exact kb, f1.trans fb⟩
        | false =>
          rw [hr] at HC2
          go_wp2_with fail
          refine (s4var_any env _ x.s _ E1).mono ?_
          rintro r w2 ⟨rfl, rfl⟩
          cases hf2 : findV env x.s 0 with
          | none =>
            have HR : Hid (cexp xs (f + 1) v env s = s.emit ⟨3, 0, 0, x.s⟩) := by unfold Hid; rw [HC2.out, hf2]; rfl
            clear HC2
            unfold varV
            go_wp2_with fail
            refine (semit_any xs M d s ⟨3, 0, 0, x.s⟩ _ k1).mono ?_
            rintro r w3 ⟨rfl, k3, f3⟩
            go_wp2_with fail
            exact bodyPost_ret (results_none rfl _ _ _) rfl ⟨rfl, by rw [HR.out]; exact k3, f1.trans f3⟩
          | some ni =>
            obtain ⟨n, i⟩ := ni
            have HR : Hid (cexp xs (f + 1) v env s = s.emit (ins 2 n i)) := by unfold Hid; rw [HC2.out, hf2]; rfl
            clear HC2
            have hn0 : (0 : Int) ≤ n := by omega
            unfold varV
            go_wp2_with fail
            refine (semit_any xs M d s (ins 2 n i) _ k1).mono ?_
            rintro r w3 ⟨rfl, k3, f3⟩
            go_wp2_with fail
            exact bodyPost_ret (results_none rfl _ _ _) rfl ⟨rfl, by rw [HR.out]; exact k3, f1.trans f3⟩
      · rw [if_neg h4] at HC2
        have n4 : (x.k == 4) = false := by simp; omega
        by_cases h5 : x.k = 5
        · rw [if_pos h5] at HC2
          clear n1 n2 n3 n4 n1' n2' n3' h4
          have R1 := NRow.of_own h1.pool (by omega) HPS.2
          go_wp2_with fail
          refine (slistof_in _ _ xs v _ R1 hp hv).mono ?_
          rintro r w2 ⟨v2, rfl, ho2, hb2⟩
          have k2 := k1.on hb2
          have h12 := h1.on hb2
          have f2 := f1.trans (CF.of_below (M := M) hb2 k1.lt)
          have T2 := TRow.of_own ho2
          have E2 := E1.below hb2
          have hmem := chainR_mem hp v
          have hcn : (chainR xs v).2 = true → 0 < (chainR xs v).1.length := chain_ne HX.out h5
          obtain ⟨c20, _, _, c23, _, _, f23⟩ := h12.cells
          rw [HH.out] at c23
          cases hch : (chainR xs v).2 with
          | false =>
            have HR : Hid (cexp xs (f + 1) v env s = { s with how := 1 }) := by unfold Hid; rw [HC2.out, hch]; rfl
            obtain ⟨kb1, fb1⟩ := h12.wrong 1 (by decide) { s with how := 1 } rfl
            clear HC2 hmem hcn
            go_wp2_with fail
            exact bodyPost_ret (results_none rfl _ _ _) rfl ⟨rfl, by rw [HR.out]; exact kb1, f2.trans fb1⟩
          | true =>
            have hl0 := hcn hch
            rw [hch] at HC2
            have HM : Hid (∀ z ∈ (chainR xs v).1, ∃ n : Nat, z = n ∧ n < v) := hmem
            clear hcn hch hmem
            generalize (chainR xs v).1 = l at *
            obtain ⟨al, cl, rfl, hlc, hcm⟩ := T2.form
            obtain ⟨gl, ol, rfl, hgl, hc0⟩ := T2.cell 0 hl0
            obtain ⟨n0, hn0, hn0v⟩ := HM.out (l.getD 0 0) (by rw [List.getD_eq_getElem?_getD, List.getElem?_eq_getElem hl0]; exact List.getElem_mem _)
            rw [hn0, Nat.add_zero] at hc0
            obtain ⟨y, hy⟩ : ∃ y, xs[n0]? = some y := ⟨xs[n0]'(by omega), by simp [show n0 < xs.length by omega]⟩
            have hyn : ndAt xs (l.getD 0 0) = y := by rw [hn0]; exact ndAt_some hy
            obtain ⟨g', cap', eg, hg', d0, d1, d2, d3, d4⟩ := own_node h12.pool n0 y hy
            simp only [Value.slice.injEq, Option.some.injEq, Addr.mk.injEq, and_true, true_and] at eg
            obtain ⟨rfl, rfl⟩ := eg
            rw [hyn] at HC2
            have hn0' : (n0 : Int) < xs.length := by omega
            have hl0' : (0 : Int) < l.length := by omega
            have HT2 : Hid (TRow w2 (.slice (some ⟨gl, ol, none⟩) l.length cl) l) := T2
            have HE2 : Hid (ERow w2 (.slice ae env.length ce) env) := E2
            clear T2 E2 E1 hn0 hyn hy c10 c13 f13 kb fb ho2
            have q1 := World.new_ne w2 _ hc0
            have q2 := World.new_ne w2 _ c20
            have q3 := World.new_ne w2 _ d0
            dsimp only at q1 q2 q3
            go_wp2_with fail
            go_region_held (fun w' => w'.cell? ⟨M, 0, none⟩ = some (.slice (some ⟨g, 0, none⟩) xs.length cap) ∧ w'.cell? ⟨gl, ol, none⟩ = some (.int .i64 n0) ∧ w'.cell? ⟨g, n0 * 5, none⟩ = some (.int .i64 y.k) ∧ w'.cell? ⟨g, n0 * 5 + 1, none⟩ = some (.int .i64 y.n) ∧ w'.cell? ⟨g, n0 * 5 + 2, none⟩ = some (.string y.s) ∧ w'.cell? ⟨g, n0 * 5 + 3, none⟩ = some (.int .i64 y.a) ∧ w'.cell? ⟨g, n0 * 5 + 4, none⟩ = some (.int .i64 y.b)) (go_keep) (fail)
            have hB3 : Below w2.heap.size w2 (w2.alloc (Obj.cells #[.int .i64 y.k, .int .i64 y.n, .string y.s, .int .i64 y.a, .int .i64 y.b] 63)).drew := ((Below.refl _ _).alloc (Nat.le_refl _) _).drew
            have hby : (w2.alloc (Obj.cells #[.int .i64 y.k, .int .i64 y.n, .string y.s, .int .i64 y.a, .int .i64 y.b] 63)).drew.heap[w2.heap.size]? = some (.cells #[.int .i64 y.k, .int .i64 y.n, .string y.s, .int .i64 y.a, .int .i64 y.b] 63 (0, 0)) := heap_alloc_new w2 _
            go_upto_region 20 with fail
            generalize (w2.alloc (Obj.cells #[.int .i64 y.k, .int .i64 y.n, .string y.s, .int .i64 y.a, .int .i64 y.b] 63)).drew = w3 at hB3 hby ⊢
            have a0 : w3.cell? ⟨w2.heap.size, 0, none⟩ = some (.int .i64 y.k) := cell_of_row _ _ 0 _ _ _ hby
            have a2 : w3.cell? ⟨w2.heap.size, 2, none⟩ = some (.string y.s) := cell_of_row _ _ 2 _ _ _ hby
            have k3 := k2.on hB3
            have h13 := h12.on hB3
            have f3 := f2.trans (CF.of_below (M := M) hB3 k2.lt)
            have HT3 : Hid (TRow w3 (.slice (some ⟨gl, ol, none⟩) l.length cl) l) := HT2.out.below hB3
            have HE3 : Hid (ERow w3 (.slice ae env.length ce) env) := HE2.out.below hB3
            clear c20 c23 f23 d0 d1 d2 d3 d4 hc0 h12 k2 f2 hB3 hby hb2
            go_cut [100] from 13 (fun s100 wx => s100 = .bool (decide (y.k = 4) && rsv y.s) ∧ wx = w3)
            case first =>
              by_cases y4 : y.k = 4
              · go_wp2_with fail
                refine (srsv_any y.s _).mono ?_
                rintro r w9 ⟨rfl, rfl⟩
                go_wp2_with fail
                go_meet
                case rel => exact ⟨by simp [y4], rfl⟩
              · have yb : (y.k == 4) = false := by simpa using y4
                go_wp2_with fail
                go_meet
                case rel => exact ⟨by simp [y4], rfl⟩
            case rest =>
              obtain ⟨rfl, rfl⟩ := hcut
              obtain ⟨_, _, _, c33, _, _, f33⟩ := h13.cells
              rw [HH.out] at c33
              cases hb : (decide (y.k = 4) && rsv y.s) with
              | true =>
                have hyy : y.k = 4 ∧ rsv y.s = true := by simpa using hb
                have HR : Hid (cexp xs (f + 1) v env s = cform (cexp xs f) xs y.s l env s) := by unfold Hid; rw [HC2.out, if_pos trivial, if_pos hyy]
                clear HC2 hyy a0
                go_wp2_with fail
                refine (s4form_any xs hp M d (cexp xs f) hmono hstay y.s l _ s env _ wc k3 HH.out HT3.out HE3.out (fun z hz => by
                  obtain ⟨n, e, hn⟩ := HM.out z hz
                  exact ⟨n, e, by omega, HI.out n hn, by omega⟩) hl0).mono ?_
                rintro r w4 ⟨rfl, k4, f4⟩
                go_wp2_with fail
                exact bodyPost_ret (results_none rfl _ _ _) rfl ⟨rfl, by rw [HR.out]; exact k4, f3.trans f4⟩
              | false =>
                have hyy : ¬ (y.k = 4 ∧ rsv y.s = true) := by
                  intro h
                  rw [h.2] at hb
                  simp [h.1] at hb
                have HR : Hid (cexp xs (f + 1) v env s = if 5 < l.length then { s with how := 1 } else ccall (cexp xs f) l env s) := by unfold Hid; rw [HC2.out, if_pos trivial, if_neg hyy]
                clear HC2 hyy a0 a2
                by_cases h5l : 5 < l.length
                · have HR2 : Hid (cexp xs (f + 1) v env s = { s with how := 1 }) := by unfold Hid; rw [HR.out, if_pos h5l]
                  obtain ⟨kb1, fb1⟩ := h13.wrong 1 (by decide) { s with how := 1 } rfl
                  have h5l' : (5 : Int) < l.length := by omega
                  clear HR
                  go_wp2_with fail
                  exact bodyPost_ret (results_none rfl _ _ _) rfl ⟨rfl, by rw [HR2.out]; exact kb1, f3.trans fb1⟩
                · have HR2 : Hid (cexp xs (f + 1) v env s = ccall (cexp xs f) l env s) := by unfold Hid; rw [HR.out, if_neg h5l]
                  have h5l' : ¬ (5 : Int) < l.length := by omega
                  clear HR c33 f33 h13
                  go_wp2_with fail
                  go_loopw [12] (fun i wr => ∃ (k : Nat) (sk : CS), k ≤ l.length ∧ i = .int .i64 k ∧ Mk xs M d wr sk ∧ CF M w wr ∧ CF M wc wr ∧ Hid (l.foldl (fun s u => cexp xs f u env s) s = (l.drop k).foldl (fun s u => cexp xs f u env s) sk)) (fun i _ => l.length - (intOf i).toNat)
                  case atStart => exact ⟨0, s, by omega, rfl, k3, f3, CF.refl _ _, rfl⟩
                  case round =>
                    obtain ⟨k, sk, hkl, rfl, kr, fr, fr2, HK⟩ := hrel
                    by_cases hlt : k < l.length
                    · obtain ⟨z, hz⟩ : ∃ z, l[k]? = some z := ⟨l[k], by simp [hlt]⟩
                      obtain ⟨n, rfl, hn⟩ := HM.out z (List.mem_of_getElem? hz)
                      have HD : Hid (l.foldl (fun s u => cexp xs f u env s) s = (l.drop (k + 1)).foldl (fun s u => cexp xs f u env s) (cexp xs f n env sk)) := by
                        obtain ⟨hl, he⟩ := List.getElem?_eq_some_iff.1 hz
                        unfold Hid
                        rw [HK.out, List.drop_eq_getElem_cons hl, he]
                        rfl
                      obtain ⟨g2, o2, e2', _, hc⟩ := (fr2.trow' k3 HT3.out).cell k hlt
                      simp only [Option.some.injEq, Addr.mk.injEq, and_true] at e2'
                      obtain ⟨rfl, rfl⟩ := e2'
                      rw [show l.getD k 0 = (n : Int) by rw [List.getD_eq_getElem?_getD, hz]; rfl] at hc
                      have hlt' : (k : Int) < l.length := by omega
                      clear hz HK
                      go_wp2_with fail
                      refine (HI.out n hn sk env _ wr kr (fr2.erow' k3 HE3.out) (by rw [Int.toNat_natCast]; omega)).mono ?_
                      rintro r w5 ⟨rfl, k5, f5⟩
                      have f5' := fr.trans f5
                      have f5'' := fr2.trans f5
                      go_wp2_with fail
                      go_roundw
                      case rel => exact ⟨k + 1, _, by omega, by go_num, k5, f5', f5'', HD⟩
                      case measure => simp [intOf]; omega
                    · have hlt' : ¬ (k : Int) < l.length := by omega
                      have HK2 : Hid (l.foldl (fun s u => cexp xs f u env s) s = sk) := by unfold Hid; rw [HK.out, List.drop_eq_nil_of_le (by omega)]; rfl
                      go_wp2_with fail
                      refine (semit_any xs M d sk (ins 7 0 ((l.length : Int) - 1)) _ kr).mono ?_
                      rintro r w5 ⟨rfl, k5, f5⟩
                      go_wp2_with fail
                      go_end0
                      exact ⟨rfl, by rw [HR2.out]; unfold ccall; rw [HK2.out]; exact k5, fr.trans f5⟩
        · have HR : Hid (cexp xs (f + 1) v env s = sb) := by unfold Hid; rw [HC2.out, if_neg h5, esb]
          have n5 : (x.k == 5) = false := by simp; omega
          clear HC2
          go_wp2_with fail
          exact bodyPost_ret (results_none rfl _ _ _) rfl ⟨rfl, by rw [HR.out]; exact kb, f1.trans fb⟩
  · have HR : Hid (cexp xs (f + 1) v env s = s) := cexp_stay xs (f + 1) _ _ _ h0
    have hb1 : (s.how == 0) = false := by simpa using h0
    go_wp2_with fail
    exact bodyPost_ret (results_none rfl _ _ _) rfl ⟨rfl, by rw [HR.out]; exact h, CF.refl _ _⟩
end Go.Proofs.Ytacbhbmjhlgflaa

/-
  The contract of spec's l4Define. No condition beyond the compiler's memory, and that the values are there.
-/
namespace Go.Proofs.Ytacbhbmjhlgflaa
open Go.RowKit

theorem dfIdx_none (ds : List Df) (s : ByteArray) (i : Nat) (h : ds.length ≤ i) : dfIdx (ds.drop i) s i = -1 := by
  rw [List.drop_eq_nil_of_le h]
  rfl
theorem Mk.how {xs : List Nd} {M d : Nat} {w : World} {s : CS} (h : Mk xs M d w s) (s' : CS) (h1 : s'.how = s.how) (h2 : ¬ s.how = 0) : Mk xs M d w s' := by
  obtain ⟨pv, lv, dv, L, D, h⟩ := h
  exact ⟨pv, lv, dv, L, D, h.same_how s' h1 (fun e => absurd (h1.symm.trans e) h2)⟩
theorem Mk.wide {xs : List Nd} {M d d' : Nat} {w : World} {s : CS} (h : Mk xs M d w s) (hd : d ≤ d') : Mk xs M d' w s := by
  obtain ⟨pv, lv, dv, L, D, h⟩ := h
  exact ⟨pv, lv, dv, L, D, h.blk, h.pool, h.list, h.defs, h.same, h.len, by have := h.many; omega⟩

def cdef (e : Ex) (name : ByteArray) (names : List ByteArray) (body : List Int) (s : CS) : CS := if s.how = 0 then cdefine e name names body s else s

set_option maxRecDepth 100000 in
set_option maxHeartbeats 6400000 in
theorem s4define_any (xs : List Nd) (M d : Nat) (hd : d ≤ 2097152) (e : Ex) (name : ByteArray) (names : List ByteArray) (nv : Value) (body : List Int) (bv : Value) (s : CS) (w : World) (h : Mk xs M d w s) (N : SRow w nv names) (T : TRow w bv body)
    (hE : ∀ z ∈ body, CE xs M (d + 1) e z ∧ 1 + z.toNat ≤ 3001) :
    Calls Try.prog 121 #[.pointer (some ⟨M, 0, none⟩), .string name, nv, bv] w fun r w' => r = .returned (.tuple #[]) ∧ Mk xs M (d + 1) w' (cdef e name names body s) ∧ CF M w w' := by
  obtain ⟨i0, hi, hz0, hz1, hz2⟩ := info_parts Try.infoDf
  obtain ⟨ab, cb, rfl, hbc, hcm⟩ := T.form
  obtain ⟨an, cn, rfl⟩ := N.form
  have HT : Hid (TRow w (.slice ab body.length cb) body) := T
  have HN : Hid (SRow w (.slice an names.length cn) names) := N
  have HE : Hid (∀ z ∈ body, CE xs M (d + 1) e z ∧ 1 + z.toNat ≤ 3001) := hE
  have hnl := own_max N
  clear T N hE
  go_enter Try.func121, Try.ntmps121
  go_wp2_with fail
  go_loopw [8] (fun i wr => ∃ (k : Nat) (hw : Int), k ≤ d + 1 ∧ i = .int .i64 k ∧ Mk xs M d wr ⟨s.list, s.defs, hw⟩ ∧ CF M w wr ∧ Hid ((hw = 0 ∧ s.how = 0 ∧ k ≤ s.defs.length ∧ dfIdx s.defs name 0 = dfIdx (s.defs.drop k) name k) ∨ (hw ≠ 0 ∧ hw = (if s.how = 0 then 2 else s.how) ∧ (s.how = 0 → 0 ≤ dfIdx s.defs name 0)))) (fun i _ => d + 2 - (intOf i).toNat)
  case atStart =>
    refine ⟨0, s.how, by omega, rfl, h, CF.refl _ _, ?_⟩
    by_cases h0 : s.how = 0
    · exact .inl ⟨h0, h0, by omega, rfl⟩
    · exact .inr ⟨h0, by rw [if_neg h0], fun e => absurd e h0⟩
  case round =>
    obtain ⟨k, hw, hkd, rfl, hkr, hfr, HH⟩ := hrel
    have hkr0 := hkr
    obtain ⟨pv, lv, dv, L, D, h2⟩ := hkr
    have hM := h2.lt
    have hmany := h2.many
    have hlen := h2.len
    obtain ⟨al, ql, rfl⟩ := own_form h2.list
    obtain ⟨ad, qd, rfl⟩ := own_form h2.defs
    obtain ⟨_, c1, c2, c3, _, f2, f3⟩ := h2.cells
    dsimp only at c3
    by_cases go : k < D.length ∧ hw = 0
    · obtain ⟨hkD, rfl⟩ := go
      obtain ⟨rfl, rfl⟩ := h2.same rfl
      obtain ⟨h0, hks, hix⟩ : s.how = 0 ∧ k ≤ s.defs.length ∧ dfIdx s.defs name 0 = dfIdx (s.defs.drop k) name k := by
        rcases HH.out with h | h
        · exact h.2
        · exact absurd rfl h.1
      obtain ⟨dk, hdk⟩ : ∃ x, s.defs[k]? = some x := ⟨s.defs[k], by simp [hkD]⟩
      obtain ⟨g, rfl, hg⟩ : ∃ g, ad = some ⟨g, 0, none⟩ ∧ M + 1 ≤ g := by
        rcases h2.defs.2 with ⟨_, h0⟩ | ⟨g, cap, cur, e, hB, hg, _⟩
        · have : s.defs.length = 0 := h0
          omega
        · simp only [Value.slice.injEq] at e
          exact ⟨g, e.1, hB⟩
      have hca := h2.defs.cellAt (k * 3 + 0) (by have : k < s.defs.length := hkD; omega)
      rw [dfcs_get s.defs k dk hdk 0 (by omega)] at hca
      have hcn : wr.cell? ⟨g, k * 3, none⟩ = some (.string dk.s) := hca
      have hkD' : (k : Int) < s.defs.length := by have : k < s.defs.length := hkD; omega
      clear hca
      cases he : (dk.s.toList == name.toList) with
      | true =>
        have HH2 : Hid (((2 : Int) = 0 ∧ s.how = 0 ∧ k + 1 ≤ s.defs.length ∧ dfIdx s.defs name 0 = dfIdx (s.defs.drop (k + 1)) name (k + 1)) ∨ ((2 : Int) ≠ 0 ∧ (2 : Int) = (if s.how = 0 then 2 else s.how) ∧ (s.how = 0 → 0 ≤ dfIdx s.defs name 0))) :=
          .inr ⟨by decide, by rw [if_pos h0], fun _ => by rw [hix, dfIdx_hit s.defs name k dk hdk he]; omega⟩
        obtain ⟨k1, k2⟩ := h2.wrong 2 (by decide) ⟨s.list, s.defs, 2⟩ rfl
        have f2' := hfr.trans k2
        clear HH hix hdk
        go_wp2_with fail
        go_roundw
        case rel => exact ⟨k + 1, 2, by omega, by go_num, k1, f2', HH2⟩
        case measure => simp [intOf]; omega
      | false =>
        have HH2 : Hid (((0 : Int) = 0 ∧ s.how = 0 ∧ k + 1 ≤ s.defs.length ∧ dfIdx s.defs name 0 = dfIdx (s.defs.drop (k + 1)) name (k + 1)) ∨ ((0 : Int) ≠ 0 ∧ (0 : Int) = (if s.how = 0 then 2 else s.how) ∧ (s.how = 0 → 0 ≤ dfIdx s.defs name 0))) :=
          .inl ⟨rfl, h0, hkD, by rw [hix, dfIdx_miss s.defs name k dk hdk he]⟩
        clear HH hix hdk
        go_wp2_with fail
        go_roundw
        case rel => exact ⟨k + 1, 0, by omega, by go_num, hkr0, hfr, HH2⟩
        case measure => simp [intOf]; omega
    · have HS : Hid ((hw = 0 → s.how = 0 ∧ dfIdx s.defs name 0 = -1) ∧ (hw ≠ 0 → hw = (if s.how = 0 then 2 else s.how) ∧ (s.how = 0 → 0 ≤ dfIdx s.defs name 0))) := by
        rcases HH.out with hq | hq
        · refine ⟨fun _ => ⟨hq.2.1, ?_⟩, fun e => absurd hq.1 e⟩
          have hD := (h2.same hq.1).2
          rw [hq.2.2.2]
          exact dfIdx_none s.defs name k (by
            have : ¬ k < D.length := fun hk => go ⟨hk, hq.1⟩
            rw [hD] at this
            have e : (⟨s.list, s.defs, hw⟩ : CS).defs.length = s.defs.length := rfl
            omega)
        · exact ⟨fun e => absurd e hq.1, fun _ => hq.2⟩
      have hsz : M ≠ wr.heap.size := by omega
      clear HH
      by_cases hkD : k < D.length
      case' pos =>
        have hkD' : (k : Int) < D.length := by omega
        have hw0 : ¬ hw = 0 := fun e => go ⟨hkD, e⟩
        have hwb : (hw == 0) = false := by simpa using hw0
      case' neg =>
        have hkD' : ¬ (k : Int) < D.length := by omega
      all_goals
        clear go
        go_wp2_with fail
        go_region_law (refine step_append_lies _ rfl _ _ 39 rfl (M + 1) 60 i0 _ 3 32 Try.underlying39 hi hz0 hz1 hz2 rfl (by decide) _ _ _ rfl (h2.defs.alloc _) ⟨wr.heap.size, 0, none⟩ 1 1 (dfcs [⟨name, L.length, names.length⟩]) rfl rfl (World.news_of_block (cs := #[.string name, .int .i64 L.length, .int .i64 names.length]) (t := 60) (fr := (0, 0)) (heap_alloc_new wr _)) (dfcs_one _) (by omega) (by unfold maxLen; omega) (by omega) (by simp; omega) (wr.heap.size + 1) (by simp) ?_; intro g capg w1 hown hgrow hat hgl; have hb1 : w1.heap[M]? = some (.cells #[pv, .slice al L.length ql, .slice ad D.length qd, .int .i64 hw] 160 (0, 0)) := (hgrow.block M (by simp; omega) (fun e => own_ne h2.defs h2.blk (by decide) e.symm)).trans ((heap_alloc_old _ _ hM).trans h2.blk); have kb1 : w1.cell? ⟨M, 0 + 2, none⟩ = some (.slice ad D.length qd) := cell_of_row w1 M 2 _ _ _ hb1; have fb1 : w1.frozen? ⟨M, 0 + 2, none⟩ = false := frozen_of_row w1 M 2 _ _ hb1)
        all_goals
          have hown2 : w1.ownsRow (M + 1) 60 3 (.slice (some ⟨g, 0, none⟩) (D.length + 1) capg) (D ++ [(⟨name, L.length, names.length⟩ : Df)]).length (dfcs (D ++ [(⟨name, L.length, names.length⟩ : Df)])) := by
            rw [dfcs_append, List.length_append]
            exact hown
          have hBx := ((Below.refl wr.heap.size wr).drew.alloc (Nat.le_refl _) (Obj.cells #[.string name, .int .i64 L.length, .int .i64 names.length] 60))
          obtain ⟨k1, k2⟩ := (h2.on hBx).putD hgrow hown2 (d' := d + 1) (by simp; omega) ⟨s.list, s.defs ++ [⟨name, s.list.length, names.length⟩], hw⟩ rfl (fun e => by
            obtain ⟨q1, q2⟩ := h2.same e
            dsimp only at q1 q2
            exact ⟨q1, by rw [q1, q2]⟩)
          have hF := hfr.trans ((CF.of_below (M := M) hBx (by omega)).trans k2)
          clear hown hgrow hat c1 c2 c3 f2 f3 kb1 fb1 hBx hb1 hown2 k2 h2 hkr0
          go_upto_region 6 with fail
          generalize w1.setCell ⟨M, 2, none⟩ (.slice (some ⟨g, 0, none⟩) (D.length + 1) capg) = w5 at *
          have hBe : Below w5.heap.size w5 (w5.alloc (Obj.cells #[.slice an names.length cn] 93)) := (Below.refl _ _).alloc (Nat.le_refl _) _
          have N5 := hF.srow' h HN.out
          have T5 := hF.trow' h HT.out
          have hl5 := own_lit w5 (.slice an names.length cn) 93 0 (Nat.zero_le _)
          have E5 : ERow (w5.alloc (Obj.cells #[.slice an names.length cn] 93)) (.slice (some ⟨w5.heap.size, 0, none⟩) 1 1) [names] := ⟨[.slice an names.length cn], hl5, fun i u hu => by
            have hi0 : i = 0 := by
              have := (List.getElem?_eq_some_iff.1 hu).1
              simp at this
              exact this
            subst hi0
            simp at hu
            subst hu
            exact ⟨rfl, own_below N5 hBe⟩⟩
          go_wp2_with fail
          refine (s4body_any xs M (d + 1) e body _ _ [names] _ _ (k1.on hBe) (T5.below hBe) E5 (fun z hz => ⟨(HE.out z hz).1, (HE.out z hz).2⟩)).mono ?_
          rintro r w6 ⟨rfl, k6, f6⟩
          go_wp2_with fail
          refine (semit_any xs M (d + 1) _ (ins 8 0 0) _ k6).mono ?_
          rintro r w7 ⟨rfl, k7, f7⟩
          go_wp2_with fail
          go_end0
          refine ⟨rfl, ?_, ((hF.trans (CF.of_below (M := M) hBe k1.lt)).trans f6).trans f7⟩
          unfold cdef
          by_cases hq : hw = 0
          · subst hq
            obtain ⟨q1, q2⟩ := HS.out.1 rfl
            rw [if_pos q1]
            unfold cdefine
            rw [q2, if_neg (by decide), q1]
            exact k7
          · obtain ⟨q1, q2⟩ := HS.out.2 hq
            unfold cbody at k7
            rw [cseq_stay e _ _ _ _ (by exact hq), emit_stay _ _ (by exact hq)] at k7
            refine Mk.how k7 _ ?_ (by exact hq)
            show _ = hw
            by_cases h0 : s.how = 0
            · rw [if_pos h0] at q1 ⊢
              unfold cdefine
              rw [if_pos (q2 h0)]
              exact q1.symm
            · rw [if_neg h0] at q1 ⊢
              exact q1.symm
end Go.Proofs.Ytacbhbmjhlgflaa

/-
  The contract of spec's l4Top. No condition beyond the compiler's memory, and that the value is there.
-/
namespace Go.Proofs.Ytacbhbmjhlgflaa
open Go.RowKit

set_option maxRecDepth 100000 in
set_option maxHeartbeats 6400000 in
theorem s4top_any (xs : List Nd) (hp : poolB xs = true) (M d : Nat) (hd : d ≤ 2097152) (v : Nat) (hv : v < xs.length) (s : CS) (w : World) (h : Mk xs M d w s) (h0 : s.how = 0) :
    Calls Try.prog 116 #[.pointer (some ⟨M, 0, none⟩), .int .i64 v] w fun r w' => r = .returned (.tuple #[]) ∧ Mk xs M (d + 1) w' (ctop xs v s) ∧ CF M w w' := by
  have HPS := pool_s2 hp
  have HEn : Hid (∀ n : Nat, n < xs.length → CE xs M (d + 1) (cexp xs xs.length) n) := fun n hn => s4expr_any xs hp M (d + 1) n hn xs.length hn
  have HEv : Hid (∀ z ∈ [(v : Int)], CE xs M (d + 1) (cexp xs xs.length) z ∧ 1 + z.toNat ≤ 3001) := fun z hz => by
    rw [List.mem_singleton] at hz
    subst hz
    exact ⟨HEn.out v hv, by rw [Int.toNat_natCast]; omega⟩
  obtain ⟨x, hx⟩ : ∃ x, xs[v]? = some x := ⟨xs[v], by simp [hv]⟩
  have hnd : ndAt xs (v : Int) = x := ndAt_some hx
  have HX : Hid (xs[v]? = some x) := hx
  have HH : Hid (s.how = 0) := h0
  have HM : Hid (ctop xs v s = ctop xs v s) := rfl
  have hcd : ∀ (n : ByteArray) (ns : List ByteArray) (b : List Int), cdef (cexp xs xs.length) n ns b s = cdefine (cexp xs xs.length) n ns b s := fun n ns b => by unfold cdef; rw [if_pos HH.out]
  have HCD : Hid (∀ (n : ByteArray) (ns : List ByteArray) (b : List Int), cdef (cexp xs xs.length) n ns b s = cdefine (cexp xs xs.length) n ns b s) := hcd
  have HC : Hid (ctop xs v s = (if x.k = 5 ∧ (chainR xs v).2 ∧ (ndAt xs ((chainR xs v).1.getD 0 0)).k = 4 ∧ isW (ndAt xs ((chainR xs v).1.getD 0 0)).s wDefine then
    (if 3 ≤ (chainR xs v).1.length ∧ (ndAt xs ((chainR xs v).1.getD 1 0)).k = 5 ∧ (chainR xs ((chainR xs v).1.getD 1 0).toNat).2 ∧ varN xs ((chainR xs ((chainR xs v).1.getD 1 0).toNat).1.getD 0 0) then
      (if namesHow xs ((chainR xs ((chainR xs v).1.getD 1 0).toNat).1.drop 1) = 0 then cdefine (cexp xs xs.length) (ndAt xs ((chainR xs ((chainR xs v).1.getD 1 0).toNat).1.getD 0 0)).s (nameL xs ((chainR xs ((chainR xs v).1.getD 1 0).toNat).1.drop 1)) ((chainR xs v).1.drop 2) s else { s with how := namesHow xs ((chainR xs ((chainR xs v).1.getD 1 0).toNat).1.drop 1) })
     else { s with how := 1 })
  else cdefine (cexp xs xs.length) wMain [] [(v : Int)] s)) := by
    unfold Hid ctop
    rw [hnd, Int.toNat_natCast]
  have hk0 := h
  obtain ⟨pv, lv, dv, L, D, h2⟩ := hk0
  have hM := h2.lt
  obtain ⟨g, cap, rfl, hg, d0, d1, d2, d3, d4⟩ := own_node h2.pool v x hx
  obtain ⟨c0, _, _, c3, _, _, f3⟩ := h2.cells
  have hv' : (v : Int) < xs.length := by omega
  have hB0 : Below w.heap.size w (w.alloc (.cells #[] 3)) := (Below.refl _ _).alloc (Nat.le_refl _) _
  have k1 := h.on hB0
  have h1 := h2.on hB0
  have f1 := CF.of_below (M := M) hB0 (by omega)
  have d10 := (hB0.cell (p := ⟨g, v * 5, none⟩) hg).trans d0
  obtain ⟨c10, _⟩ := h1.cells
  clear hcd hnd hx h0 d0 d1 d2 d3 d4 c0 c3 f3 HM
  go_enter Try.func116, Try.ntmps116
  go_upto_region 2 with fail
  generalize w.alloc (.cells #[] 3) = w1 at *
  by_cases h5 : x.k = 5
  · have R1 := NRow.of_own h1.pool (by omega) HPS.2
    go_wp2_with fail
    refine (slistof_in _ _ xs v _ R1 hp hv).mono ?_
    rintro r w2 ⟨v2, rfl, ho2, hb2⟩
    have kX := k1.on hb2
    have h12 := h1.on hb2
    have fX := f1.trans (CF.of_below (M := M) hb2 k1.lt)
    have T2 := TRow.of_own ho2
    have hmem := chainR_mem hp v
    have hcn : (chainR xs v).2 = true → 0 < (chainR xs v).1.length := chain_ne HX.out h5
    obtain ⟨c20, _⟩ := h12.cells
    cases hch : (chainR xs v).2 with
    | false =>
      have HR : Hid (ctop xs v s = cdef (cexp xs xs.length) wMain [] [(v : Int)] s) := by
        unfold Hid
        rw [HCD.out, HC.out, if_neg (by rw [hch]; simp)]
      clear HC hmem hcn
      go_wp2_with fail
      go_quiet (fail)
      have hbq : Below w2.heap.size w2 (w2.drewN nq) := ⟨rfl, rfl, rfl, Nat.le_refl _, fun _ _ => rfl⟩
      have kq := kX.on hbq
      have fq := fX.trans (CF.of_below (M := M) hbq kX.lt)
      generalize w2.drewN nq = w4 at kq fq ⊢
      have hB5 : Below w4.heap.size w4 ((w4.alloc (.cells #[] 9)).alloc (.cells #[.int .i64 v] 3)) := ((Below.refl _ _).alloc (Nat.le_refl _) _).alloc (by simp) _
      have N5 : SRow ((w4.alloc (.cells #[] 9)).alloc (.cells #[.int .i64 v] 3)) (.slice (some ⟨w4.heap.size, 0, none⟩) 0 0) [] := (World.ownsRow_made (base := 0) (e := 9) (size := 1) w4 #[] 0 (Nat.zero_le _) (by simp) (by simp)).alloc _
      have T5 : TRow ((w4.alloc (.cells #[] 9)).alloc (.cells #[.int .i64 v] 3)) (.slice (some ⟨w4.heap.size + 1, 0, none⟩) 1 1) [(v : Int)] := by
        have := own_lit (w4.alloc (.cells #[] 9)) (.int .i64 v) 3 0 (Nat.zero_le _)
        rw [show (w4.alloc (.cells #[] 9)).heap.size = w4.heap.size + 1 by simp] at this
        exact TRow.of_own (l := [(v : Int)]) this
      go_wp2_with fail
      refine (s4define_any xs M d hd (cexp xs xs.length) wMain [] _ [(v : Int)] _ s _ (kq.on hB5) N5 T5 HEv.out).mono ?_
      rintro r w6 ⟨rfl, k6, f6⟩
      go_wp2_with fail
      exact bodyPost_ret (results_none rfl _ _ _) rfl ⟨rfl, by rw [HR.out]; exact k6, (fq.trans (CF.of_below (M := M) hB5 kq.lt)).trans f6⟩
    | true =>
      have hl0 := hcn hch
      rw [hch] at HC
      have HMm : Hid (∀ z ∈ (chainR xs v).1, ∃ n : Nat, z = n ∧ n < v) := hmem
      clear hcn hch hmem
      generalize (chainR xs v).1 = l at *
      obtain ⟨al, cl, rfl, hlc, hcm⟩ := T2.form
      obtain ⟨gl, ol, rfl, hgl, hc0⟩ := T2.cell 0 hl0
      obtain ⟨n0, hn0, hn0v⟩ := HMm.out (l.getD 0 0) (by rw [List.getD_eq_getElem?_getD, List.getElem?_eq_getElem hl0]; exact List.getElem_mem _)
      rw [hn0, Nat.add_zero] at hc0
      obtain ⟨y, hy⟩ : ∃ y, xs[n0]? = some y := ⟨xs[n0]'(by omega), by simp [show n0 < xs.length by omega]⟩
      have hyn : ndAt xs (l.getD 0 0) = y := by rw [hn0]; exact ndAt_some hy
      obtain ⟨g', cap', eg, hg', y0, y1, y2, y3, y4⟩ := own_node h12.pool n0 y hy
      simp only [Value.slice.injEq, Option.some.injEq, Addr.mk.injEq, and_true, true_and] at eg
      obtain ⟨rfl, rfl⟩ := eg
      rw [hyn] at HC
      have hn0' : (n0 : Int) < xs.length := by omega
      have hl0' : (0 : Int) < l.length := by omega
      have HT2 : Hid (TRow w2 (.slice (some ⟨gl, ol, none⟩) l.length cl) l) := T2
      clear T2 hn0 hyn hy ho2
      by_cases q4 : y.k = 4
      · cases qd : (y.s.toList == [100, 101, 102, 105, 110, 101]) with
        | false =>
          have HR : Hid (ctop xs v s = cdef (cexp xs xs.length) wMain [] [(v : Int)] s) := by
            unfold Hid
            rw [HCD.out, HC.out, if_neg (by intro hh; have := hh.2.2.2; unfold isW wDefine at this; rw [qd] at this; cases this)]
          have qn : (y.s.toList != [100, 101, 102, 105, 110, 101]) = true := by simpa using qd
          clear HC
          go_wp2_with fail
          go_quiet (fail)
          have hbq : Below w2.heap.size w2 (w2.drewN nq) := ⟨rfl, rfl, rfl, Nat.le_refl _, fun _ _ => rfl⟩
          have kq := kX.on hbq
          have fq := fX.trans (CF.of_below (M := M) hbq kX.lt)
          generalize w2.drewN nq = w4 at kq fq ⊢
          have hB5 : Below w4.heap.size w4 ((w4.alloc (.cells #[] 9)).alloc (.cells #[.int .i64 v] 3)) := ((Below.refl _ _).alloc (Nat.le_refl _) _).alloc (by simp) _
          have N5 : SRow ((w4.alloc (.cells #[] 9)).alloc (.cells #[.int .i64 v] 3)) (.slice (some ⟨w4.heap.size, 0, none⟩) 0 0) [] := (World.ownsRow_made (base := 0) (e := 9) (size := 1) w4 #[] 0 (Nat.zero_le _) (by simp) (by simp)).alloc _
          have T5 : TRow ((w4.alloc (.cells #[] 9)).alloc (.cells #[.int .i64 v] 3)) (.slice (some ⟨w4.heap.size + 1, 0, none⟩) 1 1) [(v : Int)] := by
            have := own_lit (w4.alloc (.cells #[] 9)) (.int .i64 v) 3 0 (Nat.zero_le _)
            rw [show (w4.alloc (.cells #[] 9)).heap.size = w4.heap.size + 1 by simp] at this
            exact TRow.of_own (l := [(v : Int)]) this
          go_wp2_with fail
          refine (s4define_any xs M d hd (cexp xs xs.length) wMain [] _ [(v : Int)] _ s _ (kq.on hB5) N5 T5 HEv.out).mono ?_
          rintro r w6 ⟨rfl, k6, f6⟩
          go_wp2_with fail
          exact bodyPost_ret (results_none rfl _ _ _) rfl ⟨rfl, by rw [HR.out]; exact k6, (fq.trans (CF.of_below (M := M) hB5 kq.lt)).trans f6⟩
        | true =>
          have HC2 : Hid (ctop xs v s = (if 3 ≤ l.length ∧ (ndAt xs (l.getD 1 0)).k = 5 ∧ (chainR xs (l.getD 1 0).toNat).2 ∧ varN xs ((chainR xs (l.getD 1 0).toNat).1.getD 0 0) then
      (if namesHow xs ((chainR xs (l.getD 1 0).toNat).1.drop 1) = 0 then cdefine (cexp xs xs.length) (ndAt xs ((chainR xs (l.getD 1 0).toNat).1.getD 0 0)).s (nameL xs ((chainR xs (l.getD 1 0).toNat).1.drop 1)) (l.drop 2) s else { s with how := namesHow xs ((chainR xs (l.getD 1 0).toNat).1.drop 1) })
     else { s with how := 1 })) := by
            unfold Hid
            rw [HC.out, if_pos ⟨h5, by trivial, q4, by unfold isW wDefine; exact qd⟩]
          have qn : (y.s.toList != [100, 101, 102, 105, 110, 101]) = false := by simpa using qd
          clear HC
          go_wp2_with fail
          go_quiet (fail)
          have hbq : Below w2.heap.size w2 (w2.drewN nq) := ⟨rfl, rfl, rfl, Nat.le_refl _, fun _ _ => rfl⟩
          have k4 := kX.on hbq
          have h4m := h12.on hbq
          have f4 := fX.trans (CF.of_below (M := M) hbq kX.lt)
          have HT4 : Hid (TRow (w2.drewN nq) (.slice (some ⟨gl, ol, none⟩) l.length cl) l) := HT2.out.below hbq
          clear c20 hc0 y0 y1 y2 y3 y4 kX h12 fX qn qd q4
          go_upto_region 6 with fail
          generalize w2.drewN nq = w4 at k4 h4m f4 HT4 ⊢
          obtain ⟨c40, _, _, c43, _, _, f43⟩ := h4m.cells
          rw [HH.out] at c43
          by_cases h3 : 3 ≤ l.length
          · have h3' : ¬ (l.length : Int) < 3 := by omega
            have hl1' : (1 : Int) < l.length := by omega
            obtain ⟨n1, hn1, hn1v⟩ := HMm.out (l.getD 1 0) (by rw [List.getD_eq_getElem?_getD, List.getElem?_eq_getElem (show 1 < l.length by omega)]; exact List.getElem_mem _)
            obtain ⟨gl', ol', el', hgl4, hc1⟩ := HT4.out.cell 1 (by omega)
            simp only [Option.some.injEq, Addr.mk.injEq, and_true] at el'
            obtain ⟨rfl, rfl⟩ := el'
            rw [hn1] at hc1 HC2
            rw [Int.toNat_natCast] at HC2
            obtain ⟨z, hz⟩ : ∃ z, xs[n1]? = some z := ⟨xs[n1]'(by omega), by simp [show n1 < xs.length by omega]⟩
            have hzn : ndAt xs (n1 : Int) = z := ndAt_some hz
            rw [hzn] at HC2
            obtain ⟨g', cap', eg, hg4, z0, _⟩ := own_node h4m.pool n1 z hz
            simp only [Value.slice.injEq, Option.some.injEq, Addr.mk.injEq, and_true, true_and] at eg
            obtain ⟨rfl, rfl⟩ := eg
            have hn1' : (n1 : Int) < xs.length := by omega
            have HZ : Hid (xs[n1]? = some z) := hz
            clear hn1 hzn hz
            by_cases z5 : z.k = 5
            · go_wp2_with fail
              go_quiet (fail)
              have hbq4 : Below w4.heap.size w4 (w4.drewN nq) := ⟨rfl, rfl, rfl, Nat.le_refl _, fun _ _ => rfl⟩
              have k5 := k4.on hbq4
              have h5m := h4m.on hbq4
              have f5 := f4.trans (CF.of_below (M := M) hbq4 k4.lt)
              have HT5 : Hid (TRow (w4.drewN nq) (.slice (some ⟨gl, ol, none⟩) l.length cl) l) := HT4.out.below hbq4
              have hc15 := (hbq4.cell (p := ⟨gl, ol + 1, none⟩) hgl4).trans hc1
              go_upto_region 8 with fail
              generalize w4.drewN nq = w5 at k5 h5m f5 HT5 hc15 ⊢
              clear c40 c43 f43 hc1 z0 k4 h4m f4 HT4
              obtain ⟨c50, _⟩ := h5m.cells
              have R5 := NRow.of_own h5m.pool (by omega) HPS.2
              have hgl5 := World.block_lt_of_cell? _ _ hc15
              go_region_held (fun w' => w'.cell? ⟨M, 0, none⟩ = some (.slice (some ⟨g, 0, none⟩) xs.length cap) ∧ w'.cell? ⟨gl, ol + 1, none⟩ = some (.int .i64 n1)) (first | exact ⟨e0, e1⟩ | go_keep) (first
                | (go_at_call 120; refine (slistof_in _ _ xs n1 _ ?_ hp (by omega)).mono ?_; exact R5.below (Below.refl _ _).drew; rintro r w6 ⟨v6, rfl, ho6, hb6⟩; have hb56 : Below w5.heap.size w5 w6 := (Below.refl _ _).drew.trans hb6; have e0 := (hb56.cell (p := ⟨M, 0, none⟩) h5m.lt).trans c50; have e1 := (hb56.cell (p := ⟨gl, ol + 1, none⟩) hgl5).trans hc15))
              have k6 := k5.on hb56
              have h6m := h5m.on hb56
              have f6 := f5.trans (CF.of_below (M := M) hb56 k5.lt)
              have T6 := TRow.of_own ho6
              have hmem1 := chainR_mem hp n1
              have hcn1 : (chainR xs n1).2 = true → 0 < (chainR xs n1).1.length := chain_ne HZ.out z5
              have HT6 : Hid (TRow w6 (.slice (some ⟨gl, ol, none⟩) l.length cl) l) := HT5.out.below hb56
              obtain ⟨_, _, _, c63, _, _, f63⟩ := h6m.cells
              rw [HH.out] at c63
              clear e0 e1 R5 hc15 c50 HT5 hb6
              cases hch : (chainR xs n1).2 with
              | false =>
                have HR : Hid (ctop xs v s = { s with how := 1 }) := by unfold Hid; rw [HC2.out, if_neg (by rw [hch]; simp)]
                clear HC2 hmem1 hcn1
                obtain ⟨kb1, fb1⟩ := h6m.wrong 1 (by decide) { s with how := 1 } rfl
                go_wp2_with fail
                exact bodyPost_ret (results_none rfl _ _ _) rfl ⟨rfl, by rw [HR.out]; exact (kb1.wide (by omega)), f6.trans fb1⟩
              | true =>
                have hs0 := hcn1 hch
                rw [hch] at HC2
                have HM1 : Hid (∀ z ∈ (chainR xs n1).1, ∃ n : Nat, z = n ∧ n < n1) := hmem1
                clear hcn1 hch hmem1
                generalize (chainR xs n1).1 = sg at *
                obtain ⟨as_, cs_, rfl, hsc, hscm⟩ := T6.form
                obtain ⟨gs, os, rfl, hgs, hcs⟩ := T6.cell 0 hs0
                obtain ⟨n2, hn2, hn2v⟩ := HM1.out (sg.getD 0 0) (by rw [List.getD_eq_getElem?_getD, List.getElem?_eq_getElem hs0]; exact List.getElem_mem _)
                rw [hn2, Nat.add_zero] at hcs
                rw [hn2] at HC2
                obtain ⟨u, hu⟩ : ∃ u, xs[n2]? = some u := ⟨xs[n2]'(by omega), by simp [show n2 < xs.length by omega]⟩
                rw [ndAt_some hu] at HC2
                have hs0' : (0 : Int) < sg.length := by omega
                have HTs : Hid (TRow w6 (.slice (some ⟨gs, os, none⟩) sg.length cs_) sg) := T6
                clear T6 hn2 ho6
                go_wp2_with fail
                refine (s4name_any xs M d s n2 u _ k6 hu).mono ?_
                rintro r w7 ⟨rfl, hb7⟩
                have k7 := k6.on hb7
                have h7m := h6m.on hb7
                have f7 := f6.trans (CF.of_below (M := M) hb7 k6.lt)
                have HTs7 : Hid (TRow w7 (.slice (some ⟨gs, os, none⟩) sg.length cs_) sg) := HTs.out.below hb7
                have HT7 : Hid (TRow w7 (.slice (some ⟨gl, ol, none⟩) l.length cl) l) := HT6.out.below hb7
                obtain ⟨_, _, _, c73, _, _, f73⟩ := h7m.cells
                rw [HH.out] at c73
                clear c63 f63 hcs hu
                cases hvb : varN xs n2 with
                | false =>
                  have HR : Hid (ctop xs v s = { s with how := 1 }) := by unfold Hid; rw [HC2.out, if_neg (by rw [hvb]; simp)]
                  clear HC2
                  obtain ⟨kb1, fb1⟩ := h7m.wrong 1 (by decide) { s with how := 1 } rfl
                  go_wp2_with fail
                  exact bodyPost_ret (results_none rfl _ _ _) rfl ⟨rfl, by rw [HR.out]; exact (kb1.wide (by omega)), f7.trans fb1⟩
                | true =>
                  rw [hvb, if_pos ⟨h3, z5, by trivial, by trivial⟩] at HC2
                  have hs1' : (1 : Int) ≤ sg.length := by omega
                  clear c73 f73
                  by_cases hcs : cs_ = 1
                  case' pos =>
                    have Ts1 : TRow w7 (.slice (some ⟨gs, os, none⟩) (sg.length - 1) 0) (sg.drop 1) := ⟨_, _, by rw [List.length_drop], by rw [List.length_drop]; omega, by omega, fun hne => absurd (List.drop_eq_nil_of_le (by omega)) hne⟩
                  case' neg =>
                    have Ts1 := HTs7.out.drop 1 (by omega)
                  all_goals
                    go_wp2_with fail
                    refine (s4names_any xs M d s _ (sg.drop 1) _ k7 HH.out Ts1 (fun z hz => by obtain ⟨k, e, hk⟩ := HM1.out z (List.mem_of_mem_drop hz); exact ⟨k, e, by omega⟩)).mono ?_
                    rintro r w8 ⟨v8, ys, rfl, S8, hy4, hys, k8, f8⟩
                    have f8' := f7.trans f8
                    have T8 := (f8.trow' k7 HT7.out).drop 2 (by omega)
                    have hl2' : (2 : Int) ≤ l.length := by omega
                    go_wp2_with fail
                    refine (s4define_any xs M d hd (cexp xs xs.length) u.s ys _ (l.drop 2) _ _ _ k8 S8 T8 (fun z hz => by
                      obtain ⟨k, rfl, hk⟩ := HMm.out z (List.mem_of_mem_drop hz)
                      exact ⟨HEn.out k (by omega), by rw [Int.toNat_natCast]; omega⟩)).mono ?_
                    rintro r w9 ⟨rfl, k9, f9⟩
                    have HR : Hid (ctop xs v s = cdef (cexp xs xs.length) u.s ys (l.drop 2) ⟨s.list, s.defs, namesHow xs (sg.drop 1)⟩) := by
                      unfold Hid
                      rw [HC2.out]
                      by_cases hnh : namesHow xs (sg.drop 1) = 0
                      · have hs : s = ⟨s.list, s.defs, 0⟩ := by
                          have := HH.out
                          obtain ⟨a, b, c⟩ := s
                          dsimp only at this ⊢
                          rw [this]
                        rw [if_pos hnh, hys hnh, hnh, ← hs, HCD.out]
                      · rw [if_neg hnh]
                        unfold cdef
                        rw [if_neg (by exact hnh)]
                    go_wp2_with fail
                    go_end0
                    exact ⟨rfl, by rw [HR.out]; exact k9, f8'.trans f9⟩
            · have HR : Hid (ctop xs v s = { s with how := 1 }) := by unfold Hid; rw [HC2.out, if_neg (by intro hh; exact z5 hh.2.1)]
              have zb : (z.k == 5) = false := by simpa using z5
              have zn : (z.k != 5) = true := by simpa using z5
              have zd : decide (z.k = 5) = false := by simpa using z5
              clear HC2 z5
              go_wp2_with fail
              go_quiet (fail)
              have hbq4 : Below w4.heap.size w4 (w4.drewN nq) := ⟨rfl, rfl, rfl, Nat.le_refl _, fun _ _ => rfl⟩
              have h5m := h4m.on hbq4
              have f5 := f4.trans (CF.of_below (M := M) hbq4 k4.lt)
              obtain ⟨kb1, fb1⟩ := h5m.wrong 1 (by decide) { s with how := 1 } rfl
              go_wp2_with fail
              exact bodyPost_ret (results_none rfl _ _ _) rfl ⟨rfl, by rw [HR.out]; exact (kb1.wide (by omega)), f5.trans fb1⟩
          · have HR : Hid (ctop xs v s = { s with how := 1 }) := by unfold Hid; rw [HC2.out, if_neg (by intro hh; exact h3 hh.1)]
            have h3' : (l.length : Int) < 3 := by omega
            clear HC2
            go_wp2_with fail
            go_quiet (fail)
            have hbq4 : Below w4.heap.size w4 (w4.drewN nq) := ⟨rfl, rfl, rfl, Nat.le_refl _, fun _ _ => rfl⟩
            have h5m := h4m.on hbq4
            have f5 := f4.trans (CF.of_below (M := M) hbq4 k4.lt)
            obtain ⟨kb1, fb1⟩ := h5m.wrong 1 (by decide) { s with how := 1 } rfl
            go_wp2_with fail
            exact bodyPost_ret (results_none rfl _ _ _) rfl ⟨rfl, by rw [HR.out]; exact (kb1.wide (by omega)), f5.trans fb1⟩
      · have HR : Hid (ctop xs v s = cdef (cexp xs xs.length) wMain [] [(v : Int)] s) := by
          unfold Hid
          rw [HCD.out, HC.out, if_neg (by intro hh; exact q4 hh.2.2.1)]
        have qb : (y.k == 4) = false := by simpa using q4
        have qn : (y.k != 4) = true := by simpa using q4
        have qd2 : decide (y.k = 4) = false := by simpa using q4
        clear HC q4
        go_wp2_with fail
        go_quiet (fail)
        have hbq : Below w2.heap.size w2 (w2.drewN nq) := ⟨rfl, rfl, rfl, Nat.le_refl _, fun _ _ => rfl⟩
        have kq := kX.on hbq
        have fq := fX.trans (CF.of_below (M := M) hbq kX.lt)
        generalize w2.drewN nq = w4 at kq fq ⊢
        have hB5 : Below w4.heap.size w4 ((w4.alloc (.cells #[] 9)).alloc (.cells #[.int .i64 v] 3)) := ((Below.refl _ _).alloc (Nat.le_refl _) _).alloc (by simp) _
        have N5 : SRow ((w4.alloc (.cells #[] 9)).alloc (.cells #[.int .i64 v] 3)) (.slice (some ⟨w4.heap.size, 0, none⟩) 0 0) [] := (World.ownsRow_made (base := 0) (e := 9) (size := 1) w4 #[] 0 (Nat.zero_le _) (by simp) (by simp)).alloc _
        have T5 : TRow ((w4.alloc (.cells #[] 9)).alloc (.cells #[.int .i64 v] 3)) (.slice (some ⟨w4.heap.size + 1, 0, none⟩) 1 1) [(v : Int)] := by
          have := own_lit (w4.alloc (.cells #[] 9)) (.int .i64 v) 3 0 (Nat.zero_le _)
          rw [show (w4.alloc (.cells #[] 9)).heap.size = w4.heap.size + 1 by simp] at this
          exact TRow.of_own (l := [(v : Int)]) this
        go_wp2_with fail
        refine (s4define_any xs M d hd (cexp xs xs.length) wMain [] _ [(v : Int)] _ s _ (kq.on hB5) N5 T5 HEv.out).mono ?_
        rintro r w6 ⟨rfl, k6, f6⟩
        go_wp2_with fail
        exact bodyPost_ret (results_none rfl _ _ _) rfl ⟨rfl, by rw [HR.out]; exact k6, (fq.trans (CF.of_below (M := M) hB5 kq.lt)).trans f6⟩
  · have HR : Hid (ctop xs v s = cdef (cexp xs xs.length) wMain [] [(v : Int)] s) := by
      unfold Hid
      rw [HCD.out, HC.out, if_neg (by intro hh; exact h5 hh.1)]
    have qb : (x.k == 5) = false := by simpa using h5
    have kX := k1
    have fX := f1
    clear HC h5
    go_wp2_with fail
    go_quiet (fail)
    have hbq : Below w1.heap.size w1 (w1.drewN nq) := ⟨rfl, rfl, rfl, Nat.le_refl _, fun _ _ => rfl⟩
    have kq := kX.on hbq
    have fq := fX.trans (CF.of_below (M := M) hbq kX.lt)
    generalize w1.drewN nq = w4 at kq fq ⊢
    have hB5 : Below w4.heap.size w4 ((w4.alloc (.cells #[] 9)).alloc (.cells #[.int .i64 v] 3)) := ((Below.refl _ _).alloc (Nat.le_refl _) _).alloc (by simp) _
    have N5 : SRow ((w4.alloc (.cells #[] 9)).alloc (.cells #[.int .i64 v] 3)) (.slice (some ⟨w4.heap.size, 0, none⟩) 0 0) [] := (World.ownsRow_made (base := 0) (e := 9) (size := 1) w4 #[] 0 (Nat.zero_le _) (by simp) (by simp)).alloc _
    have T5 : TRow ((w4.alloc (.cells #[] 9)).alloc (.cells #[.int .i64 v] 3)) (.slice (some ⟨w4.heap.size + 1, 0, none⟩) 1 1) [(v : Int)] := by
      have := own_lit (w4.alloc (.cells #[] 9)) (.int .i64 v) 3 0 (Nat.zero_le _)
      rw [show (w4.alloc (.cells #[] 9)).heap.size = w4.heap.size + 1 by simp] at this
      exact TRow.of_own (l := [(v : Int)]) this
    go_wp2_with fail
    refine (s4define_any xs M d hd (cexp xs xs.length) wMain [] _ [(v : Int)] _ s _ (kq.on hB5) N5 T5 HEv.out).mono ?_
    rintro r w6 ⟨rfl, k6, f6⟩
    go_wp2_with fail
    exact bodyPost_ret (results_none rfl _ _ _) rfl ⟨rfl, by rw [HR.out]; exact k6, (fq.trans (CF.of_below (M := M) hB5 kq.lt)).trans f6⟩
end Go.Proofs.Ytacbhbmjhlgflaa

/-
  What is compiled has no long names: plain mathematics. Nothing of the program; no condition.
-/
namespace Go.Proofs.Ytacbhbmjhlgflaa
open Go.RowKit

/-- No long name. -/
def Sm (s : CS) : Prop := (∀ x ∈ s.list, x.s.size ≤ 12) ∧ (∀ x ∈ s.defs, x.s.size ≤ 12)
theorem Sm.emit {s : CS} (h : Sm s) (x : In) (hx : x.s.size ≤ 12) : Sm (s.emit x) := by
  unfold CS.emit
  split
  · split
    · exact h
    · refine ⟨fun y hy => ?_, h.2⟩
      rcases List.mem_append.1 hy with hy | hy
      · exact h.1 y hy
      · rw [List.mem_singleton] at hy; rw [hy]; exact hx
  · exact h
theorem Sm.ins {s : CS} (h : Sm s) (o n i : Int) : Sm (s.emit (ins o n i)) := h.emit _ (Nat.zero_le _)
theorem Sm.lead {s : CS} (h : Sm s) (a : Nat) : Sm (s.lead a) := by
  unfold CS.lead
  split
  · refine ⟨fun y hy => ?_, h.2⟩
    dsimp only at hy
    split at hy
    · rename_i x hx
      rcases List.mem_or_eq_of_mem_set hy with hy | rfl
      · exact h.1 y hy
      · exact h.1 x (List.mem_of_getElem? hx)
    · exact h.1 y hy
  · exact h
theorem Sm.how {s : CS} (h : Sm s) (k : Int) : Sm { s with how := k } := h
def SmE (e : Ex) : Prop := ∀ v env s, Sm s → Sm (e v env s)
theorem SmE.seq {e : Ex} (h : SmE e) (env : Env) : ∀ (l : List Int) (b : Bool) (s : CS), Sm s → Sm (cseq e env l b s) := by
  intro l
  induction l with
  | nil => intro b s hs; exact hs
  | cons v l ih =>
    intro b s hs
    rw [cseq]
    split
    · refine ih false _ (h v env _ ?_)
      split
      · exact hs
      · exact hs.ins _ _ _
    · exact hs
theorem SmE.fn {e : Ex} (h : SmE e) (names : List ByteArray) (body : List Int) (env : Env) (s : CS) (hs : Sm s) : Sm (cfun e names body env s) := by
  unfold cfun
  exact ((h.seq _ _ _ _ (((hs.ins _ _ _).ins _ _ _).lead _)).ins _ _ _).lead _
theorem SmE.fold {e : Ex} (h : SmE e) (env : Env) : ∀ (l : List Int) (s : CS), Sm s → Sm (l.foldl (fun s u => e u env s) s) := by
  intro l
  induction l with
  | nil => intro s hs; exact hs
  | cons v l ih => intro s hs; exact ih _ (h v env s hs)
theorem SmE.form {e : Ex} (h : SmE e) (xs : List Nd) (head : ByteArray) (l : List Int) (env : Env) (s : CS) (hs : Sm s) : Sm (cform e xs head l env s) := by
  unfold cform
  split
  · exact hs.ins _ _ _
  split
  · unfold cif
    exact (h _ _ _ (((h _ _ _ ((h _ _ _ hs).ins _ _ _)).ins _ _ _).lead _)).lead _
  split
  · exact h.seq _ _ _ _ hs
  split
  · split
    · unfold cnames
      split
      · exact h.fn _ _ _ _ hs
      · exact hs
    · exact hs
  split
  · split
    · exact (h _ _ _ (h.fn _ _ _ _ hs)).ins _ _ _
    · exact hs
  · exact hs
theorem SmE.one {e : Ex} (h : SmE e) (xs : List Nd) (hx : ∀ v, (ndAt xs v).s.size ≤ 12) : SmE (cone e xs) := by
  intro v env s hs
  unfold cone
  split
  · split
    · exact hs.ins _ _ _
    split
    · split
      · exact hs
      · split
        · exact hs.ins _ _ _
        · exact hs.emit _ (hx v)
    split
    · split
      · dsimp only
        split
        · exact h.form _ _ _ _ _ hs
        split
        · exact hs
        · exact (h.fold _ _ _ hs).ins _ _ _
      · exact hs
    · exact hs
  · exact hs
theorem cexp_sm (xs : List Nd) (hx : ∀ v, (ndAt xs v).s.size ≤ 12) : ∀ f, SmE (cexp xs f) := by
  intro f
  induction f with
  | zero => intro v env s hs; exact hs
  | succ f ih => exact ih.one xs hx
theorem cdefine_sm {e : Ex} (h : SmE e) (name : ByteArray) (hn : name.size ≤ 12) (names : List ByteArray) (body : List Int) (s : CS) (hs : Sm s) : Sm (cdefine e name names body s) := by
  unfold cdefine
  split
  · exact hs
  · have h1 : Sm { s with defs := s.defs ++ [⟨name, s.list.length, names.length⟩] } := ⟨hs.1, fun x hx => by
      rcases List.mem_append.1 hx with hx | hx
      · exact hs.2 x hx
      · rw [List.mem_singleton] at hx; rw [hx]; exact hn⟩
    unfold cbody
    exact (h.seq [names] body true _ h1).ins _ _ _
theorem ctop_sm (xs : List Nd) (hx : ∀ v, (ndAt xs v).s.size ≤ 12) (v : Int) (s : CS) (hs : Sm s) : Sm (ctop xs v s) := by
  unfold ctop
  dsimp only
  split
  · split
    · split
      · exact cdefine_sm (cexp_sm xs hx _) _ (hx _) _ _ _ hs
      · exact hs
    · exact hs
  · exact cdefine_sm (cexp_sm xs hx _) _ (by decide) _ _ _ hs
theorem ndAt_s {xs : List Nd} (hp : poolB xs = true) (v : Int) : (ndAt xs v).s.size ≤ 12 := by
  unfold ndAt
  rw [List.getD_eq_getElem?_getD]
  cases hx : xs[v.toNat]? with
  | none => exact Nat.zero_le _
  | some x =>
    have h := pool_at hp hx
    simp only [nodeB, Bool.and_eq_true] at h
    obtain ⟨_, ⟨hn, _⟩, _⟩ := h
    unfold nameFB at hn
    show x.s.size ≤ 12
    split at hn
    · simp only [nameB, Bool.and_eq_true, decide_eq_true_eq] at hn
      exact hn.1.2
    · have e : x.s.toList = [] := by simpa using hn
      rw [ByteArray.toList_eq] at e
      have := congrArg List.length e
      rw [Array.length_toList] at this
      have h0 : x.s.size = 0 := this
      omega
/-- What Compile answers. -/
def compR (xs : List Nd) (l : List Int) : (List Nd × List In × List Df) × Int × Int :=
  if poolB xs && allI xs l then
    (if (ctops xs l 0 ⟨[], [], 0⟩).1.how = 0 then
      (if codeB xs (ctops xs l 0 ⟨[], [], 0⟩).1.list (ctops xs l 0 ⟨[], [], 0⟩).1.defs then ((xs, (ctops xs l 0 ⟨[], [], 0⟩).1.list, (ctops xs l 0 ⟨[], [], 0⟩).1.defs), 0, (l.length : Int)) else (([], [], []), 3, 0))
     else if (ctops xs l 0 ⟨[], [], 0⟩).1.how = 3 then (([], [], []), 3, 0) else (([], [], []), (ctops xs l 0 ⟨[], [], 0⟩).1.how, ((ctops xs l 0 ⟨[], [], 0⟩).2 : Int)))
  else (([], [], []), 3, 0)
end Go.Proofs.Ytacbhbmjhlgflaa
