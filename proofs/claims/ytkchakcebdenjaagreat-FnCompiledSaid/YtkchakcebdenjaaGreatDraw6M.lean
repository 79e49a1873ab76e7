/-
  Texts that stood by themselves, laid into one.
-/
import Derived.Test.YtkchakcebdenjaaGreatStore2M
import Derived.OpenShut
import Derived.Test.YtkchakcebdenjaaGreatSClsM
import Derived.Test.YtkchakcebdenjaaGreatInM
/-
  Contracts of the draws' own cursor: l1New makes one; l1Byte gives a number from 0 to 255 and turns nothing but the cursor.
-/
namespace Go.Proofs.YtkchakcebdenjaaGreat
open Go.RowKit
theorem and255 (x : Int) : 0 ≤ bits .and .i64 x 255 ∧ bits .and .i64 x 255 ≤ 255 := by
  have e : (BitVec.ofInt IntKind.i64.bits 255).toNat = 255 := by decide
  have hle : ((BitVec.ofInt IntKind.i64.bits x) &&& (BitVec.ofInt IntKind.i64.bits 255)).toNat ≤ 255 := by
    rw [BitVec.toNat_and, e]; exact Nat.and_le_right
  have h : bits .and .i64 x 255 = IntKind.i64.wrap (((BitVec.ofInt IntKind.i64.bits x) &&& (BitVec.ofInt IntKind.i64.bits 255)).toNat : Int) := rfl
  rw [h, IntKind.wrap_i64]
  omega
theorem and30 (x : Int) : 0 ≤ bits .and .i64 x 1073741823 ∧ bits .and .i64 x 1073741823 ≤ 1073741823 := by
  have e : (BitVec.ofInt IntKind.i64.bits 1073741823).toNat = 1073741823 := by decide
  have hle : ((BitVec.ofInt IntKind.i64.bits x) &&& (BitVec.ofInt IntKind.i64.bits 1073741823)).toNat ≤ 1073741823 := by
    rw [BitVec.toNat_and, e]; exact Nat.and_le_right
  have h : bits .and .i64 x 1073741823 = IntKind.i64.wrap (((BitVec.ofInt IntKind.i64.bits x) &&& (BitVec.ofInt IntKind.i64.bits 1073741823)).toNat : Int) := rfl
  rw [h, IntKind.wrap_i64]
  omega
theorem wrap64_bounds (x : Int) : -9223372036854775808 ≤ wrap64 x ∧ wrap64 x ≤ 9223372036854775807 := by
  unfold wrap64; omega
def Cur (w0 : World) (v : Value) (zs : List Int) (w : World) (P : Nat) : Prop :=
  Row w0 v zs ∧ Below w0.heap.size w0 w ∧ w0.heap.size ≤ P ∧ ∃ (i : Nat) (h : Int), i ≤ zs.length ∧ -9223372036854775808 ≤ h ∧ h ≤ 9223372036854775807 ∧ w.heap[P]? = some (.cells #[v, .int .i64 i, .int .i64 h] 126 (0, 0))
theorem Cur.lt {w0 : World} {v : Value} {zs : List Int} {w : World} {P : Nat} (c : Cur w0 v zs w P) : P < w.heap.size := by
  obtain ⟨_, _, _, i, h, _, _, _, hh⟩ := c
  exact (Array.getElem?_eq_some_iff.1 hh).1
theorem Cur.kept {w0 : World} {v : Value} {zs : List Int} {w w' : World} {P : Nat} (c : Cur w0 v zs w P) (hb : Below (P + 1) w w') : Cur w0 v zs w' P := by
  obtain ⟨R, B, hP, i, h, hi, h1, h2, hh⟩ := c
  exact ⟨R, B.trans (hb.mono (by omega)), hP, i, h, hi, h1, h2, (hb.block P (by omega)).trans hh⟩
theorem Cur.turned {w0 : World} {v : Value} {zs : List Int} {w w' : World} {P : Nat} (R : Row w0 v zs) (B : Below w0.heap.size w0 w) (hP : w0.heap.size ≤ P) (hg : w.grownBy w' (some P)) (hsz : w0.heap.size ≤ w.heap.size) {i : Nat} {h : Int} (hi : i ≤ zs.length) (h1 : -9223372036854775808 ≤ h) (h2 : h ≤ 9223372036854775807)
    (hh : w'.heap[P]? = some (.cells #[v, .int .i64 i, .int .i64 h] 126 (0, 0))) : Cur w0 v zs w' P :=
  ⟨R, B.grown hg hsz (fun k hk => by simp at hk; omega), hP, i, h, hi, h1, h2, hh⟩
theorem grown_drewN {w w' : World} {row : Option Nat} (h : w.grownBy w' row) (n : Nat) : w.grownBy (w'.drewN n) row := ⟨h.os, h.tape, h.output, h.size, h.block⟩
set_option maxHeartbeats 800000 in
theorem byte_any (w0 : World) (v : Value) (zs : List Int) (w : World) (P : Nat) (c : Cur w0 v zs w P) :
    Calls Tryz.prog 83 #[.pointer (some ⟨P, 0, none⟩)] w fun e w' => ∃ x : Int, e = .returned (.int .i64 x) ∧ 0 ≤ x ∧ x ≤ 255 ∧ Cur w0 v zs w' P ∧ w.grownBy w' (some P) := by
  obtain ⟨R, B, hP, i, h, hi, h1, h2, hh⟩ := c
  have R' := R
  obtain ⟨ao, cap, rfl, hcap, hm, hz, hcell⟩ := R'
  have c0 : w.cell? ⟨P, 0, none⟩ = some (.slice ao zs.length cap) := by rw [cell_of_row w P 0 _ 126 (0, 0) hh]; rfl
  have c1 : w.cell? ⟨P, 1, none⟩ = some (.int .i64 i) := by rw [cell_of_row w P 1 _ 126 (0, 0) hh]; rfl
  have c2 : w.cell? ⟨P, 2, none⟩ = some (.int .i64 h) := by rw [cell_of_row w P 2 _ 126 (0, 0) hh]; rfl
  have f1 := frozen_of_row w P 1 _ 126 hh
  have f2 := frozen_of_row w P 2 _ 126 hh
  by_cases hlt : i < zs.length
  · obtain ⟨g, o, rfl, hg, hcell⟩ := hcell (by intro e; subst e; simp at hlt)
    have hc0 : w.cell? ⟨g, o + i, none⟩ = some (.int .u8 (zs.getD i 0)) := (B.cell (p := ⟨g, o + i, none⟩) hg).trans (hcell i hlt)
    have hzb := hz zs[i] (List.getElem_mem _)
    have hgP : g ≠ P := by omega
    clear hcell hz
    go_enter Tryz.func83, Tryz.ntmps83
    go_wp2
    have hwb := wrap64_bounds (wrap64 (h * 6364136223846793005) + 1442695040888963407)
    generalize wrap64 (wrap64 (h * 6364136223846793005) + 1442695040888963407) = h3 at hwb ⊢
    go_quiet (fail)
    have hx := and255 (bits BinOp.xor IntKind.i64 (h3 / 8589934592) (h3 / 35184372088832))
    generalize bits BinOp.and IntKind.i64 (bits BinOp.xor IntKind.i64 (h3 / 8589934592) (h3 / 35184372088832)) 255 = x at hx ⊢
    go_wp2
    go_quiet (fail)
    go_wp2
    go_quiet (fail)
    have hx2 := and255 (x + zs[i])
    generalize bits BinOp.and IntKind.i64 (x + zs[i]) 255 = x2 at hx2 ⊢
    go_wp2
    go_ret
    have hg2 : w.grownBy (w.setCell ⟨P, 2, none⟩ (.int .i64 h3)) (some P) := grown_set w P 2 _
    have hh2 := heap_setCell_same w P 2 _ 126 (.int .i64 h3) hh
    have hh3 := heap_setCell_same (w.setCell ⟨P, 2, none⟩ (.int .i64 h3)) P 1 _ 126 (.int .i64 ((i : Int) + 1)) hh2
    refine ⟨x2, rfl, hx2.1, hx2.2, Cur.turned R B hP ?_ B.size (i := i + 1) (h := h3) (by omega) hwb.1 hwb.2 hh3, ?_⟩
    all_goals exact grown_trans (grown_drewN hg2 _) (grown_set _ P 1 _)
  · clear hcell hz
    go_enter Tryz.func83, Tryz.ntmps83
    go_wp2
    have hwb := wrap64_bounds (wrap64 (h * 6364136223846793005) + 1442695040888963407)
    generalize wrap64 (wrap64 (h * 6364136223846793005) + 1442695040888963407) = h3 at hwb ⊢
    go_quiet (fail)
    have hx := and255 (bits BinOp.xor IntKind.i64 (h3 / 8589934592) (h3 / 35184372088832))
    generalize bits BinOp.and IntKind.i64 (bits BinOp.xor IntKind.i64 (h3 / 8589934592) (h3 / 35184372088832)) 255 = x at hx ⊢
    go_wp2
    go_quiet (fail)
    go_wp2
    go_ret
    have hg2 : w.grownBy (w.setCell ⟨P, 2, none⟩ (.int .i64 h3)) (some P) := grown_set w P 2 _
    have hh2 := heap_setCell_same w P 2 _ 126 (.int .i64 h3) hh
    exact ⟨x, rfl, hx.1, hx.2, Cur.turned R B hP (grown_drewN (grown_drewN hg2 _) _) B.size (i := i) (h := h3) hi hwb.1 hwb.2 hh2, grown_drewN (grown_drewN hg2 _) _⟩
end Go.Proofs.YtkchakcebdenjaaGreat
/-
  Contracts of the draws' own helpers: l1New, l1Below, l1Size: a cursor; a number below another one; a size.
-/
namespace Go.Proofs.YtkchakcebdenjaaGreat
open Go.RowKit
set_option maxRecDepth 100000 in
set_option maxHeartbeats 800000 in
theorem new_any (v : Value) (zs : List Int) (w : World) (R : Row w v zs) (hl : zs.length ≤ 1048576) :
    Calls Tryz.prog 42 #[v] w fun e w' => e = .returned (.pointer (some ⟨w.heap.size, 0, none⟩)) ∧ Cur w v zs w' w.heap.size ∧ Below w.heap.size w w' := by
  have R' := R
  obtain ⟨ao, cap, rfl, hcap, hm, hz, hcell⟩ := R'
  go_enter Tryz.func42, Tryz.ntmps42
  go_wp2
  go_loop [3, 4] (fun h i => ∃ (k : Nat) (q : Int), k ≤ zs.length ∧ i = .int .i64 k ∧ h = .int .i64 q ∧ 0 ≤ q ∧ q ≤ 1073741823) (fun _ i => zs.length - (intOf i).toNat)
  case atStart => exact ⟨0, 17000 + (zs.length : Int), by omega, rfl, rfl, by omega, by omega⟩
  case round =>
    obtain ⟨k, q, hk, rfl, rfl, hq0, hq1⟩ := hrel
    by_cases hlt : k < zs.length
    · by_cases h4 : k < 4000
      · obtain ⟨g, o, hao, hg, hcell2⟩ := hcell (by intro e; subst e; simp at hlt)
        subst hao
        have hc := hcell2 k hlt
        have hzb := hz zs[k] (List.getElem_mem _)
        clear hcell hcell2 hz R
        go_wp2
        have ha := and30 (q * 131 + zs[k] + 7)
        go_round
        case rel => exact ⟨k + 1, _, by omega, by go_num, rfl, ha.1, ha.2⟩
        case measure => simp [intOf]; omega
      · clear hcell hz
        go_wp2
        go_ret
        refine ⟨rfl, ⟨R, (Below.refl _ _).alloc (Nat.le_refl _) _, Nat.le_refl _, 0, q, by omega, by omega, by omega, heap_alloc_new w _⟩, (Below.refl _ _).alloc (Nat.le_refl _) _⟩
    · clear hcell hz
      go_wp2
      go_ret
      refine ⟨rfl, ⟨R, (Below.refl _ _).alloc (Nat.le_refl _) _, Nat.le_refl _, 0, q, by omega, by omega, by omega, heap_alloc_new w _⟩, (Below.refl _ _).alloc (Nat.le_refl _) _⟩
set_option maxHeartbeats 800000 in
theorem below_any (w0 : World) (v : Value) (zs : List Int) (w : World) (P : Nat) (n : Int) (c : Cur w0 v zs w P) (hn : n ≤ 9223372036854775807) :
    Calls Tryz.prog 47 #[.pointer (some ⟨P, 0, none⟩), .int .i64 n] w fun e w' => ∃ x : Int, e = .returned (.int .i64 x) ∧ 0 ≤ x ∧ (1 ≤ n → x < n) ∧ Cur w0 v zs w' P ∧ w.grownBy w' (some P) := by
  by_cases h0 : n ≤ 0
  · go_enter Tryz.func47, Tryz.ntmps47
    go_wp2
    go_ret
    exact ⟨0, rfl, by omega, by omega, c, World.grownBy.refl _ _⟩
  · by_cases h1 : n ≤ 256
    · go_enter Tryz.func47, Tryz.ntmps47
      go_wp2_with fail
      refine (byte_any w0 v zs w P c).mono ?_
      rintro e w1 ⟨x, rfl, hx0, hx1, c1, g1⟩
      go_wp2_with fail
      go_ret
      exact ⟨_, rfl, Int.emod_nonneg _ (by omega), fun _ => Int.emod_lt_of_pos _ (by omega), c1, g1⟩
    · go_enter Tryz.func47, Tryz.ntmps47
      go_wp2_with fail
      refine (byte_any w0 v zs w P c).mono ?_
      rintro e w1 ⟨x, rfl, hx0, hx1, c1, g1⟩
      go_wp2_with fail
      refine (byte_any w0 v zs w1 P c1).mono ?_
      rintro e w2 ⟨y, rfl, hy0, hy1, c2, g2⟩
      go_wp2_with fail
      refine (byte_any w0 v zs w2 P c2).mono ?_
      rintro e w3 ⟨z, rfl, hz0, hz1, c3, g3⟩
      go_wp2_with fail
      refine (byte_any w0 v zs w3 P c3).mono ?_
      rintro e w4 ⟨u, rfl, hu0, hu1, c4, g4⟩
      go_wp2_with fail
      go_ret
      exact ⟨_, rfl, Int.emod_nonneg _ (by omega), fun _ => Int.emod_lt_of_pos _ (by omega), c4, grown_trans (grown_trans (grown_trans g1 g2) g3) g4⟩
end Go.Proofs.YtkchakcebdenjaaGreat
/-
  Contracts of the draws: l1PickInt gives one of its numbers; at gives a byte of the code.
-/
namespace Go.Proofs.YtkchakcebdenjaaGreat
open Go.RowKit
set_option maxHeartbeats 800000 in
theorem pick_any (w0 : World) (v : Value) (zs : List Int) (w : World) (P g cap : Nat) (xs : List Int) (c : Cur w0 v zs w P) (hg : g ≠ P) (h1 : 1 ≤ xs.length) (h2 : xs.length ≤ 1048576) (hr : ∀ x ∈ xs, -9223372036854775808 ≤ x ∧ x ≤ 9223372036854775807)
    (hc : ∀ i, i < xs.length → w.cell? ⟨g, i, none⟩ = some (.int .i64 (xs.getD i 0))) :
    Calls Tryz.prog 86 #[.pointer (some ⟨P, 0, none⟩), .slice (some ⟨g, 0, none⟩) xs.length cap] w fun e w' => ∃ x : Int, e = .returned (.int .i64 x) ∧ -9223372036854775808 ≤ x ∧ x ≤ 9223372036854775807 ∧ Cur w0 v zs w' P ∧ w.grownBy w' (some P) := by
  have hgl := World.block_lt_of_cell? _ _ (hc 0 (by omega))
  simp only at hgl
  go_enter Tryz.func86, Tryz.ntmps86
  go_wp2_with fail
  refine (below_any w0 v zs w P xs.length c (by omega)).mono ?_
  rintro e w1 ⟨x, rfl, hx0, hx1, c1, g1⟩
  have hx := hx1 (by omega)
  obtain ⟨k, rfl⟩ := Int.eq_ofNat_of_zero_le hx0
  have hk : k < xs.length := by omega
  have hck : w1.cell? ⟨g, k, none⟩ = some (.int .i64 (xs.getD k 0)) := by
    rw [World.cell?_of_block (w := w) (g1.block g hgl (by simpa using hg))]; exact hc k hk
  have hrk := hr xs[k] (List.getElem_mem _)
  clear hc hr hx1
  go_wp2_with fail
  go_ret
  exact ⟨_, rfl, hrk.1, hrk.2, c1, g1⟩
theorem ints_new (w : World) (xs : List Int) (t : TypeId) (i : Nat) (hi : i < xs.length) : (w.alloc (.cells (xs.map (Value.int .i64)).toArray t)).cell? ⟨w.heap.size, i, none⟩ = some (.int .i64 (xs.getD i 0)) := by
  rw [cell_of_row _ w.heap.size i _ t (0, 0) (heap_alloc_new w _)]
  simp [hi]
end Go.Proofs.YtkchakcebdenjaaGreat
/-
  Contracts of the draws: l1Once tells yes or no; l1Pick gives one of its texts.
-/
namespace Go.Proofs.YtkchakcebdenjaaGreat
open Go.RowKit
set_option maxHeartbeats 800000 in
theorem once_any (w0 : World) (v : Value) (zs : List Int) (w : World) (P : Nat) (n : Int) (c : Cur w0 v zs w P) (hn : n ≤ 9223372036854775807) :
    Calls Tryz.prog 44 #[.pointer (some ⟨P, 0, none⟩), .int .i64 n] w fun e w' => ∃ b : Bool, e = .returned (.bool b) ∧ Cur w0 v zs w' P ∧ w.grownBy w' (some P) := by
  go_enter Tryz.func44, Tryz.ntmps44
  go_wp2_with fail
  refine (below_any w0 v zs w P n c hn).mono ?_
  rintro e w1 ⟨x, rfl, hx0, hx1, c1, g1⟩
  go_wp2_with fail
  go_ret
  exact ⟨_, rfl, c1, g1⟩
set_option maxHeartbeats 800000 in
theorem picks_any (w0 : World) (v : Value) (zs : List Int) (w : World) (P g cap : Nat) (xs : List ByteArray) (c : Cur w0 v zs w P) (hg : g ≠ P) (h1 : 1 ≤ xs.length) (h2 : xs.length ≤ 1048576)
    (hc : ∀ i, i < xs.length → w.cell? ⟨g, i, none⟩ = some (.string (xs.getD i ByteArray.empty))) :
    Calls Tryz.prog 76 #[.pointer (some ⟨P, 0, none⟩), .slice (some ⟨g, 0, none⟩) xs.length cap] w fun e w' => ∃ s ∈ xs, e = .returned (.string s) ∧ Cur w0 v zs w' P ∧ w.grownBy w' (some P) := by
  have hgl := World.block_lt_of_cell? _ _ (hc 0 (by omega))
  simp only at hgl
  go_enter Tryz.func76, Tryz.ntmps76
  go_wp2_with fail
  refine (below_any w0 v zs w P xs.length c (by omega)).mono ?_
  rintro e w1 ⟨x, rfl, hx0, hx1, c1, g1⟩
  have hx := hx1 (by omega)
  obtain ⟨k, rfl⟩ := Int.eq_ofNat_of_zero_le hx0
  have hk : k < xs.length := by omega
  have hck : w1.cell? ⟨g, k, none⟩ = some (.string (xs.getD k ByteArray.empty)) := by
    rw [World.cell?_of_block (w := w) (g1.block g hgl (by simpa using hg))]; exact hc k hk
  rw [show xs.getD k ByteArray.empty = xs[k] by simp [hk]] at hck
  have hmem : xs[k] ∈ xs := List.getElem_mem _
  generalize xs[k] = s at hck hmem
  clear hc hx1
  go_wp2_with fail
  go_ret
  exact ⟨s, hmem, rfl, c1, g1⟩
theorem strs_new (w : World) (xs : List ByteArray) (t : TypeId) (i : Nat) (hi : i < xs.length) : (w.alloc (.cells (xs.map Value.string).toArray t)).cell? ⟨w.heap.size, i, none⟩ = some (.string (xs.getD i ByteArray.empty)) := by
  rw [cell_of_row _ w.heap.size i _ t (0, 0) (heap_alloc_new w _)]
  simp [hi]
end Go.Proofs.YtkchakcebdenjaaGreat
/-
  Contracts of the draws of nodes: l2DrawAtom, l2DrawNode, l2Spoil: each gives some node, and turns nothing but the cursor.
-/
namespace Go.Proofs.YtkchakcebdenjaaGreat
open Go.RowKit
def ndV (y : Nd) : Value := .agg #[.int .i64 y.k, .int .i64 y.n, .string y.s, .int .i64 y.a, .int .i64 y.b]
def ndO (y : Nd) : Obj := .cells #[.int .i64 y.k, .int .i64 y.n, .string y.s, .int .i64 y.a, .int .i64 y.b] 92 (0, 0)
theorem draw_done {w0 w w3 w4 : World} {v : Value} {zs : List Int} {P : Nat} (c3 : Cur w0 v zs w3 P) (hg : w.grownBy w3 (some P)) (b4 : Below w.heap.size w3 w4) (hP : P < w.heap.size) : Cur w0 v zs w4 P ∧ w.grownBy w4 (some P) :=
  ⟨c3.kept (b4.mono (by omega)), ⟨b4.os.trans hg.os, b4.tape.trans hg.tape, b4.output.trans hg.output, Nat.le_trans hg.size b4.size, fun k hk hne => (b4.block k hk).trans (hg.block k hk hne)⟩⟩
theorem draw_step {w w1 w2 : World} {P : Nat} (hb : Below w.heap.size w w1) (hg : w1.grownBy w2 (some P)) : w.grownBy w2 (some P) :=
  ⟨hg.os.trans hb.os, hg.tape.trans hb.tape, hg.output.trans hb.output, Nat.le_trans hb.size hg.size, fun k hk hne => (hg.block k (Nat.lt_of_lt_of_le hk hb.size) hne).trans (hb.block k hk)⟩
theorem wpList_store_nd {ops : Array Oper} {rest : List Oper} {o : Oper} {a : Act} {w : World} {Q : Exit → Act → World → Prop} (hgd : o.guard = none) (x y : Operand) (ho : o.op = .store 92 x y)
    (g : Nat) (nd : Nd) (hx : a.eval x = .pointer (some ⟨g, 0, none⟩)) (hy : a.eval y = ndV nd) (old : Nd) (hg : w.heap[g]? = some (ndO old))
    (h : ∀ w2 : World, w2.heap[g]? = some (ndO nd) → Below g w w2 → w2.heap.size = w.heap.size → wpList Tryz.prog ops Q rest (a.put o.dst undef) w2) : wpList Tryz.prog ops Q (o :: rest) a w :=
  wpList_store_own hgd 92 x y ho g _ hx hy 92 _ hg Tryz.sizeN rfl (all_oneCell_toArray nd.one) h
theorem empty40 : ByteArray.empty.size ≤ 40 := by decide
def picks6 : List ByteArray := [⟨#[97]⟩, ⟨#[98, 99]⟩, ⟨#[120]⟩, ⟨#[102]⟩, ⟨#[43]⟩, ⟨#[108, 105, 115, 116]⟩]
theorem picks6_size : ∀ s ∈ picks6, s.size ≤ 40 := by decide
set_option maxHeartbeats 1600000 in
theorem datom_any (w0 : World) (v : Value) (zs : List Int) (w : World) (P : Nat) (c : Cur w0 v zs w P) :
    Calls Tryz.prog 122 #[.pointer (some ⟨P, 0, none⟩)] w fun e w' => ∃ x : Nd, e = .returned (ndV x) ∧ x.s.size ≤ 40 ∧ Cur w0 v zs w' P ∧ w.grownBy w' (some P) := by
  have hP := c.lt
  go_enter Tryz.func122, Tryz.ntmps122
  go_wp2_with fail
  have hB0 : Below w.heap.size w (w.alloc (ndO zeroN)) := (Below.refl _ _).alloc (Nat.le_refl _) _
  refine (below_any w0 v zs _ P 8 (c.kept (hB0.mono (by omega))) (by omega)).mono ?_
  rintro e w1 ⟨r, rfl, hr0, hr1, c1, g1⟩
  have hr := hr1 (by omega)
  have hb1 : w1.heap[w.heap.size]? = some (ndO zeroN) := (g1.block _ (by simp) (by simp; omega)).trans (heap_alloc_new _ _)
  have g1' := draw_step hB0 g1
  have hs1 := g1'.size
  clear hB0 g1 hr1
  by_cases h0 : r = 0
  · subst h0
    go_wp2_with (refine wpList_store_nd rfl _ _ rfl w.heap.size (⟨1, 0, ByteArray.empty, 0, 0⟩) rfl rfl zeroN hb1 ?_)
    intro w5 h5 b5 hs5
    obtain ⟨c6, g6⟩ := draw_done c1 g1' b5 hP
    go_wp2_with fail
    exact bodyPost_ret (results_cell_row rfl _ _ w.heap.size 92 _ (0, 0) _ rfl h5 Tryz.underlying92 rfl Tryz.sizeN) rfl ⟨_, rfl, empty40, c6, g6⟩
  by_cases h1 : r = 1
  · subst h1
    go_wp2_with fail
    refine (below_any w0 v zs _ P 2 c1 (by omega)).mono ?_
    rintro e w2 ⟨x, rfl, hx0, hx1, c2, g2⟩
    have hx := hx1 (by omega)
    have hb2 : w2.heap[w.heap.size]? = some (ndO zeroN) := (g2.block _ (Array.getElem?_eq_some_iff.1 hb1).1 (by simp; omega)).trans hb1
    have g2' := grown_trans g1' g2
    clear hx1 g2
    go_wp2_with (refine wpList_store_nd rfl _ _ rfl w.heap.size (⟨2, x, ByteArray.empty, 0, 0⟩) rfl rfl zeroN hb2 ?_)
    intro w5 h5 b5 hs5
    obtain ⟨c6, g6⟩ := draw_done c2 g2' b5 hP
    go_wp2_with fail
    exact bodyPost_ret (results_cell_row rfl _ _ w.heap.size 92 _ (0, 0) _ rfl h5 Tryz.underlying92 rfl Tryz.sizeN) rfl ⟨_, rfl, empty40, c6, g6⟩
  by_cases h2 : r = 2
  · subst h2
    go_wp2_with fail
    have hB1 : Below w1.heap.size w1 (w1.alloc (Obj.cells (picks6.map Value.string).toArray 9)) := (Below.refl _ _).alloc (Nat.le_refl _) _
    have hc1 := c1.lt
    refine (picks_any w0 v zs _ P w1.heap.size 6 picks6 (c1.kept (hB1.mono (by omega))) (by omega) (by decide) (by decide) (fun i hi => strs_new w1 picks6 9 i hi)).mono ?_
    rintro e w2 ⟨s, hs, rfl, c2, g2⟩
    have hb2 : w2.heap[w.heap.size]? = some (ndO zeroN) := (g2.block _ (by have := (Array.getElem?_eq_some_iff.1 hb1).1; simp; omega) (by simp; omega)).trans ((heap_alloc_old _ _ (Array.getElem?_eq_some_iff.1 hb1).1).trans hb1)
    have g2' := grown_trans g1' (draw_step hB1 g2)
    have hs40 := picks6_size s hs
    clear hs g2 hB1
    go_wp2_with (refine wpList_store_nd rfl _ _ rfl w.heap.size (⟨4, 0, s, 0, 0⟩) rfl rfl zeroN hb2 ?_)
    intro w5 h5 b5 hs5
    obtain ⟨c6, g6⟩ := draw_done c2 g2' b5 hP
    go_wp2_with fail
    exact bodyPost_ret (results_cell_row rfl _ _ w.heap.size 92 _ (0, 0) _ rfl h5 Tryz.underlying92 rfl Tryz.sizeN) rfl ⟨_, rfl, hs40, c6, g6⟩
  by_cases h3 : r = 3
  · subst h3
    go_wp2_with fail
    refine (below_any w0 v zs _ P 5 c1 (by omega)).mono ?_
    rintro e w2 ⟨x, rfl, hx0, hx1, c2, g2⟩
    have hx := hx1 (by omega)
    have hb2 : w2.heap[w.heap.size]? = some (ndO zeroN) := (g2.block _ (Array.getElem?_eq_some_iff.1 hb1).1 (by simp; omega)).trans hb1
    have g2' := grown_trans g1' g2
    clear hx1 g2
    go_wp2_with (refine wpList_store_nd rfl _ _ rfl w.heap.size (⟨9, x, ByteArray.empty, 0, 0⟩) rfl rfl zeroN hb2 ?_)
    intro w5 h5 b5 hs5
    obtain ⟨c6, g6⟩ := draw_done c2 g2' b5 hP
    go_wp2_with fail
    exact bodyPost_ret (results_cell_row rfl _ _ w.heap.size 92 _ (0, 0) _ rfl h5 Tryz.underlying92 rfl Tryz.sizeN) rfl ⟨_, rfl, empty40, c6, g6⟩
  by_cases h4 : r = 4
  · subst h4
    go_wp2_with fail
    refine (below_any w0 v zs _ P 5 c1 (by omega)).mono ?_
    rintro e w2 ⟨x, rfl, hx0, hx1, c2, g2⟩
    have hx := hx1 (by omega)
    have hb2 : w2.heap[w.heap.size]? = some (ndO zeroN) := (g2.block _ (Array.getElem?_eq_some_iff.1 hb1).1 (by simp; omega)).trans hb1
    have g2' := grown_trans g1' g2
    clear hx1 g2
    go_wp2_with (refine wpList_store_nd rfl _ _ rfl w.heap.size (⟨8, x, ByteArray.empty, 0, 0⟩) rfl rfl zeroN hb2 ?_)
    intro w5 h5 b5 hs5
    obtain ⟨c6, g6⟩ := draw_done c2 g2' b5 hP
    go_wp2_with fail
    exact bodyPost_ret (results_cell_row rfl _ _ w.heap.size 92 _ (0, 0) _ rfl h5 Tryz.underlying92 rfl Tryz.sizeN) rfl ⟨_, rfl, empty40, c6, g6⟩
  · skip
    go_wp2_with fail
    refine (below_any w0 v zs _ P 12 c1 (by omega)).mono ?_
    rintro e w2 ⟨x, rfl, hx0, hx1, c2, g2⟩
    have hx := hx1 (by omega)
    have hb2 : w2.heap[w.heap.size]? = some (ndO zeroN) := (g2.block _ (Array.getElem?_eq_some_iff.1 hb1).1 (by simp; omega)).trans hb1
    have g2' := grown_trans g1' g2
    clear hx1 g2
    go_wp2_with (refine wpList_store_nd rfl _ _ rfl w.heap.size (⟨3, x - 3, ByteArray.empty, 0, 0⟩) rfl rfl zeroN hb2 ?_)
    intro w5 h5 b5 hs5
    obtain ⟨c6, g6⟩ := draw_done c2 g2' b5 hP
    go_wp2_with fail
    exact bodyPost_ret (results_cell_row rfl _ _ w.heap.size 92 _ (0, 0) _ rfl h5 Tryz.underlying92 rfl Tryz.sizeN) rfl ⟨_, rfl, empty40, c6, g6⟩
set_option maxHeartbeats 1600000 in
theorem dnode_any (w0 : World) (v : Value) (zs : List Int) (w : World) (P : Nat) (m : Nat) (c : Cur w0 v zs w P) (hm : m ≤ 100000) :
    Calls Tryz.prog 105 #[.pointer (some ⟨P, 0, none⟩), .int .i64 m] w fun e w' => ∃ x : Nd, e = .returned (ndV x) ∧ x.s.size ≤ 40 ∧ Cur w0 v zs w' P ∧ w.grownBy w' (some P) := by
  have hP := c.lt
  have hB0 : Below w.heap.size w (w.alloc (ndO zeroN)) := (Below.refl _ _).alloc (Nat.le_refl _) _
  have c0 := c.kept (hB0.mono (show P + 1 ≤ w.heap.size by omega))
  have g0' : w.grownBy (w.alloc (ndO zeroN)) (some P) := World.grownBy_alloc w _ _
  have hb0 : (w.alloc (ndO zeroN)).heap[w.heap.size]? = some (ndO zeroN) := heap_alloc_new _ _
  by_cases h0 : m = 0
  · subst h0
    go_enter Tryz.func105, Tryz.ntmps105
    go_wp2_with fail
    refine (datom_any w0 v zs _ P c0).mono ?_
    rintro e w3 ⟨x, rfl, hx40, c3, g3⟩
    have hb3 : w3.heap[w.heap.size]? = some (ndO zeroN) := (g3.block _ (Array.getElem?_eq_some_iff.1 hb0).1 (by simp; omega)).trans hb0
    have g3' := grown_trans g0' g3
    clear g3
    rw [ndV]
    go_wp2_with (refine wpList_store_nd rfl _ _ rfl w.heap.size (x) rfl rfl zeroN hb3 ?_)
    intro w5 h5 b5 hs5
    obtain ⟨c6, g6⟩ := draw_done c3 g3' b5 hP
    go_wp2_with fail
    exact bodyPost_ret (results_cell_row rfl _ _ w.heap.size 92 _ (0, 0) _ rfl h5 Tryz.underlying92 rfl Tryz.sizeN) rfl ⟨_, rfl, hx40, c6, g6⟩
  · have h0' : ¬ (m : Int) = 0 := by omega
    have hm0 : 0 < m := by omega
    go_enter Tryz.func105, Tryz.ntmps105
    go_wp2_with fail
    refine (once_any w0 v zs _ P 2 c0 (by omega)).mono ?_
    rintro e w1 ⟨b, rfl, c1, g1⟩
    have hb1 : w1.heap[w.heap.size]? = some (ndO zeroN) := (g1.block _ (by simp) (by simp; omega)).trans hb0
    have g1' := grown_trans g0' g1
    clear g1 g0' hb0 c0 hB0
    cases b with
    | true =>
      go_wp2_with fail
      refine (datom_any w0 v zs _ P c1).mono ?_
      rintro e w3 ⟨x, rfl, hx40, c3, g3⟩
      have hb3 : w3.heap[w.heap.size]? = some (ndO zeroN) := (g3.block _ (Array.getElem?_eq_some_iff.1 hb1).1 (by simp; omega)).trans hb1
      have g3' := grown_trans g1' g3
      clear g3
      rw [ndV]
      go_wp2_with (refine wpList_store_nd rfl _ _ rfl w.heap.size (x) rfl rfl zeroN hb3 ?_)
      intro w5 h5 b5 hs5
      obtain ⟨c6, g6⟩ := draw_done c3 g3' b5 hP
      go_wp2_with fail
      exact bodyPost_ret (results_cell_row rfl _ _ w.heap.size 92 _ (0, 0) _ rfl h5 Tryz.underlying92 rfl Tryz.sizeN) rfl ⟨_, rfl, hx40, c6, g6⟩
    | false =>
      go_wp2_with fail
      refine (lmin_any _ _ _).mono ?_
      rintro e w2 ⟨rfl, rfl⟩
      go_wp2_with fail
      refine (below_any w0 v zs _ P (min (m : Int) 5) c1 (by omega)).mono ?_
      rintro e w3 ⟨x, rfl, hx0, hx1, c3, g3⟩
      have hb3 : w3.heap[w.heap.size]? = some (ndO zeroN) := (g3.block _ (Array.getElem?_eq_some_iff.1 hb1).1 (by simp; omega)).trans hb1
      have g3' := grown_trans g1' g3
      have hx := hx1 (by omega)
      clear hx1 g3
      go_wp2_with fail
      refine (below_any w0 v zs _ P 8 c3 (by omega)).mono ?_
      rintro e w4 ⟨r, rfl, hr0, hr1, c4, g4⟩
      have hb4 : w4.heap[w.heap.size]? = some (ndO zeroN) := (g4.block _ (Array.getElem?_eq_some_iff.1 hb3).1 (by simp; omega)).trans hb3
      have g4' := grown_trans g3' g4
      have hr := hr1 (by omega)
      clear hr1 g4 c3 c1
      by_cases h1 : r = 0
      · subst h1
        go_wp2_with fail
        refine (below_any w0 v zs _ P 9 c4 (by omega)).mono ?_
        rintro e w7 ⟨y, rfl, hy0, hy1, c7, g7⟩
        have hb7 : w7.heap[w.heap.size]? = some (ndO zeroN) := (g7.block _ (Array.getElem?_eq_some_iff.1 hb4).1 (by simp; omega)).trans hb4
        have g7' := grown_trans g4' g7
        clear hy1 g7
        go_wp2_with (refine wpList_store_nd rfl _ _ rfl w.heap.size (⟨6, y, ByteArray.empty, (m : Int) - 1 - x, 0⟩) rfl rfl zeroN hb7 ?_)
        intro w5 h5 b5 hs5
        obtain ⟨c6, g6⟩ := draw_done c7 g7' b5 hP
        go_wp2_with fail
        exact bodyPost_ret (results_cell_row rfl _ _ w.heap.size 92 _ (0, 0) _ rfl h5 Tryz.underlying92 rfl Tryz.sizeN) rfl ⟨_, rfl, empty40, c6, g6⟩
      by_cases h2 : r = 1
      · subst h2
        go_wp2_with (refine wpList_store_nd rfl _ _ rfl w.heap.size (⟨7, 0, ByteArray.empty, (m : Int) - 1 - x, 0⟩) rfl rfl zeroN hb4 ?_)
        intro w5 h5 b5 hs5
        obtain ⟨c6, g6⟩ := draw_done c4 g4' b5 hP
        go_wp2_with fail
        exact bodyPost_ret (results_cell_row rfl _ _ w.heap.size 92 _ (0, 0) _ rfl h5 Tryz.underlying92 rfl Tryz.sizeN) rfl ⟨_, rfl, empty40, c6, g6⟩
      · go_wp2_with fail
        refine (lmin_any _ _ _).mono ?_
        rintro e w6 ⟨rfl, rfl⟩
        go_wp2_with fail
        refine (below_any w0 v zs _ P (min (m : Int) 4) c4 (by omega)).mono ?_
        rintro e w7 ⟨y, rfl, hy0, hy1, c7, g7⟩
        have hb7 : w7.heap[w.heap.size]? = some (ndO zeroN) := (g7.block _ (Array.getElem?_eq_some_iff.1 hb4).1 (by simp; omega)).trans hb4
        have g7' := grown_trans g4' g7
        have hy := hy1 (by omega)
        clear hy1 g7
        go_wp2_with (refine wpList_store_nd rfl _ _ rfl w.heap.size (⟨5, 0, ByteArray.empty, (m : Int) - 1 - x, (m : Int) - 1 - y⟩) rfl rfl zeroN hb7 ?_)
        intro w5 h5 b5 hs5
        obtain ⟨c6, g6⟩ := draw_done c7 g7' b5 hP
        go_wp2_with fail
        exact bodyPost_ret (results_cell_row rfl _ _ w.heap.size 92 _ (0, 0) _ rfl h5 Tryz.underlying92 rfl Tryz.sizeN) rfl ⟨_, rfl, empty40, c6, g6⟩
end Go.Proofs.YtkchakcebdenjaaGreat
