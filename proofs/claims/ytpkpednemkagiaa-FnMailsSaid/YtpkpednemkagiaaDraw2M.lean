/-
  Texts that stood by themselves, laid into one.
-/
import Derived.Test.YtpkpednemkagiaaRows
import Derived.WalkKit
import Derived.WalkLawsBesides
import Derived.WalkSpells
import Derived.Deep.QuietTactic
import Derived.BigQuiet
import Derived.Laws.CopyOwn
import Derived.OpenShut
/-
  Helpers for the proofs over this seat: what it is for a slice of bytes to read as a list of numbers in a world. Nothing of the program is proved here; no condition.
-/
namespace Go.Proofs.Ytpkpednemkagiaa
open Go.RowKit

/-- The slice value v reads in w as the bytes zs: its length is theirs, each fits a byte, and where there is one it lies at its place. -/
def Row (w : World) (v : Value) (zs : List Int) : Prop :=
  ∃ ao cap, v = .slice ao zs.length cap ∧ zs.length ≤ cap ∧ zs.length ≤ 140737488351232 ∧ (∀ z ∈ zs, 0 ≤ z ∧ z ≤ 255) ∧
    (zs ≠ [] → ∃ g o, ao = some ⟨g, o, none⟩ ∧ g < w.heap.size ∧ ∀ i, i < zs.length → w.cell? ⟨g, o + i, none⟩ = some (.int .u8 (zs.getD i 0)))

theorem Row.below {w w' : World} {v : Value} {zs : List Int} (h : Row w v zs) (hb : Below w.heap.size w w') : Row w' v zs := by
  obtain ⟨ao, cap, rfl, hc, hm, hz, hcell⟩ := h
  refine ⟨ao, cap, rfl, hc, hm, hz, fun hne => ?_⟩
  obtain ⟨g, o, rfl, hg, hcell⟩ := hcell hne
  exact ⟨g, o, rfl, Nat.lt_of_lt_of_le hg hb.size, fun i hi => (hb.cell (p := ⟨g, o + i, none⟩) hg).trans (hcell i hi)⟩

theorem Try.infoU8 : (Try.prog.info? 5).map (fun i => (i.zero, i.size, i.bytes)) = some (some (.int .u8 0), 1, 1) := by kernel_rfl

/-- The cells of bytes. -/
def bv (zs : List Int) : List Value := zs.map (Value.int .u8)
theorem bv_length (zs : List Int) : (bv zs).length = zs.length := by simp [bv]
theorem bv_append (a b : List Int) : bv (a ++ b) = bv a ++ bv b := by simp [bv]
theorem bv_get (zs : List Int) (i : Nat) (h : i < zs.length) : (bv zs)[i]? = some (.int .u8 (zs.getD i 0)) := by
  simp [bv, List.getD, h]

/-- What the call owns reads as what it holds. -/
theorem Row.of_own {w : World} {base : Nat} {v : Value} {zs : List Int} (h : w.ownsRow base 5 1 v zs.length (bv zs)) (hm : zs.length ≤ 140737488351232) (hz : ∀ z ∈ zs, 0 ≤ z ∧ z ≤ 255) : Row w v zs := by
  rcases h.2 with ⟨rfl, h0⟩ | ⟨g, cap, cur, rfl, hb, hg, hnc, hcm, hcs, htake⟩
  · have : zs = [] := List.eq_nil_of_length_eq_zero h0
    subst this
    exact ⟨none, 0, rfl, by simp, by simp, by simp, fun h => absurd rfl h⟩
  · refine ⟨_, cap, rfl, hnc, hm, hz, fun _ => ⟨g, 0, rfl, (Array.getElem?_eq_some_iff.1 hg).1, fun i hi => ?_⟩⟩
    have := h.cellAt i (by omega)
    rw [Nat.zero_add, this, bv_get zs i hi]

end Go.Proofs.Ytpkpednemkagiaa

/-
  What grows and turns one block alone. Nothing of the program; no condition.
-/
namespace Go.Proofs.Ytpkpednemkagiaa
open Go.RowKit

theorem grown_trans {w1 w2 w3 : World} {row : Option Nat} (h : w1.grownBy w2 row) (k : w2.grownBy w3 row) : w1.grownBy w3 row :=
  ⟨k.os.trans h.os, k.tape.trans h.tape, k.output.trans h.output, Nat.le_trans h.size k.size, fun i hi hne => (k.block i (Nat.lt_of_lt_of_le hi h.size) hne).trans (h.block i hi hne)⟩
theorem grown_set (w : World) (P : Nat) (j : Nat) (v : Value) : w.grownBy (w.setCell ⟨P, j, none⟩ v) (some P) :=
  ⟨rfl, rfl, rfl, by simp [World.setCell], fun k _ hk => heap_setCell_other w ⟨P, j, none⟩ k v (fun e => hk (by simp [e]))⟩
theorem grown_below {w w' : World} (h : Below w.heap.size w w') (row : Option Nat) : w.grownBy w' row :=
  ⟨h.os, h.tape, h.output, h.size, fun k hk _ => h.block k hk⟩

theorem grown_below2 {w w' : World} (h : Below w.heap.size w w') (row : Option Nat) : w.grownBy w' row :=
  ⟨h.os, h.tape, h.output, h.size, fun k hk _ => h.block k hk⟩
/-- A whole struct stored at the head of a block: what is known of the world behind it. -/
theorem wpList_store_own {P : Program} {ops : Array Oper} {rest : List Oper} {o : Oper} {a : Act} {w : World} {Q : Exit → Act → World → Prop} (hgd : o.guard = none) (ty : TypeId) (x y : Operand) (ho : o.op = .store ty x y)
    (g : Nat) (cells : Array Value) (hx : a.eval x = .pointer (some ⟨g, 0, none⟩)) (hy : a.eval y = .agg cells)
    (t : TypeId) (old : Array Value) (hg : w.heap[g]? = some (.cells old t (0, 0))) (hi : (P.info? ty).map (·.size) = some cells.size)
    (hold : old.size = cells.size) (h1 : cells.all (·.oneCell') = true)
    (h : ∀ w2 : World, w2.heap[g]? = some (.cells cells t (0, 0)) → Below g w w2 → w2.heap.size = w.heap.size → wpList P ops Q rest (a.put o.dst undef) w2) : wpList P ops Q (o :: rest) a w :=
  wpList_store_row hgd ty x y ho g cells hx hy t old hg hi hold h1 (h _ (setRow_heap w g old _ t _ hg) (below_setRow (Below.refl _ _) (Nat.le_refl _) _) (size_setRow w g cells))


theorem old2 (w : World) (A B : Obj) : ((w.alloc A).alloc B).heap[w.heap.size]? = some A := (heap_alloc_old _ _ (by simp)).trans (heap_alloc_new _ _)
theorem below2 (w : World) (A B : Obj) : Below w.heap.size w ((w.alloc A).alloc B) := ((Below.refl _ _).alloc (Nat.le_refl _) _).alloc (by simp) _

end Go.Proofs.Ytpkpednemkagiaa

/-
  Contracts of the draws' own cursor: l1New makes one; l1Byte gives a number from 0 to 255 and turns nothing but the cursor.
-/
namespace Go.Proofs.Ytpkpednemkagiaa
open Go.RowKit

theorem and255 (x : Int) : 0 ≤ bits .and .i64 x 255 ∧ bits .and .i64 x 255 ≤ 255 := by
  have e : (BitVec.ofInt IntKind.i64.bits 255).toNat = 255 := by decide
  have hle : ((BitVec.ofInt IntKind.i64.bits x) &&& (BitVec.ofInt IntKind.i64.bits 255)).toNat ≤ 255 := by
    rw [BitVec.toNat_and, e]; exact Nat.and_le_right
  have h : bits .and .i64 x 255 = IntKind.i64.wrap (((BitVec.ofInt IntKind.i64.bits x) &&& (BitVec.ofInt IntKind.i64.bits 255)).toNat : Int) := rfl
  rw [h, IntKind.wrap_i64]
  omega
theorem and30 (x : Int) : 0 ≤ bits .and .i64 x 1073741823 ∧ bits .and .i64 x 1073741823 ≤ 1073741823 := by
  have e : (BitVec.ofInt IntKind.i64.bits 1073741823).toNat = 1073741823 := by decide
  have hle : ((BitVec.ofInt IntKind.i64.bits x) &&& (BitVec.ofInt IntKind.i64.bits 1073741823)).toNat ≤ 1073741823 := by
    rw [BitVec.toNat_and, e]; exact Nat.and_le_right
  have h : bits .and .i64 x 1073741823 = IntKind.i64.wrap (((BitVec.ofInt IntKind.i64.bits x) &&& (BitVec.ofInt IntKind.i64.bits 1073741823)).toNat : Int) := rfl
  rw [h, IntKind.wrap_i64]
  omega

theorem wrap64_bounds (x : Int) : -9223372036854775808 ≤ wrap64 x ∧ wrap64 x ≤ 9223372036854775807 := by
  unfold wrap64; omega

/-- A cursor at block P over a slice that reads as zs in w0: nothing of w0 has turned, and the cursor's place is within zs. -/
def Cur (w0 : World) (v : Value) (zs : List Int) (w : World) (P : Nat) : Prop :=
  Row w0 v zs ∧ Below w0.heap.size w0 w ∧ w0.heap.size ≤ P ∧ ∃ (i : Nat) (h : Int), i ≤ zs.length ∧ -9223372036854775808 ≤ h ∧ h ≤ 9223372036854775807 ∧ w.heap[P]? = some (.cells #[v, .int .i64 i, .int .i64 h] 72 (0, 0))

theorem Cur.lt {w0 : World} {v : Value} {zs : List Int} {w : World} {P : Nat} (c : Cur w0 v zs w P) : P < w.heap.size := by
  obtain ⟨_, _, _, i, h, _, _, _, hh⟩ := c
  exact (Array.getElem?_eq_some_iff.1 hh).1
/-- What leaves the cursor's block alone leaves the cursor. -/
theorem Cur.kept {w0 : World} {v : Value} {zs : List Int} {w w' : World} {P : Nat} (c : Cur w0 v zs w P) (hb : Below (P + 1) w w') : Cur w0 v zs w' P := by
  obtain ⟨R, B, hP, i, h, hi, h1, h2, hh⟩ := c
  exact ⟨R, B.trans (hb.mono (by omega)), hP, i, h, hi, h1, h2, (hb.block P (by omega)).trans hh⟩

theorem Cur.turned {w0 : World} {v : Value} {zs : List Int} {w w' : World} {P : Nat} (R : Row w0 v zs) (B : Below w0.heap.size w0 w) (hP : w0.heap.size ≤ P) (hg : w.grownBy w' (some P)) (hsz : w0.heap.size ≤ w.heap.size) {i : Nat} {h : Int} (hi : i ≤ zs.length) (h1 : -9223372036854775808 ≤ h) (h2 : h ≤ 9223372036854775807)
    (hh : w'.heap[P]? = some (.cells #[v, .int .i64 i, .int .i64 h] 72 (0, 0))) : Cur w0 v zs w' P :=
  ⟨R, B.grown hg hsz (fun k hk => by simp at hk; omega), hP, i, h, hi, h1, h2, hh⟩
theorem grown_drewN {w w' : World} {row : Option Nat} (h : w.grownBy w' row) (n : Nat) : w.grownBy (w'.drewN n) row := ⟨h.os, h.tape, h.output, h.size, h.block⟩

set_option maxHeartbeats 800000 in
theorem byte_any (w0 : World) (v : Value) (zs : List Int) (w : World) (P : Nat) (c : Cur w0 v zs w P) :
    Calls Try.prog 36 #[.pointer (some ⟨P, 0, none⟩)] w fun e w' => ∃ x : Int, e = .returned (.int .i64 x) ∧ 0 ≤ x ∧ x ≤ 255 ∧ Cur w0 v zs w' P ∧ w.grownBy w' (some P) := by
  obtain ⟨R, B, hP, i, h, hi, h1, h2, hh⟩ := c
  have R' := R
  obtain ⟨ao, cap, rfl, hcap, hm, hz, hcell⟩ := R'
  have c0 : w.cell? ⟨P, 0, none⟩ = some (.slice ao zs.length cap) := by rw [cell_of_row w P 0 _ 72 (0, 0) hh]; rfl
  have c1 : w.cell? ⟨P, 1, none⟩ = some (.int .i64 i) := by rw [cell_of_row w P 1 _ 72 (0, 0) hh]; rfl
  have c2 : w.cell? ⟨P, 2, none⟩ = some (.int .i64 h) := by rw [cell_of_row w P 2 _ 72 (0, 0) hh]; rfl
  have f1 := frozen_of_row w P 1 _ 72 hh
  have f2 := frozen_of_row w P 2 _ 72 hh
  by_cases hlt : i < zs.length
  · obtain ⟨g, o, rfl, hg, hcell⟩ := hcell (by intro e; subst e; simp at hlt)
    have hc0 : w.cell? ⟨g, o + i, none⟩ = some (.int .u8 (zs.getD i 0)) := (B.cell (p := ⟨g, o + i, none⟩) hg).trans (hcell i hlt)
    have hzb := hz zs[i] (List.getElem_mem _)
    have hgP : g ≠ P := by omega
    clear hcell hz
    go_enter Try.func36, Try.ntmps36
    go_wp2
    have hwb := wrap64_bounds (wrap64 (h * 6364136223846793005) + 1442695040888963407)
    generalize wrap64 (wrap64 (h * 6364136223846793005) + 1442695040888963407) = h3 at hwb ⊢
    go_quiet (fail)
    have hx := and255 (bits BinOp.xor IntKind.i64 (h3 / 8589934592) (h3 / 35184372088832))
    generalize bits BinOp.and IntKind.i64 (bits BinOp.xor IntKind.i64 (h3 / 8589934592) (h3 / 35184372088832)) 255 = x at hx ⊢
    go_wp2
    go_quiet (fail)
    go_wp2
    go_quiet (fail)
    have hx2 := and255 (x + zs[i])
    generalize bits BinOp.and IntKind.i64 (x + zs[i]) 255 = x2 at hx2 ⊢
    go_wp2
    go_ret
    have hg2 : w.grownBy (w.setCell ⟨P, 2, none⟩ (.int .i64 h3)) (some P) := grown_set w P 2 _
    have hh2 := heap_setCell_same w P 2 _ 72 (.int .i64 h3) hh
    have hh3 := heap_setCell_same (w.setCell ⟨P, 2, none⟩ (.int .i64 h3)) P 1 _ 72 (.int .i64 ((i : Int) + 1)) hh2
    refine ⟨x2, rfl, hx2.1, hx2.2, Cur.turned R B hP ?_ B.size (i := i + 1) (h := h3) (by omega) hwb.1 hwb.2 hh3, ?_⟩
    all_goals exact grown_trans (grown_drewN hg2 _) (grown_set _ P 1 _)
  · clear hcell hz
    go_enter Try.func36, Try.ntmps36
    go_wp2
    have hwb := wrap64_bounds (wrap64 (h * 6364136223846793005) + 1442695040888963407)
    generalize wrap64 (wrap64 (h * 6364136223846793005) + 1442695040888963407) = h3 at hwb ⊢
    go_quiet (fail)
    have hx := and255 (bits BinOp.xor IntKind.i64 (h3 / 8589934592) (h3 / 35184372088832))
    generalize bits BinOp.and IntKind.i64 (bits BinOp.xor IntKind.i64 (h3 / 8589934592) (h3 / 35184372088832)) 255 = x at hx ⊢
    go_wp2
    go_quiet (fail)
    go_wp2
    go_ret
    have hg2 : w.grownBy (w.setCell ⟨P, 2, none⟩ (.int .i64 h3)) (some P) := grown_set w P 2 _
    have hh2 := heap_setCell_same w P 2 _ 72 (.int .i64 h3) hh
    exact ⟨x, rfl, hx.1, hx.2, Cur.turned R B hP (grown_drewN (grown_drewN hg2 _) _) B.size (i := i) (h := h3) hi hwb.1 hwb.2 hh2, grown_drewN (grown_drewN hg2 _) _⟩

end Go.Proofs.Ytpkpednemkagiaa

/-
  Contracts of the draws' own helpers: l1New, l1Below, l1Size: a cursor; a number below another one; a size.
-/
namespace Go.Proofs.Ytpkpednemkagiaa
open Go.RowKit

set_option maxRecDepth 100000 in
set_option maxHeartbeats 800000 in
theorem new_any (v : Value) (zs : List Int) (w : World) (R : Row w v zs) (hl : zs.length ≤ 1048576) :
    Calls Try.prog 21 #[v] w fun e w' => e = .returned (.pointer (some ⟨w.heap.size, 0, none⟩)) ∧ Cur w v zs w' w.heap.size ∧ Below w.heap.size w w' := by
  have R' := R
  obtain ⟨ao, cap, rfl, hcap, hm, hz, hcell⟩ := R'
  go_enter Try.func21, Try.ntmps21
  go_wp2
  go_loop [3, 4] (fun h i => ∃ (k : Nat) (q : Int), k ≤ zs.length ∧ i = .int .i64 k ∧ h = .int .i64 q ∧ 0 ≤ q ∧ q ≤ 1073741823) (fun _ i => zs.length - (intOf i).toNat)
  case atStart => exact ⟨0, 17000 + (zs.length : Int), by omega, rfl, rfl, by omega, by omega⟩
  case round =>
    obtain ⟨k, q, hk, rfl, rfl, hq0, hq1⟩ := hrel
    by_cases hlt : k < zs.length
    · by_cases h4 : k < 4000
      · obtain ⟨g, o, hao, hg, hcell2⟩ := hcell (by intro e; subst e; simp at hlt)
        subst hao
        have hc := hcell2 k hlt
        have hzb := hz zs[k] (List.getElem_mem _)
        clear hcell hcell2 hz R
        go_wp2
        have ha := and30 (q * 131 + zs[k] + 7)
        go_round
        case rel => exact ⟨k + 1, _, by omega, by go_num, rfl, ha.1, ha.2⟩
        case measure => simp [intOf]; omega
      · clear hcell hz
        go_wp2
        go_ret
        refine ⟨rfl, ⟨R, (Below.refl _ _).alloc (Nat.le_refl _) _, Nat.le_refl _, 0, q, by omega, by omega, by omega, heap_alloc_new w _⟩, (Below.refl _ _).alloc (Nat.le_refl _) _⟩
    · clear hcell hz
      go_wp2
      go_ret
      refine ⟨rfl, ⟨R, (Below.refl _ _).alloc (Nat.le_refl _) _, Nat.le_refl _, 0, q, by omega, by omega, by omega, heap_alloc_new w _⟩, (Below.refl _ _).alloc (Nat.le_refl _) _⟩

set_option maxHeartbeats 800000 in
theorem below_any (w0 : World) (v : Value) (zs : List Int) (w : World) (P : Nat) (n : Int) (c : Cur w0 v zs w P) (hn : n ≤ 9223372036854775807) :
    Calls Try.prog 22 #[.pointer (some ⟨P, 0, none⟩), .int .i64 n] w fun e w' => ∃ x : Int, e = .returned (.int .i64 x) ∧ 0 ≤ x ∧ (1 ≤ n → x < n) ∧ Cur w0 v zs w' P ∧ w.grownBy w' (some P) := by
  by_cases h0 : n ≤ 0
  · go_enter Try.func22, Try.ntmps22
    go_wp2
    go_ret
    exact ⟨0, rfl, by omega, by omega, c, World.grownBy.refl _ _⟩
  · by_cases h1 : n ≤ 256
    · go_enter Try.func22, Try.ntmps22
      go_wp2_with fail
      refine (byte_any w0 v zs w P c).mono ?_
      rintro e w1 ⟨x, rfl, hx0, hx1, c1, g1⟩
      go_wp2_with fail
      go_ret
      exact ⟨_, rfl, Int.emod_nonneg _ (by omega), fun _ => Int.emod_lt_of_pos _ (by omega), c1, g1⟩
    · go_enter Try.func22, Try.ntmps22
      go_wp2_with fail
      refine (byte_any w0 v zs w P c).mono ?_
      rintro e w1 ⟨x, rfl, hx0, hx1, c1, g1⟩
      go_wp2_with fail
      refine (byte_any w0 v zs w1 P c1).mono ?_
      rintro e w2 ⟨y, rfl, hy0, hy1, c2, g2⟩
      go_wp2_with fail
      refine (byte_any w0 v zs w2 P c2).mono ?_
      rintro e w3 ⟨z, rfl, hz0, hz1, c3, g3⟩
      go_wp2_with fail
      refine (byte_any w0 v zs w3 P c3).mono ?_
      rintro e w4 ⟨u, rfl, hu0, hu1, c4, g4⟩
      go_wp2_with fail
      go_ret
      exact ⟨_, rfl, Int.emod_nonneg _ (by omega), fun _ => Int.emod_lt_of_pos _ (by omega), c4, grown_trans (grown_trans (grown_trans g1 g2) g3) g4⟩

end Go.Proofs.Ytpkpednemkagiaa
