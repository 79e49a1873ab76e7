/-
  Texts that stood by themselves, laid into one.
-/
import Derived.Test.YtmbomhcnmjhbnaaGreatDoorMachM
import Derived.Test.YtmbomhcnmjhbnaaGreatDoorPrNew0M
import Derived.Test.YtmbomhcnmjhbnaaGreatDoorDraw2M
import Derived.ProofKit
import Derived.OpenShut
import Derived.ShutString
import Derived.ChangeOld
import Derived.Below
/-
  The law FnProcNew, walked: at every argument it returns true.
-/
namespace Go.Proofs.YtmbomhcnmjhbnaaGreatDoor
open Go.RowKit

set_option maxRecDepth 100000 in
set_option maxHeartbeats 400000 in
theorem fprocnew_big (ao : Option Addr) (len cap : Nat) (w : World) (hl : 1048576 < len) (hm : len ≤ 9223372036854775807) :
    Calls Tryz.prog 3 #[.slice ao len cap] w fun e w' => e = .returned (.bool true) ∧ Below w.heap.size w w' := by
  go_enter Tryz.func3, Tryz.ntmps3
  go_wp2_with (go_at_call 4; go_in)
  go_ret
  exact ⟨rfl, Below.refl _ _⟩

set_option maxRecDepth 100000 in
set_option maxHeartbeats 6400000 in
theorem fprocnew_small (ao : Option Addr) (cap : Nat) (zs : List Int) (w : World) (R : Row w (.slice ao zs.length cap) zs) (hl : zs.length ≤ 1048576) :
    Calls Tryz.prog 3 #[.slice ao zs.length cap] w fun e w' => e = .returned (.bool true) ∧ Below w.heap.size w w' := by
  go_enter Tryz.func3, Tryz.ntmps3
  go_wp2_with (go_at_call 4; go_in)
  refine (ddp_any _ zs w R hl).mono ?_
  rintro e w1 ⟨v1, v2, v3, ns, is, ds, s, i, rfl, hS, hs, O1, b1⟩
  obtain ⟨a1, q1, rfl⟩ := own_form O1.1
  obtain ⟨a2, q2, rfl⟩ := own_form O1.2.1
  obtain ⟨a3, q3, rfl⟩ := own_form O1.2.2
  have h1 := hS.l1
  have h2 := hS.l2
  have h3 := hS.l3
  have hBx := alloc_bel w1 (Obj.cells #[.slice a1 ns.length q1, .slice a2 is.length q2, .slice a3 ds.length q3] 30)
  have hc2 := heap_alloc_new w1 (Obj.cells #[.slice a1 ns.length q1, .slice a2 is.length q2, .slice a3 ds.length q3] 30)
  have O2 := O1.below hBx
  have R1 := NRow.of_own O2.1 (by omega) hS.z1
  have R2 := InRow.of_own O2.2.1 (by omega) hS.z2
  have R3 := DfRow.of_own O2.2.2 (by omega) hS.z3
  have hB2 := b1.trans (hBx.mono b1.size)
  clear O1 O2 b1 hBx R
  go_wp2_with fail
  generalize w1.alloc (Obj.cells #[.slice a1 ns.length q1, .slice a2 is.length q2, .slice a3 ds.length q3] 30) = w2 at *
  generalize w1.heap.size = bc at *
  have IT := iprocnew_any _ _ _ ns is ds s i w2 R1 R2 R3
  have ST := fun (w' : World) (hb : Below w2.heap.size w2 w') => sprocnew_any _ _ _ ns is ds s i w' (R1.below hb) (R2.below hb) (R3.below hb)
  obtain ⟨hlL, hzL⟩ := newL_fits (pnD ns is ds s i)
  have HT := fun h => pn_true (ns := ns) (is := is) (ds := ds) (s := s) (i := i) h
  have HY := fun h => (pn_yes (ns := ns) (is := is) (ds := ds) (s := s) (i := i) h).1
  have HN := fun h => (pn_no (ns := ns) (is := is) (ds := ds) (s := s) (i := i) h).1
  generalize newL (pnD ns is ds s i) = L at *
  generalize newM (pnD ns is ds s i) = M at *
  generalize pnI ns is ds s i = I at *
  generalize pnB ns is ds s i = bb at *
  unfold PnAns at IT ST
  refine IT.mono ?_
  rintro e w3 ⟨⟨v4, rfl, ho3⟩, hb3⟩
  obtain ⟨a4, q4, rfl⟩ := own_form ho3
  have hc3 := blk_bel hc2 hb3
  have hB3 := hB2.trans (hb3.mono hB2.size)
  clear IT
  go_wp2_with (refine wpList_store_own rfl 37 _ _ rfl w3.heap.size #[.int .i64 I, .slice a4 L.length q4, .int .i64 M.p, .int .i64 M.s, .int .i64 M.e, .int .i64 M.d, .int .i64 M.t, .int .i64 M.q, .int .i64 M.r, .slice none 0 0, .slice none 0 0] rfl rfl 37 _ (heap_alloc_new _ _) Tryz.sizeProc rfl (by simp [Value.oneCell']) ?_)
  intro w4 hp4 hb4 hs4
  have hd : Below w3.heap.size w3 w4 := ((Below.refl _ _).alloc (Nat.le_refl _) _).trans hb4
  have ho4 := own_below ho3 hd
  have hc4 := blk_bel hc3 hd
  have hB4 := hB3.trans (hd.mono hB3.size)
  have b24 := hb3.trans (hd.mono hb3.size)
  clear hb4 hs4 hd ho3 hc3 hB3 hb3
  generalize w3.heap.size = bp at *
  go_wp2_with (refine wpList_load_row rfl 30 _ rfl bc rfl 30 #[.slice a1 ns.length q1, .slice a2 is.length q2, .slice a3 ds.length q3] (0, 0) _ hc4 Tryz.underlying30 rfl Tryz.sizeC9 ?_)
  refine (ST _ b24).mono ?_
  rintro e w5 ⟨⟨v5, rfl, ho5⟩, hb5⟩
  obtain ⟨a5, q5, rfl⟩ := own_form ho5
  have ho5' := own_below ho4 hb5
  have hp5 := blk_bel hp4 hb5
  have hc5 := blk_bel hc4 hb5
  have hB5 := hB4.trans (hb5.mono hB4.size)
  have b25 := b24.trans (hb5.mono b24.size)
  clear ST hb5 ho4 hp4 hc4 hB4 b24 ho5
  go_wp2_with (refine wpList_store_own rfl 37 _ _ rfl w5.heap.size #[.int .i64 I, .slice a5 L.length q5, .int .i64 M.p, .int .i64 M.s, .int .i64 M.e, .int .i64 M.d, .int .i64 M.t, .int .i64 M.q, .int .i64 M.r, .slice none 0 0, .slice none 0 0] rfl rfl 37 _ (heap_alloc_new _ _) Tryz.sizeProc rfl (by simp [Value.oneCell']) ?_)
  intro w6 hq6 hb6 hs6
  have hd : Below w5.heap.size w5 w6 := ((Below.refl _ _).alloc (Nat.le_refl _) _).trans hb6
  have ho6 := own_below ho5' hd
  have hp6 := blk_bel hp5 hd
  have hc6 := blk_bel hc5 hd
  have hB6 := hB5.trans (hd.mono hB5.size)
  have b26 := b25.trans (hd.mono b25.size)
  clear hb6 hs6 hd ho5' hp5 hc5 hB5 b25 hq6
  have hbb : (bb != bb) = false := by simp
  have k0 : w6.cell? ⟨bp, 0, none⟩ = some (.int .i64 I) := cell_of_row w6 _ 0 _ _ _ hp6
  have k1 : w6.cell? ⟨bp, 0 + 1, none⟩ = some (.slice a4 L.length q4) := cell_of_row w6 _ 1 _ _ _ hp6
  have k2 : w6.cell? ⟨bp, 0 + 2, none⟩ = some (.int .i64 M.p) := cell_of_row w6 _ 2 _ _ _ hp6
  have k3 : w6.cell? ⟨bp, 0 + 3, none⟩ = some (.int .i64 M.s) := cell_of_row w6 _ 3 _ _ _ hp6
  have k4 : w6.cell? ⟨bp, 0 + 4, none⟩ = some (.int .i64 M.e) := cell_of_row w6 _ 4 _ _ _ hp6
  have k5 : w6.cell? ⟨bp, 0 + 5, none⟩ = some (.int .i64 M.d) := cell_of_row w6 _ 5 _ _ _ hp6
  have k6 : w6.cell? ⟨bp, 0 + 6, none⟩ = some (.int .i64 M.t) := cell_of_row w6 _ 6 _ _ _ hp6
  have k7 : w6.cell? ⟨bp, 0 + 7, none⟩ = some (.int .i64 M.q) := cell_of_row w6 _ 7 _ _ _ hp6
  have k8 : w6.cell? ⟨bp, 0 + 8, none⟩ = some (.int .i64 M.r) := cell_of_row w6 _ 8 _ _ _ hp6
  have k9 : w6.cell? ⟨bp, 0 + 9, none⟩ = some (.slice none 0 0) := cell_of_row w6 _ 9 _ _ _ hp6
  have k10 : w6.cell? ⟨bp, 0 + 10, none⟩ = some (.slice none 0 0) := cell_of_row w6 _ 10 _ _ _ hp6
  cases bb with
  | false =>
    have e0 := HN rfl
    subst e0
    clear HT HY HN
    go_wp2
    go_ret
    exact ⟨rfl, hB6⟩
  | true =>
    have e0 := HY rfl
    obtain ⟨e1, e2⟩ := HT rfl
    have OK := iprocok0_any _ _ _ _ ns is ds I L M w6 (R1.below b26) (R2.below b26) (R3.below b26) (NRow.of_own ho6 (by omega) hzL)
    rw [e1] at OK
    rw [e2] at k6
    subst e0
    have c0 : w6.cell? ⟨bc, 0, none⟩ = some (.slice a1 ns.length q1) := cell_of_row w6 _ 0 _ _ _ hc6
    have c1' : w6.cell? ⟨bc, 0 + 1, none⟩ = some (.slice a2 is.length q2) := cell_of_row w6 _ 1 _ _ _ hc6
    have c2' : w6.cell? ⟨bc, 0 + 2, none⟩ = some (.slice a3 ds.length q3) := cell_of_row w6 _ 2 _ _ _ hc6
    rw [e2] at OK
    clear HT HN HY e1
    go_wp2_with fail
    refine OK.mono ?_
    rintro e w7 ⟨rfl, hb7⟩
    have hp7 := blk_bel hp6 hb7
    have hB7 := hB6.trans (hb7.mono hB6.size)
    have k6' : w7.cell? ⟨bp, 0 + 1 + 5, none⟩ = some (.int .i64 0) := by rw [← e2]; exact cell_of_row w7 _ 6 _ _ _ hp7
    clear OK k0 k1 k2 k3 k4 k5 k6 k7 k8 k9 k10 c0 c1' c2' e2
    go_wp2
    go_ret
    exact ⟨rfl, hB7⟩
end Go.Proofs.YtmbomhcnmjhbnaaGreatDoor

/-
  What a slice of bytes that came in reads as. Nothing of the program; no condition.
-/
namespace Go.Proofs.YtmbomhcnmjhbnaaGreatDoor
open Go.ChangeShapes Go.WideShapes Go.ChangeAt Go.RowKit

theorem ownKnob_none : ownKnob Tryz.prog.godebug = none := by kernel_rfl
theorem laidOut_true : laidOutB Tryz.prog = true := by kernel_rfl

/-- A slice of integers that came in: nil, or a row of 'cap' cells, the numbers zs, the first 'len' its elements. -/
def IsRow (k : IntKind) (w : World) (a : Option Addr) (len cap : Nat) (zs : List Int) : Prop :=
  (a = none ∧ len = 0 ∧ cap = 0 ∧ zs = []) ∨
  ∃ x, a = some x ∧ len ≤ cap ∧ cap ≤ maxLen ∧ zs.length = cap ∧ (∀ i, i < zs.length → w.cell? (x.add i) = some (.int k (zs.getD i 0))) ∧ ∀ n ∈ zs, (Lit.int k n).wf = true

theorem IsRow.len {w : World} {a : Option Addr} {len cap : Nat} {zs : List Int} (h : IsRow .u8 w a len cap zs) : len ≤ 9223372036854775807 ∧ (zs.take len).length = len := by
  rcases h with ⟨rfl, rfl, rfl, rfl⟩ | ⟨x, rfl, hl, hm, hz, _⟩
  · simp
  · unfold maxLen at hm
    simp only [List.length_take]
    omega

theorem IsRow.row {w : World} {a : Option Addr} {len cap : Nat} {zs : List Int} (h : IsRow .u8 w a len cap zs) (hm : len ≤ 140737488351232) : Row w (.slice a (zs.take len).length cap) (zs.take len) := by
  have hlen := h.len.2
  rcases h with ⟨rfl, rfl, rfl, rfl⟩ | ⟨x, rfl, hl, _, hz, hcell, hwf⟩
  · exact ⟨none, 0, rfl, by simp, by simp, by simp, fun h => absurd rfl h⟩
  · refine ⟨some x, cap, rfl, by omega, by omega, fun z hz' => bounds_u8 (hwf z (List.mem_of_mem_take hz')), fun hne => ?_⟩
    have hpos : 0 < len := by
      rcases Nat.eq_zero_or_pos len with h0 | h0
      · subst h0; simp at hne
      · exact h0
    obtain ⟨b, off, spot⟩ := x
    have hc := hcell 0 (by omega)
    have hspot : spot = none := by simpa [Addr.add] using World.cell?_spot hc
    subst hspot
    have hb := World.block_lt_of_cell? _ _ hc
    refine ⟨b, off, rfl, by simpa [Addr.add_lit] using hb, fun i hi => ?_⟩
    have hc := hcell i (by omega)
    rw [Addr.add_lit] at hc
    rw [hc]
    simp only [List.getD_eq_getElem?_getD, List.getElem?_take]
    rw [if_pos (by omega)]

end Go.Proofs.YtmbomhcnmjhbnaaGreatDoor
