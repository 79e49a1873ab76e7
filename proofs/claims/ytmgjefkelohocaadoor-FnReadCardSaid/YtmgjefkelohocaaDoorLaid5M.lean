/-
  Texts that stood by themselves, laid into one.
-/
import Derived.Test.YtmgjefkelohocaaDoorMkListM
import Derived.Test.YtmgjefkelohocaaDoorDWriteM
import Derived.Test.YtmgjefkelohocaaDoorLPoolOkM
import Derived.Test.YtmgjefkelohocaaDoorIReadM
import Derived.Test.YtmgjefkelohocaaDoorIRd5M
import Derived.Test.YtmgjefkelohocaaDoorIWrM
import Derived.Test.YtmgjefkelohocaaDoorLReadM
import Derived.Test.YtmgjefkelohocaaDoorNameM
import Derived.ProofKit
import Derived.OpenShut
import Derived.ShutString
import Derived.ChangeOld
import Derived.Below
import Derived.Deep.Slices
import Derived.ChangeSame
import Derived.Test.YtmgjefkelohocaaDoorWordM
import Derived.Test.YtmgjefkelohocaaDoorIWordM
import Derived.LaidMore
import Derived.Stop.Joined
import Derived.Stop.LaidErr
import Derived.Lib.LaidTab
import Derived.WalkSmall
import Derived.Lib.SmallJoins
/-
  The law FnRead, walked: for every list of bytes it returns true. The table of powers of ten and the two error variables are there.
-/
namespace Go.Proofs.YtmgjefkelohocaaDoor
open Go.RowKit

theorem catchr' : CatchR := fun q xs v a b c d h p older w X R hl => catchr_panicking q xs v a b c d h p older w X R hl
theorem readR_small (xs : List Nd) (t : ByteArray) (_ : xs.length ≤ 3001) (_ : ∀ x ∈ xs, x.s.size ≤ 40) : (readR xs t).1.length ≤ 3001 ∧ ∀ x ∈ (readR xs t).1, x.s.size ≤ 40 := by
  by_cases hp : poolB xs = true
  · have := readR_s t hp
    exact ⟨by omega, fun x hx => Nat.le_trans (this.2 x hx) (by omega)⟩
  · unfold readR
    rw [if_neg hp]
    exact ⟨by simp, by simp⟩
/-- The cell of one value of a list. -/
theorem own_cell {w : World} {base n c : Nat} {ao : Option Addr} {vs : List Int} (h : w.ownsRow base 3 1 (.slice ao n c) n (iv vs)) (hn : n = vs.length) (k : Nat) (hk : k < n) : ∃ g, ao = some ⟨g, 0, none⟩ ∧ base ≤ g ∧ g < w.heap.size ∧ w.cell? ⟨g, k, none⟩ = some (.int .i64 (vs.getD k 0)) := by
  rcases h.2 with ⟨e1, h0⟩ | ⟨g, cap, cur, e1, hg, hh, _⟩
  · omega
  · simp only [Value.slice.injEq, true_and] at e1
    obtain ⟨rfl, rfl⟩ := e1
    refine ⟨g, rfl, hg, (Array.getElem?_eq_some_iff.1 hh).1, ?_⟩
    have := h.cellAt k (by omega)
    rw [this]
    have hk2 : k < vs.length := by omega
    simp [iv, List.getD_eq_getElem?_getD, hk2]

set_option maxRecDepth 100000 in
theorem fread_big (ao : Option Addr) (len cap : Nat) (w : World) (hl : 1048576 < len) (hm : len ≤ 9223372036854775807) :
    Calls Tryd.prog 4 #[.slice ao len cap] w fun e w' => e = .returned (.bool true) ∧ Below w.heap.size w w' := by
  go_enter Tryd.func4, Tryd.ntmps4
  go_wp2_with (go_at_call 8; go_in)
  go_ret
  exact ⟨rfl, Below.refl _ _⟩

set_option maxRecDepth 100000 in
set_option maxHeartbeats 6400000 in
theorem fread_small (ao : Option Addr) (cap : Nat) (zs : List Int) (w : World) (R : Row w (.slice ao zs.length cap) zs) (hl : zs.length ≤ 1048576) (hT : Pow w.heap.size w) (hE : Errs w.heap.size w) :
    Calls Tryd.prog 4 #[.slice ao zs.length cap] w fun e w' => e = .returned (.bool true) ∧ Below w.heap.size w w' := by
  go_enter Tryd.func4, Tryd.ntmps4
  go_wp2_with (go_at_call 8; go_in)
  refine (dread_any _ zs w R hl).mono ?_
  rintro e w1 ⟨v1, xs, s, rfl, hxl, hz, hs, ho1, b1⟩
  have R1 := NRow.of_own ho1 (by omega) (fun x hx => Nat.le_trans (hz x hx) (by unfold maxLen; omega))
  obtain ⟨a1, q1, rfl⟩ := own_form ho1
  have hB2 : Below w1.heap.size w1 (w1.alloc (Obj.cells #[.slice a1 xs.length q1] 26)) := (Below.refl _ _).alloc (Nat.le_refl _) _
  have R2 := R1.below hB2
  have hq2 : (w1.alloc (Obj.cells #[.slice a1 xs.length q1] 26)).heap[w1.heap.size]? = some (.cells #[.slice a1 xs.length q1] 26 (0, 0)) := heap_alloc_new _ _
  have hBB2 := b1.trans (hB2.mono b1.size)
  clear ho1 R1 b1 hB2
  go_wp2_with fail
  generalize w1.alloc (Obj.cells #[.slice a1 xs.length q1] 26) = w2 at *
  generalize w1.heap.size = q at *
  have hql := (Array.getElem?_eq_some_iff.1 hq2).1
  refine (iread_any catchr' _ xs s _ R2 (by unfold maxLen; omega) ((hT.on hBB2).mono hBB2.size) ((hE.on hBB2).mono hBB2.size)).mono ?_
  rintro e w3 ⟨v3, l3, rfl, ho3, hl3, hb3⟩
  have hq3 := (hb3.block _ hql).trans hq2
  have R3 := R2.below hb3
  have hBB3 := hBB2.trans (hb3.mono hBB2.size)
  have hw3 := hb3.size
  obtain ⟨hns, hnz⟩ := readR_small xs s hxl hz
  obtain ⟨a3, q3, rfl⟩ := own_form ho3
  obtain ⟨al, ql, rfl⟩ := own_form hl3
  clear hq2 R2 hb3 hBB2 hz
  have hB4 : Below w3.heap.size w3 (w3.alloc (Obj.cells #[.slice a3 (readR xs s).1.length q3] 26)) := (Below.refl _ _).alloc (Nat.le_refl _) _
  have hp4 : (w3.alloc (Obj.cells #[.slice a3 (readR xs s).1.length q3] 26)).heap[w3.heap.size]? = some (.cells #[.slice a3 (readR xs s).1.length q3] 26 (0, 0)) := heap_alloc_new _ _
  have hq4 := (hB4.block _ (Array.getElem?_eq_some_iff.1 hq3).1).trans hq3
  have R4 := R3.below hB4
  have ho4 := own_below ho3 hB4
  have hl4 := own_below hl3 hB4
  have hBB4 := hBB3.trans (hB4.mono hBB3.size)
  have hqp : q < w3.heap.size := (Array.getElem?_eq_some_iff.1 hq3).1
  have hw32 : w2.heap.size ≤ w3.heap.size := hw3
  clear hq3 R3 hB4 ho3 hl3 hBB3 hw3
  have c4 : (w3.alloc (Obj.cells #[.slice a3 (readR xs s).1.length q3] 26)).cell? ⟨q, 0, none⟩ = some (.slice a1 xs.length q1) := cell_of_row _ _ 0 _ _ _ hq4
  go_wp2_with fail
  generalize w3.alloc (Obj.cells #[.slice a3 (readR xs s).1.length q3] 26) = w4 at *
  generalize w3.heap.size = p at *
  refine (sread_any _ xs s _ R4 (by unfold maxLen; omega)).mono ?_
  rintro e w5 ⟨v5, l5, rfl, ho5, hl5, hb5⟩
  have hq5 := (hb5.block _ (Array.getElem?_eq_some_iff.1 hq4).1).trans hq4
  have hp5 := (hb5.block _ (Array.getElem?_eq_some_iff.1 hp4).1).trans hp4
  have ho5' := own_below ho4 hb5
  have hl5' := own_below hl4 hb5
  have hBB5 := hBB4.trans (hb5.mono hBB4.size)
  obtain ⟨f1, f2⟩ := readR_facts xs s
  obtain ⟨a5, q5, rfl⟩ := own_form ho5
  obtain ⟨al5, ql5, rfl⟩ := own_form hl5
  generalize readR xs s = rr at *
  obtain ⟨ns, vs, how, place⟩ := rr
  dsimp only at *
  have hB6 : Below w5.heap.size w5 (w5.alloc (Obj.cells #[.slice a5 ns.length q5] 26)) := (Below.refl _ _).alloc (Nat.le_refl _) _
  have hq6 := (hB6.block _ (Array.getElem?_eq_some_iff.1 hq5).1).trans hq5
  have hp6 := (hB6.block _ (Array.getElem?_eq_some_iff.1 hp5).1).trans hp5
  have ho6 := own_below ho5' hB6
  have hl6 := own_below hl5' hB6
  have hBB6 := hBB5.trans (hB6.mono hBB5.size)
  have c6 : (w5.alloc (Obj.cells #[.slice a5 ns.length q5] 26)).cell? ⟨q, 0, none⟩ = some (.slice a1 xs.length q1) := cell_of_row _ _ 0 _ _ _ hq6
  have d6 : (w5.alloc (Obj.cells #[.slice a5 ns.length q5] 26)).cell? ⟨p, 0, none⟩ = some (.slice a3 ns.length q3) := cell_of_row _ _ 0 _ _ _ hp6
  clear c4 hq4 hp4 ho4 hl4 hBB4 R4 hq5 hp5 ho5' hl5' hBB5 hB6 ho5 hl5 hb5
  by_cases h0 : how = 0
  · obtain ⟨rfl, hpn, hall⟩ := f2 h0
    clear f1 f2
    subst h0
    have HP : Hid (poolB ns = true) := hpn
    have HA : Hid (AllR ns vs) := hall
    clear hpn hall
    go_wp2_with fail
    generalize w5.alloc (Obj.cells #[.slice a5 ns.length q5] 26) = w6 at *
    have hT6 : Pow w6.heap.size w6 := (hT.on hBB6).mono hBB6.size
    have hE6 : Errs w6.heap.size w6 := (hE.on hBB6).mono hBB6.size
    have R6 := NRow.of_own ho6 (by omega) (fun x hx => Nat.le_trans (hnz x hx) (by unfold maxLen; omega))
    have hpl := (Array.getElem?_eq_some_iff.1 hp6).1
    clear hT hE R c6 hq6 ho6
    have hvl : vs.length ≤ maxLen := by
      rcases hl6.2 with ⟨_, h⟩ | ⟨g', c', cur, e, _, _, h1, h2, _⟩
      · omega
      · omega
    unfold maxLen at hvl
    go_loopw [13] (fun i wr => ∃ k : Nat, k ≤ vs.length ∧ i = .int .i64 k ∧ Below w6.heap.size w6 wr) (fun i _ => vs.length - (intOf i).toNat)
    case atStart => exact ⟨0, by omega, rfl, Below.refl _ _⟩
    case round =>
      obtain ⟨k, hk, rfl, hbr⟩ := hrel
      have hpr := (hbr.block _ hpl).trans hp6
      have dr : wr.cell? ⟨p, 0, none⟩ = some (.slice a3 ns.length q3) := cell_of_row wr _ 0 _ _ _ hpr
      have hplr := (Array.getElem?_eq_some_iff.1 hpr).1
      have Rr := R6.below hbr
      have hlr := own_below hl6 hbr
      have hTr : Pow wr.heap.size wr := (hT6.on hbr).mono hbr.size
      have hEr : Errs wr.heap.size wr := (hE6.on hbr).mono hbr.size
      clear d6
      by_cases hlt : k < vs.length
      · obtain ⟨g, rfl, hgb, hgl, hgc⟩ := own_cell hlr rfl k hlt
        obtain ⟨n, hn, hrd⟩ := HA.out (vs.getD k 0) (by rw [List.getD_eq_getElem?_getD, List.getElem?_eq_getElem hlt]; exact List.getElem_mem _)
        rw [hn] at hgc
        have hagain := read_again HP.out hrd
        have hlt' : (k : Int) < vs.length := by omega
        generalize hwr : writeR ns n = ln at hagain
        have HW : Hid (writeR ns n = ln) := hwr
        have hln : ln.length ≤ 400 := by
          rw [← hwr]
          unfold writeR
          split
          · split
            · assumption
            · simp
          · simp
        have hts := tx_size ln
        clear hwr
        go_wp2_with fail
        go_region_held (fun w' => w'.cell? ⟨p, 0, none⟩ = some (.slice a3 ns.length q3) ∧ w'.cell? ⟨g, k, none⟩ = some (.int .i64 n)) (first | exact ⟨s7, t7⟩ | go_keep) (first
          | (go_at_call 13; refine (iwrite_any _ ns n _ ?_ ?_).mono ?_; exact Rr.below (Below.refl _ _).drew; exact hTr.on (Below.refl _ _).drew; rintro e w7 ⟨rfl, hb7⟩; rw [HW.out]; have t07 : Below wr.heap.size wr w7 := (Below.refl _ _).drew.trans hb7; have s7 := (t07.cell (p := ⟨p, 0, none⟩) hplr).trans dr; have t7 := (t07.cell (p := ⟨g, k, none⟩) hgl).trans hgc))
        have R7 := Rr.below t07
        have hT7 : Pow w7.heap.size w7 := (hTr.on t07).mono t07.size
        have hE7 : Errs w7.heap.size w7 := (hEr.on t07).mono t07.size
        have hb67 := hbr.trans (t07.mono hbr.size)
        have hg7 : g < w7.heap.size := Nat.lt_of_lt_of_le hgl t07.size
        clear hb7 t07 dr hgc Rr hTr hEr hpr hlr
        go_wp2_with fail
        refine (iread_any catchr' _ ns (tx ln) _ R7 (by rw [hts]; unfold maxLen; omega) hT7 hE7).mono ?_
        rintro e w8 ⟨v8, l8, rfl, ho8, hl8, hb8⟩
        have hb68 := hb67.trans (hb8.mono hb67.size)
        have t8 := (hb8.cell (p := ⟨g, k, none⟩) hg7).trans t7
        have hg8 : g < w8.heap.size := Nat.lt_of_lt_of_le hg7 hb8.size
        obtain ⟨hn2, hz2⟩ := readR_small ns (tx ln) hns hnz
        obtain ⟨a8, q8, rfl⟩ := own_form ho8
        obtain ⟨al8, ql8, rfl⟩ := own_form hl8
        generalize readR ns (tx ln) = rr2 at *
        obtain ⟨ns2, vs2, how2, place2⟩ := rr2
        dsimp only at *
        have hB9 : Below w8.heap.size w8 (w8.alloc (Obj.cells #[.slice a8 ns2.length q8] 26)) := (Below.refl _ _).alloc (Nat.le_refl _) _
        have hp9 : (w8.alloc (Obj.cells #[.slice a8 ns2.length q8] 26)).heap[w8.heap.size]? = some (.cells #[.slice a8 ns2.length q8] 26 (0, 0)) := heap_alloc_new _ _
        have hb69 := hb68.trans (hB9.mono hb68.size)
        have ho9 := own_below ho8 hB9
        have hl9 := own_below hl8 hB9
        have t9 := (hB9.cell (p := ⟨g, k, none⟩) hg8).trans t8
        have hg9 : g < (w8.alloc (Obj.cells #[.slice a8 ns2.length q8] 26)).heap.size := Nat.lt_of_lt_of_le hg8 hB9.size
        clear hb8 t8 t7 s7 ho8 hl8 R7 hT7 hE7 hb67 hb68 hB9 hg8 hg7
        clear hts hln
        cases hb : ((tx ln).toList == ([] : List UInt8)) with
        | true =>
          clear hagain
          go_wp2_with fail
          go_roundw
          case rel => exact ⟨k + 1, by omega, by go_num, hb69⟩
          case measure => simp [intOf]; omega
        | false =>
          have hne : ln ≠ [] := by
            rintro rfl
            rw [show tx [] = (⟨#[]⟩ : ByteArray) from rfl, ByteArray.toList_eq] at hb
            simp at hb
          rcases hagain hne with h6 | ⟨h0, m, hm, hsame⟩
          · subst h6
            clear hagain
            go_wp2_with fail
            go_roundw
            case rel => exact ⟨k + 1, by omega, by go_num, hb69⟩
            case measure => simp [intOf]; omega
          · subst h0 hm
            clear hagain
            have HS : Hid (sameR ns2 n m = true) := hsame
            clear hsame
            have R9 := NRow.of_own ho9 (by omega) (fun x hx => Nat.le_trans (hz2 x hx) (by unfold maxLen; omega))
            obtain ⟨g9, rfl, hgb9, hgl9, hgc9⟩ := own_cell hl9 rfl 0 (by simp)
            have hgm : (w8.alloc (Obj.cells #[.slice a8 ns2.length q8] 26)).cell? ⟨g9, 0, none⟩ = some (.int .i64 m) := hgc9
            have s9 : (w8.alloc (Obj.cells #[.slice a8 ns2.length q8] 26)).cell? ⟨w8.heap.size, 0, none⟩ = some (.slice a8 ns2.length q8) := cell_of_row _ _ 0 _ _ _ hp9
            clear hgc9 hl9 ho9 hp9
            go_wp2_with fail
            generalize w8.alloc (Obj.cells #[.slice a8 ns2.length q8] 26) = w9 at *
            generalize w8.heap.size = b8 at *
            go_region_held (fun w' => w'.cell? ⟨b8, 0, none⟩ = some (.slice a8 ns2.length q8) ∧ w'.cell? ⟨g, k, none⟩ = some (.int .i64 n) ∧ w'.cell? ⟨g9, 0, none⟩ = some (.int .i64 m)) (first | exact trivial | go_keep) (first
              | (go_at_call 10; refine (isame_any _ ns2 n m _ ?_).mono ?_; exact R9.below (Below.refl _ _).drew; rintro e w10 ⟨rfl, hb10⟩; rw [HS.out]; have hb910 : Below w9.heap.size w9 w10 := (Below.refl _ _).drew.trans hb10; have s10 := (hb910.cell (p := ⟨b8, 0, none⟩) (World.block_lt_of_cell? _ _ s9)).trans s9; have u10 := (hb910.cell (p := ⟨g, k, none⟩) (World.block_lt_of_cell? _ _ t9)).trans t9; have v10 := (hb910.cell (p := ⟨g9, 0, none⟩) (World.block_lt_of_cell? _ _ hgm)).trans hgm))
            have hb610 := hb69.trans (hb910.mono hb69.size)
            go_wp2_with fail
            go_roundw
            case rel => exact ⟨k + 1, by omega, by go_num, hb610⟩
            case measure => simp [intOf]; omega
      · have hkv : ¬ (k : Int) < vs.length := by omega
        go_wp2_with fail
        refine (ipool_any _ ns _ Rr).mono ?_
        rintro e w7 ⟨rfl, hb7⟩
        have hb67 := hbr.trans (hb7.mono hbr.size)
        have hpn := HP.out
        go_wp2_with fail
        go_ret
        exact ⟨by first | rfl | simp [hpn], hBB6.trans (hb67.mono hBB6.size)⟩
  · obtain ⟨rfl, ⟨hp0, hp1⟩, hlen⟩ := f1 h0
    clear f1 f2
    have hb : ((ns.length : Int) == (xs.length : Int) || (ns.length : Int) == 0) = true := by
      rcases hlen with h | h
      · simp [h]
      · rw [h]; simp
    clear hlen
    go_wp2_with fail
    all_goals
      first
        | (exfalso; omega)
        | (go_ret
           first
             | exact ⟨rfl, hBB6⟩
             | exact ⟨by rw [hb]; rfl, hBB6⟩)
end Go.Proofs.YtmgjefkelohocaaDoor

/-
  What a pool and a node that came in read as. Nothing of the program; no condition.
-/
namespace Go.Proofs.YtmgjefkelohocaaDoor
open Go.ChangeShapes Go.WideShapes Go.ChangeAt Go.RowKit Go.Deep

theorem ownKnob_none2 : ownKnob Tryd.prog.godebug = none := by kernel_rfl
theorem laidOut_true2 : laidOutB Tryd.prog = true := by kernel_rfl

section
variable {H : Type} {enc : TypeId × Value → H} {w : World} {base : Nat} {spare : Nat → Bool} {held : Bool}

set_option maxRecDepth 100000 in
/-- A node that came in: its five cells. -/
theorem node_cells {fuel : Nat} {cs : List Value} {x : DataW H × List MemPlace} (h : DataW.trod enc Tryd.prog w base spare held fuel 118 cs = some x) :
    ∃ nd : Nd, cs = nd.cs ∧ nd.s.size ≤ maxLen := by
  obtain ⟨xs, n, _, _, hl, hlen, hf⟩ := DataW.trod_struct Tryd.underlying118 h
  rw [show Tryd.prog.cellsOf 118 = 5 by kernel_rfl] at hl
  match cs, hl with
  | [v0, v1, v2, v3, v4], _ =>
    have g0 := hf 0 _ rfl
    have g1 := hf 1 _ rfl
    have g2 := hf 2 _ rfl
    have g3 := hf 3 _ rfl
    have g4 := hf 4 _ rfl
    have i1 : Tryd.prog.cellsOf 3 = 1 := by kernel_rfl
    have i2 : Tryd.prog.cellsOf 9 = 1 := by kernel_rfl
    match xs, hlen with
    | [y0, y1, y2, y3, y4], _ =>
      simp [i1, i2] at g0 g1 g2 g3 g4
      obtain ⟨k, e0, _⟩ := DataW.trod_int Tryd.underlying3 g0
      obtain ⟨m, e1, _⟩ := DataW.trod_int Tryd.underlying3 g1
      obtain ⟨s, e2, _, hs⟩ := DataW.trod_string Tryd.underlying9 g2
      obtain ⟨a, e3, _⟩ := DataW.trod_int Tryd.underlying3 g3
      obtain ⟨b, e4, _⟩ := DataW.trod_int Tryd.underlying3 g4
      simp only [List.cons.injEq, and_true] at e0 e1 e2 e3 e4
      subst e0 e1 e2 e3 e4
      exact ⟨⟨k, m, s, a, b⟩, rfl, hs⟩

set_option maxRecDepth 100000 in
/-- A pool that came in: a slice that reads as nodes. -/
theorem open_pool {v : Value} {d : DataW H} {p : List MemPlace} (hv : Value.okWide Tryd.prog w .any base 42 v) (h : DataW.Trod enc Tryd.prog w 0 (fun _ => true) true 42 v d p) :
    ∃ v' xs, v = .agg #[v'] ∧ NRow w v' xs := by
  obtain ⟨cs, rfl, hsz⟩ := okWide_struct Tryd.underlying42 hv
  rw [show Tryd.prog.cellsOf 42 = 1 by kernel_rfl] at hsz
  obtain ⟨fuel, hf⟩ := h
  obtain ⟨y0, n, _, _, h0⟩ := trod_struct1 Tryd.underlying42 hf
  obtain ⟨v', rfl⟩ : ∃ v', cs = #[v'] := by
    obtain ⟨l⟩ := cs
    match l, hsz with
    | [v'], _ => exact ⟨v', rfl⟩
  · have i1 : Tryd.prog.cellsOf 40 = 1 := by kernel_rfl
    have i5 : Tryd.prog.cellsOf 118 = 5 := by kernel_rfl
    simp [Value.cells, i1] at h0
    rcases open_slice Tryd.underlying40 h0 with ⟨hcs, _⟩ | ⟨a, len, cap, m, n, D, Pl, hcs, _, hl, hm, hmm, _, hx⟩
    · simp at hcs
      subst hcs
      exact ⟨_, [], rfl, none, 0, rfl, by simp, by simp, by simp, fun h => absurd rfl h⟩
    · simp at hcs
      subst hcs
      simp at hmm
      subst hmm
      rw [i5] at hx
      have each : ∀ i, i < m → ∃ nd : Nd, nd.s.size ≤ maxLen ∧ ∀ j, j < 5 → w.cell? (a.add (i * 5 + j)) = nd.cs[j]? := by
        intro i hi
        obtain ⟨cs', h1, h2⟩ := hx i hi
        obtain ⟨nd, rfl, hs⟩ := node_cells h2
        obtain ⟨_, hlen, hcell⟩ := World.cells?_some h1
        refine ⟨nd, hs, fun j hj => ?_⟩
        have := hcell j (by omega)
        rw [add_add] at this
        rw [this]
      haveI : Inhabited Nd := ⟨⟨0, 0, ByteArray.empty, 0, 0⟩⟩
      obtain ⟨q, hq⟩ := choose_lt each
      refine ⟨_, (List.range len).map q, rfl, some a, m, ?_, ?_, ?_, ?_, ?_⟩
      · simp
      · exact ⟨by simpa using hl, fun h => by cases h⟩
      · unfold maxLen at hm; simp; omega
      · intro x hx'
        simp at hx'
        obtain ⟨i, hi, rfl⟩ := hx'
        exact (hq i (by omega)).1
      · intro hne
        have hpos : 0 < len := by
          rcases Nat.eq_zero_or_pos len with h0 | h0
          · subst h0; simp at hne
          · exact h0
        obtain ⟨b, off, spot⟩ := a
        have hc := (hq 0 (by omega)).2 0 (by omega)
        simp only [Nd.cs, List.getElem?_cons_zero] at hc
        have hspot : spot = none := by simpa [Addr.add] using World.cell?_spot hc
        subst hspot
        have hb := World.block_lt_of_cell? _ _ hc
        refine ⟨b, off, rfl, by simpa [Addr.add_lit] using hb, fun i x hi => ?_⟩
        have hil : i < len := by
          have := (List.getElem?_eq_some_iff.1 hi).1
          simpa using this
        have hxe : x = q i := by
          rw [List.getElem?_map, List.getElem?_range hil] at hi
          simpa using hi.symm
        subst hxe
        have e : ∀ j, j < 5 → w.cell? ⟨b, off + i * 5 + j, none⟩ = (q i).cs[j]? := fun j hj => by
          have := (hq i (by omega)).2 j hj
          rw [Addr.add_lit] at this
          rw [← this, Nat.add_assoc]
        exact ⟨e 0 (by omega), e 1 (by omega), e 2 (by omega), e 3 (by omega), e 4 (by omega)⟩

end
end Go.Proofs.YtmgjefkelohocaaDoor

/-
  What the listed variables give: the library's table of powers of ten reads as it is laid, and its two error variables are there. No condition beyond that list.
-/
namespace Go.Proofs.YtmgjefkelohocaaDoor
open Go.ChangeShapes Go.WideShapes Go.ChangeAt Go.RowKit

/-- The list of the rows of this seat that reach strconv.Atoi. -/
def laid5 : List (String × DataW Unit) := Rows.fnExactReadRow.laid

theorem pow10_data5 : (Rows.laid_internal_strconv_uint64pow10 : DataW Unit) = Lib.tabData .u64 Lib.pow10Tab := by kernel_rfl
theorem Tryd.gRange : Tryd.prog.globalNamed "strconv.ErrRange" = some 4 := by kernel_rfl
theorem Tryd.gSyntax : Tryd.prog.globalNamed "strconv.ErrSyntax" = some 3 := by kernel_rfl
theorem Tryd.gRangeT : (Tryd.prog.globals[4]?).map (·.type) = some 141 := by kernel_rfl
theorem Tryd.gSyntaxT : (Tryd.prog.globals[3]?).map (·.type) = some 141 := by kernel_rfl
theorem Tryd.cellsE : Tryd.prog.cellsOf 169 = 1 := by kernel_rfl
theorem Tryd.cellsS : Tryd.prog.cellsOf 9 = 1 := by kernel_rfl
theorem errStar : "*" ++ "errors.errorString" = "*errors.errorString" := by decide
theorem Tryd.rowE (u : TypeId) (h : Tryd.prog.typeName? 3 u = some "*errors.errorString") : u = 167 :=
  typeName_ptr_named (nm := "errors.errorString") (by rw [errStar]; kernel_rfl) (by kernel_rfl) (by decide) u (by rw [errStar]; exact h)
theorem plain5 {W : World} (h : laidMetH Tryd.prog laid5 W) : laidMet Tryd.prog laid5 W := by
  rw [MakeChecks.laidMetH_plain _ _ _ (by kernel_rfl)] at h
  exact h
theorem pow_of_laid5 {W : World} (h0 : laidMetH Tryd.prog laid5 W) : Pow W.heap.size W := by
  have h' : laidMet Tryd.prog (("internal/strconv.uint64pow10", Rows.laid_internal_strconv_uint64pow10) :: [("strconv.ErrRange", Rows.laid_strconv_ErrRange), ("strconv.ErrSyntax", Rows.laid_strconv_ErrSyntax)]) W := (plain5 h0).tail.tail
  rw [pow10_data5] at h'
  exact Lib.tabBelow_of_tabIs (Lib.tabIs_of_head (g := 0) (by kernel_rfl) (by kernel_rfl) Tryd.underlying146 Tryd.underlying135 (by kernel_rfl) (by kernel_rfl) h')
theorem errs_of_laid5 {W : World} (h0 : laidMetH Tryd.prog laid5 W) : Errs W.heap.size W := by
  have h' : laidMet Tryd.prog (("strconv.ErrRange", Rows.laid_strconv_ErrRange) :: [("strconv.ErrSyntax", Rows.laid_strconv_ErrSyntax)]) W := (plain5 h0).tail.tail.tail
  obtain ⟨a0, s0, hv0, _⟩ := laid_sentinel h' Tryd.gRange Tryd.gRangeT Tryd.underlying141 Tryd.rowE Tryd.underlying167 Tryd.underlying169 rfl rfl Tryd.underlying9 Tryd.cellsE Tryd.cellsS
  obtain ⟨a1, s1, hv1, _⟩ := laid_sentinel h'.tail Tryd.gSyntax Tryd.gSyntaxT Tryd.underlying141 Tryd.rowE Tryd.underlying167 Tryd.underlying169 rfl rfl Tryd.underlying9 Tryd.cellsE Tryd.cellsS
  intro w' hb
  exact ⟨⟨_, _, Joins.var_stays Tryd.gSyntax hv1 hb (Nat.le_refl _)⟩, ⟨_, _, Joins.var_stays Tryd.gRange hv0 hb (Nat.le_refl _)⟩⟩

/-- The door's own heap meets the condition. -/
theorem door_met5 (os : Os) (args : Array Value) : laidMetH Tryd.prog laid5 ((World.doorLaid Tryd.prog 62 os).forCall (fun _ _ => 0) ⟨#[], args, []⟩).memory :=
  laidMetH_of_parts3 (fuel := 8) (laidMet_of_run' 8 (by kernel_rfl) (by kernel_rfl)) (by kernel_rfl) (by kernel_rfl)
end Go.Proofs.YtmgjefkelohocaaDoor
