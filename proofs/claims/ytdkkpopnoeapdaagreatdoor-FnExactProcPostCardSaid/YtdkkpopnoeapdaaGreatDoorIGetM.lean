/-
  Texts that stood by themselves, laid into one.
-/
import Derived.Test.YtdkkpopnoeapdaaGreatDoorDecM
import Derived.Test.YtdkkpopnoeapdaaGreatDoorFormM
import Derived.Test.YtdkkpopnoeapdaaGreatDoorStore2M
/-
  Contract of (*impl.numForm).number: the number of the bytes that the form holds; none where the highest of several is 0.
-/
namespace Go.Proofs.YtdkkpopnoeapdaaGreatDoor
open Go.RowKit

/-- What number answers. -/
def nV (bs : List Int) : Int × Bool := if 1 < bs.length ∧ bs.getLast? = some 0 then (0, false) else (val bs, true)

theorem form_byte (bs : List Int) (h : bs.length ≤ 9) (w : World) (F : Nat) (hh : w.heap[F]? = some (.cells (formC bs) 218 (0, 0))) (i : Nat) (hi : i < bs.length) :
    w.cell? ⟨F, i, none⟩ = some (.int .u8 bs[i]) := by
  rw [cell_of_row w F i _ 218 (0, 0) hh, formC_get bs h i (by omega), List.getD_eq_getElem?_getD, List.getElem?_append_left hi]
  simp [hi]
theorem val_drop (bs : List Int) (m : Nat) (h : m < bs.length) : val (bs.drop m) = val (bs.drop (m + 1)) * 128 + bs[m] % 128 := by
  rw [List.drop_eq_getElem_cons h]
  simp only [val]
  omega

theorem nV_bad (bs : List Int) (n : Nat) (l : Int) (hn : bs.length = n + 1) (hl : bs[n]? = some l) (h0 : 0 < n) (h : l = 0) : nV bs = (0, false) := by
  have e : bs.getLast? = some 0 := by rw [List.getLast?_eq_getElem?, hn, Nat.add_sub_cancel, hl, h]
  unfold nV
  rw [if_pos ⟨by omega, e⟩]
theorem nV_ok (bs : List Int) (n : Nat) (l : Int) (hn : bs.length = n + 1) (hl : bs[n]? = some l) (h : n = 0 ∨ (0 < n ∧ ¬ l = 0)) : nV bs = (val bs, true) := by
  have e : bs.getLast? = some l := by rw [List.getLast?_eq_getElem?, hn, Nat.add_sub_cancel, hl]
  unfold nV
  rw [if_neg]
  rw [e, hn]
  simp only [Option.some.injEq]
  omega

set_option maxHeartbeats 800000 in
theorem number_any (F : Nat) (bs : List Int) (w : World) (h1 : 1 ≤ bs.length) (h9 : bs.length ≤ 9) (hz : ∀ z ∈ bs, 0 ≤ z ∧ z ≤ 255) (hh : w.heap[F]? = some (.cells (formC bs) 218 (0, 0))) :
    Calls Tryz.prog 159 #[.pointer (some ⟨F, 0, none⟩)] w fun e w' => e = .returned (.tuple #[.int .i64 (nV bs).1, .bool (nV bs).2]) ∧ w' = w := by
  obtain ⟨n, hn⟩ : ∃ n, bs.length = n + 1 := ⟨bs.length - 1, by omega⟩
  have hn9 : n < 9 := by omega
  have c9 : w.cell? ⟨F, 9, none⟩ = some (.int .i64 ((n : Int) + 1)) := by
    rw [cell_of_row w F 9 _ 218 (0, 0) hh, formC_count bs h9, hn]; simp
  have hb := form_byte bs h9 w F hh
  clear hh
  obtain ⟨l, hl⟩ : ∃ l, bs[n]? = some l := ⟨bs[n], by simp⟩
  have hcl : w.cell? ⟨F, n, none⟩ = some (.int .u8 l) := by
    have := hb n (by omega)
    rw [this]
    rw [List.getElem?_eq_getElem (by omega)] at hl
    rw [Option.some.inj hl]
  have hl0 := hz l (List.mem_of_getElem? hl)
  by_cases hbad : 0 < n ∧ l = 0
  · have Hv : Hid (nV bs = (0, false)) := nV_bad bs n l hn hl hbad.1 hbad.2
    obtain ⟨hn0, rfl⟩ := hbad
    clear hb hz hl hn
    go_enter Tryz.func159, Tryz.ntmps159
    go_wp2
    go_ret2
    exact ⟨by rw [Hv.out]; rfl, rfl⟩
  · have hd : n = 0 ∨ (0 < n ∧ ¬ l = 0) := by omega
    have Hv : Hid (nV bs = (val bs, true)) := nV_ok bs n l hn hl hd
    have HN : Hid (bs.length = n + 1) := hn
    have hd : n < 1 ∨ (0 < n ∧ ¬ l = 0) := by omega
    clear hbad hn hl
    rcases hd with hd | ⟨hd, hl1⟩
    all_goals
      go_enter Tryz.func159, Tryz.ntmps159
      go_wp2
      go_loop [5, 6] (fun x i => ∃ (j : Nat) (q : Int), j ≤ n + 1 ∧ i = .int .i64 q ∧ x = .int .i64 (val (bs.drop j)) ∧ Hid (q = (j : Int) - 1)) (fun _ i => (intOf i + 1).toNat)
      case atStart => exact ⟨n + 1, n, by omega, by go_num, by rw [List.drop_eq_nil_of_le (by have := HN.out; omega)]; rfl, by unfold Hid; omega⟩
      case round =>
        obtain ⟨j, q, hj, rfl, rfl, HQ⟩ := hrel
        cases j with
        | zero =>
          have hq : q < 0 := by have := HQ.out; omega
          go_wp2
          go_ret2
          exact ⟨by rw [Hv.out]; rfl, rfl⟩
        | succ m =>
          have hq : q = (m : Int) := by have := HQ.out; omega
          subst hq
          clear HQ
          have hml : m < bs.length := by have := HN.out; omega
          have hc := hb m hml
          have hv := val_bounds (bs.drop (m + 1))
          have hlim := lim_eight (show (bs.drop (m + 1)).length ≤ 8 by simp; omega)
          have Hd : Hid (val (bs.drop m) = val (bs.drop (m + 1)) * 128 + bs[m] % 128) := val_drop bs m hml
          have hzm := hz bs[m] (List.getElem_mem _)
          clear hb hz
          go_wp2
          go_round
          case rel => exact ⟨m, _, by omega, rfl, by rw [Hd.out], rfl⟩
          case measure => simp [intOf]

end Go.Proofs.YtdkkpopnoeapdaaGreatDoor

/-
  Contract of (impl.reader).next: the byte at the place, and the place one further; none where there is no byte.
-/
namespace Go.Proofs.YtdkkpopnoeapdaaGreatDoor
open Go.RowKit

/-- A block of one int. -/
def One (w : World) (P : Nat) (a : Int) : Prop := w.heap[P]? = some (.cells #[.int .i64 a] 3 (0, 0))
theorem One.cell {w : World} {P : Nat} {a : Int} (h : One w P a) : w.cell? ⟨P, 0, none⟩ = some (.int .i64 a) := by
  rw [cell_of_row w P 0 _ 3 (0, 0) h]; rfl
theorem One.free {w : World} {P : Nat} {a : Int} (h : One w P a) : w.frozen? ⟨P, 0, none⟩ = false := frozen_of_row w P 0 _ 3 h
theorem One.lt {w : World} {P : Nat} {a : Int} (h : One w P a) : P < w.heap.size := (Array.getElem?_eq_some_iff.1 h).1
theorem One.set {w : World} {P : Nat} {a : Int} (h : One w P a) (b : Int) : One (w.setCell ⟨P, 0, none⟩ (.int .i64 b)) P b := heap_setCell_same w P 0 _ 3 _ h

theorem One.kept {w w' : World} {P : Nat} {a : Int} (h : One w P a) {row : Option Nat} (hg : w.grownBy w' row) (hne : some P ≠ row) : One w' P a := (hg.block P h.lt hne).trans h
theorem One.below {w w' : World} {P B : Nat} {a : Int} (h : One w P a) (hb : Below B w w') (hP : P < B) : One w' P a := (hb.block P hP).trans h
set_option maxHeartbeats 400000 in
theorem next_no (v : Value) (zs : List Int) (P : Nat) (a : Int) (w : World) (R : ∃ ao cap, v = .slice ao zs.length cap) (h : One w P a) (_hl : zs.length ≤ 140737488351232) (ha : a < 0 ∨ (zs.length : Int) ≤ a) :
    Calls Tryz.prog 157 #[.agg #[v, .pointer (some ⟨P, 0, none⟩)]] w fun e w' => e = .returned (.tuple #[.int .u8 0, .bool false]) ∧ One w' P a ∧ w.grownBy w' (some P) := by
  obtain ⟨ao, cap, rfl⟩ := R
  have hc := h.cell
  have hP := h.lt
  by_cases ha1 : a < 0
  · clear ha
    go_enter Tryz.func157, Tryz.ntmps157
    go_wp2
    go_ret2
    exact ⟨rfl, h.kept (World.grownBy_alloc w _ none) (by simp), World.grownBy_alloc w _ _⟩
  · have ha2 : (zs.length : Int) ≤ a := by omega
    clear ha
    go_enter Tryz.func157, Tryz.ntmps157
    go_wp2
    go_ret2
    exact ⟨rfl, h.kept (World.grownBy_alloc w _ none) (by simp), World.grownBy_alloc w _ _⟩

set_option maxHeartbeats 400000 in
theorem next_yes (zs : List Int) (P n g o cap : Nat) (w : World) (h : One w P n) (hl : zs.length ≤ 140737488351232) (hn : n < zs.length)
    (hc0 : w.cell? ⟨g, o + n, none⟩ = some (.int .u8 zs[n])) (hgP : g ≠ P) :
    Calls Tryz.prog 157 #[.agg #[.slice (some ⟨g, o, none⟩) zs.length cap, .pointer (some ⟨P, 0, none⟩)]] w fun e w' => e = .returned (.tuple #[.int .u8 zs[n], .bool true]) ∧ One w' P ((n : Int) + 1) ∧ w.grownBy w' (some P) := by
  have hc := h.cell
  have hf := h.free
  have hP := h.lt
  have hg := World.block_lt_of_cell? _ _ hc0
  simp only at hg
  generalize zs[n] = b at hc0 ⊢
  go_enter Tryz.func157, Tryz.ntmps157
  go_wp2
  go_ret2
  have h1 := (h.set ((n : Int) + 1)).kept (World.grownBy_alloc (w.setCell ⟨P, 0, none⟩ (.int .i64 ((n : Int) + 1))) (.cells #[.slice (some ⟨g, o, none⟩) zs.length cap, .pointer (some ⟨P, 0, none⟩)] 141) none) (by simp)
  exact ⟨rfl, h1, grown_trans (grown_set w P 0 _) (World.grownBy_alloc _ _ _)⟩

theorem grown_then {w w1 w2 : World} {row : Option Nat} {B : Nat} (h : w.grownBy w1 row) (k : Below B w1 w2) (hB : w.heap.size ≤ B) : w.grownBy w2 row :=
  ⟨k.os.trans h.os, k.tape.trans h.tape, k.output.trans h.output, Nat.le_trans h.size k.size, fun i hi hne => (k.block i (by omega)).trans (h.block i hi hne)⟩

theorem gN_nV (zs : List Int) (n : Nat) (bs : List Int) (h : scan 9 (zs.drop n) = some bs) :
    (gN zs (n : Int)).1 = (nV bs).1 ∧ (gN zs (n : Int)).2.2 = (nV bs).2 ∧ ((gN zs (n : Int)).2.2 = true → (gN zs (n : Int)).2.1 = (n : Int) + bs.length) := by
  have h1 : ¬ (n : Int) < 0 := by omega
  simp only [gN, h1, if_false, Int.toNat_natCast, h, nV]
  split <;> simp

end Go.Proofs.YtdkkpopnoeapdaaGreatDoor

/-
  Contract of (impl.reader).num: the number that stands at the place, and the place behind it.
-/
namespace Go.Proofs.YtdkkpopnoeapdaaGreatDoor
open Go.RowKit

/-- How many bytes the form at F holds, in w: the loop's measure. -/
def formLen (w : World) (F : Nat) : Nat :=
  match w.cell? ⟨F, 9, none⟩ with
  | some v => (intOf v).toNat
  | none => 0
theorem formLen_of {w : World} {F : Nat} {bs : List Int} (h : bs.length ≤ 9) (hh : w.heap[F]? = some (.cells (formC bs) 218 (0, 0))) : formLen w F = bs.length := by
  unfold formLen
  rw [cell_of_row w F 9 _ 218 (0, 0) hh, formC_count bs h]
  simp [intOf]

set_option maxHeartbeats 800000 in
theorem num_out (v : Value) (zs : List Int) (P : Nat) (a : Int) (w : World) (R : ∃ ao cap, v = .slice ao zs.length cap) (h : One w P a) (hl : zs.length ≤ 140737488351232) (ha : a < 0 ∨ (zs.length : Int) ≤ a) :
    Calls Tryz.prog 138 #[.agg #[v, .pointer (some ⟨P, 0, none⟩)]] w fun e w' => e = .returned (.tuple #[.int .i64 0, .bool false]) ∧ (∃ q, One w' P q) ∧ w.grownBy w' (some P) := by
  have hP := h.lt
  obtain ⟨ao, cap, rfl⟩ := R
  go_enter Tryz.func138, Tryz.ntmps138
  go_wp2_with fail
  refine wp_loop_rounds 1 ?_
  rw [rounds_succ]
  go_wp2_with fail
  have hg2 : w.grownBy ((w.alloc (Obj.cells #[Value.slice ao zs.length cap, Value.pointer (some ⟨P, 0, none⟩)] 141)).alloc (Obj.cells (formC []) 218)) (some P) :=
    grown_trans (World.grownBy_alloc _ _ _) (World.grownBy_alloc _ _ _)
  have h2 : One ((w.alloc (Obj.cells #[Value.slice ao zs.length cap, Value.pointer (some ⟨P, 0, none⟩)] 141)).alloc (Obj.cells (formC []) 218)) P a :=
    (h.kept (World.grownBy_alloc w _ none) (by simp)).kept (World.grownBy_alloc _ _ none) (by simp)
  refine (next_no _ zs P a _ ⟨ao, cap, rfl⟩ h2 hl ha).mono ?_
  rintro e w1 ⟨rfl, hone, hgrow⟩
  have hg3 := grown_trans hg2 hgrow
  clear hg2 h2 hgrow
  go_wp2_with fail
  go_ret2
  exact ⟨rfl, ⟨_, hone⟩, hg3⟩

set_option maxHeartbeats 1600000 in
theorem num_in (zs : List Int) (P n g o cap : Nat) (w : World) (h : One w P n) (hl : zs.length ≤ 140737488351232) (hn : n < zs.length) (hz : ∀ z ∈ zs, 0 ≤ z ∧ z ≤ 255)
    (hc0 : ∀ i, i < zs.length → w.cell? ⟨g, o + i, none⟩ = some (.int .u8 (zs.getD i 0))) (hg : g < w.heap.size) (hgP : g ≠ P) :
    Calls Tryz.prog 138 #[.agg #[.slice (some ⟨g, o, none⟩) zs.length cap, .pointer (some ⟨P, 0, none⟩)]] w fun e w' =>
      e = .returned (.tuple #[.int .i64 (gN zs n).1, .bool (gN zs n).2.2]) ∧ (∃ q, One w' P q ∧ ((gN zs n).2.2 = true → q = (gN zs n).2.1)) ∧ w.grownBy w' (some P) := by
  have hP := h.lt
  go_enter Tryz.func138, Tryz.ntmps138
  go_wp2_with fail
  go_loopw [5] (fun _ wr => ∃ (k : Nat) (acc : List Int), k ≤ 9 ∧ n + k ≤ zs.length ∧ Hid (Sc zs n k acc) ∧ Hid (∀ z ∈ acc, 0 ≤ z ∧ z ≤ 255) ∧ One wr P ((n : Int) + k) ∧ wr.heap[w.heap.size + 1]? = some (.cells (formC acc) 218 (0, 0)) ∧
      wr.heap[w.heap.size]? = some (.cells #[.slice (some ⟨g, o, none⟩) zs.length cap, .pointer (some ⟨P, 0, none⟩)] 141 (0, 0)) ∧ w.grownBy wr (some P)) (fun _ wr => 9 - formLen wr (w.heap.size + 1))
  case atStart =>
    refine ⟨0, [], by omega, by omega, Sc.start zs n, by simp [Hid], ?_, heap_alloc2_new _ _ _, heap_alloc2_old _ _ _, grown_trans (World.grownBy_alloc _ _ _) (World.grownBy_alloc _ _ _)⟩
    rw [show (n : Int) + ((0 : Nat) : Int) = (n : Int) by omega]
    exact (h.kept (World.grownBy_alloc w _ none) (by simp)).kept (World.grownBy_alloc _ _ none) (by simp)
  case round =>
    obtain ⟨k, acc, hk, hkl, HS, HZ, hone, hform, hbox, hgr⟩ := hrel
    have hal := HS.out.1
    have hc9 : wr.cell? ⟨w.heap.size + 1, 9, none⟩ = some (.int .i64 k) := by
      rw [cell_of_row wr _ 9 _ 218 (0, 0) hform, formC_count acc (by omega), hal]
    have hb0 : wr.cell? ⟨w.heap.size, 0, none⟩ = some (.slice (some ⟨g, o, none⟩) zs.length cap) := by rw [cell_of_row wr _ 0 _ 141 (0, 0) hbox]; rfl
    have hb1 : wr.cell? ⟨w.heap.size, 1, none⟩ = some (.pointer (some ⟨P, 0, none⟩)) := by rw [cell_of_row wr _ 1 _ 141 (0, 0) hbox]; rfl
    have HL : Hid (acc.length = k) := hal
    clear hal
    by_cases h9 : k < 9
    · by_cases hlt : n + k < zs.length
      · have hcb : wr.cell? ⟨g, o + (n + k), none⟩ = some (.int .u8 zs[n + k]) := by
          rw [World.cell?_of_block (w := w) (hgr.block g hg (by simpa using hgP)), hc0 (n + k) hlt]
          simp [hlt]
        have hone' : One wr P ((n + k : Nat) : Int) := by rw [show ((n + k : Nat) : Int) = (n : Int) + k by omega]; exact hone
        have hzb := hz zs[n + k] (List.getElem_mem _)
        have hne1 : some (w.heap.size + 1) ≠ some P := by simp; omega
        have hne0 : some w.heap.size ≠ some P := by simp; omega
        have hs1 := (Array.getElem?_eq_some_iff.1 hform).1
        have hs0 := (Array.getElem?_eq_some_iff.1 hbox).1
        have HZ1 : Hid (∀ z ∈ acc ++ [zs[n + k]], 0 ≤ z ∧ z ≤ 255) := by
          intro z hz'; simp only [List.mem_append, List.mem_singleton] at hz'
          rcases hz' with hz' | rfl
          · exact HZ.out z hz'
          · exact hzb
        have HL1 : Hid ((acc ++ [zs[n + k]]).length = k + 1) := by unfold Hid; rw [List.length_append, HL.out]; rfl
        go_wp2_with fail
        refine (next_yes zs P (n + k) g o cap wr hone' hl hlt hcb hgP).mono ?_
        rintro e w1 ⟨rfl, hone1, hgr1⟩
        have hform1 : w1.heap[w.heap.size + 1]? = some (.cells (formC acc) 218 (0, 0)) := (hgr1.block _ hs1 hne1).trans hform
        have hbox1 : w1.heap[w.heap.size]? = some (.cells #[.slice (some ⟨g, o, none⟩) zs.length cap, .pointer (some ⟨P, 0, none⟩)] 141 (0, 0)) := (hgr1.block _ hs0 hne0).trans hbox
        clear hc9 hb0 hb1 hone hone' hcb
        go_wp2_with fail
        refine (add_any (w.heap.size + 1) zs[n + k] acc w1 (by have := HL.out; omega) hform1).mono ?_
        rintro e w2 ⟨rfl, hform2, hbel2⟩
        have hone2 := hone1.below hbel2 (by omega)
        have hbox2 := (hbel2.block _ (by omega)).trans hbox1
        have hgr2 := grown_then (grown_trans hgr hgr1) hbel2 (by omega)
        clear hform1 hbox1 hone1 hgr1 hbel2
        by_cases hb128 : zs[n + k] < 128
        · have hsc := HS.out.last h9 hlt hb128
          have HG : Hid _ := gN_nV zs n _ hsc
          clear hsc
          go_wp2_with fail
          refine (number_any (w.heap.size + 1) (acc ++ [zs[n + k]]) w2 (by rw [HL1.out]; omega) (by rw [HL1.out]; omega) HZ1.out hform2).mono ?_
          rintro e w3 ⟨rfl, rfl⟩
          go_wp2_with fail
          go_ret2
          obtain ⟨e1, e2, e3⟩ := HG.out
          refine ⟨by rw [e1, e2]; rfl, ⟨_, hone2, fun hok => ?_⟩, hgr2⟩
          rw [e3 hok, HL1.out]
          omega
        · go_wp2_with fail
          go_roundw
          case rel =>
            exact ⟨k + 1, acc ++ [zs[n + k]], by omega, by omega, HS.out.more h9 hlt (by omega), HZ1, by rw [show (n : Int) + ((k + 1 : Nat) : Int) = ((n + k : Nat) : Int) + 1 by omega]; exact hone2, hform2, hbox2, hgr2⟩
          case measure =>
            rw [formLen_of (by rw [HL1.out]; omega) hform2, formLen_of (by rw [HL.out]; omega) hform, HL1.out, HL.out]
            omega
      · have HG : Hid (gN zs (n : Int) = (0, 0, false)) := gN_none zs n (HS.out.out (Or.inr (by omega)))
        go_wp2_with fail
        refine (next_no _ zs P _ wr ⟨_, _, rfl⟩ hone hl (Or.inr (by omega))).mono ?_
        rintro e w1 ⟨rfl, hone1, hgr1⟩
        have hgr2 := grown_trans hgr hgr1
        go_wp2_with fail
        go_ret2
        exact ⟨by rw [HG.out]; rfl, ⟨_, hone1, by rw [HG.out]; intro h; cases h⟩, hgr2⟩
    · have HG : Hid (gN zs (n : Int) = (0, 0, false)) := gN_none zs n (HS.out.out (Or.inl (by omega)))
      go_wp2_with fail
      go_ret2
      exact ⟨by rw [HG.out]; rfl, ⟨_, hone, by rw [HG.out]; intro h; cases h⟩, hgr⟩

end Go.Proofs.YtdkkpopnoeapdaaGreatDoor

/-
  Contract of impl.GetNum, for every slice of bytes within the form's reach and every place.
-/
namespace Go.Proofs.YtdkkpopnoeapdaaGreatDoor
open Go.RowKit

/-- (impl.reader).num at a slice that reads as zs, whatever the place. -/
theorem num_any (v : Value) (zs : List Int) (P : Nat) (a : Int) (w0 w : World) (R : Row w0 v zs) (hb : Below w0.heap.size w0 w) (hP : w0.heap.size ≤ P) (h : One w P a) :
    Calls Tryz.prog 138 #[.agg #[v, .pointer (some ⟨P, 0, none⟩)]] w fun e w' =>
      e = .returned (.tuple #[.int .i64 (gN zs a).1, .bool (gN zs a).2.2]) ∧ (∃ q, One w' P q ∧ ((gN zs a).2.2 = true → q = (gN zs a).2.1)) ∧ w.grownBy w' (some P) := by
  obtain ⟨ao, cap, rfl, hcap, hm, hz, hcell⟩ := R
  by_cases hout : a < 0 ∨ (zs.length : Int) ≤ a
  · have hg : gN zs a = (0, 0, false) := by
      by_cases ha : a < 0
      · exact gN_neg zs a ha
      · obtain ⟨n, rfl⟩ := Int.eq_ofNat_of_zero_le (show 0 ≤ a by omega)
        exact gN_none zs n ((Sc.start zs n).out (Or.inr (by omega)))
    rw [hg]
    refine (num_out _ zs P a w ⟨ao, cap, rfl⟩ h hm hout).mono ?_
    rintro e w' ⟨rfl, ⟨q, hq⟩, hgr⟩
    exact ⟨rfl, ⟨q, hq, by intro h; cases h⟩, hgr⟩
  · obtain ⟨n, rfl⟩ := Int.eq_ofNat_of_zero_le (show 0 ≤ a by omega)
    obtain ⟨g, o, rfl, hg, hcell⟩ := hcell (by intro e; subst e; simp at hout)
    exact num_in zs P n g o cap w h hm (by omega) hz (fun i hi => (hb.cell (p := ⟨g, o + i, none⟩) hg).trans (hcell i hi)) (Nat.lt_of_lt_of_le hg hb.size) (by omega)

theorem gN_false (zs : List Int) (a : Int) (h : (gN zs a).2.2 = false) : gN zs a = (0, 0, false) := by
  unfold gN at h ⊢
  by_cases h0 : a < 0
  · simp [h0]
  · simp only [h0, if_false] at h ⊢
    cases hs : scan 9 (zs.drop a.toNat) with
    | none => rfl
    | some bs =>
      simp only [hs] at h ⊢
      by_cases h1 : 1 < bs.length ∧ bs.getLast? = some 0
      · rw [if_pos h1]
      · rw [if_neg h1] at h; simp at h

end Go.Proofs.YtdkkpopnoeapdaaGreatDoor
