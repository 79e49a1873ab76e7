/-
  Contract of (impl.reader).num: the number that stands at the place, and the place behind it.
-/
import Derived.Test.YtpkpednemkagiaaNext
namespace Go.Proofs.Ytpkpednemkagiaa
open Go.RowKit

/-- How many bytes the form at F holds, in w: the loop's measure. -/
def formLen (w : World) (F : Nat) : Nat :=
  match w.cell? ⟨F, 9, none⟩ with
  | some v => (intOf v).toNat
  | none => 0
theorem formLen_of {w : World} {F : Nat} {bs : List Int} (h : bs.length ≤ 9) (hh : w.heap[F]? = some (.cells (formC bs) 65 (0, 0))) : formLen w F = bs.length := by
  unfold formLen
  rw [cell_of_row w F 9 _ 65 (0, 0) hh, formC_count bs h]
  simp [intOf]

set_option maxHeartbeats 800000 in
theorem num_out (v : Value) (zs : List Int) (P : Nat) (a : Int) (w : World) (R : ∃ ao cap, v = .slice ao zs.length cap) (h : One w P a) (hl : zs.length ≤ 140737488351232) (ha : a < 0 ∨ (zs.length : Int) ≤ a) :
    Calls Try.prog 18 #[.agg #[v, .pointer (some ⟨P, 0, none⟩)]] w fun e w' => e = .returned (.tuple #[.int .i64 0, .bool false]) ∧ (∃ q, One w' P q) ∧ w.grownBy w' (some P) := by
  have hP := h.lt
  obtain ⟨ao, cap, rfl⟩ := R
  go_enter Try.func18, Try.ntmps18
  go_wp2_with fail
  refine wp_loop_rounds 1 ?_
  rw [rounds_succ]
  go_wp2_with fail
  have hg2 : w.grownBy ((w.alloc (Obj.cells #[Value.slice ao zs.length cap, Value.pointer (some ⟨P, 0, none⟩)] 40)).alloc (Obj.cells (formC []) 65)) (some P) :=
    grown_trans (World.grownBy_alloc _ _ _) (World.grownBy_alloc _ _ _)
  have h2 : One ((w.alloc (Obj.cells #[Value.slice ao zs.length cap, Value.pointer (some ⟨P, 0, none⟩)] 40)).alloc (Obj.cells (formC []) 65)) P a :=
    (h.kept (World.grownBy_alloc w _ none) (by simp)).kept (World.grownBy_alloc _ _ none) (by simp)
  refine (next_no _ zs P a _ ⟨ao, cap, rfl⟩ h2 hl ha).mono ?_
  rintro e w1 ⟨rfl, hone, hgrow⟩
  have hg3 := grown_trans hg2 hgrow
  clear hg2 h2 hgrow
  go_wp2_with fail
  go_ret2
  exact ⟨rfl, ⟨_, hone⟩, hg3⟩

set_option maxHeartbeats 1600000 in
theorem num_in (zs : List Int) (P n g o cap : Nat) (w : World) (h : One w P n) (hl : zs.length ≤ 140737488351232) (hn : n < zs.length) (hz : ∀ z ∈ zs, 0 ≤ z ∧ z ≤ 255)
    (hc0 : ∀ i, i < zs.length → w.cell? ⟨g, o + i, none⟩ = some (.int .u8 (zs.getD i 0))) (hg : g < w.heap.size) (hgP : g ≠ P) :
    Calls Try.prog 18 #[.agg #[.slice (some ⟨g, o, none⟩) zs.length cap, .pointer (some ⟨P, 0, none⟩)]] w fun e w' =>
      e = .returned (.tuple #[.int .i64 (gN zs n).1, .bool (gN zs n).2.2]) ∧ (∃ q, One w' P q ∧ ((gN zs n).2.2 = true → q = (gN zs n).2.1)) ∧ w.grownBy w' (some P) := by
  have hP := h.lt
  go_enter Try.func18, Try.ntmps18
  go_wp2_with fail
  go_loopw [5] (fun _ wr => ∃ (k : Nat) (acc : List Int), k ≤ 9 ∧ n + k ≤ zs.length ∧ Hid (Sc zs n k acc) ∧ Hid (∀ z ∈ acc, 0 ≤ z ∧ z ≤ 255) ∧ One wr P ((n : Int) + k) ∧ wr.heap[w.heap.size + 1]? = some (.cells (formC acc) 65 (0, 0)) ∧
      wr.heap[w.heap.size]? = some (.cells #[.slice (some ⟨g, o, none⟩) zs.length cap, .pointer (some ⟨P, 0, none⟩)] 40 (0, 0)) ∧ w.grownBy wr (some P)) (fun _ wr => 9 - formLen wr (w.heap.size + 1))
  case atStart =>
    refine ⟨0, [], by omega, by omega, Sc.start zs n, by simp [Hid], ?_, heap_alloc2_new _ _ _, heap_alloc2_old _ _ _, grown_trans (World.grownBy_alloc _ _ _) (World.grownBy_alloc _ _ _)⟩
    rw [show (n : Int) + ((0 : Nat) : Int) = (n : Int) by omega]
    exact (h.kept (World.grownBy_alloc w _ none) (by simp)).kept (World.grownBy_alloc _ _ none) (by simp)
  case round =>
    obtain ⟨k, acc, hk, hkl, HS, HZ, hone, hform, hbox, hgr⟩ := hrel
    have hal := HS.out.1
    have hc9 : wr.cell? ⟨w.heap.size + 1, 9, none⟩ = some (.int .i64 k) := by
      rw [cell_of_row wr _ 9 _ 65 (0, 0) hform, formC_count acc (by omega), hal]
    have hb0 : wr.cell? ⟨w.heap.size, 0, none⟩ = some (.slice (some ⟨g, o, none⟩) zs.length cap) := by rw [cell_of_row wr _ 0 _ 40 (0, 0) hbox]; rfl
    have hb1 : wr.cell? ⟨w.heap.size, 1, none⟩ = some (.pointer (some ⟨P, 0, none⟩)) := by rw [cell_of_row wr _ 1 _ 40 (0, 0) hbox]; rfl
    have HL : Hid (acc.length = k) := hal
    clear hal
    by_cases h9 : k < 9
    · by_cases hlt : n + k < zs.length
      · have hcb : wr.cell? ⟨g, o + (n + k), none⟩ = some (.int .u8 zs[n + k]) := by
          rw [World.cell?_of_block (w := w) (hgr.block g hg (by simpa using hgP)), hc0 (n + k) hlt]
          simp [hlt]
        have hone' : One wr P ((n + k : Nat) : Int) := by rw [show ((n + k : Nat) : Int) = (n : Int) + k by omega]; exact hone
        have hzb := hz zs[n + k] (List.getElem_mem _)
        have hne1 : some (w.heap.size + 1) ≠ some P := by simp; omega
        have hne0 : some w.heap.size ≠ some P := by simp; omega
        have hs1 := (Array.getElem?_eq_some_iff.1 hform).1
        have hs0 := (Array.getElem?_eq_some_iff.1 hbox).1
        have HZ1 : Hid (∀ z ∈ acc ++ [zs[n + k]], 0 ≤ z ∧ z ≤ 255) := by
          intro z hz'; simp only [List.mem_append, List.mem_singleton] at hz'
          rcases hz' with hz' | rfl
          · exact HZ.out z hz'
          · exact hzb
        have HL1 : Hid ((acc ++ [zs[n + k]]).length = k + 1) := by unfold Hid; rw [List.length_append, HL.out]; rfl
        go_wp2_with fail
        refine (next_yes zs P (n + k) g o cap wr hone' hl hlt hcb hgP).mono ?_
        rintro e w1 ⟨rfl, hone1, hgr1⟩
        have hform1 : w1.heap[w.heap.size + 1]? = some (.cells (formC acc) 65 (0, 0)) := (hgr1.block _ hs1 hne1).trans hform
        have hbox1 : w1.heap[w.heap.size]? = some (.cells #[.slice (some ⟨g, o, none⟩) zs.length cap, .pointer (some ⟨P, 0, none⟩)] 40 (0, 0)) := (hgr1.block _ hs0 hne0).trans hbox
        clear hc9 hb0 hb1 hone hone' hcb
        go_wp2_with fail
        refine (add_any (w.heap.size + 1) zs[n + k] acc w1 (by have := HL.out; omega) hform1).mono ?_
        rintro e w2 ⟨rfl, hform2, hbel2⟩
        have hone2 := hone1.below hbel2 (by omega)
        have hbox2 := (hbel2.block _ (by omega)).trans hbox1
        have hgr2 := grown_then (grown_trans hgr hgr1) hbel2 (by omega)
        clear hform1 hbox1 hone1 hgr1 hbel2
        by_cases hb128 : zs[n + k] < 128
        · have hsc := HS.out.last h9 hlt hb128
          have HG : Hid _ := gN_nV zs n _ hsc
          clear hsc
          go_wp2_with fail
          refine (number_any (w.heap.size + 1) (acc ++ [zs[n + k]]) w2 (by rw [HL1.out]; omega) (by rw [HL1.out]; omega) HZ1.out hform2).mono ?_
          rintro e w3 ⟨rfl, rfl⟩
          go_wp2_with fail
          go_ret2
          obtain ⟨e1, e2, e3⟩ := HG.out
          refine ⟨by rw [e1, e2]; rfl, ⟨_, hone2, fun hok => ?_⟩, hgr2⟩
          rw [e3 hok, HL1.out]
          omega
        · go_wp2_with fail
          go_roundw
          case rel =>
            exact ⟨k + 1, acc ++ [zs[n + k]], by omega, by omega, HS.out.more h9 hlt (by omega), HZ1, by rw [show (n : Int) + ((k + 1 : Nat) : Int) = ((n + k : Nat) : Int) + 1 by omega]; exact hone2, hform2, hbox2, hgr2⟩
          case measure =>
            rw [formLen_of (by rw [HL1.out]; omega) hform2, formLen_of (by rw [HL.out]; omega) hform, HL1.out, HL.out]
            omega
      · have HG : Hid (gN zs (n : Int) = (0, 0, false)) := gN_none zs n (HS.out.out (Or.inr (by omega)))
        go_wp2_with fail
        refine (next_no _ zs P _ wr ⟨_, _, rfl⟩ hone hl (Or.inr (by omega))).mono ?_
        rintro e w1 ⟨rfl, hone1, hgr1⟩
        have hgr2 := grown_trans hgr hgr1
        go_wp2_with fail
        go_ret2
        exact ⟨by rw [HG.out]; rfl, ⟨_, hone1, by rw [HG.out]; intro h; cases h⟩, hgr2⟩
    · have HG : Hid (gN zs (n : Int) = (0, 0, false)) := gN_none zs n (HS.out.out (Or.inl (by omega)))
      go_wp2_with fail
      go_ret2
      exact ⟨by rw [HG.out]; rfl, ⟨_, hone, by rw [HG.out]; intro h; cases h⟩, hgr⟩

end Go.Proofs.Ytpkpednemkagiaa
