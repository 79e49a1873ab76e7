/-
  Contracts of (impl.reader).text and impl.GetText, for every slice of bytes within the form's reach and every place.
-/
import Derived.Test.YtpkpednemkagiaaGText
namespace Go.Proofs.Ytpkpednemkagiaa
open Go.RowKit

set_option maxRecDepth 100000 in
set_option maxHeartbeats 800000 in
theorem text_any (v : Value) (zs : List Int) (P : Nat) (a : Int) (w0 w : World) (R : Row w0 v zs) (hb : Below w0.heap.size w0 w) (hP : w0.heap.size ≤ P) (h : One w P a) :
    Calls Try.prog 19 #[.agg #[v, .pointer (some ⟨P, 0, none⟩)]] w fun e w' =>
      e = .returned (.tuple #[.string (gT zs a).1, .bool (gT zs a).2.2]) ∧ (∃ q, One w' P q ∧ ((gT zs a).2.2 = true → q = (gT zs a).2.1)) ∧ w.grownBy w' (some P) := by
  have R' := R
  obtain ⟨ao, cap, rfl, hcap, hm, hz, hcell⟩ := R'
  clear hz
  have hPs := h.lt
  go_enter Try.func19, Try.ntmps19
  go_wp2_with fail
  have hbel : Below w0.heap.size w0 (w.alloc (Obj.cells #[Value.slice ao zs.length cap, Value.pointer (some ⟨P, 0, none⟩)] 40)) := hb.alloc hb.size _
  have hone : One (w.alloc (Obj.cells #[Value.slice ao zs.length cap, Value.pointer (some ⟨P, 0, none⟩)] 40)) P a := h.kept (World.grownBy_alloc w _ none) (by simp)
  refine (num_any _ zs P a w0 _ R hbel hP hone).mono ?_
  rintro e w1 ⟨rfl, ⟨q, hone1, hq⟩, hgr⟩
  have hsz : w.heap.size < (w.alloc (Obj.cells #[Value.slice ao zs.length cap, Value.pointer (some ⟨P, 0, none⟩)] 40)).heap.size := by simp
  have hbox : w1.heap[w.heap.size]? = some (.cells #[Value.slice ao zs.length cap, Value.pointer (some ⟨P, 0, none⟩)] 40 (0, 0)) := (hgr.block _ hsz (by simp; omega)).trans (heap_alloc_new w _)
  have hb0 : w1.cell? ⟨w.heap.size, 0, none⟩ = some (.slice ao zs.length cap) := by rw [cell_of_row w1 _ 0 _ 40 (0, 0) hbox]; rfl
  have hb1 : w1.cell? ⟨w.heap.size, 1, none⟩ = some (.pointer (some ⟨P, 0, none⟩)) := by rw [cell_of_row w1 _ 1 _ 40 (0, 0) hbox]; rfl
  have hc := hone1.cell
  have hf := hone1.free
  have hgr1 : w.grownBy w1 (some P) := grown_trans (World.grownBy_alloc w _ _) hgr
  have hbel1 : Below w0.heap.size w0 w1 := hbel.grown hgr hbel.size (fun k hk => by simp at hk; omega)
  clear hbel hone hsz hbox hgr R
  generalize hg : gN zs a = r at hq ⊢
  obtain ⟨n, next, ok⟩ := r
  have HG : Hid (gN zs a = (n, next, ok)) := hg
  clear hg
  cases ok with
  | false =>
    have HT : Hid (gT zs a = (⟨#[]⟩, 0, false)) := gT_no zs a n next false HG.out (Or.inl rfl)
    clear hq
    go_wp2_with fail
    go_ret2
    exact ⟨by rw [HT.out]; rfl, ⟨q, hone1, by rw [HT.out]; intro h; cases h⟩, hgr1⟩
  | true =>
    obtain ⟨h1, h2, h3, h4⟩ := gN_ok zs a n next HG.out
    obtain ⟨n, rfl⟩ := Int.eq_ofNat_of_zero_le h1
    obtain ⟨next, rfl⟩ := Int.eq_ofNat_of_zero_le h3
    obtain rfl : q = (next : Int) := hq rfl
    clear hq
    by_cases hout : (zs.length : Int) - next < n
    · have HT : Hid (gT zs a = (⟨#[]⟩, 0, false)) := gT_no zs a _ _ true HG.out (Or.inr hout)
      go_wp2_with fail
      go_ret2
      exact ⟨by rw [HT.out]; rfl, ⟨_, hone1, by rw [HT.out]; intro h; cases h⟩, hgr1⟩
    · have HT : Hid (gT zs a = (strOfNums ((zs.drop next).take n), (next : Int) + n, true)) := gT_yes zs a n next HG.out (by omega)
      have hle : next + n ≤ zs.length := by omega
      have hcell2 : zs ≠ [] → ∃ g o, ao = some ⟨g, o, none⟩ ∧ g < (w1.setCell ⟨P, 0, none⟩ (.int .i64 ((next : Int) + n))).heap.size ∧ ∀ i, i < zs.length → (w1.setCell ⟨P, 0, none⟩ (.int .i64 ((next : Int) + n))).cell? ⟨g, o + i, none⟩ = some (.int .u8 (zs.getD i 0)) := by
        intro hne
        obtain ⟨g, o, rfl, hg, hcell⟩ := hcell hne
        have hs := hbel1.size
        refine ⟨g, o, rfl, by simp [World.setCell]; omega, fun i hi => ?_⟩
        rw [World.cell?_of_block (w := w1) (heap_setCell_other w1 ⟨P, 0, none⟩ g _ (by simp; omega)), hbel1.cell (p := ⟨g, o + i, none⟩) hg]
        exact hcell i hi
      clear hcell
      go_wp2_with (refine wpList_bytes_string _ rfl _ 25 9 5 rfl Try.underlying25 Try.underlying9 Try.underlying5 _ _ _ ((zs.drop next).take n) rfl (by rw [cut_length zs next n hle]; omega) (by rw [Nat.add_sub_cancel_left]; simpa using cut_cells hcell2 next n hle hcap) ?_)
      all_goals go_ret2
      all_goals exact ⟨by rw [HT.out]; rfl, ⟨_, hone1.set _, by rw [HT.out]; intro _; rfl⟩, grown_trans hgr1 (grown_set w1 P 0 _)⟩

end Go.Proofs.Ytpkpednemkagiaa
