/-
  Contract of impl.GetNum, for every slice of bytes within the form's reach and every place.
-/
import Derived.Test.YthaimhgjfjcbeabNum
namespace Go.Proofs.Ythaimhgjfjcbeab
open Go.RowKit

/-- (impl.reader).num at a slice that reads as zs, whatever the place. -/
theorem num_any (v : Value) (zs : List Int) (P : Nat) (a : Int) (w0 w : World) (R : Row w0 v zs) (hb : Below w0.heap.size w0 w) (hP : w0.heap.size ≤ P) (h : One w P a) :
    Calls Try.prog 16 #[.agg #[v, .pointer (some ⟨P, 0, none⟩)]] w fun e w' =>
      e = .returned (.tuple #[.int .i64 (gN zs a).1, .bool (gN zs a).2.2]) ∧ (∃ q, One w' P q ∧ ((gN zs a).2.2 = true → q = (gN zs a).2.1)) ∧ w.grownBy w' (some P) := by
  obtain ⟨ao, cap, rfl, hcap, hm, hz, hcell⟩ := R
  by_cases hout : a < 0 ∨ (zs.length : Int) ≤ a
  · have hg : gN zs a = (0, 0, false) := by
      by_cases ha : a < 0
      · exact gN_neg zs a ha
      · obtain ⟨n, rfl⟩ := Int.eq_ofNat_of_zero_le (show 0 ≤ a by omega)
        exact gN_none zs n ((Sc.start zs n).out (Or.inr (by omega)))
    rw [hg]
    refine (num_out _ zs P a w ⟨ao, cap, rfl⟩ h hm hout).mono ?_
    rintro e w' ⟨rfl, ⟨q, hq⟩, hgr⟩
    exact ⟨rfl, ⟨q, hq, by intro h; cases h⟩, hgr⟩
  · obtain ⟨n, rfl⟩ := Int.eq_ofNat_of_zero_le (show 0 ≤ a by omega)
    obtain ⟨g, o, rfl, hg, hcell⟩ := hcell (by intro e; subst e; simp at hout)
    exact num_in zs P n g o cap w h hm (by omega) hz (fun i hi => (hb.cell (p := ⟨g, o + i, none⟩) hg).trans (hcell i hi)) (Nat.lt_of_lt_of_le hg hb.size) (by omega)

theorem gN_false (zs : List Int) (a : Int) (h : (gN zs a).2.2 = false) : gN zs a = (0, 0, false) := by
  unfold gN at h ⊢
  by_cases h0 : a < 0
  · simp [h0]
  · simp only [h0, if_false] at h ⊢
    cases hs : scan 9 (zs.drop a.toNat) with
    | none => rfl
    | some bs =>
      simp only [hs] at h ⊢
      by_cases h1 : 1 < bs.length ∧ bs.getLast? = some 0
      · rw [if_pos h1]
      · rw [if_neg h1] at h; simp at h

set_option maxHeartbeats 400000 in
theorem iget_any (v : Value) (zs : List Int) (a : Int) (w : World) (R : Row w v zs) :
    Calls Try.prog 7 #[v, .int .i64 a] w fun e w' => e = .returned (gV (gN zs a)) ∧ Below w.heap.size w w' := by
  have R' := R
  obtain ⟨ao, cap, rfl, _⟩ := R'
  go_enter Try.func7, Try.ntmps7
  go_wp2_with fail
  have hbel : Below w.heap.size w ((w.alloc (Obj.cells #[Value.int .i64 a] 3)).alloc (Obj.cells #[Value.slice ao zs.length cap, Value.pointer (some ⟨w.heap.size, 0, none⟩)] 44)) :=
    ((Below.refl _ _).alloc (Nat.le_refl _) _).alloc (by simp) _
  have hone : One ((w.alloc (Obj.cells #[Value.int .i64 a] 3)).alloc (Obj.cells #[Value.slice ao zs.length cap, Value.pointer (some ⟨w.heap.size, 0, none⟩)] 44)) w.heap.size a := heap_alloc2_old _ _ _
  refine (num_any _ zs w.heap.size a w _ R hbel (Nat.le_refl _) hone).mono ?_
  rintro e w1 ⟨rfl, ⟨q, hone1, hq⟩, hgr⟩
  have hbel1 : Below w.heap.size w w1 := hbel.grown hgr hbel.size (fun k hk => by simp at hk; omega)
  clear hbel hone hgr R
  have hc := hone1.cell
  generalize hg : gN zs a = r at hq ⊢
  obtain ⟨x, y, b⟩ := r
  have HG : Hid (gN zs a = (x, y, b)) := hg
  clear hg
  cases b with
  | false =>
    clear hq
    go_wp2_with fail
    go_ret3
    exact ⟨by rw [gN_false zs a (by rw [HG.out])]; rfl, hbel1⟩
  | true =>
    obtain rfl : q = y := hq rfl
    clear hq
    go_wp2_with fail
    go_quiet (fail)
    go_wp2_with fail
    go_ret3
    exact ⟨by rw [HG.out]; rfl, below_drewN hbel1 _⟩

end Go.Proofs.Ythaimhgjfjcbeab
