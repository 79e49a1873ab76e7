/-
  The contract of impl.Read's deferred closure where a mistake is panicking. No condition beyond the boxes that are said.
-/
import Derived.Test.YtmgjefkelohocaaDoorBackM
namespace Go.Proofs.YtmgjefkelohocaaDoor
open Go.RowKit

set_option maxHeartbeats 12800000 in
theorem catchr_panicking (q : Nat) (xs : List Nd) (v a b c d : Value) (h p : Int) (older : List PanicEntry) (w : World) (X : RBox q w v a b c d) (R : NRow w v xs) (hl : xs.length ≤ 1048576) :
    CallsD Tryd.prog 44 #[.pointer (some ⟨q, 0, none⟩), .pointer (some ⟨q + 1, 0, none⟩), .pointer (some ⟨q + 1 + 1, 0, none⟩), .pointer (some ⟨q + 1 + 1 + 1, 0, none⟩), .pointer (some ⟨q + 1 + 1 + 1 + 1, 0, none⟩)] (.panicking ({ v := .iface 76 (.agg #[.int .i64 h, .int .i64 p]), recovered := false } :: older)) w fun e u' w' => e = .returned (.tuple #[]) ∧ u' = .panicking ({ v := .iface 76 (.agg #[.int .i64 h, .int .i64 p]), recovered := true } :: older) ∧
      ∃ v' vl, RBox q w' v v' vl (.int .i64 h) (.int .i64 p) ∧ w'.ownsRow w.heap.size 55 5 v' xs.length (ncs xs) ∧ w'.ownsRow w.heap.size 3 1 vl 0 [] ∧ Below q w w' := by
  refine callsD_of_wpS Tryd.func44 rfl fun c₀ cs hu => ?_
  apply wpS_seq
  apply wpS_region
  simp [wpOpsS, go_sem, recoverD, hu, Tryd.ntmps44, Exit.thenS, ta_ok, Array.replicate]
  refine wpS_of_wp ?_
  have hq := X.lt
  have hb1 : Below w.heap.size w (w.alloc (Obj.cells #[.int .i64 h, .int .i64 p] 76)) := (Below.refl _ _).alloc (Nat.le_refl _) _
  have hm1 : (w.alloc (Obj.cells #[.int .i64 h, .int .i64 p] 76)).heap[w.heap.size]? = some (.cells #[.int .i64 h, .int .i64 p] 76 (0, 0)) := heap_alloc_new _ _
  obtain ⟨k, hk⟩ : ∃ k, Hid (w.heap.size = k) := ⟨_, rfl⟩
  rw [hk.out] at hm1
  have hqk : q + 4 < k := by have := hk.out; omega
  go_wp2_with fail
  rw [hk.out]
  generalize w.alloc (Obj.cells #[.int .i64 h, .int .i64 p] 76) = w1 at hb1 hm1 ⊢
  have X1 := X.on (hb1.mono (by omega))
  have R1 := R.below hb1
  obtain ⟨ao, cap, rfl⟩ : ∃ ao cap, v = .slice ao xs.length cap := by obtain ⟨ao, cap, e, _⟩ := R; exact ⟨ao, cap, e⟩
  obtain ⟨c0, _⟩ := X1.cells
  have m0 : w1.cell? ⟨k, 0, none⟩ = some (.int .i64 h) := by rw [cell_of_row w1 _ 0 _ _ _ hm1]; rfl
  have m1 : w1.cell? ⟨k, 1, none⟩ = some (.int .i64 p) := by rw [cell_of_row w1 _ 1 _ _ _ hm1]; rfl
  have hkl : k < w1.heap.size := (Array.getElem?_eq_some_iff.1 hm1).1
  have hq1 : q < w1.heap.size := by omega
  try rw [show q + 1 + 1 = q + 2 from rfl]
  try rw [show q + 2 + 1 = q + 3 from rfl]
  try rw [show q + 3 + 1 = q + 4 from rfl]
  have j1 : ¬ q = k := by omega
  have j2 : ¬ k = q := by omega
  have j3 : ¬ q + 1 = k := by omega
  have j4 : ¬ k = q + 1 := by omega
  have j5 : ¬ q + 2 = k := by omega
  have j6 : ¬ k = q + 2 := by omega
  have j7 : ¬ q + 3 = k := by omega
  have j8 : ¬ k = q + 3 := by omega
  have j9 : ¬ q + 4 = k := by omega
  have j10 : ¬ k = q + 4 := by omega
  have bA : Below w1.heap.size w1 w1.drew := (Below.refl _ _).drew
  have bB : Below w1.heap.size w1 (w1.alloc (Obj.cells #[] 3)).drew := ((Below.refl _ _).alloc (Nat.le_refl _) _).drew
  go_region_held (fun w' => w'.cell? ⟨q, 0, none⟩ = some (.slice ao xs.length cap) ∧ w'.cell? ⟨k, 0, none⟩ = some (.int .i64 h) ∧ w'.cell? ⟨k, 1, none⟩ = some (.int .i64 p)) (first | exact ⟨d0, n0, n1⟩ | go_keep) (first
    | (go_at_call 45; refine (with_any _ _ xs [] _ ?_ ?_ ?_).mono ?_; (first | exact R1.below bA | exact R1.below bB); exact NRow.nil _; simp; omega; rintro e w5 ⟨v5, rfl, ho5, hb5⟩; rw [List.append_nil] at ho5; obtain ⟨ao5, cap5, rfl⟩ := own_form ho5
       have hb15 : Below w1.heap.size w1 w5 := (by first | exact bA.trans hb5 | exact bB.trans (hb5.mono bB.size))
       have hs15 := hb15.size
       have X5 := X1.on (hb15.mono (by omega))
       have XA := X5.on (((Below.refl w5.heap.size w5).alloc (Nat.le_refl _) (Obj.cells #[] 3)).mono (by omega))
       have cc5 := X5.cells
       have ccA := XA.cells
       rw [show q + 1 + 1 = q + 2 from rfl, show q + 2 + 1 = q + 3 from rfl, show q + 3 + 1 = q + 4 from rfl] at cc5 ccA
       obtain ⟨d0, d1, d2, d3, d4, r1, r2, r3, r4⟩ := cc5
       obtain ⟨_, g1, g2, g3, g4, f1, f2, f3, f4⟩ := ccA
       have XC := (X5.set1 (.slice ao5 xs.length cap5)).on (((Below.refl (w5.setCell ⟨q + 1, 0, none⟩ (.slice ao5 xs.length cap5)).heap.size (w5.setCell ⟨q + 1, 0, none⟩ (.slice ao5 xs.length cap5))).alloc (Nat.le_refl _) (Obj.cells #[] 3)).mono (by simp; omega))
       have ccC := XC.cells
       rw [show q + 1 + 1 = q + 2 from rfl, show q + 2 + 1 = q + 3 from rfl, show q + 3 + 1 = q + 4 from rfl] at ccC
       obtain ⟨_, _, y2, y3, y4, _, z2, z3, z4⟩ := ccC
       have n0 := (hb15.cell (p := ⟨k, 0, none⟩) hkl).trans m0
       have n1 := (hb15.cell (p := ⟨k, 1, none⟩) hkl).trans m1
       have hkl5 : k < w5.heap.size := by omega
       have hq5 : q < w5.heap.size := by omega))
  · refine ⟨rfl, .panicking ({ v := .iface 76 (.agg #[.int .i64 h, .int .i64 p]), recovered := true } :: older), rfl, .tuple #[], results_none rfl _ _, rfl, rfl, ?_⟩
    have o5 : w5.ownsRow w.heap.size 55 5 (.slice ao5 xs.length cap5) xs.length (ncs xs) := own_mono ho5 (by first | exact Nat.le_trans hb1.size (Nat.le_refl _) | exact Nat.le_trans hb1.size bB.size)
    have hq0 : q + 1 + 1 + 1 + 1 < w.heap.size := hq
    have hbq5 : Below q w w5 := (hb1.mono (by omega)).trans (hb15.mono (by omega))
    have hw5 : w.heap.size ≤ w5.heap.size := Nat.le_trans hb1.size hs15
    have oN : ∀ u : World, w.heap.size ≤ u.heap.size → (u.alloc (Obj.cells #[] 3)).ownsRow w.heap.size 3 1 (.slice (some ⟨u.heap.size, 0, none⟩) 0 0) 0 [] := fun u hu => ⟨rfl, .inr ⟨u.heap.size, 0, #[], rfl, hu, heap_alloc_new u _, Nat.le_refl _, by unfold maxLen; omega, rfl, rfl⟩⟩
    rw [show q + 4 = q + 1 + 1 + 1 + 1 from rfl, show q + 3 = q + 1 + 1 + 1 from rfl, show q + 2 = q + 1 + 1 from rfl]
    exact fin_box XA (o5.alloc _) (oN w5 hw5) (hbq5.alloc (by omega) _) hq0
  · refine ⟨rfl, .panicking ({ v := .iface 76 (.agg #[.int .i64 h, .int .i64 p]), recovered := true } :: older), rfl, .tuple #[], results_none rfl _ _, rfl, rfl, ?_⟩
    have o5 : w5.ownsRow w.heap.size 55 5 (.slice ao5 xs.length cap5) xs.length (ncs xs) := own_mono ho5 (by first | exact Nat.le_trans hb1.size (Nat.le_refl _) | exact Nat.le_trans hb1.size bB.size)
    have hq0 : q + 1 + 1 + 1 + 1 < w.heap.size := hq
    have hbq5 : Below q w w5 := (hb1.mono (by omega)).trans (hb15.mono (by omega))
    have hw5 : w.heap.size ≤ w5.heap.size := Nat.le_trans hb1.size hs15
    have hsz : (w5.setCell ⟨q + 1, 0, none⟩ (.slice ao5 xs.length cap5)).heap.size = w5.heap.size := by simp
    have oN : ∀ u : World, w.heap.size ≤ u.heap.size → (u.alloc (Obj.cells #[] 3)).ownsRow w.heap.size 3 1 (.slice (some ⟨u.heap.size, 0, none⟩) 0 0) 0 [] := fun u hu => ⟨rfl, .inr ⟨u.heap.size, 0, #[], rfl, hu, heap_alloc_new u _, Nat.le_refl _, by unfold maxLen; omega, rfl, rfl⟩⟩
    have oC := oN (w5.setCell ⟨q + 1, 0, none⟩ (.slice ao5 xs.length cap5)) (by rw [hsz]; exact hw5)
    rw [show q + 4 = q + 1 + 1 + 1 + 1 from rfl, show q + 3 = q + 1 + 1 + 1 from rfl, show q + 2 = q + 1 + 1 from rfl]
    rw [hsz] at oC
    exact fin_box3 XC ((ownsRow_setCell_below o5 (a := ⟨q + 1, 0, none⟩) (by simp; omega) _).alloc _) oC ((hbq5.setCell (p := ⟨q + 1, 0, none⟩) (by simp) _).alloc (by simp; omega) _) hq0
  · refine ⟨rfl, .panicking ({ v := .iface 76 (.agg #[.int .i64 h, .int .i64 p]), recovered := true } :: older), rfl, .tuple #[], results_none rfl _ _, rfl, rfl, ?_⟩
    have o5 : w5.ownsRow w.heap.size 55 5 (.slice ao5 xs.length cap5) xs.length (ncs xs) := own_mono ho5 (by first | exact Nat.le_trans hb1.size (Nat.le_refl _) | exact Nat.le_trans hb1.size bB.size)
    have hq0 : q + 1 + 1 + 1 + 1 < w.heap.size := hq
    have hbq5 : Below q w w5 := (hb1.mono (by omega)).trans (hb15.mono (by omega))
    have hw5 : w.heap.size ≤ w5.heap.size := Nat.le_trans hb1.size hs15
    have oN : ∀ u : World, w.heap.size ≤ u.heap.size → (u.alloc (Obj.cells #[] 3)).ownsRow w.heap.size 3 1 (.slice (some ⟨u.heap.size, 0, none⟩) 0 0) 0 [] := fun u hu => ⟨rfl, .inr ⟨u.heap.size, 0, #[], rfl, hu, heap_alloc_new u _, Nat.le_refl _, by unfold maxLen; omega, rfl, rfl⟩⟩
    rw [show q + 4 = q + 1 + 1 + 1 + 1 from rfl, show q + 3 = q + 1 + 1 + 1 from rfl, show q + 2 = q + 1 + 1 from rfl]
    exact fin_box X5 o5 (own_below (oN w1 hb1.size) ((Below.refl _ _).drew.trans hb5)) hbq5 hq0
end Go.Proofs.YtmgjefkelohocaaDoor
