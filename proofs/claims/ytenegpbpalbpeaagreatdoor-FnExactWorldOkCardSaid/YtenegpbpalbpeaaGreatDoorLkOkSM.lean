/-
  Contract of spec's LinkOk. No condition.
-/
import Derived.Test.YtenegpbpalbpeaaGreatDoorLkOkM
namespace Go.Proofs.YtenegpbpalbpeaaGreatDoor
open Go.RowKit
theorem lmin_lend (l : Lk) (w : World) : Calls Tryz.prog 132 #[.int .i64 (l.got + 4), .int .i64 l.sent] w fun e w' => e = .returned (.int .i64 (lend l)) ∧ w' = w := by
  refine (lmin_any _ _ _).mono ?_
  rintro e w' ⟨rfl, rfl⟩
  refine ⟨?_, rfl⟩
  have : min (l.got + 4) l.sent = lend l := by unfold lend; split <;> omega
  rw [this]
theorem lin_is (x a b : Int) (r : Bool) (h : (decide (a ≤ x) && decide (x ≤ b)) = r) (w : World) : Calls Tryz.prog 23 #[.int .i64 x, .int .i64 a, .int .i64 b] w fun e w' => e = .returned (.bool r) ∧ w' = w := by
  rw [← h]
  exact lin_any x a b w
theorem in_yes {x a b : Int} (h : a ≤ x ∧ x ≤ b) : (decide (a ≤ x) && decide (x ≤ b)) = true := by simp [h.1, h.2]
theorem in_no {x a b : Int} (h : ¬ (a ≤ x ∧ x ≤ b)) : (decide (a ≤ x) && decide (x ≤ b)) = false := by
  rw [Bool.eq_false_iff]
  intro e
  simp only [Bool.and_eq_true, decide_eq_true_eq] at e
  exact h e
set_option maxRecDepth 100000 in
set_option maxHeartbeats 6400000 in
theorem slinkok_any (v1 v2 : Value) (l : Lk) (w : World) (R1 : StRow w v1 l.q) (R2 : PcRow w v2 l.h) :
    Calls Tryz.prog 83 #[.agg #[.int .i64 l.sent, .int .i64 l.acked, v1, .int .i64 l.got, v2]] w fun e w' => e = .returned (.bool (linkB l)) ∧ Below w.heap.size w w' := by
  obtain ⟨a1, c1, rfl⟩ := R1.small
  have hq := R1.le
  obtain ⟨a2, c2, rfl, hcap, hm, hz, hcell⟩ := R2
  have hB0 : Below w.heap.size w (w.alloc (Obj.cells #[.int .i64 l.sent, .int .i64 l.acked, .slice a1 l.q.length c1, .int .i64 l.got, .slice a2 l.h.length c2] 138)) := (Below.refl _ _).alloc (Nat.le_refl _) _
  by_cases i1 : 0 ≤ l.sent ∧ l.sent ≤ 100000
  rotate_left
  · have HF : Hid (linkB l = false) := linkB_not (by omega)
    have L1 := lin_is l.sent 0 100000 false (in_no i1)
    go_enter Tryz.func83, Tryz.ntmps83
    go_wp2_with fail
    refine (L1 _).mono ?_
    rintro e w1 ⟨rfl, rfl⟩
    go_wp2
    go_ret
    exact ⟨retB HF.out.symm, hB0⟩
  have L1 := lin_is l.sent 0 100000 true (in_yes i1)
  by_cases i2 : 0 ≤ l.got ∧ l.got ≤ l.sent
  rotate_left
  · have HF : Hid (linkB l = false) := linkB_not (by omega)
    have L2 := lin_is l.got 0 l.sent false (in_no i2)
    go_enter Tryz.func83, Tryz.ntmps83
    go_wp2_with fail
    refine (L1 _).mono ?_
    rintro e w1 ⟨rfl, rfl⟩
    go_wp2_with fail
    refine (L2 _).mono ?_
    rintro e w1 ⟨rfl, rfl⟩
    go_wp2
    go_ret
    exact ⟨retB HF.out.symm, hB0⟩
  have L2 := lin_is l.got 0 l.sent true (in_yes i2)
  by_cases i3 : 0 ≤ l.acked ∧ l.acked ≤ l.got
  rotate_left
  · have HF : Hid (linkB l = false) := linkB_not (by omega)
    have L3 := lin_is l.acked 0 l.got false (in_no i3)
    go_enter Tryz.func83, Tryz.ntmps83
    go_wp2_with fail
    refine (L1 _).mono ?_
    rintro e w1 ⟨rfl, rfl⟩
    go_wp2_with fail
    refine (L2 _).mono ?_
    rintro e w1 ⟨rfl, rfl⟩
    go_wp2_with fail
    refine (L3 _).mono ?_
    rintro e w1 ⟨rfl, rfl⟩
    go_wp2
    go_ret
    exact ⟨retB HF.out.symm, hB0⟩
  have L3 := lin_is l.acked 0 l.got true (in_yes i3)
  by_cases i5 : (l.q.length : Int) = l.sent - l.acked
  rotate_left
  · have HF : Hid (linkB l = false) := linkB_not (by omega)
    have c5 : ((l.q.length : Int) != l.sent - l.acked) = true := by simpa using i5
    go_enter Tryz.func83, Tryz.ntmps83
    go_wp2_with fail
    refine (L1 _).mono ?_
    rintro e w1 ⟨rfl, rfl⟩
    go_wp2_with fail
    refine (L2 _).mono ?_
    rintro e w1 ⟨rfl, rfl⟩
    go_wp2_with fail
    refine (L3 _).mono ?_
    rintro e w1 ⟨rfl, rfl⟩
    obtain ⟨i11, i12⟩ := i1
    obtain ⟨i21, i22⟩ := i2
    obtain ⟨i31, i32⟩ := i3
    go_wp2
    go_ret
    exact ⟨retB HF.out.symm, hB0⟩
  have c5 : ((l.q.length : Int) != l.sent - l.acked) = false := by simpa using i5
  by_cases i6 : l.q.length ≤ 30
  rotate_left
  · have HF : Hid (linkB l = false) := linkB_not (by omega)
    have i6' : 30 < (l.q.length : Int) := by omega
    clear i5
    go_enter Tryz.func83, Tryz.ntmps83
    go_wp2_with fail
    refine (L1 _).mono ?_
    rintro e w1 ⟨rfl, rfl⟩
    go_wp2_with fail
    refine (L2 _).mono ?_
    rintro e w1 ⟨rfl, rfl⟩
    go_wp2_with fail
    refine (L3 _).mono ?_
    rintro e w1 ⟨rfl, rfl⟩
    obtain ⟨i11, i12⟩ := i1
    obtain ⟨i21, i22⟩ := i2
    obtain ⟨i31, i32⟩ := i3
    go_wp2
    go_ret
    exact ⟨retB HF.out.symm, hB0⟩
  have HF : Hid (linkB l = heldB (lend l) l.got l.h) := linkB_held ⟨i3.1, i3.2, i2.2, i1.2, i5, i6⟩
  have i6' : ¬ 30 < (l.q.length : Int) := by omega
  clear i5
  obtain ⟨i11, i12⟩ := i1
  obtain ⟨i21, i22⟩ := i2
  obtain ⟨i31, i32⟩ := i3
  have LM := lmin_lend l
  have hE : 0 ≤ lend l ∧ lend l ≤ 100000 := by unfold lend; split <;> omega
  obtain ⟨r, hr⟩ : ∃ r, linkB l = r := ⟨_, rfl⟩
  rw [hr]
  rw [hr] at HF
  clear hr
  generalize lend l = E at LM HF hE
  obtain ⟨hE0, hE1⟩ := hE
  have W1 : IntKind.i64.wrap (l.got + 4) = l.got + 4 := by rw [IntKind.wrap_i64]; omega
  have W2 : IntKind.i64.wrap (l.got + 1) = l.got + 1 := by rw [IntKind.wrap_i64]; omega
  have W3 : IntKind.i64.wrap (E - 1) = E - 1 := by rw [IntKind.wrap_i64]; omega
  go_enter Tryz.func83, Tryz.ntmps83
  go_wp2_with fail
  refine (L1 _).mono ?_
  rintro e w1 ⟨rfl, rfl⟩
  go_wp2_with fail
  refine (L2 _).mono ?_
  rintro e w1 ⟨rfl, rfl⟩
  go_wp2_with fail
  refine (L3 _).mono ?_
  rintro e w1 ⟨rfl, rfl⟩
  have hx0 := heap_alloc_new w (Obj.cells #[.int .i64 l.sent, .int .i64 l.acked, .slice a1 l.q.length c1, .int .i64 l.got, .slice a2 l.h.length c2] 138)
  generalize hw0 : w.alloc (Obj.cells #[.int .i64 l.sent, .int .i64 l.acked, .slice a1 l.q.length c1, .int .i64 l.got, .slice a2 l.h.length c2] 138) = w0 at *
  have cx0 : w0.cell? ⟨w.heap.size, 0, none⟩ = some (.int .i64 l.sent) := by rw [cell_of_row w0 _ 0 _ _ _ hx0]; rfl
  have cx1 : w0.cell? ⟨w.heap.size, 0 + 1, none⟩ = some (.int .i64 l.acked) := by rw [cell_of_row w0 _ 1 _ _ _ hx0]; rfl
  have cx2 : w0.cell? ⟨w.heap.size, 0 + 2, none⟩ = some (.slice a1 l.q.length c1) := by rw [cell_of_row w0 _ 2 _ _ _ hx0]; rfl
  have cx3 : w0.cell? ⟨w.heap.size, 0 + 3, none⟩ = some (.int .i64 l.got) := by rw [cell_of_row w0 _ 3 _ _ _ hx0]; rfl
  have cx4 : w0.cell? ⟨w.heap.size, 0 + 4, none⟩ = some (.slice a2 l.h.length c2) := by rw [cell_of_row w0 _ 4 _ _ _ hx0]; rfl
  have HW : Hid (w0.heap.size = w.heap.size + 1) := by unfold Hid; rw [← hw0]; simp
  clear hx0 hw0 L1 L2 L3
  go_wp2
  go_loopw [3] (fun i wr => ∃ (j : Nat) (z : Int), j ≤ l.h.length ∧ i = .int .i64 j ∧ l.got ≤ z ∧ (j = 0 → z = l.got) ∧ Hid (∀ j', j = j' + 1 → ∃ x, l.h[j']? = some x ∧ x.n = z) ∧ Hid (heldB E l.got l.h = heldB E z (l.h.drop j)) ∧ Below w0.heap.size w0 wr) (fun i _ => l.h.length - (intOf i).toNat)
  case atStart => exact ⟨0, l.got, by omega, rfl, by omega, fun _ => rfl, fun j' e => by omega, rfl, Below.refl _ _⟩
  case round =>
    obtain ⟨j, z, hj, rfl, hgz, hz0, HJ, HA, hb0⟩ := hrel
    have hw1 : w.heap.size < w0.heap.size := by have := HW.out; omega
    have hBn : Below w.heap.size w wr := hB0.trans (hb0.mono hB0.size)
    replace cx0 := (hb0.cell (p := ⟨w.heap.size, 0, none⟩) hw1).trans cx0
    replace cx3 := (hb0.cell (p := ⟨w.heap.size, 0 + 3, none⟩) hw1).trans cx3
    replace cx4 := (hb0.cell (p := ⟨w.heap.size, 0 + 4, none⟩) hw1).trans cx4
    clear cx1 cx2
    have dn : ∀ m, Below w0.heap.size w0 (wr.drewN m) := fun m => hb0.trans ⟨rfl, rfl, rfl, Nat.le_refl _, fun _ _ => rfl⟩
    have dN : ∀ m, Below w.heap.size w (wr.drewN m) := fun m => hBn.trans ⟨rfl, rfl, rfl, Nat.le_refl _, fun _ _ => rfl⟩
    clear hw1
    by_cases hlt : j < l.h.length
    · obtain ⟨g, o, rfl, hg, hcell⟩ := hcell (by intro e; rw [e] at hlt; simp at hlt)
      obtain ⟨x, hx⟩ : ∃ x, l.h[j]? = some x := ⟨l.h[j], by simp [hlt]⟩
      obtain ⟨k0, _⟩ := (hcell j x hx).below hBn hg
      have HC : Hid (heldB E l.got l.h = (decide (z < x.n) && (decide (x.n < E) && heldB E x.n (l.h.drop (j + 1))))) := by unfold Hid; rw [HA.out, heldB_cons hx]
      have HX : Hid (l.h[j]? = some x) := hx
      by_cases hin : l.got + 1 ≤ x.n ∧ x.n ≤ E - 1
      · have LI := lin_is x.n (l.got + 1) (E - 1) true (in_yes hin)
        by_cases hj0 : j = 0
        · have hzz := hz0 hj0
          subst hj0
          clear hcell HA hx
          simp only [Nat.zero_mul, Nat.add_zero] at k0
          have g0 : (decide ((0 : Int) < 0)) = false := by decide
          go_wp2
          go_quiet (first | (go_at_call 132; refine Calls.quiet_of_same (LM _)) | (go_at_call 23; refine Calls.quiet_of_same (LI _)))
          go_wp2
          go_roundw
          case rel => exact ⟨1, x.n, by omega, by go_num, by omega, fun e => by omega, fun j' e => ⟨x, by rw [← HX.out]; congr 1; omega, rfl⟩, by unfold Hid; rw [HC.out, decide_eq_true (p := z < x.n) (by omega), decide_eq_true (p := x.n < E) (by omega), Bool.true_and, Bool.true_and], dn _⟩
          case measure => simp [intOf]; omega
        · obtain ⟨j', hj'⟩ : ∃ j', j = j' + 1 := ⟨j - 1, by omega⟩
          obtain ⟨x', hx', hxz⟩ := HJ.out j' hj'
          obtain ⟨d0, _⟩ := (hcell j' x' hx').below hBn hg
          rw [hxz] at d0
          have hj1 : (j : Int) - 1 = (j' : Int) := by omega
          have hj2 : j' < l.h.length := by omega
          have hj3 : (0 : Int) < (j : Int) := by omega
          have hj4 : decide ((0 : Int) < (j : Int)) = true := by simpa using hj3
          have hj5 : 0 < j := by omega
          have W4 : IntKind.i64.wrap ((j : Int) - 1) = (j' : Int) := by rw [hj1, IntKind.wrap_i64]; omega
          clear hcell HA hx HJ hz0 hx' hxz hj'
          by_cases hlast : x.n ≤ z
          · go_wp2
            go_quiet (first | (go_at_call 132; refine Calls.quiet_of_same (LM _)) | (go_at_call 23; refine Calls.quiet_of_same (LI _)))
            go_wp2
            go_ret
            exact ⟨retB (by rw [HF.out, HC.out, decide_eq_false (p := z < x.n) (by omega)]; rfl), dN _⟩
          · go_wp2
            go_quiet (first | (go_at_call 132; refine Calls.quiet_of_same (LM _)) | (go_at_call 23; refine Calls.quiet_of_same (LI _)))
            go_wp2
            go_roundw
            case rel => exact ⟨j + 1, x.n, by omega, by go_num, by omega, fun e => by omega, fun j' e => ⟨x, by rw [← HX.out]; congr 1; omega, rfl⟩, by unfold Hid; rw [HC.out, decide_eq_true (p := z < x.n) (by omega), decide_eq_true (p := x.n < E) (by omega), Bool.true_and, Bool.true_and], dn _⟩
            case measure => simp [intOf]; omega
      · have LI := lin_is x.n (l.got + 1) (E - 1) false (in_no hin)
        clear hcell HA hx HJ hz0
        go_wp2
        go_quiet (first | (go_at_call 132; refine Calls.quiet_of_same (LM _)) | (go_at_call 23; refine Calls.quiet_of_same (LI _)))
        go_wp2
        go_ret
        refine ⟨retB ?_, dN _⟩
        rw [HF.out, HC.out]
        by_cases hzx : z < x.n
        · rw [decide_eq_false (p := x.n < E) (by omega), Bool.false_and, Bool.and_false]
        · rw [decide_eq_false hzx, Bool.false_and]
    · go_wp2
      go_ret
      have : j = l.h.length := by omega
      subst this
      exact ⟨retB (by rw [HF.out, HA.out, heldB_end]), hBn⟩
end Go.Proofs.YtenegpbpalbpeaaGreatDoor
