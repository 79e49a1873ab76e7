/-
  Contracts of impl's windowEnd, heldFits and LinkOk, and of spec's LinkOk: which links are right. No condition.
-/
import Derived.Test.YtgjebgdingahjaaLink
import Derived.Test.YtgjebgdingahjaaLmin
namespace Go.Proofs.Ytgjebgdingahjaa
open Go.RowKit

/-- Each number above the last one, below e. -/
def heldB (e : Int) : Int → List Pc → Bool
  | _, [] => true
  | last, p :: ps => decide (last < p.n) && (decide (p.n < e) && heldB e p.n ps)
/-- The first number beyond what is taken. -/
def lend (l : Lk) : Int := if l.got + 4 ≤ l.sent then l.got + 4 else l.sent
/-- The link is right. -/
def linkB (l : Lk) : Bool :=
  decide (0 ≤ l.acked ∧ l.acked ≤ l.got ∧ l.got ≤ l.sent ∧ l.sent ≤ 100000 ∧ (l.q.length : Int) = l.sent - l.acked ∧ l.q.length ≤ 30) && heldB (lend l) l.got l.h
theorem linkB_nums {l : Lk} (h : linkB l = true) : 0 ≤ l.acked ∧ l.acked ≤ l.got ∧ l.got ≤ l.sent ∧ l.sent ≤ 100000 ∧ (l.q.length : Int) = l.sent - l.acked ∧ l.q.length ≤ 30 := by
  unfold linkB at h
  simp only [Bool.and_eq_true, decide_eq_true_eq] at h
  exact h.1
theorem linkB_not {l : Lk} (h : ¬ (0 ≤ l.acked ∧ l.acked ≤ l.got ∧ l.got ≤ l.sent ∧ l.sent ≤ 100000 ∧ (l.q.length : Int) = l.sent - l.acked ∧ l.q.length ≤ 30)) : linkB l = false := by
  unfold linkB
  rw [decide_eq_false h]
  rfl
theorem linkB_held {l : Lk} (h : 0 ≤ l.acked ∧ l.acked ≤ l.got ∧ l.got ≤ l.sent ∧ l.sent ≤ 100000 ∧ (l.q.length : Int) = l.sent - l.acked ∧ l.q.length ≤ 30) : linkB l = heldB (lend l) l.got l.h := by
  unfold linkB
  rw [decide_eq_true h]
  rfl

set_option maxHeartbeats 400000 in
theorem lwinend_any (v1 v2 : Value) (l : Lk) (w : World) (h0 : 0 ≤ l.got) (h1 : l.got ≤ l.sent) (h2 : l.sent ≤ 100000) (a1 : Option Addr) (n1 c1 : Nat) (e1 : v1 = .slice a1 n1 c1) (a2 : Option Addr) (n2 c2 : Nat) (e2 : v2 = .slice a2 n2 c2) :
    Calls Try.prog 19 #[.agg #[.int .i64 l.sent, .int .i64 l.acked, v1, .int .i64 l.got, v2]] w fun e w' => e = .returned (.int .i64 (lend l)) ∧ Below w.heap.size w w' := by
  subst e1 e2
  have hB0 : Below w.heap.size w (w.alloc (Obj.cells #[.int .i64 l.sent, .int .i64 l.acked, .slice a1 n1 c1, .int .i64 l.got, .slice a2 n2 c2] 27)) := (Below.refl _ _).alloc (Nat.le_refl _) _
  by_cases hle : l.got + 4 ≤ l.sent
  · have HL : Hid (lend l = l.got + 4) := by unfold Hid lend; rw [if_pos hle]
    go_enter Try.func19, Try.ntmps19
    go_wp2
    go_ret
    exact ⟨by rw [HL.out]; rfl, hB0⟩
  · have HL : Hid (lend l = l.sent) := by unfold Hid lend; rw [if_neg hle]
    go_enter Try.func19, Try.ntmps19
    go_wp2
    go_ret
    exact ⟨by rw [HL.out]; rfl, hB0⟩

theorem heldB_cons {e z : Int} {h : List Pc} {j : Nat} {x : Pc} (hx : h[j]? = some x) : heldB e z (h.drop j) = (decide (z < x.n) && (decide (x.n < e) && heldB e x.n (h.drop (j + 1)))) := by
  obtain ⟨hl, rfl⟩ := List.getElem?_eq_some_iff.1 hx
  rw [List.drop_eq_getElem_cons hl]
  rfl
theorem heldB_end {e z : Int} {h : List Pc} : heldB e z (h.drop h.length) = true := by rw [List.drop_length]; rfl

set_option maxHeartbeats 800000 in
theorem lheldfits_any (v1 v2 : Value) (l : Lk) (w : World) (h0 : 0 ≤ l.got) (h1 : l.got ≤ l.sent) (h2 : l.sent ≤ 100000) (a1 : Option Addr) (n1 c1 : Nat) (e1 : v1 = .slice a1 n1 c1) (R : PcRow w v2 l.h) :
    Calls Try.prog 18 #[.agg #[.int .i64 l.sent, .int .i64 l.acked, v1, .int .i64 l.got, v2]] w fun e w' => e = .returned (.bool (heldB (lend l) l.got l.h)) ∧ Below w.heap.size w w' := by
  subst e1
  obtain ⟨a2, c2, rfl, hcap, hm, hz, hcell⟩ := R
  have hB0 : Below w.heap.size w (w.alloc (Obj.cells #[.int .i64 l.sent, .int .i64 l.acked, .slice a1 n1 c1, .int .i64 l.got, .slice a2 l.h.length c2] 27)) := (Below.refl _ _).alloc (Nat.le_refl _) _
  have LW := fun w => lwinend_any (.slice a1 n1 c1) (.slice a2 l.h.length c2) l w h0 h1 h2 a1 n1 c1 rfl a2 l.h.length c2 rfl
  obtain ⟨r, hr⟩ : ∃ r, heldB (lend l) l.got l.h = r := ⟨_, rfl⟩
  rw [hr]
  generalize lend l = E at LW hr
  have HR : Hid (heldB E l.got l.h = r) := hr
  clear hr
  go_enter Try.func18, Try.ntmps18
  go_wp2_with fail
  go_region_with (go_at_call 19; refine (LW _).mono ?_; rintro e w1 ⟨rfl, hb1⟩; have hx1 : w1.heap[w.heap.size]? = some (.cells #[.int .i64 l.sent, .int .i64 l.acked, .slice a1 n1 c1, .int .i64 l.got, .slice a2 l.h.length c2] 27 (0, 0)) := (hb1.block _ (by simp)).trans (heap_alloc_new _ _); have cx3 : w1.cell? ⟨w.heap.size, 0 + 3, none⟩ = some (.int .i64 l.got) := by rw [cell_of_row w1 _ 3 _ _ _ hx1]; rfl)
  all_goals
    have hB1 : Below w.heap.size w w1 := hB0.drew.trans (hb1.mono (by simp))
    have cx4 : w1.cell? ⟨w.heap.size, 0 + 4, none⟩ = some (.slice a2 l.h.length c2) := by rw [cell_of_row w1 _ 4 _ _ _ hx1]; rfl
    clear hb1
    go_wp2
    go_loopw [3, 14] (fun q i wr => ∃ (j : Nat) (z : Int), j ≤ l.h.length ∧ i = .int .i64 j ∧ q = .int .i64 z ∧ Hid (heldB E l.got l.h = heldB E z (l.h.drop j)) ∧ Below w.heap.size w wr) (fun _ i _ => l.h.length - (intOf i).toNat)
    case atStart => exact ⟨0, l.got, by omega, rfl, rfl, rfl, hB1⟩
    case round =>
      clear hx1 cx3 cx4 hB1 hB0
      obtain ⟨j, z, hj, rfl, rfl, HA, hb⟩ := hrel
      by_cases hlt : j < l.h.length
      · obtain ⟨g, o, rfl, hg, hcell⟩ := hcell (by intro e; rw [e] at hlt; simp at hlt)
        obtain ⟨x, hx⟩ : ∃ x, l.h[j]? = some x := ⟨l.h[j], by simp [hlt]⟩
        obtain ⟨k0, k1⟩ := (hcell j x hx).below hb hg
        have HC : Hid (heldB E l.got l.h = (decide (z < x.n) && (decide (x.n < E) && heldB E x.n (l.h.drop (j + 1))))) := by unfold Hid; rw [HA.out, heldB_cons hx]
        clear hcell HA hx
        have hBn := hb.alloc hb.size (Obj.cells #[.int .i64 x.n, .string x.s] 36)
        by_cases hz1 : x.n ≤ z
        · go_wp2
          go_ret
          exact ⟨retB (by rw [← HR.out, HC.out, decide_eq_false (p := z < x.n) (by omega)]; rfl), hBn⟩
        · by_cases hz2 : E ≤ x.n
          · go_wp2
            go_ret
            exact ⟨retB (by rw [← HR.out, HC.out, decide_eq_false (p := x.n < E) (by omega), Bool.false_and, Bool.and_false]), hBn⟩
          · go_wp2
            go_roundw
            case rel => exact ⟨j + 1, x.n, by omega, by go_num, rfl, by unfold Hid; rw [HC.out, decide_eq_true (p := z < x.n) (by omega), decide_eq_true (p := x.n < E) (by omega), Bool.true_and, Bool.true_and], hBn⟩
            case measure => simp [intOf]; omega
      · go_wp2
        go_ret
        have : j = l.h.length := by omega
        subst this
        exact ⟨retB (by rw [← HR.out, HA.out, heldB_end]), hb⟩

set_option maxHeartbeats 800000 in
theorem ilinkok_any (v1 v2 : Value) (l : Lk) (w : World) (R1 : StRow w v1 l.q) (R2 : PcRow w v2 l.h) :
    Calls Try.prog 12 #[.agg #[.int .i64 l.sent, .int .i64 l.acked, v1, .int .i64 l.got, v2]] w fun e w' => e = .returned (.bool (linkB l)) ∧ Below w.heap.size w w' := by
  obtain ⟨a1, c1, rfl⟩ := R1.small
  obtain ⟨a2, c2, rfl⟩ := R2.small
  have hq := R1.le
  have hB0 : Below w.heap.size w (w.alloc (Obj.cells #[.int .i64 l.sent, .int .i64 l.acked, .slice a1 l.q.length c1, .int .i64 l.got, .slice a2 l.h.length c2] 27)) := (Below.refl _ _).alloc (Nat.le_refl _) _
  by_cases i1 : 0 ≤ l.acked
  rotate_left
  · have HF : Hid (linkB l = false) := linkB_not (by omega)
    go_enter Try.func12, Try.ntmps12
    go_wp2
    go_ret
    exact ⟨retB HF.out.symm, hB0⟩
  by_cases i2 : l.acked ≤ l.got
  rotate_left
  · have HF : Hid (linkB l = false) := linkB_not (by omega)
    go_enter Try.func12, Try.ntmps12
    go_wp2
    go_ret
    exact ⟨retB HF.out.symm, hB0⟩
  by_cases i3 : l.got ≤ l.sent
  rotate_left
  · have HF : Hid (linkB l = false) := linkB_not (by omega)
    go_enter Try.func12, Try.ntmps12
    go_wp2
    go_ret
    exact ⟨retB HF.out.symm, hB0⟩
  by_cases i4 : l.sent ≤ 100000
  rotate_left
  · have HF : Hid (linkB l = false) := linkB_not (by omega)
    go_enter Try.func12, Try.ntmps12
    go_wp2
    go_ret
    exact ⟨retB HF.out.symm, hB0⟩
  by_cases i5 : (l.q.length : Int) = l.sent - l.acked
  rotate_left
  · have HF : Hid (linkB l = false) := linkB_not (by omega)
    have c5 : ((l.q.length : Int) == l.sent - l.acked) = false := by simpa using i5
    go_enter Try.func12, Try.ntmps12
    go_wp2
    go_ret
    exact ⟨retB HF.out.symm, hB0⟩
  have c5 : ((l.q.length : Int) == l.sent - l.acked) = true := by simpa using i5
  by_cases i6 : l.q.length ≤ 30
  rotate_left
  · have HF : Hid (linkB l = false) := linkB_not (by omega)
    have i6' : ¬ (l.q.length : Int) ≤ 30 := by omega
    have I5 : Hid ((l.q.length : Int) = l.sent - l.acked) := i5
    clear i5
    go_enter Try.func12, Try.ntmps12
    go_wp2
    go_ret
    exact ⟨retB HF.out.symm, hB0⟩
  have HF : Hid (linkB l = heldB (lend l) l.got l.h) := linkB_held ⟨i1, i2, i3, i4, i5, i6⟩
  have i6' : (l.q.length : Int) ≤ 30 := by omega
  clear i5
  go_enter Try.func12, Try.ntmps12
  go_wp2_with fail
  refine (lheldfits_any _ _ l _ (by omega) i3 i4 a1 l.q.length c1 rfl (R2.below hB0)).mono ?_
  rintro e w1 ⟨rfl, hb1⟩
  have hB1 := hB0.trans (hb1.mono hB0.size)
  generalize heldB (lend l) l.got l.h = r at *
  clear hb1 hB0
  cases r
  all_goals
    go_wp2
    go_ret
    exact ⟨retB HF.out.symm, hB1⟩
end Go.Proofs.Ytgjebgdingahjaa
