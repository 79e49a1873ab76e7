/-
  The contract of spec.l3Write: a value behind a text, as long as that is not too long. No condition beyond the pool's being right.
-/
import Derived.Test.YtmgjefkelohocaaDoorSDig
import Derived.Test.YtmgjefkelohocaaDoorTo2
namespace Go.Proofs.YtmgjefkelohocaaDoor
open Go.RowKit

theorem pool_name {xs : List Nd} (hp : poolB xs = true) {i : Nat} {x : Nd} (hx : xs[i]? = some x) : x.s.size ≤ 12 := by
  have h := pool_at hp hx
  simp only [nodeB, Bool.and_eq_true] at h
  obtain ⟨_, ⟨hs, _⟩, _⟩ := h
  unfold nameFB at hs
  split at hs
  · simp only [nameB, Bool.and_eq_true, decide_eq_true_eq] at hs
    exact hs.1.2
  · have h0 : x.s.toList = [] := by simpa using hs
    have h1 : x.s.data.toList.length = x.s.size := by rw [Array.length_toList]; rfl
    rw [ByteArray.toList_eq] at h0
    rw [h0] at h1
    simp at h1
    omega

/-- What l3Write makes of the text l and a value that is written m, in the end r; at most so many bytes. -/
def Wrote (l m r : List UInt8) (top : Nat) : Prop :=
  (400 < l.length → r = l) ∧ (l.length ≤ 400 → r.length ≤ top ∧ (l.length + m.length ≤ 400 → r = l ++ m) ∧ (400 < l.length + m.length → 400 < r.length))

theorem wrote_put {l m : List UInt8} {top : Nat} (h : l.length ≤ 400) (hm : l.length + m.length ≤ top) : Wrote l m (l ++ m) top :=
  ⟨fun h' => by omega, fun _ => ⟨by simp; omega, fun _ => rfl, fun h' => by simp; omega⟩⟩
theorem wrote_skip {l m : List UInt8} {top : Nat} (h : 400 < l.length) : Wrote l m l top := ⟨fun _ => rfl, fun h' => by omega⟩
theorem tx_of (s : ByteArray) : s = tx s.data.toList := by apply ByteArray.ext; simp [tx]

def SWrC (ao : Option Addr) (cap : Nat) (xs : List Nd) (v : Nat) : Prop :=
  ∀ (w : World) (l : List UInt8), NRow w (.slice ao xs.length cap) xs → l.length ≤ 20000 →
    Calls Tryd.prog 53 #[.agg #[.slice ao xs.length cap], .int .i64 v, .string (tx l)] w fun e w' => ∃ r, e = .returned (.string (tx r)) ∧ Wrote l (fullT xs v) r (1504 + 4 * v) ∧ Below w.heap.size w w'

set_option maxRecDepth 100000 in
set_option maxHeartbeats 1600000 in
theorem swrite_word (ao : Option Addr) (cap : Nat) (xs : List Nd) (v : Nat) (x : Nd) (hp : poolB xs = true) (hx : xs[v]? = some x) (h5 : ¬ x.k = 5) : SWrC ao cap xs v := by
  intro w l R hl
  have hv := (List.getElem?_eq_some_iff.1 hx).1
  obtain ⟨ao', cap', e', ⟨hcap, _⟩, hm, hz, hcell⟩ := R
  simp only [Value.slice.injEq, true_and] at e'
  obtain ⟨rfl, rfl⟩ := e'
  obtain ⟨g, o, rfl, hg, hcell⟩ := hcell (by intro e; subst e; simp at hv)
  obtain ⟨d0, d1, d2, d3, d4⟩ := hcell v x hx
  have hgn : ¬ g = w.heap.size := by omega
  have hvn : ((v : Int) < (xs.length : Int)) := by omega
  have hxn := pool_num hp hx
  have hxs := pool_name hp hx
  have hwl : (wordL x).length ≤ 1100 := wordL_len hxn.2 (by omega)
  have hil := itoa_len hxn.2
  have HF : Hid (fullT xs v = wordL x) := fullT_word hx h5
  have hb2 : x.k = 2 → x.n = 0 ∨ x.n = 1 := by
    intro h2
    have h := pool_at hp hx
    simp only [nodeB, Bool.and_eq_true, decide_eq_true_eq, lo, hi, h2] at h
    omega
  clear hcell hx hz
  have hBa : Below w.heap.size w (w.alloc (Obj.cells #[.slice (some ⟨g, o, none⟩) xs.length cap] 26)) := (Below.refl _ _).alloc (Nat.le_refl _) _
  obtain ⟨k, n, s, a, b⟩ := x
  dsimp only at d0 d1 d2 d3 d4 hxn hxs h5 hil hb2
  have hBb : Below w.heap.size w ((w.alloc (Obj.cells #[.slice (some ⟨g, o, none⟩) xs.length cap] 26)).alloc (Obj.cells #[.int .i64 k, .int .i64 n, .string s, .int .i64 a, .int .i64 b] 55)) := hBa.alloc hBa.size _
  by_cases h4 : 400 < l.length
  · have hl4 : ¬ (tx l).size ≤ 400 := by rw [tx_size]; omega
    have hsz : (tx l).size = l.length := tx_size l
    go_enter Tryd.func53, Tryd.ntmps53
    go_wp2_with fail
    go_ret
    exact ⟨l, rfl, wrote_skip h4, hBa⟩
  · have hsz : (tx l).size = l.length := tx_size l
    have hl4 : l.length ≤ 400 := by omega
    have HW : Hid (Wrote l (wordL ⟨k, n, s, a, b⟩) (l ++ wordL ⟨k, n, s, a, b⟩) (1504 + 4 * v)) := wrote_put hl4 (by omega)
    have hc : k = 1 ∨ k = 2 ∨ k = 3 ∨ k = 4 ∨ k = 6 ∨ k = 7 ∨ k = 8 ∨ k = 9 := by omega
    clear hwl
    rcases hc with rfl | rfl | rfl | rfl | rfl | rfl | rfl | rfl
    · have ha : ∀ w : World, (Op.stringOp .add (tx l) ⟨#[40, 41]⟩).run Tryd.prog w = .ok (.string (tx (l ++ [40, 41]))) w := fun w => addS l [40, 41] w (by simp; omega)
      go_enter Tryd.func53, Tryd.ntmps53
      go_wp2_with fail
      go_ret
      exact ⟨_, rfl, by rw [HF.out]; exact HW.out, hBb⟩
    · rcases hb2 rfl with rfl | rfl
      · have ha : ∀ w : World, (Op.stringOp .add (tx l) ⟨#[35, 102]⟩).run Tryd.prog w = .ok (.string (tx (l ++ [35, 102]))) w := fun w => addS l [35, 102] w (by simp; omega)
        go_enter Tryd.func53, Tryd.ntmps53
        go_wp2_with fail
        go_ret
        exact ⟨_, rfl, by rw [HF.out]; exact HW.out, hBb⟩
      · have ha : ∀ w : World, (Op.stringOp .add (tx l) ⟨#[35, 116]⟩).run Tryd.prog w = .ok (.string (tx (l ++ [35, 116]))) w := fun w => addS l [35, 116] w (by simp; omega)
        go_enter Tryd.func53, Tryd.ntmps53
        go_wp2_with fail
        go_ret
        exact ⟨_, rfl, by rw [HF.out]; exact HW.out, hBb⟩
    · have ha : ∀ w : World, (Op.stringOp .add (tx l) (tx (Lib.itoa n))).run Tryd.prog w = .ok (.string (tx (l ++ Lib.itoa n))) w := fun w => addS l _ w (by omega)
      go_enter Tryd.func53, Tryd.ntmps53
      go_wp2_with fail
      refine (sdigits_any n _ hxn.2).mono ?_
      rintro e w1 ⟨rfl, hb1⟩
      have hB1 := hBb.trans (hb1.mono hBb.size)
      clear hb1
      go_wp2_with fail
      go_ret
      exact ⟨_, rfl, by rw [HF.out]; exact HW.out, hB1⟩
    · have hs12 : s.data.toList.length ≤ 12 := by rw [Array.length_toList]; exact hxs
      have ha : ∀ w : World, (Op.stringOp .add (tx l) s).run Tryd.prog w = .ok (.string (tx (l ++ s.data.toList))) w := fun w => by
        have := addS l s.data.toList w (by omega)
        rw [← tx_of] at this
        exact this
      go_enter Tryd.func53, Tryd.ntmps53
      go_wp2_with fail
      go_ret
      exact ⟨_, rfl, by rw [HF.out]; exact HW.out, hBb⟩
    · have ha : ∀ w : World, (Op.stringOp .add (tx l) ⟨#[35, 102, 117, 110]⟩).run Tryd.prog w = .ok (.string (tx (l ++ [35, 102, 117, 110]))) w := fun w => addS l [35, 102, 117, 110] w (by simp; omega)
      have ha2 : ∀ w : World, (Op.stringOp .add (tx (l ++ [35, 102, 117, 110])) (tx (Lib.itoa n))).run Tryd.prog w = .ok (.string (tx (l ++ ([35, 102, 117, 110] ++ Lib.itoa n)))) w := fun w => by
        have := addS (l ++ [35, 102, 117, 110]) (Lib.itoa n) w (by simp; omega)
        rw [List.append_assoc] at this
        exact this
      go_enter Tryd.func53, Tryd.ntmps53
      go_wp2_with fail
      refine (sdigits_any n _ hxn.2).mono ?_
      rintro e w1 ⟨rfl, hb1⟩
      have hB1 := hBb.trans (hb1.mono hBb.size)
      clear hb1
      go_wp2_with fail
      go_ret
      exact ⟨_, rfl, by rw [HF.out]; exact HW.out, hB1⟩
    · have ha : ∀ w : World, (Op.stringOp .add (tx l) ⟨#[35, 107, 111, 110, 116]⟩).run Tryd.prog w = .ok (.string (tx (l ++ [35, 107, 111, 110, 116]))) w := fun w => addS l [35, 107, 111, 110, 116] w (by simp; omega)
      have ha2 : ∀ w : World, (Op.stringOp .add (tx (l ++ [35, 107, 111, 110, 116])) (tx (Lib.itoa n))).run Tryd.prog w = .ok (.string (tx (l ++ ([35, 107, 111, 110, 116] ++ Lib.itoa n)))) w := fun w => by
        have := addS (l ++ [35, 107, 111, 110, 116]) (Lib.itoa n) w (by simp; omega)
        rw [List.append_assoc] at this
        exact this
      go_enter Tryd.func53, Tryd.ntmps53
      go_wp2_with fail
      refine (sdigits_any n _ hxn.2).mono ?_
      rintro e w1 ⟨rfl, hb1⟩
      have hB1 := hBb.trans (hb1.mono hBb.size)
      clear hb1
      go_wp2_with fail
      go_ret
      exact ⟨_, rfl, by rw [HF.out]; exact HW.out, hB1⟩
    · have ha : ∀ w : World, (Op.stringOp .add (tx l) ⟨#[35, 112, 114, 105, 109]⟩).run Tryd.prog w = .ok (.string (tx (l ++ [35, 112, 114, 105, 109]))) w := fun w => addS l [35, 112, 114, 105, 109] w (by simp; omega)
      have ha2 : ∀ w : World, (Op.stringOp .add (tx (l ++ [35, 112, 114, 105, 109])) (tx (Lib.itoa n))).run Tryd.prog w = .ok (.string (tx (l ++ ([35, 112, 114, 105, 109] ++ Lib.itoa n)))) w := fun w => by
        have := addS (l ++ [35, 112, 114, 105, 109]) (Lib.itoa n) w (by simp; omega)
        rw [List.append_assoc] at this
        exact this
      go_enter Tryd.func53, Tryd.ntmps53
      go_wp2_with fail
      refine (sdigits_any n _ hxn.2).mono ?_
      rintro e w1 ⟨rfl, hb1⟩
      have hB1 := hBb.trans (hb1.mono hBb.size)
      clear hb1
      go_wp2_with fail
      go_ret
      exact ⟨_, rfl, by rw [HF.out]; exact HW.out, hB1⟩
    · have ha : ∀ w : World, (Op.stringOp .add (tx l) ⟨#[35, 112, 105, 100]⟩).run Tryd.prog w = .ok (.string (tx (l ++ [35, 112, 105, 100]))) w := fun w => addS l [35, 112, 105, 100] w (by simp; omega)
      have ha2 : ∀ w : World, (Op.stringOp .add (tx (l ++ [35, 112, 105, 100])) (tx (Lib.itoa n))).run Tryd.prog w = .ok (.string (tx (l ++ ([35, 112, 105, 100] ++ Lib.itoa n)))) w := fun w => by
        have := addS (l ++ [35, 112, 105, 100]) (Lib.itoa n) w (by simp; omega)
        rw [List.append_assoc] at this
        exact this
      go_enter Tryd.func53, Tryd.ntmps53
      go_wp2_with fail
      refine (sdigits_any n _ hxn.2).mono ?_
      rintro e w1 ⟨rfl, hb1⟩
      have hB1 := hBb.trans (hb1.mono hBb.size)
      clear hb1
      go_wp2_with fail
      go_ret
      exact ⟨_, rfl, by rw [HF.out]; exact HW.out, hB1⟩
end Go.Proofs.YtmgjefkelohocaaDoor
