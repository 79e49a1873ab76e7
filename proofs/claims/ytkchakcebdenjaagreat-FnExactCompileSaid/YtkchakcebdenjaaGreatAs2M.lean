/-
  The other asTold. No condition beyond a right pool that has the values.
-/
import Derived.Test.YtkchakcebdenjaaGreatAsM
namespace Go.Proofs.YtkchakcebdenjaaGreat
open Go.RowKit
set_option maxHeartbeats 1600000 in
theorem atlit_any (v : Int) (p : Value) (w : World) : Calls Tryz.prog 156 #[.agg #[.int .i64 v], .agg #[p]] w fun e w' => e = .returned (.bool true) ∧ Below w.heap.size w w' := by
  go_enter Tryz.func156, Tryz.ntmps156
  go_wp2
  go_ret
  exact ⟨rfl, by first | exact Below.refl _ _ | exact (box2 w _ _).1 | exact (Below.refl _ _).alloc (Nat.le_refl _) _⟩
set_option maxHeartbeats 1600000 in
theorem atstray_any (p : Value) (w : World) : Calls Tryz.prog 158 #[.agg #[], .agg #[p]] w fun e w' => e = .returned (.bool false) ∧ Below w.heap.size w w' := by
  go_enter Tryz.func158, Tryz.ntmps158
  go_wp2
  go_ret
  exact ⟨rfl, by first | exact Below.refl _ _ | exact (box2 w _ _).1 | exact (Below.refl _ _).alloc (Nat.le_refl _) _⟩
set_option maxHeartbeats 1600000 in
theorem atmen_any (s : ByteArray) (p : Value) (w : World) : Calls Tryz.prog 157 #[.agg #[.string s], .agg #[p]] w fun e w' => e = .returned (.bool (!rsv s)) ∧ Below w.heap.size w w' := by
  obtain ⟨hB, hx, hy⟩ := box2 w (Obj.cells #[.string s] 156) (Obj.cells #[p] 29)
  have k0 := cell_of_row _ _ 0 _ _ _ hx
  go_enter Tryz.func157, Tryz.ntmps157
  go_wp2_with fail
  refine (iisform_any s _).mono ?_
  rintro e w1 ⟨rfl, rfl⟩
  go_wp2
  go_ret
  exact ⟨rfl, hB⟩
set_option maxHeartbeats 1600000 in
theorem atquo_any (a : Option Addr) (n c : Nat) (p : Value) (w : World) : Calls Tryz.prog 159 #[.slice a n c, .agg #[p]] w fun e w' => e = .returned (.bool (decide ((n : Int) = 1))) ∧ Below w.heap.size w w' := by
  have hB := (Below.refl w.heap.size w).alloc (Nat.le_refl _) (Obj.cells #[p] 29)
  go_enter Tryz.func159, Tryz.ntmps159
  go_wp2
  go_ret
  exact ⟨rfl, hB⟩
set_option maxHeartbeats 1600000 in
theorem atcho_any (a : Option Addr) (n c : Nat) (p : Value) (w : World) : Calls Tryz.prog 160 #[.slice a n c, .agg #[p]] w fun e w' => e = .returned (.bool (decide ((n : Int) = 3))) ∧ Below w.heap.size w w' := by
  have hB := (Below.refl w.heap.size w).alloc (Nat.le_refl _) (Obj.cells #[p] 29)
  go_enter Tryz.func160, Tryz.ntmps160
  go_wp2
  go_ret
  exact ⟨rfl, hB⟩
set_option maxHeartbeats 1600000 in
theorem atseq_any (a : Option Addr) (n c : Nat) (p : Value) (w : World) : Calls Tryz.prog 161 #[.slice a n c, .agg #[p]] w fun e w' => e = .returned (.bool (decide (0 < n))) ∧ Below w.heap.size w w' := by
  have hB := (Below.refl w.heap.size w).alloc (Nat.le_refl _) (Obj.cells #[p] 29)
  go_enter Tryz.func161, Tryz.ntmps161
  go_wp2
  go_ret
  exact ⟨rfl, hB⟩
set_option maxHeartbeats 1600000 in
theorem atcal_any (a : Option Addr) (n c : Nat) (p : Value) (w : World) : Calls Tryz.prog 162 #[.slice a n c, .agg #[p]] w fun e w' => e = .returned (.bool (decide ((n : Int) ≤ 5))) ∧ Below w.heap.size w w' := by
  have hB := (Below.refl w.heap.size w).alloc (Nat.le_refl _) (Obj.cells #[p] 29)
  go_enter Tryz.func162, Tryz.ntmps162
  go_wp2
  go_ret
  exact ⟨rfl, hB⟩
set_option maxHeartbeats 1600000 in
theorem atbin_any (ao : Option Addr) (cap : Nat) (xs : List Nd) (u y : Value) (vs bs : List Int) (v : Int) (w : World) (R : NRow w (.slice ao xs.length cap) xs) (T : TRow w u vs) (T2 : TRow w y bs) (hv : InP xs vs) :
    Calls Tryz.prog 163 #[.agg #[u, y, .int .i64 v], .agg #[.slice ao xs.length cap]] w fun e w' => e = .returned (.bool (fnB xs vs bs)) ∧ Below w.heap.size w w' := by
  obtain ⟨hB, hx, hy⟩ := box2 w (Obj.cells #[u, y, .int .i64 v] 180) (Obj.cells #[.slice ao xs.length cap] 29)
  have k0 := cell_of_row _ _ 0 _ _ _ hx
  have k1 := cell_of_row _ _ 1 _ _ _ hx
  have k2 := cell_of_row _ _ 0 _ _ _ hy
  go_enter Tryz.func163, Tryz.ntmps163
  go_wp2_with fail
  refine (atfun_any ao cap xs u y vs bs _ (R.below hB) (T.below hB) (T2.below hB) hv).mono ?_
  rintro e w1 ⟨rfl, hb⟩
  have hB1 := hB.trans (hb.mono hB.size)
  clear hb hx hy k0 k1 k2 hB
  go_wp2
  go_ret
  exact ⟨rfl, hB1⟩
set_option maxHeartbeats 1600000 in
theorem atdef_any (ao : Option Addr) (cap : Nat) (xs : List Nd) (s : ByteArray) (u y : Value) (vs bs : List Int) (w : World) (R : NRow w (.slice ao xs.length cap) xs) (T : TRow w u vs) (T2 : TRow w y bs) (hv : InP xs vs) :
    Calls Tryz.prog 155 #[.agg #[.string s, u, y], .agg #[.slice ao xs.length cap]] w fun e w' => e = .returned (.bool (!(s.toList == []) && (!rsv s && fnB xs vs bs))) ∧ Below w.heap.size w w' := by
  obtain ⟨hB, hx, hy⟩ := box2 w (Obj.cells #[.string s, u, y] 114) (Obj.cells #[.slice ao xs.length cap] 29)
  have k0 := cell_of_row _ _ 0 _ _ _ hx
  have k1 := cell_of_row _ _ 1 _ _ _ hx
  have k3 := cell_of_row _ _ 2 _ _ _ hx
  have k2 := cell_of_row _ _ 0 _ _ _ hy
  obtain ⟨b1, h1⟩ : ∃ b, (s.toList == ([] : List UInt8)) = b := ⟨_, rfl⟩
  obtain ⟨b2, h2⟩ : ∃ b, Hid (rsv s = b) := ⟨_, rfl⟩
  cases b1 with
  | true =>
    have HF : Hid ((!(s.toList == []) && (!rsv s && fnB xs vs bs)) = false) := by unfold Hid; rw [h1]; rfl
    go_enter Tryz.func155, Tryz.ntmps155
    go_wp2_with fail
    go_ret
    exact ⟨by rw [HF.out]; rfl, hB⟩
  | false =>
    cases b2 with
    | true =>
      have HF : Hid ((!(s.toList == []) && (!rsv s && fnB xs vs bs)) = false) := by unfold Hid; rw [h1, h2.out]; rfl
      go_enter Tryz.func155, Tryz.ntmps155
      go_wp2_with fail
      refine (iisform_any s _).mono ?_
      rintro e w1 ⟨rfl, rfl⟩
      rw [h2.out]
      go_wp2_with fail
      go_ret
      exact ⟨by rw [HF.out]; rfl, hB⟩
    | false =>
      have HF : Hid ((!(s.toList == []) && (!rsv s && fnB xs vs bs)) = fnB xs vs bs) := by unfold Hid; rw [h1, h2.out]; rfl
      go_enter Tryz.func155, Tryz.ntmps155
      go_wp2_with fail
      refine (iisform_any s _).mono ?_
      rintro e w1 ⟨rfl, rfl⟩
      rw [h2.out]
      go_wp2_with fail
      refine (atfun_any ao cap xs u y vs bs _ (R.below hB) (T.below hB) (T2.below hB) hv).mono ?_
      rintro e w1 ⟨rfl, hb⟩
      have hB1 := hB.trans (hb.mono hB.size)
      clear hb hx hy k0 k1 k2 k3 hB
      obtain ⟨b, hbb⟩ : ∃ b, Hid (fnB xs vs bs = b) := ⟨_, rfl⟩
      rw [hbb.out]
      go_wp2
      go_ret
      exact ⟨by rw [HF.out, hbb.out]; rfl, hB1⟩
end Go.Proofs.YtkchakcebdenjaaGreat
