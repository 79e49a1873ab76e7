/-
  The contract of spec.l8Num: one number more is read, or something is wrong. No condition.
-/
import Derived.Test.YtpkpednemkagiaaSGet
import Derived.Test.YtpkpednemkagiaaR8c
import Derived.Test.YtpkpednemkagiaaGrow
import Derived.Deep.RegionHeld3
namespace Go.Proofs.Ytpkpednemkagiaa
open Go.RowKit

/-- What a reader's variable holds: the bytes, where it is, and whether all was right so far. -/
def C8 (w : World) (b : Nat) (v : Value) (at_ : Int) (ok : Bool) : Prop := w.heap[b]? = some (.cells #[v, .int .i64 at_, .bool ok] 34 (0, 0))

set_option maxRecDepth 100000 in
set_option maxHeartbeats 3200000 in
theorem s8num_any (b : Nat) (v : Value) (zs : List Int) (at_ : Int) (ok : Bool) (w : World) (R : Row w v zs) (h : C8 w b v at_ ok) (hlo : -9223372036854775808 ≤ at_) (hhi : at_ ≤ 9223372036854775807) :
    Calls Try.prog 13 #[.pointer (some ⟨b, 0, none⟩)] w fun e w' => e = .returned (.int .i64 (num8 zs at_ ok).1) ∧ C8 w' b v (num8 zs at_ ok).2.1 (num8 zs at_ ok).2.2 ∧ w.grownBy w' (some b) := by
  have R' := R
  obtain ⟨ao, cap, rfl, _⟩ := R'
  unfold C8 at h
  have c0 : w.cell? ⟨b, 0, none⟩ = some (.slice ao zs.length cap) := cell_of_row _ _ 0 _ _ _ h
  have c1 : w.cell? ⟨b, 1, none⟩ = some (.int .i64 at_) := cell_of_row _ _ 1 _ _ _ h
  have c2 : w.cell? ⟨b, 2, none⟩ = some (.bool ok) := cell_of_row _ _ 2 _ _ _ h
  have f1 : w.frozen? ⟨b, 1, none⟩ = false := frozen_of_row _ _ 1 _ _ h
  have f2 : w.frozen? ⟨b, 2, none⟩ = false := frozen_of_row _ _ 2 _ _ h
  obtain ⟨g, hg⟩ : ∃ g, Hid (gN zs at_ = g) := ⟨_, rfl⟩
  obtain ⟨gx, gn, gk⟩ := g
  have HG : ∀ W : World, Row W (.slice ao zs.length cap) zs → Calls Try.prog 31 #[.slice ao zs.length cap, .int .i64 at_] W fun e w' => e = .returned (.tuple #[.int .i64 gx, .int .i64 gn, .bool gk]) ∧ w' = W := fun W RW => by
    have := sget_any _ zs at_ W RW hlo hhi
    rw [hg.out] at this
    exact this
  have HN : Hid (num8 zs at_ ok = if ok && gk then (gx, gn, true) else (0, at_, false)) := by unfold Hid num8; rw [hg.out]
  have hd : ∀ m, Below w.heap.size w (w.drewN m) := fun m => ⟨rfl, rfl, rfl, Nat.le_refl _, fun _ _ => rfl⟩
  go_enter Try.func13, Try.ntmps13
  go_wp2_with fail
  go_quiet (first | (go_at_call 31; refine Calls.quiet_of_same (HG _ R)))
  all_goals
    have lt := (Array.getElem?_eq_some_iff.1 h).1
    have h2 := ((hd nq).block _ lt).trans h
    have g2 : w.grownBy (w.drewN nq) (some b) := ⟨rfl, rfl, rfl, Nat.le_refl _, fun _ _ _ => rfl⟩
    clear c0 c1 c2 f1 f2 hd HG
    generalize w.drewN nq = w2 at *
    have c1 : w2.cell? ⟨b, 1, none⟩ = some (.int .i64 at_) := cell_of_row _ _ 1 _ _ _ h2
    have c2 : w2.cell? ⟨b, 2, none⟩ = some (.bool ok) := cell_of_row _ _ 2 _ _ _ h2
    have f1 : w2.frozen? ⟨b, 1, none⟩ = false := frozen_of_row _ _ 1 _ _ h2
    have f2 : w2.frozen? ⟨b, 2, none⟩ = false := frozen_of_row _ _ 2 _ _ h2
    cases gk with
    | false =>
      have HN2 : Hid (num8 zs at_ ok = (0, at_, false)) := by unfold Hid; rw [HN.out, Bool.and_false]; rfl
      clear HN hg
      go_wp2
      go_ret
      rw [HN2.out]
      exact ⟨rfl, heap_setCell_same w2 b 2 _ _ (.bool false) h2, grown_trans g2 (grown_set w2 b 2 _)⟩
    | true =>
      cases ok with
      | false =>
        have HN2 : Hid (num8 zs at_ false = (0, at_, false)) := HN.out
        clear HN hg
        go_wp2
        go_ret
        rw [HN2.out]
        exact ⟨rfl, heap_setCell_same w2 b 2 _ _ (.bool false) h2, grown_trans g2 (grown_set w2 b 2 _)⟩
      | true =>
        have HN2 : Hid (num8 zs at_ true = (gx, gn, true)) := HN.out
        clear HN hg
        go_wp2
        go_ret
        rw [HN2.out]
        exact ⟨rfl, heap_setCell_same w2 b 1 _ _ (.int .i64 gn) h2, grown_trans g2 (grown_set w2 b 1 _)⟩
end Go.Proofs.Ytpkpednemkagiaa
