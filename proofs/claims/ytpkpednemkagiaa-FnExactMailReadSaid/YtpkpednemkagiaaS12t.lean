/-
  The contract of spec.l12ReadText: one text more is read, or something is wrong. No condition but bounds.
-/
import Derived.Test.YtpkpednemkagiaaSR8
import Derived.Test.YtpkpednemkagiaaSGText
import Derived.Test.YtpkpednemkagiaaRtM
namespace Go.Proofs.Ytpkpednemkagiaa
open Go.RowKit

set_option maxRecDepth 100000 in
set_option maxHeartbeats 3200000 in
theorem s12rt_any (b : Nat) (v : Value) (zs : List Int) (at_ : Int) (ok : Bool) (w : World) (R : Row w v zs) (h : C8 w b v at_ ok) (hlo : -9223372036854775808 ≤ at_) (hhi : at_ ≤ 9223372036854775807) :
    Calls Try.prog 14 #[.pointer (some ⟨b, 0, none⟩)] w fun e w' => e = .returned (.string (txt8 zs at_ ok).1) ∧ C8 w' b v (txt8 zs at_ ok).2.1 (txt8 zs at_ ok).2.2 ∧ w.grownBy w' (some b) := by
  have R' := R
  obtain ⟨ao, cap, rfl, _⟩ := R'
  unfold C8 at h
  have c0 : w.cell? ⟨b, 0, none⟩ = some (.slice ao zs.length cap) := cell_of_row _ _ 0 _ _ _ h
  have c1 : w.cell? ⟨b, 1, none⟩ = some (.int .i64 at_) := cell_of_row _ _ 1 _ _ _ h
  have c2 : w.cell? ⟨b, 2, none⟩ = some (.bool ok) := cell_of_row _ _ 2 _ _ _ h
  have f1 : w.frozen? ⟨b, 1, none⟩ = false := frozen_of_row _ _ 1 _ _ h
  have f2 : w.frozen? ⟨b, 2, none⟩ = false := frozen_of_row _ _ 2 _ _ h
  obtain ⟨g, hg⟩ : ∃ g, Hid (gT zs at_ = g) := ⟨_, rfl⟩
  obtain ⟨gx, gn, gk⟩ := g
  have HG : ∀ W : World, Row W (.slice ao zs.length cap) zs → Calls Try.prog 32 #[.slice ao zs.length cap, .int .i64 at_] W fun e w' => e = .returned (.tuple #[.string gx, .int .i64 gn, .bool gk]) ∧ w' = W := fun W RW => by
    have := sgtext_any _ zs at_ W RW hlo hhi
    rw [hg.out] at this
    exact this
  have HN : Hid (txt8 zs at_ ok = if ok && gk then (gx, gn, true) else (⟨#[]⟩, at_, false)) := by unfold Hid txt8; rw [hg.out]
  have hd : ∀ m, Below w.heap.size w (w.drewN m) := fun m => ⟨rfl, rfl, rfl, Nat.le_refl _, fun _ _ => rfl⟩
  go_enter Try.func14, Try.ntmps14
  go_wp2_with fail
  go_quiet (first | (go_at_call 32; refine Calls.quiet_of_same (HG _ R)))
  all_goals
    have lt := (Array.getElem?_eq_some_iff.1 h).1
    have h2 := ((hd nq).block _ lt).trans h
    have g2 : w.grownBy (w.drewN nq) (some b) := ⟨rfl, rfl, rfl, Nat.le_refl _, fun _ _ _ => rfl⟩
    clear c0 c1 c2 f1 f2 hd HG
    generalize w.drewN nq = w2 at *
    have c1 : w2.cell? ⟨b, 1, none⟩ = some (.int .i64 at_) := cell_of_row _ _ 1 _ _ _ h2
    have c2 : w2.cell? ⟨b, 2, none⟩ = some (.bool ok) := cell_of_row _ _ 2 _ _ _ h2
    have f1 : w2.frozen? ⟨b, 1, none⟩ = false := frozen_of_row _ _ 1 _ _ h2
    have f2 : w2.frozen? ⟨b, 2, none⟩ = false := frozen_of_row _ _ 2 _ _ h2
    cases gk with
    | false =>
      have HN2 : Hid (txt8 zs at_ ok = (⟨#[]⟩, at_, false)) := by unfold Hid; rw [HN.out, Bool.and_false]; rfl
      clear HN hg
      go_wp2
      go_ret
      rw [HN2.out]
      exact ⟨rfl, heap_setCell_same w2 b 2 _ _ (.bool false) h2, grown_trans g2 (grown_set w2 b 2 _)⟩
    | true =>
      cases ok with
      | false =>
        have HN2 : Hid (txt8 zs at_ false = (⟨#[]⟩, at_, false)) := HN.out
        clear HN hg
        go_wp2
        go_ret
        rw [HN2.out]
        exact ⟨rfl, heap_setCell_same w2 b 2 _ _ (.bool false) h2, grown_trans g2 (grown_set w2 b 2 _)⟩
      | true =>
        have HN2 : Hid (txt8 zs at_ true = (gx, gn, true)) := HN.out
        clear HN hg
        go_wp2
        go_ret
        rw [HN2.out]
        exact ⟨rfl, heap_setCell_same w2 b 1 _ _ (.int .i64 gn) h2, grown_trans g2 (grown_set w2 b 1 _)⟩
end Go.Proofs.Ytpkpednemkagiaa
