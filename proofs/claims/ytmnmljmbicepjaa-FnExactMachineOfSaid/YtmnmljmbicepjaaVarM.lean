/-
  A machine's variable (VarM), and the contracts of the laws' helpers markMachine and heldMachine. No condition.
-/
import Derived.Test.YtmnmljmbicepjaaMachRec
import Derived.Test.YtmnmljmbicepjaaLMake
namespace Go.Proofs.Ytmnmljmbicepjaa
open Go.RowKit

theorem stepD8 {w2 w3 : World} (h : Below w2.drew.heap.size w2.drew w3) : Below w2.heap.size w2 w3 := (Below.refl _ _).drew.trans h
/-- What a machine's variable holds: at block b, a machine whose row of nodes lies between lo and hi and reads as xs. -/
def VarM (w : World) (b lo hi : Nat) (v : Value) (xs : List Nd) (m : Mc) : Prop :=
  w.heap[b]? = some (.cells #[v, .int .i64 m.p, .int .i64 m.s, .int .i64 m.e, .int .i64 m.d, .int .i64 m.t, .int .i64 m.q, .int .i64 m.r] 34 (0, 0)) ∧ w.ownsRow lo 60 5 v xs.length (ncs xs) ∧ (∀ k, v.ownBlock = some k → k < hi) ∧ hi ≤ w.heap.size
theorem VarM.new {w5 we : World} {lo : Nat} {v : Value} {xs : List Nd} {m : Mc} (ho : w5.ownsRow lo 60 5 v xs.length (ncs xs)) (hd : Below w5.heap.size w5 we) (hb : we.heap[w5.heap.size]? = some (.cells #[v, .int .i64 m.p, .int .i64 m.s, .int .i64 m.e, .int .i64 m.d, .int .i64 m.t, .int .i64 m.q, .int .i64 m.r] 34 (0, 0))) :
    VarM we w5.heap.size lo we.heap.size v xs m := ⟨hb, own_below ho hd, fun k hk => ((own_below ho hd).lt k hk).2, Nat.le_refl _⟩
theorem VarM.below {w w' : World} {b lo hi : Nat} {v : Value} {xs : List Nd} {m : Mc} (h : VarM w b lo hi v xs m) (hb : Below w.heap.size w w') : VarM w' b lo hi v xs m :=
  ⟨(hb.block b (Array.getElem?_eq_some_iff.1 h.1).1).trans h.1, own_below h.2.1 hb, h.2.2.1, Nat.le_trans h.2.2.2 hb.size⟩
theorem VarM.row {w : World} {b lo hi : Nat} {v : Value} {xs : List Nd} {m : Mc} (h : VarM w b lo hi v xs m) (hm : xs.length ≤ 4194304) (hz : ∀ x ∈ xs, x.s.size ≤ maxLen) : NRow w v xs := NRow.of_own h.2.1 (by omega) hz
theorem VarM.lt {w : World} {b lo hi : Nat} {v : Value} {xs : List Nd} {m : Mc} (h : VarM w b lo hi v xs m) : b < w.heap.size := (Array.getElem?_eq_some_iff.1 h.1).1
theorem VarM.kept {w w' : World} {b lo hi lo' hi' b' : Nat} {v v' : Value} {xs xs' : List Nd} {m m' : Mc} (h : VarM w b lo hi v xs m) (h' : VarM w b' lo' hi' v' xs' m') (hg : w.grownBy w' v'.ownBlock) (hd : hi ≤ lo' ∨ hi' ≤ lo) : VarM w' b lo hi v xs m := by
  have hne : v'.ownBlock ≠ some b := own_ne h'.2.1 h.1 (by decide)
  refine ⟨(hg.block b h.lt (fun e => hne e.symm)).trans h.1, h.2.1.kept hg ?_, h.2.2.1, Nat.le_trans h.2.2.2 hg.size⟩
  cases hv : v.ownBlock with
  | none => exact Or.inl rfl
  | some k =>
    refine Or.inr fun e => ?_
    have k1 := h.2.2.1 k hv
    have k2 := (h.2.1.lt k hv).1
    have k3 := h'.2.2.1 k e.symm
    have k4 := (h'.2.1.lt k e.symm).1
    omega
theorem VarM.marked {w w' : World} {b lo hi : Nat} {v : Value} {xs ys : List Nd} {m : Mc} (h : VarM w b lo hi v xs m) (hg : w.grownBy w' v.ownBlock) (ho : w'.ownsRow lo 60 5 v ys.length (ncs ys)) : VarM w' b lo hi v ys m :=
  ⟨(hg.block b h.lt (fun e => own_ne h.2.1 h.1 (by decide) e.symm)).trans h.1, ho, h.2.2.1, Nat.le_trans h.2.2.2 hg.size⟩
theorem VarM.block {w w' : World} {b lo hi : Nat} {v : Value} {xs : List Nd} {m : Mc} (h : VarM w b lo hi v xs m) (hg : w.grownBy w' v.ownBlock) {j : Nat} {c : Array Value} {t : TypeId} (hj : w.heap[j]? = some (.cells c t (0, 0))) (hte : t ≠ 60) : w'.heap[j]? = some (.cells c t (0, 0)) :=
  (hg.block j (Array.getElem?_eq_some_iff.1 hj).1 (fun e => own_ne h.2.1 hj hte e.symm)).trans hj
theorem below_markM {w w' : World} {B b lo hi : Nat} {v : Value} {xs : List Nd} {m : Mc} {w0 : World} (h0 : Below B w0 w) (h : VarM w b lo hi v xs m) (hg : w.grownBy w' v.ownBlock) (hlo : B ≤ lo) (hB : B ≤ w.heap.size) : Below B w0 w' :=
  h0.grown hg hB (fun k hk => Nat.le_trans hlo (h.2.1.lt k hk).1)

set_option maxHeartbeats 400000 in
theorem markmach_any (v : Value) (k : Int) (base : Nat) (xs : List Nd) (m : Mc) (w : World) (h : w.ownsRow base 60 5 v xs.length (ncs xs)) (hm : xs.length ≤ 4194304) (hk0 : 0 ≤ k) (hk : k ≤ 2305843009213693952) :
    Calls Try.prog 12 #[.agg #[v, .int .i64 m.p, .int .i64 m.s, .int .i64 m.e, .int .i64 m.d, .int .i64 m.t, .int .i64 m.q, .int .i64 m.r], .int .i64 k] w fun e w' => e = .returned (.int .i64 (k + 5 * xs.length)) ∧ w'.ownsRow base 60 5 v xs.length (ncs (nmarked k xs xs.length)) ∧ w.grownBy w' v.ownBlock := by
  obtain ⟨ao, cap, rfl⟩ := own_form h
  go_enter Try.func12, Try.ntmps12
  go_wp2_with fail
  refine (markpool_any _ k base xs _ (h.alloc _) hm hk0 hk).mono ?_
  rintro e w2 ⟨rfl, ho2, hb2⟩
  have hB2 := (World.grownBy_alloc w (Obj.cells #[.slice ao xs.length cap, .int .i64 m.p, .int .i64 m.s, .int .i64 m.e, .int .i64 m.d, .int .i64 m.t, .int .i64 m.q, .int .i64 m.r] 34) (Value.slice ao xs.length cap).ownBlock).trans hb2
  clear hb2
  go_wp2
  go_ret
  exact ⟨rfl, ho2, hB2⟩

set_option maxHeartbeats 400000 in
theorem heldmach_any (v : Value) (k : Int) (xs : List Nd) (m : Mc) (w : World) (R : NRow w v (nmarked k xs xs.length)) (hm : xs.length ≤ 4194304) (hk0 : 0 ≤ k) (hk : k ≤ 2305843009213693952) :
    Calls Try.prog 13 #[.agg #[v, .int .i64 m.p, .int .i64 m.s, .int .i64 m.e, .int .i64 m.d, .int .i64 m.t, .int .i64 m.q, .int .i64 m.r], .int .i64 k] w fun e w' => e = .returned (.int .i64 (k + 5 * xs.length)) ∧ Below w.heap.size w w' := by
  have R' := R
  obtain ⟨ao, cap, rfl, _⟩ := R'
  rw [nmarked_length _ _ _ (Nat.le_refl _)] at R ⊢
  go_enter Try.func13, Try.ntmps13
  go_wp2_with fail
  have hbel : Below w.heap.size w (w.alloc (Obj.cells #[.slice ao xs.length cap, .int .i64 m.p, .int .i64 m.s, .int .i64 m.e, .int .i64 m.d, .int .i64 m.t, .int .i64 m.q, .int .i64 m.r] 34)) := (Below.refl _ _).alloc (Nat.le_refl _) _
  refine (heldpool_any _ k xs _ (R.below hbel) hm hk0 hk).mono ?_
  rintro e w2 ⟨rfl, hb2⟩
  have hB2 := hbel.trans (hb2.mono hbel.size)
  clear hb2 hbel
  have hpos : ¬ (k + 5 * (xs.length : Int)) < 0 := by omega
  go_wp2
  go_ret
  exact ⟨rfl, hB2⟩


/-- What another block's turning leaves. -/
theorem VarM.keptBy {w w' : World} {b lo hi : Nat} {v : Value} {xs : List Nd} {m : Mc} {o : Option Nat} (h : VarM w b lo hi v xs m) (hg : w.grownBy w' o) (hb : ∀ k, o = some k → k ≠ b ∧ (k < lo ∨ hi ≤ k)) : VarM w' b lo hi v xs m := by
  refine ⟨(hg.block b h.lt (fun e => (hb b e.symm).1 rfl)).trans h.1, h.2.1.kept hg ?_, h.2.2.1, Nat.le_trans h.2.2.2 hg.size⟩
  cases hv : v.ownBlock with
  | none => exact Or.inl rfl
  | some k =>
    refine Or.inr fun e => ?_
    have k1 := h.2.2.1 k hv
    have k2 := (h.2.1.lt k hv).1
    have k3 := (hb k e.symm).2
    omega
end Go.Proofs.Ytmnmljmbicepjaa
