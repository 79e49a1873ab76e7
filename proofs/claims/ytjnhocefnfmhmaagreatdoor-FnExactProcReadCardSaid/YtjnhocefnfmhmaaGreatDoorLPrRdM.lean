/-
  Texts that stood by themselves, laid into one.
-/
import Derived.Test.YtjnhocefnfmhmaaGreatDoorBsM
import Derived.Test.YtjnhocefnfmhmaaGreatDoorLMakeM
import Derived.Test.YtjnhocefnfmhmaaGreatDoorSbM
import Derived.Test.YtjnhocefnfmhmaaGreatDoorPrRegM
import Derived.Test.YtjnhocefnfmhmaaGreatDoorSPd2M
import Derived.Test.YtjnhocefnfmhmaaGreatDoorSPdM
import Derived.Test.YtjnhocefnfmhmaaGreatDoorInstrM
import Derived.Test.YtjnhocefnfmhmaaGreatDoorSIntoM
import Derived.Test.YtjnhocefnfmhmaaGreatDoorStrsM
import Derived.Test.YtjnhocefnfmhmaaGreatDoorDfArgM
/-
  A machine's variable (VarM), and the contracts of the laws' helpers markMachine and heldMachine. No condition.
-/
namespace Go.Proofs.YtjnhocefnfmhmaaGreatDoor
open Go.RowKit

theorem stepD8 {w2 w3 : World} (h : Below w2.drew.heap.size w2.drew w3) : Below w2.heap.size w2 w3 := (Below.refl _ _).drew.trans h
/-- What a machine's variable holds: at block b, a machine whose row of nodes lies between lo and hi and reads as xs. -/
def VarM (w : World) (b lo hi : Nat) (v : Value) (xs : List Nd) (m : Mc) : Prop :=
  w.heap[b]? = some (.cells #[v, .int .i64 m.p, .int .i64 m.s, .int .i64 m.e, .int .i64 m.d, .int .i64 m.t, .int .i64 m.q, .int .i64 m.r] 47 (0, 0)) ∧ w.ownsRow lo 153 5 v xs.length (ncs xs) ∧ (∀ k, v.ownBlock = some k → k < hi) ∧ hi ≤ w.heap.size
theorem VarM.new {w5 we : World} {lo : Nat} {v : Value} {xs : List Nd} {m : Mc} (ho : w5.ownsRow lo 153 5 v xs.length (ncs xs)) (hd : Below w5.heap.size w5 we) (hb : we.heap[w5.heap.size]? = some (.cells #[v, .int .i64 m.p, .int .i64 m.s, .int .i64 m.e, .int .i64 m.d, .int .i64 m.t, .int .i64 m.q, .int .i64 m.r] 47 (0, 0))) :
    VarM we w5.heap.size lo we.heap.size v xs m := ⟨hb, own_below ho hd, fun k hk => ((own_below ho hd).lt k hk).2, Nat.le_refl _⟩
theorem VarM.below {w w' : World} {b lo hi : Nat} {v : Value} {xs : List Nd} {m : Mc} (h : VarM w b lo hi v xs m) (hb : Below w.heap.size w w') : VarM w' b lo hi v xs m :=
  ⟨(hb.block b (Array.getElem?_eq_some_iff.1 h.1).1).trans h.1, own_below h.2.1 hb, h.2.2.1, Nat.le_trans h.2.2.2 hb.size⟩
theorem VarM.row {w : World} {b lo hi : Nat} {v : Value} {xs : List Nd} {m : Mc} (h : VarM w b lo hi v xs m) (hm : xs.length ≤ 4194304) (hz : ∀ x ∈ xs, x.s.size ≤ maxLen) : NRow w v xs := NRow.of_own h.2.1 (by omega) hz
theorem VarM.lt {w : World} {b lo hi : Nat} {v : Value} {xs : List Nd} {m : Mc} (h : VarM w b lo hi v xs m) : b < w.heap.size := (Array.getElem?_eq_some_iff.1 h.1).1
theorem VarM.kept {w w' : World} {b lo hi lo' hi' b' : Nat} {v v' : Value} {xs xs' : List Nd} {m m' : Mc} (h : VarM w b lo hi v xs m) (h' : VarM w b' lo' hi' v' xs' m') (hg : w.grownBy w' v'.ownBlock) (hd : hi ≤ lo' ∨ hi' ≤ lo) : VarM w' b lo hi v xs m := by
  have hne : v'.ownBlock ≠ some b := own_ne h'.2.1 h.1 (by decide)
  refine ⟨(hg.block b h.lt (fun e => hne e.symm)).trans h.1, h.2.1.kept hg ?_, h.2.2.1, Nat.le_trans h.2.2.2 hg.size⟩
  cases hv : v.ownBlock with
  | none => exact Or.inl rfl
  | some k =>
    refine Or.inr fun e => ?_
    have k1 := h.2.2.1 k hv
    have k2 := (h.2.1.lt k hv).1
    have k3 := h'.2.2.1 k e.symm
    have k4 := (h'.2.1.lt k e.symm).1
    omega
theorem VarM.marked {w w' : World} {b lo hi : Nat} {v : Value} {xs ys : List Nd} {m : Mc} (h : VarM w b lo hi v xs m) (hg : w.grownBy w' v.ownBlock) (ho : w'.ownsRow lo 153 5 v ys.length (ncs ys)) : VarM w' b lo hi v ys m :=
  ⟨(hg.block b h.lt (fun e => own_ne h.2.1 h.1 (by decide) e.symm)).trans h.1, ho, h.2.2.1, Nat.le_trans h.2.2.2 hg.size⟩
theorem VarM.block {w w' : World} {b lo hi : Nat} {v : Value} {xs : List Nd} {m : Mc} (h : VarM w b lo hi v xs m) (hg : w.grownBy w' v.ownBlock) {j : Nat} {c : Array Value} {t : TypeId} (hj : w.heap[j]? = some (.cells c t (0, 0))) (hte : t ≠ 153) : w'.heap[j]? = some (.cells c t (0, 0)) :=
  (hg.block j (Array.getElem?_eq_some_iff.1 hj).1 (fun e => own_ne h.2.1 hj hte e.symm)).trans hj
theorem below_markM {w w' : World} {B b lo hi : Nat} {v : Value} {xs : List Nd} {m : Mc} {w0 : World} (h0 : Below B w0 w) (h : VarM w b lo hi v xs m) (hg : w.grownBy w' v.ownBlock) (hlo : B ≤ lo) (hB : B ≤ w.heap.size) : Below B w0 w' :=
  h0.grown hg hB (fun k hk => Nat.le_trans hlo (h.2.1.lt k hk).1)

set_option maxHeartbeats 400000 in
theorem markmach_any (v : Value) (k : Int) (base : Nat) (xs : List Nd) (m : Mc) (w : World) (h : w.ownsRow base 153 5 v xs.length (ncs xs)) (hm : xs.length ≤ 4194304) (hk0 : 0 ≤ k) (hk : k ≤ 2305843009213693952) :
    Calls Tryz.prog 52 #[.agg #[v, .int .i64 m.p, .int .i64 m.s, .int .i64 m.e, .int .i64 m.d, .int .i64 m.t, .int .i64 m.q, .int .i64 m.r], .int .i64 k] w fun e w' => e = .returned (.int .i64 (k + 5 * xs.length)) ∧ w'.ownsRow base 153 5 v xs.length (ncs (nmarked k xs xs.length)) ∧ w.grownBy w' v.ownBlock := by
  obtain ⟨ao, cap, rfl⟩ := own_form h
  go_enter Tryz.func52, Tryz.ntmps52
  go_wp2_with fail
  refine (markpool_any _ k base xs _ (h.alloc _) hm hk0 hk).mono ?_
  rintro e w2 ⟨rfl, ho2, hb2⟩
  have hB2 := (World.grownBy_alloc w (Obj.cells #[.slice ao xs.length cap, .int .i64 m.p, .int .i64 m.s, .int .i64 m.e, .int .i64 m.d, .int .i64 m.t, .int .i64 m.q, .int .i64 m.r] 47) (Value.slice ao xs.length cap).ownBlock).trans hb2
  clear hb2
  go_wp2
  go_ret
  exact ⟨rfl, ho2, hB2⟩

set_option maxHeartbeats 400000 in
theorem heldmach_any (v : Value) (k : Int) (xs : List Nd) (m : Mc) (w : World) (R : NRow w v (nmarked k xs xs.length)) (hm : xs.length ≤ 4194304) (hk0 : 0 ≤ k) (hk : k ≤ 2305843009213693952) :
    Calls Tryz.prog 54 #[.agg #[v, .int .i64 m.p, .int .i64 m.s, .int .i64 m.e, .int .i64 m.d, .int .i64 m.t, .int .i64 m.q, .int .i64 m.r], .int .i64 k] w fun e w' => e = .returned (.int .i64 (k + 5 * xs.length)) ∧ Below w.heap.size w w' := by
  have R' := R
  obtain ⟨ao, cap, rfl, _⟩ := R'
  rw [nmarked_length _ _ _ (Nat.le_refl _)] at R ⊢
  go_enter Tryz.func54, Tryz.ntmps54
  go_wp2_with fail
  have hbel : Below w.heap.size w (w.alloc (Obj.cells #[.slice ao xs.length cap, .int .i64 m.p, .int .i64 m.s, .int .i64 m.e, .int .i64 m.d, .int .i64 m.t, .int .i64 m.q, .int .i64 m.r] 47)) := (Below.refl _ _).alloc (Nat.le_refl _) _
  refine (heldpool_any _ k xs _ (R.below hbel) hm hk0 hk).mono ?_
  rintro e w2 ⟨rfl, hb2⟩
  have hB2 := hbel.trans (hb2.mono hbel.size)
  clear hb2 hbel
  have hpos : ¬ (k + 5 * (xs.length : Int)) < 0 := by omega
  go_wp2
  go_ret
  exact ⟨rfl, hB2⟩


/-- What another block's turning leaves. -/
theorem VarM.keptBy {w w' : World} {b lo hi : Nat} {v : Value} {xs : List Nd} {m : Mc} {o : Option Nat} (h : VarM w b lo hi v xs m) (hg : w.grownBy w' o) (hb : ∀ k, o = some k → k ≠ b ∧ (k < lo ∨ hi ≤ k)) : VarM w' b lo hi v xs m := by
  refine ⟨(hg.block b h.lt (fun e => (hb b e.symm).1 rfl)).trans h.1, h.2.1.kept hg ?_, h.2.2.1, Nat.le_trans h.2.2.2 hg.size⟩
  cases hv : v.ownBlock with
  | none => exact Or.inl rfl
  | some k =>
    refine Or.inr fun e => ?_
    have k1 := h.2.2.1 k hv
    have k2 := (h.2.1.lt k hv).1
    have k3 := (hb k e.symm).2
    omega
end Go.Proofs.YtjnhocefnfmhmaaGreatDoor

/-
  A process's variable (VarPr), and the contracts of the laws' helpers markProc and heldProc. No condition.
-/
namespace Go.Proofs.YtjnhocefnfmhmaaGreatDoor
open Go.RowKit

/-- Rows of different kinds are different rows. -/
theorem own_kinds {w : World} {B B' k k' n n' : Nat} {e e' : TypeId} {v v' : Value} {l l' : List Value} (h : w.ownsRow B e k v n l) (h' : w.ownsRow B' e' k' v' n' l') (hne : e ≠ e') : v.ownBlock = none ∨ v.ownBlock ≠ v'.ownBlock := by
  rcases h.2 with ⟨rfl, _⟩ | ⟨g, cap, cur, rfl, hB, hg, _⟩
  · exact Or.inl rfl
  · right
    intro e1
    exact own_ne h' hg hne e1.symm

set_option maxHeartbeats 800000 in
theorem markstrs_own (v : Value) (k : Int) (base : Nat) (xs : List ByteArray) (w : World) (h : w.ownsRow base 9 1 v xs.length (stv xs)) (hm : xs.length ≤ 4194304) (hk0 : 0 ≤ k) (hk : k ≤ 2305843009213693952) :
    Calls Tryz.prog 53 #[v, .int .i64 k] w fun e w' => e = .returned (.int .i64 (k + xs.length)) ∧ w'.ownsRow base 9 1 v xs.length (stv (sm k xs.length)) ∧ w.grownBy w' v.ownBlock := by
  have h' := h
  rcases h.2 with ⟨rfl, h0⟩ | ⟨g, cap, cur, rfl, hB, hg, _⟩
  · have : xs = [] := List.eq_nil_of_length_eq_zero h0
    subst this
    go_enter Tryz.func53, Tryz.ntmps53
    go_wp2
    refine wp_loop_rounds 1 ?_
    rw [rounds_succ]
    go_wp2
    go_ret
    exact ⟨by simp, h', World.grownBy.refl _ _⟩
  · refine (markstrs_mid g 0 cap cap xs.length base k [] xs [] w rfl (by simp) (by simpa using h') hm hk0 hk).mono ?_
    rintro e w' ⟨rfl, ho, hgr⟩
    exact ⟨rfl, by simpa using ho, hgr⟩

/-- What a process's variable holds: at block b, a process whose rows lie between lo and hi. -/
structure VarPr (w : World) (b lo hi : Nat) (v vb vo : Value) (i : Int) (xs : List Nd) (m : Mc) (bx ox : List ByteArray) : Prop where
  blk : w.heap[b]? = some (.cells #[.int .i64 i, v, .int .i64 m.p, .int .i64 m.s, .int .i64 m.e, .int .i64 m.d, .int .i64 m.t, .int .i64 m.q, .int .i64 m.r, vb, vo] 49 (0, 0))
  o1 : w.ownsRow lo 153 5 v xs.length (ncs xs)
  o2 : w.ownsRow lo 9 1 vb bx.length (stv bx)
  o3 : w.ownsRow lo 9 1 vo ox.length (stv ox)
  t1 : ∀ k, v.ownBlock = some k → k < hi
  t2 : ∀ k, vb.ownBlock = some k → k < hi
  t3 : ∀ k, vo.ownBlock = some k → k < hi
  ap : ∀ g, vo.ownBlock = some g → vb.ownBlock ≠ some g
  top : hi ≤ w.heap.size
theorem VarPr.of {w : World} {b lo : Nat} {v vb vo : Value} {i : Int} {xs : List Nd} {m : Mc} {bx ox : List ByteArray} (hb : w.heap[b]? = some (.cells #[.int .i64 i, v, .int .i64 m.p, .int .i64 m.s, .int .i64 m.e, .int .i64 m.d, .int .i64 m.t, .int .i64 m.q, .int .i64 m.r, vb, vo] 49 (0, 0))) (h1 : w.ownsRow lo 153 5 v xs.length (ncs xs)) (h2 : w.ownsRow lo 9 1 vb bx.length (stv bx)) (h3 : w.ownsRow lo 9 1 vo ox.length (stv ox)) (ha : ∀ g, vo.ownBlock = some g → vb.ownBlock ≠ some g) : VarPr w b lo w.heap.size v vb vo i xs m bx ox :=
  ⟨hb, h1, h2, h3, fun k hk => (h1.lt k hk).2, fun k hk => (h2.lt k hk).2, fun k hk => (h3.lt k hk).2, ha, Nat.le_refl _⟩
section
variable {w w' : World} {b lo hi : Nat} {v vb vo : Value} {i : Int} {xs : List Nd} {m : Mc} {bx ox : List ByteArray}
theorem VarPr.below (h : VarPr w b lo hi v vb vo i xs m bx ox) (hb : Below w.heap.size w w') : VarPr w' b lo hi v vb vo i xs m bx ox :=
  ⟨blk_bel h.blk hb, own_below h.o1 hb, own_below h.o2 hb, own_below h.o3 hb, h.t1, h.t2, h.t3, h.ap, Nat.le_trans h.top hb.size⟩
theorem VarPr.lt (h : VarPr w b lo hi v vb vo i xs m bx ox) : b < w.heap.size := blk_lt h.blk
theorem VarPr.row (h : VarPr w b lo hi v vb vo i xs m bx ox) (hm : xs.length ≤ 4194304) (hz : ∀ x ∈ xs, x.s.size ≤ maxLen) : NRow w v xs := NRow.of_own h.o1 (by omega) hz
theorem VarPr.rowb (h : VarPr w b lo hi v vb vo i xs m bx ox) (hm : bx.length ≤ 4194304) (hz : ∀ x ∈ bx, x.size ≤ maxLen) : StRow w vb bx := StRow.of_own h.o2 (by omega) hz
theorem VarPr.rowo (h : VarPr w b lo hi v vb vo i xs m bx ox) (hm : ox.length ≤ 4194304) (hz : ∀ x ∈ ox, x.size ≤ maxLen) : StRow w vo ox := StRow.of_own h.o3 (by omega) hz
theorem own_range {e : TypeId} {k n : Nat} {u : Value} {l : List Value} {o : Option Nat} (h : w.ownsRow lo e k u n l) (ht : ∀ k, u.ownBlock = some k → k < hi) (hg : w.grownBy w' o) (hb : ∀ k, o = some k → k < lo ∨ hi ≤ k) : w'.ownsRow lo e k u n l := by
  refine h.kept hg ?_
  cases hv : u.ownBlock with
  | none => exact Or.inl rfl
  | some k =>
    refine Or.inr fun e => ?_
    have k1 := ht k hv
    have k2 := (h.lt k hv).1
    have k3 := hb k e.symm
    omega
/-- What another block's turning leaves. -/
theorem VarPr.keptBy {o : Option Nat} (h : VarPr w b lo hi v vb vo i xs m bx ox) (hg : w.grownBy w' o) (hb : ∀ k, o = some k → k ≠ b ∧ (k < lo ∨ hi ≤ k)) : VarPr w' b lo hi v vb vo i xs m bx ox :=
  ⟨(hg.block b h.lt (fun e => (hb b e.symm).1 rfl)).trans h.blk, own_range h.o1 h.t1 hg (fun k hk => (hb k hk).2), own_range h.o2 h.t2 hg (fun k hk => (hb k hk).2), own_range h.o3 h.t3 hg (fun k hk => (hb k hk).2), h.t1, h.t2, h.t3, h.ap, Nat.le_trans h.top hg.size⟩
/-- Its own rows turned. -/
theorem VarPr.turned {ys : List Nd} {by' oy : List ByteArray} {wa wb : World} (h : VarPr w b lo hi v vb vo i xs m bx ox) (ga : w.grownBy wa v.ownBlock) (gb : wa.grownBy wb vb.ownBlock) (gc : wb.grownBy w' vo.ownBlock) (h1 : w'.ownsRow lo 153 5 v ys.length (ncs ys)) (h2 : w'.ownsRow lo 9 1 vb by'.length (stv by')) (h3 : w'.ownsRow lo 9 1 vo oy.length (stv oy)) : VarPr w' b lo hi v vb vo i ys m by' oy := by
  have l0 := h.lt
  have l1 := Nat.lt_of_lt_of_le l0 ga.size
  have l2 := Nat.lt_of_lt_of_le l1 gb.size
  refine ⟨((gc.block b l2 (fun e => own_ne h.o3 h.blk (by decide) e.symm)).trans ((gb.block b l1 (fun e => own_ne h.o2 h.blk (by decide) e.symm)).trans (ga.block b l0 (fun e => own_ne h.o1 h.blk (by decide) e.symm)))).trans h.blk, h1, h2, h3, h.t1, h.t2, h.t3, h.ap, Nat.le_trans h.top (Nat.le_trans ga.size (Nat.le_trans gb.size gc.size))⟩
theorem VarPr.frame {W0 wa wb : World} {B : Nat} (h0 : Below B W0 w) (h : VarPr w b lo hi v vb vo i xs m bx ox) (ga : w.grownBy wa v.ownBlock) (gb : wa.grownBy wb vb.ownBlock) (gc : wb.grownBy w' vo.ownBlock) (hlo : B ≤ lo) (hB : B ≤ w.heap.size) : Below B W0 w' :=
  ((h0.grown ga hB (fun k hk => Nat.le_trans hlo (h.o1.lt k hk).1)).grown gb (Nat.le_trans hB ga.size) (fun k hk => Nat.le_trans hlo (h.o2.lt k hk).1)).grown gc (Nat.le_trans hB (Nat.le_trans ga.size gb.size)) (fun k hk => Nat.le_trans hlo (h.o3.lt k hk).1)
/-- A block that is no row stays. -/
theorem VarPr.other {wa wb : World} {j : Nat} {c : Array Value} {t : TypeId} (h : VarPr w b lo hi v vb vo i xs m bx ox) (ga : w.grownBy wa v.ownBlock) (gb : wa.grownBy wb vb.ownBlock) (gc : wb.grownBy w' vo.ownBlock) (hj : w.heap[j]? = some (.cells c t (0, 0))) (h1 : t ≠ 153) (h2 : t ≠ 9) : w'.heap[j]? = some (.cells c t (0, 0)) := by
  have l0 := blk_lt hj
  have l1 := Nat.lt_of_lt_of_le l0 ga.size
  have l2 := Nat.lt_of_lt_of_le l1 gb.size
  exact ((gc.block j l2 (fun e => own_ne h.o3 hj h2 e.symm)).trans ((gb.block j l1 (fun e => own_ne h.o2 hj h2 e.symm)).trans (ga.block j l0 (fun e => own_ne h.o1 hj h1 e.symm)))).trans hj
/-- Where another's rows are turned. -/
theorem VarPr.kept3 {wa wb : World} {b' lo' hi' : Nat} {u ub uo : Value} {j : Int} {ys : List Nd} {m' : Mc} {by' oy : List ByteArray} (h : VarPr w b lo hi v vb vo i xs m bx ox) (h' : VarPr w b' lo' hi' u ub uo j ys m' by' oy) (ga : w.grownBy wa u.ownBlock) (gb : wa.grownBy wb ub.ownBlock) (gc : wb.grownBy w' uo.ownBlock) (hd : hi ≤ lo' ∨ hi' ≤ lo) : VarPr w' b lo hi v vb vo i xs m bx ox := by
  refine ((h.keptBy ga (fun k hk => ?_)).keptBy gb (fun k hk => ?_)).keptBy gc (fun k hk => ?_)
  · have k1 := (h'.o1.lt k hk).1
    have k2 := h'.t1 k hk
    exact ⟨fun e => own_ne h'.o1 h.blk (by decide) (e ▸ hk), by omega⟩
  · have k1 := (h'.o2.lt k hk).1
    have k2 := h'.t2 k hk
    exact ⟨fun e => own_ne h'.o2 h.blk (by decide) (e ▸ hk), by omega⟩
  · have k1 := (h'.o3.lt k hk).1
    have k2 := h'.t3 k hk
    exact ⟨fun e => own_ne h'.o3 h.blk (by decide) (e ▸ hk), by omega⟩
end

set_option maxRecDepth 100000 in
set_option maxHeartbeats 1600000 in
theorem markproc_any (v vb vo : Value) (k : Int) (base : Nat) (i : Int) (xs : List Nd) (m : Mc) (bx ox : List ByteArray) (w : World) (h1 : w.ownsRow base 153 5 v xs.length (ncs xs)) (h2 : w.ownsRow base 9 1 vb bx.length (stv bx)) (h3 : w.ownsRow base 9 1 vo ox.length (stv ox)) (ha : ∀ g, vo.ownBlock = some g → vb.ownBlock ≠ some g) (l1 : xs.length ≤ 4194304) (l2 : bx.length ≤ 4194304) (l3 : ox.length ≤ 4194304) (hk0 : 0 ≤ k) (hk : k ≤ 1152921504606846976) :
    Calls Tryz.prog 16 #[.agg #[.int .i64 i, v, .int .i64 m.p, .int .i64 m.s, .int .i64 m.e, .int .i64 m.d, .int .i64 m.t, .int .i64 m.q, .int .i64 m.r, vb, vo], .int .i64 k] w fun e w' => e = .returned (.int .i64 (k + 5 * xs.length + bx.length + ox.length)) ∧ ∃ wa wb, w.grownBy wa v.ownBlock ∧ wa.grownBy wb vb.ownBlock ∧ wb.grownBy w' vo.ownBlock ∧ w'.ownsRow base 153 5 v xs.length (ncs (nmarked k xs xs.length)) ∧ w'.ownsRow base 9 1 vb bx.length (stv (sm (k + 5 * xs.length) bx.length)) ∧ w'.ownsRow base 9 1 vo ox.length (stv (sm (k + 5 * xs.length + bx.length) ox.length)) := by
  obtain ⟨ao, cap, rfl⟩ := own_form h1
  obtain ⟨ab, cb, rfl⟩ := own_form h2
  obtain ⟨ac, cc, rfl⟩ := own_form h3
  have g0 := World.grownBy_alloc w (Obj.cells #[.int .i64 i, .slice ao xs.length cap, .int .i64 m.p, .int .i64 m.s, .int .i64 m.e, .int .i64 m.d, .int .i64 m.t, .int .i64 m.q, .int .i64 m.r, .slice ab bx.length cb, .slice ac ox.length cc] 49) (Value.slice ao xs.length cap).ownBlock
  have hx0 := heap_alloc_new w (Obj.cells #[.int .i64 i, .slice ao xs.length cap, .int .i64 m.p, .int .i64 m.s, .int .i64 m.e, .int .i64 m.d, .int .i64 m.t, .int .i64 m.q, .int .i64 m.r, .slice ab bx.length cb, .slice ac ox.length cc] 49)
  replace h1 := h1.alloc (Obj.cells #[.int .i64 i, .slice ao xs.length cap, .int .i64 m.p, .int .i64 m.s, .int .i64 m.e, .int .i64 m.d, .int .i64 m.t, .int .i64 m.q, .int .i64 m.r, .slice ab bx.length cb, .slice ac ox.length cc] 49)
  replace h2 := h2.alloc (Obj.cells #[.int .i64 i, .slice ao xs.length cap, .int .i64 m.p, .int .i64 m.s, .int .i64 m.e, .int .i64 m.d, .int .i64 m.t, .int .i64 m.q, .int .i64 m.r, .slice ab bx.length cb, .slice ac ox.length cc] 49)
  replace h3 := h3.alloc (Obj.cells #[.int .i64 i, .slice ao xs.length cap, .int .i64 m.p, .int .i64 m.s, .int .i64 m.e, .int .i64 m.d, .int .i64 m.t, .int .i64 m.q, .int .i64 m.r, .slice ab bx.length cb, .slice ac ox.length cc] 49)
  go_enter Tryz.func16, Tryz.ntmps16
  go_wp2_with (refine wpList_load_sub rfl 47 _ rfl w.heap.size 1 rfl _ 49 #[.slice ao xs.length cap, .int .i64 m.p, .int .i64 m.s, .int .i64 m.e, .int .i64 m.d, .int .i64 m.t, .int .i64 m.q, .int .i64 m.r] _ hx0 rfl Tryz.underlying47 rfl Tryz.sizeMach ?_)
  refine (markmach_any _ k base xs m _ h1 l1 hk0 (by omega)).mono ?_
  rintro e w1 ⟨rfl, p1, ga⟩
  have p2 := h2.kept ga (own_kinds h2 h1 (by decide))
  have p3 := h3.kept ga (own_kinds h3 h1 (by decide))
  have hx1 := (ga.block _ (blk_lt hx0) (fun e => own_ne h1 hx0 (by decide) e.symm)).trans hx0
  have GA := g0.trans ga
  clear g0 ga hx0 h1 h2 h3
  have k9 : w1.cell? ⟨w.heap.size, 0 + 9, none⟩ = some (.slice ab bx.length cb) := cell_of_row w1 _ 9 _ _ _ hx1
  go_wp2_with fail
  refine (markstrs_own _ (k + 5 * xs.length) base bx _ p2 l2 (by omega) (by omega)).mono ?_
  rintro e w2 ⟨rfl, r2, gb⟩
  have r1 := p1.kept gb (own_kinds p1 p2 (by decide))
  have r3 := p3.kept gb (by
    cases hv : (Value.slice ac ox.length cc).ownBlock with
    | none => exact Or.inl rfl
    | some g => exact Or.inr (fun e => ha g hv e.symm))
  have hx2 := (gb.block _ (blk_lt hx1) (fun e => own_ne p2 hx1 (by decide) e.symm)).trans hx1
  clear hx1 p1 p2 p3 k9
  have k10 : w2.cell? ⟨w.heap.size, 0 + 10, none⟩ = some (.slice ac ox.length cc) := cell_of_row w2 _ 10 _ _ _ hx2
  go_wp2_with fail
  refine (markstrs_own _ (k + 5 * xs.length + bx.length) base ox _ r3 l3 (by omega) (by omega)).mono ?_
  rintro e w3 ⟨rfl, s3, gc⟩
  have s1 := r1.kept gc (own_kinds r1 r3 (by decide))
  have s2 := r2.kept gc (by
    cases hv : (Value.slice ab bx.length cb).ownBlock with
    | none => exact Or.inl rfl
    | some g => exact Or.inr (fun e => ha g e.symm hv))
  clear hx2 r1 r2 r3 k10
  go_wp2
  go_ret
  exact ⟨rfl, w1, w2, GA, gb, gc, s1, s2, s3⟩

set_option maxRecDepth 100000 in
set_option maxHeartbeats 1600000 in
theorem heldproc_any (v vb vo : Value) (k : Int) (i : Int) (xs : List Nd) (m : Mc) (nb no : Nat) (w : World) (R : NRow w v (nmarked k xs xs.length)) (Rb : StRow w vb (sm (k + 5 * xs.length) nb)) (Ro : StRow w vo (sm (k + 5 * xs.length + nb) no)) (l1 : xs.length ≤ 4194304) (l2 : nb ≤ 4194304) (l3 : no ≤ 4194304) (hk0 : 0 ≤ k) (hk : k ≤ 1152921504606846976) :
    Calls Tryz.prog 17 #[.agg #[.int .i64 i, v, .int .i64 m.p, .int .i64 m.s, .int .i64 m.e, .int .i64 m.d, .int .i64 m.t, .int .i64 m.q, .int .i64 m.r, vb, vo], .int .i64 k] w fun e w' => e = .returned (.int .i64 (k + 5 * xs.length + nb + no)) ∧ Below w.heap.size w w' := by
  obtain ⟨ao, cap, e0⟩ : ∃ ao cap, v = .slice ao xs.length cap := by
    obtain ⟨ao, cap, rfl, _⟩ := R
    rw [nmarked_length _ _ _ (Nat.le_refl _)]
    exact ⟨ao, cap, rfl⟩
  obtain ⟨ab, cb, e1⟩ := Rb.small
  obtain ⟨ac, cc, e2⟩ := Ro.small
  rw [sm_length] at e1 e2
  subst e0 e1 e2
  have hB0 : Below w.heap.size w (w.alloc (Obj.cells #[.int .i64 i, .slice ao xs.length cap, .int .i64 m.p, .int .i64 m.s, .int .i64 m.e, .int .i64 m.d, .int .i64 m.t, .int .i64 m.q, .int .i64 m.r, .slice ab nb cb, .slice ac no cc] 49)) := (Below.refl _ _).alloc (Nat.le_refl _) _
  have hx0 := heap_alloc_new w (Obj.cells #[.int .i64 i, .slice ao xs.length cap, .int .i64 m.p, .int .i64 m.s, .int .i64 m.e, .int .i64 m.d, .int .i64 m.t, .int .i64 m.q, .int .i64 m.r, .slice ab nb cb, .slice ac no cc] 49)
  go_enter Tryz.func17, Tryz.ntmps17
  go_wp2_with (refine wpList_load_sub rfl 47 _ rfl w.heap.size 1 rfl _ 49 #[.slice ao xs.length cap, .int .i64 m.p, .int .i64 m.s, .int .i64 m.e, .int .i64 m.d, .int .i64 m.t, .int .i64 m.q, .int .i64 m.r] _ hx0 rfl Tryz.underlying47 rfl Tryz.sizeMach ?_)
  refine (heldmach_any _ k xs m _ (R.below hB0) l1 hk0 (by omega)).mono ?_
  rintro e w1 ⟨rfl, hb1⟩
  have hx1 := blk_bel hx0 hb1
  have hB1 := hB0.trans (hb1.mono hB0.size)
  clear hB0 hx0 hb1
  have p1 : ¬ (k + 5 * (xs.length : Int)) < 0 := by omega
  have k9 : w1.cell? ⟨w.heap.size, 0 + 9, none⟩ = some (.slice ab nb cb) := cell_of_row w1 _ 9 _ _ _ hx1
  go_wp2_with fail
  refine (heldstrs_any _ (k + 5 * xs.length) nb _ (Rb.below hB1) l2 (by omega) (by omega)).mono ?_
  rintro e w2 ⟨rfl, hb2⟩
  have hx2 := blk_bel hx1 hb2
  have hB2 := hB1.trans (hb2.mono hB1.size)
  clear hB1 hx1 hb2 k9
  have p2 : ¬ (k + 5 * (xs.length : Int) + (nb : Int)) < 0 := by omega
  have k10 : w2.cell? ⟨w.heap.size, 0 + 10, none⟩ = some (.slice ac no cc) := cell_of_row w2 _ 10 _ _ _ hx2
  go_wp2_with fail
  refine (heldstrs_any _ (k + 5 * xs.length + nb) no _ (Ro.below hB2) l3 (by omega) (by omega)).mono ?_
  rintro e w3 ⟨rfl, hb3⟩
  have hB3 := hB2.trans (hb3.mono hB2.size)
  clear hB2 hx2 hb3 k10
  have p3 : ¬ (k + 5 * (xs.length : Int) + (nb : Int) + (no : Int)) < 0 := by omega
  go_wp2
  go_ret
  exact ⟨rfl, hB3⟩
end Go.Proofs.YtjnhocefnfmhmaaGreatDoor

/-
  The contract of spec.ProcRead. No condition but bounds.
-/
namespace Go.Proofs.YtjnhocefnfmhmaaGreatDoor
open Go.RowKit

/-- As PaAns, but nothing is said of two rows of one memory. -/
def PdS (B : Nat) (T : Int × List Nd × Mc × List ByteArray × List ByteArray × Bool) (e : Ending) (w' : World) : Prop :=
  ∃ (I : Int) (X : List Nd) (M : Mc) (BX OX : List ByteArray) (ok : Bool) (y1 y2 y3 : Value), T = (I, X, M, BX, OX, ok) ∧ e = .returned (.tuple #[.agg #[.int .i64 I, y1, .int .i64 M.p, .int .i64 M.s, .int .i64 M.e, .int .i64 M.d, .int .i64 M.t, .int .i64 M.q, .int .i64 M.r, y2, y3], .bool ok]) ∧ w'.ownsRow B 153 5 y1 X.length (ncs X) ∧ w'.ownsRow B 9 1 y2 BX.length (stv BX) ∧ w'.ownsRow B 9 1 y3 OX.length (stv OX)
theorem PdS.zero {B : Nat} {r : Option (Int × (List Nd × Mc) × List ByteArray × List ByteArray)} {w' : World} (h : r = none) : PdS B (pdT r) (.returned (.tuple #[.agg #[.int .i64 0, .slice none 0 0, .int .i64 0, .int .i64 0, .int .i64 0, .int .i64 0, .int .i64 0, .int .i64 0, .int .i64 0, .slice none 0 0, .slice none 0 0], .bool false])) w' := by
  subst h
  exact ⟨0, [], ⟨0, 0, 0, 0, 0, 0, 0⟩, [], [], false, .slice none 0 0, .slice none 0 0, .slice none 0 0, rfl, rfl, ⟨by simp [ncs], Or.inl ⟨rfl, rfl⟩⟩, ⟨by simp [stv], Or.inl ⟨rfl, rfl⟩⟩, ⟨by simp [stv], Or.inl ⟨rfl, rfl⟩⟩⟩
theorem tsl_all {zs : List Int} {a c : Int} {k kk : Bool} {ts : List ByteArray} (h : tsL zs (num8 zs a k).1.toNat [] (num8 zs a k).2.1 (num8 zs a k).2.2 = (ts, c, kk)) : (kk = true → k = true ∧ rdTL zs a = some (ts, c)) ∧ (kk = false → k = true → rdTL zs a = none) := by
  cases k with
  | false =>
    rw [num8_false] at h
    simp only [tsL_false, Prod.mk.injEq] at h
    obtain ⟨_, _, rfl⟩ := h
    exact ⟨fun h => (by cases h), fun _ h => (by cases h)⟩
  | true =>
    unfold rdTL
    cases h1 : rd1 zs a with
    | none =>
      rw [num8_none h1] at h
      simp only [tsL_false, Prod.mk.injEq] at h
      obtain ⟨_, _, rfl⟩ := h
      exact ⟨fun h => (by cases h), fun _ _ => rfl⟩
    | some p =>
      rw [(rd1_num8 zs a).2 p h1] at h
      simp only at h
      obtain ⟨i1, i2⟩ := tsL_rd zs p.1.toNat [] p.2
      simp only [Option.bind_some]
      cases h2 : rdTs zs p.1.toNat p.2 with
      | none =>
        have := i2 h2
        rw [h] at this
        simp only at this
        subst this
        exact ⟨fun h => (by cases h), fun _ _ => rfl⟩
      | some q =>
        rw [i1 q h2] at h
        simp only [List.nil_append, Prod.mk.injEq] at h
        obtain ⟨rfl, rfl, rfl⟩ := h
        exact ⟨fun _ => ⟨trivial, rfl⟩, fun h => (by cases h)⟩
theorem pd_spec {ns : List Nd} {is : List In} {ds : List Df} {zs : List Int} {i a1 a2 a3 a4 : Int} {k1 k2 k3 k4 : Bool} {tx : ByteArray} {ts os : List ByteArray} (h1 : num8 zs 0 true = (i, a1, k1)) (h2 : txt8 zs a1 k1 = (tx, a2, k2)) (h3 : tsL zs (num8 zs a2 k2).1.toNat [] (num8 zs a2 k2).2.1 (num8 zs a2 k2).2.2 = (ts, a3, k3)) (h4 : tsL zs (num8 zs a3 k3).1.toNat [] (num8 zs a3 k3).2.1 (num8 zs a3 k3).2.2 = (os, a4, k4)) :
    (pdR ns is ds zs = if k4 && decide (a4 = zs.length) then (mrR ns is ds (sb tx)).bind fun r => if procB ns is ds i r.1 r.2 ts os then some (i, r, ts, os) else none else none) ∧ (k4 = true → (∀ x ∈ ts, x.size ≤ zs.length) ∧ ∀ x ∈ os, x.size ≤ zs.length) := by
  obtain ⟨F3, G3⟩ := tsl_all h3
  obtain ⟨F4, G4⟩ := tsl_all h4
  have end' : ∀ {a : Int} {q : List ByteArray × Int}, rdTL zs a = some q → ∀ x ∈ q.1, x.size ≤ zs.length := fun h => by
    unfold rdTL at h
    rw [Option.bind_eq_some_iff] at h
    obtain ⟨p, h2, h3⟩ := h
    exact (rdTs_end (rd1_range h2).2.2.2 h3).2
  unfold pdR
  cases hr : rd1 zs 0 with
  | none =>
    rw [num8_none hr] at h1
    simp only [Prod.mk.injEq] at h1
    obtain ⟨_, _, rfl⟩ := h1
    have : k2 = false := by unfold txt8 at h2; simp at h2; exact h2.2.2
    subst this
    have : k3 = false := by cases k3 with | false => rfl | true => exact absurd (F3 rfl).1 (by simp)
    subst this
    have : k4 = false := by cases k4 with | false => rfl | true => exact absurd (F4 rfl).1 (by simp)
    subst this
    exact ⟨rfl, fun h => (by cases h)⟩
  | some p =>
    rw [(rd1_num8 zs 0).2 p hr] at h1
    simp only [Prod.mk.injEq] at h1
    obtain ⟨rfl, rfl, rfl⟩ := h1
    simp only [Option.bind_some]
    rw [rt_txt8] at h2
    cases ht : rt zs p.2 with
    | none =>
      rw [ht] at h2
      simp only [Prod.mk.injEq] at h2
      obtain ⟨_, _, rfl⟩ := h2
      have : k3 = false := by cases k3 with | false => rfl | true => exact absurd (F3 rfl).1 (by simp)
      subst this
      have : k4 = false := by cases k4 with | false => rfl | true => exact absurd (F4 rfl).1 (by simp)
      subst this
      exact ⟨rfl, fun h => (by cases h)⟩
    | some t =>
      rw [ht] at h2
      simp only [Prod.mk.injEq] at h2
      obtain ⟨rfl, rfl, rfl⟩ := h2
      simp only [Option.bind_some]
      cases k3 with
      | false =>
        rw [G3 rfl rfl]
        have : k4 = false := by cases k4 with | false => rfl | true => exact absurd (F4 rfl).1 (by simp)
        subst this
        exact ⟨rfl, fun h => (by cases h)⟩
      | true =>
        have e3 := (F3 rfl).2
        rw [e3]
        simp only [Option.bind_some]
        cases k4 with
        | false =>
          rw [G4 rfl rfl]
          exact ⟨rfl, fun h => (by cases h)⟩
        | true =>
          have e4 := (F4 rfl).2
          rw [e4]
          simp only [Option.bind_some, Bool.true_and, decide_eq_true_eq]
          exact ⟨trivial, fun _ => ⟨end' e3, end' e4⟩⟩
end Go.Proofs.YtjnhocefnfmhmaaGreatDoor

/-
  The contract of spec.ProcRead. No condition but bounds.
-/
namespace Go.Proofs.YtjnhocefnfmhmaaGreatDoor
open Go.RowKit

theorem c8_below {w w' : World} {b : Nat} {v : Value} {a : Int} {k : Bool} (h : C8 w b v a k) (hb : Below w.heap.size w w') : C8 w' b v a k := blk_bel h hb
theorem c8_oth {w w' : World} {b g : Nat} {v : Value} {a : Int} {k : Bool} (h : C8 w b v a k) (hk : ∀ j, j ≠ g → w'.heap[j]? = w.heap[j]?) (hn : b ≠ g) : C8 w' b v a k := (hk b hn).trans h

set_option maxRecDepth 100000 in
set_option maxHeartbeats 12800000 in
theorem sprocread_any (v1 v2 v3 : Value) (ns : List Nd) (is : List In) (ds : List Df) (s : ByteArray) (w : World) (R1 : NRow w v1 ns) (R2 : InRow w v2 is) (R3 : DfRow w v3 ds) (hs : s.size ≤ 1048576) :
    Calls Tryz.prog 13 #[.agg #[v1, v2, v3], .string s] w fun e w' => PaAns w.heap.size (pdT (pdR ns is ds (sb s))) e w' ∧ Below w.heap.size w w' := by
  obtain ⟨a1, c1, rfl⟩ := R1.small
  obtain ⟨a2, c2, rfl⟩ := R2.small
  obtain ⟨a3, c3, rfl⟩ := R3.small
  have hsl := sb_length s
  have hwf := sb_wf s
  obtain ⟨hB2, z0, z1⟩ := two_boxes w (Obj.cells #[.slice a1 ns.length c1, .slice a2 is.length c2, .slice a3 ds.length c3] 44) (Obj.cells #[.int .i64 0, .slice none 0 0, .int .i64 0, .int .i64 0, .int .i64 0, .int .i64 0, .int .i64 0, .int .i64 0, .int .i64 0, .slice none 0 0, .slice none 0 0] 49)
  go_enter Tryz.func13, Tryz.ntmps13
  go_wp2_with (first
    | (refine wpList_bytes8 _ rfl _ 9 66 5 rfl Tryz.underlying9 Tryz.underlying66 Tryz.underlying5 s rfl ?_; intro cap w2 g0 g1 g2 g3))
  obtain ⟨W2, hW2⟩ : ∃ W2, (w.alloc (Obj.cells #[.slice a1 ns.length c1, .slice a2 is.length c2, .slice a3 ds.length c3] 44)).alloc (Obj.cells #[.int .i64 0, .slice none 0 0, .int .i64 0, .int .i64 0, .int .i64 0, .int .i64 0, .int .i64 0, .int .i64 0, .int .i64 0, .slice none 0 0, .slice none 0 0] 49) = W2 := ⟨_, rfl⟩
  have hs2 : W2.heap.size = w.heap.size + 1 + 1 := by rw [← hW2]; simp
  rw [hW2] at hB2 z0 z1 g1 g2 g3
  have RR := row_of_bytes (w := W2) (by omega) g0 g1 g3
  rw [hs2] at RR g3
  have x0 := (g2.block _ (by omega) (by simp)).trans z0
  have x1 := (g2.block _ (by omega) (by simp)).trans z1
  have hB : Below w.heap.size w w2 := hB2.grown g2 hB2.size (fun k hk => by cases hk)
  clear hs2 g1 g2 hW2 hB2 z0 z1 g3 g0
  have hb := alloc_bel w2 (Obj.cells #[.slice (some ⟨w.heap.size + 1 + 1, 0, none⟩) s.size cap, .int .i64 0, .bool true] 83)
  have hC : C8 (w2.alloc (Obj.cells #[.slice (some ⟨w.heap.size + 1 + 1, 0, none⟩) s.size cap, .int .i64 0, .bool true] 83)) w2.heap.size (.slice (some ⟨w.heap.size + 1 + 1, 0, none⟩) s.size cap) 0 true := heap_alloc_new _ _
  have hW : Below w2.heap.size w2 (w2.alloc (Obj.cells #[.slice (some ⟨w.heap.size + 1 + 1, 0, none⟩) s.size cap, .int .i64 0, .bool true] 83)) := hb
  have l2 : w.heap.size + 1 < w2.heap.size := blk_lt x1
  replace x0 := blk_bel x0 hb
  replace x1 := blk_bel x1 hb
  replace hB := hB.trans (hb.mono hB.size)
  clear hb
  obtain ⟨u0, hu0⟩ : ∃ u, w2.alloc (Obj.cells #[.slice (some ⟨w.heap.size + 1 + 1, 0, none⟩) s.size cap, .int .i64 0, .bool true] 83) = u := ⟨_, rfl⟩
  rw [hu0] at hC hW x0 x1 hB ⊢
  clear hu0
  obtain ⟨V, hV⟩ : ∃ V, V = (Value.slice (some ⟨w.heap.size + 1 + 1, 0, none⟩) s.size cap) := ⟨_, rfl⟩
  rw [← hV] at hC RR
  have HN := s8num_any w2.heap.size V (sb s) 0 true u0 (RR.below hW) hC (by omega) (by omega)
  have hm1 := num8_moves (zs := sb s) (a := 0) (ok := true) (by omega) (by omega)
  obtain ⟨nn, N1⟩ : ∃ n, num8 (sb s) 0 true = n := ⟨_, rfl⟩
  obtain ⟨i, p1, k1⟩ := nn
  rw [N1] at HN hm1
  simp only at HN hm1
  obtain ⟨_, _, m13, m14⟩ := hm1
  replace N1 : Hid (num8 (sb s) 0 true = (i, p1, k1)) := N1
  refine HN.mono ?_
  rintro e u1 ⟨rfl, hC, g⟩
  replace x0 := (g.block _ (blk_lt x0) (by simp; omega)).trans x0
  replace x1 := (g.block _ (blk_lt x1) (by simp; omega)).trans x1
  replace hB := hB.grown g hB.size (fun k hk => by cases hk; omega)
  replace hW := hW.grown g hW.size (fun k hk => by cases hk; omega)
  clear HN g
  go_wp2_with (refine wpList_store_own2 rfl 49 _ _ rfl u1.heap.size #[.int .i64 i, .slice none 0 0, .int .i64 0, .int .i64 0, .int .i64 0, .int .i64 0, .int .i64 0, .int .i64 0, .int .i64 0, .slice none 0 0, .slice none 0 0] rfl rfl 49 #[.int .i64 0, .slice none 0 0, .int .i64 0, .int .i64 0, .int .i64 0, .int .i64 0, .int .i64 0, .int .i64 0, .int .i64 0, .slice none 0 0, .slice none 0 0] (heap_alloc_new _ _) Tryz.sizeProc rfl (by simp [Value.oneCell']) ?_)
  intro u2 hp hb2 hs2 hk2
  have hb : Below u1.heap.size u1 u2 := ((Below.refl _ _).alloc (Nat.le_refl _) _).trans hb2
  have lC : w2.heap.size < u1.heap.size := (Array.getElem?_eq_some_iff.1 hC).1
  replace x0 := blk_bel x0 hb
  replace x1 := blk_bel x1 hb
  replace hB := hB.trans (hb.mono hB.size)
  replace hW := hW.trans (hb.mono hW.size)
  replace hC := c8_below hC hb
  clear hb hb2 hs2 hk2
  generalize u1.heap.size = bm at *
  have HT := s12rt_any w2.heap.size V (sb s) p1 k1 u2 (RR.below hW) hC (by omega) (by omega)
  have hm2 : ∀ tx p2 k2, txt8 (sb s) p1 k1 = (tx, p2, k2) → 0 ≤ p2 ∧ p2 ≤ (sb s).length ∧ tx.size ≤ (sb s).length := fun tx p2 k2 h => by
    cases k1 with
    | false =>
      simp only [txt8, Bool.false_and, Bool.false_eq_true, if_false, Prod.mk.injEq] at h
      obtain ⟨rfl, rfl, _⟩ := h
      exact ⟨m13, m14, by simp [ByteArray.size]⟩
    | true =>
      have := txt8_moves (zs := sb s) hwf m13 m14
      rw [h] at this
      exact ⟨this.1, this.2.1, this.2.2.2⟩
  obtain ⟨tt, N2⟩ : ∃ n, txt8 (sb s) p1 k1 = n := ⟨_, rfl⟩
  obtain ⟨tx, p2, k2⟩ := tt
  obtain ⟨m21, m22, m23⟩ := hm2 tx p2 k2 N2
  rw [N2] at HT
  simp only at HT
  replace N2 : Hid (txt8 (sb s) p1 k1 = (tx, p2, k2)) := N2
  clear hm2
  go_wp2_with fail
  refine HT.mono ?_
  rintro e u3 ⟨rfl, hC, g⟩
  replace x0 := (g.block _ (blk_lt x0) (by simp; omega)).trans x0
  replace x1 := (g.block _ (blk_lt x1) (by simp; omega)).trans x1
  replace hB := hB.grown g hB.size (fun k hk => by cases hk; omega)
  replace hW := hW.grown g hW.size (fun k hk => by cases hk; omega)
  replace hp := (g.block _ (blk_lt hp) (by simp; omega)).trans hp
  clear HT g
  go_wp2_with fail
  refine (s12rts_any w2.heap.size V (sb s) p2 k2 w2 u3 RR hW (Nat.le_refl _) hC m21 m22 hwf (by omega)).mono ?_
  rintro e u4 ⟨vb, ts, p3, k3, N3, rfl, ⟨m31, m32, m33⟩, hC, O2, g⟩
  obtain ⟨ab, cb, rfl⟩ := own_form O2
  have hlt2 : ∀ g, (Value.slice ab ts.length cb).ownBlock = some g → g < u4.heap.size := fun g hg => (O2.lt g hg).2
  replace N3 : Hid (tsL (sb s) (num8 (sb s) p2 k2).1.toNat [] (num8 (sb s) p2 k2).2.1 (num8 (sb s) p2 k2).2.2 = (ts, p3, k3)) := N3
  replace O2 := own_mono (B' := bm + 1) O2 (by have := blk_lt hp; omega)
  replace x0 := (g.block _ (blk_lt x0) (by simp; omega)).trans x0
  replace x1 := (g.block _ (blk_lt x1) (by simp; omega)).trans x1
  replace hB := hB.grown g hB.size (fun k hk => by cases hk; omega)
  replace hW := hW.grown g hW.size (fun k hk => by cases hk; omega)
  replace hp := (g.block _ (blk_lt hp) (by simp; omega)).trans hp
  clear g
  go_wp2_with (refine wpList_store_at rfl 31 _ _ rfl bm 9 (.slice ab ts.length cb) #[.slice ab ts.length cb] rfl rfl rfl rfl 49 #[.int .i64 i, .slice none 0 0, .int .i64 0, .int .i64 0, .int .i64 0, .int .i64 0, .int .i64 0, .int .i64 0, .int .i64 0, .slice none 0 0, .slice none 0 0] #[.int .i64 i, .slice none 0 0, .int .i64 0, .int .i64 0, .int .i64 0, .int .i64 0, .int .i64 0, .int .i64 0, .int .i64 0, .slice ab ts.length cb, .slice none 0 0] hp (by simp) (by kernel_rfl) rfl ?_)
  intro u5 hp5 hb5 hs5 hk5
  replace x0 := (hk5 _ (by omega)).trans x0
  replace x1 := (hk5 _ (by omega)).trans x1
  replace hC := c8_oth hC hk5 (by omega)
  replace O2 := own_other O2 (own_ne O2 hp (by decide)) hk5
  replace hB := hB.trans (hb5.mono (by omega))
  replace hW := hW.trans (hb5.mono (by omega))
  replace hp := hp5
  rw [← hs5] at hlt2
  clear hp5 hb5 hs5 hk5
  go_wp2_with fail
  refine (s12rts_any w2.heap.size V (sb s) p3 k3 w2 u5 RR hW (Nat.le_refl _) hC m31 m32 hwf (by omega)).mono ?_
  rintro e u6 ⟨vo, os, p4, k4, N4, rfl, ⟨m41, m42, m43⟩, hC, O3, g⟩
  obtain ⟨ac, cc, rfl⟩ := own_form O3
  have AP : ∀ g, (Value.slice ac os.length cc).ownBlock = some g → (Value.slice ab ts.length cb).ownBlock ≠ some g := fun g h3 h2 => by
    have k1 := (O3.lt g h3).1
    have k2 := hlt2 g h2
    omega
  clear hlt2
  replace N4 : Hid (tsL (sb s) (num8 (sb s) p3 k3).1.toNat [] (num8 (sb s) p3 k3).2.1 (num8 (sb s) p3 k3).2.2 = (os, p4, k4)) := N4
  replace O3 := own_mono (B' := bm + 1) O3 (by have := blk_lt hp; omega)
  replace x0 := (g.block _ (blk_lt x0) (by simp; omega)).trans x0
  replace x1 := (g.block _ (blk_lt x1) (by simp; omega)).trans x1
  replace hB := hB.grown g hB.size (fun k hk => by cases hk; omega)
  replace hW := hW.grown g hW.size (fun k hk => by cases hk; omega)
  replace hp := (g.block _ (blk_lt hp) (by simp; omega)).trans hp
  replace O2 := own_pastP O2 (by omega) g
  clear g
  go_wp2_with (refine wpList_store_at rfl 31 _ _ rfl bm 10 (.slice ac os.length cc) #[.slice ac os.length cc] rfl rfl rfl rfl 49 #[.int .i64 i, .slice none 0 0, .int .i64 0, .int .i64 0, .int .i64 0, .int .i64 0, .int .i64 0, .int .i64 0, .int .i64 0, .slice ab ts.length cb, .slice none 0 0] #[.int .i64 i, .slice none 0 0, .int .i64 0, .int .i64 0, .int .i64 0, .int .i64 0, .int .i64 0, .int .i64 0, .int .i64 0, .slice ab ts.length cb, .slice ac os.length cc] hp (by simp) (by kernel_rfl) rfl ?_)
  intro u7 hp7 hb7 hs7 hk7
  replace x0 := (hk7 _ (by omega)).trans x0
  replace x1 := (hk7 _ (by omega)).trans x1
  replace hC := c8_oth hC hk7 (by omega)
  replace O2 := own_other O2 (own_ne O2 hp (by decide)) hk7
  replace O3 := own_other O3 (own_ne O3 hp (by decide)) hk7
  replace hB := hB.trans (hb7.mono (by omega))
  replace hW := hW.trans (hb7.mono (by omega))
  replace hp := hp7
  clear hp7 hb7 hs7 hk7
  obtain ⟨D1, D2⟩ := pd_spec (ns := ns) (is := is) (ds := ds) N1.out N2.out N3.out N4.out
  replace D1 : Hid (pdR ns is ds (sb s) = if k4 && decide (p4 = (sb s).length) then (mrR ns is ds (sb tx)).bind fun r => if procB ns is ds i r.1 r.2 ts os then some (i, r, ts, os) else none else none) := D1
  clear N1 N2 N3 N4
  have HM := smread_any _ _ _ ns is ds tx u7 (R1.below hB) (R2.below hB) (R3.below hB) (by omega)
  unfold MrAns at HM
  have HX : (mrL (mrR ns is ds (sb tx))).length ≤ 3000 ∧ ∀ x ∈ mrL (mrR ns is ds (sb tx)), x.s.size ≤ maxLen := by
    cases hm : mrR ns is ds (sb tx) with
    | none => exact ⟨by simp [mrL], by simp [mrL]⟩
    | some r =>
      obtain ⟨xs, m⟩ := r
      have hp := mr_pool hm
      exact ⟨poolB_len hp, ndok_max (pool_ndok hp)⟩
  have D3 : (mrR ns is ds (sb tx)).isSome = true → mrR ns is ds (sb tx) = some (mrL (mrR ns is ds (sb tx)), mrM (mrR ns is ds (sb tx))) := fun h => by
    cases hm : mrR ns is ds (sb tx) with
    | none => rw [hm] at h; cases h
    | some r => rfl
  have D4 : (mrR ns is ds (sb tx)).isSome = false → mrR ns is ds (sb tx) = none := fun h => by
    cases hm : mrR ns is ds (sb tx) with
    | none => rfl
    | some r => rw [hm] at h; cases h
  generalize mrL (mrR ns is ds (sb tx)) = X at *
  generalize mrM (mrR ns is ds (sb tx)) = M at *
  generalize (mrR ns is ds (sb tx)).isSome = mk at *
  go_wp2_with (refine wpList_load_row rfl 44 _ rfl w.heap.size rfl 44 #[.slice a1 ns.length c1, .slice a2 is.length c2, .slice a3 ds.length c3] (0, 0) _ x0 Tryz.underlying44 rfl Tryz.sizeCode ?_)
  refine HM.mono ?_
  rintro e u8 ⟨⟨vm, rfl, O1⟩, hb⟩
  obtain ⟨am, cm, rfl⟩ := own_form O1
  replace O1 := own_mono (B' := bm + 1) O1 (by have := blk_lt hp; omega)
  replace x0 := blk_bel x0 hb
  replace x1 := blk_bel x1 hb
  replace hB := hB.trans (hb.mono hB.size)
  replace hW := hW.trans (hb.mono hW.size)
  replace hC := c8_below hC hb
  replace hp := blk_bel hp hb
  replace O2 := own_below O2 hb
  replace O3 := own_below O3 hb
  clear hb HM
  go_wp2_with (refine wpList_store_own2 rfl 47 _ _ rfl u8.heap.size #[.slice am X.length cm, .int .i64 M.p, .int .i64 M.s, .int .i64 M.e, .int .i64 M.d, .int .i64 M.t, .int .i64 M.q, .int .i64 M.r] rfl rfl 47 #[.slice none 0 0, .int .i64 0, .int .i64 0, .int .i64 0, .int .i64 0, .int .i64 0, .int .i64 0, .int .i64 0] (heap_alloc_new _ _) Tryz.sizeMach rfl (by simp [Value.oneCell']) ?_)
  intro u9 hm9 hb9 hs9 hk9
  have hb : Below u8.heap.size u8 u9 := ((Below.refl _ _).alloc (Nat.le_refl _) _).trans hb9
  have lbm : bm < u8.heap.size := blk_lt hp
  replace x0 := blk_bel x0 hb
  replace x1 := blk_bel x1 hb
  replace hB := hB.trans (hb.mono hB.size)
  replace hW := hW.trans (hb.mono hW.size)
  replace hC := c8_below hC hb
  replace hp := blk_bel hp hb
  replace O1 := own_below O1 hb
  replace O2 := own_below O2 hb
  replace O3 := own_below O3 hb
  clear hb hb9 hs9 hk9
  generalize u8.heap.size = bq at *
  go_wp2_with (first
    | (refine wpList_load_row rfl 47 _ rfl bq rfl 47 #[.slice am X.length cm, .int .i64 M.p, .int .i64 M.s, .int .i64 M.e, .int .i64 M.d, .int .i64 M.t, .int .i64 M.q, .int .i64 M.r] (0, 0) _ hm9 Tryz.underlying47 rfl Tryz.sizeMach ?_)
    | (refine wpList_store_sub rfl 47 _ _ rfl bm 1 #[.slice am X.length cm, .int .i64 M.p, .int .i64 M.s, .int .i64 M.e, .int .i64 M.d, .int .i64 M.t, .int .i64 M.q, .int .i64 M.r] rfl rfl 49 #[.int .i64 i, .slice none 0 0, .int .i64 0, .int .i64 0, .int .i64 0, .int .i64 0, .int .i64 0, .int .i64 0, .int .i64 0, .slice ab ts.length cb, .slice ac os.length cc] #[.int .i64 i, .slice am X.length cm, .int .i64 M.p, .int .i64 M.s, .int .i64 M.e, .int .i64 M.d, .int .i64 M.t, .int .i64 M.q, .int .i64 M.r, .slice ab ts.length cb, .slice ac os.length cc] hp (by simp) Tryz.sizeMach (by simp [Value.oneCell']) rfl ?_))
  intro uA hpA hbA hsA hkA
  replace x0 := (hkA _ (by omega)).trans x0
  replace x1 := (hkA _ (by omega)).trans x1
  replace hC := c8_oth hC hkA (by omega)
  replace O1 := own_other O1 (own_ne O1 hp (by decide)) hkA
  replace O2 := own_other O2 (own_ne O2 hp (by decide)) hkA
  replace O3 := own_other O3 (own_ne O3 hp (by decide)) hkA
  replace hB := hB.trans (hbA.mono (by omega))
  replace hW := hW.trans (hbA.mono (by omega))
  replace hp := hpA
  clear hpA hbA hsA hkA hm9
  have lx := blk_lt x1
  have e1' : uA.cell? ⟨w2.heap.size, 0 + 1, none⟩ = some (.int .i64 p4) := cell_of_row _ _ 1 _ _ _ hC
  have e2' : uA.cell? ⟨w2.heap.size, 0 + 2, none⟩ = some (.bool k4) := cell_of_row _ _ 2 _ _ _ hC
  cases k4 with
  | false =>
    have HN : Hid (pdR ns is ds (sb s) = none) := D1.out
    clear D1 D2 D3 D4
    go_wp2_with (refine wpList_store_own2 rfl 49 _ _ rfl (w.heap.size + 1) #[.int .i64 0, .slice none 0 0, .int .i64 0, .int .i64 0, .int .i64 0, .int .i64 0, .int .i64 0, .int .i64 0, .int .i64 0, .slice none 0 0, .slice none 0 0] rfl rfl 49 #[.int .i64 0, .slice none 0 0, .int .i64 0, .int .i64 0, .int .i64 0, .int .i64 0, .int .i64 0, .int .i64 0, .int .i64 0, .slice none 0 0, .slice none 0 0] x1 Tryz.sizeProc rfl (by simp [Value.oneCell']) ?_)
    intro wB hvB hbB hsB hkB
    go_wp2
    refine bodyPost_ret (results_row_tmp rfl _ _ (w.heap.size + 1) 49 _ (0, 0) _ rfl hvB Tryz.underlying49 rfl Tryz.sizeProc) rfl ⟨PaAns.zero2 HN.out, hB.trans (hbB.mono (by omega))⟩
  | true =>
    obtain ⟨zt, zo⟩ := D2 rfl
    by_cases hend : p4 = (s.size : Int)
    rotate_left
    · have HN : Hid (pdR ns is ds (sb s) = none) := by
        unfold Hid
        rw [D1.out]
        have : decide (p4 = ((sb s).length : Int)) = false := by simp; omega
        rw [this]
        rfl
      have hne : (p4 != (s.size : Int)) = true := by simp [hend]
      clear D1 D2 D3 D4
      go_wp2_with (refine wpList_store_own2 rfl 49 _ _ rfl (w.heap.size + 1) #[.int .i64 0, .slice none 0 0, .int .i64 0, .int .i64 0, .int .i64 0, .int .i64 0, .int .i64 0, .int .i64 0, .int .i64 0, .slice none 0 0, .slice none 0 0] rfl rfl 49 #[.int .i64 0, .slice none 0 0, .int .i64 0, .int .i64 0, .int .i64 0, .int .i64 0, .int .i64 0, .int .i64 0, .int .i64 0, .slice none 0 0, .slice none 0 0] x1 Tryz.sizeProc rfl (by simp [Value.oneCell']) ?_)
      intro wB hvB hbB hsB hkB
      go_wp2
      refine bodyPost_ret (results_row_tmp rfl _ _ (w.heap.size + 1) 49 _ (0, 0) _ rfl hvB Tryz.underlying49 rfl Tryz.sizeProc) rfl ⟨PaAns.zero2 HN.out, hB.trans (hbB.mono (by omega))⟩
    have D5 : Hid (pdR ns is ds (sb s) = (mrR ns is ds (sb tx)).bind fun r => if procB ns is ds i r.1 r.2 ts os then some (i, r, ts, os) else none) := by
      unfold Hid
      rw [D1.out]
      have : decide (p4 = ((sb s).length : Int)) = true := by simp; omega
      rw [this]
      rfl
    have heq : (p4 != (s.size : Int)) = false := by simp [hend]
    cases mk with
    | false =>
      have HN : Hid (pdR ns is ds (sb s) = none) := by unfold Hid; rw [D5.out, D4 rfl]; rfl
      clear D1 D2 D3 D4 D5 hend
      go_wp2_with (refine wpList_store_own2 rfl 49 _ _ rfl (w.heap.size + 1) #[.int .i64 0, .slice none 0 0, .int .i64 0, .int .i64 0, .int .i64 0, .int .i64 0, .int .i64 0, .int .i64 0, .int .i64 0, .slice none 0 0, .slice none 0 0] rfl rfl 49 #[.int .i64 0, .slice none 0 0, .int .i64 0, .int .i64 0, .int .i64 0, .int .i64 0, .int .i64 0, .int .i64 0, .int .i64 0, .slice none 0 0, .slice none 0 0] x1 Tryz.sizeProc rfl (by simp [Value.oneCell']) ?_)
      intro wB hvB hbB hsB hkB
      go_wp2
      refine bodyPost_ret (results_row_tmp rfl _ _ (w.heap.size + 1) 49 _ (0, 0) _ rfl hvB Tryz.underlying49 rfl Tryz.sizeProc) rfl ⟨PaAns.zero2 HN.out, hB.trans (hbB.mono (by omega))⟩
    | true =>
      have HD : Hid (pdR ns is ds (sb s) = if procB ns is ds i X M ts os then some (i, (X, M), ts, os) else none) := by unfold Hid; rw [D5.out, D3 rfl]; rfl
      clear D1 D2 D3 D4 D5 hend
      have c0 : uA.cell? ⟨w.heap.size, 0, none⟩ = some (.slice a1 ns.length c1) := cell_of_row uA _ 0 _ _ _ x0
      have c1' : uA.cell? ⟨w.heap.size, 0 + 1, none⟩ = some (.slice a2 is.length c2) := cell_of_row uA _ 1 _ _ _ x0
      have c2' : uA.cell? ⟨w.heap.size, 0 + 2, none⟩ = some (.slice a3 ds.length c3) := cell_of_row uA _ 2 _ _ _ x0
      have e0 : uA.cell? ⟨bm, 0, none⟩ = some (.int .i64 i) := cell_of_row uA _ 0 _ _ _ hp
      have e1 : uA.cell? ⟨bm, 0 + 1, none⟩ = some (.slice am X.length cm) := cell_of_row uA _ 1 _ _ _ hp
      have e2 : uA.cell? ⟨bm, 0 + 2, none⟩ = some (.int .i64 M.p) := cell_of_row uA _ 2 _ _ _ hp
      have e3 : uA.cell? ⟨bm, 0 + 3, none⟩ = some (.int .i64 M.s) := cell_of_row uA _ 3 _ _ _ hp
      have e4 : uA.cell? ⟨bm, 0 + 4, none⟩ = some (.int .i64 M.e) := cell_of_row uA _ 4 _ _ _ hp
      have e5 : uA.cell? ⟨bm, 0 + 5, none⟩ = some (.int .i64 M.d) := cell_of_row uA _ 5 _ _ _ hp
      have e6 : uA.cell? ⟨bm, 0 + 6, none⟩ = some (.int .i64 M.t) := cell_of_row uA _ 6 _ _ _ hp
      have e7 : uA.cell? ⟨bm, 0 + 7, none⟩ = some (.int .i64 M.q) := cell_of_row uA _ 7 _ _ _ hp
      have e8 : uA.cell? ⟨bm, 0 + 8, none⟩ = some (.int .i64 M.r) := cell_of_row uA _ 8 _ _ _ hp
      have e9 : uA.cell? ⟨bm, 0 + 9, none⟩ = some (.slice ab ts.length cb) := cell_of_row uA _ 9 _ _ _ hp
      have e10 : uA.cell? ⟨bm, 0 + 10, none⟩ = some (.slice ac os.length cc) := cell_of_row uA _ 10 _ _ _ hp
      have OK := sprocok_any _ _ _ _ _ _ ns is ds i X M ts os uA (R1.below hB) (R2.below hB) (R3.below hB) (NRow.of_own O1 (by omega) HX.2) (StRow.of_own O2 (by omega) (fun x hx => by have := zt x hx; unfold maxLen; omega)) (StRow.of_own O3 (by omega) (fun x hx => by have := zo x hx; unfold maxLen; omega)) (fun x hx => by have := zt x hx; omega)
      go_wp2_with fail
      refine OK.mono ?_
      rintro e uC ⟨rfl, hb⟩
      replace x1 := blk_bel x1 hb
      replace hp := blk_bel hp hb
      replace O1 := own_below O1 hb
      replace O2 := own_below O2 hb
      replace O3 := own_below O3 hb
      replace hB := hB.trans (hb.mono hB.size)
      replace lx := blk_lt x1
      clear hb OK c0 c1' c2' e0 e1 e2 e3 e4 e5 e6 e7 e8 e9 e10 e1' e2'
      cases hP : procB ns is ds i X M ts os with
      | false =>
        have HN : Hid (pdR ns is ds (sb s) = none) := by unfold Hid; rw [HD.out, hP]; rfl
        go_wp2_with (refine wpList_store_own2 rfl 49 _ _ rfl (w.heap.size + 1) #[.int .i64 0, .slice none 0 0, .int .i64 0, .int .i64 0, .int .i64 0, .int .i64 0, .int .i64 0, .int .i64 0, .int .i64 0, .slice none 0 0, .slice none 0 0] rfl rfl 49 #[.int .i64 0, .slice none 0 0, .int .i64 0, .int .i64 0, .int .i64 0, .int .i64 0, .int .i64 0, .int .i64 0, .int .i64 0, .slice none 0 0, .slice none 0 0] x1 Tryz.sizeProc rfl (by simp [Value.oneCell']) ?_)
        intro wB hvB hbB hsB hkB
        go_wp2
        refine bodyPost_ret (results_row_tmp rfl _ _ (w.heap.size + 1) 49 _ (0, 0) _ rfl hvB Tryz.underlying49 rfl Tryz.sizeProc) rfl ⟨PaAns.zero2 HN.out, hB.trans (hbB.mono (by omega))⟩
      | true =>
        have HN : Hid (pdR ns is ds (sb s) = some (i, (X, M), ts, os)) := by unfold Hid; rw [HD.out, hP]; rfl
        go_wp2_with (first
          | (refine wpList_load_row rfl 49 _ rfl bm rfl 49 #[.int .i64 i, .slice am X.length cm, .int .i64 M.p, .int .i64 M.s, .int .i64 M.e, .int .i64 M.d, .int .i64 M.t, .int .i64 M.q, .int .i64 M.r, .slice ab ts.length cb, .slice ac os.length cc] (0, 0) _ hp Tryz.underlying49 rfl Tryz.sizeProc ?_)
          | (refine wpList_store_own2 rfl 49 _ _ rfl (w.heap.size + 1) #[.int .i64 i, .slice am X.length cm, .int .i64 M.p, .int .i64 M.s, .int .i64 M.e, .int .i64 M.d, .int .i64 M.t, .int .i64 M.q, .int .i64 M.r, .slice ab ts.length cb, .slice ac os.length cc] rfl rfl 49 #[.int .i64 0, .slice none 0 0, .int .i64 0, .int .i64 0, .int .i64 0, .int .i64 0, .int .i64 0, .int .i64 0, .int .i64 0, .slice none 0 0, .slice none 0 0] x1 Tryz.sizeProc rfl (by simp [Value.oneCell']) ?_))
        intro wB hvB hbB hsB hkB
        replace O1 := own_mono (B' := w.heap.size) (own_keep O1 (by omega) hkB) (by omega)
        replace O2 := own_mono (B' := w.heap.size) (own_keep O2 (by omega) hkB) (by omega)
        replace O3 := own_mono (B' := w.heap.size) (own_keep O3 (by omega) hkB) (by omega)
        go_wp2
        refine bodyPost_ret (results_row_tmp rfl _ _ (w.heap.size + 1) 49 _ (0, 0) _ rfl hvB Tryz.underlying49 rfl Tryz.sizeProc) rfl ⟨⟨i, X, M, ts, os, true, _, _, _, by rw [HN.out]; rfl, rfl, O1, O2, O3, AP⟩, hB.trans (hbB.mono (by omega))⟩
end Go.Proofs.YtjnhocefnfmhmaaGreatDoor

/-
  Contracts of the laws' helpers markInstrS, markDefS, markCode: what is marked is turned, and nothing else. No condition.
-/
namespace Go.Proofs.YtjnhocefnfmhmaaGreatDoor
open Go.RowKit

set_option maxHeartbeats 1600000 in
theorem markinstrs_any (v : Value) (k : Int) (base n : Nat) (cs : List Value) (w : World) (h : w.ownsRow base 113 4 v n cs) (hl : cs.length = n * 4) (hm : n ≤ 4194304) (hk0 : 0 ≤ k) (hk : k ≤ 2305843009213693952) :
    Calls Tryz.prog 50 #[v, .int .i64 k] w fun e w' => e = .returned (.int .i64 (k + 4 * n)) ∧ w.grownBy w' v.ownBlock := by
  rcases h.2 with ⟨rfl, h0⟩ | ⟨g, cap, cur, rfl, hb, hg, hnc, hcm, hcs, htake⟩
  · subst h0
    go_enter Tryz.func50, Tryz.ntmps50
    go_wp2
    refine wp_loop_rounds 1 ?_
    rw [rounds_succ]
    go_wp2
    go_ret
    exact ⟨by simp, World.grownBy.refl _ _⟩
  · clear hg hcs htake
    go_enter Tryz.func50, Tryz.ntmps50
    go_wp2
    go_loopw [1, 5] (fun q i wr => ∃ (j : Nat) (cs : List Value), j ≤ n ∧ i = .int .i64 j ∧ q = .int .i64 (k + 4 * (j : Int)) ∧ cs.length = n * 4 ∧ wr.ownsRow base 113 4 (.slice (some ⟨g, 0, none⟩) n cap) n cs ∧ w.grownBy wr (some g)) (fun _ i _ => n - (intOf i).toNat)
    case atStart => exact ⟨0, cs, by omega, rfl, by simp, hl, h, World.grownBy.refl _ _⟩
    case round =>
      clear hl h
      obtain ⟨j, cs, hj, rfl, rfl, hl, hown, hbel⟩ := hrel
      by_cases hlt : j < n
      · have hgs : g < wr.heap.size := (hown.lt g rfl).2
        have hcell : ∀ i, i < 4 → ∃ u, (wr.cell? ⟨g, j * 4 + i, none⟩) = some u := fun i hi => ⟨_, (hown.cellAt (j * 4 + i) (by omega)).trans (List.getElem?_eq_getElem (by omega))⟩
        obtain ⟨u0, c0⟩ := hcell 0 (by omega)
        obtain ⟨u1, c1⟩ := hcell 1 (by omega)
        obtain ⟨u2, c2⟩ := hcell 2 (by omega)
        simp only [Nat.add_zero] at c0
        have f0 := hown.frozenAt (j * 4)
        have f1 := hown.frozenAt (j * 4 + 1)
        have f2 := hown.frozenAt (j * 4 + 2)
        have s0 := hown.stored (j * 4) (.int .i64 (k + 4 * (j : Int)))
        have s1 := s0.1.stored (j * 4 + 1) (.int .i64 (k + 4 * (j : Int) + 1))
        have s2 := s1.1.stored (j * 4 + 2) (.int .i64 (k + 4 * (j : Int) + 1 + 1))
        have hB1 := ((hbel.trans s0.2).trans s1.2).trans s2.2
        clear hcell
        go_wp2_with fail
        refine (marktext_any _ _ (by omega)).mono ?_
        rintro e w2 ⟨rfl, hb2⟩
        have hown2 := own_below s2.1 hb2
        have hB2 := hB1.trans (grown_below2 hb2 (some g))
        obtain ⟨u3, d3⟩ : ∃ u, (w2.cell? ⟨g, j * 4 + 3, none⟩) = some u := ⟨_, (hown2.cellAt (j * 4 + 3) (by omega)).trans (List.getElem?_eq_getElem (by simp; omega))⟩
        have e3 := hown2.frozenAt (j * 4 + 3)
        have s3 := hown2.stored (j * 4 + 3) (.string (mt (k + 4 * (j : Int) + 1 + 1 + 1)))
        have hB4 := hB2.trans s3.2
        have S4 := s3.1
        clear s0 s1 s2 s3 hown hown2 c0 c1 c2 f0 f1 f2 hb2 hB1 hB2 hbel
        go_wp2
        go_roundw
        case rel => exact ⟨j + 1, _, by omega, by go_num, by go_num, by simp [hl], S4, hB4⟩
        case measure => simp [intOf]; omega
      · go_wp2
        go_ret
        have : j = n := by omega
        subst this
        exact ⟨rfl, hbel⟩

set_option maxHeartbeats 1600000 in
theorem markdefs_any (v : Value) (k : Int) (base n : Nat) (cs : List Value) (w : World) (h : w.ownsRow base 115 3 v n cs) (hl : cs.length = n * 3) (hm : n ≤ 4194304) (hk0 : 0 ≤ k) (hk : k ≤ 2305843009213693952) :
    Calls Tryz.prog 51 #[v, .int .i64 k] w fun e w' => e = .returned (.int .i64 (k + 3 * n)) ∧ w.grownBy w' v.ownBlock := by
  rcases h.2 with ⟨rfl, h0⟩ | ⟨g, cap, cur, rfl, hb, hg, hnc, hcm, hcs, htake⟩
  · subst h0
    go_enter Tryz.func51, Tryz.ntmps51
    go_wp2
    refine wp_loop_rounds 1 ?_
    rw [rounds_succ]
    go_wp2
    go_ret
    exact ⟨by simp, World.grownBy.refl _ _⟩
  · clear hg hcs htake
    go_enter Tryz.func51, Tryz.ntmps51
    go_wp2
    go_loopw [1, 5] (fun q i wr => ∃ (j : Nat) (cs : List Value), j ≤ n ∧ i = .int .i64 j ∧ q = .int .i64 (k + 3 * (j : Int)) ∧ cs.length = n * 3 ∧ wr.ownsRow base 115 3 (.slice (some ⟨g, 0, none⟩) n cap) n cs ∧ w.grownBy wr (some g)) (fun _ i _ => n - (intOf i).toNat)
    case atStart => exact ⟨0, cs, by omega, rfl, by simp, hl, h, World.grownBy.refl _ _⟩
    case round =>
      clear hl h
      obtain ⟨j, cs, hj, rfl, rfl, hl, hown, hbel⟩ := hrel
      by_cases hlt : j < n
      · have hgs : g < wr.heap.size := (hown.lt g rfl).2
        go_wp2_with fail
        refine (marktext_any _ _ (by omega)).mono ?_
        rintro e w2 ⟨rfl, hb2⟩
        have hown2 := own_below hown hb2
        have hB2 := hbel.trans (grown_below2 hb2 (some g))
        have hcell : ∀ i, i < 3 → ∃ u, (w2.cell? ⟨g, j * 3 + i, none⟩) = some u := fun i hi => ⟨_, (hown2.cellAt (j * 3 + i) (by omega)).trans (List.getElem?_eq_getElem (by omega))⟩
        obtain ⟨u0, c0⟩ := hcell 0 (by omega)
        obtain ⟨u1, c1⟩ := hcell 1 (by omega)
        obtain ⟨u2, c2⟩ := hcell 2 (by omega)
        simp only [Nat.add_zero] at c0
        have f0 := hown2.frozenAt (j * 3)
        have f1 := hown2.frozenAt (j * 3 + 1)
        have f2 := hown2.frozenAt (j * 3 + 2)
        have s0 := hown2.stored (j * 3) (.string (mt (k + 3 * (j : Int))))
        have s1 := s0.1.stored (j * 3 + 1) (.int .i64 (k + 3 * (j : Int) + 1))
        have s2 := s1.1.stored (j * 3 + 2) (.int .i64 (k + 3 * (j : Int) + 1 + 1))
        have hB4 := ((hB2.trans s0.2).trans s1.2).trans s2.2
        have S4 := s2.1
        clear hcell s0 s1 s2 hown hown2 hb2 hB2 hbel
        go_wp2
        go_roundw
        case rel => exact ⟨j + 1, _, by omega, by go_num, by go_num, by simp [hl], S4, hB4⟩
        case measure => simp [intOf]; omega
      · go_wp2
        go_ret
        have : j = n := by omega
        subst this
        exact ⟨rfl, hbel⟩

set_option maxHeartbeats 800000 in
theorem markcode_any (v1 v2 v3 : Value) (k : Int) (base : Nat) (ns : List Nd) (is : List In) (ds : List Df) (w : World) (h1 : w.ownsRow base 153 5 v1 ns.length (ncs ns)) (h2 : w.ownsRow base 113 4 v2 is.length (incs is)) (h3 : w.ownsRow base 115 3 v3 ds.length (dfcs ds)) (l1 : ns.length ≤ 4194304) (l2 : is.length ≤ 4194304) (l3 : ds.length ≤ 4194304) (hk0 : 0 ≤ k) (hk : k ≤ 1152921504606846976) :
    Calls Tryz.prog 15 #[.agg #[v1, v2, v3], .int .i64 k] w fun e w' => (∃ r : Int, e = .returned (.int .i64 r) ∧ k ≤ r ∧ r ≤ k + 67108864) ∧ ∃ wa wb, w.grownBy wa v1.ownBlock ∧ wa.grownBy wb v2.ownBlock ∧ wb.grownBy w' v3.ownBlock := by
  obtain ⟨a1, c1, rfl⟩ := own_form h1
  obtain ⟨a2, c2, rfl⟩ := own_form h2
  obtain ⟨a3, c3, rfl⟩ := own_form h3
  go_enter Tryz.func15, Tryz.ntmps15
  go_wp2_with fail
  have hx0 : (w.alloc (Obj.cells #[.slice a1 ns.length c1, .slice a2 is.length c2, .slice a3 ds.length c3] 44)).heap[w.heap.size]? = some (Obj.cells #[.slice a1 ns.length c1, .slice a2 is.length c2, .slice a3 ds.length c3] 44) := heap_alloc_new _ _
  have o2 := h2.alloc (Obj.cells #[.slice a1 ns.length c1, .slice a2 is.length c2, .slice a3 ds.length c3] 44)
  have o3 := h3.alloc (Obj.cells #[.slice a1 ns.length c1, .slice a2 is.length c2, .slice a3 ds.length c3] 44)
  have o1 := h1.alloc (Obj.cells #[.slice a1 ns.length c1, .slice a2 is.length c2, .slice a3 ds.length c3] 44)
  refine (markpool_any _ k base ns _ o1 l1 hk0 (by omega)).mono ?_
  rintro e wa ⟨rfl, _, ga⟩
  have hxa := (ga.block _ (Array.getElem?_eq_some_iff.1 hx0).1 (fun e => own_ne o1 hx0 (by decide) e.symm)).trans hx0
  have Ga := (World.grownBy_alloc w (Obj.cells #[.slice a1 ns.length c1, .slice a2 is.length c2, .slice a3 ds.length c3] 44) (Value.slice a1 ns.length c1).ownBlock).trans ga
  have p2 := o2.kept ga (own_apart o2 o1 (by decide))
  have p3 := o3.kept ga (own_apart o3 o1 (by decide))
  clear o1 o2 o3 ga hx0 h1 h2 h3
  have e1 : wa.cell? ⟨w.heap.size, 0 + 1, none⟩ = some (.slice a2 is.length c2) := cell_of_row wa _ 1 _ _ _ hxa
  go_wp2_with fail
  refine (markinstrs_any _ (k + 5 * ns.length) base is.length _ _ p2 (incs_length is) l2 (by omega) (by omega)).mono ?_
  rintro e wb ⟨rfl, gb⟩
  have hxb := (gb.block _ (Array.getElem?_eq_some_iff.1 hxa).1 (fun e => own_ne p2 hxa (by decide) e.symm)).trans hxa
  have q3 := p3.kept gb (own_apart p3 p2 (by decide))
  clear p2 p3 hxa e1
  have e2 : wb.cell? ⟨w.heap.size, 0 + 2, none⟩ = some (.slice a3 ds.length c3) := cell_of_row wb _ 2 _ _ _ hxb
  go_wp2_with fail
  refine (markdefs_any _ (k + 5 * ns.length + 4 * is.length) base ds.length _ _ q3 (dfcs_length ds) l3 (by omega) (by omega)).mono ?_
  rintro e wc ⟨rfl, gc⟩
  clear q3 hxb e2
  go_wp2
  go_ret
  exact ⟨⟨_, rfl, by omega, by omega⟩, wa, wb, Ga, gb, gc⟩
end Go.Proofs.YtjnhocefnfmhmaaGreatDoor

/-
  The law FnExactProcRead, walked: at every code and text it returns true. The variable errors.errorType reads as it is laid.
-/
namespace Go.Proofs.YtjnhocefnfmhmaaGreatDoor
open Go.RowKit

theorem Tryz.sizeLCode9 : (Tryz.prog.info? 28).map (·.size) = some 3 := by kernel_rfl
theorem PaAns.get {B : Nat} {I : Int} {X : List Nd} {M : Mc} {BX OX : List ByteArray} {ok : Bool} {e : Ending} {w' : World} (h : PaAns B (I, X, M, BX, OX, ok) e w') : ∃ y1 y2 y3, e = .returned (.tuple #[.agg #[.int .i64 I, y1, .int .i64 M.p, .int .i64 M.s, .int .i64 M.e, .int .i64 M.d, .int .i64 M.t, .int .i64 M.q, .int .i64 M.r, y2, y3], .bool ok]) ∧ w'.ownsRow B 153 5 y1 X.length (ncs X) ∧ w'.ownsRow B 9 1 y2 BX.length (stv BX) ∧ w'.ownsRow B 9 1 y3 OX.length (stv OX) ∧ ∀ g, y3.ownBlock = some g → y2.ownBlock ≠ some g := by
  obtain ⟨I', X', M', BX', OX', ok', y1, y2, y3, h0, h1, h2, h3, h4, h5⟩ := h
  simp only [Prod.mk.injEq] at h0
  obtain ⟨rfl, rfl, rfl, rfl, rfl, rfl⟩ := h0
  exact ⟨y1, y2, y3, h1, h2, h3, h4, h5⟩
theorem pd_small {ns : List Nd} {is : List In} {ds : List Df} {s : ByteArray} (hs : s.size ≤ 1048576) : ((pdT (pdR ns is ds (sb s))).2.1.length ≤ 2000000 ∧ (pdT (pdR ns is ds (sb s))).2.2.2.1.length ≤ 2000000 ∧ (pdT (pdR ns is ds (sb s))).2.2.2.2.1.length ≤ 2000000) ∧ (∀ x ∈ (pdT (pdR ns is ds (sb s))).2.1, x.s.size ≤ maxLen) ∧ (∀ x ∈ (pdT (pdR ns is ds (sb s))).2.2.2.1, x.size ≤ maxLen) ∧ ∀ x ∈ (pdT (pdR ns is ds (sb s))).2.2.2.2.1, x.size ≤ maxLen := by
  have hl := sb_length s
  cases h : pdR ns is ds (sb s) with
  | none => exact ⟨⟨by simp [pdT], by simp [pdT], by simp [pdT]⟩, by simp [pdT], by simp [pdT], by simp [pdT]⟩
  | some q =>
    obtain ⟨i, r, b, o⟩ := q
    rw [pdR_all, Option.bind_eq_some_iff] at h
    obtain ⟨⟨i', t, b', o'⟩, h1, h⟩ := h
    rw [Option.bind_eq_some_iff] at h
    obtain ⟨r', h2, h⟩ := h
    split at h
    · simp only [Option.some.injEq, Prod.mk.injEq] at h
      obtain ⟨rfl, rfl, rfl, rfl⟩ := h
      obtain ⟨s1, s2, s3, s4⟩ := rdAll_end h1
      obtain ⟨xs, m⟩ := r'
      have hp := mr_pool h2
      have hx := poolB_len hp
      exact ⟨⟨by simp only [pdT]; omega, by simp only [pdT]; omega, by simp only [pdT]; omega⟩, ndok_max (pool_ndok hp), fun x hx => by have := s1 x hx; unfold maxLen; omega, fun x hx => by have := s2 x hx; unfold maxLen; omega⟩
    · cases h

set_option maxRecDepth 100000 in
set_option maxHeartbeats 6400000 in
theorem prrd_r12 {t0 t1 t3 t4 t5 t6 t7 t9 t10 t11 t12 t13 t14 t15 t16 t17 t18 t19 t20 t21 t22 t23 t24 t25 t26 t27 t28 t29 t30 t31 t32 t33 t34 t35 t36 t37 t38 t39 t40 t41 t42 t43 t44 t45 t46 t47 t48 t49 t50 t51 t52 t53 t54 t55 t56 t57 t58 t59 t60 t61 t62 t63 t64 t65 t66 t67 t68 t69 t70 t71 t72 t73 t74 t75 t76 t77 t78 t79 t80 t81 t82 t83 t84 t85 t86 t87 t88 t89 t90 t91 t92 t93 t94 t95 t96 t97 t98 t99 t100 t101 t102 t103 : Value} {fs : List Deferred} (y0 b0 : Nat) (e1 e2 e3 a1 a2 a3 : Option Addr) (f1 f2 f3 c1 c2 c3 : Nat) (ns : List Nd) (is : List In) (ds : List Df) (w : World) (Q : Exit → Act → World → Prop)
    (hy : w.heap[y0]? = some (.cells #[.slice e1 ns.length f1, .slice e2 is.length f2, .slice e3 ds.length f3] 44 (0, 0))) (hk : w.heap[b0]? = some (.cells #[.slice a1 ns.length c1, .slice a2 is.length c2, .slice a3 ds.length c3] 28 (0, 0))) (E1 : NRow w (.slice e1 ns.length f1) ns) (E2 : InRow w (.slice e2 is.length f2) is) (E3 : DfRow w (.slice e3 ds.length f3) ds) (R1 : NRow w (.slice a1 ns.length c1) ns) (R2 : InRow w (.slice a2 is.length c2) is) (R3 : DfRow w (.slice a3 ds.length c3) ds) (l1 : ns.length ≤ 2097152) (l2 : is.length ≤ 2097152) (l3 : ds.length ≤ 2097152)
    (hQ : ∀ u48 u49 u50 u51 (W : World), Below w.heap.size w W → Q .normal ⟨#[t0, t1, .pointer (some ⟨b0, 0, none⟩), t3, t4, t5, t6, t7, .pointer (some ⟨y0, 0, none⟩), t9, t10, t11, t12, t13, t14, t15, t16, t17, t18, t19, t20, t21, t22, t23, t24, t25, t26, t27, t28, t29, t30, t31, t32, t33, t34, t35, t36, t37, t38, t39, t40, t41, t42, t43, t44, t45, t46, t47, u48, u49, u50, u51, .bool false, t53, t54, t55, t56, t57, t58, t59, t60, t61, t62, t63, t64, t65, t66, t67, t68, t69, t70, t71, t72, t73, t74, t75, t76, t77, t78, t79, t80, t81, t82, t83, t84, t85, t86, t87, t88, t89, t90, t91, t92, t93, t94, t95, t96, t97, t98, t99, t100, t101, t102, t103], fs⟩ W) :
    (Code.region 12 (List.toArray (({ dst := some 48, op := Op.load 44 (Operand.tmp 8), type := 44, pos := "exact.go:3905", after := #[], guard := none } : Oper) :: ({ dst := some 49, op := Op.load 28 (Operand.tmp 2), type := 28, pos := "exact.go:3905", after := #[], guard := none } : Oper) :: ({ dst := some 50, op := Op.call { callee := Callee.value (Operand.func 8), args := #[Operand.tmp 49], argTypes := #[28] }, type := 44, pos := "exact.go:3905", after := #[{ on := 1, ground := Ground.data }], guard := none } : Oper) :: ({ dst := some 51, op := Op.call { callee := Callee.value (Operand.func 11), args := #[Operand.tmp 48, Operand.tmp 50], argTypes := #[44, 44] }, type := 4, pos := "exact.go:3905", after := #[{ on := 0, ground := Ground.data }, { on := 2, ground := Ground.data }, { on := 2, ground := Ground.chain }], guard := none } : Oper) :: ({ dst := some 52, op := Op.unOp UnOp.not 4 (Operand.tmp 51), type := 4, pos := "exact.go:3905", after := #[{ on := 3, ground := Ground.data }], guard := none } : Oper) :: [])) true).wp Tryz.prog Q ⟨#[t0, t1, .pointer (some ⟨b0, 0, none⟩), t3, t4, t5, t6, t7, .pointer (some ⟨y0, 0, none⟩), t9, t10, t11, t12, t13, t14, t15, t16, t17, t18, t19, t20, t21, t22, t23, t24, t25, t26, t27, t28, t29, t30, t31, t32, t33, t34, t35, t36, t37, t38, t39, t40, t41, t42, t43, t44, t45, t46, t47, t48, t49, t50, t51, t52, t53, t54, t55, t56, t57, t58, t59, t60, t61, t62, t63, t64, t65, t66, t67, t68, t69, t70, t71, t72, t73, t74, t75, t76, t77, t78, t79, t80, t81, t82, t83, t84, t85, t86, t87, t88, t89, t90, t91, t92, t93, t94, t95, t96, t97, t98, t99, t100, t101, t102, t103], fs⟩ w := by
  have hS : ∀ w', Below w.heap.size w w' → (w'.heap[y0]? = some (.cells #[.slice e1 ns.length f1, .slice e2 is.length f2, .slice e3 ds.length f3] 44 (0, 0)) ∧ w'.heap[b0]? = some (.cells #[.slice a1 ns.length c1, .slice a2 is.length c2, .slice a3 ds.length c3] 28 (0, 0))) := fun w' hb => ⟨blk_bel hy hb, blk_bel hk hb⟩
  have B : Below w.heap.size w w.drew := drew_bel w
  refine wp_region_noPanic ?_
  refine wp_region_held_drew (S := fun w' => w'.heap[y0]? = some (.cells #[.slice e1 ns.length f1, .slice e2 is.length f2, .slice e3 ds.length f3] 44 (0, 0)) ∧ w'.heap[b0]? = some (.cells #[.slice a1 ns.length c1, .slice a2 is.length c2, .slice a3 ds.length c3] 28 (0, 0))) (by kernel_rfl) (hS _ B) (fun hHeld => ?_)
  refine wpAnyH_take (i := 0) (oi := ({ dst := some 48, op := Op.load 44 (Operand.tmp 8), type := 44, pos := "exact.go:3905", after := #[], guard := none } : Oper)) (v := .agg #[.slice e1 ns.length f1, .slice e2 is.length f2, .slice e3 ds.length f3]) rfl (by kernel_rfl) (by kernel_rfl) (by kernel_rfl) (fun _ _ _ h => h) (yields_row (by rfl) 44 _ rfl y0 rfl #[.slice e1 ns.length f1, .slice e2 is.length f2, .slice e3 ds.length f3] 44 _ (fun _ h => h.1) Tryz.underlying44 rfl Tryz.sizeCode) (by assumption) ?_
  simp only [Act.put, List.setIfInBounds_toArray, List.set_cons_zero, List.set_cons_succ]
  refine wpAnyH_take (i := 1) (oi := ({ dst := some 49, op := Op.load 28 (Operand.tmp 2), type := 28, pos := "exact.go:3905", after := #[], guard := none } : Oper)) (v := .agg #[.slice a1 ns.length c1, .slice a2 is.length c2, .slice a3 ds.length c3]) rfl (by kernel_rfl) (by kernel_rfl) (by kernel_rfl) (fun _ _ _ h => h) (yields_row (by rfl) 28 _ rfl b0 rfl #[.slice a1 ns.length c1, .slice a2 is.length c2, .slice a3 ds.length c3] 28 _ (fun _ h => h.2) Tryz.underlying28 rfl Tryz.sizeLCode9) (by assumption) ?_
  simp only [Act.put, List.setIfInBounds_toArray, List.set_cons_zero, List.set_cons_succ]
  refine wpAnyH_ready (rs := [2]) (by kernel_rfl) (by simp) ?_
  refine AllReadyH.cons rfl (fun K hK => ?_) AllReadyH.nil
  go_simp
  go_wp2_with (go_at_call 8; with_reducible refine (tocode_any _ _ _ ns is ds _ (R1.below B) (R2.below B) (R3.below B) l1 l2 l3).mono ?_; rintro e wA ⟨u1, u2, u3, rfl, S1, S2, S3, hb⟩)
  replace B := B.trans (hb.mono B.size)
  obtain ⟨b1, d1, rfl⟩ := S1.small
  obtain ⟨b2, d2, rfl⟩ := S2.small
  obtain ⟨b3, d3, rfl⟩ := S3.small
  clear hb
  refine hK.out _ _ (hS _ B) (fun hHeld => ?_)
  clear hK
  refine wpAnyH_ready (rs := [3]) (by kernel_rfl) (by simp) ?_
  refine AllReadyH.cons rfl (fun K hK => ?_) AllReadyH.nil
  go_simp
  go_wp2_with (go_at_call 11; with_reducible refine (eqcode_any _ _ _ _ _ _ ns is ds _ (E1.below B) (E2.below B) (E3.below B) S1 S2 S3).mono ?_; rintro e wZ ⟨rfl, hb⟩)
  replace S1 := S1.below hb
  replace S2 := S2.below hb
  replace S3 := S3.below hb
  replace B := B.trans (hb.mono B.size)
  clear hb
  refine hK.out _ _ (hS _ B) (fun hHeld => ?_)
  clear hK
  refine wpAnyH_take (i := 4) (oi := ({ dst := some 52, op := Op.unOp UnOp.not 4 (Operand.tmp 51), type := 4, pos := "exact.go:3905", after := #[{ on := 3, ground := Ground.data }], guard := none } : Oper)) (v := .bool false) rfl (by kernel_rfl) (by kernel_rfl) (by kernel_rfl) (fun _ _ _ h => h) (Or.inl ⟨by rfl, by intro w hSw; go_simp⟩) (by assumption) ?_
  simp only [Act.put, List.setIfInBounds_toArray, List.set_cons_zero, List.set_cons_succ]
  refine wpAnyH_done (by kernel_rfl) ?_ _
  exact NoPanic.normal (hQ _ _ _ _ _ B)

set_option maxRecDepth 100000 in
set_option maxHeartbeats 16000000 in
theorem lprocread_any (v1 v2 v3 : Value) (ns : List Nd) (is : List In) (ds : List Df) (s : ByteArray) (w : World) (R1 : NRow w v1 ns) (R2 : InRow w v2 is) (R3 : DfRow w v3 ds) (hs : s.size ≤ maxLen) (hg : ErrT w) :
    Calls Tryz.prog 4 #[.agg #[v1, v2, v3], .string s] w fun e w' => e = .returned (.bool true) ∧ Below w.heap.size w w' := by
  unfold maxLen at hs
  obtain ⟨a1, c1, rfl⟩ := R1.small
  obtain ⟨a2, c2, rfl⟩ := R2.small
  obtain ⟨a3, c3, rfl⟩ := R3.small
  have hB : Below w.heap.size w (w.alloc (Obj.cells #[.slice a1 ns.length c1, .slice a2 is.length c2, .slice a3 ds.length c3] 28)) := (Below.refl _ _).alloc (Nat.le_refl _) _
  by_cases hbig : 1048576 < s.size
  · go_enter Tryz.func4, Tryz.ntmps4
    go_wp2
    go_ret
    exact ⟨rfl, hB⟩
  go_enter Tryz.func4, Tryz.ntmps4
  go_wp2_with fail
  refine (szcode_any _ _ _ ns is ds _ (R1.below hB) (R2.below hB) (R3.below hB)).mono ?_
  rintro e w1 ⟨r, rfl, hr0, hr1, hr2, hb⟩
  have hk : w1.heap[w.heap.size]? = some (.cells #[.slice a1 ns.length c1, .slice a2 is.length c2, .slice a3 ds.length c3] 28 (0, 0)) := (hb.block _ (by simp)).trans (heap_alloc_new _ _)
  replace hB := hB.trans (hb.mono hB.size)
  clear hb
  by_cases hr : r < 0
  · go_wp2
    go_ret
    exact ⟨rfl, hB⟩
  obtain ⟨l1, l2, l3⟩ := hr2 (by omega)
  clear hr2
  have hPT := pd_small (ns := ns) (is := is) (ds := ds) (s := s) (by omega)
  have IT := fun (v1 v2 v3 : Value) (w' : World) (R1 : NRow w' v1 ns) (R2 : InRow w' v2 is) (R3 : DfRow w' v3 ds) (hb : Below w.heap.size w w') => iprocread_any v1 v2 v3 ns is ds s w' R1 R2 R3 (by omega) (hg.below hb (Nat.le_refl _))
  have ST := fun (v1 v2 v3 : Value) (w' : World) (R1 : NRow w' v1 ns) (R2 : InRow w' v2 is) (R3 : DfRow w' v3 ds) => sprocread_any v1 v2 v3 ns is ds s w' R1 R2 R3 (by omega)
  generalize pdT (pdR ns is ds (sb s)) = T at *
  obtain ⟨I, X, M, BX, OX, bb'⟩ := T
  obtain ⟨⟨gX, gB, gO⟩, hzX, hzB, hzO⟩ := hPT
  simp only at gX gB gO hzX hzB hzO
  replace IT := fun (v1 v2 v3 : Value) (w' : World) (R1 : NRow w' v1 ns) (R2 : InRow w' v2 is) (R3 : DfRow w' v3 ds) (hb : Below w.heap.size w w') => (IT v1 v2 v3 w' R1 R2 R3 hb).mono fun _ _ h => And.intro h.1.get h.2
  replace ST := fun (v1 v2 v3 : Value) (w' : World) (R1 : NRow w' v1 ns) (R2 : InRow w' v2 is) (R3 : DfRow w' v3 ds) => (ST v1 v2 v3 w' R1 R2 R3).mono fun _ _ h => And.intro h.1.get h.2
  have hlX : X.length ≤ 4194304 := by omega
  have hlB : BX.length ≤ 4194304 := by omega
  have hlO : OX.length ≤ 4194304 := by omega
  have hlm := nmarked_length 1 X _ (Nat.le_refl _)
  have hbb' : (bb' != bb') = false := by simp
  go_wp2_with (refine wpList_load_row rfl 28 _ rfl w.heap.size rfl 28 #[.slice a1 ns.length c1, .slice a2 is.length c2, .slice a3 ds.length c3] (0, 0) _ hk Tryz.underlying28 rfl Tryz.sizeLCode9 ?_)
  refine (tocode_any _ _ _ ns is ds _ (R1.below hB) (R2.below hB) (R3.below hB) (by omega) (by omega) (by omega)).mono ?_
  rintro e w2 ⟨u1, u2, u3, rfl, S1, S2, S3, hb⟩
  obtain ⟨b1, d1, rfl⟩ := S1.small
  obtain ⟨b2, d2, rfl⟩ := S2.small
  obtain ⟨b3, d3, rfl⟩ := S3.small
  replace hk := blk_bel hk hb
  replace hB := hB.trans (hb.mono hB.size)
  clear hb
  go_wp2_with fail
  refine (ST _ _ _ _ S1 S2 S3).mono ?_
  rintro e w3 ⟨⟨y1, y2, y3, rfl, P1, P2, P3, hap⟩, hb⟩
  obtain ⟨p1, pe1, rfl⟩ := own_form P1
  obtain ⟨p2, pe2, rfl⟩ := own_form P2
  obtain ⟨p3, pe3, rfl⟩ := own_form P3
  replace hk := blk_bel hk hb
  replace hB := hB.trans (hb.mono hB.size)
  clear hb S1 S2 S3
  go_wp2_with (refine wpList_store_own rfl 49 _ _ rfl w3.heap.size #[.int .i64 I, .slice p1 X.length pe1, .int .i64 M.p, .int .i64 M.s, .int .i64 M.e, .int .i64 M.d, .int .i64 M.t, .int .i64 M.q, .int .i64 M.r, .slice p2 BX.length pe2, .slice p3 OX.length pe3] rfl rfl 49 _ (heap_alloc_new _ _) Tryz.sizeProc rfl (by simp [Value.oneCell']) ?_)
  intro w4 hv hbv hsv
  have hb : Below w3.heap.size w3 w4 := ((Below.refl _ _).alloc (Nat.le_refl _) _).trans hbv
  have V4 := VarPr.of hv (own_below P1 hb) (own_below P2 hb) (own_below P3 hb) hap
  replace hk := blk_bel hk hb
  replace hB := hB.trans (hb.mono hB.size)
  have hlV4 : w3.heap.size < w4.heap.size := blk_lt hv
  clear hb hbv hsv hv P1 P2 P3 hap
  generalize w3.heap.size = b4 at *
  have hlo4 : w.heap.size < w4.heap.size := blk_lt hk
  generalize w2.heap.size = lo4 at *
  go_wp2_with (refine wpList_load_row rfl 28 _ rfl w.heap.size rfl 28 #[.slice a1 ns.length c1, .slice a2 is.length c2, .slice a3 ds.length c3] (0, 0) _ hk Tryz.underlying28 rfl Tryz.sizeLCode9 ?_)
  refine (tocode_own _ _ _ ns is ds _ (R1.below hB) (R2.below hB) (R3.below hB) (by omega) (by omega) (by omega)).mono ?_
  rintro e w5 ⟨u1, u2, u3, rfl, q1, q2, q3, hb⟩
  obtain ⟨b1, d1, rfl⟩ := own_form q1
  obtain ⟨b2, d2, rfl⟩ := own_form q2
  obtain ⟨b3, d3, rfl⟩ := own_form q3
  replace V4 := V4.below hb
  replace hk := blk_bel hk hb
  replace hB := hB.trans (hb.mono hB.size)
  have t1 : ∀ k, (Value.slice b1 ns.length d1).ownBlock = some k → w4.heap.size ≤ k ∧ k < w5.heap.size := fun k hk => q1.lt k hk
  have t2 : ∀ k, (Value.slice b2 is.length d2).ownBlock = some k → w4.heap.size ≤ k ∧ k < w5.heap.size := fun k hk => q2.lt k hk
  have t3 : ∀ k, (Value.slice b3 ds.length d3).ownBlock = some k → w4.heap.size ≤ k ∧ k < w5.heap.size := fun k hk => q3.lt k hk
  have hlo5 : w4.heap.size ≤ w5.heap.size := hb.size
  clear hb
  go_wp2_with (refine wpList_store_own rfl 44 _ _ rfl w5.heap.size #[.slice b1 ns.length d1, .slice b2 is.length d2, .slice b3 ds.length d3] rfl rfl 44 _ (heap_alloc_new _ _) Tryz.sizeCode rfl (by simp [Value.oneCell']) ?_)
  intro w6 hy hb6 hs6
  have hb : Below w5.heap.size w5 w6 := ((Below.refl _ _).alloc (Nat.le_refl _) _).trans hb6
  replace V4 := V4.below hb
  replace hk := blk_bel hk hb
  replace q1 := own_below q1 hb
  replace q2 := own_below q2 hb
  replace q3 := own_below q3 hb
  replace hB := hB.trans (hb.mono hB.size)
  have hlo6 : w5.heap.size < w6.heap.size := blk_lt hy
  clear hb hb6 hs6
  go_wp2_with (refine wpList_load_row rfl 44 _ rfl w5.heap.size rfl 44 #[.slice b1 ns.length d1, .slice b2 is.length d2, .slice b3 ds.length d3] (0, 0) _ hy Tryz.underlying44 rfl Tryz.sizeCode ?_)
  refine (IT _ _ _ _ (NRow.of_own q1 (by omega) R1.sz) (InRow.of_own q2 (by omega) R2.sz) (DfRow.of_own q3 (by omega) R3.sz) hB).mono ?_
  rintro e w7 ⟨⟨y1, y2, y3, rfl, P1, P2, P3, hap⟩, hb⟩
  obtain ⟨g1, ge1, rfl⟩ := own_form P1
  obtain ⟨g2, ge2, rfl⟩ := own_form P2
  obtain ⟨g3, ge3, rfl⟩ := own_form P3
  replace V4 := V4.below hb
  replace hk := blk_bel hk hb
  replace hy := blk_bel hy hb
  replace q1 := own_below q1 hb
  replace q2 := own_below q2 hb
  replace q3 := own_below q3 hb
  replace hB := hB.trans (hb.mono hB.size)
  have hlo7 : w6.heap.size ≤ w7.heap.size := hb.size
  clear hb
  go_wp2_with (refine wpList_store_own rfl 49 _ _ rfl w7.heap.size #[.int .i64 I, .slice g1 X.length ge1, .int .i64 M.p, .int .i64 M.s, .int .i64 M.e, .int .i64 M.d, .int .i64 M.t, .int .i64 M.q, .int .i64 M.r, .slice g2 BX.length ge2, .slice g3 OX.length ge3] rfl rfl 49 _ (heap_alloc_new _ _) Tryz.sizeProc rfl (by simp [Value.oneCell']) ?_)
  intro w8 hv hbv hsv
  have hb : Below w7.heap.size w7 w8 := ((Below.refl _ _).alloc (Nat.le_refl _) _).trans hbv
  have V6 := VarPr.of hv (own_below P1 hb) (own_below P2 hb) (own_below P3 hb) hap
  replace V4 := V4.below hb
  replace hk := blk_bel hk hb
  replace hy := blk_bel hy hb
  replace q1 := own_below q1 hb
  replace q2 := own_below q2 hb
  replace q3 := own_below q3 hb
  replace hB := hB.trans (hb.mono hB.size)
  have hlV6 : w7.heap.size < w8.heap.size := blk_lt hv
  clear hb hbv hsv hv P1 P2 P3 hap
  generalize w7.heap.size = b6 at *
  go_wp2_with (first | (refine wpList_load_row rfl 49 _ rfl b6 rfl 49 #[.int .i64 I, .slice g1 X.length ge1, .int .i64 M.p, .int .i64 M.s, .int .i64 M.e, .int .i64 M.d, .int .i64 M.t, .int .i64 M.q, .int .i64 M.r, .slice g2 BX.length ge2, .slice g3 OX.length ge3] (0, 0) _ V6.blk Tryz.underlying49 rfl Tryz.sizeProc ?_) | (refine wpList_load_row rfl 49 _ rfl b4 rfl 49 #[.int .i64 I, .slice p1 X.length pe1, .int .i64 M.p, .int .i64 M.s, .int .i64 M.e, .int .i64 M.d, .int .i64 M.t, .int .i64 M.q, .int .i64 M.r, .slice p2 BX.length pe2, .slice p3 OX.length pe3] (0, 0) _ V4.blk Tryz.underlying49 rfl Tryz.sizeProc ?_))
  refine (eqproc_any I _ _ _ _ _ _ X M BX OX _ (V6.row hlX hzX) (V6.rowb hlB hzB) (V6.rowo hlO hzO) (V4.row hlX hzX) (V4.rowb hlB hzB) (V4.rowo hlO hzO)).mono ?_
  rintro e wC ⟨rfl, hb⟩
  replace V4 := V4.below hb
  replace V6 := V6.below hb
  replace hk := blk_bel hk hb
  replace hy := blk_bel hy hb
  replace q1 := own_below q1 hb
  replace q2 := own_below q2 hb
  replace q3 := own_below q3 hb
  replace hB := hB.trans (hb.mono hB.size)
  clear hb
  go_wp2_with fail
  refine prrd_r12 w5.heap.size w.heap.size b1 b2 b3 a1 a2 a3 d1 d2 d3 c1 c2 c3 ns is ds _ _ hy hk (NRow.of_own q1 (by omega) R1.sz) (InRow.of_own q2 (by omega) R2.sz) (DfRow.of_own q3 (by omega) R3.sz) (R1.below hB) (R2.below hB) (R3.below hB) (by omega) (by omega) (by omega) (fun _ _ _ _ wD hb => ?_)
  replace V4 := V4.below hb
  replace V6 := V6.below hb
  replace hk := blk_bel hk hb
  replace hy := blk_bel hy hb
  replace q1 := own_below q1 hb
  replace q2 := own_below q2 hb
  replace q3 := own_below q3 hb
  replace hB := hB.trans (hb.mono hB.size)
  clear hb
  go_wp2_with (refine wpList_load_row rfl 44 _ rfl w5.heap.size rfl 44 #[.slice b1 ns.length d1, .slice b2 is.length d2, .slice b3 ds.length d3] (0, 0) _ hy Tryz.underlying44 rfl Tryz.sizeCode ?_)
  refine (markcode_any _ _ _ 1 w4.heap.size ns is ds _ q1 q2 q3 (by omega) (by omega) (by omega) (by omega) (by omega)).mono ?_
  rintro e wF ⟨⟨rk, rfl, hrk0, hrk1⟩, wx, wy, gx, gy, gz⟩
  have j4 : ∀ k, w4.heap.size ≤ k ∧ k < w5.heap.size → k ≠ b4 ∧ (k < lo4 ∨ w4.heap.size ≤ k) := fun k hk => ⟨by omega, Or.inr hk.1⟩
  have j6 : ∀ k, w4.heap.size ≤ k ∧ k < w5.heap.size → k ≠ b6 ∧ (k < w6.heap.size ∨ w8.heap.size ≤ k) := fun k hk => ⟨by omega, Or.inl (by omega)⟩
  replace V4 := ((V4.keptBy gx (fun k hk => j4 k (t1 k hk))).keptBy gy (fun k hk => j4 k (t2 k hk))).keptBy gz (fun k hk => j4 k (t3 k hk))
  replace V6 := ((V6.keptBy gx (fun k hk => j6 k (t1 k hk))).keptBy gy (fun k hk => j6 k (t2 k hk))).keptBy gz (fun k hk => j6 k (t3 k hk))
  have nx : ∀ (n : Nat) (o : Option Nat), (∀ k, o = some k → w4.heap.size ≤ k ∧ k < w5.heap.size) → n < w4.heap.size → o ≠ some n := fun n o ho hn e => by have := ho _ e; omega
  have hxx := (gx.block _ (blk_lt hk) (fun e => nx _ _ t1 (by omega) e.symm)).trans hk
  have hxy := (gy.block _ (blk_lt hxx) (fun e => nx _ _ t2 (by omega) e.symm)).trans hxx
  replace hk := (gz.block _ (blk_lt hxy) (fun e => nx _ _ t3 (by omega) e.symm)).trans hxy
  clear hxx hxy
  replace hB := hB.grown gx hB.size (fun k hk => by have := t1 k hk; omega)
  replace hB := hB.grown gy hB.size (fun k hk => by have := t2 k hk; omega)
  replace hB := hB.grown gz hB.size (fun k hk => by have := t3 k hk; omega)
  clear gx gy gz q1 q2 q3 nx hy j4 j6 t1 t2 t3
  have hk1 : ¬ rk < 0 := by omega
  clear hrk0 hrk1
  have e0 : wF.cell? ⟨b6, 0, none⟩ = some (.int .i64 I) := cell_of_row wF _ 0 _ _ _ V6.blk
  have e1 : wF.cell? ⟨b6, 0 + 1, none⟩ = some (.slice g1 X.length ge1) := cell_of_row wF _ 1 _ _ _ V6.blk
  have e2 : wF.cell? ⟨b6, 0 + 2, none⟩ = some (.int .i64 M.p) := cell_of_row wF _ 2 _ _ _ V6.blk
  have e3 : wF.cell? ⟨b6, 0 + 3, none⟩ = some (.int .i64 M.s) := cell_of_row wF _ 3 _ _ _ V6.blk
  have e4 : wF.cell? ⟨b6, 0 + 4, none⟩ = some (.int .i64 M.e) := cell_of_row wF _ 4 _ _ _ V6.blk
  have e5 : wF.cell? ⟨b6, 0 + 5, none⟩ = some (.int .i64 M.d) := cell_of_row wF _ 5 _ _ _ V6.blk
  have e6 : wF.cell? ⟨b6, 0 + 6, none⟩ = some (.int .i64 M.t) := cell_of_row wF _ 6 _ _ _ V6.blk
  have e7 : wF.cell? ⟨b6, 0 + 7, none⟩ = some (.int .i64 M.q) := cell_of_row wF _ 7 _ _ _ V6.blk
  have e8 : wF.cell? ⟨b6, 0 + 8, none⟩ = some (.int .i64 M.r) := cell_of_row wF _ 8 _ _ _ V6.blk
  have e9 : wF.cell? ⟨b6, 0 + 9, none⟩ = some (.slice g2 BX.length ge2) := cell_of_row wF _ 9 _ _ _ V6.blk
  have e10 : wF.cell? ⟨b6, 0 + 10, none⟩ = some (.slice g3 OX.length ge3) := cell_of_row wF _ 10 _ _ _ V6.blk
  have k0 : wF.cell? ⟨b4, 0, none⟩ = some (.int .i64 I) := cell_of_row wF _ 0 _ _ _ V4.blk
  have k1 : wF.cell? ⟨b4, 0 + 1, none⟩ = some (.slice p1 X.length pe1) := cell_of_row wF _ 1 _ _ _ V4.blk
  have k2 : wF.cell? ⟨b4, 0 + 2, none⟩ = some (.int .i64 M.p) := cell_of_row wF _ 2 _ _ _ V4.blk
  have k3 : wF.cell? ⟨b4, 0 + 3, none⟩ = some (.int .i64 M.s) := cell_of_row wF _ 3 _ _ _ V4.blk
  have k4 : wF.cell? ⟨b4, 0 + 4, none⟩ = some (.int .i64 M.e) := cell_of_row wF _ 4 _ _ _ V4.blk
  have k5 : wF.cell? ⟨b4, 0 + 5, none⟩ = some (.int .i64 M.d) := cell_of_row wF _ 5 _ _ _ V4.blk
  have k6 : wF.cell? ⟨b4, 0 + 6, none⟩ = some (.int .i64 M.t) := cell_of_row wF _ 6 _ _ _ V4.blk
  have k7 : wF.cell? ⟨b4, 0 + 7, none⟩ = some (.int .i64 M.q) := cell_of_row wF _ 7 _ _ _ V4.blk
  have k8 : wF.cell? ⟨b4, 0 + 8, none⟩ = some (.int .i64 M.r) := cell_of_row wF _ 8 _ _ _ V4.blk
  have k9 : wF.cell? ⟨b4, 0 + 9, none⟩ = some (.slice p2 BX.length pe2) := cell_of_row wF _ 9 _ _ _ V4.blk
  have k10 : wF.cell? ⟨b4, 0 + 10, none⟩ = some (.slice p3 OX.length pe3) := cell_of_row wF _ 10 _ _ _ V4.blk
  go_wp2_with fail
  refine (eqproc_any I _ _ _ _ _ _ X M BX OX _ (V6.row hlX hzX) (V6.rowb hlB hzB) (V6.rowo hlO hzO) (V4.row hlX hzX) (V4.rowb hlB hzB) (V4.rowo hlO hzO)).mono ?_
  rintro e wH ⟨rfl, hb⟩
  clear e0 e1 e2 e3 e4 e5 e6 e7 e8 e9 e10 k0 k1 k2 k3 k4 k5 k6 k7 k8 k9 k10
  replace V4 := V4.below hb
  replace V6 := V6.below hb
  replace hk := blk_bel hk hb
  replace hB := hB.trans (hb.mono hB.size)
  clear hb
  go_wp2_with (refine wpList_load_row rfl 49 _ rfl b6 rfl 49 #[.int .i64 I, .slice g1 X.length ge1, .int .i64 M.p, .int .i64 M.s, .int .i64 M.e, .int .i64 M.d, .int .i64 M.t, .int .i64 M.q, .int .i64 M.r, .slice g2 BX.length ge2, .slice g3 OX.length ge3] (0, 0) _ V6.blk Tryz.underlying49 rfl Tryz.sizeProc ?_)
  refine (markproc_any _ _ _ 1 w6.heap.size I X M BX OX _ V6.o1 V6.o2 V6.o3 V6.ap (by omega) (by omega) (by omega) (by omega) (by omega)).mono ?_
  rintro e wI ⟨rfl, xa, xb, ga, gb, gc, s1, s2, s3⟩
  replace V4 := V4.kept3 V6 ga gb gc (Or.inl (by omega))
  replace hk := V6.other ga gb gc hk (by decide) (by decide)
  replace hB := VarPr.frame hB V6 ga gb gc (by omega) hB.size
  have V6 := V6.turned (ys := nmarked 1 X X.length) (by' := sm (1 + 5 * X.length) BX.length) (oy := sm (1 + 5 * X.length + BX.length) OX.length) ga gb gc (by rw [hlm]; exact s1) (by rw [sm_length]; exact s2) (by rw [sm_length]; exact s3)
  clear ga gb gc s1 s2 s3
  have hzM := nmarked_ok 1 X (by omega) hlX
  have hzN := sm_ok (1 + 5 * X.length) BX.length (by omega) (by omega)
  have hzP := sm_ok (1 + 5 * X.length + BX.length) OX.length (by omega) (by omega)
  have HH : ∀ W : World, VarPr W b6 w6.heap.size w8.heap.size (.slice g1 X.length ge1) (.slice g2 BX.length ge2) (.slice g3 OX.length ge3) I (nmarked 1 X X.length) M (sm (1 + 5 * X.length) BX.length) (sm (1 + 5 * X.length + BX.length) OX.length) → Calls Tryz.prog 17 #[.agg #[.int .i64 I, .slice g1 X.length ge1, .int .i64 M.p, .int .i64 M.s, .int .i64 M.e, .int .i64 M.d, .int .i64 M.t, .int .i64 M.q, .int .i64 M.r, .slice g2 BX.length ge2, .slice g3 OX.length ge3], .int .i64 1] W fun e w' => e = .returned (.int .i64 (1 + 5 * X.length + BX.length + OX.length)) ∧ Below W.heap.size W w' := fun W V => heldproc_any _ _ _ 1 I X M BX.length OX.length W (V.row (by omega) hzM) (V.rowb (by rw [sm_length]; omega) hzN) (V.rowo (by rw [sm_length]; omega) hzP) hlX hlB hlO (by omega) (by omega)
  obtain ⟨kn, hkn⟩ : ∃ kn, Hid (1 + 5 * (X.length : Int) + (BX.length : Int) + (OX.length : Int) = kn) := ⟨_, rfl⟩
  have hkn0 : ¬ kn < 0 := by have := hkn.out; omega
  have hknn : (kn != kn) = false := by simp
  rw [hkn.out] at HH
  rw [hkn.out]
  clear hkn
  go_wp2_with (refine wpList_load_row rfl 49 _ rfl b6 rfl 49 #[.int .i64 I, .slice g1 X.length ge1, .int .i64 M.p, .int .i64 M.s, .int .i64 M.e, .int .i64 M.d, .int .i64 M.t, .int .i64 M.q, .int .i64 M.r, .slice g2 BX.length ge2, .slice g3 OX.length ge3] (0, 0) _ V6.blk Tryz.underlying49 rfl Tryz.sizeProc ?_)
  refine (HH _ V6).mono ?_
  rintro e wJ ⟨rfl, hb⟩
  replace V4 := V4.below hb
  replace V6 := V6.below hb
  replace hk := blk_bel hk hb
  replace hB := hB.trans (hb.mono hB.size)
  clear hb
  go_wp2_with (refine wpList_load_row rfl 28 _ rfl w.heap.size rfl 28 #[.slice a1 ns.length c1, .slice a2 is.length c2, .slice a3 ds.length c3] (0, 0) _ hk Tryz.underlying28 rfl Tryz.sizeLCode9 ?_)
  refine (tocode_any _ _ _ ns is ds _ (R1.below hB) (R2.below hB) (R3.below hB) (by omega) (by omega) (by omega)).mono ?_
  rintro e wK ⟨u1, u2, u3, rfl, S1, S2, S3, hb⟩
  obtain ⟨i1, j1, rfl⟩ := S1.small
  obtain ⟨i2, j2, rfl⟩ := S2.small
  obtain ⟨i3, j3, rfl⟩ := S3.small
  replace V4 := V4.below hb
  replace V6 := V6.below hb
  replace hB := hB.trans (hb.mono hB.size)
  clear hb hk
  go_wp2_with fail
  refine (IT _ _ _ _ S1 S2 S3 hB).mono ?_
  rintro e wM ⟨⟨y1, y2, y3, rfl, P1, P2, P3, hap⟩, hb⟩
  obtain ⟨f1, fe1, rfl⟩ := own_form P1
  obtain ⟨f2, fe2, rfl⟩ := own_form P2
  obtain ⟨f3, fe3, rfl⟩ := own_form P3
  replace V4 := V4.below hb
  replace V6 := V6.below hb
  replace hB := hB.trans (hb.mono hB.size)
  clear hb S1 S2 S3
  go_wp2_with (refine wpList_store_own rfl 49 _ _ rfl wM.heap.size #[.int .i64 I, .slice f1 X.length fe1, .int .i64 M.p, .int .i64 M.s, .int .i64 M.e, .int .i64 M.d, .int .i64 M.t, .int .i64 M.q, .int .i64 M.r, .slice f2 BX.length fe2, .slice f3 OX.length fe3] rfl rfl 49 _ (heap_alloc_new _ _) Tryz.sizeProc rfl (by simp [Value.oneCell']) ?_)
  intro wN hv hbv hsv
  have hb : Below wM.heap.size wM wN := ((Below.refl _ _).alloc (Nat.le_refl _) _).trans hbv
  have V10 := VarPr.of hv (own_below P1 hb) (own_below P2 hb) (own_below P3 hb) hap
  replace V4 := V4.below hb
  replace V6 := V6.below hb
  replace hB := hB.trans (hb.mono hB.size)
  have hlV10 : wM.heap.size < wN.heap.size := blk_lt hv
  clear hb hbv hsv hv P1 P2 P3 hap
  generalize wM.heap.size = b10 at *
  go_wp2_with (first | (refine wpList_load_row rfl 49 _ rfl b10 rfl 49 #[.int .i64 I, .slice f1 X.length fe1, .int .i64 M.p, .int .i64 M.s, .int .i64 M.e, .int .i64 M.d, .int .i64 M.t, .int .i64 M.q, .int .i64 M.r, .slice f2 BX.length fe2, .slice f3 OX.length fe3] (0, 0) _ V10.blk Tryz.underlying49 rfl Tryz.sizeProc ?_) | (refine wpList_load_row rfl 49 _ rfl b4 rfl 49 #[.int .i64 I, .slice p1 X.length pe1, .int .i64 M.p, .int .i64 M.s, .int .i64 M.e, .int .i64 M.d, .int .i64 M.t, .int .i64 M.q, .int .i64 M.r, .slice p2 BX.length pe2, .slice p3 OX.length pe3] (0, 0) _ V4.blk Tryz.underlying49 rfl Tryz.sizeProc ?_))
  refine (eqproc_any I _ _ _ _ _ _ X M BX OX _ (V10.row hlX hzX) (V10.rowb hlB hzB) (V10.rowo hlO hzO) (V4.row hlX hzX) (V4.rowb hlB hzB) (V4.rowo hlO hzO)).mono ?_
  rintro e wO ⟨rfl, hb⟩
  replace V6 := V6.below hb
  replace hB := hB.trans (hb.mono hB.size)
  clear hb V4 V10
  go_wp2_with (refine wpList_load_row rfl 49 _ rfl b6 rfl 49 #[.int .i64 I, .slice g1 X.length ge1, .int .i64 M.p, .int .i64 M.s, .int .i64 M.e, .int .i64 M.d, .int .i64 M.t, .int .i64 M.q, .int .i64 M.r, .slice g2 BX.length ge2, .slice g3 OX.length ge3] (0, 0) _ V6.blk Tryz.underlying49 rfl Tryz.sizeProc ?_)
  refine (HH _ V6).mono ?_
  rintro e wP ⟨rfl, hb⟩
  replace hB := hB.trans (hb.mono hB.size)
  clear hb V6 HH
  go_wp2
  go_ret
  exact ⟨rfl, hB⟩
end Go.Proofs.YtjnhocefnfmhmaaGreatDoor
