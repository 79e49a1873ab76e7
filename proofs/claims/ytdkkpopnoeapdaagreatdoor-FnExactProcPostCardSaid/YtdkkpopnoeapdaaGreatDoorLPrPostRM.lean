/-
  Texts that stood by themselves, laid into one.
-/
import Derived.Test.YtdkkpopnoeapdaaGreatDoorBsM
import Derived.Test.YtdkkpopnoeapdaaGreatDoorLMakeM
import Derived.Test.YtdkkpopnoeapdaaGreatDoorPrToM
import Derived.Test.YtdkkpopnoeapdaaGreatDoorShapeM
import Derived.Test.YtdkkpopnoeapdaaGreatDoorPrCopyM
import Derived.Test.YtdkkpopnoeapdaaGreatDoorMkListM
import Derived.Test.YtdkkpopnoeapdaaGreatDoorPrOkSM
import Derived.Test.YtdkkpopnoeapdaaGreatDoorLPrOkRM
/-
  A machine's variable (VarM), and the contracts of the laws' helpers markMachine and heldMachine. No condition.
-/
namespace Go.Proofs.YtdkkpopnoeapdaaGreatDoor
open Go.RowKit

theorem stepD8 {w2 w3 : World} (h : Below w2.drew.heap.size w2.drew w3) : Below w2.heap.size w2 w3 := (Below.refl _ _).drew.trans h
/-- What a machine's variable holds: at block b, a machine whose row of nodes lies between lo and hi and reads as xs. -/
def VarM (w : World) (b lo hi : Nat) (v : Value) (xs : List Nd) (m : Mc) : Prop :=
  w.heap[b]? = some (.cells #[v, .int .i64 m.p, .int .i64 m.s, .int .i64 m.e, .int .i64 m.d, .int .i64 m.t, .int .i64 m.q, .int .i64 m.r] 46 (0, 0)) ∧ w.ownsRow lo 119 5 v xs.length (ncs xs) ∧ (∀ k, v.ownBlock = some k → k < hi) ∧ hi ≤ w.heap.size
theorem VarM.new {w5 we : World} {lo : Nat} {v : Value} {xs : List Nd} {m : Mc} (ho : w5.ownsRow lo 119 5 v xs.length (ncs xs)) (hd : Below w5.heap.size w5 we) (hb : we.heap[w5.heap.size]? = some (.cells #[v, .int .i64 m.p, .int .i64 m.s, .int .i64 m.e, .int .i64 m.d, .int .i64 m.t, .int .i64 m.q, .int .i64 m.r] 46 (0, 0))) :
    VarM we w5.heap.size lo we.heap.size v xs m := ⟨hb, own_below ho hd, fun k hk => ((own_below ho hd).lt k hk).2, Nat.le_refl _⟩
theorem VarM.below {w w' : World} {b lo hi : Nat} {v : Value} {xs : List Nd} {m : Mc} (h : VarM w b lo hi v xs m) (hb : Below w.heap.size w w') : VarM w' b lo hi v xs m :=
  ⟨(hb.block b (Array.getElem?_eq_some_iff.1 h.1).1).trans h.1, own_below h.2.1 hb, h.2.2.1, Nat.le_trans h.2.2.2 hb.size⟩
theorem VarM.row {w : World} {b lo hi : Nat} {v : Value} {xs : List Nd} {m : Mc} (h : VarM w b lo hi v xs m) (hm : xs.length ≤ 4194304) (hz : ∀ x ∈ xs, x.s.size ≤ maxLen) : NRow w v xs := NRow.of_own h.2.1 (by omega) hz
theorem VarM.lt {w : World} {b lo hi : Nat} {v : Value} {xs : List Nd} {m : Mc} (h : VarM w b lo hi v xs m) : b < w.heap.size := (Array.getElem?_eq_some_iff.1 h.1).1
theorem VarM.kept {w w' : World} {b lo hi lo' hi' b' : Nat} {v v' : Value} {xs xs' : List Nd} {m m' : Mc} (h : VarM w b lo hi v xs m) (h' : VarM w b' lo' hi' v' xs' m') (hg : w.grownBy w' v'.ownBlock) (hd : hi ≤ lo' ∨ hi' ≤ lo) : VarM w' b lo hi v xs m := by
  have hne : v'.ownBlock ≠ some b := own_ne h'.2.1 h.1 (by decide)
  refine ⟨(hg.block b h.lt (fun e => hne e.symm)).trans h.1, h.2.1.kept hg ?_, h.2.2.1, Nat.le_trans h.2.2.2 hg.size⟩
  cases hv : v.ownBlock with
  | none => exact Or.inl rfl
  | some k =>
    refine Or.inr fun e => ?_
    have k1 := h.2.2.1 k hv
    have k2 := (h.2.1.lt k hv).1
    have k3 := h'.2.2.1 k e.symm
    have k4 := (h'.2.1.lt k e.symm).1
    omega
theorem VarM.marked {w w' : World} {b lo hi : Nat} {v : Value} {xs ys : List Nd} {m : Mc} (h : VarM w b lo hi v xs m) (hg : w.grownBy w' v.ownBlock) (ho : w'.ownsRow lo 119 5 v ys.length (ncs ys)) : VarM w' b lo hi v ys m :=
  ⟨(hg.block b h.lt (fun e => own_ne h.2.1 h.1 (by decide) e.symm)).trans h.1, ho, h.2.2.1, Nat.le_trans h.2.2.2 hg.size⟩
theorem VarM.block {w w' : World} {b lo hi : Nat} {v : Value} {xs : List Nd} {m : Mc} (h : VarM w b lo hi v xs m) (hg : w.grownBy w' v.ownBlock) {j : Nat} {c : Array Value} {t : TypeId} (hj : w.heap[j]? = some (.cells c t (0, 0))) (hte : t ≠ 119) : w'.heap[j]? = some (.cells c t (0, 0)) :=
  (hg.block j (Array.getElem?_eq_some_iff.1 hj).1 (fun e => own_ne h.2.1 hj hte e.symm)).trans hj
theorem below_markM {w w' : World} {B b lo hi : Nat} {v : Value} {xs : List Nd} {m : Mc} {w0 : World} (h0 : Below B w0 w) (h : VarM w b lo hi v xs m) (hg : w.grownBy w' v.ownBlock) (hlo : B ≤ lo) (hB : B ≤ w.heap.size) : Below B w0 w' :=
  h0.grown hg hB (fun k hk => Nat.le_trans hlo (h.2.1.lt k hk).1)

set_option maxHeartbeats 400000 in
theorem markmach_any (v : Value) (k : Int) (base : Nat) (xs : List Nd) (m : Mc) (w : World) (h : w.ownsRow base 119 5 v xs.length (ncs xs)) (hm : xs.length ≤ 4194304) (hk0 : 0 ≤ k) (hk : k ≤ 2305843009213693952) :
    Calls Tryz.prog 48 #[.agg #[v, .int .i64 m.p, .int .i64 m.s, .int .i64 m.e, .int .i64 m.d, .int .i64 m.t, .int .i64 m.q, .int .i64 m.r], .int .i64 k] w fun e w' => e = .returned (.int .i64 (k + 5 * xs.length)) ∧ w'.ownsRow base 119 5 v xs.length (ncs (nmarked k xs xs.length)) ∧ w.grownBy w' v.ownBlock := by
  obtain ⟨ao, cap, rfl⟩ := own_form h
  go_enter Tryz.func48, Tryz.ntmps48
  go_wp2_with fail
  refine (markpool_any _ k base xs _ (h.alloc _) hm hk0 hk).mono ?_
  rintro e w2 ⟨rfl, ho2, hb2⟩
  have hB2 := (World.grownBy_alloc w (Obj.cells #[.slice ao xs.length cap, .int .i64 m.p, .int .i64 m.s, .int .i64 m.e, .int .i64 m.d, .int .i64 m.t, .int .i64 m.q, .int .i64 m.r] 46) (Value.slice ao xs.length cap).ownBlock).trans hb2
  clear hb2
  go_wp2
  go_ret
  exact ⟨rfl, ho2, hB2⟩

set_option maxHeartbeats 400000 in
theorem heldmach_any (v : Value) (k : Int) (xs : List Nd) (m : Mc) (w : World) (R : NRow w v (nmarked k xs xs.length)) (hm : xs.length ≤ 4194304) (hk0 : 0 ≤ k) (hk : k ≤ 2305843009213693952) :
    Calls Tryz.prog 50 #[.agg #[v, .int .i64 m.p, .int .i64 m.s, .int .i64 m.e, .int .i64 m.d, .int .i64 m.t, .int .i64 m.q, .int .i64 m.r], .int .i64 k] w fun e w' => e = .returned (.int .i64 (k + 5 * xs.length)) ∧ Below w.heap.size w w' := by
  have R' := R
  obtain ⟨ao, cap, rfl, _⟩ := R'
  rw [nmarked_length _ _ _ (Nat.le_refl _)] at R ⊢
  go_enter Tryz.func50, Tryz.ntmps50
  go_wp2_with fail
  have hbel : Below w.heap.size w (w.alloc (Obj.cells #[.slice ao xs.length cap, .int .i64 m.p, .int .i64 m.s, .int .i64 m.e, .int .i64 m.d, .int .i64 m.t, .int .i64 m.q, .int .i64 m.r] 46)) := (Below.refl _ _).alloc (Nat.le_refl _) _
  refine (heldpool_any _ k xs _ (R.below hbel) hm hk0 hk).mono ?_
  rintro e w2 ⟨rfl, hb2⟩
  have hB2 := hbel.trans (hb2.mono hbel.size)
  clear hb2 hbel
  have hpos : ¬ (k + 5 * (xs.length : Int)) < 0 := by omega
  go_wp2
  go_ret
  exact ⟨rfl, hB2⟩


/-- What another block's turning leaves. -/
theorem VarM.keptBy {w w' : World} {b lo hi : Nat} {v : Value} {xs : List Nd} {m : Mc} {o : Option Nat} (h : VarM w b lo hi v xs m) (hg : w.grownBy w' o) (hb : ∀ k, o = some k → k ≠ b ∧ (k < lo ∨ hi ≤ k)) : VarM w' b lo hi v xs m := by
  refine ⟨(hg.block b h.lt (fun e => (hb b e.symm).1 rfl)).trans h.1, h.2.1.kept hg ?_, h.2.2.1, Nat.le_trans h.2.2.2 hg.size⟩
  cases hv : v.ownBlock with
  | none => exact Or.inl rfl
  | some k =>
    refine Or.inr fun e => ?_
    have k1 := h.2.2.1 k hv
    have k2 := (h.2.1.lt k hv).1
    have k3 := (hb k e.symm).2
    omega
end Go.Proofs.YtdkkpopnoeapdaaGreatDoor

/-
  A process's variable (VarPr), and the contracts of the laws' helpers markProc and heldProc. No condition.
-/
namespace Go.Proofs.YtdkkpopnoeapdaaGreatDoor
open Go.RowKit

/-- Rows of different kinds are different rows. -/
theorem own_kinds {w : World} {B B' k k' n n' : Nat} {e e' : TypeId} {v v' : Value} {l l' : List Value} (h : w.ownsRow B e k v n l) (h' : w.ownsRow B' e' k' v' n' l') (hne : e ≠ e') : v.ownBlock = none ∨ v.ownBlock ≠ v'.ownBlock := by
  rcases h.2 with ⟨rfl, _⟩ | ⟨g, cap, cur, rfl, hB, hg, _⟩
  · exact Or.inl rfl
  · right
    intro e1
    exact own_ne h' hg hne e1.symm

set_option maxHeartbeats 800000 in
theorem markstrs_own (v : Value) (k : Int) (base : Nat) (xs : List ByteArray) (w : World) (h : w.ownsRow base 9 1 v xs.length (stv xs)) (hm : xs.length ≤ 4194304) (hk0 : 0 ≤ k) (hk : k ≤ 2305843009213693952) :
    Calls Tryz.prog 49 #[v, .int .i64 k] w fun e w' => e = .returned (.int .i64 (k + xs.length)) ∧ w'.ownsRow base 9 1 v xs.length (stv (sm k xs.length)) ∧ w.grownBy w' v.ownBlock := by
  have h' := h
  rcases h.2 with ⟨rfl, h0⟩ | ⟨g, cap, cur, rfl, hB, hg, _⟩
  · have : xs = [] := List.eq_nil_of_length_eq_zero h0
    subst this
    go_enter Tryz.func49, Tryz.ntmps49
    go_wp2
    refine wp_loop_rounds 1 ?_
    rw [rounds_succ]
    go_wp2
    go_ret
    exact ⟨by simp, h', World.grownBy.refl _ _⟩
  · refine (markstrs_mid g 0 cap cap xs.length base k [] xs [] w rfl (by simp) (by simpa using h') hm hk0 hk).mono ?_
    rintro e w' ⟨rfl, ho, hgr⟩
    exact ⟨rfl, by simpa using ho, hgr⟩

/-- What a process's variable holds: at block b, a process whose rows lie between lo and hi. -/
structure VarPr (w : World) (b lo hi : Nat) (v vb vo : Value) (i : Int) (xs : List Nd) (m : Mc) (bx ox : List ByteArray) : Prop where
  blk : w.heap[b]? = some (.cells #[.int .i64 i, v, .int .i64 m.p, .int .i64 m.s, .int .i64 m.e, .int .i64 m.d, .int .i64 m.t, .int .i64 m.q, .int .i64 m.r, vb, vo] 48 (0, 0))
  o1 : w.ownsRow lo 119 5 v xs.length (ncs xs)
  o2 : w.ownsRow lo 9 1 vb bx.length (stv bx)
  o3 : w.ownsRow lo 9 1 vo ox.length (stv ox)
  t1 : ∀ k, v.ownBlock = some k → k < hi
  t2 : ∀ k, vb.ownBlock = some k → k < hi
  t3 : ∀ k, vo.ownBlock = some k → k < hi
  ap : ∀ g, vo.ownBlock = some g → vb.ownBlock ≠ some g
  top : hi ≤ w.heap.size
theorem VarPr.of {w : World} {b lo : Nat} {v vb vo : Value} {i : Int} {xs : List Nd} {m : Mc} {bx ox : List ByteArray} (hb : w.heap[b]? = some (.cells #[.int .i64 i, v, .int .i64 m.p, .int .i64 m.s, .int .i64 m.e, .int .i64 m.d, .int .i64 m.t, .int .i64 m.q, .int .i64 m.r, vb, vo] 48 (0, 0))) (h1 : w.ownsRow lo 119 5 v xs.length (ncs xs)) (h2 : w.ownsRow lo 9 1 vb bx.length (stv bx)) (h3 : w.ownsRow lo 9 1 vo ox.length (stv ox)) (ha : ∀ g, vo.ownBlock = some g → vb.ownBlock ≠ some g) : VarPr w b lo w.heap.size v vb vo i xs m bx ox :=
  ⟨hb, h1, h2, h3, fun k hk => (h1.lt k hk).2, fun k hk => (h2.lt k hk).2, fun k hk => (h3.lt k hk).2, ha, Nat.le_refl _⟩
section
variable {w w' : World} {b lo hi : Nat} {v vb vo : Value} {i : Int} {xs : List Nd} {m : Mc} {bx ox : List ByteArray}
theorem VarPr.below (h : VarPr w b lo hi v vb vo i xs m bx ox) (hb : Below w.heap.size w w') : VarPr w' b lo hi v vb vo i xs m bx ox :=
  ⟨blk_bel h.blk hb, own_below h.o1 hb, own_below h.o2 hb, own_below h.o3 hb, h.t1, h.t2, h.t3, h.ap, Nat.le_trans h.top hb.size⟩
theorem VarPr.lt (h : VarPr w b lo hi v vb vo i xs m bx ox) : b < w.heap.size := blk_lt h.blk
theorem VarPr.row (h : VarPr w b lo hi v vb vo i xs m bx ox) (hm : xs.length ≤ 4194304) (hz : ∀ x ∈ xs, x.s.size ≤ maxLen) : NRow w v xs := NRow.of_own h.o1 (by omega) hz
theorem VarPr.rowb (h : VarPr w b lo hi v vb vo i xs m bx ox) (hm : bx.length ≤ 4194304) (hz : ∀ x ∈ bx, x.size ≤ maxLen) : StRow w vb bx := StRow.of_own h.o2 (by omega) hz
theorem VarPr.rowo (h : VarPr w b lo hi v vb vo i xs m bx ox) (hm : ox.length ≤ 4194304) (hz : ∀ x ∈ ox, x.size ≤ maxLen) : StRow w vo ox := StRow.of_own h.o3 (by omega) hz
theorem own_range {e : TypeId} {k n : Nat} {u : Value} {l : List Value} {o : Option Nat} (h : w.ownsRow lo e k u n l) (ht : ∀ k, u.ownBlock = some k → k < hi) (hg : w.grownBy w' o) (hb : ∀ k, o = some k → k < lo ∨ hi ≤ k) : w'.ownsRow lo e k u n l := by
  refine h.kept hg ?_
  cases hv : u.ownBlock with
  | none => exact Or.inl rfl
  | some k =>
    refine Or.inr fun e => ?_
    have k1 := ht k hv
    have k2 := (h.lt k hv).1
    have k3 := hb k e.symm
    omega
/-- What another block's turning leaves. -/
theorem VarPr.keptBy {o : Option Nat} (h : VarPr w b lo hi v vb vo i xs m bx ox) (hg : w.grownBy w' o) (hb : ∀ k, o = some k → k ≠ b ∧ (k < lo ∨ hi ≤ k)) : VarPr w' b lo hi v vb vo i xs m bx ox :=
  ⟨(hg.block b h.lt (fun e => (hb b e.symm).1 rfl)).trans h.blk, own_range h.o1 h.t1 hg (fun k hk => (hb k hk).2), own_range h.o2 h.t2 hg (fun k hk => (hb k hk).2), own_range h.o3 h.t3 hg (fun k hk => (hb k hk).2), h.t1, h.t2, h.t3, h.ap, Nat.le_trans h.top hg.size⟩
/-- Its own rows turned. -/
theorem VarPr.turned {ys : List Nd} {by' oy : List ByteArray} {wa wb : World} (h : VarPr w b lo hi v vb vo i xs m bx ox) (ga : w.grownBy wa v.ownBlock) (gb : wa.grownBy wb vb.ownBlock) (gc : wb.grownBy w' vo.ownBlock) (h1 : w'.ownsRow lo 119 5 v ys.length (ncs ys)) (h2 : w'.ownsRow lo 9 1 vb by'.length (stv by')) (h3 : w'.ownsRow lo 9 1 vo oy.length (stv oy)) : VarPr w' b lo hi v vb vo i ys m by' oy := by
  have l0 := h.lt
  have l1 := Nat.lt_of_lt_of_le l0 ga.size
  have l2 := Nat.lt_of_lt_of_le l1 gb.size
  refine ⟨((gc.block b l2 (fun e => own_ne h.o3 h.blk (by decide) e.symm)).trans ((gb.block b l1 (fun e => own_ne h.o2 h.blk (by decide) e.symm)).trans (ga.block b l0 (fun e => own_ne h.o1 h.blk (by decide) e.symm)))).trans h.blk, h1, h2, h3, h.t1, h.t2, h.t3, h.ap, Nat.le_trans h.top (Nat.le_trans ga.size (Nat.le_trans gb.size gc.size))⟩
theorem VarPr.frame {W0 wa wb : World} {B : Nat} (h0 : Below B W0 w) (h : VarPr w b lo hi v vb vo i xs m bx ox) (ga : w.grownBy wa v.ownBlock) (gb : wa.grownBy wb vb.ownBlock) (gc : wb.grownBy w' vo.ownBlock) (hlo : B ≤ lo) (hB : B ≤ w.heap.size) : Below B W0 w' :=
  ((h0.grown ga hB (fun k hk => Nat.le_trans hlo (h.o1.lt k hk).1)).grown gb (Nat.le_trans hB ga.size) (fun k hk => Nat.le_trans hlo (h.o2.lt k hk).1)).grown gc (Nat.le_trans hB (Nat.le_trans ga.size gb.size)) (fun k hk => Nat.le_trans hlo (h.o3.lt k hk).1)
/-- A block that is no row stays. -/
theorem VarPr.other {wa wb : World} {j : Nat} {c : Array Value} {t : TypeId} (h : VarPr w b lo hi v vb vo i xs m bx ox) (ga : w.grownBy wa v.ownBlock) (gb : wa.grownBy wb vb.ownBlock) (gc : wb.grownBy w' vo.ownBlock) (hj : w.heap[j]? = some (.cells c t (0, 0))) (h1 : t ≠ 119) (h2 : t ≠ 9) : w'.heap[j]? = some (.cells c t (0, 0)) := by
  have l0 := blk_lt hj
  have l1 := Nat.lt_of_lt_of_le l0 ga.size
  have l2 := Nat.lt_of_lt_of_le l1 gb.size
  exact ((gc.block j l2 (fun e => own_ne h.o3 hj h2 e.symm)).trans ((gb.block j l1 (fun e => own_ne h.o2 hj h2 e.symm)).trans (ga.block j l0 (fun e => own_ne h.o1 hj h1 e.symm)))).trans hj
/-- Where another's rows are turned. -/
theorem VarPr.kept3 {wa wb : World} {b' lo' hi' : Nat} {u ub uo : Value} {j : Int} {ys : List Nd} {m' : Mc} {by' oy : List ByteArray} (h : VarPr w b lo hi v vb vo i xs m bx ox) (h' : VarPr w b' lo' hi' u ub uo j ys m' by' oy) (ga : w.grownBy wa u.ownBlock) (gb : wa.grownBy wb ub.ownBlock) (gc : wb.grownBy w' uo.ownBlock) (hd : hi ≤ lo' ∨ hi' ≤ lo) : VarPr w' b lo hi v vb vo i xs m bx ox := by
  refine ((h.keptBy ga (fun k hk => ?_)).keptBy gb (fun k hk => ?_)).keptBy gc (fun k hk => ?_)
  · have k1 := (h'.o1.lt k hk).1
    have k2 := h'.t1 k hk
    exact ⟨fun e => own_ne h'.o1 h.blk (by decide) (e ▸ hk), by omega⟩
  · have k1 := (h'.o2.lt k hk).1
    have k2 := h'.t2 k hk
    exact ⟨fun e => own_ne h'.o2 h.blk (by decide) (e ▸ hk), by omega⟩
  · have k1 := (h'.o3.lt k hk).1
    have k2 := h'.t3 k hk
    exact ⟨fun e => own_ne h'.o3 h.blk (by decide) (e ▸ hk), by omega⟩
end

set_option maxRecDepth 100000 in
set_option maxHeartbeats 1600000 in
theorem markproc_any (v vb vo : Value) (k : Int) (base : Nat) (i : Int) (xs : List Nd) (m : Mc) (bx ox : List ByteArray) (w : World) (h1 : w.ownsRow base 119 5 v xs.length (ncs xs)) (h2 : w.ownsRow base 9 1 vb bx.length (stv bx)) (h3 : w.ownsRow base 9 1 vo ox.length (stv ox)) (ha : ∀ g, vo.ownBlock = some g → vb.ownBlock ≠ some g) (l1 : xs.length ≤ 4194304) (l2 : bx.length ≤ 4194304) (l3 : ox.length ≤ 4194304) (hk0 : 0 ≤ k) (hk : k ≤ 1152921504606846976) :
    Calls Tryz.prog 17 #[.agg #[.int .i64 i, v, .int .i64 m.p, .int .i64 m.s, .int .i64 m.e, .int .i64 m.d, .int .i64 m.t, .int .i64 m.q, .int .i64 m.r, vb, vo], .int .i64 k] w fun e w' => e = .returned (.int .i64 (k + 5 * xs.length + bx.length + ox.length)) ∧ ∃ wa wb, w.grownBy wa v.ownBlock ∧ wa.grownBy wb vb.ownBlock ∧ wb.grownBy w' vo.ownBlock ∧ w'.ownsRow base 119 5 v xs.length (ncs (nmarked k xs xs.length)) ∧ w'.ownsRow base 9 1 vb bx.length (stv (sm (k + 5 * xs.length) bx.length)) ∧ w'.ownsRow base 9 1 vo ox.length (stv (sm (k + 5 * xs.length + bx.length) ox.length)) := by
  obtain ⟨ao, cap, rfl⟩ := own_form h1
  obtain ⟨ab, cb, rfl⟩ := own_form h2
  obtain ⟨ac, cc, rfl⟩ := own_form h3
  have g0 := World.grownBy_alloc w (Obj.cells #[.int .i64 i, .slice ao xs.length cap, .int .i64 m.p, .int .i64 m.s, .int .i64 m.e, .int .i64 m.d, .int .i64 m.t, .int .i64 m.q, .int .i64 m.r, .slice ab bx.length cb, .slice ac ox.length cc] 48) (Value.slice ao xs.length cap).ownBlock
  have hx0 := heap_alloc_new w (Obj.cells #[.int .i64 i, .slice ao xs.length cap, .int .i64 m.p, .int .i64 m.s, .int .i64 m.e, .int .i64 m.d, .int .i64 m.t, .int .i64 m.q, .int .i64 m.r, .slice ab bx.length cb, .slice ac ox.length cc] 48)
  replace h1 := h1.alloc (Obj.cells #[.int .i64 i, .slice ao xs.length cap, .int .i64 m.p, .int .i64 m.s, .int .i64 m.e, .int .i64 m.d, .int .i64 m.t, .int .i64 m.q, .int .i64 m.r, .slice ab bx.length cb, .slice ac ox.length cc] 48)
  replace h2 := h2.alloc (Obj.cells #[.int .i64 i, .slice ao xs.length cap, .int .i64 m.p, .int .i64 m.s, .int .i64 m.e, .int .i64 m.d, .int .i64 m.t, .int .i64 m.q, .int .i64 m.r, .slice ab bx.length cb, .slice ac ox.length cc] 48)
  replace h3 := h3.alloc (Obj.cells #[.int .i64 i, .slice ao xs.length cap, .int .i64 m.p, .int .i64 m.s, .int .i64 m.e, .int .i64 m.d, .int .i64 m.t, .int .i64 m.q, .int .i64 m.r, .slice ab bx.length cb, .slice ac ox.length cc] 48)
  go_enter Tryz.func17, Tryz.ntmps17
  go_wp2_with (refine wpList_load_sub rfl 46 _ rfl w.heap.size 1 rfl _ 48 #[.slice ao xs.length cap, .int .i64 m.p, .int .i64 m.s, .int .i64 m.e, .int .i64 m.d, .int .i64 m.t, .int .i64 m.q, .int .i64 m.r] _ hx0 rfl Tryz.underlying46 rfl Tryz.sizeMach ?_)
  refine (markmach_any _ k base xs m _ h1 l1 hk0 (by omega)).mono ?_
  rintro e w1 ⟨rfl, p1, ga⟩
  have p2 := h2.kept ga (own_kinds h2 h1 (by decide))
  have p3 := h3.kept ga (own_kinds h3 h1 (by decide))
  have hx1 := (ga.block _ (blk_lt hx0) (fun e => own_ne h1 hx0 (by decide) e.symm)).trans hx0
  have GA := g0.trans ga
  clear g0 ga hx0 h1 h2 h3
  have k9 : w1.cell? ⟨w.heap.size, 0 + 9, none⟩ = some (.slice ab bx.length cb) := cell_of_row w1 _ 9 _ _ _ hx1
  go_wp2_with fail
  refine (markstrs_own _ (k + 5 * xs.length) base bx _ p2 l2 (by omega) (by omega)).mono ?_
  rintro e w2 ⟨rfl, r2, gb⟩
  have r1 := p1.kept gb (own_kinds p1 p2 (by decide))
  have r3 := p3.kept gb (by
    cases hv : (Value.slice ac ox.length cc).ownBlock with
    | none => exact Or.inl rfl
    | some g => exact Or.inr (fun e => ha g hv e.symm))
  have hx2 := (gb.block _ (blk_lt hx1) (fun e => own_ne p2 hx1 (by decide) e.symm)).trans hx1
  clear hx1 p1 p2 p3 k9
  have k10 : w2.cell? ⟨w.heap.size, 0 + 10, none⟩ = some (.slice ac ox.length cc) := cell_of_row w2 _ 10 _ _ _ hx2
  go_wp2_with fail
  refine (markstrs_own _ (k + 5 * xs.length + bx.length) base ox _ r3 l3 (by omega) (by omega)).mono ?_
  rintro e w3 ⟨rfl, s3, gc⟩
  have s1 := r1.kept gc (own_kinds r1 r3 (by decide))
  have s2 := r2.kept gc (by
    cases hv : (Value.slice ab bx.length cb).ownBlock with
    | none => exact Or.inl rfl
    | some g => exact Or.inr (fun e => ha g e.symm hv))
  clear hx2 r1 r2 r3 k10
  go_wp2
  go_ret
  exact ⟨rfl, w1, w2, GA, gb, gc, s1, s2, s3⟩

set_option maxRecDepth 100000 in
set_option maxHeartbeats 1600000 in
theorem heldproc_any (v vb vo : Value) (k : Int) (i : Int) (xs : List Nd) (m : Mc) (nb no : Nat) (w : World) (R : NRow w v (nmarked k xs xs.length)) (Rb : StRow w vb (sm (k + 5 * xs.length) nb)) (Ro : StRow w vo (sm (k + 5 * xs.length + nb) no)) (l1 : xs.length ≤ 4194304) (l2 : nb ≤ 4194304) (l3 : no ≤ 4194304) (hk0 : 0 ≤ k) (hk : k ≤ 1152921504606846976) :
    Calls Tryz.prog 18 #[.agg #[.int .i64 i, v, .int .i64 m.p, .int .i64 m.s, .int .i64 m.e, .int .i64 m.d, .int .i64 m.t, .int .i64 m.q, .int .i64 m.r, vb, vo], .int .i64 k] w fun e w' => e = .returned (.int .i64 (k + 5 * xs.length + nb + no)) ∧ Below w.heap.size w w' := by
  obtain ⟨ao, cap, e0⟩ : ∃ ao cap, v = .slice ao xs.length cap := by
    obtain ⟨ao, cap, rfl, _⟩ := R
    rw [nmarked_length _ _ _ (Nat.le_refl _)]
    exact ⟨ao, cap, rfl⟩
  obtain ⟨ab, cb, e1⟩ := Rb.small
  obtain ⟨ac, cc, e2⟩ := Ro.small
  rw [sm_length] at e1 e2
  subst e0 e1 e2
  have hB0 : Below w.heap.size w (w.alloc (Obj.cells #[.int .i64 i, .slice ao xs.length cap, .int .i64 m.p, .int .i64 m.s, .int .i64 m.e, .int .i64 m.d, .int .i64 m.t, .int .i64 m.q, .int .i64 m.r, .slice ab nb cb, .slice ac no cc] 48)) := (Below.refl _ _).alloc (Nat.le_refl _) _
  have hx0 := heap_alloc_new w (Obj.cells #[.int .i64 i, .slice ao xs.length cap, .int .i64 m.p, .int .i64 m.s, .int .i64 m.e, .int .i64 m.d, .int .i64 m.t, .int .i64 m.q, .int .i64 m.r, .slice ab nb cb, .slice ac no cc] 48)
  go_enter Tryz.func18, Tryz.ntmps18
  go_wp2_with (refine wpList_load_sub rfl 46 _ rfl w.heap.size 1 rfl _ 48 #[.slice ao xs.length cap, .int .i64 m.p, .int .i64 m.s, .int .i64 m.e, .int .i64 m.d, .int .i64 m.t, .int .i64 m.q, .int .i64 m.r] _ hx0 rfl Tryz.underlying46 rfl Tryz.sizeMach ?_)
  refine (heldmach_any _ k xs m _ (R.below hB0) l1 hk0 (by omega)).mono ?_
  rintro e w1 ⟨rfl, hb1⟩
  have hx1 := blk_bel hx0 hb1
  have hB1 := hB0.trans (hb1.mono hB0.size)
  clear hB0 hx0 hb1
  have p1 : ¬ (k + 5 * (xs.length : Int)) < 0 := by omega
  have k9 : w1.cell? ⟨w.heap.size, 0 + 9, none⟩ = some (.slice ab nb cb) := cell_of_row w1 _ 9 _ _ _ hx1
  go_wp2_with fail
  refine (heldstrs_any _ (k + 5 * xs.length) nb _ (Rb.below hB1) l2 (by omega) (by omega)).mono ?_
  rintro e w2 ⟨rfl, hb2⟩
  have hx2 := blk_bel hx1 hb2
  have hB2 := hB1.trans (hb2.mono hB1.size)
  clear hB1 hx1 hb2 k9
  have p2 : ¬ (k + 5 * (xs.length : Int) + (nb : Int)) < 0 := by omega
  have k10 : w2.cell? ⟨w.heap.size, 0 + 10, none⟩ = some (.slice ac no cc) := cell_of_row w2 _ 10 _ _ _ hx2
  go_wp2_with fail
  refine (heldstrs_any _ (k + 5 * xs.length + nb) no _ (Ro.below hB2) l3 (by omega) (by omega)).mono ?_
  rintro e w3 ⟨rfl, hb3⟩
  have hB3 := hB2.trans (hb3.mono hB2.size)
  clear hB2 hx2 hb3 k10
  have p3 : ¬ (k + 5 * (xs.length : Int) + (nb : Int) + (no : Int)) < 0 := by omega
  go_wp2
  go_ret
  exact ⟨rfl, hB3⟩
end Go.Proofs.YtdkkpopnoeapdaaGreatDoor

/-
  A process in memory of its own: impl's copied. No condition but bounds.
-/
namespace Go.Proofs.YtdkkpopnoeapdaaGreatDoor
open Go.RowKit

set_option maxRecDepth 100000 in
set_option maxHeartbeats 6400000 in
theorem pcopied_r2 {w0 : Nat} {t0 t2 t3 t4 t5 t6 t7 t8 t9 t10 t11 t12 t13 t14 t15 t16 t17 : Value} {fs : List Deferred} (b1x : Nat) (a9 ab ac : Option Addr) (q9 cb cc : Nat) (i : Int) (xs : List Nd) (m : Mc) (bx ox : List ByteArray) (w : World) (Q : Exit → Act → World → Prop)
    (hx : w.heap[b1x]? = some (.cells #[.int .i64 i, .slice a9 xs.length q9, .int .i64 m.p, .int .i64 m.s, .int .i64 m.e, .int .i64 m.d, .int .i64 m.t, .int .i64 m.q, .int .i64 m.r, .slice ab bx.length cb, .slice ac ox.length cc] 48 (0, 0))) (O : w.ownsRow w0 119 5 (.slice a9 xs.length q9) xs.length (ncs xs)) (Rb : StRow w (.slice ab bx.length cb) bx) (Ro : StRow w (.slice ac ox.length cc) ox) (l5 : bx.length ≤ 2097152) (l6 : ox.length ≤ 2097152)
    (hQ : ∀ u9 u10 u11 u12 u13 u14 u15 u16 (p2 p5 : Option Addr) (r2 r5 : Nat) (W : World), Below b1x w W → (∀ k, k < w.heap.size → k ≠ b1x → W.heap[k]? = w.heap[k]?) → W.heap[b1x]? = some (.cells #[.int .i64 i, .slice a9 xs.length q9, .int .i64 m.p, .int .i64 m.s, .int .i64 m.e, .int .i64 m.d, .int .i64 m.t, .int .i64 m.q, .int .i64 m.r, .slice p2 bx.length r2, .slice p5 ox.length r5] 48 (0, 0)) → W.ownsRow w0 119 5 (.slice a9 xs.length q9) xs.length (ncs xs) → W.ownsRow w.heap.size 9 1 (.slice p2 bx.length r2) bx.length (stv bx) → W.ownsRow w.heap.size 9 1 (.slice p5 ox.length r5) ox.length (stv ox) → (∀ g, (Value.slice p2 bx.length r2).ownBlock = some g → (Value.slice p5 ox.length r5).ownBlock = some g → False) → Q .normal ⟨#[t0, .pointer (some ⟨b1x, 0, none⟩), t2, t3, t4, t5, t6, t7, t8, u9, u10, u11, u12, u13, u14, u15, u16, t17], fs⟩ W) :
    (Code.region 2 (List.toArray (({ dst := some 9, op := Op.fieldAddr 48 (Operand.tmp 1) 2, type := 0, pos := "l12_proc.go:142", after := #[], guard := none } : Oper) :: ({ dst := some 10, op := Op.load 31 (Operand.tmp 9), type := 31, pos := "l12_proc.go:142", after := #[{ on := 0, ground := Ground.data }], guard := none } : Oper) :: ({ dst := some 11, op := Op.call { callee := Callee.value (Operand.func 80), args := #[Operand.tmp 10], argTypes := #[31] }, type := 31, pos := "l12_proc.go:142", after := #[{ on := 1, ground := Ground.data }], guard := none } : Oper) :: ({ dst := some 12, op := Op.fieldAddr 48 (Operand.tmp 1) 3, type := 0, pos := "l12_proc.go:142", after := #[], guard := none } : Oper) :: ({ dst := some 13, op := Op.load 31 (Operand.tmp 12), type := 31, pos := "l12_proc.go:142", after := #[{ on := 3, ground := Ground.data }], guard := none } : Oper) :: ({ dst := some 14, op := Op.call { callee := Callee.value (Operand.func 80), args := #[Operand.tmp 13], argTypes := #[31] }, type := 31, pos := "l12_proc.go:142", after := #[{ on := 4, ground := Ground.data }, { on := 2, ground := Ground.chain }], guard := none } : Oper) :: ({ dst := some 15, op := Op.fieldAddr 48 (Operand.tmp 1) 2, type := 0, pos := "l12_proc.go:142", after := #[{ on := 0, ground := Ground.phase }, { on := 1, ground := Ground.phase }, { on := 2, ground := Ground.phase }, { on := 3, ground := Ground.phase }, { on := 4, ground := Ground.phase }, { on := 5, ground := Ground.textOnly Departure.lateStoresUnsure }], guard := none } : Oper) :: ({ dst := none, op := Op.store 31 (Operand.tmp 15) (Operand.tmp 11), type := 0, pos := "l12_proc.go:142", after := #[{ on := 6, ground := Ground.data }, { on := 2, ground := Ground.data }, { on := 5, ground := Ground.chain }, { on := 0, ground := Ground.phase }, { on := 1, ground := Ground.phase }, { on := 2, ground := Ground.phase }, { on := 3, ground := Ground.phase }, { on := 4, ground := Ground.phase }, { on := 5, ground := Ground.textOnly Departure.lateStoresUnsure }], guard := none } : Oper) :: ({ dst := some 16, op := Op.fieldAddr 48 (Operand.tmp 1) 3, type := 0, pos := "l12_proc.go:142", after := #[{ on := 0, ground := Ground.phase }, { on := 1, ground := Ground.phase }, { on := 2, ground := Ground.phase }, { on := 3, ground := Ground.phase }, { on := 4, ground := Ground.phase }, { on := 5, ground := Ground.phase }, { on := 6, ground := Ground.phase }, { on := 7, ground := Ground.phase }], guard := none } : Oper) :: ({ dst := none, op := Op.store 31 (Operand.tmp 16) (Operand.tmp 14), type := 0, pos := "l12_proc.go:142", after := #[{ on := 8, ground := Ground.data }, { on := 5, ground := Ground.data }, { on := 7, ground := Ground.chain }, { on := 0, ground := Ground.phase }, { on := 1, ground := Ground.phase }, { on := 2, ground := Ground.phase }, { on := 3, ground := Ground.phase }, { on := 4, ground := Ground.phase }, { on := 5, ground := Ground.phase }, { on := 6, ground := Ground.phase }, { on := 7, ground := Ground.phase }], guard := none } : Oper) :: [])) true).wp Tryz.prog Q ⟨#[t0, .pointer (some ⟨b1x, 0, none⟩), t2, t3, t4, t5, t6, t7, t8, t9, t10, t11, t12, t13, t14, t15, t16, t17], fs⟩ w := by
  have lb := blk_lt hx
  have B : Below w.heap.size w w.drew := drew_bel w
  have X := blk_bel hx B
  have O1 := own_below O B
  have ST : ∀ k, k < w.heap.size → k ≠ b1x → w.drew.heap[k]? = w.heap[k]? := fun k hk _ => B.block k hk
  refine wp_region_noPanic ?_
  refine wp_region_held_drew (S := fun _ => True) (by kernel_rfl) trivial (fun hHeld => ?_)
  refine wpAnyH_take (i := 0) (oi := ({ dst := some 9, op := Op.fieldAddr 48 (Operand.tmp 1) 2, type := 0, pos := "l12_proc.go:142", after := #[], guard := none } : Oper)) (v := .pointer (some ⟨b1x, 9, none⟩)) rfl (by kernel_rfl) (by kernel_rfl) (by kernel_rfl) (fun _ _ _ h => h) (Or.inl ⟨by rfl, by intro w hSw; go_simp⟩) (by assumption) ?_
  simp only [Act.put, List.setIfInBounds_toArray, List.set_cons_zero, List.set_cons_succ]
  refine wpAnyH_take (i := 3) (oi := ({ dst := some 12, op := Op.fieldAddr 48 (Operand.tmp 1) 3, type := 0, pos := "l12_proc.go:142", after := #[], guard := none } : Oper)) (v := .pointer (some ⟨b1x, 10, none⟩)) rfl (by kernel_rfl) (by kernel_rfl) (by kernel_rfl) (fun _ _ _ h => h) (Or.inl ⟨by rfl, by intro w hSw; go_simp⟩) (by assumption) ?_
  simp only [Act.put, List.setIfInBounds_toArray, List.set_cons_zero, List.set_cons_succ]
  refine wpAnyH_ready (rs := [1, 4]) (by kernel_rfl) (by simp) ?_
  refine AllReadyH.cons rfl (fun K hK => ?_) (AllReadyH.cons rfl (fun K hK => ?_) AllReadyH.nil)
  · have kc : _ = some (Value.slice ab bx.length cb) := cell_of_row _ _ 9 _ _ _ X
    go_simp
    go_wp2_with fail
    clear kc
    refine hK.out _ _ trivial (fun hHeld => ?_)
    clear hK
    refine wpAnyH_ready (rs := [2, 4]) (by kernel_rfl) (by simp) ?_
    refine AllReadyH.cons rfl (fun K hK => ?_) (AllReadyH.cons rfl (fun K hK => ?_) AllReadyH.nil)
    · go_simp
      go_wp2_with (go_at_call 80; with_reducible refine (cptexts_any _ bx _ (Rb.below B) l5).mono ?_; rintro e z2 ⟨y2, rfl, U2, hb⟩)
      obtain ⟨p2, r2, rfl⟩ := own_form U2
      have h22 : ∀ g, (Value.slice p2 bx.length r2).ownBlock = some g → g < z2.heap.size := fun g hg => (U2.lt g hg).2
      have hs2 : z2.heap.size ≤ z2.heap.size := Nat.le_refl _
      obtain ⟨n2, hn2⟩ : ∃ n, n = z2.heap.size := ⟨_, rfl⟩
      rw [← hn2] at h22 hs2
      replace U2 := own_mono (B' := w.heap.size) U2 B.size
      replace O1 := own_below O1 hb
      replace X := blk_bel X hb
      replace ST := fun k hk hn => (hb.block k (Nat.lt_of_lt_of_le hk B.size)).trans (ST k hk hn)
      replace B := B.trans (hb.mono B.size)
      have hle2 : n2 ≤ z2.heap.size := by omega
      clear hn2 hs2
      clear hb
      refine hK.out _ _ trivial (fun hHeld => ?_)
      clear hK
      refine wpAnyH_ready (rs := [4]) (by kernel_rfl) (by simp) ?_
      refine AllReadyH.cons rfl (fun K hK => ?_) AllReadyH.nil
      have kc : _ = some (Value.slice ac ox.length cc) := cell_of_row _ _ 10 _ _ _ X
      go_simp
      go_wp2_with fail
      clear kc
      refine hK.out _ _ trivial (fun hHeld => ?_)
      clear hK
      refine wpAnyH_take (i := 6) (oi := ({ dst := some 15, op := Op.fieldAddr 48 (Operand.tmp 1) 2, type := 0, pos := "l12_proc.go:142", after := #[{ on := 0, ground := Ground.phase }, { on := 1, ground := Ground.phase }, { on := 2, ground := Ground.phase }, { on := 3, ground := Ground.phase }, { on := 4, ground := Ground.phase }, { on := 5, ground := Ground.textOnly Departure.lateStoresUnsure }], guard := none } : Oper)) (v := .pointer (some ⟨b1x, 9, none⟩)) rfl (by kernel_rfl) (by kernel_rfl) (by kernel_rfl) (fun _ _ _ h => h) (Or.inl ⟨by rfl, by intro w hSw; go_simp⟩) (by assumption) ?_
      simp only [Act.put, List.setIfInBounds_toArray, List.set_cons_zero, List.set_cons_succ]
      refine wpAnyH_ready (rs := [5]) (by kernel_rfl) (by simp) ?_
      refine AllReadyH.cons rfl (fun K hK => ?_) AllReadyH.nil
      go_simp
      go_wp2_with (go_at_call 80; with_reducible refine (cptexts_any _ ox _ (Ro.below B) l6).mono ?_; rintro e z4 ⟨y5, rfl, U5, hb⟩)
      obtain ⟨p5, r5, rfl⟩ := own_form U5
      have h25 : ∀ g, (Value.slice p5 ox.length r5).ownBlock = some g → n2 ≤ g := fun g hg => Nat.le_trans hle2 (U5.lt g hg).1
      replace U5 := own_mono (B' := w.heap.size) U5 B.size
      replace O1 := own_below O1 hb
      replace U2 := own_below U2 hb
      replace X := blk_bel X hb
      replace ST := fun k hk hn => (hb.block k (Nat.lt_of_lt_of_le hk B.size)).trans (ST k hk hn)
      replace B := B.trans (hb.mono B.size)
      clear hb
      refine hK.out _ _ trivial (fun hHeld => ?_)
      clear hK
      refine wpAnyH_ready (rs := [7]) (by kernel_rfl) (by simp) ?_
      refine AllReadyH.cons rfl (fun K hK => ?_) AllReadyH.nil
      have kc : _ = some (Value.slice ab bx.length cb) := cell_of_row _ _ 9 _ _ _ X
      have kf := frozen_of_row _ b1x 9 _ _ X
      have n1 := own_ne O1 X (by decide)
      have n2' := own_ne U2 X (by decide)
      have n3 := own_ne U5 X (by decide)
      go_simp
      go_wp2_with fail
      clear kc kf
      replace ST := fun k hk hn => (heap_setCell_other _ ⟨b1x, 9, none⟩ k (.slice p2 bx.length r2) hn).trans (ST k hk hn)
      replace B : Below b1x w _ := (B.mono (Nat.le_of_lt lb)).setCell (p := ⟨b1x, 9, none⟩) (Nat.le_refl _) (.slice p2 bx.length r2)
      replace O1 := ownsRow_setCell_other O1 (a := ⟨b1x, 9, none⟩) n1 (.slice p2 bx.length r2)
      replace U2 := ownsRow_setCell_other U2 (a := ⟨b1x, 9, none⟩) n2' (.slice p2 bx.length r2)
      replace U5 := ownsRow_setCell_other U5 (a := ⟨b1x, 9, none⟩) n3 (.slice p2 bx.length r2)
      replace X := heap_setCell_same _ b1x 9 _ _ (.slice p2 bx.length r2) X
      clear n1 n2' n3
      refine hK.out _ _ trivial (fun hHeld => ?_)
      clear hK
      refine wpAnyH_take (i := 8) (oi := ({ dst := some 16, op := Op.fieldAddr 48 (Operand.tmp 1) 3, type := 0, pos := "l12_proc.go:142", after := #[{ on := 0, ground := Ground.phase }, { on := 1, ground := Ground.phase }, { on := 2, ground := Ground.phase }, { on := 3, ground := Ground.phase }, { on := 4, ground := Ground.phase }, { on := 5, ground := Ground.phase }, { on := 6, ground := Ground.phase }, { on := 7, ground := Ground.phase }], guard := none } : Oper)) (v := .pointer (some ⟨b1x, 10, none⟩)) rfl (by kernel_rfl) (by kernel_rfl) (by kernel_rfl) (fun _ _ _ h => h) (Or.inl ⟨by rfl, by intro w hSw; go_simp⟩) (by assumption) ?_
      simp only [Act.put, List.setIfInBounds_toArray, List.set_cons_zero, List.set_cons_succ]
      refine wpAnyH_ready (rs := [9]) (by kernel_rfl) (by simp) ?_
      refine AllReadyH.cons rfl (fun K hK => ?_) AllReadyH.nil
      have kc : _ = some (Value.slice ac ox.length cc) := cell_of_row _ _ 10 _ _ _ X
      have kf := frozen_of_row _ b1x 10 _ _ X
      have n1 := own_ne O1 X (by decide)
      have n2' := own_ne U2 X (by decide)
      have n3 := own_ne U5 X (by decide)
      go_simp
      go_wp2_with fail
      clear kc kf
      replace ST := fun k hk hn => (heap_setCell_other _ ⟨b1x, 10, none⟩ k (.slice p5 ox.length r5) hn).trans (ST k hk hn)
      replace B : Below b1x w _ := B.setCell (p := ⟨b1x, 10, none⟩) (Nat.le_refl _) (.slice p5 ox.length r5)
      replace O1 := ownsRow_setCell_other O1 (a := ⟨b1x, 10, none⟩) n1 (.slice p5 ox.length r5)
      replace U2 := ownsRow_setCell_other U2 (a := ⟨b1x, 10, none⟩) n2' (.slice p5 ox.length r5)
      replace U5 := ownsRow_setCell_other U5 (a := ⟨b1x, 10, none⟩) n3 (.slice p5 ox.length r5)
      replace X := heap_setCell_same _ b1x 10 _ _ (.slice p5 ox.length r5) X
      clear n1 n2' n3
      refine hK.out _ _ trivial (fun hHeld => ?_)
      clear hK
      refine wpAnyH_done (by kernel_rfl) ?_ _
      exact NoPanic.normal (hQ _ _ _ _ _ _ _ _ _ _ _ _ _ B ST X O1 U2 U5 (fun g h2 h5 => by have k1 := h25 g h5; have k2 := h22 g h2; omega))
    · have kc : _ = some (Value.slice ac ox.length cc) := cell_of_row _ _ 10 _ _ _ X
      go_simp
      go_wp2_with fail
      clear kc
      refine hK.out _ _ trivial (fun hHeld => ?_)
      clear hK
      refine wpAnyH_ready (rs := [2]) (by kernel_rfl) (by simp) ?_
      refine AllReadyH.cons rfl (fun K hK => ?_) AllReadyH.nil
      go_simp
      go_wp2_with (go_at_call 80; with_reducible refine (cptexts_any _ bx _ (Rb.below B) l5).mono ?_; rintro e z8 ⟨y2, rfl, U2, hb⟩)
      obtain ⟨p2, r2, rfl⟩ := own_form U2
      have h22 : ∀ g, (Value.slice p2 bx.length r2).ownBlock = some g → g < z8.heap.size := fun g hg => (U2.lt g hg).2
      have hs2 : z8.heap.size ≤ z8.heap.size := Nat.le_refl _
      obtain ⟨n2, hn2⟩ : ∃ n, n = z8.heap.size := ⟨_, rfl⟩
      rw [← hn2] at h22 hs2
      replace U2 := own_mono (B' := w.heap.size) U2 B.size
      replace O1 := own_below O1 hb
      replace X := blk_bel X hb
      replace ST := fun k hk hn => (hb.block k (Nat.lt_of_lt_of_le hk B.size)).trans (ST k hk hn)
      replace B := B.trans (hb.mono B.size)
      have hle2 : n2 ≤ z8.heap.size := by omega
      clear hn2 hs2
      clear hb
      refine hK.out _ _ trivial (fun hHeld => ?_)
      clear hK
      refine wpAnyH_take (i := 6) (oi := ({ dst := some 15, op := Op.fieldAddr 48 (Operand.tmp 1) 2, type := 0, pos := "l12_proc.go:142", after := #[{ on := 0, ground := Ground.phase }, { on := 1, ground := Ground.phase }, { on := 2, ground := Ground.phase }, { on := 3, ground := Ground.phase }, { on := 4, ground := Ground.phase }, { on := 5, ground := Ground.textOnly Departure.lateStoresUnsure }], guard := none } : Oper)) (v := .pointer (some ⟨b1x, 9, none⟩)) rfl (by kernel_rfl) (by kernel_rfl) (by kernel_rfl) (fun _ _ _ h => h) (Or.inl ⟨by rfl, by intro w hSw; go_simp⟩) (by assumption) ?_
      simp only [Act.put, List.setIfInBounds_toArray, List.set_cons_zero, List.set_cons_succ]
      refine wpAnyH_ready (rs := [5]) (by kernel_rfl) (by simp) ?_
      refine AllReadyH.cons rfl (fun K hK => ?_) AllReadyH.nil
      go_simp
      go_wp2_with (go_at_call 80; with_reducible refine (cptexts_any _ ox _ (Ro.below B) l6).mono ?_; rintro e z9 ⟨y5, rfl, U5, hb⟩)
      obtain ⟨p5, r5, rfl⟩ := own_form U5
      have h25 : ∀ g, (Value.slice p5 ox.length r5).ownBlock = some g → n2 ≤ g := fun g hg => Nat.le_trans hle2 (U5.lt g hg).1
      replace U5 := own_mono (B' := w.heap.size) U5 B.size
      replace O1 := own_below O1 hb
      replace U2 := own_below U2 hb
      replace X := blk_bel X hb
      replace ST := fun k hk hn => (hb.block k (Nat.lt_of_lt_of_le hk B.size)).trans (ST k hk hn)
      replace B := B.trans (hb.mono B.size)
      clear hb
      refine hK.out _ _ trivial (fun hHeld => ?_)
      clear hK
      refine wpAnyH_ready (rs := [7]) (by kernel_rfl) (by simp) ?_
      refine AllReadyH.cons rfl (fun K hK => ?_) AllReadyH.nil
      have kc : _ = some (Value.slice ab bx.length cb) := cell_of_row _ _ 9 _ _ _ X
      have kf := frozen_of_row _ b1x 9 _ _ X
      have n1 := own_ne O1 X (by decide)
      have n2' := own_ne U2 X (by decide)
      have n3 := own_ne U5 X (by decide)
      go_simp
      go_wp2_with fail
      clear kc kf
      replace ST := fun k hk hn => (heap_setCell_other _ ⟨b1x, 9, none⟩ k (.slice p2 bx.length r2) hn).trans (ST k hk hn)
      replace B : Below b1x w _ := (B.mono (Nat.le_of_lt lb)).setCell (p := ⟨b1x, 9, none⟩) (Nat.le_refl _) (.slice p2 bx.length r2)
      replace O1 := ownsRow_setCell_other O1 (a := ⟨b1x, 9, none⟩) n1 (.slice p2 bx.length r2)
      replace U2 := ownsRow_setCell_other U2 (a := ⟨b1x, 9, none⟩) n2' (.slice p2 bx.length r2)
      replace U5 := ownsRow_setCell_other U5 (a := ⟨b1x, 9, none⟩) n3 (.slice p2 bx.length r2)
      replace X := heap_setCell_same _ b1x 9 _ _ (.slice p2 bx.length r2) X
      clear n1 n2' n3
      refine hK.out _ _ trivial (fun hHeld => ?_)
      clear hK
      refine wpAnyH_take (i := 8) (oi := ({ dst := some 16, op := Op.fieldAddr 48 (Operand.tmp 1) 3, type := 0, pos := "l12_proc.go:142", after := #[{ on := 0, ground := Ground.phase }, { on := 1, ground := Ground.phase }, { on := 2, ground := Ground.phase }, { on := 3, ground := Ground.phase }, { on := 4, ground := Ground.phase }, { on := 5, ground := Ground.phase }, { on := 6, ground := Ground.phase }, { on := 7, ground := Ground.phase }], guard := none } : Oper)) (v := .pointer (some ⟨b1x, 10, none⟩)) rfl (by kernel_rfl) (by kernel_rfl) (by kernel_rfl) (fun _ _ _ h => h) (Or.inl ⟨by rfl, by intro w hSw; go_simp⟩) (by assumption) ?_
      simp only [Act.put, List.setIfInBounds_toArray, List.set_cons_zero, List.set_cons_succ]
      refine wpAnyH_ready (rs := [9]) (by kernel_rfl) (by simp) ?_
      refine AllReadyH.cons rfl (fun K hK => ?_) AllReadyH.nil
      have kc : _ = some (Value.slice ac ox.length cc) := cell_of_row _ _ 10 _ _ _ X
      have kf := frozen_of_row _ b1x 10 _ _ X
      have n1 := own_ne O1 X (by decide)
      have n2' := own_ne U2 X (by decide)
      have n3 := own_ne U5 X (by decide)
      go_simp
      go_wp2_with fail
      clear kc kf
      replace ST := fun k hk hn => (heap_setCell_other _ ⟨b1x, 10, none⟩ k (.slice p5 ox.length r5) hn).trans (ST k hk hn)
      replace B : Below b1x w _ := B.setCell (p := ⟨b1x, 10, none⟩) (Nat.le_refl _) (.slice p5 ox.length r5)
      replace O1 := ownsRow_setCell_other O1 (a := ⟨b1x, 10, none⟩) n1 (.slice p5 ox.length r5)
      replace U2 := ownsRow_setCell_other U2 (a := ⟨b1x, 10, none⟩) n2' (.slice p5 ox.length r5)
      replace U5 := ownsRow_setCell_other U5 (a := ⟨b1x, 10, none⟩) n3 (.slice p5 ox.length r5)
      replace X := heap_setCell_same _ b1x 10 _ _ (.slice p5 ox.length r5) X
      clear n1 n2' n3
      refine hK.out _ _ trivial (fun hHeld => ?_)
      clear hK
      refine wpAnyH_done (by kernel_rfl) ?_ _
      exact NoPanic.normal (hQ _ _ _ _ _ _ _ _ _ _ _ _ _ B ST X O1 U2 U5 (fun g h2 h5 => by have k1 := h25 g h5; have k2 := h22 g h2; omega))
  · have kc : _ = some (Value.slice ac ox.length cc) := cell_of_row _ _ 10 _ _ _ X
    go_simp
    go_wp2_with fail
    clear kc
    refine hK.out _ _ trivial (fun hHeld => ?_)
    clear hK
    refine wpAnyH_ready (rs := [1]) (by kernel_rfl) (by simp) ?_
    refine AllReadyH.cons rfl (fun K hK => ?_) AllReadyH.nil
    have kc : _ = some (Value.slice ab bx.length cb) := cell_of_row _ _ 9 _ _ _ X
    go_simp
    go_wp2_with fail
    clear kc
    refine hK.out _ _ trivial (fun hHeld => ?_)
    clear hK
    refine wpAnyH_ready (rs := [2]) (by kernel_rfl) (by simp) ?_
    refine AllReadyH.cons rfl (fun K hK => ?_) AllReadyH.nil
    go_simp
    go_wp2_with (go_at_call 80; with_reducible refine (cptexts_any _ bx _ (Rb.below B) l5).mono ?_; rintro e z14 ⟨y2, rfl, U2, hb⟩)
    obtain ⟨p2, r2, rfl⟩ := own_form U2
    have h22 : ∀ g, (Value.slice p2 bx.length r2).ownBlock = some g → g < z14.heap.size := fun g hg => (U2.lt g hg).2
    have hs2 : z14.heap.size ≤ z14.heap.size := Nat.le_refl _
    obtain ⟨n2, hn2⟩ : ∃ n, n = z14.heap.size := ⟨_, rfl⟩
    rw [← hn2] at h22 hs2
    replace U2 := own_mono (B' := w.heap.size) U2 B.size
    replace O1 := own_below O1 hb
    replace X := blk_bel X hb
    replace ST := fun k hk hn => (hb.block k (Nat.lt_of_lt_of_le hk B.size)).trans (ST k hk hn)
    replace B := B.trans (hb.mono B.size)
    have hle2 : n2 ≤ z14.heap.size := by omega
    clear hn2 hs2
    clear hb
    refine hK.out _ _ trivial (fun hHeld => ?_)
    clear hK
    refine wpAnyH_take (i := 6) (oi := ({ dst := some 15, op := Op.fieldAddr 48 (Operand.tmp 1) 2, type := 0, pos := "l12_proc.go:142", after := #[{ on := 0, ground := Ground.phase }, { on := 1, ground := Ground.phase }, { on := 2, ground := Ground.phase }, { on := 3, ground := Ground.phase }, { on := 4, ground := Ground.phase }, { on := 5, ground := Ground.textOnly Departure.lateStoresUnsure }], guard := none } : Oper)) (v := .pointer (some ⟨b1x, 9, none⟩)) rfl (by kernel_rfl) (by kernel_rfl) (by kernel_rfl) (fun _ _ _ h => h) (Or.inl ⟨by rfl, by intro w hSw; go_simp⟩) (by assumption) ?_
    simp only [Act.put, List.setIfInBounds_toArray, List.set_cons_zero, List.set_cons_succ]
    refine wpAnyH_ready (rs := [5]) (by kernel_rfl) (by simp) ?_
    refine AllReadyH.cons rfl (fun K hK => ?_) AllReadyH.nil
    go_simp
    go_wp2_with (go_at_call 80; with_reducible refine (cptexts_any _ ox _ (Ro.below B) l6).mono ?_; rintro e z15 ⟨y5, rfl, U5, hb⟩)
    obtain ⟨p5, r5, rfl⟩ := own_form U5
    have h25 : ∀ g, (Value.slice p5 ox.length r5).ownBlock = some g → n2 ≤ g := fun g hg => Nat.le_trans hle2 (U5.lt g hg).1
    replace U5 := own_mono (B' := w.heap.size) U5 B.size
    replace O1 := own_below O1 hb
    replace U2 := own_below U2 hb
    replace X := blk_bel X hb
    replace ST := fun k hk hn => (hb.block k (Nat.lt_of_lt_of_le hk B.size)).trans (ST k hk hn)
    replace B := B.trans (hb.mono B.size)
    clear hb
    refine hK.out _ _ trivial (fun hHeld => ?_)
    clear hK
    refine wpAnyH_ready (rs := [7]) (by kernel_rfl) (by simp) ?_
    refine AllReadyH.cons rfl (fun K hK => ?_) AllReadyH.nil
    have kc : _ = some (Value.slice ab bx.length cb) := cell_of_row _ _ 9 _ _ _ X
    have kf := frozen_of_row _ b1x 9 _ _ X
    have n1 := own_ne O1 X (by decide)
    have n2' := own_ne U2 X (by decide)
    have n3 := own_ne U5 X (by decide)
    go_simp
    go_wp2_with fail
    clear kc kf
    replace ST := fun k hk hn => (heap_setCell_other _ ⟨b1x, 9, none⟩ k (.slice p2 bx.length r2) hn).trans (ST k hk hn)
    replace B : Below b1x w _ := (B.mono (Nat.le_of_lt lb)).setCell (p := ⟨b1x, 9, none⟩) (Nat.le_refl _) (.slice p2 bx.length r2)
    replace O1 := ownsRow_setCell_other O1 (a := ⟨b1x, 9, none⟩) n1 (.slice p2 bx.length r2)
    replace U2 := ownsRow_setCell_other U2 (a := ⟨b1x, 9, none⟩) n2' (.slice p2 bx.length r2)
    replace U5 := ownsRow_setCell_other U5 (a := ⟨b1x, 9, none⟩) n3 (.slice p2 bx.length r2)
    replace X := heap_setCell_same _ b1x 9 _ _ (.slice p2 bx.length r2) X
    clear n1 n2' n3
    refine hK.out _ _ trivial (fun hHeld => ?_)
    clear hK
    refine wpAnyH_take (i := 8) (oi := ({ dst := some 16, op := Op.fieldAddr 48 (Operand.tmp 1) 3, type := 0, pos := "l12_proc.go:142", after := #[{ on := 0, ground := Ground.phase }, { on := 1, ground := Ground.phase }, { on := 2, ground := Ground.phase }, { on := 3, ground := Ground.phase }, { on := 4, ground := Ground.phase }, { on := 5, ground := Ground.phase }, { on := 6, ground := Ground.phase }, { on := 7, ground := Ground.phase }], guard := none } : Oper)) (v := .pointer (some ⟨b1x, 10, none⟩)) rfl (by kernel_rfl) (by kernel_rfl) (by kernel_rfl) (fun _ _ _ h => h) (Or.inl ⟨by rfl, by intro w hSw; go_simp⟩) (by assumption) ?_
    simp only [Act.put, List.setIfInBounds_toArray, List.set_cons_zero, List.set_cons_succ]
    refine wpAnyH_ready (rs := [9]) (by kernel_rfl) (by simp) ?_
    refine AllReadyH.cons rfl (fun K hK => ?_) AllReadyH.nil
    have kc : _ = some (Value.slice ac ox.length cc) := cell_of_row _ _ 10 _ _ _ X
    have kf := frozen_of_row _ b1x 10 _ _ X
    have n1 := own_ne O1 X (by decide)
    have n2' := own_ne U2 X (by decide)
    have n3 := own_ne U5 X (by decide)
    go_simp
    go_wp2_with fail
    clear kc kf
    replace ST := fun k hk hn => (heap_setCell_other _ ⟨b1x, 10, none⟩ k (.slice p5 ox.length r5) hn).trans (ST k hk hn)
    replace B : Below b1x w _ := B.setCell (p := ⟨b1x, 10, none⟩) (Nat.le_refl _) (.slice p5 ox.length r5)
    replace O1 := ownsRow_setCell_other O1 (a := ⟨b1x, 10, none⟩) n1 (.slice p5 ox.length r5)
    replace U2 := ownsRow_setCell_other U2 (a := ⟨b1x, 10, none⟩) n2' (.slice p5 ox.length r5)
    replace U5 := ownsRow_setCell_other U5 (a := ⟨b1x, 10, none⟩) n3 (.slice p5 ox.length r5)
    replace X := heap_setCell_same _ b1x 10 _ _ (.slice p5 ox.length r5) X
    clear n1 n2' n3
    refine hK.out _ _ trivial (fun hHeld => ?_)
    clear hK
    refine wpAnyH_done (by kernel_rfl) ?_ _
    exact NoPanic.normal (hQ _ _ _ _ _ _ _ _ _ _ _ _ _ B ST X O1 U2 U5 (fun g h2 h5 => by have k1 := h25 g h5; have k2 := h22 g h2; omega))

set_option maxRecDepth 100000 in
set_option maxHeartbeats 6400000 in
theorem pcopied_any (v vb vo : Value) (i : Int) (xs : List Nd) (m : Mc) (bx ox : List ByteArray) (w : World) (R : NRow w v xs) (Rb : StRow w vb bx) (Ro : StRow w vo ox) (l4 : xs.length ≤ 2097152) (l5 : bx.length ≤ 2097152) (l6 : ox.length ≤ 2097152) :
    Calls Tryz.prog 53 #[.agg #[.int .i64 i, v, .int .i64 m.p, .int .i64 m.s, .int .i64 m.e, .int .i64 m.d, .int .i64 m.t, .int .i64 m.q, .int .i64 m.r, vb, vo]] w fun e w' => ∃ v1 v2 v3, e = .returned (.agg #[.int .i64 i, v1, .int .i64 m.p, .int .i64 m.s, .int .i64 m.e, .int .i64 m.d, .int .i64 m.t, .int .i64 m.q, .int .i64 m.r, v2, v3]) ∧ w'.ownsRow w.heap.size 119 5 v1 xs.length (ncs xs) ∧ w'.ownsRow w.heap.size 9 1 v2 bx.length (stv bx) ∧ w'.ownsRow w.heap.size 9 1 v3 ox.length (stv ox) ∧ (∀ g, v3.ownBlock = some g → v2.ownBlock ≠ some g) ∧ Below w.heap.size w w' := by
  obtain ⟨ao, cap, rfl⟩ : ∃ ao cap, v = .slice ao xs.length cap := by obtain ⟨ao, cap, rfl, _⟩ := R; exact ⟨ao, cap, rfl⟩
  obtain ⟨ab, cb, rfl⟩ := Rb.small
  obtain ⟨ac, cc, rfl⟩ := Ro.small
  obtain ⟨hB0, hx0, hy0⟩ := two_boxes w (Obj.cells #[.int .i64 i, .slice ao xs.length cap, .int .i64 m.p, .int .i64 m.s, .int .i64 m.e, .int .i64 m.d, .int .i64 m.t, .int .i64 m.q, .int .i64 m.r, .slice ab bx.length cb, .slice ac ox.length cc] 48) (Obj.cells #[.int .i64 0, .slice none 0 0, .int .i64 0, .int .i64 0, .int .i64 0, .int .i64 0, .int .i64 0, .int .i64 0, .int .i64 0, .slice none 0 0, .slice none 0 0] 48)
  go_enter Tryz.func53, Tryz.ntmps53
  go_wp2_with fail
  have NN : NRow ((w.alloc (Obj.cells #[.int .i64 i, .slice ao xs.length cap, .int .i64 m.p, .int .i64 m.s, .int .i64 m.e, .int .i64 m.d, .int .i64 m.t, .int .i64 m.q, .int .i64 m.r, .slice ab bx.length cb, .slice ac ox.length cc] 48)).alloc (Obj.cells #[.int .i64 0, .slice none 0 0, .int .i64 0, .int .i64 0, .int .i64 0, .int .i64 0, .int .i64 0, .int .i64 0, .int .i64 0, .slice none 0 0, .slice none 0 0] 48)) (.slice none 0 0) [] := NRow.of_own (base := 0) ⟨by simp [ncs], Or.inl ⟨rfl, rfl⟩⟩ (by simp) (by simp)
  refine (with_any _ _ xs [] _ (R.below hB0) NN (by simp; omega)).mono ?_
  rintro e w1 ⟨v1, rfl, ho1, hb1⟩
  rw [List.append_nil] at ho1
  obtain ⟨a9, q9, rfl⟩ := own_form ho1
  replace ho1 := own_mono (B' := w.heap.size + 2) ho1 (by simp)
  have hB1 := hB0.trans (hb1.mono hB0.size)
  have hx1 := blk_bel hx0 hb1
  have hy1 := blk_bel hy0 hb1
  have l1 := blk_lt hy1
  clear hB0 hx0 hy0 hb1 NN
  go_wp2_with (refine wpList_store_at rfl 39 _ _ rfl w.heap.size 1 (.agg #[.slice a9 xs.length q9]) #[.slice a9 xs.length q9] rfl rfl rfl rfl 48 #[.int .i64 i, .slice ao xs.length cap, .int .i64 m.p, .int .i64 m.s, .int .i64 m.e, .int .i64 m.d, .int .i64 m.t, .int .i64 m.q, .int .i64 m.r, .slice ab bx.length cb, .slice ac ox.length cc] #[.int .i64 i, .slice a9 xs.length q9, .int .i64 m.p, .int .i64 m.s, .int .i64 m.e, .int .i64 m.d, .int .i64 m.t, .int .i64 m.q, .int .i64 m.r, .slice ab bx.length cb, .slice ac ox.length cc] hx1 (by simp) (by kernel_rfl) rfl ?_)
  intro w2 hx2 hb2 hs2 hk2
  have ho2 := own_keep ho1 (by omega) hk2
  have hy2 := (hk2 _ (by omega)).trans hy1
  have hB2 := hB1.trans hb2
  have hl2 : w.heap.size + 2 ≤ w2.heap.size := by have := blk_lt hy2; omega
  clear hb2 hs2 hk2 ho1 hx1 hy1 hB1
  go_wp2_with fail
  refine pcopied_r2 w.heap.size a9 ab ac q9 cb cc i xs m bx ox _ _ hx2 ho2 (Rb.below hB2) (Ro.below hB2) l5 l6 ?_
  intro _ _ _ _ _ _ _ _ p2 p5 r2 r5 W hb hst h3 O1 U2 U5 hap
  have hB3 := hB2.trans hb
  have hy3 : W.heap[w.heap.size + 1]? = some (.cells #[.int .i64 0, .slice none 0 0, .int .i64 0, .int .i64 0, .int .i64 0, .int .i64 0, .int .i64 0, .int .i64 0, .int .i64 0, .slice none 0 0, .slice none 0 0] 48 (0, 0)) := (hst _ (by omega) (by omega)).trans hy2
  go_wp2_with (first
    | (refine wpList_load_row rfl 48 _ rfl w.heap.size rfl 48 #[.int .i64 i, .slice a9 xs.length q9, .int .i64 m.p, .int .i64 m.s, .int .i64 m.e, .int .i64 m.d, .int .i64 m.t, .int .i64 m.q, .int .i64 m.r, .slice p2 bx.length r2, .slice p5 ox.length r5] (0, 0) _ h3 Tryz.underlying48 rfl Tryz.sizeProc ?_)
    | (refine wpList_store_own2 rfl 48 _ _ rfl (w.heap.size + 1) #[.int .i64 i, .slice a9 xs.length q9, .int .i64 m.p, .int .i64 m.s, .int .i64 m.e, .int .i64 m.d, .int .i64 m.t, .int .i64 m.q, .int .i64 m.r, .slice p2 bx.length r2, .slice p5 ox.length r5] rfl rfl 48 #[.int .i64 0, .slice none 0 0, .int .i64 0, .int .i64 0, .int .i64 0, .int .i64 0, .int .i64 0, .int .i64 0, .int .i64 0, .slice none 0 0, .slice none 0 0] hy3 Tryz.sizeProc rfl (by simp [Value.oneCell']) ?_))
  intro w9 hh9 hb9 hs9 hoth9
  have s1 := own_mono (B' := w.heap.size) (own_keep O1 (by omega) hoth9) (by omega)
  have s2 := own_mono (B' := w.heap.size) (own_keep U2 (by omega) hoth9) (by omega)
  have s3 := own_mono (B' := w.heap.size) (own_keep U5 (by omega) hoth9) (by omega)
  have hB9 : Below w.heap.size w w9 := hB3.trans (hb9.mono (by omega))
  go_wp2
  exact bodyPost_ret (results_cell_row rfl _ _ (w.heap.size + 1) 48 _ (0, 0) _ rfl hh9 Tryz.underlying48 rfl Tryz.sizeProc) rfl ⟨_, _, _, rfl, s1, s2, s3, fun g h5 h2 => hap g h2 h5, hB9⟩
end Go.Proofs.YtdkkpopnoeapdaaGreatDoor

/-
  'append' onto a row of the call's own: where what comes lies. Nothing of the program; no condition.
-/
namespace Go.Proofs.YtdkkpopnoeapdaaGreatDoor
open Go.RowKit

theorem run_append_own_blk {P : Program} (w : World) (base : Nat) (t ty e : TypeId) (i : TypeInfo) (z : Value) (size bytes : Nat) (ht : P.underlying t = some (.slice e)) (hi : P.info? e = some i) (hz : i.zero = some z)
    (hsize : i.size = size) (hby : i.bytes = bytes) (hzs : z.cells.size = size) (hsz : 0 < size)
    (v : Value) (n : Nat) (xs : List Value) (hown : w.ownsRow base e size v n xs)
    (a : Addr) (m c : Nat) (news : List Value) (hl : news.length = m * size) (hnews : ∀ j u, news[j]? = some u → w.cell? (a.add j) = some u) (h1 : ∀ u ∈ news, u.oneCell' = true)
    (h63 : n + m ≤ maxLen) (hbytes : (n + m) * bytes ≤ 140737488355328) (hbase : base ≤ w.heap.size) (hm : 0 < m) :
    ∃ v' w', (Builtin.append_ #[t, t] ty #[v, .slice (some a) m c]).run P w = .ok v' w' ∧ w'.ownsRow base e size v' (n + m) (xs ++ news) ∧ w.grownBy w' v.ownBlock ∧ (v'.ownBlock = v.ownBlock ∨ v'.ownBlock = some w.heap.size) := by
  obtain ⟨v', w', hr, h2, h3, _⟩ := run_append_own (P := P) w base t ty e i z size bytes ht hi hz hsize hby hzs hsz v n xs hown a m c news hl hnews h1 h63 hbytes hbase
  refine ⟨v', w', hr, h2, h3, ?_⟩
  subst hsize
  subst hby
  have hsmall : n + m ≤ 9223372036854775807 := by simp only [maxLen] at h63; omega
  rcases hown.2 with ⟨rfl, rfl⟩ | ⟨g, cap, cur, rfl, hbg, hg, hnc, hcm, hcs, htake⟩
  · have hr' := run_append_nil (P := P) w t ty e i z ht hi hz a m c news hl hnews (by omega) (by omega) (by have hb := hbytes; simp only [Nat.zero_add] at hb; omega)
    rw [hr'] at hr
    simp only [Result.ok.injEq] at hr
    rw [← hr.1]
    exact Or.inr rfl
  · by_cases hroom : n + m ≤ cap
    · have hfit : n * i.size + news.length ≤ cur.size := by rw [hl, hcs, ← Nat.add_mul]; exact Nat.mul_le_mul_right _ hroom
      have hr' := run_append_room (P := P) w t ty e i ht hi g n cap cur hg a m c news hl hnews h1 hroom hfit
      rw [hr'] at hr
      simp only [Result.ok.injEq] at hr
      rw [← hr.1]
      exact Or.inl rfl
    · have holds : ∀ j u, xs[j]? = some u → w.cell? ((⟨g, 0, none⟩ : Addr).add j) = some u := hown.cells (g := g) rfl
      have hr' := run_append_grow (P := P) w t ty e i z ht hi hz ⟨g, 0, none⟩ n cap xs hown.1 holds a m c news hl hnews (by omega) (by omega) (growslice_fits (by omega) hbytes)
      rw [hr'] at hr
      simp only [Result.ok.injEq] at hr
      rw [← hr.1]
      exact Or.inr rfl
theorem wpList_append_own_blk {P : Program} (w : World) {ops : Array Oper} {rest : List Oper} {o : Oper} {a : Act} {Q : Exit → Act → World → Prop}
    (hgd : o.guard = none) (s x : Operand) (t : TypeId) (hop : o.op = Op.call { callee := Callee.builtin Builtin.append, args := #[s, x], argTypes := #[t, t] })
    (base : Nat) (e : TypeId) (i : TypeInfo) (z : Value) (size bytes : Nat) (h1 : P.underlying t = some (.slice e)) (h2 : P.info? e = some i) (h3 : i.zero = some z) (h4 : i.size = size) (h5 : i.bytes = bytes) (h6 : z.cells.size = size) (h7 : 0 < size)
    (v : Value) (k : Nat) (xs : List Value) (hs : a.eval s = v) (hown : w.ownsRow base e size v k xs) (ad : Addr) (m c : Nat) (news : List Value) (hx : a.eval x = .slice (some ad) m c) (hn : news.length = m * size)
    (hc : ∀ j u, news[j]? = some u → w.cell? (ad.add j) = some u) (h1c : ∀ u ∈ news, u.oneCell' = true) (b1 : k + m ≤ maxLen) (b2 : (k + m) * bytes ≤ 140737488355328) (b3 : base ≤ w.heap.size) (hm : 0 < m)
    (hK : ∀ v' w', w'.ownsRow base e size v' (k + m) (xs ++ news) → w.grownBy w' v.ownBlock → (v'.ownBlock = v.ownBlock ∨ v'.ownBlock = some w.heap.size) → wpList P ops Q rest (a.put o.dst v') w') : wpList P ops Q (o :: rest) a w := by
  refine wpList_plain hgd fun K hKK => ?_
  obtain ⟨v', w', hr, q2, q3, q4⟩ := run_append_own_blk (P := P) w base t o.type e i z size bytes h1 h2 h3 h4 h5 h6 h7 v k xs hown ad m c news hn hc h1c b1 b2 b3 hm
  unfold Oper.wp execOp
  simp only [hop, resolve, invoke, builtin, Sem.run_bind, Sem.run_pure, Result.andThen_ok, List.map_toArray, List.map_cons, List.map_nil, hs, hx, hr]
  exact hKK _ _ (hK v' w' q2 q3 q4)
end Go.Proofs.YtdkkpopnoeapdaaGreatDoor

/-
  A text for a process: ProcPost on both sides. The variable errors.errorType reads as it is laid.
-/
namespace Go.Proofs.YtdkkpopnoeapdaaGreatDoor
open Go.RowKit

/-- What ProcPost answers: its number, nodes, machine, box, what it printed, and whether it was taken. -/
structure PtR where
  i : Int
  xs : List Nd
  m : Mc
  bx : List ByteArray
  ox : List ByteArray
  ok : Bool
def ptR (ns : List Nd) (is : List In) (ds : List Df) (i : Int) (xs : List Nd) (m : Mc) (bx ox : List ByteArray) (s : ByteArray) : PtR :=
  if procB ns is ds i xs m bx ox then (if procB ns is ds i xs m (bx ++ [s]) ox then ⟨i, xs, m, bx ++ [s], ox, true⟩ else ⟨i, xs, m, bx, ox, false⟩) else ⟨0, [], ⟨0, 0, 0, 0, 0, 0, 0⟩, [], [], false⟩
def PtAns (B : Nat) (r : PtR) (e : Ending) (w' : World) : Prop :=
  ∃ v1 v2 v3, e = .returned (.tuple #[.agg #[.int .i64 r.i, v1, .int .i64 r.m.p, .int .i64 r.m.s, .int .i64 r.m.e, .int .i64 r.m.d, .int .i64 r.m.t, .int .i64 r.m.q, .int .i64 r.m.r, v2, v3], .bool r.ok]) ∧ w'.ownsRow B 119 5 v1 r.xs.length (ncs r.xs) ∧ w'.ownsRow B 9 1 v2 r.bx.length (stv r.bx) ∧ w'.ownsRow B 9 1 v3 r.ox.length (stv r.ox) ∧ ∀ g, v3.ownBlock = some g → v2.ownBlock ≠ some g
theorem PtAns.zero {B : Nat} {w' : World} : PtAns B ⟨0, [], ⟨0, 0, 0, 0, 0, 0, 0⟩, [], [], false⟩ (.returned (.tuple #[.agg #[.int .i64 0, .slice none 0 0, .int .i64 0, .int .i64 0, .int .i64 0, .int .i64 0, .int .i64 0, .int .i64 0, .int .i64 0, .slice none 0 0, .slice none 0 0], .bool false])) w' :=
  ⟨.slice none 0 0, .slice none 0 0, .slice none 0 0, rfl, ⟨by simp [ncs], Or.inl ⟨rfl, rfl⟩⟩, ⟨by simp [stv], Or.inl ⟨rfl, rfl⟩⟩, ⟨by simp [stv], Or.inl ⟨rfl, rfl⟩⟩, fun g h => by cases h⟩
theorem StRow.one (w : World) (s : ByteArray) (hs : s.size ≤ maxLen) : StRow (w.alloc (Obj.cells #[.string s] 9)) (.slice (some ⟨w.heap.size, 0, none⟩) 1 1) [s] := by
  refine ⟨_, 1, rfl, ⟨by simp, fun h => by cases h⟩, by simp, by simpa using hs, fun _ => ⟨_, 0, rfl, by simp, fun j x hj => ?_⟩⟩
  rw [cell_of_row _ w.heap.size (0 + j) _ 9 (0, 0) (heap_alloc_new w _)]
  cases j with
  | zero => simp at hj; subst hj; rfl
  | succ j => simp at hj

set_option maxRecDepth 100000 in
set_option maxHeartbeats 12800000 in
theorem iprocpost_any (v1 v2 v3 v vb vo : Value) (ns : List Nd) (is : List In) (ds : List Df) (i : Int) (xs : List Nd) (m : Mc) (bx ox : List ByteArray) (s : ByteArray) (w : World) (R1 : NRow w v1 ns) (R2 : InRow w v2 is) (R3 : DfRow w v3 ds) (R : NRow w v xs) (Rb : StRow w vb bx) (Ro : StRow w vo ox) (l4 : xs.length ≤ 1048576) (l5 : bx.length ≤ 1048576) (l6 : ox.length ≤ 1048576) (hz7 : ∀ x ∈ bx, x.size ≤ 1048576) (hs : s.size ≤ 1048576) (hg : ErrT w) :
    Calls Tryz.prog 20 #[.agg #[v1, v2, v3], .agg #[.int .i64 i, v, .int .i64 m.p, .int .i64 m.s, .int .i64 m.e, .int .i64 m.d, .int .i64 m.t, .int .i64 m.q, .int .i64 m.r, vb, vo], .string s] w fun e w' => PtAns w.heap.size (ptR ns is ds i xs m bx ox s) e w' ∧ Below w.heap.size w w' := by
  have hzx := R.sz
  have hzb := Rb.sz
  have hzo := Ro.sz
  have hsm : s.size ≤ maxLen := by unfold maxLen; omega
  have hz8 : ∀ x ∈ bx, x.size ≤ 140737488351232 := fun x hx => Nat.le_trans (hz7 x hx) (by decide)
  have hz9 : ∀ x ∈ bx ++ [s], x.size ≤ 140737488351232 := fun x hx => by
    rcases List.mem_append.1 hx with h | h
    · exact hz8 x h
    · have : x = s := by simpa using h
      subst this
      omega
  have hzb1 : ∀ x ∈ bx ++ [s], x.size ≤ maxLen := fun x hx => by
    rcases List.mem_append.1 hx with h | h
    · exact hzb x h
    · have : x = s := by simpa using h
      subst this
      exact hsm
  obtain ⟨ao, cap, rfl⟩ : ∃ ao cap, v = .slice ao xs.length cap := by obtain ⟨ao, cap, rfl, _⟩ := R; exact ⟨ao, cap, rfl⟩
  obtain ⟨a1, c1, rfl⟩ := R1.small
  obtain ⟨a2, c2, rfl⟩ := R2.small
  obtain ⟨a3, c3, rfl⟩ := R3.small
  obtain ⟨ab, cb, rfl⟩ := Rb.small
  obtain ⟨ac, cc, rfl⟩ := Ro.small
  have hB : Below w.heap.size w (((w.alloc (Obj.cells #[.slice a1 ns.length c1, .slice a2 is.length c2, .slice a3 ds.length c3] 43)).alloc (Obj.cells #[.int .i64 i, .slice ao xs.length cap, .int .i64 m.p, .int .i64 m.s, .int .i64 m.e, .int .i64 m.d, .int .i64 m.t, .int .i64 m.q, .int .i64 m.r, .slice ab bx.length cb, .slice ac ox.length cc] 48)).alloc (Obj.cells #[.int .i64 0, .slice none 0 0, .int .i64 0, .int .i64 0, .int .i64 0, .int .i64 0, .int .i64 0, .int .i64 0, .int .i64 0, .slice none 0 0, .slice none 0 0] 48)) := (((Below.refl _ _).alloc (Nat.le_refl _) _).alloc (by simp) _).alloc (by simp; omega) _
  have hk : (((w.alloc (Obj.cells #[.slice a1 ns.length c1, .slice a2 is.length c2, .slice a3 ds.length c3] 43)).alloc (Obj.cells #[.int .i64 i, .slice ao xs.length cap, .int .i64 m.p, .int .i64 m.s, .int .i64 m.e, .int .i64 m.d, .int .i64 m.t, .int .i64 m.q, .int .i64 m.r, .slice ab bx.length cb, .slice ac ox.length cc] 48)).alloc (Obj.cells #[.int .i64 0, .slice none 0 0, .int .i64 0, .int .i64 0, .int .i64 0, .int .i64 0, .int .i64 0, .int .i64 0, .int .i64 0, .slice none 0 0, .slice none 0 0] 48)).heap[w.heap.size]? = some (.cells #[.slice a1 ns.length c1, .slice a2 is.length c2, .slice a3 ds.length c3] 43 (0, 0)) := (heap_alloc_old _ _ (by simp; omega)).trans ((heap_alloc_old _ _ (by simp)).trans (heap_alloc_new _ _))
  have hx : (((w.alloc (Obj.cells #[.slice a1 ns.length c1, .slice a2 is.length c2, .slice a3 ds.length c3] 43)).alloc (Obj.cells #[.int .i64 i, .slice ao xs.length cap, .int .i64 m.p, .int .i64 m.s, .int .i64 m.e, .int .i64 m.d, .int .i64 m.t, .int .i64 m.q, .int .i64 m.r, .slice ab bx.length cb, .slice ac ox.length cc] 48)).alloc (Obj.cells #[.int .i64 0, .slice none 0 0, .int .i64 0, .int .i64 0, .int .i64 0, .int .i64 0, .int .i64 0, .int .i64 0, .int .i64 0, .slice none 0 0, .slice none 0 0] 48)).heap[w.heap.size + 1]? = some (.cells #[.int .i64 i, .slice ao xs.length cap, .int .i64 m.p, .int .i64 m.s, .int .i64 m.e, .int .i64 m.d, .int .i64 m.t, .int .i64 m.q, .int .i64 m.r, .slice ab bx.length cb, .slice ac ox.length cc] 48 (0, 0)) := (heap_alloc_old _ _ (by simp)).trans (heap_alloc2_new _ _ _)
  have hy : (((w.alloc (Obj.cells #[.slice a1 ns.length c1, .slice a2 is.length c2, .slice a3 ds.length c3] 43)).alloc (Obj.cells #[.int .i64 i, .slice ao xs.length cap, .int .i64 m.p, .int .i64 m.s, .int .i64 m.e, .int .i64 m.d, .int .i64 m.t, .int .i64 m.q, .int .i64 m.r, .slice ab bx.length cb, .slice ac ox.length cc] 48)).alloc (Obj.cells #[.int .i64 0, .slice none 0 0, .int .i64 0, .int .i64 0, .int .i64 0, .int .i64 0, .int .i64 0, .int .i64 0, .int .i64 0, .slice none 0 0, .slice none 0 0] 48)).heap[w.heap.size + 2]? = some (.cells #[.int .i64 0, .slice none 0 0, .int .i64 0, .int .i64 0, .int .i64 0, .int .i64 0, .int .i64 0, .int .i64 0, .int .i64 0, .slice none 0 0, .slice none 0 0] 48 (0, 0)) := by
    have h := heap_alloc_new ((w.alloc (Obj.cells #[.slice a1 ns.length c1, .slice a2 is.length c2, .slice a3 ds.length c3] 43)).alloc (Obj.cells #[.int .i64 i, .slice ao xs.length cap, .int .i64 m.p, .int .i64 m.s, .int .i64 m.e, .int .i64 m.d, .int .i64 m.t, .int .i64 m.q, .int .i64 m.r, .slice ab bx.length cb, .slice ac ox.length cc] 48)) (Obj.cells #[.int .i64 0, .slice none 0 0, .int .i64 0, .int .i64 0, .int .i64 0, .int .i64 0, .int .i64 0, .int .i64 0, .int .i64 0, .slice none 0 0, .slice none 0 0] 48)
    simpa using h
  have HR : Hid (ptR ns is ds i xs m bx ox s = if procB ns is ds i xs m bx ox then (if procB ns is ds i xs m (bx ++ [s]) ox then ⟨i, xs, m, bx ++ [s], ox, true⟩ else ⟨i, xs, m, bx, ox, false⟩) else ⟨0, [], ⟨0, 0, 0, 0, 0, 0, 0⟩, [], [], false⟩) := rfl
  go_enter Tryz.func20, Tryz.ntmps20
  go_wp2_with (first
    | (refine wpList_load_row rfl 43 _ rfl w.heap.size rfl 43 #[.slice a1 ns.length c1, .slice a2 is.length c2, .slice a3 ds.length c3] (0, 0) _ hk Tryz.underlying43 rfl Tryz.sizeCode ?_)
    | (refine wpList_load_row rfl 48 _ rfl (w.heap.size + 1) rfl 48 #[.int .i64 i, .slice ao xs.length cap, .int .i64 m.p, .int .i64 m.s, .int .i64 m.e, .int .i64 m.d, .int .i64 m.t, .int .i64 m.q, .int .i64 m.r, .slice ab bx.length cb, .slice ac ox.length cc] (0, 0) _ hx Tryz.underlying48 rfl Tryz.sizeProc ?_))
  refine (iprocok_any _ _ _ _ _ _ ns is ds i xs m bx ox _ (R1.below hB) (R2.below hB) (R3.below hB) (R.below hB) (Rb.below hB) (Ro.below hB) hz8 (hg.below hB (Nat.le_refl _))).mono ?_
  rintro e w1 ⟨rfl, hb⟩
  replace hk := blk_bel hk hb
  replace hx := blk_bel hx hb
  replace hy := blk_bel hy hb
  replace hB := hB.trans (hb.mono hB.size)
  clear hb
  have ly := blk_lt hy
  cases h1 : procB ns is ds i xs m bx ox with
  | false =>
    replace HR : Hid (ptR ns is ds i xs m bx ox s = ⟨0, [], ⟨0, 0, 0, 0, 0, 0, 0⟩, [], [], false⟩) := by unfold Hid; rw [HR.out, h1]; rfl
    go_wp2_with (refine wpList_store_own2 rfl 48 _ _ rfl (w.heap.size + 2) #[.int .i64 0, .slice none 0 0, .int .i64 0, .int .i64 0, .int .i64 0, .int .i64 0, .int .i64 0, .int .i64 0, .int .i64 0, .slice none 0 0, .slice none 0 0] rfl rfl 48 #[.int .i64 0, .slice none 0 0, .int .i64 0, .int .i64 0, .int .i64 0, .int .i64 0, .int .i64 0, .int .i64 0, .int .i64 0, .slice none 0 0, .slice none 0 0] hy Tryz.sizeProc rfl (by simp [Value.oneCell']) ?_)
    intro wB hvB hbB hsB hkB
    go_wp2
    refine bodyPost_ret (results_row_tmp rfl _ _ (w.heap.size + 2) 48 _ (0, 0) _ rfl hvB Tryz.underlying48 rfl Tryz.sizeProc) rfl ⟨by rw [HR.out]; exact PtAns.zero, hB.trans (hbB.mono (by omega))⟩
  | true =>
    go_wp2_with (refine wpList_load_row rfl 48 _ rfl (w.heap.size + 1) rfl 48 #[.int .i64 i, .slice ao xs.length cap, .int .i64 m.p, .int .i64 m.s, .int .i64 m.e, .int .i64 m.d, .int .i64 m.t, .int .i64 m.q, .int .i64 m.r, .slice ab bx.length cb, .slice ac ox.length cc] (0, 0) _ hx Tryz.underlying48 rfl Tryz.sizeProc ?_)
    refine (pcopied_any _ _ _ i xs m bx ox _ (R.below hB) (Rb.below hB) (Ro.below hB) (by omega) (by omega) (by omega)).mono ?_
    rintro e w2 ⟨z1, z2, z3, rfl, O1, O2, O3, hap, hb⟩
    obtain ⟨n1, k1, rfl⟩ := own_form O1
    obtain ⟨n2, k2, rfl⟩ := own_form O2
    obtain ⟨n3, k3, rfl⟩ := own_form O3
    replace O1 := own_mono (B' := w.heap.size + 3) O1 (by omega)
    replace O2 := own_mono (B' := w.heap.size + 3) O2 (by omega)
    replace O3 := own_mono (B' := w.heap.size + 3) O3 (by omega)
    replace hk := blk_bel hk hb
    replace hx := blk_bel hx hb
    replace hy := blk_bel hy hb
    replace hB := hB.trans (hb.mono hB.size)
    have hsz : w.heap.size + 3 ≤ w2.heap.size := Nat.le_trans (by omega) hb.size
    clear hb ly
    go_wp2_with (refine wpList_store_own2 rfl 48 _ _ rfl w2.heap.size #[.int .i64 i, .slice n1 xs.length k1, .int .i64 m.p, .int .i64 m.s, .int .i64 m.e, .int .i64 m.d, .int .i64 m.t, .int .i64 m.q, .int .i64 m.r, .slice n2 bx.length k2, .slice n3 ox.length k3] rfl rfl 48 #[.int .i64 0, .slice none 0 0, .int .i64 0, .int .i64 0, .int .i64 0, .int .i64 0, .int .i64 0, .int .i64 0, .int .i64 0, .slice none 0 0, .slice none 0 0] (heap_alloc_new _ _) Tryz.sizeProc rfl (by simp [Value.oneCell']) ?_)
    intro w3 hn hb3 hs3 hk3
    have hb : Below w2.heap.size w2 w3 := ((Below.refl _ _).alloc (Nat.le_refl _) _).trans hb3
    replace O1 := own_below O1 hb
    replace O2 := own_below O2 hb
    replace O3 := own_below O3 hb
    replace hk := blk_bel hk hb
    replace hx := blk_bel hx hb
    replace hy := blk_bel hy hb
    replace hB := hB.trans (hb.mono hB.size)
    have hbn : w.heap.size + 3 ≤ w2.heap.size := hsz
    have hsz3 : w.heap.size + 3 ≤ w3.heap.size := Nat.le_trans hsz hb.size
    clear hb hb3 hs3 hk3 hsz
    generalize w2.heap.size = bn at *
    obtain ⟨i0, hi, hz0, hz1, hz2⟩ := info_parts Tryz.infoStr
    have kc : w3.cell? ⟨bn, 0 + 9, none⟩ = some (.slice n2 bx.length k2) := cell_of_row w3 _ 9 _ _ _ hn
    have hbA := alloc_bel w3 (Obj.cells #[.string s] 9)
    have S1 := StRow.one w3 s hsm
    have P2 := own_below O2 hbA
    go_wp2_with (at_builtin; refine wpList_append_own_blk _ rfl _ _ 31 rfl (w.heap.size + 3) 9 i0 _ 1 16 Tryz.underlying31 hi hz0 hz1 hz2 rfl (by decide) _ bx.length _ rfl P2 ⟨w3.heap.size, 0, none⟩ 1 1 (stv [s]) rfl (by simp [stv]) (S1.cells _ rfl) (stv_one [s]) (by unfold maxLen; omega) (by omega) (by simp; omega) (by decide) ?_)
    intro v4 w4 O4 hgr hblk
    obtain ⟨n4, k4, rfl⟩ := own_form O4
    have hne := own_ne P2 (blk_bel hn hbA) (by decide)
    have hap4 : ∀ g, (Value.slice n3 ox.length k3).ownBlock = some g → (Value.slice n4 (bx.length + 1) k4).ownBlock ≠ some g := fun g h3 h4 => by
      rcases hblk with h | h
      · exact hap g h3 (h ▸ h4)
      · have k1 := (own_below O3 hbA).lt g h3
        rw [h4] at h
        have := Option.some.inj h
        have k2 : (w3.alloc (Obj.cells #[.string s] 9)).heap.size = w3.heap.size + 1 := by simp
        omega
    have Q1 := (own_below O1 hbA).kept hgr (own_kinds (own_below O1 hbA) P2 (by decide))
    have Q3 := (own_below O3 hbA).kept hgr (by
      cases hv : (Value.slice n3 ox.length k3).ownBlock with
      | none => exact Or.inl rfl
      | some g => exact Or.inr (fun e => hap g hv e.symm))
    have gk : ∀ {j : Nat} {c : Array Value} {t : TypeId}, t ≠ 9 → w3.heap[j]? = some (.cells c t (0, 0)) → w4.heap[j]? = some (.cells c t (0, 0)) := fun ht hj => (hgr.block _ (Nat.lt_of_lt_of_le (blk_lt hj) hbA.size) (fun e => own_ne P2 (blk_bel hj hbA) ht e.symm)).trans (blk_bel hj hbA)
    replace hk := gk (by decide) hk
    replace hx := gk (by decide) hx
    replace hy := gk (by decide) hy
    replace hn := gk (by decide) hn
    replace hB : Below w.heap.size w w4 := (hB.trans (hbA.mono hB.size)).grown hgr (Nat.le_trans hB.size hbA.size) (fun k hk => by have := (P2.lt k hk).1; omega)
    have hsz4 : w.heap.size + 3 ≤ w4.heap.size := Nat.le_trans hsz3 (Nat.le_trans hbA.size hgr.size)
    clear kc hbA S1 P2 hgr hne gk O1 O2 O3 hap hsz3
    go_wp2_with (refine wpList_store_at rfl 31 _ _ rfl bn 9 (.slice n4 (bx.length + 1) k4) #[.slice n4 (bx.length + 1) k4] rfl rfl rfl rfl 48 #[.int .i64 i, .slice n1 xs.length k1, .int .i64 m.p, .int .i64 m.s, .int .i64 m.e, .int .i64 m.d, .int .i64 m.t, .int .i64 m.q, .int .i64 m.r, .slice n2 bx.length k2, .slice n3 ox.length k3] #[.int .i64 i, .slice n1 xs.length k1, .int .i64 m.p, .int .i64 m.s, .int .i64 m.e, .int .i64 m.d, .int .i64 m.t, .int .i64 m.q, .int .i64 m.r, .slice n4 (bx.length + 1) k4, .slice n3 ox.length k3] hn (by simp) (by kernel_rfl) rfl ?_)
    intro w5 hn5 hb5 hs5 hk5
    have nb : ∀ {e : TypeId} {k n : Nat} {u : Value} {l : List Value}, w4.ownsRow (w.heap.size + 3) e k u n l → e ≠ 48 → w5.ownsRow (w.heap.size + 3) e k u n l := fun h he => own_other h (own_ne h hn (fun q => he q.symm)) hk5
    replace Q1 := nb Q1 (by decide)
    replace Q3 := nb Q3 (by decide)
    replace O4 := nb O4 (by decide)
    replace hk := (hk5 _ (by omega)).trans hk
    replace hx := (hk5 _ (by omega)).trans hx
    replace hy := (hk5 _ (by omega)).trans hy
    replace hB := hB.trans (hb5.mono (by omega))
    clear hn hb5 hs5 hk5 nb
    have O5 : w5.ownsRow (w.heap.size + 3) 9 1 (.slice n4 (bx.length + 1) k4) (bx ++ [s]).length (stv (bx ++ [s])) := by
      rw [stv_append, List.length_append]
      exact O4
    have OK := (iprocok_any _ _ _ _ _ _ ns is ds i xs m (bx ++ [s]) ox _ (R1.below hB) (R2.below hB) (R3.below hB) (NRow.of_own Q1 (by omega) hzx) (StRow.of_own O5 (by simp; omega) hzb1) (StRow.of_own Q3 (by omega) hzo) hz9 (hg.below hB (Nat.le_refl _)))
    go_wp2_with (first
      | (refine wpList_load_row rfl 43 _ rfl w.heap.size rfl 43 #[.slice a1 ns.length c1, .slice a2 is.length c2, .slice a3 ds.length c3] (0, 0) _ hk Tryz.underlying43 rfl Tryz.sizeCode ?_)
      | (refine wpList_load_row rfl 48 _ rfl bn rfl 48 #[.int .i64 i, .slice n1 xs.length k1, .int .i64 m.p, .int .i64 m.s, .int .i64 m.e, .int .i64 m.d, .int .i64 m.t, .int .i64 m.q, .int .i64 m.r, .slice n4 (bx.length + 1) k4, .slice n3 ox.length k3] (0, 0) _ hn5 Tryz.underlying48 rfl Tryz.sizeProc ?_))
    refine OK.mono ?_
    rintro e w6 ⟨rfl, hb⟩
    replace Q1 := own_below Q1 hb
    replace Q3 := own_below Q3 hb
    replace O5 := own_below O5 hb
    replace hx := blk_bel hx hb
    replace hy := blk_bel hy hb
    replace hn5 := blk_bel hn5 hb
    replace hB := hB.trans (hb.mono hB.size)
    have hsz6 : w.heap.size + 3 ≤ w6.heap.size := Nat.le_trans (by have := blk_lt hy; omega) (Nat.le_refl _)
    clear OK hb hk O4
    cases h2 : procB ns is ds i xs m (bx ++ [s]) ox with
    | false =>
      replace HR : Hid (ptR ns is ds i xs m bx ox s = ⟨i, xs, m, bx, ox, false⟩) := by unfold Hid; rw [HR.out, h1, h2]; rfl
      go_wp2_with (refine wpList_load_row rfl 48 _ rfl (w.heap.size + 1) rfl 48 #[.int .i64 i, .slice ao xs.length cap, .int .i64 m.p, .int .i64 m.s, .int .i64 m.e, .int .i64 m.d, .int .i64 m.t, .int .i64 m.q, .int .i64 m.r, .slice ab bx.length cb, .slice ac ox.length cc] (0, 0) _ hx Tryz.underlying48 rfl Tryz.sizeProc ?_)
      refine (pcopied_any _ _ _ i xs m bx ox _ (R.below hB) (Rb.below hB) (Ro.below hB) (by omega) (by omega) (by omega)).mono ?_
      rintro e w7 ⟨z1, z2, z3, rfl, O1, O2, O3, hap, hb⟩
      obtain ⟨n5, k5, rfl⟩ := own_form O1
      obtain ⟨n6, k6, rfl⟩ := own_form O2
      obtain ⟨n7, k7, rfl⟩ := own_form O3
      replace hy := blk_bel hy hb
      replace hB := hB.trans (hb.mono hB.size)
      clear hb
      go_wp2_with (refine wpList_store_own2 rfl 48 _ _ rfl (w.heap.size + 2) #[.int .i64 i, .slice n5 xs.length k5, .int .i64 m.p, .int .i64 m.s, .int .i64 m.e, .int .i64 m.d, .int .i64 m.t, .int .i64 m.q, .int .i64 m.r, .slice n6 bx.length k6, .slice n7 ox.length k7] rfl rfl 48 #[.int .i64 0, .slice none 0 0, .int .i64 0, .int .i64 0, .int .i64 0, .int .i64 0, .int .i64 0, .int .i64 0, .int .i64 0, .slice none 0 0, .slice none 0 0] hy Tryz.sizeProc rfl (by simp [Value.oneCell']) ?_)
      intro wB hvB hbB hsB hkB
      replace O1 := own_mono (B' := w.heap.size) (own_keep O1 (by omega) hkB) (by omega)
      replace O2 := own_mono (B' := w.heap.size) (own_keep O2 (by omega) hkB) (by omega)
      replace O3 := own_mono (B' := w.heap.size) (own_keep O3 (by omega) hkB) (by omega)
      go_wp2
      refine bodyPost_ret (results_row_tmp rfl _ _ (w.heap.size + 2) 48 _ (0, 0) _ rfl hvB Tryz.underlying48 rfl Tryz.sizeProc) rfl ⟨by rw [HR.out]; exact ⟨_, _, _, rfl, O1, O2, O3, hap⟩, hB.trans (hbB.mono (by omega))⟩
    | true =>
      replace HR : Hid (ptR ns is ds i xs m bx ox s = ⟨i, xs, m, bx ++ [s], ox, true⟩) := by unfold Hid; rw [HR.out, h1, h2]; rfl
      go_wp2_with (first
        | (refine wpList_load_row rfl 48 _ rfl bn rfl 48 #[.int .i64 i, .slice n1 xs.length k1, .int .i64 m.p, .int .i64 m.s, .int .i64 m.e, .int .i64 m.d, .int .i64 m.t, .int .i64 m.q, .int .i64 m.r, .slice n4 (bx.length + 1) k4, .slice n3 ox.length k3] (0, 0) _ hn5 Tryz.underlying48 rfl Tryz.sizeProc ?_)
        | (refine wpList_store_own2 rfl 48 _ _ rfl (w.heap.size + 2) #[.int .i64 i, .slice n1 xs.length k1, .int .i64 m.p, .int .i64 m.s, .int .i64 m.e, .int .i64 m.d, .int .i64 m.t, .int .i64 m.q, .int .i64 m.r, .slice n4 (bx.length + 1) k4, .slice n3 ox.length k3] rfl rfl 48 #[.int .i64 0, .slice none 0 0, .int .i64 0, .int .i64 0, .int .i64 0, .int .i64 0, .int .i64 0, .int .i64 0, .int .i64 0, .slice none 0 0, .slice none 0 0] hy Tryz.sizeProc rfl (by simp [Value.oneCell']) ?_))
      intro wB hvB hbB hsB hkB
      replace Q1 := own_mono (B' := w.heap.size) (own_keep Q1 (by omega) hkB) (by omega)
      replace Q3 := own_mono (B' := w.heap.size) (own_keep Q3 (by omega) hkB) (by omega)
      replace O5 := own_mono (B' := w.heap.size) (own_keep O5 (by omega) hkB) (by omega)
      go_wp2
      refine bodyPost_ret (results_row_tmp rfl _ _ (w.heap.size + 2) 48 _ (0, 0) _ rfl hvB Tryz.underlying48 rfl Tryz.sizeProc) rfl ⟨by rw [HR.out]; exact ⟨_, _, _, rfl, Q1, O5, Q3, hap4⟩, hB.trans (hbB.mono (by omega))⟩

set_option maxRecDepth 100000 in
set_option maxHeartbeats 12800000 in
theorem sprocpost_any (v1 v2 v3 v vb vo : Value) (ns : List Nd) (is : List In) (ds : List Df) (i : Int) (xs : List Nd) (m : Mc) (bx ox : List ByteArray) (s : ByteArray) (w : World) (R1 : NRow w v1 ns) (R2 : InRow w v2 is) (R3 : DfRow w v3 ds) (R : NRow w v xs) (Rb : StRow w vb bx) (Ro : StRow w vo ox) (l4 : xs.length ≤ 1048576) (l5 : bx.length ≤ 1048576) (l6 : ox.length ≤ 1048576) (hz7 : ∀ x ∈ bx, x.size ≤ 1048576) (hs : s.size ≤ 1048576) :
    Calls Tryz.prog 19 #[.agg #[v1, v2, v3], .agg #[.int .i64 i, v, .int .i64 m.p, .int .i64 m.s, .int .i64 m.e, .int .i64 m.d, .int .i64 m.t, .int .i64 m.q, .int .i64 m.r, vb, vo], .string s] w fun e w' => PtAns w.heap.size (ptR ns is ds i xs m bx ox s) e w' ∧ Below w.heap.size w w' := by
  have hzx := R.sz
  have hzb := Rb.sz
  have hzo := Ro.sz
  have hsm : s.size ≤ maxLen := by unfold maxLen; omega
  have hz8 : ∀ x ∈ bx, x.size ≤ 140737488351232 := fun x hx => Nat.le_trans (hz7 x hx) (by decide)
  have hz9 : ∀ x ∈ bx ++ [s], x.size ≤ 140737488351232 := fun x hx => by
    rcases List.mem_append.1 hx with h | h
    · exact hz8 x h
    · have : x = s := by simpa using h
      subst this
      omega
  have hzb1 : ∀ x ∈ bx ++ [s], x.size ≤ maxLen := fun x hx => by
    rcases List.mem_append.1 hx with h | h
    · exact hzb x h
    · have : x = s := by simpa using h
      subst this
      exact hsm
  obtain ⟨ao, cap, rfl⟩ : ∃ ao cap, v = .slice ao xs.length cap := by obtain ⟨ao, cap, rfl, _⟩ := R; exact ⟨ao, cap, rfl⟩
  obtain ⟨a1, c1, rfl⟩ := R1.small
  obtain ⟨a2, c2, rfl⟩ := R2.small
  obtain ⟨a3, c3, rfl⟩ := R3.small
  obtain ⟨ab, cb, rfl⟩ := Rb.small
  obtain ⟨ac, cc, rfl⟩ := Ro.small
  have hB : Below w.heap.size w (((w.alloc (Obj.cells #[.slice a1 ns.length c1, .slice a2 is.length c2, .slice a3 ds.length c3] 43)).alloc (Obj.cells #[.int .i64 i, .slice ao xs.length cap, .int .i64 m.p, .int .i64 m.s, .int .i64 m.e, .int .i64 m.d, .int .i64 m.t, .int .i64 m.q, .int .i64 m.r, .slice ab bx.length cb, .slice ac ox.length cc] 48)).alloc (Obj.cells #[.int .i64 0, .slice none 0 0, .int .i64 0, .int .i64 0, .int .i64 0, .int .i64 0, .int .i64 0, .int .i64 0, .int .i64 0, .slice none 0 0, .slice none 0 0] 48)) := (((Below.refl _ _).alloc (Nat.le_refl _) _).alloc (by simp) _).alloc (by simp; omega) _
  have hk : (((w.alloc (Obj.cells #[.slice a1 ns.length c1, .slice a2 is.length c2, .slice a3 ds.length c3] 43)).alloc (Obj.cells #[.int .i64 i, .slice ao xs.length cap, .int .i64 m.p, .int .i64 m.s, .int .i64 m.e, .int .i64 m.d, .int .i64 m.t, .int .i64 m.q, .int .i64 m.r, .slice ab bx.length cb, .slice ac ox.length cc] 48)).alloc (Obj.cells #[.int .i64 0, .slice none 0 0, .int .i64 0, .int .i64 0, .int .i64 0, .int .i64 0, .int .i64 0, .int .i64 0, .int .i64 0, .slice none 0 0, .slice none 0 0] 48)).heap[w.heap.size]? = some (.cells #[.slice a1 ns.length c1, .slice a2 is.length c2, .slice a3 ds.length c3] 43 (0, 0)) := (heap_alloc_old _ _ (by simp; omega)).trans ((heap_alloc_old _ _ (by simp)).trans (heap_alloc_new _ _))
  have hx : (((w.alloc (Obj.cells #[.slice a1 ns.length c1, .slice a2 is.length c2, .slice a3 ds.length c3] 43)).alloc (Obj.cells #[.int .i64 i, .slice ao xs.length cap, .int .i64 m.p, .int .i64 m.s, .int .i64 m.e, .int .i64 m.d, .int .i64 m.t, .int .i64 m.q, .int .i64 m.r, .slice ab bx.length cb, .slice ac ox.length cc] 48)).alloc (Obj.cells #[.int .i64 0, .slice none 0 0, .int .i64 0, .int .i64 0, .int .i64 0, .int .i64 0, .int .i64 0, .int .i64 0, .int .i64 0, .slice none 0 0, .slice none 0 0] 48)).heap[w.heap.size + 1]? = some (.cells #[.int .i64 i, .slice ao xs.length cap, .int .i64 m.p, .int .i64 m.s, .int .i64 m.e, .int .i64 m.d, .int .i64 m.t, .int .i64 m.q, .int .i64 m.r, .slice ab bx.length cb, .slice ac ox.length cc] 48 (0, 0)) := (heap_alloc_old _ _ (by simp)).trans (heap_alloc2_new _ _ _)
  have hy : (((w.alloc (Obj.cells #[.slice a1 ns.length c1, .slice a2 is.length c2, .slice a3 ds.length c3] 43)).alloc (Obj.cells #[.int .i64 i, .slice ao xs.length cap, .int .i64 m.p, .int .i64 m.s, .int .i64 m.e, .int .i64 m.d, .int .i64 m.t, .int .i64 m.q, .int .i64 m.r, .slice ab bx.length cb, .slice ac ox.length cc] 48)).alloc (Obj.cells #[.int .i64 0, .slice none 0 0, .int .i64 0, .int .i64 0, .int .i64 0, .int .i64 0, .int .i64 0, .int .i64 0, .int .i64 0, .slice none 0 0, .slice none 0 0] 48)).heap[w.heap.size + 2]? = some (.cells #[.int .i64 0, .slice none 0 0, .int .i64 0, .int .i64 0, .int .i64 0, .int .i64 0, .int .i64 0, .int .i64 0, .int .i64 0, .slice none 0 0, .slice none 0 0] 48 (0, 0)) := by
    have h := heap_alloc_new ((w.alloc (Obj.cells #[.slice a1 ns.length c1, .slice a2 is.length c2, .slice a3 ds.length c3] 43)).alloc (Obj.cells #[.int .i64 i, .slice ao xs.length cap, .int .i64 m.p, .int .i64 m.s, .int .i64 m.e, .int .i64 m.d, .int .i64 m.t, .int .i64 m.q, .int .i64 m.r, .slice ab bx.length cb, .slice ac ox.length cc] 48)) (Obj.cells #[.int .i64 0, .slice none 0 0, .int .i64 0, .int .i64 0, .int .i64 0, .int .i64 0, .int .i64 0, .int .i64 0, .int .i64 0, .slice none 0 0, .slice none 0 0] 48)
    simpa using h
  have HR : Hid (ptR ns is ds i xs m bx ox s = if procB ns is ds i xs m bx ox then (if procB ns is ds i xs m (bx ++ [s]) ox then ⟨i, xs, m, bx ++ [s], ox, true⟩ else ⟨i, xs, m, bx, ox, false⟩) else ⟨0, [], ⟨0, 0, 0, 0, 0, 0, 0⟩, [], [], false⟩) := rfl
  go_enter Tryz.func19, Tryz.ntmps19
  go_wp2_with (first
    | (refine wpList_load_row rfl 43 _ rfl w.heap.size rfl 43 #[.slice a1 ns.length c1, .slice a2 is.length c2, .slice a3 ds.length c3] (0, 0) _ hk Tryz.underlying43 rfl Tryz.sizeCode ?_)
    | (refine wpList_load_row rfl 48 _ rfl (w.heap.size + 1) rfl 48 #[.int .i64 i, .slice ao xs.length cap, .int .i64 m.p, .int .i64 m.s, .int .i64 m.e, .int .i64 m.d, .int .i64 m.t, .int .i64 m.q, .int .i64 m.r, .slice ab bx.length cb, .slice ac ox.length cc] (0, 0) _ hx Tryz.underlying48 rfl Tryz.sizeProc ?_))
  refine (sprocok_any _ _ _ _ _ _ ns is ds i xs m bx ox _ (R1.below hB) (R2.below hB) (R3.below hB) (R.below hB) (Rb.below hB) (Ro.below hB) hz8).mono ?_
  rintro e w1 ⟨rfl, hb⟩
  replace hk := blk_bel hk hb
  replace hx := blk_bel hx hb
  replace hy := blk_bel hy hb
  replace hB := hB.trans (hb.mono hB.size)
  clear hb
  have ly := blk_lt hy
  cases h1 : procB ns is ds i xs m bx ox with
  | false =>
    replace HR : Hid (ptR ns is ds i xs m bx ox s = ⟨0, [], ⟨0, 0, 0, 0, 0, 0, 0⟩, [], [], false⟩) := by unfold Hid; rw [HR.out, h1]; rfl
    go_wp2_with (refine wpList_store_own2 rfl 48 _ _ rfl (w.heap.size + 2) #[.int .i64 0, .slice none 0 0, .int .i64 0, .int .i64 0, .int .i64 0, .int .i64 0, .int .i64 0, .int .i64 0, .int .i64 0, .slice none 0 0, .slice none 0 0] rfl rfl 48 #[.int .i64 0, .slice none 0 0, .int .i64 0, .int .i64 0, .int .i64 0, .int .i64 0, .int .i64 0, .int .i64 0, .int .i64 0, .slice none 0 0, .slice none 0 0] hy Tryz.sizeProc rfl (by simp [Value.oneCell']) ?_)
    intro wB hvB hbB hsB hkB
    go_wp2
    refine bodyPost_ret (results_row_tmp rfl _ _ (w.heap.size + 2) 48 _ (0, 0) _ rfl hvB Tryz.underlying48 rfl Tryz.sizeProc) rfl ⟨by rw [HR.out]; exact PtAns.zero, hB.trans (hbB.mono (by omega))⟩
  | true =>
    go_wp2_with (refine wpList_load_row rfl 48 _ rfl (w.heap.size + 1) rfl 48 #[.int .i64 i, .slice ao xs.length cap, .int .i64 m.p, .int .i64 m.s, .int .i64 m.e, .int .i64 m.d, .int .i64 m.t, .int .i64 m.q, .int .i64 m.r, .slice ab bx.length cb, .slice ac ox.length cc] (0, 0) _ hx Tryz.underlying48 rfl Tryz.sizeProc ?_)
    refine (s12copy_any _ _ _ i xs m bx ox _ (R.below hB) (Rb.below hB) (Ro.below hB) (by omega) (by omega) (by omega)).mono ?_
    rintro e w2 ⟨z1, z2, z3, rfl, O1, O2, O3, hap, hb⟩
    obtain ⟨n1, k1, rfl⟩ := own_form O1
    obtain ⟨n2, k2, rfl⟩ := own_form O2
    obtain ⟨n3, k3, rfl⟩ := own_form O3
    replace O1 := own_mono (B' := w.heap.size + 3) O1 (by omega)
    replace O2 := own_mono (B' := w.heap.size + 3) O2 (by omega)
    replace O3 := own_mono (B' := w.heap.size + 3) O3 (by omega)
    replace hk := blk_bel hk hb
    replace hx := blk_bel hx hb
    replace hy := blk_bel hy hb
    replace hB := hB.trans (hb.mono hB.size)
    have hsz : w.heap.size + 3 ≤ w2.heap.size := Nat.le_trans (by omega) hb.size
    clear hb ly
    go_wp2_with (refine wpList_store_own2 rfl 48 _ _ rfl w2.heap.size #[.int .i64 i, .slice n1 xs.length k1, .int .i64 m.p, .int .i64 m.s, .int .i64 m.e, .int .i64 m.d, .int .i64 m.t, .int .i64 m.q, .int .i64 m.r, .slice n2 bx.length k2, .slice n3 ox.length k3] rfl rfl 48 #[.int .i64 0, .slice none 0 0, .int .i64 0, .int .i64 0, .int .i64 0, .int .i64 0, .int .i64 0, .int .i64 0, .int .i64 0, .slice none 0 0, .slice none 0 0] (heap_alloc_new _ _) Tryz.sizeProc rfl (by simp [Value.oneCell']) ?_)
    intro w3 hn hb3 hs3 hk3
    have hb : Below w2.heap.size w2 w3 := ((Below.refl _ _).alloc (Nat.le_refl _) _).trans hb3
    replace O1 := own_below O1 hb
    replace O2 := own_below O2 hb
    replace O3 := own_below O3 hb
    replace hk := blk_bel hk hb
    replace hx := blk_bel hx hb
    replace hy := blk_bel hy hb
    replace hB := hB.trans (hb.mono hB.size)
    have hbn : w.heap.size + 3 ≤ w2.heap.size := hsz
    have hsz3 : w.heap.size + 3 ≤ w3.heap.size := Nat.le_trans hsz hb.size
    clear hb hb3 hs3 hk3 hsz
    generalize w2.heap.size = bn at *
    obtain ⟨i0, hi, hz0, hz1, hz2⟩ := info_parts Tryz.infoStr
    have kc : w3.cell? ⟨bn, 0 + 9, none⟩ = some (.slice n2 bx.length k2) := cell_of_row w3 _ 9 _ _ _ hn
    have hbA := alloc_bel w3 (Obj.cells #[.string s] 9)
    have S1 := StRow.one w3 s hsm
    have P2 := own_below O2 hbA
    go_wp2_with (at_builtin; refine wpList_append_own_blk _ rfl _ _ 31 rfl (w.heap.size + 3) 9 i0 _ 1 16 Tryz.underlying31 hi hz0 hz1 hz2 rfl (by decide) _ bx.length _ rfl P2 ⟨w3.heap.size, 0, none⟩ 1 1 (stv [s]) rfl (by simp [stv]) (S1.cells _ rfl) (stv_one [s]) (by unfold maxLen; omega) (by omega) (by simp; omega) (by decide) ?_)
    intro v4 w4 O4 hgr hblk
    obtain ⟨n4, k4, rfl⟩ := own_form O4
    have hne := own_ne P2 (blk_bel hn hbA) (by decide)
    have hap4 : ∀ g, (Value.slice n3 ox.length k3).ownBlock = some g → (Value.slice n4 (bx.length + 1) k4).ownBlock ≠ some g := fun g h3 h4 => by
      rcases hblk with h | h
      · exact hap g h3 (h ▸ h4)
      · have k1 := (own_below O3 hbA).lt g h3
        rw [h4] at h
        have := Option.some.inj h
        have k2 : (w3.alloc (Obj.cells #[.string s] 9)).heap.size = w3.heap.size + 1 := by simp
        omega
    have Q1 := (own_below O1 hbA).kept hgr (own_kinds (own_below O1 hbA) P2 (by decide))
    have Q3 := (own_below O3 hbA).kept hgr (by
      cases hv : (Value.slice n3 ox.length k3).ownBlock with
      | none => exact Or.inl rfl
      | some g => exact Or.inr (fun e => hap g hv e.symm))
    have gk : ∀ {j : Nat} {c : Array Value} {t : TypeId}, t ≠ 9 → w3.heap[j]? = some (.cells c t (0, 0)) → w4.heap[j]? = some (.cells c t (0, 0)) := fun ht hj => (hgr.block _ (Nat.lt_of_lt_of_le (blk_lt hj) hbA.size) (fun e => own_ne P2 (blk_bel hj hbA) ht e.symm)).trans (blk_bel hj hbA)
    replace hk := gk (by decide) hk
    replace hx := gk (by decide) hx
    replace hy := gk (by decide) hy
    replace hn := gk (by decide) hn
    replace hB : Below w.heap.size w w4 := (hB.trans (hbA.mono hB.size)).grown hgr (Nat.le_trans hB.size hbA.size) (fun k hk => by have := (P2.lt k hk).1; omega)
    have hsz4 : w.heap.size + 3 ≤ w4.heap.size := Nat.le_trans hsz3 (Nat.le_trans hbA.size hgr.size)
    clear kc hbA S1 P2 hgr hne gk O1 O2 O3 hap hsz3
    go_wp2_with (refine wpList_store_at rfl 31 _ _ rfl bn 9 (.slice n4 (bx.length + 1) k4) #[.slice n4 (bx.length + 1) k4] rfl rfl rfl rfl 48 #[.int .i64 i, .slice n1 xs.length k1, .int .i64 m.p, .int .i64 m.s, .int .i64 m.e, .int .i64 m.d, .int .i64 m.t, .int .i64 m.q, .int .i64 m.r, .slice n2 bx.length k2, .slice n3 ox.length k3] #[.int .i64 i, .slice n1 xs.length k1, .int .i64 m.p, .int .i64 m.s, .int .i64 m.e, .int .i64 m.d, .int .i64 m.t, .int .i64 m.q, .int .i64 m.r, .slice n4 (bx.length + 1) k4, .slice n3 ox.length k3] hn (by simp) (by kernel_rfl) rfl ?_)
    intro w5 hn5 hb5 hs5 hk5
    have nb : ∀ {e : TypeId} {k n : Nat} {u : Value} {l : List Value}, w4.ownsRow (w.heap.size + 3) e k u n l → e ≠ 48 → w5.ownsRow (w.heap.size + 3) e k u n l := fun h he => own_other h (own_ne h hn (fun q => he q.symm)) hk5
    replace Q1 := nb Q1 (by decide)
    replace Q3 := nb Q3 (by decide)
    replace O4 := nb O4 (by decide)
    replace hk := (hk5 _ (by omega)).trans hk
    replace hx := (hk5 _ (by omega)).trans hx
    replace hy := (hk5 _ (by omega)).trans hy
    replace hB := hB.trans (hb5.mono (by omega))
    clear hn hb5 hs5 hk5 nb
    have O5 : w5.ownsRow (w.heap.size + 3) 9 1 (.slice n4 (bx.length + 1) k4) (bx ++ [s]).length (stv (bx ++ [s])) := by
      rw [stv_append, List.length_append]
      exact O4
    have OK := (sprocok_any _ _ _ _ _ _ ns is ds i xs m (bx ++ [s]) ox _ (R1.below hB) (R2.below hB) (R3.below hB) (NRow.of_own Q1 (by omega) hzx) (StRow.of_own O5 (by simp; omega) hzb1) (StRow.of_own Q3 (by omega) hzo) hz9)
    go_wp2_with (first
      | (refine wpList_load_row rfl 43 _ rfl w.heap.size rfl 43 #[.slice a1 ns.length c1, .slice a2 is.length c2, .slice a3 ds.length c3] (0, 0) _ hk Tryz.underlying43 rfl Tryz.sizeCode ?_)
      | (refine wpList_load_row rfl 48 _ rfl bn rfl 48 #[.int .i64 i, .slice n1 xs.length k1, .int .i64 m.p, .int .i64 m.s, .int .i64 m.e, .int .i64 m.d, .int .i64 m.t, .int .i64 m.q, .int .i64 m.r, .slice n4 (bx.length + 1) k4, .slice n3 ox.length k3] (0, 0) _ hn5 Tryz.underlying48 rfl Tryz.sizeProc ?_))
    refine OK.mono ?_
    rintro e w6 ⟨rfl, hb⟩
    replace Q1 := own_below Q1 hb
    replace Q3 := own_below Q3 hb
    replace O5 := own_below O5 hb
    replace hx := blk_bel hx hb
    replace hy := blk_bel hy hb
    replace hn5 := blk_bel hn5 hb
    replace hB := hB.trans (hb.mono hB.size)
    have hsz6 : w.heap.size + 3 ≤ w6.heap.size := Nat.le_trans (by have := blk_lt hy; omega) (Nat.le_refl _)
    clear OK hb hk O4
    cases h2 : procB ns is ds i xs m (bx ++ [s]) ox with
    | false =>
      replace HR : Hid (ptR ns is ds i xs m bx ox s = ⟨i, xs, m, bx, ox, false⟩) := by unfold Hid; rw [HR.out, h1, h2]; rfl
      go_wp2_with (refine wpList_load_row rfl 48 _ rfl (w.heap.size + 1) rfl 48 #[.int .i64 i, .slice ao xs.length cap, .int .i64 m.p, .int .i64 m.s, .int .i64 m.e, .int .i64 m.d, .int .i64 m.t, .int .i64 m.q, .int .i64 m.r, .slice ab bx.length cb, .slice ac ox.length cc] (0, 0) _ hx Tryz.underlying48 rfl Tryz.sizeProc ?_)
      refine (s12copy_any _ _ _ i xs m bx ox _ (R.below hB) (Rb.below hB) (Ro.below hB) (by omega) (by omega) (by omega)).mono ?_
      rintro e w7 ⟨z1, z2, z3, rfl, O1, O2, O3, hap, hb⟩
      obtain ⟨n5, k5, rfl⟩ := own_form O1
      obtain ⟨n6, k6, rfl⟩ := own_form O2
      obtain ⟨n7, k7, rfl⟩ := own_form O3
      replace hy := blk_bel hy hb
      replace hB := hB.trans (hb.mono hB.size)
      clear hb
      go_wp2_with (refine wpList_store_own2 rfl 48 _ _ rfl (w.heap.size + 2) #[.int .i64 i, .slice n5 xs.length k5, .int .i64 m.p, .int .i64 m.s, .int .i64 m.e, .int .i64 m.d, .int .i64 m.t, .int .i64 m.q, .int .i64 m.r, .slice n6 bx.length k6, .slice n7 ox.length k7] rfl rfl 48 #[.int .i64 0, .slice none 0 0, .int .i64 0, .int .i64 0, .int .i64 0, .int .i64 0, .int .i64 0, .int .i64 0, .int .i64 0, .slice none 0 0, .slice none 0 0] hy Tryz.sizeProc rfl (by simp [Value.oneCell']) ?_)
      intro wB hvB hbB hsB hkB
      replace O1 := own_mono (B' := w.heap.size) (own_keep O1 (by omega) hkB) (by omega)
      replace O2 := own_mono (B' := w.heap.size) (own_keep O2 (by omega) hkB) (by omega)
      replace O3 := own_mono (B' := w.heap.size) (own_keep O3 (by omega) hkB) (by omega)
      go_wp2
      refine bodyPost_ret (results_row_tmp rfl _ _ (w.heap.size + 2) 48 _ (0, 0) _ rfl hvB Tryz.underlying48 rfl Tryz.sizeProc) rfl ⟨by rw [HR.out]; exact ⟨_, _, _, rfl, O1, O2, O3, hap⟩, hB.trans (hbB.mono (by omega))⟩
    | true =>
      replace HR : Hid (ptR ns is ds i xs m bx ox s = ⟨i, xs, m, bx ++ [s], ox, true⟩) := by unfold Hid; rw [HR.out, h1, h2]; rfl
      go_wp2_with (first
        | (refine wpList_load_row rfl 48 _ rfl bn rfl 48 #[.int .i64 i, .slice n1 xs.length k1, .int .i64 m.p, .int .i64 m.s, .int .i64 m.e, .int .i64 m.d, .int .i64 m.t, .int .i64 m.q, .int .i64 m.r, .slice n4 (bx.length + 1) k4, .slice n3 ox.length k3] (0, 0) _ hn5 Tryz.underlying48 rfl Tryz.sizeProc ?_)
        | (refine wpList_store_own2 rfl 48 _ _ rfl (w.heap.size + 2) #[.int .i64 i, .slice n1 xs.length k1, .int .i64 m.p, .int .i64 m.s, .int .i64 m.e, .int .i64 m.d, .int .i64 m.t, .int .i64 m.q, .int .i64 m.r, .slice n4 (bx.length + 1) k4, .slice n3 ox.length k3] rfl rfl 48 #[.int .i64 0, .slice none 0 0, .int .i64 0, .int .i64 0, .int .i64 0, .int .i64 0, .int .i64 0, .int .i64 0, .int .i64 0, .slice none 0 0, .slice none 0 0] hy Tryz.sizeProc rfl (by simp [Value.oneCell']) ?_))
      intro wB hvB hbB hsB hkB
      replace Q1 := own_mono (B' := w.heap.size) (own_keep Q1 (by omega) hkB) (by omega)
      replace Q3 := own_mono (B' := w.heap.size) (own_keep Q3 (by omega) hkB) (by omega)
      replace O5 := own_mono (B' := w.heap.size) (own_keep O5 (by omega) hkB) (by omega)
      go_wp2
      refine bodyPost_ret (results_row_tmp rfl _ _ (w.heap.size + 2) 48 _ (0, 0) _ rfl hvB Tryz.underlying48 rfl Tryz.sizeProc) rfl ⟨by rw [HR.out]; exact ⟨_, _, _, rfl, Q1, O5, Q3, hap4⟩, hB.trans (hbB.mono (by omega))⟩
end Go.Proofs.YtdkkpopnoeapdaaGreatDoor

/-
  The regions of the law FnExactProcPost that draw their order, each alone. No condition but bounds.
-/
namespace Go.Proofs.YtdkkpopnoeapdaaGreatDoor
open Go.RowKit

set_option maxRecDepth 100000 in
set_option maxHeartbeats 6400000 in
theorem prpt_r10 {t0 t1 t5 t6 t7 t8 t9 t10 t11 t12 t13 t14 t15 t16 t17 t18 t19 t20 t21 t22 t23 t24 t25 t26 t27 t28 t29 t30 t31 t32 t33 t34 t35 t36 t37 t38 t39 t40 t41 t42 t43 t44 t45 t46 t47 t48 t49 t50 t51 t52 t53 t54 t55 t56 t57 t58 t59 t60 t61 t62 t63 t64 t65 t66 t67 t68 t69 t70 t71 t72 t73 t74 t75 t76 t77 t78 t79 t80 t81 t82 t83 t84 t85 t86 t87 t88 t89 t90 t91 t92 t93 t94 t95 t96 t97 t98 t99 t100 t101 t102 t103 t104 t105 t106 t107 t108 t109 t110 t111 t112 t113 t114 t115 t116 t117 t118 t119 t120 t121 t122 t123 t124 t125 t126 : Value} {fs : List Deferred} (b0 b1x : Nat) (a1 a2 a3 ao ab ac : Option Addr) (c1 c2 c3 cap cb cc : Nat) (ns : List Nd) (is : List In) (ds : List Df) (i : Int) (xs : List Nd) (m : Mc) (bx ox : List ByteArray) (s : ByteArray) (I : Int) (NX : List Nd) (M : Mc) (BX OX : List ByteArray) (ok : Bool) (w : World) (Q : Exit → Act → World → Prop)
    (hk : w.heap[b0]? = some (.cells #[.slice a1 ns.length c1, .slice a2 is.length c2, .slice a3 ds.length c3] 28 (0, 0))) (hx : w.heap[b1x]? = some (.cells #[.int .i64 i, .slice ao xs.length cap, .int .i64 m.p, .int .i64 m.s, .int .i64 m.e, .int .i64 m.d, .int .i64 m.t, .int .i64 m.q, .int .i64 m.r, .slice ab bx.length cb, .slice ac ox.length cc] 33 (0, 0))) (R1 : NRow w (.slice a1 ns.length c1) ns) (R2 : InRow w (.slice a2 is.length c2) is) (R3 : DfRow w (.slice a3 ds.length c3) ds) (R : NRow w (.slice ao xs.length cap) xs) (Rb : StRow w (.slice ab bx.length cb) bx) (Ro : StRow w (.slice ac ox.length cc) ox) (l1 : ns.length ≤ 2097152) (l2 : is.length ≤ 2097152) (l3 : ds.length ≤ 2097152) (l4 : xs.length ≤ 2097152) (l5 : bx.length ≤ 2097152) (l6 : ox.length ≤ 2097152) (hzx : ∀ x ∈ xs, x.s.size ≤ maxLen) (hzb : ∀ x ∈ bx, x.size ≤ maxLen) (hzo : ∀ x ∈ ox, x.size ≤ maxLen) (HC : ∀ (x1 x2 x3 y yb yo : Value) (W : World), NRow W x1 ns → InRow W x2 is → DfRow W x3 ds → NRow W y xs → StRow W yb bx → StRow W yo ox → Below w.heap.size w W → Calls Tryz.prog 19 #[.agg #[x1, x2, x3], .agg #[.int .i64 i, y, .int .i64 m.p, .int .i64 m.s, .int .i64 m.e, .int .i64 m.d, .int .i64 m.t, .int .i64 m.q, .int .i64 m.r, yb, yo], .string s] W fun e W' => (∃ v1 v2 v3, e = .returned (.tuple #[.agg #[.int .i64 I, v1, .int .i64 M.p, .int .i64 M.s, .int .i64 M.e, .int .i64 M.d, .int .i64 M.t, .int .i64 M.q, .int .i64 M.r, v2, v3], .bool ok]) ∧ W'.ownsRow W.heap.size 119 5 v1 NX.length (ncs NX) ∧ W'.ownsRow W.heap.size 9 1 v2 BX.length (stv BX) ∧ W'.ownsRow W.heap.size 9 1 v3 OX.length (stv OX) ∧ ∀ g, v3.ownBlock = some g → v2.ownBlock ≠ some g) ∧ Below W.heap.size W W')
    (hQ : ∀ u33 u34 u35 u36 u37 u38 u32 u39 u40 (b : Nat) (m1 m2 m3 : Option Addr) (e1 e2 e3 : Nat) (W : World), w.heap.size ≤ b → Below w.heap.size w W → W.heap[b]? = some (.cells #[.int .i64 I, .slice m1 NX.length e1, .int .i64 M.p, .int .i64 M.s, .int .i64 M.e, .int .i64 M.d, .int .i64 M.t, .int .i64 M.q, .int .i64 M.r, .slice m2 BX.length e2, .slice m3 OX.length e3] 48 (0, 0)) → W.ownsRow w.heap.size 119 5 (.slice m1 NX.length e1) NX.length (ncs NX) → W.ownsRow w.heap.size 9 1 (.slice m2 BX.length e2) BX.length (stv BX) → W.ownsRow w.heap.size 9 1 (.slice m3 OX.length e3) OX.length (stv OX) → (∀ g, (Value.slice m3 OX.length e3).ownBlock = some g → (Value.slice m2 BX.length e2).ownBlock ≠ some g) → Q .normal ⟨#[t0, t1, .string s, .pointer (some ⟨b0, 0, none⟩), .pointer (some ⟨b1x, 0, none⟩), t5, t6, t7, .pointer (some ⟨b, 0, none⟩), .bool ok, t10, t11, t12, t13, t14, t15, t16, t17, t18, t19, t20, t21, t22, t23, t24, t25, t26, t27, t28, t29, t30, t31, u32, u33, u34, u35, u36, u37, u38, u39, u40, t41, t42, t43, t44, t45, t46, t47, t48, t49, t50, t51, t52, t53, t54, t55, t56, t57, t58, t59, t60, t61, t62, t63, t64, t65, t66, t67, t68, t69, t70, t71, t72, t73, t74, t75, t76, t77, t78, t79, t80, t81, t82, t83, t84, t85, t86, t87, t88, t89, t90, t91, t92, t93, t94, t95, t96, t97, t98, t99, t100, t101, t102, t103, t104, t105, t106, t107, t108, t109, t110, t111, t112, t113, t114, t115, t116, t117, t118, t119, t120, t121, t122, t123, t124, t125, t126], fs⟩ W) :
    (Code.region 10 (List.toArray (({ dst := some 33, op := Op.load 28 (Operand.tmp 3), type := 28, pos := "exact.go:3952", after := #[], guard := none } : Oper) :: ({ dst := some 34, op := Op.call { callee := Callee.value (Operand.func 9), args := #[Operand.tmp 33], argTypes := #[28] }, type := 43, pos := "exact.go:3952", after := #[{ on := 0, ground := Ground.data }], guard := none } : Oper) :: ({ dst := some 35, op := Op.load 33 (Operand.tmp 4), type := 33, pos := "exact.go:3952", after := #[], guard := none } : Oper) :: ({ dst := some 36, op := Op.call { callee := Callee.value (Operand.func 10), args := #[Operand.tmp 35], argTypes := #[33] }, type := 48, pos := "exact.go:3952", after := #[{ on := 2, ground := Ground.data }, { on := 1, ground := Ground.chain }], guard := none } : Oper) :: ({ dst := some 37, op := Op.move (Operand.tmp 2), type := 9, pos := "exact.go:3952", after := #[], guard := none } : Oper) :: ({ dst := some 38, op := Op.call { callee := Callee.value (Operand.func 19), args := #[Operand.tmp 34, Operand.tmp 36, Operand.tmp 37], argTypes := #[43, 48, 9] }, type := 53, pos := "exact.go:3952", after := #[{ on := 1, ground := Ground.data }, { on := 3, ground := Ground.data }, { on := 4, ground := Ground.data }, { on := 3, ground := Ground.chain }], guard := none } : Oper) :: ({ dst := some 32, op := Op.move (Operand.tmp 38), type := 53, pos := "exact.go:3952", after := #[{ on := 5, ground := Ground.data }], guard := none } : Oper) :: ({ dst := some 39, op := Op.extract (Operand.tmp 32) 0, type := 48, pos := "exact.go:3952", after := #[{ on := 6, ground := Ground.data }], guard := none } : Oper) :: ({ dst := some 40, op := Op.extract (Operand.tmp 32) 1, type := 4, pos := "exact.go:3952", after := #[{ on := 6, ground := Ground.data }, { on := 10, ground := Ground.gcOnly Departure.lateStores }], guard := none } : Oper) :: ({ dst := some 8, op := Op.alloc 48, type := 0, pos := "exact.go:3952", after := #[], guard := none } : Oper) :: ({ dst := none, op := Op.store 48 (Operand.tmp 8) (Operand.tmp 39), type := 0, pos := "exact.go:3952", after := #[{ on := 9, ground := Ground.data }, { on := 7, ground := Ground.data }, { on := 5, ground := Ground.chain }, { on := 0, ground := Ground.phase }, { on := 1, ground := Ground.phase }, { on := 2, ground := Ground.phase }, { on := 3, ground := Ground.phase }, { on := 4, ground := Ground.phase }, { on := 5, ground := Ground.phase }, { on := 6, ground := Ground.phase }, { on := 7, ground := Ground.phase }, { on := 8, ground := Ground.textOnly Departure.lateStores }, { on := 9, ground := Ground.phase }], guard := none } : Oper) :: ({ dst := some 9, op := Op.assign (Operand.tmp 40), type := 4, pos := "exact.go:3952", after := #[{ on := 8, ground := Ground.data }, { on := 10, ground := Ground.chain }, { on := 0, ground := Ground.phase }, { on := 1, ground := Ground.phase }, { on := 2, ground := Ground.phase }, { on := 3, ground := Ground.phase }, { on := 4, ground := Ground.phase }, { on := 5, ground := Ground.phase }, { on := 6, ground := Ground.phase }, { on := 7, ground := Ground.phase }, { on := 8, ground := Ground.phase }, { on := 9, ground := Ground.phase }, { on := 10, ground := Ground.phase }], guard := none } : Oper) :: [])) true).wp Tryz.prog Q ⟨#[t0, t1, .string s, .pointer (some ⟨b0, 0, none⟩), .pointer (some ⟨b1x, 0, none⟩), t5, t6, t7, t8, t9, t10, t11, t12, t13, t14, t15, t16, t17, t18, t19, t20, t21, t22, t23, t24, t25, t26, t27, t28, t29, t30, t31, t32, t33, t34, t35, t36, t37, t38, t39, t40, t41, t42, t43, t44, t45, t46, t47, t48, t49, t50, t51, t52, t53, t54, t55, t56, t57, t58, t59, t60, t61, t62, t63, t64, t65, t66, t67, t68, t69, t70, t71, t72, t73, t74, t75, t76, t77, t78, t79, t80, t81, t82, t83, t84, t85, t86, t87, t88, t89, t90, t91, t92, t93, t94, t95, t96, t97, t98, t99, t100, t101, t102, t103, t104, t105, t106, t107, t108, t109, t110, t111, t112, t113, t114, t115, t116, t117, t118, t119, t120, t121, t122, t123, t124, t125, t126], fs⟩ w := by
  have hS : ∀ w', Below w.heap.size w w' → (w'.heap[b0]? = some (.cells #[.slice a1 ns.length c1, .slice a2 is.length c2, .slice a3 ds.length c3] 28 (0, 0)) ∧ w'.heap[b1x]? = some (.cells #[.int .i64 i, .slice ao xs.length cap, .int .i64 m.p, .int .i64 m.s, .int .i64 m.e, .int .i64 m.d, .int .i64 m.t, .int .i64 m.q, .int .i64 m.r, .slice ab bx.length cb, .slice ac ox.length cc] 33 (0, 0))) := fun w' hb => ⟨blk_bel hk hb, blk_bel hx hb⟩
  have B : Below w.heap.size w w.drew := drew_bel w
  refine wp_region_noPanic ?_
  refine wp_region_held_drew (S := fun w' => w'.heap[b0]? = some (.cells #[.slice a1 ns.length c1, .slice a2 is.length c2, .slice a3 ds.length c3] 28 (0, 0)) ∧ w'.heap[b1x]? = some (.cells #[.int .i64 i, .slice ao xs.length cap, .int .i64 m.p, .int .i64 m.s, .int .i64 m.e, .int .i64 m.d, .int .i64 m.t, .int .i64 m.q, .int .i64 m.r, .slice ab bx.length cb, .slice ac ox.length cc] 33 (0, 0))) (by kernel_rfl) (hS _ B) (fun hHeld => ?_)
  refine wpAnyH_take (i := 0) (oi := ({ dst := some 33, op := Op.load 28 (Operand.tmp 3), type := 28, pos := "exact.go:3952", after := #[], guard := none } : Oper)) (v := .agg #[.slice a1 ns.length c1, .slice a2 is.length c2, .slice a3 ds.length c3]) rfl (by kernel_rfl) (by kernel_rfl) (by kernel_rfl) (fun _ _ _ h => h) (yields_row (by rfl) 28 _ rfl b0 rfl #[.slice a1 ns.length c1, .slice a2 is.length c2, .slice a3 ds.length c3] 28 _ (fun _ h => h.1) Tryz.underlying28 rfl Tryz.sizeLCode) (by assumption) ?_
  simp only [Act.put, List.setIfInBounds_toArray, List.set_cons_zero, List.set_cons_succ]
  refine wpAnyH_take (i := 2) (oi := ({ dst := some 35, op := Op.load 33 (Operand.tmp 4), type := 33, pos := "exact.go:3952", after := #[], guard := none } : Oper)) (v := .agg #[.int .i64 i, .slice ao xs.length cap, .int .i64 m.p, .int .i64 m.s, .int .i64 m.e, .int .i64 m.d, .int .i64 m.t, .int .i64 m.q, .int .i64 m.r, .slice ab bx.length cb, .slice ac ox.length cc]) rfl (by kernel_rfl) (by kernel_rfl) (by kernel_rfl) (fun _ _ _ h => h) (yields_row (by rfl) 33 _ rfl b1x rfl #[.int .i64 i, .slice ao xs.length cap, .int .i64 m.p, .int .i64 m.s, .int .i64 m.e, .int .i64 m.d, .int .i64 m.t, .int .i64 m.q, .int .i64 m.r, .slice ab bx.length cb, .slice ac ox.length cc] 33 _ (fun _ h => h.2) Tryz.underlying33 rfl Tryz.sizeLProc) (by assumption) ?_
  simp only [Act.put, List.setIfInBounds_toArray, List.set_cons_zero, List.set_cons_succ]
  refine wpAnyH_take (i := 4) (oi := ({ dst := some 37, op := Op.move (Operand.tmp 2), type := 9, pos := "exact.go:3952", after := #[], guard := none } : Oper)) (v := .string s) rfl (by kernel_rfl) (by kernel_rfl) (by kernel_rfl) (fun _ _ _ h => h) (Or.inl ⟨by rfl, by intro w hSw; go_simp⟩) (by assumption) ?_
  simp only [Act.put, List.setIfInBounds_toArray, List.set_cons_zero, List.set_cons_succ]
  refine wpAnyH_ready (rs := [1, 9]) (by kernel_rfl) (by simp) ?_
  refine AllReadyH.cons rfl (fun K hK => ?_) (AllReadyH.cons rfl (fun K hK => ?_) AllReadyH.nil)
  · go_simp
    go_wp2_with (go_at_call 9; with_reducible refine (tocode_any _ _ _ ns is ds _ (R1.below B) (R2.below B) (R3.below B) l1 l2 l3).mono ?_; rintro e wA ⟨u1, u2, u3, rfl, S1, S2, S3, hb⟩)
    replace B := B.trans (hb.mono B.size)
    obtain ⟨b1, d1, rfl⟩ := S1.small
    obtain ⟨b2, d2, rfl⟩ := S2.small
    obtain ⟨b3, d3, rfl⟩ := S3.small
    clear hb
    refine hK.out _ _ (hS _ B) (fun hHeld => ?_)
    clear hK
    refine wpAnyH_ready (rs := [3, 9]) (by kernel_rfl) (by simp) ?_
    refine AllReadyH.cons rfl (fun K hK => ?_) (AllReadyH.cons rfl (fun K hK => ?_) AllReadyH.nil)
    · go_simp
      go_wp2_with (go_at_call 10; with_reducible refine (toproc_any i _ _ _ xs m bx ox _ (R.below B) (Rb.below B) (Ro.below B) l4 l5 l6).mono ?_; rintro e wP ⟨y1, y2, y3, rfl, P1, P2, P3, hap, hb⟩)
      replace S1 := S1.below hb
      replace S2 := S2.below hb
      replace S3 := S3.below hb
      replace B := B.trans (hb.mono B.size)
      obtain ⟨bo, dap, rfl⟩ := own_form P1
      obtain ⟨bb, db, rfl⟩ := own_form P2
      obtain ⟨bc, dc, rfl⟩ := own_form P3
      have Y := NRow.of_own P1 (by omega) hzx
      have Yb := StRow.of_own P2 (by omega) hzb
      have Yo := StRow.of_own P3 (by omega) hzo
      clear P1 P2 P3 hap
      clear hb
      refine hK.out _ _ (hS _ B) (fun hHeld => ?_)
      clear hK
      refine wpAnyH_ready (rs := [5, 9]) (by kernel_rfl) (by simp) ?_
      refine AllReadyH.cons rfl (fun K hK => ?_) (AllReadyH.cons rfl (fun K hK => ?_) AllReadyH.nil)
      · go_simp
        go_wp2_with (go_at_call 19; with_reducible refine (HC _ _ _ _ _ _ _ S1 S2 S3 Y Yb Yo B).mono ?_; rintro e wZ ⟨⟨y1, y2, y3, rfl, O1, O2, O3, AP⟩, hb⟩; replace O1 := own_mono (B' := w.heap.size) O1 B.size; replace O2 := own_mono (B' := w.heap.size) O2 B.size; replace O3 := own_mono (B' := w.heap.size) O3 B.size)
        replace S1 := S1.below hb
        replace S2 := S2.below hb
        replace S3 := S3.below hb
        replace Y := Y.below hb
        replace Yb := Yb.below hb
        replace Yo := Yo.below hb
        replace B := B.trans (hb.mono B.size)
        obtain ⟨m1, e1, rfl⟩ := own_form O1
        obtain ⟨m2, e2, rfl⟩ := own_form O2
        obtain ⟨m3, e3, rfl⟩ := own_form O3
        clear hb
        refine hK.out _ _ (hS _ B) (fun hHeld => ?_)
        clear hK
        refine wpAnyH_take (i := 6) (oi := ({ dst := some 32, op := Op.move (Operand.tmp 38), type := 53, pos := "exact.go:3952", after := #[{ on := 5, ground := Ground.data }], guard := none } : Oper)) (v := .tuple #[.agg #[.int .i64 I, .slice m1 NX.length e1, .int .i64 M.p, .int .i64 M.s, .int .i64 M.e, .int .i64 M.d, .int .i64 M.t, .int .i64 M.q, .int .i64 M.r, .slice m2 BX.length e2, .slice m3 OX.length e3], .bool ok]) rfl (by kernel_rfl) (by kernel_rfl) (by kernel_rfl) (fun _ _ _ h => h) (Or.inl ⟨by rfl, by intro w hSw; go_simp⟩) (by assumption) ?_
        simp only [Act.put, List.setIfInBounds_toArray, List.set_cons_zero, List.set_cons_succ]
        refine wpAnyH_take (i := 7) (oi := ({ dst := some 39, op := Op.extract (Operand.tmp 32) 0, type := 48, pos := "exact.go:3952", after := #[{ on := 6, ground := Ground.data }], guard := none } : Oper)) (v := .agg #[.int .i64 I, .slice m1 NX.length e1, .int .i64 M.p, .int .i64 M.s, .int .i64 M.e, .int .i64 M.d, .int .i64 M.t, .int .i64 M.q, .int .i64 M.r, .slice m2 BX.length e2, .slice m3 OX.length e3]) rfl (by kernel_rfl) (by kernel_rfl) (by kernel_rfl) (fun _ _ _ h => h) (Or.inl ⟨by rfl, by intro w hSw; go_simp⟩) (by assumption) ?_
        simp only [Act.put, List.setIfInBounds_toArray, List.set_cons_zero, List.set_cons_succ]
        refine wpAnyH_take (i := 8) (oi := ({ dst := some 40, op := Op.extract (Operand.tmp 32) 1, type := 4, pos := "exact.go:3952", after := #[{ on := 6, ground := Ground.data }, { on := 10, ground := Ground.gcOnly Departure.lateStores }], guard := none } : Oper)) (v := .bool ok) rfl (by kernel_rfl) (by kernel_rfl) (by kernel_rfl) (fun _ _ _ h => h) (Or.inl ⟨by rfl, by intro w hSw; go_simp⟩) (by assumption) ?_
        simp only [Act.put, List.setIfInBounds_toArray, List.set_cons_zero, List.set_cons_succ]
        refine wpAnyH_ready (rs := [9]) (by kernel_rfl) (by simp) ?_
        refine AllReadyH.cons rfl (fun K hK => ?_) AllReadyH.nil
        go_simp
        go_wp2_with fail
        have hb := alloc_bel wZ (Obj.cells #[.int .i64 0, .slice none 0 0, .int .i64 0, .int .i64 0, .int .i64 0, .int .i64 0, .int .i64 0, .int .i64 0, .int .i64 0, .slice none 0 0, .slice none 0 0] 48)
        have XB : w.heap.size ≤ wZ.heap.size := B.size
        have X : (wZ.alloc (Obj.cells #[.int .i64 0, .slice none 0 0, .int .i64 0, .int .i64 0, .int .i64 0, .int .i64 0, .int .i64 0, .int .i64 0, .int .i64 0, .slice none 0 0, .slice none 0 0] 48)).heap[wZ.heap.size]? = some (Obj.cells #[.int .i64 0, .slice none 0 0, .int .i64 0, .int .i64 0, .int .i64 0, .int .i64 0, .int .i64 0, .int .i64 0, .int .i64 0, .slice none 0 0, .slice none 0 0] 48) := heap_alloc_new _ _
        generalize wZ.alloc (Obj.cells #[.int .i64 0, .slice none 0 0, .int .i64 0, .int .i64 0, .int .i64 0, .int .i64 0, .int .i64 0, .int .i64 0, .int .i64 0, .slice none 0 0, .slice none 0 0] 48) = wL at hb X ⊢
        replace O1 := own_below O1 hb
        replace O2 := own_below O2 hb
        replace O3 := own_below O3 hb
        replace S1 := S1.below hb
        replace S2 := S2.below hb
        replace S3 := S3.below hb
        replace Y := Y.below hb
        replace Yb := Yb.below hb
        replace Yo := Yo.below hb
        replace B := B.trans (hb.mono B.size)
        clear hb
        refine hK.out _ _ (hS _ B) (fun hHeld => ?_)
        clear hK
        refine wpAnyH_ready (rs := [10]) (by kernel_rfl) (by simp) ?_
        refine AllReadyH.cons rfl (fun K hK => ?_) AllReadyH.nil
        rw [if_pos (by rfl)]
        refine wp_store_row 48 _ _ rfl (wZ.heap.size) #[.int .i64 I, .slice m1 NX.length e1, .int .i64 M.p, .int .i64 M.s, .int .i64 M.e, .int .i64 M.d, .int .i64 M.t, .int .i64 M.q, .int .i64 M.r, .slice m2 BX.length e2, .slice m3 OX.length e3] rfl rfl 48 #[.int .i64 0, .slice none 0 0, .int .i64 0, .int .i64 0, .int .i64 0, .int .i64 0, .int .i64 0, .int .i64 0, .int .i64 0, .slice none 0 0, .slice none 0 0] X Tryz.sizeProc rfl (by simp [Value.oneCell']) ?_
        replace B := below_setRow B (g := wZ.heap.size) XB #[.int .i64 I, .slice m1 NX.length e1, .int .i64 M.p, .int .i64 M.s, .int .i64 M.e, .int .i64 M.d, .int .i64 M.t, .int .i64 M.q, .int .i64 M.r, .slice m2 BX.length e2, .slice m3 OX.length e3]
        replace O1 := own_other O1 (own_ne O1 X (by decide)) (fun j hj => setRow_other _ _ j #[.int .i64 I, .slice m1 NX.length e1, .int .i64 M.p, .int .i64 M.s, .int .i64 M.e, .int .i64 M.d, .int .i64 M.t, .int .i64 M.q, .int .i64 M.r, .slice m2 BX.length e2, .slice m3 OX.length e3] hj)
        replace O2 := own_other O2 (own_ne O2 X (by decide)) (fun j hj => setRow_other _ _ j #[.int .i64 I, .slice m1 NX.length e1, .int .i64 M.p, .int .i64 M.s, .int .i64 M.e, .int .i64 M.d, .int .i64 M.t, .int .i64 M.q, .int .i64 M.r, .slice m2 BX.length e2, .slice m3 OX.length e3] hj)
        replace O3 := own_other O3 (own_ne O3 X (by decide)) (fun j hj => setRow_other _ _ j #[.int .i64 I, .slice m1 NX.length e1, .int .i64 M.p, .int .i64 M.s, .int .i64 M.e, .int .i64 M.d, .int .i64 M.t, .int .i64 M.q, .int .i64 M.r, .slice m2 BX.length e2, .slice m3 OX.length e3] hj)
        replace X := setRow_heap _ _ _ #[.int .i64 I, .slice m1 NX.length e1, .int .i64 M.p, .int .i64 M.s, .int .i64 M.e, .int .i64 M.d, .int .i64 M.t, .int .i64 M.q, .int .i64 M.r, .slice m2 BX.length e2, .slice m3 OX.length e3] _ _ X
        refine hK.out _ _ (hS _ B) (fun hHeld => ?_)
        clear hK
        simp only [Act.put]
        refine wpAnyH_take (i := 11) (oi := ({ dst := some 9, op := Op.assign (Operand.tmp 40), type := 4, pos := "exact.go:3952", after := #[{ on := 8, ground := Ground.data }, { on := 10, ground := Ground.chain }, { on := 0, ground := Ground.phase }, { on := 1, ground := Ground.phase }, { on := 2, ground := Ground.phase }, { on := 3, ground := Ground.phase }, { on := 4, ground := Ground.phase }, { on := 5, ground := Ground.phase }, { on := 6, ground := Ground.phase }, { on := 7, ground := Ground.phase }, { on := 8, ground := Ground.phase }, { on := 9, ground := Ground.phase }, { on := 10, ground := Ground.phase }], guard := none } : Oper)) (v := .bool ok) rfl (by kernel_rfl) (by kernel_rfl) (by kernel_rfl) (fun _ _ _ h => h) (Or.inl ⟨by rfl, by intro w hSw; go_simp⟩) (by assumption) ?_
        simp only [Act.put]
        refine wpAnyH_done (by kernel_rfl) ?_ _
        exact NoPanic.normal (hQ _ _ _ _ _ _ _ _ _ (wZ.heap.size) m1 m2 m3 e1 e2 e3 _ XB B X O1 O2 O3 AP)
      · go_simp
        go_wp2_with fail
        have hb := alloc_bel wP (Obj.cells #[.int .i64 0, .slice none 0 0, .int .i64 0, .int .i64 0, .int .i64 0, .int .i64 0, .int .i64 0, .int .i64 0, .int .i64 0, .slice none 0 0, .slice none 0 0] 48)
        have XB : w.heap.size ≤ wP.heap.size := B.size
        have X : (wP.alloc (Obj.cells #[.int .i64 0, .slice none 0 0, .int .i64 0, .int .i64 0, .int .i64 0, .int .i64 0, .int .i64 0, .int .i64 0, .int .i64 0, .slice none 0 0, .slice none 0 0] 48)).heap[wP.heap.size]? = some (Obj.cells #[.int .i64 0, .slice none 0 0, .int .i64 0, .int .i64 0, .int .i64 0, .int .i64 0, .int .i64 0, .int .i64 0, .int .i64 0, .slice none 0 0, .slice none 0 0] 48) := heap_alloc_new _ _
        generalize wP.alloc (Obj.cells #[.int .i64 0, .slice none 0 0, .int .i64 0, .int .i64 0, .int .i64 0, .int .i64 0, .int .i64 0, .int .i64 0, .int .i64 0, .slice none 0 0, .slice none 0 0] 48) = wL at hb X ⊢
        replace S1 := S1.below hb
        replace S2 := S2.below hb
        replace S3 := S3.below hb
        replace Y := Y.below hb
        replace Yb := Yb.below hb
        replace Yo := Yo.below hb
        replace B := B.trans (hb.mono B.size)
        clear hb
        refine hK.out _ _ (hS _ B) (fun hHeld => ?_)
        clear hK
        refine wpAnyH_ready (rs := [5]) (by kernel_rfl) (by simp) ?_
        refine AllReadyH.cons rfl (fun K hK => ?_) AllReadyH.nil
        go_simp
        go_wp2_with (go_at_call 19; with_reducible refine (HC _ _ _ _ _ _ _ S1 S2 S3 Y Yb Yo B).mono ?_; rintro e wZ ⟨⟨y1, y2, y3, rfl, O1, O2, O3, AP⟩, hb⟩; replace O1 := own_mono (B' := w.heap.size) O1 B.size; replace O2 := own_mono (B' := w.heap.size) O2 B.size; replace O3 := own_mono (B' := w.heap.size) O3 B.size)
        replace S1 := S1.below hb
        replace S2 := S2.below hb
        replace S3 := S3.below hb
        replace X := blk_bel X hb
        replace Y := Y.below hb
        replace Yb := Yb.below hb
        replace Yo := Yo.below hb
        replace B := B.trans (hb.mono B.size)
        obtain ⟨m1, e1, rfl⟩ := own_form O1
        obtain ⟨m2, e2, rfl⟩ := own_form O2
        obtain ⟨m3, e3, rfl⟩ := own_form O3
        clear hb
        refine hK.out _ _ (hS _ B) (fun hHeld => ?_)
        clear hK
        refine wpAnyH_take (i := 6) (oi := ({ dst := some 32, op := Op.move (Operand.tmp 38), type := 53, pos := "exact.go:3952", after := #[{ on := 5, ground := Ground.data }], guard := none } : Oper)) (v := .tuple #[.agg #[.int .i64 I, .slice m1 NX.length e1, .int .i64 M.p, .int .i64 M.s, .int .i64 M.e, .int .i64 M.d, .int .i64 M.t, .int .i64 M.q, .int .i64 M.r, .slice m2 BX.length e2, .slice m3 OX.length e3], .bool ok]) rfl (by kernel_rfl) (by kernel_rfl) (by kernel_rfl) (fun _ _ _ h => h) (Or.inl ⟨by rfl, by intro w hSw; go_simp⟩) (by assumption) ?_
        simp only [Act.put, List.setIfInBounds_toArray, List.set_cons_zero, List.set_cons_succ]
        refine wpAnyH_take (i := 7) (oi := ({ dst := some 39, op := Op.extract (Operand.tmp 32) 0, type := 48, pos := "exact.go:3952", after := #[{ on := 6, ground := Ground.data }], guard := none } : Oper)) (v := .agg #[.int .i64 I, .slice m1 NX.length e1, .int .i64 M.p, .int .i64 M.s, .int .i64 M.e, .int .i64 M.d, .int .i64 M.t, .int .i64 M.q, .int .i64 M.r, .slice m2 BX.length e2, .slice m3 OX.length e3]) rfl (by kernel_rfl) (by kernel_rfl) (by kernel_rfl) (fun _ _ _ h => h) (Or.inl ⟨by rfl, by intro w hSw; go_simp⟩) (by assumption) ?_
        simp only [Act.put, List.setIfInBounds_toArray, List.set_cons_zero, List.set_cons_succ]
        refine wpAnyH_take (i := 8) (oi := ({ dst := some 40, op := Op.extract (Operand.tmp 32) 1, type := 4, pos := "exact.go:3952", after := #[{ on := 6, ground := Ground.data }, { on := 10, ground := Ground.gcOnly Departure.lateStores }], guard := none } : Oper)) (v := .bool ok) rfl (by kernel_rfl) (by kernel_rfl) (by kernel_rfl) (fun _ _ _ h => h) (Or.inl ⟨by rfl, by intro w hSw; go_simp⟩) (by assumption) ?_
        simp only [Act.put, List.setIfInBounds_toArray, List.set_cons_zero, List.set_cons_succ]
        refine wpAnyH_ready (rs := [10]) (by kernel_rfl) (by simp) ?_
        refine AllReadyH.cons rfl (fun K hK => ?_) AllReadyH.nil
        rw [if_pos (by rfl)]
        refine wp_store_row 48 _ _ rfl (wP.heap.size) #[.int .i64 I, .slice m1 NX.length e1, .int .i64 M.p, .int .i64 M.s, .int .i64 M.e, .int .i64 M.d, .int .i64 M.t, .int .i64 M.q, .int .i64 M.r, .slice m2 BX.length e2, .slice m3 OX.length e3] rfl rfl 48 #[.int .i64 0, .slice none 0 0, .int .i64 0, .int .i64 0, .int .i64 0, .int .i64 0, .int .i64 0, .int .i64 0, .int .i64 0, .slice none 0 0, .slice none 0 0] X Tryz.sizeProc rfl (by simp [Value.oneCell']) ?_
        replace B := below_setRow B (g := wP.heap.size) XB #[.int .i64 I, .slice m1 NX.length e1, .int .i64 M.p, .int .i64 M.s, .int .i64 M.e, .int .i64 M.d, .int .i64 M.t, .int .i64 M.q, .int .i64 M.r, .slice m2 BX.length e2, .slice m3 OX.length e3]
        replace O1 := own_other O1 (own_ne O1 X (by decide)) (fun j hj => setRow_other _ _ j #[.int .i64 I, .slice m1 NX.length e1, .int .i64 M.p, .int .i64 M.s, .int .i64 M.e, .int .i64 M.d, .int .i64 M.t, .int .i64 M.q, .int .i64 M.r, .slice m2 BX.length e2, .slice m3 OX.length e3] hj)
        replace O2 := own_other O2 (own_ne O2 X (by decide)) (fun j hj => setRow_other _ _ j #[.int .i64 I, .slice m1 NX.length e1, .int .i64 M.p, .int .i64 M.s, .int .i64 M.e, .int .i64 M.d, .int .i64 M.t, .int .i64 M.q, .int .i64 M.r, .slice m2 BX.length e2, .slice m3 OX.length e3] hj)
        replace O3 := own_other O3 (own_ne O3 X (by decide)) (fun j hj => setRow_other _ _ j #[.int .i64 I, .slice m1 NX.length e1, .int .i64 M.p, .int .i64 M.s, .int .i64 M.e, .int .i64 M.d, .int .i64 M.t, .int .i64 M.q, .int .i64 M.r, .slice m2 BX.length e2, .slice m3 OX.length e3] hj)
        replace X := setRow_heap _ _ _ #[.int .i64 I, .slice m1 NX.length e1, .int .i64 M.p, .int .i64 M.s, .int .i64 M.e, .int .i64 M.d, .int .i64 M.t, .int .i64 M.q, .int .i64 M.r, .slice m2 BX.length e2, .slice m3 OX.length e3] _ _ X
        refine hK.out _ _ (hS _ B) (fun hHeld => ?_)
        clear hK
        simp only [Act.put]
        refine wpAnyH_take (i := 11) (oi := ({ dst := some 9, op := Op.assign (Operand.tmp 40), type := 4, pos := "exact.go:3952", after := #[{ on := 8, ground := Ground.data }, { on := 10, ground := Ground.chain }, { on := 0, ground := Ground.phase }, { on := 1, ground := Ground.phase }, { on := 2, ground := Ground.phase }, { on := 3, ground := Ground.phase }, { on := 4, ground := Ground.phase }, { on := 5, ground := Ground.phase }, { on := 6, ground := Ground.phase }, { on := 7, ground := Ground.phase }, { on := 8, ground := Ground.phase }, { on := 9, ground := Ground.phase }, { on := 10, ground := Ground.phase }], guard := none } : Oper)) (v := .bool ok) rfl (by kernel_rfl) (by kernel_rfl) (by kernel_rfl) (fun _ _ _ h => h) (Or.inl ⟨by rfl, by intro w hSw; go_simp⟩) (by assumption) ?_
        simp only [Act.put]
        refine wpAnyH_done (by kernel_rfl) ?_ _
        exact NoPanic.normal (hQ _ _ _ _ _ _ _ _ _ (wP.heap.size) m1 m2 m3 e1 e2 e3 _ XB B X O1 O2 O3 AP)
    · go_simp
      go_wp2_with fail
      have hb := alloc_bel wA (Obj.cells #[.int .i64 0, .slice none 0 0, .int .i64 0, .int .i64 0, .int .i64 0, .int .i64 0, .int .i64 0, .int .i64 0, .int .i64 0, .slice none 0 0, .slice none 0 0] 48)
      have XB : w.heap.size ≤ wA.heap.size := B.size
      have X : (wA.alloc (Obj.cells #[.int .i64 0, .slice none 0 0, .int .i64 0, .int .i64 0, .int .i64 0, .int .i64 0, .int .i64 0, .int .i64 0, .int .i64 0, .slice none 0 0, .slice none 0 0] 48)).heap[wA.heap.size]? = some (Obj.cells #[.int .i64 0, .slice none 0 0, .int .i64 0, .int .i64 0, .int .i64 0, .int .i64 0, .int .i64 0, .int .i64 0, .int .i64 0, .slice none 0 0, .slice none 0 0] 48) := heap_alloc_new _ _
      generalize wA.alloc (Obj.cells #[.int .i64 0, .slice none 0 0, .int .i64 0, .int .i64 0, .int .i64 0, .int .i64 0, .int .i64 0, .int .i64 0, .int .i64 0, .slice none 0 0, .slice none 0 0] 48) = wL at hb X ⊢
      replace S1 := S1.below hb
      replace S2 := S2.below hb
      replace S3 := S3.below hb
      replace B := B.trans (hb.mono B.size)
      clear hb
      refine hK.out _ _ (hS _ B) (fun hHeld => ?_)
      clear hK
      refine wpAnyH_ready (rs := [3]) (by kernel_rfl) (by simp) ?_
      refine AllReadyH.cons rfl (fun K hK => ?_) AllReadyH.nil
      go_simp
      go_wp2_with (go_at_call 10; with_reducible refine (toproc_any i _ _ _ xs m bx ox _ (R.below B) (Rb.below B) (Ro.below B) l4 l5 l6).mono ?_; rintro e wP ⟨y1, y2, y3, rfl, P1, P2, P3, hap, hb⟩)
      replace S1 := S1.below hb
      replace S2 := S2.below hb
      replace S3 := S3.below hb
      replace X := blk_bel X hb
      replace B := B.trans (hb.mono B.size)
      obtain ⟨bo, dap, rfl⟩ := own_form P1
      obtain ⟨bb, db, rfl⟩ := own_form P2
      obtain ⟨bc, dc, rfl⟩ := own_form P3
      have Y := NRow.of_own P1 (by omega) hzx
      have Yb := StRow.of_own P2 (by omega) hzb
      have Yo := StRow.of_own P3 (by omega) hzo
      clear P1 P2 P3 hap
      clear hb
      refine hK.out _ _ (hS _ B) (fun hHeld => ?_)
      clear hK
      refine wpAnyH_ready (rs := [5]) (by kernel_rfl) (by simp) ?_
      refine AllReadyH.cons rfl (fun K hK => ?_) AllReadyH.nil
      go_simp
      go_wp2_with (go_at_call 19; with_reducible refine (HC _ _ _ _ _ _ _ S1 S2 S3 Y Yb Yo B).mono ?_; rintro e wZ ⟨⟨y1, y2, y3, rfl, O1, O2, O3, AP⟩, hb⟩; replace O1 := own_mono (B' := w.heap.size) O1 B.size; replace O2 := own_mono (B' := w.heap.size) O2 B.size; replace O3 := own_mono (B' := w.heap.size) O3 B.size)
      replace S1 := S1.below hb
      replace S2 := S2.below hb
      replace S3 := S3.below hb
      replace X := blk_bel X hb
      replace Y := Y.below hb
      replace Yb := Yb.below hb
      replace Yo := Yo.below hb
      replace B := B.trans (hb.mono B.size)
      obtain ⟨m1, e1, rfl⟩ := own_form O1
      obtain ⟨m2, e2, rfl⟩ := own_form O2
      obtain ⟨m3, e3, rfl⟩ := own_form O3
      clear hb
      refine hK.out _ _ (hS _ B) (fun hHeld => ?_)
      clear hK
      refine wpAnyH_take (i := 6) (oi := ({ dst := some 32, op := Op.move (Operand.tmp 38), type := 53, pos := "exact.go:3952", after := #[{ on := 5, ground := Ground.data }], guard := none } : Oper)) (v := .tuple #[.agg #[.int .i64 I, .slice m1 NX.length e1, .int .i64 M.p, .int .i64 M.s, .int .i64 M.e, .int .i64 M.d, .int .i64 M.t, .int .i64 M.q, .int .i64 M.r, .slice m2 BX.length e2, .slice m3 OX.length e3], .bool ok]) rfl (by kernel_rfl) (by kernel_rfl) (by kernel_rfl) (fun _ _ _ h => h) (Or.inl ⟨by rfl, by intro w hSw; go_simp⟩) (by assumption) ?_
      simp only [Act.put, List.setIfInBounds_toArray, List.set_cons_zero, List.set_cons_succ]
      refine wpAnyH_take (i := 7) (oi := ({ dst := some 39, op := Op.extract (Operand.tmp 32) 0, type := 48, pos := "exact.go:3952", after := #[{ on := 6, ground := Ground.data }], guard := none } : Oper)) (v := .agg #[.int .i64 I, .slice m1 NX.length e1, .int .i64 M.p, .int .i64 M.s, .int .i64 M.e, .int .i64 M.d, .int .i64 M.t, .int .i64 M.q, .int .i64 M.r, .slice m2 BX.length e2, .slice m3 OX.length e3]) rfl (by kernel_rfl) (by kernel_rfl) (by kernel_rfl) (fun _ _ _ h => h) (Or.inl ⟨by rfl, by intro w hSw; go_simp⟩) (by assumption) ?_
      simp only [Act.put, List.setIfInBounds_toArray, List.set_cons_zero, List.set_cons_succ]
      refine wpAnyH_take (i := 8) (oi := ({ dst := some 40, op := Op.extract (Operand.tmp 32) 1, type := 4, pos := "exact.go:3952", after := #[{ on := 6, ground := Ground.data }, { on := 10, ground := Ground.gcOnly Departure.lateStores }], guard := none } : Oper)) (v := .bool ok) rfl (by kernel_rfl) (by kernel_rfl) (by kernel_rfl) (fun _ _ _ h => h) (Or.inl ⟨by rfl, by intro w hSw; go_simp⟩) (by assumption) ?_
      simp only [Act.put, List.setIfInBounds_toArray, List.set_cons_zero, List.set_cons_succ]
      refine wpAnyH_ready (rs := [10]) (by kernel_rfl) (by simp) ?_
      refine AllReadyH.cons rfl (fun K hK => ?_) AllReadyH.nil
      rw [if_pos (by rfl)]
      refine wp_store_row 48 _ _ rfl (wA.heap.size) #[.int .i64 I, .slice m1 NX.length e1, .int .i64 M.p, .int .i64 M.s, .int .i64 M.e, .int .i64 M.d, .int .i64 M.t, .int .i64 M.q, .int .i64 M.r, .slice m2 BX.length e2, .slice m3 OX.length e3] rfl rfl 48 #[.int .i64 0, .slice none 0 0, .int .i64 0, .int .i64 0, .int .i64 0, .int .i64 0, .int .i64 0, .int .i64 0, .int .i64 0, .slice none 0 0, .slice none 0 0] X Tryz.sizeProc rfl (by simp [Value.oneCell']) ?_
      replace B := below_setRow B (g := wA.heap.size) XB #[.int .i64 I, .slice m1 NX.length e1, .int .i64 M.p, .int .i64 M.s, .int .i64 M.e, .int .i64 M.d, .int .i64 M.t, .int .i64 M.q, .int .i64 M.r, .slice m2 BX.length e2, .slice m3 OX.length e3]
      replace O1 := own_other O1 (own_ne O1 X (by decide)) (fun j hj => setRow_other _ _ j #[.int .i64 I, .slice m1 NX.length e1, .int .i64 M.p, .int .i64 M.s, .int .i64 M.e, .int .i64 M.d, .int .i64 M.t, .int .i64 M.q, .int .i64 M.r, .slice m2 BX.length e2, .slice m3 OX.length e3] hj)
      replace O2 := own_other O2 (own_ne O2 X (by decide)) (fun j hj => setRow_other _ _ j #[.int .i64 I, .slice m1 NX.length e1, .int .i64 M.p, .int .i64 M.s, .int .i64 M.e, .int .i64 M.d, .int .i64 M.t, .int .i64 M.q, .int .i64 M.r, .slice m2 BX.length e2, .slice m3 OX.length e3] hj)
      replace O3 := own_other O3 (own_ne O3 X (by decide)) (fun j hj => setRow_other _ _ j #[.int .i64 I, .slice m1 NX.length e1, .int .i64 M.p, .int .i64 M.s, .int .i64 M.e, .int .i64 M.d, .int .i64 M.t, .int .i64 M.q, .int .i64 M.r, .slice m2 BX.length e2, .slice m3 OX.length e3] hj)
      replace X := setRow_heap _ _ _ #[.int .i64 I, .slice m1 NX.length e1, .int .i64 M.p, .int .i64 M.s, .int .i64 M.e, .int .i64 M.d, .int .i64 M.t, .int .i64 M.q, .int .i64 M.r, .slice m2 BX.length e2, .slice m3 OX.length e3] _ _ X
      refine hK.out _ _ (hS _ B) (fun hHeld => ?_)
      clear hK
      simp only [Act.put]
      refine wpAnyH_take (i := 11) (oi := ({ dst := some 9, op := Op.assign (Operand.tmp 40), type := 4, pos := "exact.go:3952", after := #[{ on := 8, ground := Ground.data }, { on := 10, ground := Ground.chain }, { on := 0, ground := Ground.phase }, { on := 1, ground := Ground.phase }, { on := 2, ground := Ground.phase }, { on := 3, ground := Ground.phase }, { on := 4, ground := Ground.phase }, { on := 5, ground := Ground.phase }, { on := 6, ground := Ground.phase }, { on := 7, ground := Ground.phase }, { on := 8, ground := Ground.phase }, { on := 9, ground := Ground.phase }, { on := 10, ground := Ground.phase }], guard := none } : Oper)) (v := .bool ok) rfl (by kernel_rfl) (by kernel_rfl) (by kernel_rfl) (fun _ _ _ h => h) (Or.inl ⟨by rfl, by intro w hSw; go_simp⟩) (by assumption) ?_
      simp only [Act.put]
      refine wpAnyH_done (by kernel_rfl) ?_ _
      exact NoPanic.normal (hQ _ _ _ _ _ _ _ _ _ (wA.heap.size) m1 m2 m3 e1 e2 e3 _ XB B X O1 O2 O3 AP)
  · go_simp
    go_wp2_with fail
    have XB : w.heap.size ≤ w.heap.size := Nat.le_refl _
    have hb : Below w.heap.size w (w.alloc (Obj.cells #[.int .i64 0, .slice none 0 0, .int .i64 0, .int .i64 0, .int .i64 0, .int .i64 0, .int .i64 0, .int .i64 0, .int .i64 0, .slice none 0 0, .slice none 0 0] 48)).drew := ((Below.refl _ _).alloc (Nat.le_refl _) _).drew
    have X : (w.alloc (Obj.cells #[.int .i64 0, .slice none 0 0, .int .i64 0, .int .i64 0, .int .i64 0, .int .i64 0, .int .i64 0, .int .i64 0, .int .i64 0, .slice none 0 0, .slice none 0 0] 48)).drew.heap[w.heap.size]? = some (Obj.cells #[.int .i64 0, .slice none 0 0, .int .i64 0, .int .i64 0, .int .i64 0, .int .i64 0, .int .i64 0, .int .i64 0, .int .i64 0, .slice none 0 0, .slice none 0 0] 48) := heap_alloc_new w _
    generalize (w.alloc (Obj.cells #[.int .i64 0, .slice none 0 0, .int .i64 0, .int .i64 0, .int .i64 0, .int .i64 0, .int .i64 0, .int .i64 0, .int .i64 0, .slice none 0 0, .slice none 0 0] 48)).drew = wL at hb X ⊢
    replace B := hb
    clear hb
    refine hK.out _ _ (hS _ B) (fun hHeld => ?_)
    clear hK
    refine wpAnyH_ready (rs := [1]) (by kernel_rfl) (by simp) ?_
    refine AllReadyH.cons rfl (fun K hK => ?_) AllReadyH.nil
    go_simp
    go_wp2_with (go_at_call 9; with_reducible refine (tocode_any _ _ _ ns is ds _ (R1.below B) (R2.below B) (R3.below B) l1 l2 l3).mono ?_; rintro e wA ⟨u1, u2, u3, rfl, S1, S2, S3, hb⟩)
    replace X := blk_bel X hb
    replace B := B.trans (hb.mono B.size)
    obtain ⟨b1, d1, rfl⟩ := S1.small
    obtain ⟨b2, d2, rfl⟩ := S2.small
    obtain ⟨b3, d3, rfl⟩ := S3.small
    clear hb
    refine hK.out _ _ (hS _ B) (fun hHeld => ?_)
    clear hK
    refine wpAnyH_ready (rs := [3]) (by kernel_rfl) (by simp) ?_
    refine AllReadyH.cons rfl (fun K hK => ?_) AllReadyH.nil
    go_simp
    go_wp2_with (go_at_call 10; with_reducible refine (toproc_any i _ _ _ xs m bx ox _ (R.below B) (Rb.below B) (Ro.below B) l4 l5 l6).mono ?_; rintro e wP ⟨y1, y2, y3, rfl, P1, P2, P3, hap, hb⟩)
    replace S1 := S1.below hb
    replace S2 := S2.below hb
    replace S3 := S3.below hb
    replace X := blk_bel X hb
    replace B := B.trans (hb.mono B.size)
    obtain ⟨bo, dap, rfl⟩ := own_form P1
    obtain ⟨bb, db, rfl⟩ := own_form P2
    obtain ⟨bc, dc, rfl⟩ := own_form P3
    have Y := NRow.of_own P1 (by omega) hzx
    have Yb := StRow.of_own P2 (by omega) hzb
    have Yo := StRow.of_own P3 (by omega) hzo
    clear P1 P2 P3 hap
    clear hb
    refine hK.out _ _ (hS _ B) (fun hHeld => ?_)
    clear hK
    refine wpAnyH_ready (rs := [5]) (by kernel_rfl) (by simp) ?_
    refine AllReadyH.cons rfl (fun K hK => ?_) AllReadyH.nil
    go_simp
    go_wp2_with (go_at_call 19; with_reducible refine (HC _ _ _ _ _ _ _ S1 S2 S3 Y Yb Yo B).mono ?_; rintro e wZ ⟨⟨y1, y2, y3, rfl, O1, O2, O3, AP⟩, hb⟩; replace O1 := own_mono (B' := w.heap.size) O1 B.size; replace O2 := own_mono (B' := w.heap.size) O2 B.size; replace O3 := own_mono (B' := w.heap.size) O3 B.size)
    replace S1 := S1.below hb
    replace S2 := S2.below hb
    replace S3 := S3.below hb
    replace X := blk_bel X hb
    replace Y := Y.below hb
    replace Yb := Yb.below hb
    replace Yo := Yo.below hb
    replace B := B.trans (hb.mono B.size)
    obtain ⟨m1, e1, rfl⟩ := own_form O1
    obtain ⟨m2, e2, rfl⟩ := own_form O2
    obtain ⟨m3, e3, rfl⟩ := own_form O3
    clear hb
    refine hK.out _ _ (hS _ B) (fun hHeld => ?_)
    clear hK
    refine wpAnyH_take (i := 6) (oi := ({ dst := some 32, op := Op.move (Operand.tmp 38), type := 53, pos := "exact.go:3952", after := #[{ on := 5, ground := Ground.data }], guard := none } : Oper)) (v := .tuple #[.agg #[.int .i64 I, .slice m1 NX.length e1, .int .i64 M.p, .int .i64 M.s, .int .i64 M.e, .int .i64 M.d, .int .i64 M.t, .int .i64 M.q, .int .i64 M.r, .slice m2 BX.length e2, .slice m3 OX.length e3], .bool ok]) rfl (by kernel_rfl) (by kernel_rfl) (by kernel_rfl) (fun _ _ _ h => h) (Or.inl ⟨by rfl, by intro w hSw; go_simp⟩) (by assumption) ?_
    simp only [Act.put, List.setIfInBounds_toArray, List.set_cons_zero, List.set_cons_succ]
    refine wpAnyH_take (i := 7) (oi := ({ dst := some 39, op := Op.extract (Operand.tmp 32) 0, type := 48, pos := "exact.go:3952", after := #[{ on := 6, ground := Ground.data }], guard := none } : Oper)) (v := .agg #[.int .i64 I, .slice m1 NX.length e1, .int .i64 M.p, .int .i64 M.s, .int .i64 M.e, .int .i64 M.d, .int .i64 M.t, .int .i64 M.q, .int .i64 M.r, .slice m2 BX.length e2, .slice m3 OX.length e3]) rfl (by kernel_rfl) (by kernel_rfl) (by kernel_rfl) (fun _ _ _ h => h) (Or.inl ⟨by rfl, by intro w hSw; go_simp⟩) (by assumption) ?_
    simp only [Act.put, List.setIfInBounds_toArray, List.set_cons_zero, List.set_cons_succ]
    refine wpAnyH_take (i := 8) (oi := ({ dst := some 40, op := Op.extract (Operand.tmp 32) 1, type := 4, pos := "exact.go:3952", after := #[{ on := 6, ground := Ground.data }, { on := 10, ground := Ground.gcOnly Departure.lateStores }], guard := none } : Oper)) (v := .bool ok) rfl (by kernel_rfl) (by kernel_rfl) (by kernel_rfl) (fun _ _ _ h => h) (Or.inl ⟨by rfl, by intro w hSw; go_simp⟩) (by assumption) ?_
    simp only [Act.put, List.setIfInBounds_toArray, List.set_cons_zero, List.set_cons_succ]
    refine wpAnyH_ready (rs := [10]) (by kernel_rfl) (by simp) ?_
    refine AllReadyH.cons rfl (fun K hK => ?_) AllReadyH.nil
    rw [if_pos (by rfl)]
    refine wp_store_row 48 _ _ rfl (w.heap.size) #[.int .i64 I, .slice m1 NX.length e1, .int .i64 M.p, .int .i64 M.s, .int .i64 M.e, .int .i64 M.d, .int .i64 M.t, .int .i64 M.q, .int .i64 M.r, .slice m2 BX.length e2, .slice m3 OX.length e3] rfl rfl 48 #[.int .i64 0, .slice none 0 0, .int .i64 0, .int .i64 0, .int .i64 0, .int .i64 0, .int .i64 0, .int .i64 0, .int .i64 0, .slice none 0 0, .slice none 0 0] X Tryz.sizeProc rfl (by simp [Value.oneCell']) ?_
    replace B := below_setRow B (g := w.heap.size) XB #[.int .i64 I, .slice m1 NX.length e1, .int .i64 M.p, .int .i64 M.s, .int .i64 M.e, .int .i64 M.d, .int .i64 M.t, .int .i64 M.q, .int .i64 M.r, .slice m2 BX.length e2, .slice m3 OX.length e3]
    replace O1 := own_other O1 (own_ne O1 X (by decide)) (fun j hj => setRow_other _ _ j #[.int .i64 I, .slice m1 NX.length e1, .int .i64 M.p, .int .i64 M.s, .int .i64 M.e, .int .i64 M.d, .int .i64 M.t, .int .i64 M.q, .int .i64 M.r, .slice m2 BX.length e2, .slice m3 OX.length e3] hj)
    replace O2 := own_other O2 (own_ne O2 X (by decide)) (fun j hj => setRow_other _ _ j #[.int .i64 I, .slice m1 NX.length e1, .int .i64 M.p, .int .i64 M.s, .int .i64 M.e, .int .i64 M.d, .int .i64 M.t, .int .i64 M.q, .int .i64 M.r, .slice m2 BX.length e2, .slice m3 OX.length e3] hj)
    replace O3 := own_other O3 (own_ne O3 X (by decide)) (fun j hj => setRow_other _ _ j #[.int .i64 I, .slice m1 NX.length e1, .int .i64 M.p, .int .i64 M.s, .int .i64 M.e, .int .i64 M.d, .int .i64 M.t, .int .i64 M.q, .int .i64 M.r, .slice m2 BX.length e2, .slice m3 OX.length e3] hj)
    replace X := setRow_heap _ _ _ #[.int .i64 I, .slice m1 NX.length e1, .int .i64 M.p, .int .i64 M.s, .int .i64 M.e, .int .i64 M.d, .int .i64 M.t, .int .i64 M.q, .int .i64 M.r, .slice m2 BX.length e2, .slice m3 OX.length e3] _ _ X
    refine hK.out _ _ (hS _ B) (fun hHeld => ?_)
    clear hK
    simp only [Act.put]
    refine wpAnyH_take (i := 11) (oi := ({ dst := some 9, op := Op.assign (Operand.tmp 40), type := 4, pos := "exact.go:3952", after := #[{ on := 8, ground := Ground.data }, { on := 10, ground := Ground.chain }, { on := 0, ground := Ground.phase }, { on := 1, ground := Ground.phase }, { on := 2, ground := Ground.phase }, { on := 3, ground := Ground.phase }, { on := 4, ground := Ground.phase }, { on := 5, ground := Ground.phase }, { on := 6, ground := Ground.phase }, { on := 7, ground := Ground.phase }, { on := 8, ground := Ground.phase }, { on := 9, ground := Ground.phase }, { on := 10, ground := Ground.phase }], guard := none } : Oper)) (v := .bool ok) rfl (by kernel_rfl) (by kernel_rfl) (by kernel_rfl) (fun _ _ _ h => h) (Or.inl ⟨by rfl, by intro w hSw; go_simp⟩) (by assumption) ?_
    simp only [Act.put]
    refine wpAnyH_done (by kernel_rfl) ?_ _
    exact NoPanic.normal (hQ _ _ _ _ _ _ _ _ _ (w.heap.size) m1 m2 m3 e1 e2 e3 _ XB B X O1 O2 O3 AP)

set_option maxRecDepth 100000 in
set_option maxHeartbeats 6400000 in
theorem prpt_r33 {t0 t1 t5 t6 t7 t8 t9 t10 t11 t12 t13 t14 t15 t16 t17 t18 t19 t20 t21 t22 t23 t24 t25 t26 t27 t28 t29 t30 t31 t32 t33 t34 t35 t36 t37 t38 t39 t40 t41 t42 t43 t44 t45 t46 t47 t48 t49 t50 t51 t52 t53 t54 t55 t56 t57 t58 t59 t60 t61 t62 t63 t64 t65 t66 t67 t68 t69 t70 t71 t72 t73 t74 t75 t76 t77 t78 t79 t80 t81 t82 t83 t84 t85 t86 t87 t88 t89 t90 t91 t92 t93 t94 t95 t96 t97 t98 t99 t100 t101 t102 t103 t104 t105 t106 t107 t108 t109 t110 t111 t112 t113 t114 t115 t116 t117 t118 t119 t120 t121 t122 t123 t124 t125 t126 : Value} {fs : List Deferred} (b0 b1x : Nat) (a1 a2 a3 ao ab ac : Option Addr) (c1 c2 c3 cap cb cc : Nat) (ns : List Nd) (is : List In) (ds : List Df) (i : Int) (xs : List Nd) (m : Mc) (bx ox : List ByteArray) (s : ByteArray) (I : Int) (NX : List Nd) (M : Mc) (BX OX : List ByteArray) (ok : Bool) (w : World) (Q : Exit → Act → World → Prop)
    (hk : w.heap[b0]? = some (.cells #[.slice a1 ns.length c1, .slice a2 is.length c2, .slice a3 ds.length c3] 28 (0, 0))) (hx : w.heap[b1x]? = some (.cells #[.int .i64 i, .slice ao xs.length cap, .int .i64 m.p, .int .i64 m.s, .int .i64 m.e, .int .i64 m.d, .int .i64 m.t, .int .i64 m.q, .int .i64 m.r, .slice ab bx.length cb, .slice ac ox.length cc] 33 (0, 0))) (R1 : NRow w (.slice a1 ns.length c1) ns) (R2 : InRow w (.slice a2 is.length c2) is) (R3 : DfRow w (.slice a3 ds.length c3) ds) (R : NRow w (.slice ao xs.length cap) xs) (Rb : StRow w (.slice ab bx.length cb) bx) (Ro : StRow w (.slice ac ox.length cc) ox) (l1 : ns.length ≤ 2097152) (l2 : is.length ≤ 2097152) (l3 : ds.length ≤ 2097152) (l4 : xs.length ≤ 2097152) (l5 : bx.length ≤ 2097152) (l6 : ox.length ≤ 2097152) (hzx : ∀ x ∈ xs, x.s.size ≤ maxLen) (hzb : ∀ x ∈ bx, x.size ≤ maxLen) (hzo : ∀ x ∈ ox, x.size ≤ maxLen) (HC : ∀ (x1 x2 x3 y yb yo : Value) (W : World), NRow W x1 ns → InRow W x2 is → DfRow W x3 ds → NRow W y xs → StRow W yb bx → StRow W yo ox → Below w.heap.size w W → Calls Tryz.prog 20 #[.agg #[x1, x2, x3], .agg #[.int .i64 i, y, .int .i64 m.p, .int .i64 m.s, .int .i64 m.e, .int .i64 m.d, .int .i64 m.t, .int .i64 m.q, .int .i64 m.r, yb, yo], .string s] W fun e W' => (∃ v1 v2 v3, e = .returned (.tuple #[.agg #[.int .i64 I, v1, .int .i64 M.p, .int .i64 M.s, .int .i64 M.e, .int .i64 M.d, .int .i64 M.t, .int .i64 M.q, .int .i64 M.r, v2, v3], .bool ok]) ∧ W'.ownsRow W.heap.size 119 5 v1 NX.length (ncs NX) ∧ W'.ownsRow W.heap.size 9 1 v2 BX.length (stv BX) ∧ W'.ownsRow W.heap.size 9 1 v3 OX.length (stv OX) ∧ ∀ g, v3.ownBlock = some g → v2.ownBlock ≠ some g) ∧ Below W.heap.size W W')
    (hQ : ∀ u102 u103 u104 u105 u106 u107 u101 u108 u109 (b : Nat) (m1 m2 m3 : Option Addr) (e1 e2 e3 : Nat) (W : World), w.heap.size ≤ b → Below w.heap.size w W → W.heap[b]? = some (.cells #[.int .i64 I, .slice m1 NX.length e1, .int .i64 M.p, .int .i64 M.s, .int .i64 M.e, .int .i64 M.d, .int .i64 M.t, .int .i64 M.q, .int .i64 M.r, .slice m2 BX.length e2, .slice m3 OX.length e3] 48 (0, 0)) → W.ownsRow w.heap.size 119 5 (.slice m1 NX.length e1) NX.length (ncs NX) → W.ownsRow w.heap.size 9 1 (.slice m2 BX.length e2) BX.length (stv BX) → W.ownsRow w.heap.size 9 1 (.slice m3 OX.length e3) OX.length (stv OX) → (∀ g, (Value.slice m3 OX.length e3).ownBlock = some g → (Value.slice m2 BX.length e2).ownBlock ≠ some g) → Q .normal ⟨#[t0, t1, .string s, .pointer (some ⟨b0, 0, none⟩), .pointer (some ⟨b1x, 0, none⟩), t5, t6, t7, t8, t9, t10, t11, t12, t13, t14, t15, t16, .pointer (some ⟨b, 0, none⟩), .bool ok, t19, t20, t21, t22, t23, t24, t25, t26, t27, t28, t29, t30, t31, t32, t33, t34, t35, t36, t37, t38, t39, t40, t41, t42, t43, t44, t45, t46, t47, t48, t49, t50, t51, t52, t53, t54, t55, t56, t57, t58, t59, t60, t61, t62, t63, t64, t65, t66, t67, t68, t69, t70, t71, t72, t73, t74, t75, t76, t77, t78, t79, t80, t81, t82, t83, t84, t85, t86, t87, t88, t89, t90, t91, t92, t93, t94, t95, t96, t97, t98, t99, t100, u101, u102, u103, u104, u105, u106, u107, u108, u109, t110, t111, t112, t113, t114, t115, t116, t117, t118, t119, t120, t121, t122, t123, t124, t125, t126], fs⟩ W) :
    (Code.region 33 (List.toArray (({ dst := some 102, op := Op.load 28 (Operand.tmp 3), type := 28, pos := "exact.go:3981", after := #[], guard := none } : Oper) :: ({ dst := some 103, op := Op.call { callee := Callee.value (Operand.func 9), args := #[Operand.tmp 102], argTypes := #[28] }, type := 43, pos := "exact.go:3981", after := #[{ on := 0, ground := Ground.data }], guard := none } : Oper) :: ({ dst := some 104, op := Op.load 33 (Operand.tmp 4), type := 33, pos := "exact.go:3981", after := #[], guard := none } : Oper) :: ({ dst := some 105, op := Op.call { callee := Callee.value (Operand.func 10), args := #[Operand.tmp 104], argTypes := #[33] }, type := 48, pos := "exact.go:3981", after := #[{ on := 2, ground := Ground.data }, { on := 1, ground := Ground.chain }], guard := none } : Oper) :: ({ dst := some 106, op := Op.move (Operand.tmp 2), type := 9, pos := "exact.go:3981", after := #[], guard := none } : Oper) :: ({ dst := some 107, op := Op.call { callee := Callee.value (Operand.func 20), args := #[Operand.tmp 103, Operand.tmp 105, Operand.tmp 106], argTypes := #[43, 48, 9] }, type := 53, pos := "exact.go:3981", after := #[{ on := 1, ground := Ground.data }, { on := 3, ground := Ground.data }, { on := 4, ground := Ground.data }, { on := 3, ground := Ground.chain }], guard := none } : Oper) :: ({ dst := some 101, op := Op.move (Operand.tmp 107), type := 53, pos := "exact.go:3981", after := #[{ on := 5, ground := Ground.data }], guard := none } : Oper) :: ({ dst := some 108, op := Op.extract (Operand.tmp 101) 0, type := 48, pos := "exact.go:3981", after := #[{ on := 6, ground := Ground.data }], guard := none } : Oper) :: ({ dst := some 109, op := Op.extract (Operand.tmp 101) 1, type := 4, pos := "exact.go:3981", after := #[{ on := 6, ground := Ground.data }, { on := 10, ground := Ground.gcOnly Departure.lateStores }], guard := none } : Oper) :: ({ dst := some 17, op := Op.alloc 48, type := 0, pos := "exact.go:3981", after := #[], guard := none } : Oper) :: ({ dst := none, op := Op.store 48 (Operand.tmp 17) (Operand.tmp 108), type := 0, pos := "exact.go:3981", after := #[{ on := 9, ground := Ground.data }, { on := 7, ground := Ground.data }, { on := 5, ground := Ground.chain }, { on := 0, ground := Ground.phase }, { on := 1, ground := Ground.phase }, { on := 2, ground := Ground.phase }, { on := 3, ground := Ground.phase }, { on := 4, ground := Ground.phase }, { on := 5, ground := Ground.phase }, { on := 6, ground := Ground.phase }, { on := 7, ground := Ground.phase }, { on := 8, ground := Ground.textOnly Departure.lateStores }, { on := 9, ground := Ground.phase }], guard := none } : Oper) :: ({ dst := some 18, op := Op.assign (Operand.tmp 109), type := 4, pos := "exact.go:3981", after := #[{ on := 8, ground := Ground.data }, { on := 10, ground := Ground.chain }, { on := 0, ground := Ground.phase }, { on := 1, ground := Ground.phase }, { on := 2, ground := Ground.phase }, { on := 3, ground := Ground.phase }, { on := 4, ground := Ground.phase }, { on := 5, ground := Ground.phase }, { on := 6, ground := Ground.phase }, { on := 7, ground := Ground.phase }, { on := 8, ground := Ground.phase }, { on := 9, ground := Ground.phase }, { on := 10, ground := Ground.phase }], guard := none } : Oper) :: [])) true).wp Tryz.prog Q ⟨#[t0, t1, .string s, .pointer (some ⟨b0, 0, none⟩), .pointer (some ⟨b1x, 0, none⟩), t5, t6, t7, t8, t9, t10, t11, t12, t13, t14, t15, t16, t17, t18, t19, t20, t21, t22, t23, t24, t25, t26, t27, t28, t29, t30, t31, t32, t33, t34, t35, t36, t37, t38, t39, t40, t41, t42, t43, t44, t45, t46, t47, t48, t49, t50, t51, t52, t53, t54, t55, t56, t57, t58, t59, t60, t61, t62, t63, t64, t65, t66, t67, t68, t69, t70, t71, t72, t73, t74, t75, t76, t77, t78, t79, t80, t81, t82, t83, t84, t85, t86, t87, t88, t89, t90, t91, t92, t93, t94, t95, t96, t97, t98, t99, t100, t101, t102, t103, t104, t105, t106, t107, t108, t109, t110, t111, t112, t113, t114, t115, t116, t117, t118, t119, t120, t121, t122, t123, t124, t125, t126], fs⟩ w := by
  have hS : ∀ w', Below w.heap.size w w' → (w'.heap[b0]? = some (.cells #[.slice a1 ns.length c1, .slice a2 is.length c2, .slice a3 ds.length c3] 28 (0, 0)) ∧ w'.heap[b1x]? = some (.cells #[.int .i64 i, .slice ao xs.length cap, .int .i64 m.p, .int .i64 m.s, .int .i64 m.e, .int .i64 m.d, .int .i64 m.t, .int .i64 m.q, .int .i64 m.r, .slice ab bx.length cb, .slice ac ox.length cc] 33 (0, 0))) := fun w' hb => ⟨blk_bel hk hb, blk_bel hx hb⟩
  have B : Below w.heap.size w w.drew := drew_bel w
  refine wp_region_noPanic ?_
  refine wp_region_held_drew (S := fun w' => w'.heap[b0]? = some (.cells #[.slice a1 ns.length c1, .slice a2 is.length c2, .slice a3 ds.length c3] 28 (0, 0)) ∧ w'.heap[b1x]? = some (.cells #[.int .i64 i, .slice ao xs.length cap, .int .i64 m.p, .int .i64 m.s, .int .i64 m.e, .int .i64 m.d, .int .i64 m.t, .int .i64 m.q, .int .i64 m.r, .slice ab bx.length cb, .slice ac ox.length cc] 33 (0, 0))) (by kernel_rfl) (hS _ B) (fun hHeld => ?_)
  refine wpAnyH_take (i := 0) (oi := ({ dst := some 102, op := Op.load 28 (Operand.tmp 3), type := 28, pos := "exact.go:3981", after := #[], guard := none } : Oper)) (v := .agg #[.slice a1 ns.length c1, .slice a2 is.length c2, .slice a3 ds.length c3]) rfl (by kernel_rfl) (by kernel_rfl) (by kernel_rfl) (fun _ _ _ h => h) (yields_row (by rfl) 28 _ rfl b0 rfl #[.slice a1 ns.length c1, .slice a2 is.length c2, .slice a3 ds.length c3] 28 _ (fun _ h => h.1) Tryz.underlying28 rfl Tryz.sizeLCode) (by assumption) ?_
  simp only [Act.put, List.setIfInBounds_toArray, List.set_cons_zero, List.set_cons_succ]
  refine wpAnyH_take (i := 2) (oi := ({ dst := some 104, op := Op.load 33 (Operand.tmp 4), type := 33, pos := "exact.go:3981", after := #[], guard := none } : Oper)) (v := .agg #[.int .i64 i, .slice ao xs.length cap, .int .i64 m.p, .int .i64 m.s, .int .i64 m.e, .int .i64 m.d, .int .i64 m.t, .int .i64 m.q, .int .i64 m.r, .slice ab bx.length cb, .slice ac ox.length cc]) rfl (by kernel_rfl) (by kernel_rfl) (by kernel_rfl) (fun _ _ _ h => h) (yields_row (by rfl) 33 _ rfl b1x rfl #[.int .i64 i, .slice ao xs.length cap, .int .i64 m.p, .int .i64 m.s, .int .i64 m.e, .int .i64 m.d, .int .i64 m.t, .int .i64 m.q, .int .i64 m.r, .slice ab bx.length cb, .slice ac ox.length cc] 33 _ (fun _ h => h.2) Tryz.underlying33 rfl Tryz.sizeLProc) (by assumption) ?_
  simp only [Act.put, List.setIfInBounds_toArray, List.set_cons_zero, List.set_cons_succ]
  refine wpAnyH_take (i := 4) (oi := ({ dst := some 106, op := Op.move (Operand.tmp 2), type := 9, pos := "exact.go:3981", after := #[], guard := none } : Oper)) (v := .string s) rfl (by kernel_rfl) (by kernel_rfl) (by kernel_rfl) (fun _ _ _ h => h) (Or.inl ⟨by rfl, by intro w hSw; go_simp⟩) (by assumption) ?_
  simp only [Act.put, List.setIfInBounds_toArray, List.set_cons_zero, List.set_cons_succ]
  refine wpAnyH_ready (rs := [1, 9]) (by kernel_rfl) (by simp) ?_
  refine AllReadyH.cons rfl (fun K hK => ?_) (AllReadyH.cons rfl (fun K hK => ?_) AllReadyH.nil)
  · go_simp
    go_wp2_with (go_at_call 9; with_reducible refine (tocode_any _ _ _ ns is ds _ (R1.below B) (R2.below B) (R3.below B) l1 l2 l3).mono ?_; rintro e wA ⟨u1, u2, u3, rfl, S1, S2, S3, hb⟩)
    replace B := B.trans (hb.mono B.size)
    obtain ⟨b1, d1, rfl⟩ := S1.small
    obtain ⟨b2, d2, rfl⟩ := S2.small
    obtain ⟨b3, d3, rfl⟩ := S3.small
    clear hb
    refine hK.out _ _ (hS _ B) (fun hHeld => ?_)
    clear hK
    refine wpAnyH_ready (rs := [3, 9]) (by kernel_rfl) (by simp) ?_
    refine AllReadyH.cons rfl (fun K hK => ?_) (AllReadyH.cons rfl (fun K hK => ?_) AllReadyH.nil)
    · go_simp
      go_wp2_with (go_at_call 10; with_reducible refine (toproc_any i _ _ _ xs m bx ox _ (R.below B) (Rb.below B) (Ro.below B) l4 l5 l6).mono ?_; rintro e wP ⟨y1, y2, y3, rfl, P1, P2, P3, hap, hb⟩)
      replace S1 := S1.below hb
      replace S2 := S2.below hb
      replace S3 := S3.below hb
      replace B := B.trans (hb.mono B.size)
      obtain ⟨bo, dap, rfl⟩ := own_form P1
      obtain ⟨bb, db, rfl⟩ := own_form P2
      obtain ⟨bc, dc, rfl⟩ := own_form P3
      have Y := NRow.of_own P1 (by omega) hzx
      have Yb := StRow.of_own P2 (by omega) hzb
      have Yo := StRow.of_own P3 (by omega) hzo
      clear P1 P2 P3 hap
      clear hb
      refine hK.out _ _ (hS _ B) (fun hHeld => ?_)
      clear hK
      refine wpAnyH_ready (rs := [5, 9]) (by kernel_rfl) (by simp) ?_
      refine AllReadyH.cons rfl (fun K hK => ?_) (AllReadyH.cons rfl (fun K hK => ?_) AllReadyH.nil)
      · go_simp
        go_wp2_with (go_at_call 20; with_reducible refine (HC _ _ _ _ _ _ _ S1 S2 S3 Y Yb Yo B).mono ?_; rintro e wZ ⟨⟨y1, y2, y3, rfl, O1, O2, O3, AP⟩, hb⟩; replace O1 := own_mono (B' := w.heap.size) O1 B.size; replace O2 := own_mono (B' := w.heap.size) O2 B.size; replace O3 := own_mono (B' := w.heap.size) O3 B.size)
        replace S1 := S1.below hb
        replace S2 := S2.below hb
        replace S3 := S3.below hb
        replace Y := Y.below hb
        replace Yb := Yb.below hb
        replace Yo := Yo.below hb
        replace B := B.trans (hb.mono B.size)
        obtain ⟨m1, e1, rfl⟩ := own_form O1
        obtain ⟨m2, e2, rfl⟩ := own_form O2
        obtain ⟨m3, e3, rfl⟩ := own_form O3
        clear hb
        refine hK.out _ _ (hS _ B) (fun hHeld => ?_)
        clear hK
        refine wpAnyH_take (i := 6) (oi := ({ dst := some 101, op := Op.move (Operand.tmp 107), type := 53, pos := "exact.go:3981", after := #[{ on := 5, ground := Ground.data }], guard := none } : Oper)) (v := .tuple #[.agg #[.int .i64 I, .slice m1 NX.length e1, .int .i64 M.p, .int .i64 M.s, .int .i64 M.e, .int .i64 M.d, .int .i64 M.t, .int .i64 M.q, .int .i64 M.r, .slice m2 BX.length e2, .slice m3 OX.length e3], .bool ok]) rfl (by kernel_rfl) (by kernel_rfl) (by kernel_rfl) (fun _ _ _ h => h) (Or.inl ⟨by rfl, by intro w hSw; go_simp⟩) (by assumption) ?_
        simp only [Act.put, List.setIfInBounds_toArray, List.set_cons_zero, List.set_cons_succ]
        refine wpAnyH_take (i := 7) (oi := ({ dst := some 108, op := Op.extract (Operand.tmp 101) 0, type := 48, pos := "exact.go:3981", after := #[{ on := 6, ground := Ground.data }], guard := none } : Oper)) (v := .agg #[.int .i64 I, .slice m1 NX.length e1, .int .i64 M.p, .int .i64 M.s, .int .i64 M.e, .int .i64 M.d, .int .i64 M.t, .int .i64 M.q, .int .i64 M.r, .slice m2 BX.length e2, .slice m3 OX.length e3]) rfl (by kernel_rfl) (by kernel_rfl) (by kernel_rfl) (fun _ _ _ h => h) (Or.inl ⟨by rfl, by intro w hSw; go_simp⟩) (by assumption) ?_
        simp only [Act.put, List.setIfInBounds_toArray, List.set_cons_zero, List.set_cons_succ]
        refine wpAnyH_take (i := 8) (oi := ({ dst := some 109, op := Op.extract (Operand.tmp 101) 1, type := 4, pos := "exact.go:3981", after := #[{ on := 6, ground := Ground.data }, { on := 10, ground := Ground.gcOnly Departure.lateStores }], guard := none } : Oper)) (v := .bool ok) rfl (by kernel_rfl) (by kernel_rfl) (by kernel_rfl) (fun _ _ _ h => h) (Or.inl ⟨by rfl, by intro w hSw; go_simp⟩) (by assumption) ?_
        simp only [Act.put, List.setIfInBounds_toArray, List.set_cons_zero, List.set_cons_succ]
        refine wpAnyH_ready (rs := [9]) (by kernel_rfl) (by simp) ?_
        refine AllReadyH.cons rfl (fun K hK => ?_) AllReadyH.nil
        go_simp
        go_wp2_with fail
        have hb := alloc_bel wZ (Obj.cells #[.int .i64 0, .slice none 0 0, .int .i64 0, .int .i64 0, .int .i64 0, .int .i64 0, .int .i64 0, .int .i64 0, .int .i64 0, .slice none 0 0, .slice none 0 0] 48)
        have XB : w.heap.size ≤ wZ.heap.size := B.size
        have X : (wZ.alloc (Obj.cells #[.int .i64 0, .slice none 0 0, .int .i64 0, .int .i64 0, .int .i64 0, .int .i64 0, .int .i64 0, .int .i64 0, .int .i64 0, .slice none 0 0, .slice none 0 0] 48)).heap[wZ.heap.size]? = some (Obj.cells #[.int .i64 0, .slice none 0 0, .int .i64 0, .int .i64 0, .int .i64 0, .int .i64 0, .int .i64 0, .int .i64 0, .int .i64 0, .slice none 0 0, .slice none 0 0] 48) := heap_alloc_new _ _
        generalize wZ.alloc (Obj.cells #[.int .i64 0, .slice none 0 0, .int .i64 0, .int .i64 0, .int .i64 0, .int .i64 0, .int .i64 0, .int .i64 0, .int .i64 0, .slice none 0 0, .slice none 0 0] 48) = wL at hb X ⊢
        replace O1 := own_below O1 hb
        replace O2 := own_below O2 hb
        replace O3 := own_below O3 hb
        replace S1 := S1.below hb
        replace S2 := S2.below hb
        replace S3 := S3.below hb
        replace Y := Y.below hb
        replace Yb := Yb.below hb
        replace Yo := Yo.below hb
        replace B := B.trans (hb.mono B.size)
        clear hb
        refine hK.out _ _ (hS _ B) (fun hHeld => ?_)
        clear hK
        refine wpAnyH_ready (rs := [10]) (by kernel_rfl) (by simp) ?_
        refine AllReadyH.cons rfl (fun K hK => ?_) AllReadyH.nil
        rw [if_pos (by rfl)]
        refine wp_store_row 48 _ _ rfl (wZ.heap.size) #[.int .i64 I, .slice m1 NX.length e1, .int .i64 M.p, .int .i64 M.s, .int .i64 M.e, .int .i64 M.d, .int .i64 M.t, .int .i64 M.q, .int .i64 M.r, .slice m2 BX.length e2, .slice m3 OX.length e3] rfl rfl 48 #[.int .i64 0, .slice none 0 0, .int .i64 0, .int .i64 0, .int .i64 0, .int .i64 0, .int .i64 0, .int .i64 0, .int .i64 0, .slice none 0 0, .slice none 0 0] X Tryz.sizeProc rfl (by simp [Value.oneCell']) ?_
        replace B := below_setRow B (g := wZ.heap.size) XB #[.int .i64 I, .slice m1 NX.length e1, .int .i64 M.p, .int .i64 M.s, .int .i64 M.e, .int .i64 M.d, .int .i64 M.t, .int .i64 M.q, .int .i64 M.r, .slice m2 BX.length e2, .slice m3 OX.length e3]
        replace O1 := own_other O1 (own_ne O1 X (by decide)) (fun j hj => setRow_other _ _ j #[.int .i64 I, .slice m1 NX.length e1, .int .i64 M.p, .int .i64 M.s, .int .i64 M.e, .int .i64 M.d, .int .i64 M.t, .int .i64 M.q, .int .i64 M.r, .slice m2 BX.length e2, .slice m3 OX.length e3] hj)
        replace O2 := own_other O2 (own_ne O2 X (by decide)) (fun j hj => setRow_other _ _ j #[.int .i64 I, .slice m1 NX.length e1, .int .i64 M.p, .int .i64 M.s, .int .i64 M.e, .int .i64 M.d, .int .i64 M.t, .int .i64 M.q, .int .i64 M.r, .slice m2 BX.length e2, .slice m3 OX.length e3] hj)
        replace O3 := own_other O3 (own_ne O3 X (by decide)) (fun j hj => setRow_other _ _ j #[.int .i64 I, .slice m1 NX.length e1, .int .i64 M.p, .int .i64 M.s, .int .i64 M.e, .int .i64 M.d, .int .i64 M.t, .int .i64 M.q, .int .i64 M.r, .slice m2 BX.length e2, .slice m3 OX.length e3] hj)
        replace X := setRow_heap _ _ _ #[.int .i64 I, .slice m1 NX.length e1, .int .i64 M.p, .int .i64 M.s, .int .i64 M.e, .int .i64 M.d, .int .i64 M.t, .int .i64 M.q, .int .i64 M.r, .slice m2 BX.length e2, .slice m3 OX.length e3] _ _ X
        refine hK.out _ _ (hS _ B) (fun hHeld => ?_)
        clear hK
        simp only [Act.put]
        refine wpAnyH_take (i := 11) (oi := ({ dst := some 18, op := Op.assign (Operand.tmp 109), type := 4, pos := "exact.go:3981", after := #[{ on := 8, ground := Ground.data }, { on := 10, ground := Ground.chain }, { on := 0, ground := Ground.phase }, { on := 1, ground := Ground.phase }, { on := 2, ground := Ground.phase }, { on := 3, ground := Ground.phase }, { on := 4, ground := Ground.phase }, { on := 5, ground := Ground.phase }, { on := 6, ground := Ground.phase }, { on := 7, ground := Ground.phase }, { on := 8, ground := Ground.phase }, { on := 9, ground := Ground.phase }, { on := 10, ground := Ground.phase }], guard := none } : Oper)) (v := .bool ok) rfl (by kernel_rfl) (by kernel_rfl) (by kernel_rfl) (fun _ _ _ h => h) (Or.inl ⟨by rfl, by intro w hSw; go_simp⟩) (by assumption) ?_
        simp only [Act.put]
        refine wpAnyH_done (by kernel_rfl) ?_ _
        exact NoPanic.normal (hQ _ _ _ _ _ _ _ _ _ (wZ.heap.size) m1 m2 m3 e1 e2 e3 _ XB B X O1 O2 O3 AP)
      · go_simp
        go_wp2_with fail
        have hb := alloc_bel wP (Obj.cells #[.int .i64 0, .slice none 0 0, .int .i64 0, .int .i64 0, .int .i64 0, .int .i64 0, .int .i64 0, .int .i64 0, .int .i64 0, .slice none 0 0, .slice none 0 0] 48)
        have XB : w.heap.size ≤ wP.heap.size := B.size
        have X : (wP.alloc (Obj.cells #[.int .i64 0, .slice none 0 0, .int .i64 0, .int .i64 0, .int .i64 0, .int .i64 0, .int .i64 0, .int .i64 0, .int .i64 0, .slice none 0 0, .slice none 0 0] 48)).heap[wP.heap.size]? = some (Obj.cells #[.int .i64 0, .slice none 0 0, .int .i64 0, .int .i64 0, .int .i64 0, .int .i64 0, .int .i64 0, .int .i64 0, .int .i64 0, .slice none 0 0, .slice none 0 0] 48) := heap_alloc_new _ _
        generalize wP.alloc (Obj.cells #[.int .i64 0, .slice none 0 0, .int .i64 0, .int .i64 0, .int .i64 0, .int .i64 0, .int .i64 0, .int .i64 0, .int .i64 0, .slice none 0 0, .slice none 0 0] 48) = wL at hb X ⊢
        replace S1 := S1.below hb
        replace S2 := S2.below hb
        replace S3 := S3.below hb
        replace Y := Y.below hb
        replace Yb := Yb.below hb
        replace Yo := Yo.below hb
        replace B := B.trans (hb.mono B.size)
        clear hb
        refine hK.out _ _ (hS _ B) (fun hHeld => ?_)
        clear hK
        refine wpAnyH_ready (rs := [5]) (by kernel_rfl) (by simp) ?_
        refine AllReadyH.cons rfl (fun K hK => ?_) AllReadyH.nil
        go_simp
        go_wp2_with (go_at_call 20; with_reducible refine (HC _ _ _ _ _ _ _ S1 S2 S3 Y Yb Yo B).mono ?_; rintro e wZ ⟨⟨y1, y2, y3, rfl, O1, O2, O3, AP⟩, hb⟩; replace O1 := own_mono (B' := w.heap.size) O1 B.size; replace O2 := own_mono (B' := w.heap.size) O2 B.size; replace O3 := own_mono (B' := w.heap.size) O3 B.size)
        replace S1 := S1.below hb
        replace S2 := S2.below hb
        replace S3 := S3.below hb
        replace X := blk_bel X hb
        replace Y := Y.below hb
        replace Yb := Yb.below hb
        replace Yo := Yo.below hb
        replace B := B.trans (hb.mono B.size)
        obtain ⟨m1, e1, rfl⟩ := own_form O1
        obtain ⟨m2, e2, rfl⟩ := own_form O2
        obtain ⟨m3, e3, rfl⟩ := own_form O3
        clear hb
        refine hK.out _ _ (hS _ B) (fun hHeld => ?_)
        clear hK
        refine wpAnyH_take (i := 6) (oi := ({ dst := some 101, op := Op.move (Operand.tmp 107), type := 53, pos := "exact.go:3981", after := #[{ on := 5, ground := Ground.data }], guard := none } : Oper)) (v := .tuple #[.agg #[.int .i64 I, .slice m1 NX.length e1, .int .i64 M.p, .int .i64 M.s, .int .i64 M.e, .int .i64 M.d, .int .i64 M.t, .int .i64 M.q, .int .i64 M.r, .slice m2 BX.length e2, .slice m3 OX.length e3], .bool ok]) rfl (by kernel_rfl) (by kernel_rfl) (by kernel_rfl) (fun _ _ _ h => h) (Or.inl ⟨by rfl, by intro w hSw; go_simp⟩) (by assumption) ?_
        simp only [Act.put, List.setIfInBounds_toArray, List.set_cons_zero, List.set_cons_succ]
        refine wpAnyH_take (i := 7) (oi := ({ dst := some 108, op := Op.extract (Operand.tmp 101) 0, type := 48, pos := "exact.go:3981", after := #[{ on := 6, ground := Ground.data }], guard := none } : Oper)) (v := .agg #[.int .i64 I, .slice m1 NX.length e1, .int .i64 M.p, .int .i64 M.s, .int .i64 M.e, .int .i64 M.d, .int .i64 M.t, .int .i64 M.q, .int .i64 M.r, .slice m2 BX.length e2, .slice m3 OX.length e3]) rfl (by kernel_rfl) (by kernel_rfl) (by kernel_rfl) (fun _ _ _ h => h) (Or.inl ⟨by rfl, by intro w hSw; go_simp⟩) (by assumption) ?_
        simp only [Act.put, List.setIfInBounds_toArray, List.set_cons_zero, List.set_cons_succ]
        refine wpAnyH_take (i := 8) (oi := ({ dst := some 109, op := Op.extract (Operand.tmp 101) 1, type := 4, pos := "exact.go:3981", after := #[{ on := 6, ground := Ground.data }, { on := 10, ground := Ground.gcOnly Departure.lateStores }], guard := none } : Oper)) (v := .bool ok) rfl (by kernel_rfl) (by kernel_rfl) (by kernel_rfl) (fun _ _ _ h => h) (Or.inl ⟨by rfl, by intro w hSw; go_simp⟩) (by assumption) ?_
        simp only [Act.put, List.setIfInBounds_toArray, List.set_cons_zero, List.set_cons_succ]
        refine wpAnyH_ready (rs := [10]) (by kernel_rfl) (by simp) ?_
        refine AllReadyH.cons rfl (fun K hK => ?_) AllReadyH.nil
        rw [if_pos (by rfl)]
        refine wp_store_row 48 _ _ rfl (wP.heap.size) #[.int .i64 I, .slice m1 NX.length e1, .int .i64 M.p, .int .i64 M.s, .int .i64 M.e, .int .i64 M.d, .int .i64 M.t, .int .i64 M.q, .int .i64 M.r, .slice m2 BX.length e2, .slice m3 OX.length e3] rfl rfl 48 #[.int .i64 0, .slice none 0 0, .int .i64 0, .int .i64 0, .int .i64 0, .int .i64 0, .int .i64 0, .int .i64 0, .int .i64 0, .slice none 0 0, .slice none 0 0] X Tryz.sizeProc rfl (by simp [Value.oneCell']) ?_
        replace B := below_setRow B (g := wP.heap.size) XB #[.int .i64 I, .slice m1 NX.length e1, .int .i64 M.p, .int .i64 M.s, .int .i64 M.e, .int .i64 M.d, .int .i64 M.t, .int .i64 M.q, .int .i64 M.r, .slice m2 BX.length e2, .slice m3 OX.length e3]
        replace O1 := own_other O1 (own_ne O1 X (by decide)) (fun j hj => setRow_other _ _ j #[.int .i64 I, .slice m1 NX.length e1, .int .i64 M.p, .int .i64 M.s, .int .i64 M.e, .int .i64 M.d, .int .i64 M.t, .int .i64 M.q, .int .i64 M.r, .slice m2 BX.length e2, .slice m3 OX.length e3] hj)
        replace O2 := own_other O2 (own_ne O2 X (by decide)) (fun j hj => setRow_other _ _ j #[.int .i64 I, .slice m1 NX.length e1, .int .i64 M.p, .int .i64 M.s, .int .i64 M.e, .int .i64 M.d, .int .i64 M.t, .int .i64 M.q, .int .i64 M.r, .slice m2 BX.length e2, .slice m3 OX.length e3] hj)
        replace O3 := own_other O3 (own_ne O3 X (by decide)) (fun j hj => setRow_other _ _ j #[.int .i64 I, .slice m1 NX.length e1, .int .i64 M.p, .int .i64 M.s, .int .i64 M.e, .int .i64 M.d, .int .i64 M.t, .int .i64 M.q, .int .i64 M.r, .slice m2 BX.length e2, .slice m3 OX.length e3] hj)
        replace X := setRow_heap _ _ _ #[.int .i64 I, .slice m1 NX.length e1, .int .i64 M.p, .int .i64 M.s, .int .i64 M.e, .int .i64 M.d, .int .i64 M.t, .int .i64 M.q, .int .i64 M.r, .slice m2 BX.length e2, .slice m3 OX.length e3] _ _ X
        refine hK.out _ _ (hS _ B) (fun hHeld => ?_)
        clear hK
        simp only [Act.put]
        refine wpAnyH_take (i := 11) (oi := ({ dst := some 18, op := Op.assign (Operand.tmp 109), type := 4, pos := "exact.go:3981", after := #[{ on := 8, ground := Ground.data }, { on := 10, ground := Ground.chain }, { on := 0, ground := Ground.phase }, { on := 1, ground := Ground.phase }, { on := 2, ground := Ground.phase }, { on := 3, ground := Ground.phase }, { on := 4, ground := Ground.phase }, { on := 5, ground := Ground.phase }, { on := 6, ground := Ground.phase }, { on := 7, ground := Ground.phase }, { on := 8, ground := Ground.phase }, { on := 9, ground := Ground.phase }, { on := 10, ground := Ground.phase }], guard := none } : Oper)) (v := .bool ok) rfl (by kernel_rfl) (by kernel_rfl) (by kernel_rfl) (fun _ _ _ h => h) (Or.inl ⟨by rfl, by intro w hSw; go_simp⟩) (by assumption) ?_
        simp only [Act.put]
        refine wpAnyH_done (by kernel_rfl) ?_ _
        exact NoPanic.normal (hQ _ _ _ _ _ _ _ _ _ (wP.heap.size) m1 m2 m3 e1 e2 e3 _ XB B X O1 O2 O3 AP)
    · go_simp
      go_wp2_with fail
      have hb := alloc_bel wA (Obj.cells #[.int .i64 0, .slice none 0 0, .int .i64 0, .int .i64 0, .int .i64 0, .int .i64 0, .int .i64 0, .int .i64 0, .int .i64 0, .slice none 0 0, .slice none 0 0] 48)
      have XB : w.heap.size ≤ wA.heap.size := B.size
      have X : (wA.alloc (Obj.cells #[.int .i64 0, .slice none 0 0, .int .i64 0, .int .i64 0, .int .i64 0, .int .i64 0, .int .i64 0, .int .i64 0, .int .i64 0, .slice none 0 0, .slice none 0 0] 48)).heap[wA.heap.size]? = some (Obj.cells #[.int .i64 0, .slice none 0 0, .int .i64 0, .int .i64 0, .int .i64 0, .int .i64 0, .int .i64 0, .int .i64 0, .int .i64 0, .slice none 0 0, .slice none 0 0] 48) := heap_alloc_new _ _
      generalize wA.alloc (Obj.cells #[.int .i64 0, .slice none 0 0, .int .i64 0, .int .i64 0, .int .i64 0, .int .i64 0, .int .i64 0, .int .i64 0, .int .i64 0, .slice none 0 0, .slice none 0 0] 48) = wL at hb X ⊢
      replace S1 := S1.below hb
      replace S2 := S2.below hb
      replace S3 := S3.below hb
      replace B := B.trans (hb.mono B.size)
      clear hb
      refine hK.out _ _ (hS _ B) (fun hHeld => ?_)
      clear hK
      refine wpAnyH_ready (rs := [3]) (by kernel_rfl) (by simp) ?_
      refine AllReadyH.cons rfl (fun K hK => ?_) AllReadyH.nil
      go_simp
      go_wp2_with (go_at_call 10; with_reducible refine (toproc_any i _ _ _ xs m bx ox _ (R.below B) (Rb.below B) (Ro.below B) l4 l5 l6).mono ?_; rintro e wP ⟨y1, y2, y3, rfl, P1, P2, P3, hap, hb⟩)
      replace S1 := S1.below hb
      replace S2 := S2.below hb
      replace S3 := S3.below hb
      replace X := blk_bel X hb
      replace B := B.trans (hb.mono B.size)
      obtain ⟨bo, dap, rfl⟩ := own_form P1
      obtain ⟨bb, db, rfl⟩ := own_form P2
      obtain ⟨bc, dc, rfl⟩ := own_form P3
      have Y := NRow.of_own P1 (by omega) hzx
      have Yb := StRow.of_own P2 (by omega) hzb
      have Yo := StRow.of_own P3 (by omega) hzo
      clear P1 P2 P3 hap
      clear hb
      refine hK.out _ _ (hS _ B) (fun hHeld => ?_)
      clear hK
      refine wpAnyH_ready (rs := [5]) (by kernel_rfl) (by simp) ?_
      refine AllReadyH.cons rfl (fun K hK => ?_) AllReadyH.nil
      go_simp
      go_wp2_with (go_at_call 20; with_reducible refine (HC _ _ _ _ _ _ _ S1 S2 S3 Y Yb Yo B).mono ?_; rintro e wZ ⟨⟨y1, y2, y3, rfl, O1, O2, O3, AP⟩, hb⟩; replace O1 := own_mono (B' := w.heap.size) O1 B.size; replace O2 := own_mono (B' := w.heap.size) O2 B.size; replace O3 := own_mono (B' := w.heap.size) O3 B.size)
      replace S1 := S1.below hb
      replace S2 := S2.below hb
      replace S3 := S3.below hb
      replace X := blk_bel X hb
      replace Y := Y.below hb
      replace Yb := Yb.below hb
      replace Yo := Yo.below hb
      replace B := B.trans (hb.mono B.size)
      obtain ⟨m1, e1, rfl⟩ := own_form O1
      obtain ⟨m2, e2, rfl⟩ := own_form O2
      obtain ⟨m3, e3, rfl⟩ := own_form O3
      clear hb
      refine hK.out _ _ (hS _ B) (fun hHeld => ?_)
      clear hK
      refine wpAnyH_take (i := 6) (oi := ({ dst := some 101, op := Op.move (Operand.tmp 107), type := 53, pos := "exact.go:3981", after := #[{ on := 5, ground := Ground.data }], guard := none } : Oper)) (v := .tuple #[.agg #[.int .i64 I, .slice m1 NX.length e1, .int .i64 M.p, .int .i64 M.s, .int .i64 M.e, .int .i64 M.d, .int .i64 M.t, .int .i64 M.q, .int .i64 M.r, .slice m2 BX.length e2, .slice m3 OX.length e3], .bool ok]) rfl (by kernel_rfl) (by kernel_rfl) (by kernel_rfl) (fun _ _ _ h => h) (Or.inl ⟨by rfl, by intro w hSw; go_simp⟩) (by assumption) ?_
      simp only [Act.put, List.setIfInBounds_toArray, List.set_cons_zero, List.set_cons_succ]
      refine wpAnyH_take (i := 7) (oi := ({ dst := some 108, op := Op.extract (Operand.tmp 101) 0, type := 48, pos := "exact.go:3981", after := #[{ on := 6, ground := Ground.data }], guard := none } : Oper)) (v := .agg #[.int .i64 I, .slice m1 NX.length e1, .int .i64 M.p, .int .i64 M.s, .int .i64 M.e, .int .i64 M.d, .int .i64 M.t, .int .i64 M.q, .int .i64 M.r, .slice m2 BX.length e2, .slice m3 OX.length e3]) rfl (by kernel_rfl) (by kernel_rfl) (by kernel_rfl) (fun _ _ _ h => h) (Or.inl ⟨by rfl, by intro w hSw; go_simp⟩) (by assumption) ?_
      simp only [Act.put, List.setIfInBounds_toArray, List.set_cons_zero, List.set_cons_succ]
      refine wpAnyH_take (i := 8) (oi := ({ dst := some 109, op := Op.extract (Operand.tmp 101) 1, type := 4, pos := "exact.go:3981", after := #[{ on := 6, ground := Ground.data }, { on := 10, ground := Ground.gcOnly Departure.lateStores }], guard := none } : Oper)) (v := .bool ok) rfl (by kernel_rfl) (by kernel_rfl) (by kernel_rfl) (fun _ _ _ h => h) (Or.inl ⟨by rfl, by intro w hSw; go_simp⟩) (by assumption) ?_
      simp only [Act.put, List.setIfInBounds_toArray, List.set_cons_zero, List.set_cons_succ]
      refine wpAnyH_ready (rs := [10]) (by kernel_rfl) (by simp) ?_
      refine AllReadyH.cons rfl (fun K hK => ?_) AllReadyH.nil
      rw [if_pos (by rfl)]
      refine wp_store_row 48 _ _ rfl (wA.heap.size) #[.int .i64 I, .slice m1 NX.length e1, .int .i64 M.p, .int .i64 M.s, .int .i64 M.e, .int .i64 M.d, .int .i64 M.t, .int .i64 M.q, .int .i64 M.r, .slice m2 BX.length e2, .slice m3 OX.length e3] rfl rfl 48 #[.int .i64 0, .slice none 0 0, .int .i64 0, .int .i64 0, .int .i64 0, .int .i64 0, .int .i64 0, .int .i64 0, .int .i64 0, .slice none 0 0, .slice none 0 0] X Tryz.sizeProc rfl (by simp [Value.oneCell']) ?_
      replace B := below_setRow B (g := wA.heap.size) XB #[.int .i64 I, .slice m1 NX.length e1, .int .i64 M.p, .int .i64 M.s, .int .i64 M.e, .int .i64 M.d, .int .i64 M.t, .int .i64 M.q, .int .i64 M.r, .slice m2 BX.length e2, .slice m3 OX.length e3]
      replace O1 := own_other O1 (own_ne O1 X (by decide)) (fun j hj => setRow_other _ _ j #[.int .i64 I, .slice m1 NX.length e1, .int .i64 M.p, .int .i64 M.s, .int .i64 M.e, .int .i64 M.d, .int .i64 M.t, .int .i64 M.q, .int .i64 M.r, .slice m2 BX.length e2, .slice m3 OX.length e3] hj)
      replace O2 := own_other O2 (own_ne O2 X (by decide)) (fun j hj => setRow_other _ _ j #[.int .i64 I, .slice m1 NX.length e1, .int .i64 M.p, .int .i64 M.s, .int .i64 M.e, .int .i64 M.d, .int .i64 M.t, .int .i64 M.q, .int .i64 M.r, .slice m2 BX.length e2, .slice m3 OX.length e3] hj)
      replace O3 := own_other O3 (own_ne O3 X (by decide)) (fun j hj => setRow_other _ _ j #[.int .i64 I, .slice m1 NX.length e1, .int .i64 M.p, .int .i64 M.s, .int .i64 M.e, .int .i64 M.d, .int .i64 M.t, .int .i64 M.q, .int .i64 M.r, .slice m2 BX.length e2, .slice m3 OX.length e3] hj)
      replace X := setRow_heap _ _ _ #[.int .i64 I, .slice m1 NX.length e1, .int .i64 M.p, .int .i64 M.s, .int .i64 M.e, .int .i64 M.d, .int .i64 M.t, .int .i64 M.q, .int .i64 M.r, .slice m2 BX.length e2, .slice m3 OX.length e3] _ _ X
      refine hK.out _ _ (hS _ B) (fun hHeld => ?_)
      clear hK
      simp only [Act.put]
      refine wpAnyH_take (i := 11) (oi := ({ dst := some 18, op := Op.assign (Operand.tmp 109), type := 4, pos := "exact.go:3981", after := #[{ on := 8, ground := Ground.data }, { on := 10, ground := Ground.chain }, { on := 0, ground := Ground.phase }, { on := 1, ground := Ground.phase }, { on := 2, ground := Ground.phase }, { on := 3, ground := Ground.phase }, { on := 4, ground := Ground.phase }, { on := 5, ground := Ground.phase }, { on := 6, ground := Ground.phase }, { on := 7, ground := Ground.phase }, { on := 8, ground := Ground.phase }, { on := 9, ground := Ground.phase }, { on := 10, ground := Ground.phase }], guard := none } : Oper)) (v := .bool ok) rfl (by kernel_rfl) (by kernel_rfl) (by kernel_rfl) (fun _ _ _ h => h) (Or.inl ⟨by rfl, by intro w hSw; go_simp⟩) (by assumption) ?_
      simp only [Act.put]
      refine wpAnyH_done (by kernel_rfl) ?_ _
      exact NoPanic.normal (hQ _ _ _ _ _ _ _ _ _ (wA.heap.size) m1 m2 m3 e1 e2 e3 _ XB B X O1 O2 O3 AP)
  · go_simp
    go_wp2_with fail
    have XB : w.heap.size ≤ w.heap.size := Nat.le_refl _
    have hb : Below w.heap.size w (w.alloc (Obj.cells #[.int .i64 0, .slice none 0 0, .int .i64 0, .int .i64 0, .int .i64 0, .int .i64 0, .int .i64 0, .int .i64 0, .int .i64 0, .slice none 0 0, .slice none 0 0] 48)).drew := ((Below.refl _ _).alloc (Nat.le_refl _) _).drew
    have X : (w.alloc (Obj.cells #[.int .i64 0, .slice none 0 0, .int .i64 0, .int .i64 0, .int .i64 0, .int .i64 0, .int .i64 0, .int .i64 0, .int .i64 0, .slice none 0 0, .slice none 0 0] 48)).drew.heap[w.heap.size]? = some (Obj.cells #[.int .i64 0, .slice none 0 0, .int .i64 0, .int .i64 0, .int .i64 0, .int .i64 0, .int .i64 0, .int .i64 0, .int .i64 0, .slice none 0 0, .slice none 0 0] 48) := heap_alloc_new w _
    generalize (w.alloc (Obj.cells #[.int .i64 0, .slice none 0 0, .int .i64 0, .int .i64 0, .int .i64 0, .int .i64 0, .int .i64 0, .int .i64 0, .int .i64 0, .slice none 0 0, .slice none 0 0] 48)).drew = wL at hb X ⊢
    replace B := hb
    clear hb
    refine hK.out _ _ (hS _ B) (fun hHeld => ?_)
    clear hK
    refine wpAnyH_ready (rs := [1]) (by kernel_rfl) (by simp) ?_
    refine AllReadyH.cons rfl (fun K hK => ?_) AllReadyH.nil
    go_simp
    go_wp2_with (go_at_call 9; with_reducible refine (tocode_any _ _ _ ns is ds _ (R1.below B) (R2.below B) (R3.below B) l1 l2 l3).mono ?_; rintro e wA ⟨u1, u2, u3, rfl, S1, S2, S3, hb⟩)
    replace X := blk_bel X hb
    replace B := B.trans (hb.mono B.size)
    obtain ⟨b1, d1, rfl⟩ := S1.small
    obtain ⟨b2, d2, rfl⟩ := S2.small
    obtain ⟨b3, d3, rfl⟩ := S3.small
    clear hb
    refine hK.out _ _ (hS _ B) (fun hHeld => ?_)
    clear hK
    refine wpAnyH_ready (rs := [3]) (by kernel_rfl) (by simp) ?_
    refine AllReadyH.cons rfl (fun K hK => ?_) AllReadyH.nil
    go_simp
    go_wp2_with (go_at_call 10; with_reducible refine (toproc_any i _ _ _ xs m bx ox _ (R.below B) (Rb.below B) (Ro.below B) l4 l5 l6).mono ?_; rintro e wP ⟨y1, y2, y3, rfl, P1, P2, P3, hap, hb⟩)
    replace S1 := S1.below hb
    replace S2 := S2.below hb
    replace S3 := S3.below hb
    replace X := blk_bel X hb
    replace B := B.trans (hb.mono B.size)
    obtain ⟨bo, dap, rfl⟩ := own_form P1
    obtain ⟨bb, db, rfl⟩ := own_form P2
    obtain ⟨bc, dc, rfl⟩ := own_form P3
    have Y := NRow.of_own P1 (by omega) hzx
    have Yb := StRow.of_own P2 (by omega) hzb
    have Yo := StRow.of_own P3 (by omega) hzo
    clear P1 P2 P3 hap
    clear hb
    refine hK.out _ _ (hS _ B) (fun hHeld => ?_)
    clear hK
    refine wpAnyH_ready (rs := [5]) (by kernel_rfl) (by simp) ?_
    refine AllReadyH.cons rfl (fun K hK => ?_) AllReadyH.nil
    go_simp
    go_wp2_with (go_at_call 20; with_reducible refine (HC _ _ _ _ _ _ _ S1 S2 S3 Y Yb Yo B).mono ?_; rintro e wZ ⟨⟨y1, y2, y3, rfl, O1, O2, O3, AP⟩, hb⟩; replace O1 := own_mono (B' := w.heap.size) O1 B.size; replace O2 := own_mono (B' := w.heap.size) O2 B.size; replace O3 := own_mono (B' := w.heap.size) O3 B.size)
    replace S1 := S1.below hb
    replace S2 := S2.below hb
    replace S3 := S3.below hb
    replace X := blk_bel X hb
    replace Y := Y.below hb
    replace Yb := Yb.below hb
    replace Yo := Yo.below hb
    replace B := B.trans (hb.mono B.size)
    obtain ⟨m1, e1, rfl⟩ := own_form O1
    obtain ⟨m2, e2, rfl⟩ := own_form O2
    obtain ⟨m3, e3, rfl⟩ := own_form O3
    clear hb
    refine hK.out _ _ (hS _ B) (fun hHeld => ?_)
    clear hK
    refine wpAnyH_take (i := 6) (oi := ({ dst := some 101, op := Op.move (Operand.tmp 107), type := 53, pos := "exact.go:3981", after := #[{ on := 5, ground := Ground.data }], guard := none } : Oper)) (v := .tuple #[.agg #[.int .i64 I, .slice m1 NX.length e1, .int .i64 M.p, .int .i64 M.s, .int .i64 M.e, .int .i64 M.d, .int .i64 M.t, .int .i64 M.q, .int .i64 M.r, .slice m2 BX.length e2, .slice m3 OX.length e3], .bool ok]) rfl (by kernel_rfl) (by kernel_rfl) (by kernel_rfl) (fun _ _ _ h => h) (Or.inl ⟨by rfl, by intro w hSw; go_simp⟩) (by assumption) ?_
    simp only [Act.put, List.setIfInBounds_toArray, List.set_cons_zero, List.set_cons_succ]
    refine wpAnyH_take (i := 7) (oi := ({ dst := some 108, op := Op.extract (Operand.tmp 101) 0, type := 48, pos := "exact.go:3981", after := #[{ on := 6, ground := Ground.data }], guard := none } : Oper)) (v := .agg #[.int .i64 I, .slice m1 NX.length e1, .int .i64 M.p, .int .i64 M.s, .int .i64 M.e, .int .i64 M.d, .int .i64 M.t, .int .i64 M.q, .int .i64 M.r, .slice m2 BX.length e2, .slice m3 OX.length e3]) rfl (by kernel_rfl) (by kernel_rfl) (by kernel_rfl) (fun _ _ _ h => h) (Or.inl ⟨by rfl, by intro w hSw; go_simp⟩) (by assumption) ?_
    simp only [Act.put, List.setIfInBounds_toArray, List.set_cons_zero, List.set_cons_succ]
    refine wpAnyH_take (i := 8) (oi := ({ dst := some 109, op := Op.extract (Operand.tmp 101) 1, type := 4, pos := "exact.go:3981", after := #[{ on := 6, ground := Ground.data }, { on := 10, ground := Ground.gcOnly Departure.lateStores }], guard := none } : Oper)) (v := .bool ok) rfl (by kernel_rfl) (by kernel_rfl) (by kernel_rfl) (fun _ _ _ h => h) (Or.inl ⟨by rfl, by intro w hSw; go_simp⟩) (by assumption) ?_
    simp only [Act.put, List.setIfInBounds_toArray, List.set_cons_zero, List.set_cons_succ]
    refine wpAnyH_ready (rs := [10]) (by kernel_rfl) (by simp) ?_
    refine AllReadyH.cons rfl (fun K hK => ?_) AllReadyH.nil
    rw [if_pos (by rfl)]
    refine wp_store_row 48 _ _ rfl (w.heap.size) #[.int .i64 I, .slice m1 NX.length e1, .int .i64 M.p, .int .i64 M.s, .int .i64 M.e, .int .i64 M.d, .int .i64 M.t, .int .i64 M.q, .int .i64 M.r, .slice m2 BX.length e2, .slice m3 OX.length e3] rfl rfl 48 #[.int .i64 0, .slice none 0 0, .int .i64 0, .int .i64 0, .int .i64 0, .int .i64 0, .int .i64 0, .int .i64 0, .int .i64 0, .slice none 0 0, .slice none 0 0] X Tryz.sizeProc rfl (by simp [Value.oneCell']) ?_
    replace B := below_setRow B (g := w.heap.size) XB #[.int .i64 I, .slice m1 NX.length e1, .int .i64 M.p, .int .i64 M.s, .int .i64 M.e, .int .i64 M.d, .int .i64 M.t, .int .i64 M.q, .int .i64 M.r, .slice m2 BX.length e2, .slice m3 OX.length e3]
    replace O1 := own_other O1 (own_ne O1 X (by decide)) (fun j hj => setRow_other _ _ j #[.int .i64 I, .slice m1 NX.length e1, .int .i64 M.p, .int .i64 M.s, .int .i64 M.e, .int .i64 M.d, .int .i64 M.t, .int .i64 M.q, .int .i64 M.r, .slice m2 BX.length e2, .slice m3 OX.length e3] hj)
    replace O2 := own_other O2 (own_ne O2 X (by decide)) (fun j hj => setRow_other _ _ j #[.int .i64 I, .slice m1 NX.length e1, .int .i64 M.p, .int .i64 M.s, .int .i64 M.e, .int .i64 M.d, .int .i64 M.t, .int .i64 M.q, .int .i64 M.r, .slice m2 BX.length e2, .slice m3 OX.length e3] hj)
    replace O3 := own_other O3 (own_ne O3 X (by decide)) (fun j hj => setRow_other _ _ j #[.int .i64 I, .slice m1 NX.length e1, .int .i64 M.p, .int .i64 M.s, .int .i64 M.e, .int .i64 M.d, .int .i64 M.t, .int .i64 M.q, .int .i64 M.r, .slice m2 BX.length e2, .slice m3 OX.length e3] hj)
    replace X := setRow_heap _ _ _ #[.int .i64 I, .slice m1 NX.length e1, .int .i64 M.p, .int .i64 M.s, .int .i64 M.e, .int .i64 M.d, .int .i64 M.t, .int .i64 M.q, .int .i64 M.r, .slice m2 BX.length e2, .slice m3 OX.length e3] _ _ X
    refine hK.out _ _ (hS _ B) (fun hHeld => ?_)
    clear hK
    simp only [Act.put]
    refine wpAnyH_take (i := 11) (oi := ({ dst := some 18, op := Op.assign (Operand.tmp 109), type := 4, pos := "exact.go:3981", after := #[{ on := 8, ground := Ground.data }, { on := 10, ground := Ground.chain }, { on := 0, ground := Ground.phase }, { on := 1, ground := Ground.phase }, { on := 2, ground := Ground.phase }, { on := 3, ground := Ground.phase }, { on := 4, ground := Ground.phase }, { on := 5, ground := Ground.phase }, { on := 6, ground := Ground.phase }, { on := 7, ground := Ground.phase }, { on := 8, ground := Ground.phase }, { on := 9, ground := Ground.phase }, { on := 10, ground := Ground.phase }], guard := none } : Oper)) (v := .bool ok) rfl (by kernel_rfl) (by kernel_rfl) (by kernel_rfl) (fun _ _ _ h => h) (Or.inl ⟨by rfl, by intro w hSw; go_simp⟩) (by assumption) ?_
    simp only [Act.put]
    refine wpAnyH_done (by kernel_rfl) ?_ _
    exact NoPanic.normal (hQ _ _ _ _ _ _ _ _ _ (w.heap.size) m1 m2 m3 e1 e2 e3 _ XB B X O1 O2 O3 AP)

set_option maxRecDepth 100000 in
set_option maxHeartbeats 6400000 in
theorem prpt_r16 {t0 t1 t2 t4 t5 t6 t7 t8 t9 t11 t12 t13 t14 t15 t16 t17 t18 t19 t20 t21 t22 t23 t24 t25 t26 t27 t28 t29 t30 t31 t32 t33 t34 t35 t36 t37 t38 t39 t40 t41 t42 t43 t44 t45 t46 t47 t48 t49 t50 t51 t52 t53 t54 t55 t56 t57 t58 t59 t60 t61 t62 t63 t64 t65 t66 t67 t68 t69 t70 t71 t72 t73 t74 t75 t76 t77 t78 t79 t80 t81 t82 t83 t84 t85 t86 t87 t88 t89 t90 t91 t92 t93 t94 t95 t96 t97 t98 t99 t100 t101 t102 t103 t104 t105 t106 t107 t108 t109 t110 t111 t112 t113 t114 t115 t116 t117 t118 t119 t120 t121 t122 t123 t124 t125 t126 : Value} {fs : List Deferred} (y0 b0 : Nat) (e1 e2 e3 a1 a2 a3 : Option Addr) (f1 f2 f3 c1 c2 c3 : Nat) (ns : List Nd) (is : List In) (ds : List Df) (w : World) (Q : Exit → Act → World → Prop)
    (hy : w.heap[y0]? = some (.cells #[.slice e1 ns.length f1, .slice e2 is.length f2, .slice e3 ds.length f3] 43 (0, 0))) (hk : w.heap[b0]? = some (.cells #[.slice a1 ns.length c1, .slice a2 is.length c2, .slice a3 ds.length c3] 28 (0, 0))) (E1 : NRow w (.slice e1 ns.length f1) ns) (E2 : InRow w (.slice e2 is.length f2) is) (E3 : DfRow w (.slice e3 ds.length f3) ds) (R1 : NRow w (.slice a1 ns.length c1) ns) (R2 : InRow w (.slice a2 is.length c2) is) (R3 : DfRow w (.slice a3 ds.length c3) ds) (l1 : ns.length ≤ 2097152) (l2 : is.length ≤ 2097152) (l3 : ds.length ≤ 2097152)
    (hQ : ∀ u61 u62 u63 u64 (W : World), Below w.heap.size w W → Q .normal ⟨#[t0, t1, t2, .pointer (some ⟨b0, 0, none⟩), t4, t5, t6, t7, t8, t9, .pointer (some ⟨y0, 0, none⟩), t11, t12, t13, t14, t15, t16, t17, t18, t19, t20, t21, t22, t23, t24, t25, t26, t27, t28, t29, t30, t31, t32, t33, t34, t35, t36, t37, t38, t39, t40, t41, t42, t43, t44, t45, t46, t47, t48, t49, t50, t51, t52, t53, t54, t55, t56, t57, t58, t59, t60, u61, u62, u63, u64, .bool false, t66, t67, t68, t69, t70, t71, t72, t73, t74, t75, t76, t77, t78, t79, t80, t81, t82, t83, t84, t85, t86, t87, t88, t89, t90, t91, t92, t93, t94, t95, t96, t97, t98, t99, t100, t101, t102, t103, t104, t105, t106, t107, t108, t109, t110, t111, t112, t113, t114, t115, t116, t117, t118, t119, t120, t121, t122, t123, t124, t125, t126], fs⟩ W) :
    (Code.region 16 (List.toArray (({ dst := some 61, op := Op.load 43 (Operand.tmp 10), type := 43, pos := "exact.go:3959", after := #[], guard := none } : Oper) :: ({ dst := some 62, op := Op.load 28 (Operand.tmp 3), type := 28, pos := "exact.go:3959", after := #[], guard := none } : Oper) :: ({ dst := some 63, op := Op.call { callee := Callee.value (Operand.func 9), args := #[Operand.tmp 62], argTypes := #[28] }, type := 43, pos := "exact.go:3959", after := #[{ on := 1, ground := Ground.data }], guard := none } : Oper) :: ({ dst := some 64, op := Op.call { callee := Callee.value (Operand.func 12), args := #[Operand.tmp 61, Operand.tmp 63], argTypes := #[43, 43] }, type := 4, pos := "exact.go:3959", after := #[{ on := 0, ground := Ground.data }, { on := 2, ground := Ground.data }, { on := 2, ground := Ground.chain }], guard := none } : Oper) :: ({ dst := some 65, op := Op.unOp UnOp.not 4 (Operand.tmp 64), type := 4, pos := "exact.go:3959", after := #[{ on := 3, ground := Ground.data }], guard := none } : Oper) :: [])) true).wp Tryz.prog Q ⟨#[t0, t1, t2, .pointer (some ⟨b0, 0, none⟩), t4, t5, t6, t7, t8, t9, .pointer (some ⟨y0, 0, none⟩), t11, t12, t13, t14, t15, t16, t17, t18, t19, t20, t21, t22, t23, t24, t25, t26, t27, t28, t29, t30, t31, t32, t33, t34, t35, t36, t37, t38, t39, t40, t41, t42, t43, t44, t45, t46, t47, t48, t49, t50, t51, t52, t53, t54, t55, t56, t57, t58, t59, t60, t61, t62, t63, t64, t65, t66, t67, t68, t69, t70, t71, t72, t73, t74, t75, t76, t77, t78, t79, t80, t81, t82, t83, t84, t85, t86, t87, t88, t89, t90, t91, t92, t93, t94, t95, t96, t97, t98, t99, t100, t101, t102, t103, t104, t105, t106, t107, t108, t109, t110, t111, t112, t113, t114, t115, t116, t117, t118, t119, t120, t121, t122, t123, t124, t125, t126], fs⟩ w := by
  have hS : ∀ w', Below w.heap.size w w' → (w'.heap[y0]? = some (.cells #[.slice e1 ns.length f1, .slice e2 is.length f2, .slice e3 ds.length f3] 43 (0, 0)) ∧ w'.heap[b0]? = some (.cells #[.slice a1 ns.length c1, .slice a2 is.length c2, .slice a3 ds.length c3] 28 (0, 0))) := fun w' hb => ⟨blk_bel hy hb, blk_bel hk hb⟩
  have B : Below w.heap.size w w.drew := drew_bel w
  refine wp_region_noPanic ?_
  refine wp_region_held_drew (S := fun w' => w'.heap[y0]? = some (.cells #[.slice e1 ns.length f1, .slice e2 is.length f2, .slice e3 ds.length f3] 43 (0, 0)) ∧ w'.heap[b0]? = some (.cells #[.slice a1 ns.length c1, .slice a2 is.length c2, .slice a3 ds.length c3] 28 (0, 0))) (by kernel_rfl) (hS _ B) (fun hHeld => ?_)
  refine wpAnyH_take (i := 0) (oi := ({ dst := some 61, op := Op.load 43 (Operand.tmp 10), type := 43, pos := "exact.go:3959", after := #[], guard := none } : Oper)) (v := .agg #[.slice e1 ns.length f1, .slice e2 is.length f2, .slice e3 ds.length f3]) rfl (by kernel_rfl) (by kernel_rfl) (by kernel_rfl) (fun _ _ _ h => h) (yields_row (by rfl) 43 _ rfl y0 rfl #[.slice e1 ns.length f1, .slice e2 is.length f2, .slice e3 ds.length f3] 43 _ (fun _ h => h.1) Tryz.underlying43 rfl Tryz.sizeCode) (by assumption) ?_
  simp only [Act.put, List.setIfInBounds_toArray, List.set_cons_zero, List.set_cons_succ]
  refine wpAnyH_take (i := 1) (oi := ({ dst := some 62, op := Op.load 28 (Operand.tmp 3), type := 28, pos := "exact.go:3959", after := #[], guard := none } : Oper)) (v := .agg #[.slice a1 ns.length c1, .slice a2 is.length c2, .slice a3 ds.length c3]) rfl (by kernel_rfl) (by kernel_rfl) (by kernel_rfl) (fun _ _ _ h => h) (yields_row (by rfl) 28 _ rfl b0 rfl #[.slice a1 ns.length c1, .slice a2 is.length c2, .slice a3 ds.length c3] 28 _ (fun _ h => h.2) Tryz.underlying28 rfl Tryz.sizeLCode) (by assumption) ?_
  simp only [Act.put, List.setIfInBounds_toArray, List.set_cons_zero, List.set_cons_succ]
  refine wpAnyH_ready (rs := [2]) (by kernel_rfl) (by simp) ?_
  refine AllReadyH.cons rfl (fun K hK => ?_) AllReadyH.nil
  go_simp
  go_wp2_with (go_at_call 9; with_reducible refine (tocode_any _ _ _ ns is ds _ (R1.below B) (R2.below B) (R3.below B) l1 l2 l3).mono ?_; rintro e wA ⟨u1, u2, u3, rfl, S1, S2, S3, hb⟩)
  replace B := B.trans (hb.mono B.size)
  obtain ⟨b1, d1, rfl⟩ := S1.small
  obtain ⟨b2, d2, rfl⟩ := S2.small
  obtain ⟨b3, d3, rfl⟩ := S3.small
  clear hb
  refine hK.out _ _ (hS _ B) (fun hHeld => ?_)
  clear hK
  refine wpAnyH_ready (rs := [3]) (by kernel_rfl) (by simp) ?_
  refine AllReadyH.cons rfl (fun K hK => ?_) AllReadyH.nil
  go_simp
  go_wp2_with (go_at_call 12; with_reducible refine (eqcode_any _ _ _ _ _ _ ns is ds _ (E1.below B) (E2.below B) (E3.below B) S1 S2 S3).mono ?_; rintro e wZ ⟨rfl, hb⟩)
  replace S1 := S1.below hb
  replace S2 := S2.below hb
  replace S3 := S3.below hb
  replace B := B.trans (hb.mono B.size)
  clear hb
  refine hK.out _ _ (hS _ B) (fun hHeld => ?_)
  clear hK
  refine wpAnyH_take (i := 4) (oi := ({ dst := some 65, op := Op.unOp UnOp.not 4 (Operand.tmp 64), type := 4, pos := "exact.go:3959", after := #[{ on := 3, ground := Ground.data }], guard := none } : Oper)) (v := .bool false) rfl (by kernel_rfl) (by kernel_rfl) (by kernel_rfl) (fun _ _ _ h => h) (Or.inl ⟨by rfl, by intro w hSw; go_simp⟩) (by assumption) ?_
  simp only [Act.put, List.setIfInBounds_toArray, List.set_cons_zero, List.set_cons_succ]
  refine wpAnyH_done (by kernel_rfl) ?_ _
  exact NoPanic.normal (hQ _ _ _ _ _ B)

set_option maxRecDepth 100000 in
set_option maxHeartbeats 6400000 in
theorem prpt_r18 {t0 t1 t2 t3 t5 t6 t7 t8 t9 t10 t12 t13 t14 t15 t16 t17 t18 t19 t20 t21 t22 t23 t24 t25 t26 t27 t28 t29 t30 t31 t32 t33 t34 t35 t36 t37 t38 t39 t40 t41 t42 t43 t44 t45 t46 t47 t48 t49 t50 t51 t52 t53 t54 t55 t56 t57 t58 t59 t60 t61 t62 t63 t64 t65 t66 t67 t68 t69 t70 t71 t72 t73 t74 t75 t76 t77 t78 t79 t80 t81 t82 t83 t84 t85 t86 t87 t88 t89 t90 t91 t92 t93 t94 t95 t96 t97 t98 t99 t100 t101 t102 t103 t104 t105 t106 t107 t108 t109 t110 t111 t112 t113 t114 t115 t116 t117 t118 t119 t120 t121 t122 t123 t124 t125 t126 : Value} {fs : List Deferred} (y0 b1x : Nat) (eo eb ec ao ab ac : Option Addr) (fo fb fc cap cb cc : Nat) (i : Int) (xs : List Nd) (m : Mc) (bx ox : List ByteArray) (w : World) (Q : Exit → Act → World → Prop)
    (hy : w.heap[y0]? = some (.cells #[.int .i64 i, .slice eo xs.length fo, .int .i64 m.p, .int .i64 m.s, .int .i64 m.e, .int .i64 m.d, .int .i64 m.t, .int .i64 m.q, .int .i64 m.r, .slice eb bx.length fb, .slice ec ox.length fc] 48 (0, 0))) (hx : w.heap[b1x]? = some (.cells #[.int .i64 i, .slice ao xs.length cap, .int .i64 m.p, .int .i64 m.s, .int .i64 m.e, .int .i64 m.d, .int .i64 m.t, .int .i64 m.q, .int .i64 m.r, .slice ab bx.length cb, .slice ac ox.length cc] 33 (0, 0))) (E : NRow w (.slice eo xs.length fo) xs) (Eb : StRow w (.slice eb bx.length fb) bx) (Eo : StRow w (.slice ec ox.length fc) ox) (R : NRow w (.slice ao xs.length cap) xs) (Rb : StRow w (.slice ab bx.length cb) bx) (Ro : StRow w (.slice ac ox.length cc) ox) (l4 : xs.length ≤ 2097152) (l5 : bx.length ≤ 2097152) (l6 : ox.length ≤ 2097152) (hzx : ∀ x ∈ xs, x.s.size ≤ maxLen) (hzb : ∀ x ∈ bx, x.size ≤ maxLen) (hzo : ∀ x ∈ ox, x.size ≤ maxLen)
    (hQ : ∀ u66 u67 u68 u69 (W : World), Below w.heap.size w W → Q .normal ⟨#[t0, t1, t2, t3, .pointer (some ⟨b1x, 0, none⟩), t5, t6, t7, t8, t9, t10, .pointer (some ⟨y0, 0, none⟩), t12, t13, t14, t15, t16, t17, t18, t19, t20, t21, t22, t23, t24, t25, t26, t27, t28, t29, t30, t31, t32, t33, t34, t35, t36, t37, t38, t39, t40, t41, t42, t43, t44, t45, t46, t47, t48, t49, t50, t51, t52, t53, t54, t55, t56, t57, t58, t59, t60, t61, t62, t63, t64, t65, u66, u67, u68, u69, .bool false, t71, t72, t73, t74, t75, t76, t77, t78, t79, t80, t81, t82, t83, t84, t85, t86, t87, t88, t89, t90, t91, t92, t93, t94, t95, t96, t97, t98, t99, t100, t101, t102, t103, t104, t105, t106, t107, t108, t109, t110, t111, t112, t113, t114, t115, t116, t117, t118, t119, t120, t121, t122, t123, t124, t125, t126], fs⟩ W) :
    (Code.region 18 (List.toArray (({ dst := some 66, op := Op.load 48 (Operand.tmp 11), type := 48, pos := "exact.go:3962", after := #[], guard := none } : Oper) :: ({ dst := some 67, op := Op.load 33 (Operand.tmp 4), type := 33, pos := "exact.go:3962", after := #[], guard := none } : Oper) :: ({ dst := some 68, op := Op.call { callee := Callee.value (Operand.func 10), args := #[Operand.tmp 67], argTypes := #[33] }, type := 48, pos := "exact.go:3962", after := #[{ on := 1, ground := Ground.data }], guard := none } : Oper) :: ({ dst := some 69, op := Op.call { callee := Callee.value (Operand.func 13), args := #[Operand.tmp 66, Operand.tmp 68], argTypes := #[48, 48] }, type := 4, pos := "exact.go:3962", after := #[{ on := 0, ground := Ground.data }, { on := 2, ground := Ground.data }, { on := 2, ground := Ground.chain }], guard := none } : Oper) :: ({ dst := some 70, op := Op.unOp UnOp.not 4 (Operand.tmp 69), type := 4, pos := "exact.go:3962", after := #[{ on := 3, ground := Ground.data }], guard := none } : Oper) :: [])) true).wp Tryz.prog Q ⟨#[t0, t1, t2, t3, .pointer (some ⟨b1x, 0, none⟩), t5, t6, t7, t8, t9, t10, .pointer (some ⟨y0, 0, none⟩), t12, t13, t14, t15, t16, t17, t18, t19, t20, t21, t22, t23, t24, t25, t26, t27, t28, t29, t30, t31, t32, t33, t34, t35, t36, t37, t38, t39, t40, t41, t42, t43, t44, t45, t46, t47, t48, t49, t50, t51, t52, t53, t54, t55, t56, t57, t58, t59, t60, t61, t62, t63, t64, t65, t66, t67, t68, t69, t70, t71, t72, t73, t74, t75, t76, t77, t78, t79, t80, t81, t82, t83, t84, t85, t86, t87, t88, t89, t90, t91, t92, t93, t94, t95, t96, t97, t98, t99, t100, t101, t102, t103, t104, t105, t106, t107, t108, t109, t110, t111, t112, t113, t114, t115, t116, t117, t118, t119, t120, t121, t122, t123, t124, t125, t126], fs⟩ w := by
  have hS : ∀ w', Below w.heap.size w w' → (w'.heap[y0]? = some (.cells #[.int .i64 i, .slice eo xs.length fo, .int .i64 m.p, .int .i64 m.s, .int .i64 m.e, .int .i64 m.d, .int .i64 m.t, .int .i64 m.q, .int .i64 m.r, .slice eb bx.length fb, .slice ec ox.length fc] 48 (0, 0)) ∧ w'.heap[b1x]? = some (.cells #[.int .i64 i, .slice ao xs.length cap, .int .i64 m.p, .int .i64 m.s, .int .i64 m.e, .int .i64 m.d, .int .i64 m.t, .int .i64 m.q, .int .i64 m.r, .slice ab bx.length cb, .slice ac ox.length cc] 33 (0, 0))) := fun w' hb => ⟨blk_bel hy hb, blk_bel hx hb⟩
  have B : Below w.heap.size w w.drew := drew_bel w
  refine wp_region_noPanic ?_
  refine wp_region_held_drew (S := fun w' => w'.heap[y0]? = some (.cells #[.int .i64 i, .slice eo xs.length fo, .int .i64 m.p, .int .i64 m.s, .int .i64 m.e, .int .i64 m.d, .int .i64 m.t, .int .i64 m.q, .int .i64 m.r, .slice eb bx.length fb, .slice ec ox.length fc] 48 (0, 0)) ∧ w'.heap[b1x]? = some (.cells #[.int .i64 i, .slice ao xs.length cap, .int .i64 m.p, .int .i64 m.s, .int .i64 m.e, .int .i64 m.d, .int .i64 m.t, .int .i64 m.q, .int .i64 m.r, .slice ab bx.length cb, .slice ac ox.length cc] 33 (0, 0))) (by kernel_rfl) (hS _ B) (fun hHeld => ?_)
  refine wpAnyH_take (i := 0) (oi := ({ dst := some 66, op := Op.load 48 (Operand.tmp 11), type := 48, pos := "exact.go:3962", after := #[], guard := none } : Oper)) (v := .agg #[.int .i64 i, .slice eo xs.length fo, .int .i64 m.p, .int .i64 m.s, .int .i64 m.e, .int .i64 m.d, .int .i64 m.t, .int .i64 m.q, .int .i64 m.r, .slice eb bx.length fb, .slice ec ox.length fc]) rfl (by kernel_rfl) (by kernel_rfl) (by kernel_rfl) (fun _ _ _ h => h) (yields_row (by rfl) 48 _ rfl y0 rfl #[.int .i64 i, .slice eo xs.length fo, .int .i64 m.p, .int .i64 m.s, .int .i64 m.e, .int .i64 m.d, .int .i64 m.t, .int .i64 m.q, .int .i64 m.r, .slice eb bx.length fb, .slice ec ox.length fc] 48 _ (fun _ h => h.1) Tryz.underlying48 rfl Tryz.sizeProc) (by assumption) ?_
  simp only [Act.put, List.setIfInBounds_toArray, List.set_cons_zero, List.set_cons_succ]
  refine wpAnyH_take (i := 1) (oi := ({ dst := some 67, op := Op.load 33 (Operand.tmp 4), type := 33, pos := "exact.go:3962", after := #[], guard := none } : Oper)) (v := .agg #[.int .i64 i, .slice ao xs.length cap, .int .i64 m.p, .int .i64 m.s, .int .i64 m.e, .int .i64 m.d, .int .i64 m.t, .int .i64 m.q, .int .i64 m.r, .slice ab bx.length cb, .slice ac ox.length cc]) rfl (by kernel_rfl) (by kernel_rfl) (by kernel_rfl) (fun _ _ _ h => h) (yields_row (by rfl) 33 _ rfl b1x rfl #[.int .i64 i, .slice ao xs.length cap, .int .i64 m.p, .int .i64 m.s, .int .i64 m.e, .int .i64 m.d, .int .i64 m.t, .int .i64 m.q, .int .i64 m.r, .slice ab bx.length cb, .slice ac ox.length cc] 33 _ (fun _ h => h.2) Tryz.underlying33 rfl Tryz.sizeLProc) (by assumption) ?_
  simp only [Act.put, List.setIfInBounds_toArray, List.set_cons_zero, List.set_cons_succ]
  refine wpAnyH_ready (rs := [2]) (by kernel_rfl) (by simp) ?_
  refine AllReadyH.cons rfl (fun K hK => ?_) AllReadyH.nil
  go_simp
  go_wp2_with (go_at_call 10; with_reducible refine (toproc_any i _ _ _ xs m bx ox _ (R.below B) (Rb.below B) (Ro.below B) l4 l5 l6).mono ?_; rintro e wP ⟨y1, y2, y3, rfl, P1, P2, P3, hap, hb⟩)
  replace B := B.trans (hb.mono B.size)
  obtain ⟨bo, dap, rfl⟩ := own_form P1
  obtain ⟨bb, db, rfl⟩ := own_form P2
  obtain ⟨bc, dc, rfl⟩ := own_form P3
  have Y := NRow.of_own P1 (by omega) hzx
  have Yb := StRow.of_own P2 (by omega) hzb
  have Yo := StRow.of_own P3 (by omega) hzo
  clear P1 P2 P3 hap
  clear hb
  refine hK.out _ _ (hS _ B) (fun hHeld => ?_)
  clear hK
  refine wpAnyH_ready (rs := [3]) (by kernel_rfl) (by simp) ?_
  refine AllReadyH.cons rfl (fun K hK => ?_) AllReadyH.nil
  go_simp
  go_wp2_with (go_at_call 13; with_reducible refine (eqproc_any i _ _ _ _ _ _ xs m bx ox _ (E.below B) (Eb.below B) (Eo.below B) Y Yb Yo).mono ?_; rintro e wZ ⟨rfl, hb⟩)
  replace Y := Y.below hb
  replace Yb := Yb.below hb
  replace Yo := Yo.below hb
  replace B := B.trans (hb.mono B.size)
  clear hb
  refine hK.out _ _ (hS _ B) (fun hHeld => ?_)
  clear hK
  refine wpAnyH_take (i := 4) (oi := ({ dst := some 70, op := Op.unOp UnOp.not 4 (Operand.tmp 69), type := 4, pos := "exact.go:3962", after := #[{ on := 3, ground := Ground.data }], guard := none } : Oper)) (v := .bool false) rfl (by kernel_rfl) (by kernel_rfl) (by kernel_rfl) (fun _ _ _ h => h) (Or.inl ⟨by rfl, by intro w hSw; go_simp⟩) (by assumption) ?_
  simp only [Act.put, List.setIfInBounds_toArray, List.set_cons_zero, List.set_cons_succ]
  refine wpAnyH_done (by kernel_rfl) ?_ _
  exact NoPanic.normal (hQ _ _ _ _ _ B)

end Go.Proofs.YtdkkpopnoeapdaaGreatDoor
