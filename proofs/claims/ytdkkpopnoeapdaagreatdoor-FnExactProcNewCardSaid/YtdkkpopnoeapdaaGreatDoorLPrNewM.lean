/-
  Texts that stood by themselves, laid into one.
-/
import Derived.Test.YtdkkpopnoeapdaaGreatDoorBsM
import Derived.Test.YtdkkpopnoeapdaaGreatDoorLMakeM
import Derived.Test.YtdkkpopnoeapdaaGreatDoorPrToM
import Derived.Test.YtdkkpopnoeapdaaGreatDoorShapeM
import Derived.Test.YtdkkpopnoeapdaaGreatDoorDefOfM
import Derived.Test.YtdkkpopnoeapdaaGreatDoorSList2M
import Derived.Test.YtdkkpopnoeapdaaGreatDoorMark2M
import Derived.Test.YtdkkpopnoeapdaaGreatDoorPrNewM
import Derived.Test.YtdkkpopnoeapdaaGreatDoorLPrOkRM
/-
  A machine's variable (VarM), and the contracts of the laws' helpers markMachine and heldMachine. No condition.
-/
namespace Go.Proofs.YtdkkpopnoeapdaaGreatDoor
open Go.RowKit

theorem stepD8 {w2 w3 : World} (h : Below w2.drew.heap.size w2.drew w3) : Below w2.heap.size w2 w3 := (Below.refl _ _).drew.trans h
/-- What a machine's variable holds: at block b, a machine whose row of nodes lies between lo and hi and reads as xs. -/
def VarM (w : World) (b lo hi : Nat) (v : Value) (xs : List Nd) (m : Mc) : Prop :=
  w.heap[b]? = some (.cells #[v, .int .i64 m.p, .int .i64 m.s, .int .i64 m.e, .int .i64 m.d, .int .i64 m.t, .int .i64 m.q, .int .i64 m.r] 46 (0, 0)) ∧ w.ownsRow lo 119 5 v xs.length (ncs xs) ∧ (∀ k, v.ownBlock = some k → k < hi) ∧ hi ≤ w.heap.size
theorem VarM.new {w5 we : World} {lo : Nat} {v : Value} {xs : List Nd} {m : Mc} (ho : w5.ownsRow lo 119 5 v xs.length (ncs xs)) (hd : Below w5.heap.size w5 we) (hb : we.heap[w5.heap.size]? = some (.cells #[v, .int .i64 m.p, .int .i64 m.s, .int .i64 m.e, .int .i64 m.d, .int .i64 m.t, .int .i64 m.q, .int .i64 m.r] 46 (0, 0))) :
    VarM we w5.heap.size lo we.heap.size v xs m := ⟨hb, own_below ho hd, fun k hk => ((own_below ho hd).lt k hk).2, Nat.le_refl _⟩
theorem VarM.below {w w' : World} {b lo hi : Nat} {v : Value} {xs : List Nd} {m : Mc} (h : VarM w b lo hi v xs m) (hb : Below w.heap.size w w') : VarM w' b lo hi v xs m :=
  ⟨(hb.block b (Array.getElem?_eq_some_iff.1 h.1).1).trans h.1, own_below h.2.1 hb, h.2.2.1, Nat.le_trans h.2.2.2 hb.size⟩
theorem VarM.row {w : World} {b lo hi : Nat} {v : Value} {xs : List Nd} {m : Mc} (h : VarM w b lo hi v xs m) (hm : xs.length ≤ 4194304) (hz : ∀ x ∈ xs, x.s.size ≤ maxLen) : NRow w v xs := NRow.of_own h.2.1 (by omega) hz
theorem VarM.lt {w : World} {b lo hi : Nat} {v : Value} {xs : List Nd} {m : Mc} (h : VarM w b lo hi v xs m) : b < w.heap.size := (Array.getElem?_eq_some_iff.1 h.1).1
theorem VarM.kept {w w' : World} {b lo hi lo' hi' b' : Nat} {v v' : Value} {xs xs' : List Nd} {m m' : Mc} (h : VarM w b lo hi v xs m) (h' : VarM w b' lo' hi' v' xs' m') (hg : w.grownBy w' v'.ownBlock) (hd : hi ≤ lo' ∨ hi' ≤ lo) : VarM w' b lo hi v xs m := by
  have hne : v'.ownBlock ≠ some b := own_ne h'.2.1 h.1 (by decide)
  refine ⟨(hg.block b h.lt (fun e => hne e.symm)).trans h.1, h.2.1.kept hg ?_, h.2.2.1, Nat.le_trans h.2.2.2 hg.size⟩
  cases hv : v.ownBlock with
  | none => exact Or.inl rfl
  | some k =>
    refine Or.inr fun e => ?_
    have k1 := h.2.2.1 k hv
    have k2 := (h.2.1.lt k hv).1
    have k3 := h'.2.2.1 k e.symm
    have k4 := (h'.2.1.lt k e.symm).1
    omega
theorem VarM.marked {w w' : World} {b lo hi : Nat} {v : Value} {xs ys : List Nd} {m : Mc} (h : VarM w b lo hi v xs m) (hg : w.grownBy w' v.ownBlock) (ho : w'.ownsRow lo 119 5 v ys.length (ncs ys)) : VarM w' b lo hi v ys m :=
  ⟨(hg.block b h.lt (fun e => own_ne h.2.1 h.1 (by decide) e.symm)).trans h.1, ho, h.2.2.1, Nat.le_trans h.2.2.2 hg.size⟩
theorem VarM.block {w w' : World} {b lo hi : Nat} {v : Value} {xs : List Nd} {m : Mc} (h : VarM w b lo hi v xs m) (hg : w.grownBy w' v.ownBlock) {j : Nat} {c : Array Value} {t : TypeId} (hj : w.heap[j]? = some (.cells c t (0, 0))) (hte : t ≠ 119) : w'.heap[j]? = some (.cells c t (0, 0)) :=
  (hg.block j (Array.getElem?_eq_some_iff.1 hj).1 (fun e => own_ne h.2.1 hj hte e.symm)).trans hj
theorem below_markM {w w' : World} {B b lo hi : Nat} {v : Value} {xs : List Nd} {m : Mc} {w0 : World} (h0 : Below B w0 w) (h : VarM w b lo hi v xs m) (hg : w.grownBy w' v.ownBlock) (hlo : B ≤ lo) (hB : B ≤ w.heap.size) : Below B w0 w' :=
  h0.grown hg hB (fun k hk => Nat.le_trans hlo (h.2.1.lt k hk).1)

set_option maxHeartbeats 400000 in
theorem markmach_any (v : Value) (k : Int) (base : Nat) (xs : List Nd) (m : Mc) (w : World) (h : w.ownsRow base 119 5 v xs.length (ncs xs)) (hm : xs.length ≤ 4194304) (hk0 : 0 ≤ k) (hk : k ≤ 2305843009213693952) :
    Calls Tryz.prog 48 #[.agg #[v, .int .i64 m.p, .int .i64 m.s, .int .i64 m.e, .int .i64 m.d, .int .i64 m.t, .int .i64 m.q, .int .i64 m.r], .int .i64 k] w fun e w' => e = .returned (.int .i64 (k + 5 * xs.length)) ∧ w'.ownsRow base 119 5 v xs.length (ncs (nmarked k xs xs.length)) ∧ w.grownBy w' v.ownBlock := by
  obtain ⟨ao, cap, rfl⟩ := own_form h
  go_enter Tryz.func48, Tryz.ntmps48
  go_wp2_with fail
  refine (markpool_any _ k base xs _ (h.alloc _) hm hk0 hk).mono ?_
  rintro e w2 ⟨rfl, ho2, hb2⟩
  have hB2 := (World.grownBy_alloc w (Obj.cells #[.slice ao xs.length cap, .int .i64 m.p, .int .i64 m.s, .int .i64 m.e, .int .i64 m.d, .int .i64 m.t, .int .i64 m.q, .int .i64 m.r] 46) (Value.slice ao xs.length cap).ownBlock).trans hb2
  clear hb2
  go_wp2
  go_ret
  exact ⟨rfl, ho2, hB2⟩

set_option maxHeartbeats 400000 in
theorem heldmach_any (v : Value) (k : Int) (xs : List Nd) (m : Mc) (w : World) (R : NRow w v (nmarked k xs xs.length)) (hm : xs.length ≤ 4194304) (hk0 : 0 ≤ k) (hk : k ≤ 2305843009213693952) :
    Calls Tryz.prog 50 #[.agg #[v, .int .i64 m.p, .int .i64 m.s, .int .i64 m.e, .int .i64 m.d, .int .i64 m.t, .int .i64 m.q, .int .i64 m.r], .int .i64 k] w fun e w' => e = .returned (.int .i64 (k + 5 * xs.length)) ∧ Below w.heap.size w w' := by
  have R' := R
  obtain ⟨ao, cap, rfl, _⟩ := R'
  rw [nmarked_length _ _ _ (Nat.le_refl _)] at R ⊢
  go_enter Tryz.func50, Tryz.ntmps50
  go_wp2_with fail
  have hbel : Below w.heap.size w (w.alloc (Obj.cells #[.slice ao xs.length cap, .int .i64 m.p, .int .i64 m.s, .int .i64 m.e, .int .i64 m.d, .int .i64 m.t, .int .i64 m.q, .int .i64 m.r] 46)) := (Below.refl _ _).alloc (Nat.le_refl _) _
  refine (heldpool_any _ k xs _ (R.below hbel) hm hk0 hk).mono ?_
  rintro e w2 ⟨rfl, hb2⟩
  have hB2 := hbel.trans (hb2.mono hbel.size)
  clear hb2 hbel
  have hpos : ¬ (k + 5 * (xs.length : Int)) < 0 := by omega
  go_wp2
  go_ret
  exact ⟨rfl, hB2⟩


/-- What another block's turning leaves. -/
theorem VarM.keptBy {w w' : World} {b lo hi : Nat} {v : Value} {xs : List Nd} {m : Mc} {o : Option Nat} (h : VarM w b lo hi v xs m) (hg : w.grownBy w' o) (hb : ∀ k, o = some k → k ≠ b ∧ (k < lo ∨ hi ≤ k)) : VarM w' b lo hi v xs m := by
  refine ⟨(hg.block b h.lt (fun e => (hb b e.symm).1 rfl)).trans h.1, h.2.1.kept hg ?_, h.2.2.1, Nat.le_trans h.2.2.2 hg.size⟩
  cases hv : v.ownBlock with
  | none => exact Or.inl rfl
  | some k =>
    refine Or.inr fun e => ?_
    have k1 := h.2.2.1 k hv
    have k2 := (h.2.1.lt k hv).1
    have k3 := (hb k e.symm).2
    omega
end Go.Proofs.YtdkkpopnoeapdaaGreatDoor

/-
  A process's variable (VarPr), and the contracts of the laws' helpers markProc and heldProc. No condition.
-/
namespace Go.Proofs.YtdkkpopnoeapdaaGreatDoor
open Go.RowKit

/-- Rows of different kinds are different rows. -/
theorem own_kinds {w : World} {B B' k k' n n' : Nat} {e e' : TypeId} {v v' : Value} {l l' : List Value} (h : w.ownsRow B e k v n l) (h' : w.ownsRow B' e' k' v' n' l') (hne : e ≠ e') : v.ownBlock = none ∨ v.ownBlock ≠ v'.ownBlock := by
  rcases h.2 with ⟨rfl, _⟩ | ⟨g, cap, cur, rfl, hB, hg, _⟩
  · exact Or.inl rfl
  · right
    intro e1
    exact own_ne h' hg hne e1.symm

set_option maxHeartbeats 800000 in
theorem markstrs_own (v : Value) (k : Int) (base : Nat) (xs : List ByteArray) (w : World) (h : w.ownsRow base 9 1 v xs.length (stv xs)) (hm : xs.length ≤ 4194304) (hk0 : 0 ≤ k) (hk : k ≤ 2305843009213693952) :
    Calls Tryz.prog 49 #[v, .int .i64 k] w fun e w' => e = .returned (.int .i64 (k + xs.length)) ∧ w'.ownsRow base 9 1 v xs.length (stv (sm k xs.length)) ∧ w.grownBy w' v.ownBlock := by
  have h' := h
  rcases h.2 with ⟨rfl, h0⟩ | ⟨g, cap, cur, rfl, hB, hg, _⟩
  · have : xs = [] := List.eq_nil_of_length_eq_zero h0
    subst this
    go_enter Tryz.func49, Tryz.ntmps49
    go_wp2
    refine wp_loop_rounds 1 ?_
    rw [rounds_succ]
    go_wp2
    go_ret
    exact ⟨by simp, h', World.grownBy.refl _ _⟩
  · refine (markstrs_mid g 0 cap cap xs.length base k [] xs [] w rfl (by simp) (by simpa using h') hm hk0 hk).mono ?_
    rintro e w' ⟨rfl, ho, hgr⟩
    exact ⟨rfl, by simpa using ho, hgr⟩

/-- What a process's variable holds: at block b, a process whose rows lie between lo and hi. -/
structure VarPr (w : World) (b lo hi : Nat) (v vb vo : Value) (i : Int) (xs : List Nd) (m : Mc) (bx ox : List ByteArray) : Prop where
  blk : w.heap[b]? = some (.cells #[.int .i64 i, v, .int .i64 m.p, .int .i64 m.s, .int .i64 m.e, .int .i64 m.d, .int .i64 m.t, .int .i64 m.q, .int .i64 m.r, vb, vo] 48 (0, 0))
  o1 : w.ownsRow lo 119 5 v xs.length (ncs xs)
  o2 : w.ownsRow lo 9 1 vb bx.length (stv bx)
  o3 : w.ownsRow lo 9 1 vo ox.length (stv ox)
  t1 : ∀ k, v.ownBlock = some k → k < hi
  t2 : ∀ k, vb.ownBlock = some k → k < hi
  t3 : ∀ k, vo.ownBlock = some k → k < hi
  ap : ∀ g, vo.ownBlock = some g → vb.ownBlock ≠ some g
  top : hi ≤ w.heap.size
theorem VarPr.of {w : World} {b lo : Nat} {v vb vo : Value} {i : Int} {xs : List Nd} {m : Mc} {bx ox : List ByteArray} (hb : w.heap[b]? = some (.cells #[.int .i64 i, v, .int .i64 m.p, .int .i64 m.s, .int .i64 m.e, .int .i64 m.d, .int .i64 m.t, .int .i64 m.q, .int .i64 m.r, vb, vo] 48 (0, 0))) (h1 : w.ownsRow lo 119 5 v xs.length (ncs xs)) (h2 : w.ownsRow lo 9 1 vb bx.length (stv bx)) (h3 : w.ownsRow lo 9 1 vo ox.length (stv ox)) (ha : ∀ g, vo.ownBlock = some g → vb.ownBlock ≠ some g) : VarPr w b lo w.heap.size v vb vo i xs m bx ox :=
  ⟨hb, h1, h2, h3, fun k hk => (h1.lt k hk).2, fun k hk => (h2.lt k hk).2, fun k hk => (h3.lt k hk).2, ha, Nat.le_refl _⟩
section
variable {w w' : World} {b lo hi : Nat} {v vb vo : Value} {i : Int} {xs : List Nd} {m : Mc} {bx ox : List ByteArray}
theorem VarPr.below (h : VarPr w b lo hi v vb vo i xs m bx ox) (hb : Below w.heap.size w w') : VarPr w' b lo hi v vb vo i xs m bx ox :=
  ⟨blk_bel h.blk hb, own_below h.o1 hb, own_below h.o2 hb, own_below h.o3 hb, h.t1, h.t2, h.t3, h.ap, Nat.le_trans h.top hb.size⟩
theorem VarPr.lt (h : VarPr w b lo hi v vb vo i xs m bx ox) : b < w.heap.size := blk_lt h.blk
theorem VarPr.row (h : VarPr w b lo hi v vb vo i xs m bx ox) (hm : xs.length ≤ 4194304) (hz : ∀ x ∈ xs, x.s.size ≤ maxLen) : NRow w v xs := NRow.of_own h.o1 (by omega) hz
theorem VarPr.rowb (h : VarPr w b lo hi v vb vo i xs m bx ox) (hm : bx.length ≤ 4194304) (hz : ∀ x ∈ bx, x.size ≤ maxLen) : StRow w vb bx := StRow.of_own h.o2 (by omega) hz
theorem VarPr.rowo (h : VarPr w b lo hi v vb vo i xs m bx ox) (hm : ox.length ≤ 4194304) (hz : ∀ x ∈ ox, x.size ≤ maxLen) : StRow w vo ox := StRow.of_own h.o3 (by omega) hz
theorem own_range {e : TypeId} {k n : Nat} {u : Value} {l : List Value} {o : Option Nat} (h : w.ownsRow lo e k u n l) (ht : ∀ k, u.ownBlock = some k → k < hi) (hg : w.grownBy w' o) (hb : ∀ k, o = some k → k < lo ∨ hi ≤ k) : w'.ownsRow lo e k u n l := by
  refine h.kept hg ?_
  cases hv : u.ownBlock with
  | none => exact Or.inl rfl
  | some k =>
    refine Or.inr fun e => ?_
    have k1 := ht k hv
    have k2 := (h.lt k hv).1
    have k3 := hb k e.symm
    omega
/-- What another block's turning leaves. -/
theorem VarPr.keptBy {o : Option Nat} (h : VarPr w b lo hi v vb vo i xs m bx ox) (hg : w.grownBy w' o) (hb : ∀ k, o = some k → k ≠ b ∧ (k < lo ∨ hi ≤ k)) : VarPr w' b lo hi v vb vo i xs m bx ox :=
  ⟨(hg.block b h.lt (fun e => (hb b e.symm).1 rfl)).trans h.blk, own_range h.o1 h.t1 hg (fun k hk => (hb k hk).2), own_range h.o2 h.t2 hg (fun k hk => (hb k hk).2), own_range h.o3 h.t3 hg (fun k hk => (hb k hk).2), h.t1, h.t2, h.t3, h.ap, Nat.le_trans h.top hg.size⟩
/-- Its own rows turned. -/
theorem VarPr.turned {ys : List Nd} {by' oy : List ByteArray} {wa wb : World} (h : VarPr w b lo hi v vb vo i xs m bx ox) (ga : w.grownBy wa v.ownBlock) (gb : wa.grownBy wb vb.ownBlock) (gc : wb.grownBy w' vo.ownBlock) (h1 : w'.ownsRow lo 119 5 v ys.length (ncs ys)) (h2 : w'.ownsRow lo 9 1 vb by'.length (stv by')) (h3 : w'.ownsRow lo 9 1 vo oy.length (stv oy)) : VarPr w' b lo hi v vb vo i ys m by' oy := by
  have l0 := h.lt
  have l1 := Nat.lt_of_lt_of_le l0 ga.size
  have l2 := Nat.lt_of_lt_of_le l1 gb.size
  refine ⟨((gc.block b l2 (fun e => own_ne h.o3 h.blk (by decide) e.symm)).trans ((gb.block b l1 (fun e => own_ne h.o2 h.blk (by decide) e.symm)).trans (ga.block b l0 (fun e => own_ne h.o1 h.blk (by decide) e.symm)))).trans h.blk, h1, h2, h3, h.t1, h.t2, h.t3, h.ap, Nat.le_trans h.top (Nat.le_trans ga.size (Nat.le_trans gb.size gc.size))⟩
theorem VarPr.frame {W0 wa wb : World} {B : Nat} (h0 : Below B W0 w) (h : VarPr w b lo hi v vb vo i xs m bx ox) (ga : w.grownBy wa v.ownBlock) (gb : wa.grownBy wb vb.ownBlock) (gc : wb.grownBy w' vo.ownBlock) (hlo : B ≤ lo) (hB : B ≤ w.heap.size) : Below B W0 w' :=
  ((h0.grown ga hB (fun k hk => Nat.le_trans hlo (h.o1.lt k hk).1)).grown gb (Nat.le_trans hB ga.size) (fun k hk => Nat.le_trans hlo (h.o2.lt k hk).1)).grown gc (Nat.le_trans hB (Nat.le_trans ga.size gb.size)) (fun k hk => Nat.le_trans hlo (h.o3.lt k hk).1)
/-- A block that is no row stays. -/
theorem VarPr.other {wa wb : World} {j : Nat} {c : Array Value} {t : TypeId} (h : VarPr w b lo hi v vb vo i xs m bx ox) (ga : w.grownBy wa v.ownBlock) (gb : wa.grownBy wb vb.ownBlock) (gc : wb.grownBy w' vo.ownBlock) (hj : w.heap[j]? = some (.cells c t (0, 0))) (h1 : t ≠ 119) (h2 : t ≠ 9) : w'.heap[j]? = some (.cells c t (0, 0)) := by
  have l0 := blk_lt hj
  have l1 := Nat.lt_of_lt_of_le l0 ga.size
  have l2 := Nat.lt_of_lt_of_le l1 gb.size
  exact ((gc.block j l2 (fun e => own_ne h.o3 hj h2 e.symm)).trans ((gb.block j l1 (fun e => own_ne h.o2 hj h2 e.symm)).trans (ga.block j l0 (fun e => own_ne h.o1 hj h1 e.symm)))).trans hj
/-- Where another's rows are turned. -/
theorem VarPr.kept3 {wa wb : World} {b' lo' hi' : Nat} {u ub uo : Value} {j : Int} {ys : List Nd} {m' : Mc} {by' oy : List ByteArray} (h : VarPr w b lo hi v vb vo i xs m bx ox) (h' : VarPr w b' lo' hi' u ub uo j ys m' by' oy) (ga : w.grownBy wa u.ownBlock) (gb : wa.grownBy wb ub.ownBlock) (gc : wb.grownBy w' uo.ownBlock) (hd : hi ≤ lo' ∨ hi' ≤ lo) : VarPr w' b lo hi v vb vo i xs m bx ox := by
  refine ((h.keptBy ga (fun k hk => ?_)).keptBy gb (fun k hk => ?_)).keptBy gc (fun k hk => ?_)
  · have k1 := (h'.o1.lt k hk).1
    have k2 := h'.t1 k hk
    exact ⟨fun e => own_ne h'.o1 h.blk (by decide) (e ▸ hk), by omega⟩
  · have k1 := (h'.o2.lt k hk).1
    have k2 := h'.t2 k hk
    exact ⟨fun e => own_ne h'.o2 h.blk (by decide) (e ▸ hk), by omega⟩
  · have k1 := (h'.o3.lt k hk).1
    have k2 := h'.t3 k hk
    exact ⟨fun e => own_ne h'.o3 h.blk (by decide) (e ▸ hk), by omega⟩
end

set_option maxRecDepth 100000 in
set_option maxHeartbeats 1600000 in
theorem markproc_any (v vb vo : Value) (k : Int) (base : Nat) (i : Int) (xs : List Nd) (m : Mc) (bx ox : List ByteArray) (w : World) (h1 : w.ownsRow base 119 5 v xs.length (ncs xs)) (h2 : w.ownsRow base 9 1 vb bx.length (stv bx)) (h3 : w.ownsRow base 9 1 vo ox.length (stv ox)) (ha : ∀ g, vo.ownBlock = some g → vb.ownBlock ≠ some g) (l1 : xs.length ≤ 4194304) (l2 : bx.length ≤ 4194304) (l3 : ox.length ≤ 4194304) (hk0 : 0 ≤ k) (hk : k ≤ 1152921504606846976) :
    Calls Tryz.prog 17 #[.agg #[.int .i64 i, v, .int .i64 m.p, .int .i64 m.s, .int .i64 m.e, .int .i64 m.d, .int .i64 m.t, .int .i64 m.q, .int .i64 m.r, vb, vo], .int .i64 k] w fun e w' => e = .returned (.int .i64 (k + 5 * xs.length + bx.length + ox.length)) ∧ ∃ wa wb, w.grownBy wa v.ownBlock ∧ wa.grownBy wb vb.ownBlock ∧ wb.grownBy w' vo.ownBlock ∧ w'.ownsRow base 119 5 v xs.length (ncs (nmarked k xs xs.length)) ∧ w'.ownsRow base 9 1 vb bx.length (stv (sm (k + 5 * xs.length) bx.length)) ∧ w'.ownsRow base 9 1 vo ox.length (stv (sm (k + 5 * xs.length + bx.length) ox.length)) := by
  obtain ⟨ao, cap, rfl⟩ := own_form h1
  obtain ⟨ab, cb, rfl⟩ := own_form h2
  obtain ⟨ac, cc, rfl⟩ := own_form h3
  have g0 := World.grownBy_alloc w (Obj.cells #[.int .i64 i, .slice ao xs.length cap, .int .i64 m.p, .int .i64 m.s, .int .i64 m.e, .int .i64 m.d, .int .i64 m.t, .int .i64 m.q, .int .i64 m.r, .slice ab bx.length cb, .slice ac ox.length cc] 48) (Value.slice ao xs.length cap).ownBlock
  have hx0 := heap_alloc_new w (Obj.cells #[.int .i64 i, .slice ao xs.length cap, .int .i64 m.p, .int .i64 m.s, .int .i64 m.e, .int .i64 m.d, .int .i64 m.t, .int .i64 m.q, .int .i64 m.r, .slice ab bx.length cb, .slice ac ox.length cc] 48)
  replace h1 := h1.alloc (Obj.cells #[.int .i64 i, .slice ao xs.length cap, .int .i64 m.p, .int .i64 m.s, .int .i64 m.e, .int .i64 m.d, .int .i64 m.t, .int .i64 m.q, .int .i64 m.r, .slice ab bx.length cb, .slice ac ox.length cc] 48)
  replace h2 := h2.alloc (Obj.cells #[.int .i64 i, .slice ao xs.length cap, .int .i64 m.p, .int .i64 m.s, .int .i64 m.e, .int .i64 m.d, .int .i64 m.t, .int .i64 m.q, .int .i64 m.r, .slice ab bx.length cb, .slice ac ox.length cc] 48)
  replace h3 := h3.alloc (Obj.cells #[.int .i64 i, .slice ao xs.length cap, .int .i64 m.p, .int .i64 m.s, .int .i64 m.e, .int .i64 m.d, .int .i64 m.t, .int .i64 m.q, .int .i64 m.r, .slice ab bx.length cb, .slice ac ox.length cc] 48)
  go_enter Tryz.func17, Tryz.ntmps17
  go_wp2_with (refine wpList_load_sub rfl 46 _ rfl w.heap.size 1 rfl _ 48 #[.slice ao xs.length cap, .int .i64 m.p, .int .i64 m.s, .int .i64 m.e, .int .i64 m.d, .int .i64 m.t, .int .i64 m.q, .int .i64 m.r] _ hx0 rfl Tryz.underlying46 rfl Tryz.sizeMach ?_)
  refine (markmach_any _ k base xs m _ h1 l1 hk0 (by omega)).mono ?_
  rintro e w1 ⟨rfl, p1, ga⟩
  have p2 := h2.kept ga (own_kinds h2 h1 (by decide))
  have p3 := h3.kept ga (own_kinds h3 h1 (by decide))
  have hx1 := (ga.block _ (blk_lt hx0) (fun e => own_ne h1 hx0 (by decide) e.symm)).trans hx0
  have GA := g0.trans ga
  clear g0 ga hx0 h1 h2 h3
  have k9 : w1.cell? ⟨w.heap.size, 0 + 9, none⟩ = some (.slice ab bx.length cb) := cell_of_row w1 _ 9 _ _ _ hx1
  go_wp2_with fail
  refine (markstrs_own _ (k + 5 * xs.length) base bx _ p2 l2 (by omega) (by omega)).mono ?_
  rintro e w2 ⟨rfl, r2, gb⟩
  have r1 := p1.kept gb (own_kinds p1 p2 (by decide))
  have r3 := p3.kept gb (by
    cases hv : (Value.slice ac ox.length cc).ownBlock with
    | none => exact Or.inl rfl
    | some g => exact Or.inr (fun e => ha g hv e.symm))
  have hx2 := (gb.block _ (blk_lt hx1) (fun e => own_ne p2 hx1 (by decide) e.symm)).trans hx1
  clear hx1 p1 p2 p3 k9
  have k10 : w2.cell? ⟨w.heap.size, 0 + 10, none⟩ = some (.slice ac ox.length cc) := cell_of_row w2 _ 10 _ _ _ hx2
  go_wp2_with fail
  refine (markstrs_own _ (k + 5 * xs.length + bx.length) base ox _ r3 l3 (by omega) (by omega)).mono ?_
  rintro e w3 ⟨rfl, s3, gc⟩
  have s1 := r1.kept gc (own_kinds r1 r3 (by decide))
  have s2 := r2.kept gc (by
    cases hv : (Value.slice ab bx.length cb).ownBlock with
    | none => exact Or.inl rfl
    | some g => exact Or.inr (fun e => ha g e.symm hv))
  clear hx2 r1 r2 r3 k10
  go_wp2
  go_ret
  exact ⟨rfl, w1, w2, GA, gb, gc, s1, s2, s3⟩

set_option maxRecDepth 100000 in
set_option maxHeartbeats 1600000 in
theorem heldproc_any (v vb vo : Value) (k : Int) (i : Int) (xs : List Nd) (m : Mc) (nb no : Nat) (w : World) (R : NRow w v (nmarked k xs xs.length)) (Rb : StRow w vb (sm (k + 5 * xs.length) nb)) (Ro : StRow w vo (sm (k + 5 * xs.length + nb) no)) (l1 : xs.length ≤ 4194304) (l2 : nb ≤ 4194304) (l3 : no ≤ 4194304) (hk0 : 0 ≤ k) (hk : k ≤ 1152921504606846976) :
    Calls Tryz.prog 18 #[.agg #[.int .i64 i, v, .int .i64 m.p, .int .i64 m.s, .int .i64 m.e, .int .i64 m.d, .int .i64 m.t, .int .i64 m.q, .int .i64 m.r, vb, vo], .int .i64 k] w fun e w' => e = .returned (.int .i64 (k + 5 * xs.length + nb + no)) ∧ Below w.heap.size w w' := by
  obtain ⟨ao, cap, e0⟩ : ∃ ao cap, v = .slice ao xs.length cap := by
    obtain ⟨ao, cap, rfl, _⟩ := R
    rw [nmarked_length _ _ _ (Nat.le_refl _)]
    exact ⟨ao, cap, rfl⟩
  obtain ⟨ab, cb, e1⟩ := Rb.small
  obtain ⟨ac, cc, e2⟩ := Ro.small
  rw [sm_length] at e1 e2
  subst e0 e1 e2
  have hB0 : Below w.heap.size w (w.alloc (Obj.cells #[.int .i64 i, .slice ao xs.length cap, .int .i64 m.p, .int .i64 m.s, .int .i64 m.e, .int .i64 m.d, .int .i64 m.t, .int .i64 m.q, .int .i64 m.r, .slice ab nb cb, .slice ac no cc] 48)) := (Below.refl _ _).alloc (Nat.le_refl _) _
  have hx0 := heap_alloc_new w (Obj.cells #[.int .i64 i, .slice ao xs.length cap, .int .i64 m.p, .int .i64 m.s, .int .i64 m.e, .int .i64 m.d, .int .i64 m.t, .int .i64 m.q, .int .i64 m.r, .slice ab nb cb, .slice ac no cc] 48)
  go_enter Tryz.func18, Tryz.ntmps18
  go_wp2_with (refine wpList_load_sub rfl 46 _ rfl w.heap.size 1 rfl _ 48 #[.slice ao xs.length cap, .int .i64 m.p, .int .i64 m.s, .int .i64 m.e, .int .i64 m.d, .int .i64 m.t, .int .i64 m.q, .int .i64 m.r] _ hx0 rfl Tryz.underlying46 rfl Tryz.sizeMach ?_)
  refine (heldmach_any _ k xs m _ (R.below hB0) l1 hk0 (by omega)).mono ?_
  rintro e w1 ⟨rfl, hb1⟩
  have hx1 := blk_bel hx0 hb1
  have hB1 := hB0.trans (hb1.mono hB0.size)
  clear hB0 hx0 hb1
  have p1 : ¬ (k + 5 * (xs.length : Int)) < 0 := by omega
  have k9 : w1.cell? ⟨w.heap.size, 0 + 9, none⟩ = some (.slice ab nb cb) := cell_of_row w1 _ 9 _ _ _ hx1
  go_wp2_with fail
  refine (heldstrs_any _ (k + 5 * xs.length) nb _ (Rb.below hB1) l2 (by omega) (by omega)).mono ?_
  rintro e w2 ⟨rfl, hb2⟩
  have hx2 := blk_bel hx1 hb2
  have hB2 := hB1.trans (hb2.mono hB1.size)
  clear hB1 hx1 hb2 k9
  have p2 : ¬ (k + 5 * (xs.length : Int) + (nb : Int)) < 0 := by omega
  have k10 : w2.cell? ⟨w.heap.size, 0 + 10, none⟩ = some (.slice ac no cc) := cell_of_row w2 _ 10 _ _ _ hx2
  go_wp2_with fail
  refine (heldstrs_any _ (k + 5 * xs.length + nb) no _ (Ro.below hB2) l3 (by omega) (by omega)).mono ?_
  rintro e w3 ⟨rfl, hb3⟩
  have hB3 := hB2.trans (hb3.mono hB2.size)
  clear hB2 hx2 hb3 k10
  have p3 : ¬ (k + 5 * (xs.length : Int) + (nb : Int) + (no : Int)) < 0 := by omega
  go_wp2
  go_ret
  exact ⟨rfl, hB3⟩
end Go.Proofs.YtdkkpopnoeapdaaGreatDoor

/-
  Contracts of the laws' helpers markInstrS, markDefS, markCode: what is marked is turned, and nothing else. No condition.
-/
namespace Go.Proofs.YtdkkpopnoeapdaaGreatDoor
open Go.RowKit

set_option maxHeartbeats 1600000 in
theorem markinstrs_any (v : Value) (k : Int) (base n : Nat) (cs : List Value) (w : World) (h : w.ownsRow base 107 4 v n cs) (hl : cs.length = n * 4) (hm : n ≤ 4194304) (hk0 : 0 ≤ k) (hk : k ≤ 2305843009213693952) :
    Calls Tryz.prog 46 #[v, .int .i64 k] w fun e w' => e = .returned (.int .i64 (k + 4 * n)) ∧ w.grownBy w' v.ownBlock := by
  rcases h.2 with ⟨rfl, h0⟩ | ⟨g, cap, cur, rfl, hb, hg, hnc, hcm, hcs, htake⟩
  · subst h0
    go_enter Tryz.func46, Tryz.ntmps46
    go_wp2
    refine wp_loop_rounds 1 ?_
    rw [rounds_succ]
    go_wp2
    go_ret
    exact ⟨by simp, World.grownBy.refl _ _⟩
  · clear hg hcs htake
    go_enter Tryz.func46, Tryz.ntmps46
    go_wp2
    go_loopw [1, 5] (fun q i wr => ∃ (j : Nat) (cs : List Value), j ≤ n ∧ i = .int .i64 j ∧ q = .int .i64 (k + 4 * (j : Int)) ∧ cs.length = n * 4 ∧ wr.ownsRow base 107 4 (.slice (some ⟨g, 0, none⟩) n cap) n cs ∧ w.grownBy wr (some g)) (fun _ i _ => n - (intOf i).toNat)
    case atStart => exact ⟨0, cs, by omega, rfl, by simp, hl, h, World.grownBy.refl _ _⟩
    case round =>
      clear hl h
      obtain ⟨j, cs, hj, rfl, rfl, hl, hown, hbel⟩ := hrel
      by_cases hlt : j < n
      · have hgs : g < wr.heap.size := (hown.lt g rfl).2
        have hcell : ∀ i, i < 4 → ∃ u, (wr.cell? ⟨g, j * 4 + i, none⟩) = some u := fun i hi => ⟨_, (hown.cellAt (j * 4 + i) (by omega)).trans (List.getElem?_eq_getElem (by omega))⟩
        obtain ⟨u0, c0⟩ := hcell 0 (by omega)
        obtain ⟨u1, c1⟩ := hcell 1 (by omega)
        obtain ⟨u2, c2⟩ := hcell 2 (by omega)
        simp only [Nat.add_zero] at c0
        have f0 := hown.frozenAt (j * 4)
        have f1 := hown.frozenAt (j * 4 + 1)
        have f2 := hown.frozenAt (j * 4 + 2)
        have s0 := hown.stored (j * 4) (.int .i64 (k + 4 * (j : Int)))
        have s1 := s0.1.stored (j * 4 + 1) (.int .i64 (k + 4 * (j : Int) + 1))
        have s2 := s1.1.stored (j * 4 + 2) (.int .i64 (k + 4 * (j : Int) + 1 + 1))
        have hB1 := ((hbel.trans s0.2).trans s1.2).trans s2.2
        clear hcell
        go_wp2_with fail
        refine (marktext_any _ _ (by omega)).mono ?_
        rintro e w2 ⟨rfl, hb2⟩
        have hown2 := own_below s2.1 hb2
        have hB2 := hB1.trans (grown_below2 hb2 (some g))
        obtain ⟨u3, d3⟩ : ∃ u, (w2.cell? ⟨g, j * 4 + 3, none⟩) = some u := ⟨_, (hown2.cellAt (j * 4 + 3) (by omega)).trans (List.getElem?_eq_getElem (by simp; omega))⟩
        have e3 := hown2.frozenAt (j * 4 + 3)
        have s3 := hown2.stored (j * 4 + 3) (.string (mt (k + 4 * (j : Int) + 1 + 1 + 1)))
        have hB4 := hB2.trans s3.2
        have S4 := s3.1
        clear s0 s1 s2 s3 hown hown2 c0 c1 c2 f0 f1 f2 hb2 hB1 hB2 hbel
        go_wp2
        go_roundw
        case rel => exact ⟨j + 1, _, by omega, by go_num, by go_num, by simp [hl], S4, hB4⟩
        case measure => simp [intOf]; omega
      · go_wp2
        go_ret
        have : j = n := by omega
        subst this
        exact ⟨rfl, hbel⟩

set_option maxHeartbeats 1600000 in
theorem markdefs_any (v : Value) (k : Int) (base n : Nat) (cs : List Value) (w : World) (h : w.ownsRow base 109 3 v n cs) (hl : cs.length = n * 3) (hm : n ≤ 4194304) (hk0 : 0 ≤ k) (hk : k ≤ 2305843009213693952) :
    Calls Tryz.prog 47 #[v, .int .i64 k] w fun e w' => e = .returned (.int .i64 (k + 3 * n)) ∧ w.grownBy w' v.ownBlock := by
  rcases h.2 with ⟨rfl, h0⟩ | ⟨g, cap, cur, rfl, hb, hg, hnc, hcm, hcs, htake⟩
  · subst h0
    go_enter Tryz.func47, Tryz.ntmps47
    go_wp2
    refine wp_loop_rounds 1 ?_
    rw [rounds_succ]
    go_wp2
    go_ret
    exact ⟨by simp, World.grownBy.refl _ _⟩
  · clear hg hcs htake
    go_enter Tryz.func47, Tryz.ntmps47
    go_wp2
    go_loopw [1, 5] (fun q i wr => ∃ (j : Nat) (cs : List Value), j ≤ n ∧ i = .int .i64 j ∧ q = .int .i64 (k + 3 * (j : Int)) ∧ cs.length = n * 3 ∧ wr.ownsRow base 109 3 (.slice (some ⟨g, 0, none⟩) n cap) n cs ∧ w.grownBy wr (some g)) (fun _ i _ => n - (intOf i).toNat)
    case atStart => exact ⟨0, cs, by omega, rfl, by simp, hl, h, World.grownBy.refl _ _⟩
    case round =>
      clear hl h
      obtain ⟨j, cs, hj, rfl, rfl, hl, hown, hbel⟩ := hrel
      by_cases hlt : j < n
      · have hgs : g < wr.heap.size := (hown.lt g rfl).2
        go_wp2_with fail
        refine (marktext_any _ _ (by omega)).mono ?_
        rintro e w2 ⟨rfl, hb2⟩
        have hown2 := own_below hown hb2
        have hB2 := hbel.trans (grown_below2 hb2 (some g))
        have hcell : ∀ i, i < 3 → ∃ u, (w2.cell? ⟨g, j * 3 + i, none⟩) = some u := fun i hi => ⟨_, (hown2.cellAt (j * 3 + i) (by omega)).trans (List.getElem?_eq_getElem (by omega))⟩
        obtain ⟨u0, c0⟩ := hcell 0 (by omega)
        obtain ⟨u1, c1⟩ := hcell 1 (by omega)
        obtain ⟨u2, c2⟩ := hcell 2 (by omega)
        simp only [Nat.add_zero] at c0
        have f0 := hown2.frozenAt (j * 3)
        have f1 := hown2.frozenAt (j * 3 + 1)
        have f2 := hown2.frozenAt (j * 3 + 2)
        have s0 := hown2.stored (j * 3) (.string (mt (k + 3 * (j : Int))))
        have s1 := s0.1.stored (j * 3 + 1) (.int .i64 (k + 3 * (j : Int) + 1))
        have s2 := s1.1.stored (j * 3 + 2) (.int .i64 (k + 3 * (j : Int) + 1 + 1))
        have hB4 := ((hB2.trans s0.2).trans s1.2).trans s2.2
        have S4 := s2.1
        clear hcell s0 s1 s2 hown hown2 hb2 hB2 hbel
        go_wp2
        go_roundw
        case rel => exact ⟨j + 1, _, by omega, by go_num, by go_num, by simp [hl], S4, hB4⟩
        case measure => simp [intOf]; omega
      · go_wp2
        go_ret
        have : j = n := by omega
        subst this
        exact ⟨rfl, hbel⟩

set_option maxHeartbeats 800000 in
theorem markcode_any (v1 v2 v3 : Value) (k : Int) (base : Nat) (ns : List Nd) (is : List In) (ds : List Df) (w : World) (h1 : w.ownsRow base 119 5 v1 ns.length (ncs ns)) (h2 : w.ownsRow base 107 4 v2 is.length (incs is)) (h3 : w.ownsRow base 109 3 v3 ds.length (dfcs ds)) (l1 : ns.length ≤ 4194304) (l2 : is.length ≤ 4194304) (l3 : ds.length ≤ 4194304) (hk0 : 0 ≤ k) (hk : k ≤ 1152921504606846976) :
    Calls Tryz.prog 16 #[.agg #[v1, v2, v3], .int .i64 k] w fun e w' => (∃ r : Int, e = .returned (.int .i64 r) ∧ k ≤ r ∧ r ≤ k + 67108864) ∧ ∃ wa wb, w.grownBy wa v1.ownBlock ∧ wa.grownBy wb v2.ownBlock ∧ wb.grownBy w' v3.ownBlock := by
  obtain ⟨a1, c1, rfl⟩ := own_form h1
  obtain ⟨a2, c2, rfl⟩ := own_form h2
  obtain ⟨a3, c3, rfl⟩ := own_form h3
  go_enter Tryz.func16, Tryz.ntmps16
  go_wp2_with fail
  have hx0 : (w.alloc (Obj.cells #[.slice a1 ns.length c1, .slice a2 is.length c2, .slice a3 ds.length c3] 43)).heap[w.heap.size]? = some (Obj.cells #[.slice a1 ns.length c1, .slice a2 is.length c2, .slice a3 ds.length c3] 43) := heap_alloc_new _ _
  have o2 := h2.alloc (Obj.cells #[.slice a1 ns.length c1, .slice a2 is.length c2, .slice a3 ds.length c3] 43)
  have o3 := h3.alloc (Obj.cells #[.slice a1 ns.length c1, .slice a2 is.length c2, .slice a3 ds.length c3] 43)
  have o1 := h1.alloc (Obj.cells #[.slice a1 ns.length c1, .slice a2 is.length c2, .slice a3 ds.length c3] 43)
  refine (markpool_any _ k base ns _ o1 l1 hk0 (by omega)).mono ?_
  rintro e wa ⟨rfl, _, ga⟩
  have hxa := (ga.block _ (Array.getElem?_eq_some_iff.1 hx0).1 (fun e => own_ne o1 hx0 (by decide) e.symm)).trans hx0
  have Ga := (World.grownBy_alloc w (Obj.cells #[.slice a1 ns.length c1, .slice a2 is.length c2, .slice a3 ds.length c3] 43) (Value.slice a1 ns.length c1).ownBlock).trans ga
  have p2 := o2.kept ga (own_apart o2 o1 (by decide))
  have p3 := o3.kept ga (own_apart o3 o1 (by decide))
  clear o1 o2 o3 ga hx0 h1 h2 h3
  have e1 : wa.cell? ⟨w.heap.size, 0 + 1, none⟩ = some (.slice a2 is.length c2) := cell_of_row wa _ 1 _ _ _ hxa
  go_wp2_with fail
  refine (markinstrs_any _ (k + 5 * ns.length) base is.length _ _ p2 (incs_length is) l2 (by omega) (by omega)).mono ?_
  rintro e wb ⟨rfl, gb⟩
  have hxb := (gb.block _ (Array.getElem?_eq_some_iff.1 hxa).1 (fun e => own_ne p2 hxa (by decide) e.symm)).trans hxa
  have q3 := p3.kept gb (own_apart p3 p2 (by decide))
  clear p2 p3 hxa e1
  have e2 : wb.cell? ⟨w.heap.size, 0 + 2, none⟩ = some (.slice a3 ds.length c3) := cell_of_row wb _ 2 _ _ _ hxb
  go_wp2_with fail
  refine (markdefs_any _ (k + 5 * ns.length + 4 * is.length) base ds.length _ _ q3 (dfcs_length ds) l3 (by omega) (by omega)).mono ?_
  rintro e wc ⟨rfl, gc⟩
  clear q3 hxb e2
  go_wp2
  go_ret
  exact ⟨⟨_, rfl, by omega, by omega⟩, wa, wb, Ga, gb, gc⟩
end Go.Proofs.YtdkkpopnoeapdaaGreatDoor

/-
  The law FnExactProcNew, walked: at every argument it returns true. The variable errors.errorType reads as it is laid.
-/
namespace Go.Proofs.YtdkkpopnoeapdaaGreatDoor
open Go.RowKit

theorem own_nil0 (w : World) (B : Nat) (e : TypeId) (k : Nat) : w.ownsRow B e k (.slice none 0 0) 0 [] := ⟨by simp, Or.inl ⟨rfl, rfl⟩⟩
theorem VarPr.new0 {w5 we : World} {lo : Nat} {v : Value} {i : Int} {xs : List Nd} {m : Mc} (ho : w5.ownsRow lo 119 5 v xs.length (ncs xs)) (hd : Below w5.heap.size w5 we) (hb : we.heap[w5.heap.size]? = some (.cells #[.int .i64 i, v, .int .i64 m.p, .int .i64 m.s, .int .i64 m.e, .int .i64 m.d, .int .i64 m.t, .int .i64 m.q, .int .i64 m.r, .slice none 0 0, .slice none 0 0] 48 (0, 0))) : VarPr we w5.heap.size lo we.heap.size v (.slice none 0 0) (.slice none 0 0) i xs m [] [] :=
  VarPr.of hb (own_below ho hd) (own_nil0 _ _ _ _) (own_nil0 _ _ _ _) (fun _ h => by cases h)

set_option maxRecDepth 100000 in
set_option maxHeartbeats 6400000 in
theorem prnew_r12 {t0 t1 t2 t4 t5 t6 t7 t8 t9 t11 t12 t13 t14 t15 t16 t17 t18 t19 t20 t21 t22 t23 t24 t25 t26 t27 t28 t29 t30 t31 t32 t33 t34 t35 t36 t37 t38 t39 t40 t41 t42 t43 t44 t45 t46 t47 t48 t49 t50 t51 t52 t53 t54 t55 t56 t57 t58 t59 t60 t61 t62 t63 t64 t65 t66 t67 t68 t69 t70 t71 t72 t73 t74 t75 t76 t77 t78 t79 t80 t81 t82 t83 t84 t85 t86 t87 t88 t89 t90 t91 t92 t93 t94 t95 t96 t97 t98 t99 t100 t101 t102 t103 t104 t105 t106 t107 t108 : Value} {fs : List Deferred} (y0 b0 : Nat) (e1 e2 e3 a1 a2 a3 : Option Addr) (f1 f2 f3 c1 c2 c3 : Nat) (ns : List Nd) (is : List In) (ds : List Df) (w : World) (Q : Exit → Act → World → Prop)
    (hy : w.heap[y0]? = some (.cells #[.slice e1 ns.length f1, .slice e2 is.length f2, .slice e3 ds.length f3] 43 (0, 0))) (hk : w.heap[b0]? = some (.cells #[.slice a1 ns.length c1, .slice a2 is.length c2, .slice a3 ds.length c3] 28 (0, 0))) (E1 : NRow w (.slice e1 ns.length f1) ns) (E2 : InRow w (.slice e2 is.length f2) is) (E3 : DfRow w (.slice e3 ds.length f3) ds) (R1 : NRow w (.slice a1 ns.length c1) ns) (R2 : InRow w (.slice a2 is.length c2) is) (R3 : DfRow w (.slice a3 ds.length c3) ds) (l1 : ns.length ≤ 2097152) (l2 : is.length ≤ 2097152) (l3 : ds.length ≤ 2097152)
    (hQ : ∀ u52 u53 u54 u55 (W : World), Below w.heap.size w W → Q .normal ⟨#[t0, t1, t2, .pointer (some ⟨b0, 0, none⟩), t4, t5, t6, t7, t8, t9, .pointer (some ⟨y0, 0, none⟩), t11, t12, t13, t14, t15, t16, t17, t18, t19, t20, t21, t22, t23, t24, t25, t26, t27, t28, t29, t30, t31, t32, t33, t34, t35, t36, t37, t38, t39, t40, t41, t42, t43, t44, t45, t46, t47, t48, t49, t50, t51, u52, u53, u54, u55, .bool false, t57, t58, t59, t60, t61, t62, t63, t64, t65, t66, t67, t68, t69, t70, t71, t72, t73, t74, t75, t76, t77, t78, t79, t80, t81, t82, t83, t84, t85, t86, t87, t88, t89, t90, t91, t92, t93, t94, t95, t96, t97, t98, t99, t100, t101, t102, t103, t104, t105, t106, t107, t108], fs⟩ W) :
    (Code.region 12 (List.toArray (({ dst := some 52, op := Op.load 43 (Operand.tmp 10), type := 43, pos := "exact.go:3774", after := #[], guard := none } : Oper) :: ({ dst := some 53, op := Op.load 28 (Operand.tmp 3), type := 28, pos := "exact.go:3774", after := #[], guard := none } : Oper) :: ({ dst := some 54, op := Op.call { callee := Callee.value (Operand.func 9), args := #[Operand.tmp 53], argTypes := #[28] }, type := 43, pos := "exact.go:3774", after := #[{ on := 1, ground := Ground.data }], guard := none } : Oper) :: ({ dst := some 55, op := Op.call { callee := Callee.value (Operand.func 12), args := #[Operand.tmp 52, Operand.tmp 54], argTypes := #[43, 43] }, type := 4, pos := "exact.go:3774", after := #[{ on := 0, ground := Ground.data }, { on := 2, ground := Ground.data }, { on := 2, ground := Ground.chain }], guard := none } : Oper) :: ({ dst := some 56, op := Op.unOp UnOp.not 4 (Operand.tmp 55), type := 4, pos := "exact.go:3774", after := #[{ on := 3, ground := Ground.data }], guard := none } : Oper) :: [])) true).wp Tryz.prog Q ⟨#[t0, t1, t2, .pointer (some ⟨b0, 0, none⟩), t4, t5, t6, t7, t8, t9, .pointer (some ⟨y0, 0, none⟩), t11, t12, t13, t14, t15, t16, t17, t18, t19, t20, t21, t22, t23, t24, t25, t26, t27, t28, t29, t30, t31, t32, t33, t34, t35, t36, t37, t38, t39, t40, t41, t42, t43, t44, t45, t46, t47, t48, t49, t50, t51, t52, t53, t54, t55, t56, t57, t58, t59, t60, t61, t62, t63, t64, t65, t66, t67, t68, t69, t70, t71, t72, t73, t74, t75, t76, t77, t78, t79, t80, t81, t82, t83, t84, t85, t86, t87, t88, t89, t90, t91, t92, t93, t94, t95, t96, t97, t98, t99, t100, t101, t102, t103, t104, t105, t106, t107, t108], fs⟩ w := by
  have hS : ∀ w', Below w.heap.size w w' → (w'.heap[y0]? = some (.cells #[.slice e1 ns.length f1, .slice e2 is.length f2, .slice e3 ds.length f3] 43 (0, 0)) ∧ w'.heap[b0]? = some (.cells #[.slice a1 ns.length c1, .slice a2 is.length c2, .slice a3 ds.length c3] 28 (0, 0))) := fun w' hb => ⟨blk_bel hy hb, blk_bel hk hb⟩
  have B : Below w.heap.size w w.drew := drew_bel w
  refine wp_region_noPanic ?_
  refine wp_region_held_drew (S := fun w' => w'.heap[y0]? = some (.cells #[.slice e1 ns.length f1, .slice e2 is.length f2, .slice e3 ds.length f3] 43 (0, 0)) ∧ w'.heap[b0]? = some (.cells #[.slice a1 ns.length c1, .slice a2 is.length c2, .slice a3 ds.length c3] 28 (0, 0))) (by kernel_rfl) (hS _ B) (fun hHeld => ?_)
  refine wpAnyH_take (i := 0) (oi := ({ dst := some 52, op := Op.load 43 (Operand.tmp 10), type := 43, pos := "exact.go:3774", after := #[], guard := none } : Oper)) (v := .agg #[.slice e1 ns.length f1, .slice e2 is.length f2, .slice e3 ds.length f3]) rfl (by kernel_rfl) (by kernel_rfl) (by kernel_rfl) (fun _ _ _ h => h) (yields_row (by rfl) 43 _ rfl y0 rfl #[.slice e1 ns.length f1, .slice e2 is.length f2, .slice e3 ds.length f3] 43 _ (fun _ h => h.1) Tryz.underlying43 rfl Tryz.sizeCode) (by assumption) ?_
  simp only [Act.put, List.setIfInBounds_toArray, List.set_cons_zero, List.set_cons_succ]
  refine wpAnyH_take (i := 1) (oi := ({ dst := some 53, op := Op.load 28 (Operand.tmp 3), type := 28, pos := "exact.go:3774", after := #[], guard := none } : Oper)) (v := .agg #[.slice a1 ns.length c1, .slice a2 is.length c2, .slice a3 ds.length c3]) rfl (by kernel_rfl) (by kernel_rfl) (by kernel_rfl) (fun _ _ _ h => h) (yields_row (by rfl) 28 _ rfl b0 rfl #[.slice a1 ns.length c1, .slice a2 is.length c2, .slice a3 ds.length c3] 28 _ (fun _ h => h.2) Tryz.underlying28 rfl Tryz.sizeLCode) (by assumption) ?_
  simp only [Act.put, List.setIfInBounds_toArray, List.set_cons_zero, List.set_cons_succ]
  refine wpAnyH_ready (rs := [2]) (by kernel_rfl) (by simp) ?_
  refine AllReadyH.cons rfl (fun K hK => ?_) AllReadyH.nil
  go_simp
  go_wp2_with (go_at_call 9; with_reducible refine (tocode_any _ _ _ ns is ds _ (R1.below B) (R2.below B) (R3.below B) l1 l2 l3).mono ?_; rintro e wA ⟨u1, u2, u3, rfl, S1, S2, S3, hb⟩)
  replace B := B.trans (hb.mono B.size)
  obtain ⟨b1, d1, rfl⟩ := S1.small
  obtain ⟨b2, d2, rfl⟩ := S2.small
  obtain ⟨b3, d3, rfl⟩ := S3.small
  clear hb
  refine hK.out _ _ (hS _ B) (fun hHeld => ?_)
  clear hK
  refine wpAnyH_ready (rs := [3]) (by kernel_rfl) (by simp) ?_
  refine AllReadyH.cons rfl (fun K hK => ?_) AllReadyH.nil
  go_simp
  go_wp2_with (go_at_call 12; with_reducible refine (eqcode_any _ _ _ _ _ _ ns is ds _ (E1.below B) (E2.below B) (E3.below B) S1 S2 S3).mono ?_; rintro e wZ ⟨rfl, hb⟩)
  replace S1 := S1.below hb
  replace S2 := S2.below hb
  replace S3 := S3.below hb
  replace B := B.trans (hb.mono B.size)
  clear hb
  refine hK.out _ _ (hS _ B) (fun hHeld => ?_)
  clear hK
  refine wpAnyH_take (i := 4) (oi := ({ dst := some 56, op := Op.unOp UnOp.not 4 (Operand.tmp 55), type := 4, pos := "exact.go:3774", after := #[{ on := 3, ground := Ground.data }], guard := none } : Oper)) (v := .bool false) rfl (by kernel_rfl) (by kernel_rfl) (by kernel_rfl) (fun _ _ _ h => h) (Or.inl ⟨by rfl, by intro w hSw; go_simp⟩) (by assumption) ?_
  simp only [Act.put, List.setIfInBounds_toArray, List.set_cons_zero, List.set_cons_succ]
  refine wpAnyH_done (by kernel_rfl) ?_ _
  exact NoPanic.normal (hQ _ _ _ _ _ B)

set_option maxRecDepth 100000 in
set_option maxHeartbeats 16000000 in
theorem lprocnew_any (v1 v2 v3 : Value) (ns : List Nd) (is : List In) (ds : List Df) (s : ByteArray) (i : Int) (w : World) (R1 : NRow w v1 ns) (R2 : InRow w v2 is) (R3 : DfRow w v3 ds) (hs : s.size ≤ maxLen) (hg : ErrT w) :
    Calls Tryz.prog 4 #[.agg #[v1, v2, v3], .string s, .int .i64 i] w fun e w' => e = .returned (.bool true) ∧ Below w.heap.size w w' := by
  unfold maxLen at hs
  obtain ⟨a1, c1, rfl⟩ := R1.small
  obtain ⟨a2, c2, rfl⟩ := R2.small
  obtain ⟨a3, c3, rfl⟩ := R3.small
  have hB0 : Below w.heap.size w (w.alloc (Obj.cells #[.slice a1 ns.length c1, .slice a2 is.length c2, .slice a3 ds.length c3] 28)) := (Below.refl _ _).alloc (Nat.le_refl _) _
  by_cases hb : 1048576 < s.size
  · go_enter Tryz.func4, Tryz.ntmps4
    go_wp2
    go_ret
    exact ⟨rfl, hB0⟩
  go_enter Tryz.func4, Tryz.ntmps4
  go_wp2_with fail
  refine (szcode_any _ _ _ ns is ds _ (R1.below hB0) (R2.below hB0) (R3.below hB0)).mono ?_
  rintro e w1 ⟨r, rfl, hr0, hr1, hr2, hb1⟩
  have hx1 : w1.heap[w.heap.size]? = some (.cells #[.slice a1 ns.length c1, .slice a2 is.length c2, .slice a3 ds.length c3] 28 (0, 0)) := (hb1.block _ (by simp)).trans (heap_alloc_new _ _)
  have hB1 := hB0.trans (hb1.mono hB0.size)
  clear hB0 hb1
  by_cases hr : r < 0
  · go_wp2
    go_ret
    exact ⟨rfl, hB1⟩
  obtain ⟨l1, l2, l3⟩ := hr2 (by omega)
  clear hr2
  obtain ⟨hlL, hzL⟩ := newL_fits (pnD ns is ds s i)
  have IT := fun (v1 v2 v3 : Value) (w' : World) (R1 : NRow w' v1 ns) (R2 : InRow w' v2 is) (R3 : DfRow w' v3 ds) (hb : Below w.heap.size w w') => iprocnew_any v1 v2 v3 ns is ds s i w' R1 R2 R3 (hg.below hb (Nat.le_refl _))
  have ST := fun (v1 v2 v3 : Value) (w' : World) (R1 : NRow w' v1 ns) (R2 : InRow w' v2 is) (R3 : DfRow w' v3 ds) => sprocnew_any v1 v2 v3 ns is ds s i w' R1 R2 R3
  generalize newL (pnD ns is ds s i) = Q at *
  generalize newM (pnD ns is ds s i) = M at *
  generalize pnI ns is ds s i = I at *
  generalize pnB ns is ds s i = bb at *
  unfold PnAns at IT ST
  have hlL' : Q.length ≤ 4194304 := by omega
  have hlm := nmarked_length 1 Q _ (Nat.le_refl _)
  have hbb' : (bb != bb) = false := by simp
  go_wp2_with (refine wpList_load_row rfl 28 _ rfl w.heap.size rfl 28 #[.slice a1 ns.length c1, .slice a2 is.length c2, .slice a3 ds.length c3] (0, 0) _ hx1 Tryz.underlying28 rfl Tryz.sizeLCode ?_)
  refine (tocode_any _ _ _ ns is ds _ (R1.below hB1) (R2.below hB1) (R3.below hB1) (by omega) (by omega) (by omega)).mono ?_
  rintro e w2 ⟨u1, u2, u3, rfl, S1, S2, S3, hb2⟩
  obtain ⟨b1, d1, rfl⟩ := S1.small
  obtain ⟨b2, d2, rfl⟩ := S2.small
  obtain ⟨b3, d3, rfl⟩ := S3.small
  have hB2 := hB1.trans (hb2.mono hB1.size)
  have hx2 := blk_bel hx1 hb2
  clear hB1 hx1 hb2
  go_wp2_with fail
  refine (ST _ _ _ _ S1 S2 S3).mono ?_
  rintro e w3 ⟨⟨v3, rfl, ho3⟩, hb3⟩
  obtain ⟨ao3, cap3, rfl⟩ := own_form ho3
  have hB3 := hB2.trans (hb3.mono hB2.size)
  have hx3 := blk_bel hx2 hb3
  clear S1 S2 S3 hB2 hx2 hb3
  go_wp2_with (refine wpList_store_own rfl 48 _ _ rfl w3.heap.size #[.int .i64 I, .slice ao3 Q.length cap3, .int .i64 M.p, .int .i64 M.s, .int .i64 M.e, .int .i64 M.d, .int .i64 M.t, .int .i64 M.q, .int .i64 M.r, .slice none 0 0, .slice none 0 0] rfl rfl 48 _ (heap_alloc_new _ _) Tryz.sizeProc rfl (by simp [Value.oneCell']) ?_)
  intro w4 hnw4 hbw4 hsw4
  have hdw4 : Below w3.heap.size w3 w4 := ((Below.refl _ _).alloc (Nat.le_refl _) _).trans hbw4
  have V4 := VarPr.new0 ho3 hdw4 hnw4
  have hBw4 := hB3.trans (hdw4.mono hB3.size)
  have hxw4 := blk_bel hx3 hdw4
  clear hB3 hx3 ho3 hnw4 hbw4 hsw4 hdw4
  have hlo4 : w.heap.size < w4.heap.size := blk_lt hxw4
  generalize w3.heap.size = b4 at *
  generalize w2.heap.size = lo4 at *
  go_wp2_with (refine wpList_load_row rfl 28 _ rfl w.heap.size rfl 28 #[.slice a1 ns.length c1, .slice a2 is.length c2, .slice a3 ds.length c3] (0, 0) _ hxw4 Tryz.underlying28 rfl Tryz.sizeLCode ?_)
  refine (tocode_own _ _ _ ns is ds _ (R1.below hBw4) (R2.below hBw4) (R3.below hBw4) (by omega) (by omega) (by omega)).mono ?_
  rintro e w5 ⟨u1, u2, u3, rfl, o1, o2, o3, hb5⟩
  obtain ⟨b1, d1, rfl⟩ := own_form o1
  obtain ⟨b2, d2, rfl⟩ := own_form o2
  obtain ⟨b3, d3, rfl⟩ := own_form o3
  have hB5 := hBw4.trans (hb5.mono hBw4.size)
  have hx5 := blk_bel hxw4 hb5
  have hlt4 := V4.lt
  replace V4 := V4.below hb5
  have hlo5 : w4.heap.size ≤ w5.heap.size := hb5.size
  clear hBw4 hxw4 hb5
  go_wp2_with fail
  have hBa : Below w5.heap.size w5 (w5.alloc (Obj.cells #[.slice b1 ns.length d1, .slice b2 is.length d2, .slice b3 ds.length d3] 43)) := (Below.refl _ _).alloc (Nat.le_refl _) _
  have p1 := own_below o1 hBa
  have p2 := own_below o2 hBa
  have p3 := own_below o3 hBa
  refine (IT _ _ _ _ (NRow.of_own p1 (by omega) R1.sz) (InRow.of_own p2 (by omega) R2.sz) (DfRow.of_own p3 (by omega) R3.sz) (hB5.trans (hBa.mono hB5.size))).mono ?_
  rintro e w7 ⟨⟨v7, rfl, ho7⟩, hb7⟩
  obtain ⟨ao7, cap7, rfl⟩ := own_form ho7
  have hB57 := hBa.trans (hb7.mono hBa.size)
  have hy7 : w7.heap[w5.heap.size]? = some (.cells #[.slice b1 ns.length d1, .slice b2 is.length d2, .slice b3 ds.length d3] 43 (0, 0)) := (hb7.block _ (by simp)).trans (heap_alloc_new _ _)
  have hB7 := hB5.trans (hB57.mono hB5.size)
  have hx7 := blk_bel hx5 hB57
  replace V4 := V4.below hB57
  have q1 : w7.ownsRow w4.heap.size 119 5 (.slice b1 ns.length d1) ns.length (ncs ns) := own_below o1 hB57
  have q2 : w7.ownsRow w4.heap.size 107 4 (.slice b2 is.length d2) is.length (incs is) := own_below o2 hB57
  have q3 : w7.ownsRow w4.heap.size 109 3 (.slice b3 ds.length d3) ds.length (dfcs ds) := own_below o3 hB57
  have t1 : ∀ k, (Value.slice b1 ns.length d1).ownBlock = some k → w4.heap.size ≤ k ∧ k < w5.heap.size := fun k hk => o1.lt k hk
  have t2 : ∀ k, (Value.slice b2 is.length d2).ownBlock = some k → w4.heap.size ≤ k ∧ k < w5.heap.size := fun k hk => o2.lt k hk
  have t3 : ∀ k, (Value.slice b3 ds.length d3).ownBlock = some k → w4.heap.size ≤ k ∧ k < w5.heap.size := fun k hk => o3.lt k hk
  replace ho7 : w7.ownsRow (w5.heap.size + 1) 119 5 (.slice ao7 Q.length cap7) Q.length (ncs Q) := by simpa using ho7
  have hs57 : w5.heap.size < w7.heap.size := blk_lt hy7
  clear o1 o2 o3 p1 p2 p3 hBa hb7 hB57 hB5 hx5
  go_wp2_with (refine wpList_store_own rfl 48 _ _ rfl w7.heap.size #[.int .i64 I, .slice ao7 Q.length cap7, .int .i64 M.p, .int .i64 M.s, .int .i64 M.e, .int .i64 M.d, .int .i64 M.t, .int .i64 M.q, .int .i64 M.r, .slice none 0 0, .slice none 0 0] rfl rfl 48 _ (heap_alloc_new _ _) Tryz.sizeProc rfl (by simp [Value.oneCell']) ?_)
  intro w8 hnw8 hbw8 hsw8
  have hdw8 : Below w7.heap.size w7 w8 := ((Below.refl _ _).alloc (Nat.le_refl _) _).trans hbw8
  have V6 := VarPr.new0 ho7 hdw8 hnw8
  replace V4 := V4.below hdw8
  replace q1 := own_below q1 hdw8
  replace q2 := own_below q2 hdw8
  replace q3 := own_below q3 hdw8
  have hBw8 := hB7.trans (hdw8.mono hB7.size)
  have hxw8 := blk_bel hx7 hdw8
  have hyw8 := blk_bel hy7 hdw8
  clear hB7 hx7 hy7 ho7 hnw8 hbw8 hsw8 hdw8
  generalize w7.heap.size = b6 at *
  go_wp2_with (first | (refine wpList_load_row rfl 48 _ rfl b6 rfl 48 #[.int .i64 I, .slice ao7 Q.length cap7, .int .i64 M.p, .int .i64 M.s, .int .i64 M.e, .int .i64 M.d, .int .i64 M.t, .int .i64 M.q, .int .i64 M.r, .slice none 0 0, .slice none 0 0] (0, 0) _ V6.blk Tryz.underlying48 rfl Tryz.sizeProc ?_) | (refine wpList_load_row rfl 48 _ rfl b4 rfl 48 #[.int .i64 I, .slice ao3 Q.length cap3, .int .i64 M.p, .int .i64 M.s, .int .i64 M.e, .int .i64 M.d, .int .i64 M.t, .int .i64 M.q, .int .i64 M.r, .slice none 0 0, .slice none 0 0] (0, 0) _ V4.blk Tryz.underlying48 rfl Tryz.sizeProc ?_))
  refine (eqproc_any I _ _ _ _ _ _ Q M [] [] _ (V6.row hlL' hzL) (StRow.nil _) (StRow.nil _) (V4.row hlL' hzL) (StRow.nil _) (StRow.nil _)).mono ?_
  rintro e w9 ⟨rfl, hb9⟩
  replace V4 := V4.below hb9
  replace V6 := V6.below hb9
  replace q1 := own_below q1 hb9
  replace q2 := own_below q2 hb9
  replace q3 := own_below q3 hb9
  have hBw9 := hBw8.trans (hb9.mono hBw8.size)
  have hxw9 := blk_bel hxw8 hb9
  have hyw9 := blk_bel hyw8 hb9
  clear hBw8 hxw8 hyw8 hb9
  have T1 := NRow.of_own q1 (by omega) R1.sz
  have T2 := InRow.of_own q2 (by omega) R2.sz
  have T3 := DfRow.of_own q3 (by omega) R3.sz
  go_wp2_with fail
  refine prnew_r12 w5.heap.size w.heap.size b1 b2 b3 a1 a2 a3 d1 d2 d3 c1 c2 c3 ns is ds _ _ hyw9 hxw9 T1 T2 T3 (R1.below hBw9) (R2.below hBw9) (R3.below hBw9) (by omega) (by omega) (by omega) (fun _ _ _ _ wl h9l => ?_)
  clear T1 T2 T3
  replace V4 := V4.below h9l
  replace V6 := V6.below h9l
  replace q1 := own_below q1 h9l
  replace q2 := own_below q2 h9l
  replace q3 := own_below q3 h9l
  have hBwl := hBw9.trans (h9l.mono hBw9.size)
  have hxwl := blk_bel hxw9 h9l
  have hywl := blk_bel hyw9 h9l
  clear hBw9 hxw9 hyw9 h9l
  go_wp2_with (refine wpList_load_row rfl 43 _ rfl w5.heap.size rfl 43 #[.slice b1 ns.length d1, .slice b2 is.length d2, .slice b3 ds.length d3] (0, 0) _ hywl Tryz.underlying43 rfl Tryz.sizeCode ?_)
  refine (markcode_any _ _ _ 1 w4.heap.size ns is ds _ q1 q2 q3 (by omega) (by omega) (by omega) (by omega) (by omega)).mono ?_
  rintro e wa ⟨⟨rk, rfl, hrk0, hrk1⟩, wx, wy, gx, gy, gz⟩
  have j4 : ∀ k, w4.heap.size ≤ k ∧ k < w5.heap.size → k ≠ b4 ∧ (k < lo4 ∨ w4.heap.size ≤ k) := fun k hk => ⟨by omega, Or.inr hk.1⟩
  have j6 : ∀ k, w4.heap.size ≤ k ∧ k < w5.heap.size → k ≠ b6 ∧ (k < w5.heap.size + 1 ∨ w8.heap.size ≤ k) := fun k hk => ⟨by omega, Or.inl (by omega)⟩
  replace V4 := ((V4.keptBy gx (fun k hk => j4 k (t1 k hk))).keptBy gy (fun k hk => j4 k (t2 k hk))).keptBy gz (fun k hk => j4 k (t3 k hk))
  replace V6 := ((V6.keptBy gx (fun k hk => j6 k (t1 k hk))).keptBy gy (fun k hk => j6 k (t2 k hk))).keptBy gz (fun k hk => j6 k (t3 k hk))
  have hBx := hBwl.grown gx hBwl.size (fun k hk => by have := t1 k hk; omega)
  have hBy := hBx.grown gy hBx.size (fun k hk => by have := t2 k hk; omega)
  have hBwa := hBy.grown gz hBy.size (fun k hk => by have := t3 k hk; omega)
  have nx : ∀ o : Option Nat, (∀ k, o = some k → w4.heap.size ≤ k ∧ k < w5.heap.size) → o ≠ some w.heap.size := fun o ho e => by have := ho _ e; omega
  have hxx := (gx.block _ (blk_lt hxwl) (fun e => nx _ t1 e.symm)).trans hxwl
  have hxy := (gy.block _ (blk_lt hxx) (fun e => nx _ t2 e.symm)).trans hxx
  have hxwa := (gz.block _ (blk_lt hxy) (fun e => nx _ t3 e.symm)).trans hxy
  clear hxwl hxx hxy hywl hBwl hBx hBy gx gy gz q1 q2 q3 nx
  have hk1 : ¬ rk < 0 := by omega
  have e0 : wa.cell? ⟨b6, 0, none⟩ = some (.int .i64 I) := cell_of_row wa _ 0 _ _ _ V6.blk
  have e1 : wa.cell? ⟨b6, 0 + 1, none⟩ = some (.slice ao7 Q.length cap7) := cell_of_row wa _ 1 _ _ _ V6.blk
  have e2 : wa.cell? ⟨b6, 0 + 2, none⟩ = some (.int .i64 M.p) := cell_of_row wa _ 2 _ _ _ V6.blk
  have e3 : wa.cell? ⟨b6, 0 + 3, none⟩ = some (.int .i64 M.s) := cell_of_row wa _ 3 _ _ _ V6.blk
  have e4 : wa.cell? ⟨b6, 0 + 4, none⟩ = some (.int .i64 M.e) := cell_of_row wa _ 4 _ _ _ V6.blk
  have e5 : wa.cell? ⟨b6, 0 + 5, none⟩ = some (.int .i64 M.d) := cell_of_row wa _ 5 _ _ _ V6.blk
  have e6 : wa.cell? ⟨b6, 0 + 6, none⟩ = some (.int .i64 M.t) := cell_of_row wa _ 6 _ _ _ V6.blk
  have e7 : wa.cell? ⟨b6, 0 + 7, none⟩ = some (.int .i64 M.q) := cell_of_row wa _ 7 _ _ _ V6.blk
  have e8 : wa.cell? ⟨b6, 0 + 8, none⟩ = some (.int .i64 M.r) := cell_of_row wa _ 8 _ _ _ V6.blk
  have e9 : wa.cell? ⟨b6, 0 + 9, none⟩ = some (.slice none 0 0) := cell_of_row wa _ 9 _ _ _ V6.blk
  have e10 : wa.cell? ⟨b6, 0 + 10, none⟩ = some (.slice none 0 0) := cell_of_row wa _ 10 _ _ _ V6.blk
  have k0 : wa.cell? ⟨b4, 0, none⟩ = some (.int .i64 I) := cell_of_row wa _ 0 _ _ _ V4.blk
  have k1 : wa.cell? ⟨b4, 0 + 1, none⟩ = some (.slice ao3 Q.length cap3) := cell_of_row wa _ 1 _ _ _ V4.blk
  have k2 : wa.cell? ⟨b4, 0 + 2, none⟩ = some (.int .i64 M.p) := cell_of_row wa _ 2 _ _ _ V4.blk
  have k3 : wa.cell? ⟨b4, 0 + 3, none⟩ = some (.int .i64 M.s) := cell_of_row wa _ 3 _ _ _ V4.blk
  have k4 : wa.cell? ⟨b4, 0 + 4, none⟩ = some (.int .i64 M.e) := cell_of_row wa _ 4 _ _ _ V4.blk
  have k5 : wa.cell? ⟨b4, 0 + 5, none⟩ = some (.int .i64 M.d) := cell_of_row wa _ 5 _ _ _ V4.blk
  have k6 : wa.cell? ⟨b4, 0 + 6, none⟩ = some (.int .i64 M.t) := cell_of_row wa _ 6 _ _ _ V4.blk
  have k7 : wa.cell? ⟨b4, 0 + 7, none⟩ = some (.int .i64 M.q) := cell_of_row wa _ 7 _ _ _ V4.blk
  have k8 : wa.cell? ⟨b4, 0 + 8, none⟩ = some (.int .i64 M.r) := cell_of_row wa _ 8 _ _ _ V4.blk
  have k9 : wa.cell? ⟨b4, 0 + 9, none⟩ = some (.slice none 0 0) := cell_of_row wa _ 9 _ _ _ V4.blk
  have k10 : wa.cell? ⟨b4, 0 + 10, none⟩ = some (.slice none 0 0) := cell_of_row wa _ 10 _ _ _ V4.blk
  go_wp2_with fail
  refine (eqproc_any I _ _ _ _ _ _ Q M [] [] _ (V6.row hlL' hzL) (StRow.nil _) (StRow.nil _) (V4.row hlL' hzL) (StRow.nil _) (StRow.nil _)).mono ?_
  rintro e wb ⟨rfl, hbb⟩
  clear e0 e1 e2 e3 e4 e5 e6 e7 e8 e9 e10 k0 k1 k2 k3 k4 k5 k6 k7 k8 k9 k10
  replace V4 := V4.below hbb
  replace V6 := V6.below hbb
  have hBwb := hBwa.trans (hbb.mono hBwa.size)
  have hxwb := blk_bel hxwa hbb
  clear hBwa hxwa hbb
  go_wp2_with (refine wpList_load_row rfl 48 _ rfl b6 rfl 48 #[.int .i64 I, .slice ao7 Q.length cap7, .int .i64 M.p, .int .i64 M.s, .int .i64 M.e, .int .i64 M.d, .int .i64 M.t, .int .i64 M.q, .int .i64 M.r, .slice none 0 0, .slice none 0 0] (0, 0) _ V6.blk Tryz.underlying48 rfl Tryz.sizeProc ?_)
  refine (markproc_any _ _ _ 1 (w5.heap.size + 1) I Q M [] [] _ V6.o1 V6.o2 V6.o3 V6.ap hlL' (by simp) (by simp) (by omega) (by omega)).mono ?_
  rintro e wc ⟨rfl, xa, xb, ga, gb, gc, s1, s2, s3⟩
  replace V4 := V4.kept3 V6 ga gb gc (Or.inl (by omega))
  have hxwc := V6.other ga gb gc hxwb (by decide) (by decide)
  have hBwc := VarPr.frame hBwb V6 ga gb gc (by omega) hBwb.size
  have V6 := V6.turned (ys := nmarked 1 Q Q.length) (by' := []) (oy := []) ga gb gc (by rw [hlm]; exact s1) (own_nil0 _ _ _ _) (own_nil0 _ _ _ _)
  clear ga gb gc s1 s2 s3 hxwb hBwb
  have hzM := nmarked_ok 1 Q (by omega) hlL'
  have e5 : (1 + 5 * (Q.length : Int) + (([] : List ByteArray).length : Int) + (([] : List ByteArray).length : Int)) = 1 + 5 * (Q.length : Int) := by simp
  rw [e5]
  clear e5
  have hk2 : ¬ (1 + 5 * (Q.length : Int)) < 0 := by omega
  have HH : ∀ W : World, NRow W (.slice ao7 Q.length cap7) (nmarked 1 Q Q.length) → Calls Tryz.prog 18 #[.agg #[.int .i64 I, .slice ao7 Q.length cap7, .int .i64 M.p, .int .i64 M.s, .int .i64 M.e, .int .i64 M.d, .int .i64 M.t, .int .i64 M.q, .int .i64 M.r, .slice none 0 0, .slice none 0 0], .int .i64 1] W fun e w' => e = .returned (.int .i64 (1 + 5 * Q.length)) ∧ Below W.heap.size W w' := fun W R => (heldproc_any _ _ _ 1 I Q M 0 0 W R (StRow.nil _) (StRow.nil _) hlL' (by omega) (by omega) (by omega) (by omega)).mono fun e w' ⟨h1, h2⟩ => ⟨h1.trans (by simp), h2⟩
  go_wp2_with (refine wpList_load_row rfl 48 _ rfl b6 rfl 48 #[.int .i64 I, .slice ao7 Q.length cap7, .int .i64 M.p, .int .i64 M.s, .int .i64 M.e, .int .i64 M.d, .int .i64 M.t, .int .i64 M.q, .int .i64 M.r, .slice none 0 0, .slice none 0 0] (0, 0) _ V6.blk Tryz.underlying48 rfl Tryz.sizeProc ?_)
  refine (HH _ (V6.row (by omega) hzM)).mono ?_
  rintro e wd ⟨rfl, hbd⟩
  replace V4 := V4.below hbd
  replace V6 := V6.below hbd
  have hBwd := hBwc.trans (hbd.mono hBwc.size)
  have hxwd := blk_bel hxwc hbd
  clear hBwc hxwc hbd
  go_wp2_with (refine wpList_load_row rfl 28 _ rfl w.heap.size rfl 28 #[.slice a1 ns.length c1, .slice a2 is.length c2, .slice a3 ds.length c3] (0, 0) _ hxwd Tryz.underlying28 rfl Tryz.sizeLCode ?_)
  refine (tocode_any _ _ _ ns is ds _ (R1.below hBwd) (R2.below hBwd) (R3.below hBwd) (by omega) (by omega) (by omega)).mono ?_
  rintro e we ⟨u1, u2, u3, rfl, S1, S2, S3, hb9⟩
  obtain ⟨f1, g1, rfl⟩ := S1.small
  obtain ⟨f2, g2, rfl⟩ := S2.small
  obtain ⟨f3, g3, rfl⟩ := S3.small
  replace V4 := V4.below hb9
  replace V6 := V6.below hb9
  have hBwe := hBwd.trans (hb9.mono hBwd.size)
  clear hBwd hxwd hb9
  go_wp2_with fail
  refine (IT _ _ _ _ S1 S2 S3 hBwe).mono ?_
  rintro e wf ⟨⟨v10, rfl, ho10⟩, hb10⟩
  obtain ⟨ao10, cap10, rfl⟩ := own_form ho10
  clear S1 S2 S3
  replace V4 := V4.below hb10
  replace V6 := V6.below hb10
  have hBwf := hBwe.trans (hb10.mono hBwe.size)
  clear hBwe hb10
  go_wp2_with (refine wpList_store_own rfl 48 _ _ rfl wf.heap.size #[.int .i64 I, .slice ao10 Q.length cap10, .int .i64 M.p, .int .i64 M.s, .int .i64 M.e, .int .i64 M.d, .int .i64 M.t, .int .i64 M.q, .int .i64 M.r, .slice none 0 0, .slice none 0 0] rfl rfl 48 _ (heap_alloc_new _ _) Tryz.sizeProc rfl (by simp [Value.oneCell']) ?_)
  intro wg hnwg hbwg hswg
  have hdwg : Below wf.heap.size wf wg := ((Below.refl _ _).alloc (Nat.le_refl _) _).trans hbwg
  have V10 := VarPr.new0 ho10 hdwg hnwg
  replace V4 := V4.below hdwg
  replace V6 := V6.below hdwg
  have hBwg := hBwf.trans (hdwg.mono hBwf.size)
  clear hBwf ho10 hnwg hbwg hswg hdwg
  generalize wf.heap.size = b10 at *
  go_wp2_with (first | (refine wpList_load_row rfl 48 _ rfl b10 rfl 48 #[.int .i64 I, .slice ao10 Q.length cap10, .int .i64 M.p, .int .i64 M.s, .int .i64 M.e, .int .i64 M.d, .int .i64 M.t, .int .i64 M.q, .int .i64 M.r, .slice none 0 0, .slice none 0 0] (0, 0) _ V10.blk Tryz.underlying48 rfl Tryz.sizeProc ?_) | (refine wpList_load_row rfl 48 _ rfl b4 rfl 48 #[.int .i64 I, .slice ao3 Q.length cap3, .int .i64 M.p, .int .i64 M.s, .int .i64 M.e, .int .i64 M.d, .int .i64 M.t, .int .i64 M.q, .int .i64 M.r, .slice none 0 0, .slice none 0 0] (0, 0) _ V4.blk Tryz.underlying48 rfl Tryz.sizeProc ?_))
  refine (eqproc_any I _ _ _ _ _ _ Q M [] [] _ (V10.row hlL' hzL) (StRow.nil _) (StRow.nil _) (V4.row hlL' hzL) (StRow.nil _) (StRow.nil _)).mono ?_
  rintro e wh ⟨rfl, hbh⟩
  replace V6 := V6.below hbh
  have hBwh := hBwg.trans (hbh.mono hBwg.size)
  clear hBwg hbh
  go_wp2_with (refine wpList_load_row rfl 48 _ rfl b6 rfl 48 #[.int .i64 I, .slice ao7 Q.length cap7, .int .i64 M.p, .int .i64 M.s, .int .i64 M.e, .int .i64 M.d, .int .i64 M.t, .int .i64 M.q, .int .i64 M.r, .slice none 0 0, .slice none 0 0] (0, 0) _ V6.blk Tryz.underlying48 rfl Tryz.sizeProc ?_)
  refine (HH _ (V6.row (by omega) hzM)).mono ?_
  rintro e wi ⟨rfl, hbi⟩
  have hBwi := hBwh.trans (hbi.mono hBwh.size)
  clear V6 V4 V10 hbi hBwh
  go_wp2
  go_ret
  exact ⟨rfl, hBwi⟩
end Go.Proofs.YtdkkpopnoeapdaaGreatDoor
