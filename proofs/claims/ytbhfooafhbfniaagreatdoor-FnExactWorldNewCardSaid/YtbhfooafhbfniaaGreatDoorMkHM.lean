/-
  Texts that stood by themselves, laid into one.
-/
import Derived.Test.YtbhfooafhbfniaaGreatDoorBsM
import Derived.Test.YtbhfooafhbfniaaGreatDoorLMakeM
import Derived.Test.YtbhfooafhbfniaaGreatDoorPrToM
import Derived.Test.YtbhfooafhbfniaaGreatDoorPrRegM
import Derived.Test.YtbhfooafhbfniaaGreatDoorMkXM
import Derived.Test.YtbhfooafhbfniaaGreatDoorSOwnM
import Derived.Test.YtbhfooafhbfniaaGreatDoorInstrM
/-
  A machine's variable (VarM), and the contracts of the laws' helpers markMachine and heldMachine. No condition.
-/
namespace Go.Proofs.YtbhfooafhbfniaaGreatDoor
open Go.RowKit
def VarM (w : World) (b lo hi : Nat) (v : Value) (xs : List Nd) (m : Mc) : Prop :=
  w.heap[b]? = some (.cells #[v, .int .i64 m.p, .int .i64 m.s, .int .i64 m.e, .int .i64 m.d, .int .i64 m.t, .int .i64 m.q, .int .i64 m.r] 56 (0, 0)) ∧ w.ownsRow lo 130 5 v xs.length (ncs xs) ∧ (∀ k, v.ownBlock = some k → k < hi) ∧ hi ≤ w.heap.size
theorem VarM.new {w5 we : World} {lo : Nat} {v : Value} {xs : List Nd} {m : Mc} (ho : w5.ownsRow lo 130 5 v xs.length (ncs xs)) (hd : Below w5.heap.size w5 we) (hb : we.heap[w5.heap.size]? = some (.cells #[v, .int .i64 m.p, .int .i64 m.s, .int .i64 m.e, .int .i64 m.d, .int .i64 m.t, .int .i64 m.q, .int .i64 m.r] 56 (0, 0))) :
    VarM we w5.heap.size lo we.heap.size v xs m := ⟨hb, own_below ho hd, fun k hk => ((own_below ho hd).lt k hk).2, Nat.le_refl _⟩
theorem VarM.below {w w' : World} {b lo hi : Nat} {v : Value} {xs : List Nd} {m : Mc} (h : VarM w b lo hi v xs m) (hb : Below w.heap.size w w') : VarM w' b lo hi v xs m :=
  ⟨(hb.block b (Array.getElem?_eq_some_iff.1 h.1).1).trans h.1, own_below h.2.1 hb, h.2.2.1, Nat.le_trans h.2.2.2 hb.size⟩
theorem VarM.row {w : World} {b lo hi : Nat} {v : Value} {xs : List Nd} {m : Mc} (h : VarM w b lo hi v xs m) (hm : xs.length ≤ 4194304) (hz : ∀ x ∈ xs, x.s.size ≤ maxLen) : NRow w v xs := NRow.of_own h.2.1 (by omega) hz
theorem VarM.lt {w : World} {b lo hi : Nat} {v : Value} {xs : List Nd} {m : Mc} (h : VarM w b lo hi v xs m) : b < w.heap.size := (Array.getElem?_eq_some_iff.1 h.1).1
theorem VarM.kept {w w' : World} {b lo hi lo' hi' b' : Nat} {v v' : Value} {xs xs' : List Nd} {m m' : Mc} (h : VarM w b lo hi v xs m) (h' : VarM w b' lo' hi' v' xs' m') (hg : w.grownBy w' v'.ownBlock) (hd : hi ≤ lo' ∨ hi' ≤ lo) : VarM w' b lo hi v xs m := by
  have hne : v'.ownBlock ≠ some b := own_ne h'.2.1 h.1 (by decide)
  refine ⟨(hg.block b h.lt (fun e => hne e.symm)).trans h.1, h.2.1.kept hg ?_, h.2.2.1, Nat.le_trans h.2.2.2 hg.size⟩
  cases hv : v.ownBlock with
  | none => exact Or.inl rfl
  | some k =>
    refine Or.inr fun e => ?_
    have k1 := h.2.2.1 k hv
    have k2 := (h.2.1.lt k hv).1
    have k3 := h'.2.2.1 k e.symm
    have k4 := (h'.2.1.lt k e.symm).1
    omega
theorem VarM.marked {w w' : World} {b lo hi : Nat} {v : Value} {xs ys : List Nd} {m : Mc} (h : VarM w b lo hi v xs m) (hg : w.grownBy w' v.ownBlock) (ho : w'.ownsRow lo 130 5 v ys.length (ncs ys)) : VarM w' b lo hi v ys m :=
  ⟨(hg.block b h.lt (fun e => own_ne h.2.1 h.1 (by decide) e.symm)).trans h.1, ho, h.2.2.1, Nat.le_trans h.2.2.2 hg.size⟩
theorem VarM.block {w w' : World} {b lo hi : Nat} {v : Value} {xs : List Nd} {m : Mc} (h : VarM w b lo hi v xs m) (hg : w.grownBy w' v.ownBlock) {j : Nat} {c : Array Value} {t : TypeId} (hj : w.heap[j]? = some (.cells c t (0, 0))) (hte : t ≠ 130) : w'.heap[j]? = some (.cells c t (0, 0)) :=
  (hg.block j (Array.getElem?_eq_some_iff.1 hj).1 (fun e => own_ne h.2.1 hj hte e.symm)).trans hj
theorem VarM.keptBy {w w' : World} {b lo hi : Nat} {v : Value} {xs : List Nd} {m : Mc} {o : Option Nat} (h : VarM w b lo hi v xs m) (hg : w.grownBy w' o) (hb : ∀ k, o = some k → k ≠ b ∧ (k < lo ∨ hi ≤ k)) : VarM w' b lo hi v xs m := by
  refine ⟨(hg.block b h.lt (fun e => (hb b e.symm).1 rfl)).trans h.1, h.2.1.kept hg ?_, h.2.2.1, Nat.le_trans h.2.2.2 hg.size⟩
  cases hv : v.ownBlock with
  | none => exact Or.inl rfl
  | some k =>
    refine Or.inr fun e => ?_
    have k1 := h.2.2.1 k hv
    have k2 := (h.2.1.lt k hv).1
    have k3 := (hb k e.symm).2
    omega
end Go.Proofs.YtbhfooafhbfniaaGreatDoor
/-
  A process's variable (VarPr), and the contracts of the laws' helpers markProc and heldProc. No condition.
-/
namespace Go.Proofs.YtbhfooafhbfniaaGreatDoor
open Go.RowKit
set_option maxHeartbeats 800000 in
theorem markstrs_own (v : Value) (k : Int) (base : Nat) (xs : List ByteArray) (w : World) (h : w.ownsRow base 9 1 v xs.length (stv xs)) (hm : xs.length ≤ 4194304) (hk0 : 0 ≤ k) (hk : k ≤ 2305843009213693952) :
    Calls Tryz.prog 70 #[v, .int .i64 k] w fun e w' => e = .returned (.int .i64 (k + xs.length)) ∧ w'.ownsRow base 9 1 v xs.length (stv (sm k xs.length)) ∧ w.grownBy w' v.ownBlock := by
  have h' := h
  rcases h.2 with ⟨rfl, h0⟩ | ⟨g, cap, cur, rfl, hB, hg, _⟩
  · have : xs = [] := List.eq_nil_of_length_eq_zero h0
    subst this
    go_enter Tryz.func70, Tryz.ntmps70
    go_wp2
    refine wp_loop_rounds 1 ?_
    rw [rounds_succ]
    go_wp2
    go_ret
    exact ⟨by simp, h', World.grownBy.refl _ _⟩
  · refine (markstrs_mid g 0 cap cap xs.length base k [] xs [] w rfl (by simp) (by simpa using h') hm hk0 hk).mono ?_
    rintro e w' ⟨rfl, ho, hgr⟩
    exact ⟨rfl, by simpa using ho, hgr⟩
structure VarPr (w : World) (b lo hi : Nat) (v vb vo : Value) (i : Int) (xs : List Nd) (m : Mc) (bx ox : List ByteArray) : Prop where
  blk : w.heap[b]? = some (.cells #[.int .i64 i, v, .int .i64 m.p, .int .i64 m.s, .int .i64 m.e, .int .i64 m.d, .int .i64 m.t, .int .i64 m.q, .int .i64 m.r, vb, vo] 59 (0, 0))
  o1 : w.ownsRow lo 130 5 v xs.length (ncs xs)
  o2 : w.ownsRow lo 9 1 vb bx.length (stv bx)
  o3 : w.ownsRow lo 9 1 vo ox.length (stv ox)
  t1 : ∀ k, v.ownBlock = some k → k < hi
  t2 : ∀ k, vb.ownBlock = some k → k < hi
  t3 : ∀ k, vo.ownBlock = some k → k < hi
  ap : ∀ g, vo.ownBlock = some g → vb.ownBlock ≠ some g
  top : hi ≤ w.heap.size
theorem VarPr.of {w : World} {b lo : Nat} {v vb vo : Value} {i : Int} {xs : List Nd} {m : Mc} {bx ox : List ByteArray} (hb : w.heap[b]? = some (.cells #[.int .i64 i, v, .int .i64 m.p, .int .i64 m.s, .int .i64 m.e, .int .i64 m.d, .int .i64 m.t, .int .i64 m.q, .int .i64 m.r, vb, vo] 59 (0, 0))) (h1 : w.ownsRow lo 130 5 v xs.length (ncs xs)) (h2 : w.ownsRow lo 9 1 vb bx.length (stv bx)) (h3 : w.ownsRow lo 9 1 vo ox.length (stv ox)) (ha : ∀ g, vo.ownBlock = some g → vb.ownBlock ≠ some g) : VarPr w b lo w.heap.size v vb vo i xs m bx ox :=
  ⟨hb, h1, h2, h3, fun k hk => (h1.lt k hk).2, fun k hk => (h2.lt k hk).2, fun k hk => (h3.lt k hk).2, ha, Nat.le_refl _⟩
section
variable {w w' : World} {b lo hi : Nat} {v vb vo : Value} {i : Int} {xs : List Nd} {m : Mc} {bx ox : List ByteArray}
theorem VarPr.below (h : VarPr w b lo hi v vb vo i xs m bx ox) (hb : Below w.heap.size w w') : VarPr w' b lo hi v vb vo i xs m bx ox :=
  ⟨blk_bel h.blk hb, own_below h.o1 hb, own_below h.o2 hb, own_below h.o3 hb, h.t1, h.t2, h.t3, h.ap, Nat.le_trans h.top hb.size⟩
theorem VarPr.lt (h : VarPr w b lo hi v vb vo i xs m bx ox) : b < w.heap.size := blk_lt h.blk
theorem VarPr.row (h : VarPr w b lo hi v vb vo i xs m bx ox) (hm : xs.length ≤ 4194304) (hz : ∀ x ∈ xs, x.s.size ≤ maxLen) : NRow w v xs := NRow.of_own h.o1 (by omega) hz
theorem own_range {e : TypeId} {k n : Nat} {u : Value} {l : List Value} {o : Option Nat} (h : w.ownsRow lo e k u n l) (ht : ∀ k, u.ownBlock = some k → k < hi) (hg : w.grownBy w' o) (hb : ∀ k, o = some k → k < lo ∨ hi ≤ k) : w'.ownsRow lo e k u n l := by
  refine h.kept hg ?_
  cases hv : u.ownBlock with
  | none => exact Or.inl rfl
  | some k =>
    refine Or.inr fun e => ?_
    have k1 := ht k hv
    have k2 := (h.lt k hv).1
    have k3 := hb k e.symm
    omega
theorem VarPr.keptBy {o : Option Nat} (h : VarPr w b lo hi v vb vo i xs m bx ox) (hg : w.grownBy w' o) (hb : ∀ k, o = some k → k ≠ b ∧ (k < lo ∨ hi ≤ k)) : VarPr w' b lo hi v vb vo i xs m bx ox :=
  ⟨(hg.block b h.lt (fun e => (hb b e.symm).1 rfl)).trans h.blk, own_range h.o1 h.t1 hg (fun k hk => (hb k hk).2), own_range h.o2 h.t2 hg (fun k hk => (hb k hk).2), own_range h.o3 h.t3 hg (fun k hk => (hb k hk).2), h.t1, h.t2, h.t3, h.ap, Nat.le_trans h.top hg.size⟩
theorem VarPr.turned {ys : List Nd} {by' oy : List ByteArray} {wa wb : World} (h : VarPr w b lo hi v vb vo i xs m bx ox) (ga : w.grownBy wa v.ownBlock) (gb : wa.grownBy wb vb.ownBlock) (gc : wb.grownBy w' vo.ownBlock) (h1 : w'.ownsRow lo 130 5 v ys.length (ncs ys)) (h2 : w'.ownsRow lo 9 1 vb by'.length (stv by')) (h3 : w'.ownsRow lo 9 1 vo oy.length (stv oy)) : VarPr w' b lo hi v vb vo i ys m by' oy := by
  have l0 := h.lt
  have l1 := Nat.lt_of_lt_of_le l0 ga.size
  have l2 := Nat.lt_of_lt_of_le l1 gb.size
  refine ⟨((gc.block b l2 (fun e => own_ne h.o3 h.blk (by decide) e.symm)).trans ((gb.block b l1 (fun e => own_ne h.o2 h.blk (by decide) e.symm)).trans (ga.block b l0 (fun e => own_ne h.o1 h.blk (by decide) e.symm)))).trans h.blk, h1, h2, h3, h.t1, h.t2, h.t3, h.ap, Nat.le_trans h.top (Nat.le_trans ga.size (Nat.le_trans gb.size gc.size))⟩
theorem VarPr.frame {W0 wa wb : World} {B : Nat} (h0 : Below B W0 w) (h : VarPr w b lo hi v vb vo i xs m bx ox) (ga : w.grownBy wa v.ownBlock) (gb : wa.grownBy wb vb.ownBlock) (gc : wb.grownBy w' vo.ownBlock) (hlo : B ≤ lo) (hB : B ≤ w.heap.size) : Below B W0 w' :=
  ((h0.grown ga hB (fun k hk => Nat.le_trans hlo (h.o1.lt k hk).1)).grown gb (Nat.le_trans hB ga.size) (fun k hk => Nat.le_trans hlo (h.o2.lt k hk).1)).grown gc (Nat.le_trans hB (Nat.le_trans ga.size gb.size)) (fun k hk => Nat.le_trans hlo (h.o3.lt k hk).1)
theorem VarPr.other {wa wb : World} {j : Nat} {c : Array Value} {t : TypeId} (h : VarPr w b lo hi v vb vo i xs m bx ox) (ga : w.grownBy wa v.ownBlock) (gb : wa.grownBy wb vb.ownBlock) (gc : wb.grownBy w' vo.ownBlock) (hj : w.heap[j]? = some (.cells c t (0, 0))) (h1 : t ≠ 130) (h2 : t ≠ 9) : w'.heap[j]? = some (.cells c t (0, 0)) := by
  have l0 := blk_lt hj
  have l1 := Nat.lt_of_lt_of_le l0 ga.size
  have l2 := Nat.lt_of_lt_of_le l1 gb.size
  exact ((gc.block j l2 (fun e => own_ne h.o3 hj h2 e.symm)).trans ((gb.block j l1 (fun e => own_ne h.o2 hj h2 e.symm)).trans (ga.block j l0 (fun e => own_ne h.o1 hj h1 e.symm)))).trans hj
end
end Go.Proofs.YtbhfooafhbfniaaGreatDoor
/-
  Marks of a new world's lists: one home, links without queues, texts' lists that are empty. No condition.
-/
namespace Go.Proofs.YtbhfooafhbfniaaGreatDoor
open Go.RowKit
theorem own_nil0 (w : World) (B : Nat) (e : TypeId) (k : Nat) : w.ownsRow B e k (.slice none 0 0) 0 [] := ⟨by simp, Or.inl ⟨rfl, rfl⟩⟩
set_option maxHeartbeats 1600000 in
theorem markgrams_nil (k : Int) (w : World) : Calls Tryz.prog 39 #[.slice none 0 0, .int .i64 k] w fun e w' => e = .returned (.int .i64 k) ∧ w' = w := by
  go_enter Tryz.func39, Tryz.ntmps39
  go_wp2
  refine wp_loop_rounds 1 ?_
  rw [rounds_succ]
  go_wp2
  go_ret
  exact ⟨rfl, rfl⟩
set_option maxHeartbeats 1600000 in
theorem heldgrams_nil (k : Int) (w : World) : Calls Tryz.prog 45 #[.slice none 0 0, .int .i64 k] w fun e w' => e = .returned (.int .i64 k) ∧ w' = w := by
  go_enter Tryz.func45, Tryz.ntmps45
  go_wp2
  refine wp_loop_rounds 1 ?_
  rw [rounds_succ]
  go_wp2
  go_ret
  exact ⟨rfl, rfl⟩
set_option maxHeartbeats 1600000 in
theorem markparkeds_nil (k : Int) (w : World) : Calls Tryz.prog 40 #[.slice none 0 0, .int .i64 k] w fun e w' => e = .returned (.int .i64 k) ∧ w' = w := by
  go_enter Tryz.func40, Tryz.ntmps40
  go_wp2
  refine wp_loop_rounds 1 ?_
  rw [rounds_succ]
  go_wp2
  go_ret
  exact ⟨rfl, rfl⟩
set_option maxHeartbeats 1600000 in
theorem heldparkeds_nil (k : Int) (w : World) : Calls Tryz.prog 46 #[.slice none 0 0, .int .i64 k] w fun e w' => e = .returned (.int .i64 k) ∧ w' = w := by
  go_enter Tryz.func46, Tryz.ntmps46
  go_wp2
  refine wp_loop_rounds 1 ?_
  rw [rounds_succ]
  go_wp2
  go_ret
  exact ⟨rfl, rfl⟩
theorem markstrs_nil (k : Int) (w : World) (hk0 : 0 ≤ k) (hk : k ≤ 2305843009213693952) : Calls Tryz.prog 70 #[.slice none 0 0, .int .i64 k] w fun e w' => e = .returned (.int .i64 k) ∧ Below w.heap.size w w' :=
  (markstrs_own (.slice none 0 0) k 0 [] w (own_nil0 _ _ _ _) (by simp) hk0 hk).mono fun e w' ⟨h1, _, h3⟩ => ⟨h1.trans (by simp), (Below.refl _ _).grown h3 (Nat.le_refl _) (fun _ h => by cases h)⟩
theorem heldstrs_nil (k : Int) (w : World) (hk0 : 0 ≤ k) (hk : k ≤ 2305843009213693952) : Calls Tryz.prog 76 #[.slice none 0 0, .int .i64 k] w fun e w' => e = .returned (.int .i64 k) ∧ Below w.heap.size w w' :=
  (heldstrs_any (.slice none 0 0) k 0 w ⟨none, 0, rfl, by simp [sm], by simp [sm], by simp [sm], fun h => absurd rfl h⟩ (by simp) hk0 hk).mono fun e w' ⟨h1, h3⟩ => ⟨h1.trans (by simp), h3⟩
theorem markpieces_nil (k : Int) (w : World) (hk0 : 0 ≤ k) (hk : k ≤ 2305843009213693952) : Calls Tryz.prog 71 #[.slice none 0 0, .int .i64 k] w fun e w' => e = .returned (.int .i64 k) ∧ Below w.heap.size w w' :=
  (markpieces_any (.slice none 0 0) k 0 [] w (own_nil0 _ _ _ _) (by simp) hk0 hk).mono fun e w' ⟨h1, _, h3⟩ => ⟨h1.trans (by simp), (Below.refl _ _).grown h3 (Nat.le_refl _) (fun _ h => by cases h)⟩
theorem heldpieces_nil (k : Int) (w : World) (hk0 : 0 ≤ k) (hk : k ≤ 2305843009213693952) : Calls Tryz.prog 77 #[.slice none 0 0, .int .i64 k] w fun e w' => e = .returned (.int .i64 k) ∧ Below w.heap.size w w' :=
  (heldpieces_any (.slice none 0 0) k [] w ⟨none, 0, rfl, by simp [pmarked], by simp [pmarked], by simp [pmarked], fun h => absurd rfl h⟩ (by simp) hk0 hk).mono fun e w' ⟨h1, h3⟩ => ⟨h1.trans (by simp), h3⟩
set_option maxHeartbeats 1600000 in
theorem marksss_nils (v : Value) (k : Int) (base n : Nat) (w : World) (h : w.ownsRow base 57 1 v n (List.replicate n (.slice none 0 0))) (hm : n ≤ 4194304) (hk0 : 0 ≤ k) (hk : k ≤ 2305843009213693952) :
    Calls Tryz.prog 41 #[v, .int .i64 k] w fun e w' => e = .returned (.int .i64 k) ∧ Below w.heap.size w w' := by
  rcases h.2 with ⟨rfl, h0⟩ | ⟨g, cap, cur, rfl, hb, hg, hnc, hcm, hcs, htake⟩
  · subst h0
    go_enter Tryz.func41, Tryz.ntmps41
    go_wp2
    refine wp_loop_rounds 1 ?_
    rw [rounds_succ]
    go_wp2
    go_ret
    exact ⟨rfl, Below.refl _ _⟩
  · clear hg hcs htake hb hnc hcm
    go_enter Tryz.func41, Tryz.ntmps41
    go_wp2
    go_loopw [1, 5] (fun q i wr => ∃ j : Nat, j ≤ n ∧ i = .int .i64 j ∧ q = .int .i64 k ∧ Below w.heap.size w wr) (fun _ i _ => n - (intOf i).toNat)
    case atStart => exact ⟨0, by omega, rfl, rfl, Below.refl _ _⟩
    case round =>
      obtain ⟨j, hj, rfl, rfl, hbel⟩ := hrel
      by_cases hlt : j < n
      · have c0 := ((own_below h hbel).cellAt j (by omega)).trans (List.getElem?_replicate_of_lt hlt)
        go_wp2_with fail
        refine (markstrs_nil k _ hk0 hk).mono ?_
        rintro e w2 ⟨rfl, hb2⟩
        have hB2 := hbel.trans (hb2.mono hbel.size)
        clear hb2 c0
        go_wp2
        go_roundw
        case rel => exact ⟨j + 1, by omega, by go_num, rfl, hB2⟩
        case measure => simp [intOf]; omega
      · go_wp2
        go_ret
        exact ⟨rfl, hbel⟩
set_option maxHeartbeats 1600000 in
theorem heldsss_nils (v : Value) (k : Int) (base n : Nat) (w : World) (h : w.ownsRow base 57 1 v n (List.replicate n (.slice none 0 0))) (hm : n ≤ 4194304) (hk0 : 0 ≤ k) (hk : k ≤ 2305843009213693952) :
    Calls Tryz.prog 47 #[v, .int .i64 k] w fun e w' => e = .returned (.int .i64 k) ∧ Below w.heap.size w w' := by
  have hk9 : ¬ k < 0 := by omega
  rcases h.2 with ⟨rfl, h0⟩ | ⟨g, cap, cur, rfl, hb, hg, hnc, hcm, hcs, htake⟩
  · subst h0
    go_enter Tryz.func47, Tryz.ntmps47
    go_wp2
    refine wp_loop_rounds 1 ?_
    rw [rounds_succ]
    go_wp2
    go_ret
    exact ⟨rfl, Below.refl _ _⟩
  · clear hg hcs htake hb hnc hcm
    go_enter Tryz.func47, Tryz.ntmps47
    go_wp2
    go_loopw [1, 5] (fun q i wr => ∃ j : Nat, j ≤ n ∧ i = .int .i64 j ∧ q = .int .i64 k ∧ Below w.heap.size w wr) (fun _ i _ => n - (intOf i).toNat)
    case atStart => exact ⟨0, by omega, rfl, rfl, Below.refl _ _⟩
    case round =>
      obtain ⟨j, hj, rfl, rfl, hbel⟩ := hrel
      by_cases hlt : j < n
      · have c0 := ((own_below h hbel).cellAt j (by omega)).trans (List.getElem?_replicate_of_lt hlt)
        go_wp2_with fail
        refine (heldstrs_nil k _ hk0 hk).mono ?_
        rintro e w2 ⟨rfl, hb2⟩
        have hB2 := hbel.trans (hb2.mono hbel.size)
        clear hb2 c0
        go_wp2
        go_roundw
        case rel => exact ⟨j + 1, by omega, by go_num, rfl, hB2⟩
        case measure => simp [intOf]; omega
      · go_wp2
        go_ret
        exact ⟨rfl, hbel⟩
end Go.Proofs.YtbhfooafhbfniaaGreatDoor
/-
  Marks of links that have no queues. No condition.
-/
namespace Go.Proofs.YtbhfooafhbfniaaGreatDoor
open Go.RowKit
theorem mpre_ge (m : Nat → Value) (cs : List Value) (c d : Nat) (h : c ≤ d) : (mpre m cs c)[d]? = cs[d]? := by
  unfold mpre
  rw [List.getElem?_append_right (by simpa using h), List.length_map, List.length_range, List.getElem?_drop]
  congr 1
  omega
theorem mpre_skip (m : Nat → Value) (cs : List Value) (c : Nat) (e : cs[c]? = some (m c)) : mpre m cs c = mpre m cs (c + 1) := by
  obtain ⟨h, e⟩ := List.getElem?_eq_some_iff.1 e
  unfold mpre
  rw [List.range_succ, List.map_append, List.append_assoc]
  congr 1
  rw [List.drop_eq_getElem_cons h, e]
  rfl
theorem zls_len (n : Nat) : (zls n).length = n * 5 := by
  induction n with
  | zero => rfl
  | succ n ih => rw [zls_succ, List.length_append, ih]; simp; omega
theorem zls_at (n j : Nat) (hj : j < n) : (zls n)[j * 5]? = some (.int .i64 0) ∧ (zls n)[j * 5 + 1]? = some (.int .i64 0) ∧ (zls n)[j * 5 + 2]? = some (.slice none 0 0) ∧ (zls n)[j * 5 + 3]? = some (.int .i64 0) ∧ (zls n)[j * 5 + 4]? = some (.slice none 0 0) := by
  induction n with
  | zero => omega
  | succ n ih =>
    rw [zls_succ]
    by_cases h : j < n
    · obtain ⟨a, b, c, d, e⟩ := ih h
      have hl := zls_len n
      refine ⟨?_, ?_, ?_, ?_, ?_⟩ <;> rw [List.getElem?_append_left (by rw [hl]; omega)] <;> assumption
    · obtain rfl : j = n := by omega
      have hl := zls_len j
      refine ⟨?_, ?_, ?_, ?_, ?_⟩ <;> rw [List.getElem?_append_right (by rw [hl]; omega), hl]
      · simp
      · simp [show j * 5 + 1 - j * 5 = 1 by omega]
      · simp [show j * 5 + 2 - j * 5 = 2 by omega]
      · simp [show j * 5 + 3 - j * 5 = 3 by omega]
      · simp [show j * 5 + 4 - j * 5 = 4 by omega]
def lkM (k : Int) (c : Nat) : Value := if c % 5 = 0 then .int .i64 (k + 3 * ((c / 5 : Nat) : Int)) else if c % 5 = 1 then .int .i64 (k + 3 * ((c / 5 : Nat) : Int) + 1) else if c % 5 = 3 then .int .i64 (k + 3 * ((c / 5 : Nat) : Int) + 1 + 1) else .slice none 0 0
theorem lkM0 (k : Int) (j : Nat) : lkM k (j * 5) = .int .i64 (k + 3 * (j : Int)) := by
  have e : (j * 5) % 5 = 0 := by omega
  have e2 : (j * 5) / 5 = j := by omega
  simp only [lkM, e, if_true, e2]
theorem lkM1 (k : Int) (j : Nat) : lkM k (j * 5 + 1) = .int .i64 (k + 3 * (j : Int) + 1) := by
  have e : (j * 5 + 1) % 5 = 1 := by omega
  have e2 : (j * 5 + 1) / 5 = j := by omega
  simp [lkM, e, e2]
theorem lkM2 (k : Int) (j : Nat) : lkM k (j * 5 + 2) = .slice none 0 0 := by
  have e : (j * 5 + 2) % 5 = 2 := by omega
  simp [lkM, e]
theorem lkM3 (k : Int) (j : Nat) : lkM k (j * 5 + 3) = .int .i64 (k + 3 * (j : Int) + 1 + 1) := by
  have e : (j * 5 + 3) % 5 = 3 := by omega
  have e2 : (j * 5 + 3) / 5 = j := by omega
  simp [lkM, e, e2]
theorem lkM4 (k : Int) (j : Nat) : lkM k (j * 5 + 4) = .slice none 0 0 := by
  have e : (j * 5 + 4) % 5 = 4 := by omega
  simp [lkM, e]
set_option maxHeartbeats 1600000 in
theorem marklinks_z (v : Value) (k : Int) (base n : Nat) (w : World) (h : w.ownsRow base 106 5 v n (zls n)) (hm : n ≤ 4194304) (hk0 : 0 ≤ k) (hk : k ≤ 1152921504606846976) :
    Calls Tryz.prog 38 #[v, .int .i64 k] w fun e w' => e = .returned (.int .i64 (k + 3 * n)) ∧ w'.ownsRow base 106 5 v n ((List.range (n * 5)).map (lkM k)) ∧ w.grownBy w' v.ownBlock := by
  have hzl := zls_len n
  rcases h.2 with ⟨rfl, h0⟩ | ⟨g, cap, cur, rfl, hb, hg, hnc, hcm, hcs, htake⟩
  · subst h0
    go_enter Tryz.func38, Tryz.ntmps38
    go_wp2
    refine wp_loop_rounds 1 ?_
    rw [rounds_succ]
    go_wp2
    go_ret
    exact ⟨by simp, h, World.grownBy.refl _ _⟩
  · clear hg hcs htake
    go_enter Tryz.func38, Tryz.ntmps38
    go_wp2
    go_loopw [1, 5] (fun q i wr => ∃ (j : Nat), j ≤ n ∧ i = .int .i64 j ∧ q = .int .i64 (k + 3 * (j : Int)) ∧ wr.ownsRow base 106 5 (.slice (some ⟨g, 0, none⟩) n cap) n (mpre (lkM k) (zls n) (j * 5)) ∧ w.grownBy wr (some g)) (fun _ i _ => n - (intOf i).toNat)
    case atStart => exact ⟨0, by omega, rfl, by simp, by rw [Nat.zero_mul, mpre_zero]; exact h, World.grownBy.refl _ _⟩
    case round =>
      clear h
      obtain ⟨j, hj, rfl, rfl, hown, hbel⟩ := hrel
      by_cases hlt : j < n
      · obtain ⟨z0, z1, z2, z3, z4⟩ := zls_at n j hlt
        have hgs : g < wr.heap.size := (hown.lt g rfl).2
        have c0 := (hown.cellAt (j * 5) (by omega)).trans ((mpre_ge _ _ _ _ (by omega)).trans z0)
        have c1 := (hown.cellAt (j * 5 + 1) (by omega)).trans ((mpre_ge _ _ _ _ (by omega)).trans z1)
        have c2 := (hown.cellAt (j * 5 + 2) (by omega)).trans ((mpre_ge _ _ _ _ (by omega)).trans z2)
        have f0 := hown.frozenAt (j * 5)
        have f1 := hown.frozenAt (j * 5 + 1)
        have s0 := hown.stored (j * 5) (.int .i64 (k + 3 * (j : Int)))
        rw [mpre_set _ _ _ _ (by omega) (lkM0 k j)] at s0
        have s1 := s0.1.stored (j * 5 + 1) (.int .i64 (k + 3 * (j : Int) + 1))
        rw [mpre_set _ _ _ _ (by omega) (lkM1 k j), mpre_skip _ _ _ (z2.trans (congrArg some (lkM2 k j).symm))] at s1
        have hB1 := (hbel.trans s0.2).trans s1.2
        go_wp2_with fail
        refine (markstrs_nil _ _ (by omega) (by omega)).mono ?_
        rintro e w2 ⟨rfl, hb2⟩
        have hown2 := own_below s1.1 hb2
        have hB2 := hB1.trans (grown_below2 hb2 (some g))
        have d3 := (hown2.cellAt (j * 5 + 3) (by omega)).trans ((mpre_ge _ _ _ _ (by omega)).trans z3)
        have d4 := (hown2.cellAt (j * 5 + 4) (by omega)).trans ((mpre_ge _ _ _ _ (by omega)).trans z4)
        have e3 := hown2.frozenAt (j * 5 + 3)
        have s3 := hown2.stored (j * 5 + 3) (.int .i64 (k + 3 * (j : Int) + 1 + 1))
        rw [mpre_set _ _ _ _ (by omega) (lkM3 k j), mpre_skip _ _ _ (z4.trans (congrArg some (lkM4 k j).symm)), show j * 5 + 3 + 1 + 1 = (j + 1) * 5 by omega] at s3
        have hB3 := hB2.trans s3.2
        have S3 := s3.1
        clear s0 s1 s3 hown hown2 c0 c1 c2 f0 f1 hb2 hB1 hB2 hbel
        go_wp2_with fail
        refine (markpieces_nil _ _ (by omega) (by omega)).mono ?_
        rintro e w4 ⟨rfl, hb4⟩
        have S4 := own_below S3 hb4
        have hB4 := hB3.trans (grown_below2 hb4 (some g))
        clear S3 hB3 hb4 d3 d4 e3 z0 z1 z2 z3 z4
        go_wp2
        go_roundw
        case rel => exact ⟨j + 1, by omega, by go_num, by go_num, S4, hB4⟩
        case measure => simp [intOf]; omega
      · go_wp2
        go_ret
        have : j = n := by omega
        subst this
        rw [← hzl, mpre_full, hzl] at hown
        exact ⟨rfl, hown, hbel⟩
set_option maxHeartbeats 1600000 in
theorem heldlinks_z (v : Value) (k : Int) (base n : Nat) (w : World) (h : w.ownsRow base 106 5 v n ((List.range (n * 5)).map (lkM k))) (hm : n ≤ 4194304) (hk0 : 0 ≤ k) (hk : k ≤ 1152921504606846976) :
    Calls Tryz.prog 44 #[v, .int .i64 k] w fun e w' => e = .returned (.int .i64 (k + 3 * n)) ∧ Below w.heap.size w w' := by
  rcases h.2 with ⟨rfl, h0⟩ | ⟨g, cap, cur, rfl, hb, hg, hnc, hcm, hcs, htake⟩
  · subst h0
    go_enter Tryz.func44, Tryz.ntmps44
    go_wp2
    refine wp_loop_rounds 1 ?_
    rw [rounds_succ]
    go_wp2
    go_ret
    exact ⟨by simp, Below.refl _ _⟩
  · clear hg hcs htake hb hnc hcm
    go_enter Tryz.func44, Tryz.ntmps44
    go_wp2
    go_loopw [1, 5] (fun q i wr => ∃ j : Nat, j ≤ n ∧ i = .int .i64 j ∧ q = .int .i64 (k + 3 * (j : Int)) ∧ Below w.heap.size w wr) (fun _ i _ => n - (intOf i).toNat)
    case atStart => exact ⟨0, by omega, rfl, by simp, Below.refl _ _⟩
    case round =>
      obtain ⟨j, hj, rfl, rfl, hbel⟩ := hrel
      by_cases hlt : j < n
      · have hown := own_below h hbel
        have c0 := (hown.cellAt (j * 5) (by omega)).trans ((mpre_at _ _ _ (by omega)).trans (congrArg some (lkM0 k j)))
        have c1 := (hown.cellAt (j * 5 + 1) (by omega)).trans ((mpre_at _ _ _ (by omega)).trans (congrArg some (lkM1 k j)))
        have c2 := (hown.cellAt (j * 5 + 2) (by omega)).trans ((mpre_at _ _ _ (by omega)).trans (congrArg some (lkM2 k j)))
        have m0 : ((k + 3 * (j : Int)) != (k + 3 * (j : Int))) = false := by simp
        have m1 : ((k + 3 * (j : Int) + 1) != (k + 3 * (j : Int) + 1)) = false := by simp
        have m2 : ((k + 3 * (j : Int) + 1 + 1) != (k + 3 * (j : Int) + 1 + 1)) = false := by simp
        clear hown
        go_wp2_with fail
        refine (heldstrs_nil _ _ (by omega) (by omega)).mono ?_
        rintro e w2 ⟨rfl, hb2⟩
        have hB2 := hbel.trans (hb2.mono hbel.size)
        have hown2 := own_below h hB2
        have d3 := (hown2.cellAt (j * 5 + 3) (by omega)).trans ((mpre_at _ _ _ (by omega)).trans (congrArg some (lkM3 k j)))
        have d4 := (hown2.cellAt (j * 5 + 4) (by omega)).trans ((mpre_at _ _ _ (by omega)).trans (congrArg some (lkM4 k j)))
        have hk1 : ¬ (k + 3 * (j : Int) + 1 + 1) < 0 := by omega
        clear c0 c1 c2 hb2 hown2
        go_wp2_with fail
        refine (heldpieces_nil _ _ (by omega) (by omega)).mono ?_
        rintro e w4 ⟨rfl, hb4⟩
        have hB4 := hB2.trans (hb4.mono hB2.size)
        have hk2 : ¬ (k + 3 * (j : Int) + 1 + 1 + 1) < 0 := by omega
        clear d3 d4 hb4 hB2
        go_wp2
        go_roundw
        case rel => exact ⟨j + 1, by omega, by go_num, by go_num, hB4⟩
        case measure => simp [intOf]; omega
      · go_wp2
        go_ret
        have : j = n := by omega
        subst this
        exact ⟨rfl, hbel⟩
end Go.Proofs.YtbhfooafhbfniaaGreatDoor
/-
  Marks of a list of one home whose box and outlet are empty. No condition.
-/
namespace Go.Proofs.YtbhfooafhbfniaaGreatDoor
open Go.RowKit
def hmk (k : Int) (vL : Value) (L : List Nd) : List Value := [.int .i64 k, .int .i64 (k + 1), vL, .int .i64 (k + 1 + 1 + 5 * (L.length : Int)), .int .i64 (k + 1 + 1 + 5 * (L.length : Int) + 1), .int .i64 (k + 1 + 1 + 5 * (L.length : Int) + 1 + 1), .int .i64 (k + 1 + 1 + 5 * (L.length : Int) + 1 + 1 + 1), .int .i64 (k + 1 + 1 + 5 * (L.length : Int) + 1 + 1 + 1 + 1), .int .i64 (k + 1 + 1 + 5 * (L.length : Int) + 1 + 1 + 1 + 1 + 1), .int .i64 (k + 1 + 1 + 5 * (L.length : Int) + 1 + 1 + 1 + 1 + 1 + 1), .slice none 0 0, .slice none 0 0]
set_option maxHeartbeats 3200000 in
theorem markhomes_x (vh vL : Value) (k : Int) (B : Nat) (c0 c1 c3 c4 c5 c6 c7 c8 c9 : Value) (L : List Nd) (w : World) (H : w.ownsRow B 65 12 vh 1 [c0, c1, vL, c3, c4, c5, c6, c7, c8, c9, .slice none 0 0, .slice none 0 0]) (Q : w.ownsRow B 130 5 vL L.length (ncs L)) (hL : L.length ≤ 4194304) (hk0 : 0 ≤ k) (hk : k ≤ 1152921504606846976) :
    Calls Tryz.prog 37 #[vh, .int .i64 k] w fun e w' => e = .returned (.int .i64 (k + 1 + 1 + 5 * (L.length : Int) + 1 + 1 + 1 + 1 + 1 + 1 + 1)) ∧ w'.ownsRow B 65 12 vh 1 (hmk k vL L) ∧ w'.ownsRow B 130 5 vL L.length (ncs (nmarked (k + 1 + 1) L L.length)) ∧ TnS (fun j => vh.ownBlock = some j ∨ vL.ownBlock = some j) w w' := by
  rcases H.2 with ⟨rfl, h0⟩ | ⟨g, cap, cur, rfl, hb, hg, hnc, hcm, hcs, htake⟩
  · omega
  · clear hg hcs htake hb hnc hcm
    obtain ⟨aq, cq, rfl⟩ := own_form Q
    go_enter Tryz.func37, Tryz.ntmps37
    go_wp2
    refine wp_loop_rounds 2 ?_
    rw [rounds_succ]
    have c_0 := H.cellAt 0 (by omega)
    have c_1 := H.cellAt 1 (by omega)
    have c_2 := H.cellAt 2 (by omega)
    simp only [List.getElem?_cons_zero, List.getElem?_cons_succ] at c_0 c_1 c_2
    have f0 := H.frozenAt 0
    have f1 := H.frozenAt 1
    have s0 := H.stored 0 (.int .i64 k)
    have s1 := s0.1.stored 1 (.int .i64 (k + 1))
    simp only [List.set_cons_zero, List.set_cons_succ] at s1
    have d_2 := s1.1.cellAt 2 (by omega)
    simp only [List.getElem?_cons_zero, List.getElem?_cons_succ] at d_2
    have Q0 := Q.kept s0.2 (own_apart Q H (by decide))
    have Q1 := Q0.kept s1.2 (own_apart Q0 s0.1 (by decide))
    have T1 : TnS (fun j => (Value.slice (some ⟨g, 0, none⟩) 1 cap).ownBlock = some j ∨ (Value.slice aq L.length cq).ownBlock = some j) w _ := ((TnS.of_grown s0.2).trans (TnS.of_grown s1.2)).mono fun _ h => Or.inl h
    go_wp2_with fail
    refine (marknodes_any _ (k + 1 + 1) B L _ Q1 hL (by omega) (by omega)).mono ?_
    rintro e w2 ⟨rfl, Q2, g2⟩
    have H2 := s1.1.kept g2 (own_apart s1.1 Q1 (by decide))
    have T2 := T1.trans ((TnS.of_grown g2).mono fun _ h => Or.inr h)
    clear s0 s1 Q0 Q1 T1 g2 H Q c_0 c_1 c_2 d_2 f0 f1
    have c_3 := H2.cellAt 3 (by omega)
    have f3 := H2.frozenAt 3
    have c_4 := H2.cellAt 4 (by omega)
    have f4 := H2.frozenAt 4
    have c_5 := H2.cellAt 5 (by omega)
    have f5 := H2.frozenAt 5
    have c_6 := H2.cellAt 6 (by omega)
    have f6 := H2.frozenAt 6
    have c_7 := H2.cellAt 7 (by omega)
    have f7 := H2.frozenAt 7
    have c_8 := H2.cellAt 8 (by omega)
    have f8 := H2.frozenAt 8
    have c_9 := H2.cellAt 9 (by omega)
    have f9 := H2.frozenAt 9
    simp only [List.getElem?_cons_zero, List.getElem?_cons_succ] at c_3 c_4 c_5 c_6 c_7 c_8 c_9
    have s3 := H2.stored 3 (.int .i64 (k + 1 + 1 + 5 * (L.length : Int)))
    have s4 := s3.1.stored 4 (.int .i64 (k + 1 + 1 + 5 * (L.length : Int) + 1))
    have s5 := s4.1.stored 5 (.int .i64 (k + 1 + 1 + 5 * (L.length : Int) + 1 + 1))
    have s6 := s5.1.stored 6 (.int .i64 (k + 1 + 1 + 5 * (L.length : Int) + 1 + 1 + 1))
    have s7 := s6.1.stored 7 (.int .i64 (k + 1 + 1 + 5 * (L.length : Int) + 1 + 1 + 1 + 1))
    have s8 := s7.1.stored 8 (.int .i64 (k + 1 + 1 + 5 * (L.length : Int) + 1 + 1 + 1 + 1 + 1))
    have s9 := s8.1.stored 9 (.int .i64 (k + 1 + 1 + 5 * (L.length : Int) + 1 + 1 + 1 + 1 + 1 + 1))
    simp only [List.set_cons_zero, List.set_cons_succ] at s9
    have H3 := s9.1
    have q3 := Q2.kept s3.2 (own_apart Q2 H2 (by decide))
    have q4 := q3.kept s4.2 (own_apart q3 s3.1 (by decide))
    have q5 := q4.kept s5.2 (own_apart q4 s4.1 (by decide))
    have q6 := q5.kept s6.2 (own_apart q5 s5.1 (by decide))
    have q7 := q6.kept s7.2 (own_apart q6 s6.1 (by decide))
    have q8 := q7.kept s8.2 (own_apart q7 s7.1 (by decide))
    have q9 := q8.kept s9.2 (own_apart q8 s8.1 (by decide))
    have Q3 := q9
    clear q3 q4 q5 q6 q7 q8
    have T3 := T2.trans ((((((((TnS.of_grown s3.2).trans (TnS.of_grown s4.2)).trans (TnS.of_grown s5.2)).trans (TnS.of_grown s6.2)).trans (TnS.of_grown s7.2)).trans (TnS.of_grown s8.2)).trans (TnS.of_grown s9.2)).mono fun _ h => Or.inl h)
    have d10 := H3.cellAt 10 (by omega)
    have e10 := H2.cellAt 10 (by omega)
    simp only [List.getElem?_cons_zero, List.getElem?_cons_succ] at d10 e10
    clear Q2 T2 H2 s3 s4 s5 s6 s7 s8 s9
    go_wp2_with fail
    refine (markstrs_nil _ _ (by omega) (by omega)).mono ?_
    rintro e w3 ⟨rfl, hb3⟩
    have H4 := own_below H3 hb3
    have Q4 := own_below Q3 hb3
    have T4 := T3.trans (TnS.of_below _ hb3)
    have d11 := H4.cellAt 11 (by omega)
    simp only [List.getElem?_cons_zero, List.getElem?_cons_succ] at d11
    clear H3 Q3 T3 hb3 d10 e10 c_3 f3 c_4 f4 c_5 f5 c_6 f6 c_7 f7 c_8 f8 c_9 f9
    go_wp2_with fail
    refine (markstrs_nil _ _ (by omega) (by omega)).mono ?_
    rintro e w4 ⟨rfl, hb4⟩
    have H5 := own_below H4 hb4
    have Q5 := own_below Q4 hb4
    have T5 := T4.trans (TnS.of_below _ hb4)
    clear H4 Q4 T4 hb4 d11
    go_wp2
    rw [rounds_succ]
    go_wp2
    go_ret
    exact ⟨rfl, H5, Q5, T5⟩
set_option maxHeartbeats 3200000 in
theorem heldhomes_x (vh vL : Value) (k : Int) (B : Nat) (L : List Nd) (w : World) (H : w.ownsRow B 65 12 vh 1 (hmk k vL L)) (Q : w.ownsRow B 130 5 vL L.length (ncs (nmarked (k + 1 + 1) L L.length))) (hL : L.length ≤ 4194304) (hk0 : 0 ≤ k) (hk : k ≤ 1152921504606846976) :
    Calls Tryz.prog 43 #[vh, .int .i64 k] w fun e w' => e = .returned (.int .i64 (k + 1 + 1 + 5 * (L.length : Int) + 1 + 1 + 1 + 1 + 1 + 1 + 1)) ∧ Below w.heap.size w w' := by
  unfold hmk at H
  rcases H.2 with ⟨rfl, h0⟩ | ⟨g, cap, cur, rfl, hb, hg, hnc, hcm, hcs, htake⟩
  · omega
  · clear hg hcs htake hb hnc hcm
    obtain ⟨aq, cq, rfl⟩ := own_form Q
    go_enter Tryz.func43, Tryz.ntmps43
    go_wp2
    refine wp_loop_rounds 2 ?_
    rw [rounds_succ]
    have c_0 := H.cellAt 0 (by omega)
    have c_1 := H.cellAt 1 (by omega)
    have c_2 := H.cellAt 2 (by omega)
    simp only [List.getElem?_cons_zero, List.getElem?_cons_succ] at c_0 c_1 c_2
    have m0 : (k != k) = false := by simp
    have m1 : ((k + 1) != (k + 1)) = false := by simp
    go_wp2_with fail
    refine (heldnodes_any _ (k + 1 + 1) L _ (NRow.mk9 Q hL (by omega)) hL (by omega) (by omega)).mono ?_
    rintro e w2 ⟨rfl, hb2⟩
    have H2 := own_below H hb2
    clear c_0 c_1 c_2 m0 m1
    have hk1 : ¬ (k + 1 + 1 + 5 * (L.length : Int)) < 0 := by omega
    have c_3 := H2.cellAt 3 (by omega)
    have c_4 := H2.cellAt 4 (by omega)
    have c_5 := H2.cellAt 5 (by omega)
    have c_6 := H2.cellAt 6 (by omega)
    have c_7 := H2.cellAt 7 (by omega)
    have c_8 := H2.cellAt 8 (by omega)
    have c_9 := H2.cellAt 9 (by omega)
    have c_10 := H2.cellAt 10 (by omega)
    have c_11 := H2.cellAt 11 (by omega)
    simp only [List.getElem?_cons_zero, List.getElem?_cons_succ] at c_3 c_4 c_5 c_6 c_7 c_8 c_9 c_10 c_11
    have m0 : ((k + 1 + 1 + 5 * (L.length : Int)) != (k + 1 + 1 + 5 * (L.length : Int))) = false := by simp
    have m1 : ((k + 1 + 1 + 5 * (L.length : Int) + 1) != (k + 1 + 1 + 5 * (L.length : Int) + 1)) = false := by simp
    have m2 : ((k + 1 + 1 + 5 * (L.length : Int) + 1 + 1) != (k + 1 + 1 + 5 * (L.length : Int) + 1 + 1)) = false := by simp
    have m3 : ((k + 1 + 1 + 5 * (L.length : Int) + 1 + 1 + 1) != (k + 1 + 1 + 5 * (L.length : Int) + 1 + 1 + 1)) = false := by simp
    have m4 : ((k + 1 + 1 + 5 * (L.length : Int) + 1 + 1 + 1 + 1) != (k + 1 + 1 + 5 * (L.length : Int) + 1 + 1 + 1 + 1)) = false := by simp
    have m5 : ((k + 1 + 1 + 5 * (L.length : Int) + 1 + 1 + 1 + 1 + 1) != (k + 1 + 1 + 5 * (L.length : Int) + 1 + 1 + 1 + 1 + 1)) = false := by simp
    have m6 : ((k + 1 + 1 + 5 * (L.length : Int) + 1 + 1 + 1 + 1 + 1 + 1) != (k + 1 + 1 + 5 * (L.length : Int) + 1 + 1 + 1 + 1 + 1 + 1)) = false := by simp
    clear H2
    go_wp2_with fail
    refine (heldstrs_nil _ _ (by omega) (by omega)).mono ?_
    rintro e w3 ⟨rfl, hb3⟩
    have hB3 := hb2.trans (hb3.mono hb2.size)
    have H4 := own_below H hB3
    have hk2 : ¬ (k + 1 + 1 + 5 * (L.length : Int) + 1 + 1 + 1 + 1 + 1 + 1 + 1) < 0 := by omega
    have d11 := H4.cellAt 11 (by omega)
    simp only [List.getElem?_cons_zero, List.getElem?_cons_succ] at d11
    clear c_3 c_4 c_5 c_6 c_7 c_8 c_9 c_10 c_11 m0 m1 m2 m3 m4 m5 m6 hb3 H4 hb2
    go_wp2_with fail
    refine (heldstrs_nil _ _ (by omega) (by omega)).mono ?_
    rintro e w4 ⟨rfl, hb4⟩
    have hB4 := hB3.trans (hb4.mono hB3.size)
    clear hb4 hB3 d11
    go_wp2
    rw [rounds_succ]
    go_wp2
    go_ret
    exact ⟨rfl, hB4⟩
end Go.Proofs.YtbhfooafhbfniaaGreatDoor
