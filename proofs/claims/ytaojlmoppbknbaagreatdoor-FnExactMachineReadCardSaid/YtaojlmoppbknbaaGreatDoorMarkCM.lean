/-
  Texts that stood by themselves, laid into one.
-/
import Derived.Test.YtaojlmoppbknbaaGreatDoorITdM
import Derived.Test.YtaojlmoppbknbaaGreatDoorLMakeM
import Derived.Test.YtaojlmoppbknbaaGreatDoorDefOfM
import Derived.Test.YtaojlmoppbknbaaGreatDoorSList2M
import Derived.Test.YtaojlmoppbknbaaGreatDoorMark2M
/-
  A machine's variable (VarM), and the contracts of the laws' helpers markMachine and heldMachine. No condition.
-/
namespace Go.Proofs.YtaojlmoppbknbaaGreatDoor
open Go.RowKit

theorem stepD8 {w2 w3 : World} (h : Below w2.drew.heap.size w2.drew w3) : Below w2.heap.size w2 w3 := (Below.refl _ _).drew.trans h
/-- What a machine's variable holds: at block b, a machine whose row of nodes lies between lo and hi and reads as xs. -/
def VarM (w : World) (b lo hi : Nat) (v : Value) (xs : List Nd) (m : Mc) : Prop :=
  w.heap[b]? = some (.cells #[v, .int .i64 m.p, .int .i64 m.s, .int .i64 m.e, .int .i64 m.d, .int .i64 m.t, .int .i64 m.q, .int .i64 m.r] 34 (0, 0)) ∧ w.ownsRow lo 86 5 v xs.length (ncs xs) ∧ (∀ k, v.ownBlock = some k → k < hi) ∧ hi ≤ w.heap.size
theorem VarM.new {w5 we : World} {lo : Nat} {v : Value} {xs : List Nd} {m : Mc} (ho : w5.ownsRow lo 86 5 v xs.length (ncs xs)) (hd : Below w5.heap.size w5 we) (hb : we.heap[w5.heap.size]? = some (.cells #[v, .int .i64 m.p, .int .i64 m.s, .int .i64 m.e, .int .i64 m.d, .int .i64 m.t, .int .i64 m.q, .int .i64 m.r] 34 (0, 0))) :
    VarM we w5.heap.size lo we.heap.size v xs m := ⟨hb, own_below ho hd, fun k hk => ((own_below ho hd).lt k hk).2, Nat.le_refl _⟩
theorem VarM.below {w w' : World} {b lo hi : Nat} {v : Value} {xs : List Nd} {m : Mc} (h : VarM w b lo hi v xs m) (hb : Below w.heap.size w w') : VarM w' b lo hi v xs m :=
  ⟨(hb.block b (Array.getElem?_eq_some_iff.1 h.1).1).trans h.1, own_below h.2.1 hb, h.2.2.1, Nat.le_trans h.2.2.2 hb.size⟩
theorem VarM.row {w : World} {b lo hi : Nat} {v : Value} {xs : List Nd} {m : Mc} (h : VarM w b lo hi v xs m) (hm : xs.length ≤ 4194304) (hz : ∀ x ∈ xs, x.s.size ≤ maxLen) : NRow w v xs := NRow.of_own h.2.1 (by omega) hz
theorem VarM.lt {w : World} {b lo hi : Nat} {v : Value} {xs : List Nd} {m : Mc} (h : VarM w b lo hi v xs m) : b < w.heap.size := (Array.getElem?_eq_some_iff.1 h.1).1
theorem VarM.kept {w w' : World} {b lo hi lo' hi' b' : Nat} {v v' : Value} {xs xs' : List Nd} {m m' : Mc} (h : VarM w b lo hi v xs m) (h' : VarM w b' lo' hi' v' xs' m') (hg : w.grownBy w' v'.ownBlock) (hd : hi ≤ lo' ∨ hi' ≤ lo) : VarM w' b lo hi v xs m := by
  have hne : v'.ownBlock ≠ some b := own_ne h'.2.1 h.1 (by decide)
  refine ⟨(hg.block b h.lt (fun e => hne e.symm)).trans h.1, h.2.1.kept hg ?_, h.2.2.1, Nat.le_trans h.2.2.2 hg.size⟩
  cases hv : v.ownBlock with
  | none => exact Or.inl rfl
  | some k =>
    refine Or.inr fun e => ?_
    have k1 := h.2.2.1 k hv
    have k2 := (h.2.1.lt k hv).1
    have k3 := h'.2.2.1 k e.symm
    have k4 := (h'.2.1.lt k e.symm).1
    omega
theorem VarM.marked {w w' : World} {b lo hi : Nat} {v : Value} {xs ys : List Nd} {m : Mc} (h : VarM w b lo hi v xs m) (hg : w.grownBy w' v.ownBlock) (ho : w'.ownsRow lo 86 5 v ys.length (ncs ys)) : VarM w' b lo hi v ys m :=
  ⟨(hg.block b h.lt (fun e => own_ne h.2.1 h.1 (by decide) e.symm)).trans h.1, ho, h.2.2.1, Nat.le_trans h.2.2.2 hg.size⟩
theorem VarM.block {w w' : World} {b lo hi : Nat} {v : Value} {xs : List Nd} {m : Mc} (h : VarM w b lo hi v xs m) (hg : w.grownBy w' v.ownBlock) {j : Nat} {c : Array Value} {t : TypeId} (hj : w.heap[j]? = some (.cells c t (0, 0))) (hte : t ≠ 86) : w'.heap[j]? = some (.cells c t (0, 0)) :=
  (hg.block j (Array.getElem?_eq_some_iff.1 hj).1 (fun e => own_ne h.2.1 hj hte e.symm)).trans hj
theorem below_markM {w w' : World} {B b lo hi : Nat} {v : Value} {xs : List Nd} {m : Mc} {w0 : World} (h0 : Below B w0 w) (h : VarM w b lo hi v xs m) (hg : w.grownBy w' v.ownBlock) (hlo : B ≤ lo) (hB : B ≤ w.heap.size) : Below B w0 w' :=
  h0.grown hg hB (fun k hk => Nat.le_trans hlo (h.2.1.lt k hk).1)

set_option maxHeartbeats 400000 in
theorem markmach_any (v : Value) (k : Int) (base : Nat) (xs : List Nd) (m : Mc) (w : World) (h : w.ownsRow base 86 5 v xs.length (ncs xs)) (hm : xs.length ≤ 4194304) (hk0 : 0 ≤ k) (hk : k ≤ 2305843009213693952) :
    Calls Tryz.prog 11 #[.agg #[v, .int .i64 m.p, .int .i64 m.s, .int .i64 m.e, .int .i64 m.d, .int .i64 m.t, .int .i64 m.q, .int .i64 m.r], .int .i64 k] w fun e w' => e = .returned (.int .i64 (k + 5 * xs.length)) ∧ w'.ownsRow base 86 5 v xs.length (ncs (nmarked k xs xs.length)) ∧ w.grownBy w' v.ownBlock := by
  obtain ⟨ao, cap, rfl⟩ := own_form h
  go_enter Tryz.func11, Tryz.ntmps11
  go_wp2_with fail
  refine (markpool_any _ k base xs _ (h.alloc _) hm hk0 hk).mono ?_
  rintro e w2 ⟨rfl, ho2, hb2⟩
  have hB2 := (World.grownBy_alloc w (Obj.cells #[.slice ao xs.length cap, .int .i64 m.p, .int .i64 m.s, .int .i64 m.e, .int .i64 m.d, .int .i64 m.t, .int .i64 m.q, .int .i64 m.r] 34) (Value.slice ao xs.length cap).ownBlock).trans hb2
  clear hb2
  go_wp2
  go_ret
  exact ⟨rfl, ho2, hB2⟩

set_option maxHeartbeats 400000 in
theorem heldmach_any (v : Value) (k : Int) (xs : List Nd) (m : Mc) (w : World) (R : NRow w v (nmarked k xs xs.length)) (hm : xs.length ≤ 4194304) (hk0 : 0 ≤ k) (hk : k ≤ 2305843009213693952) :
    Calls Tryz.prog 12 #[.agg #[v, .int .i64 m.p, .int .i64 m.s, .int .i64 m.e, .int .i64 m.d, .int .i64 m.t, .int .i64 m.q, .int .i64 m.r], .int .i64 k] w fun e w' => e = .returned (.int .i64 (k + 5 * xs.length)) ∧ Below w.heap.size w w' := by
  have R' := R
  obtain ⟨ao, cap, rfl, _⟩ := R'
  rw [nmarked_length _ _ _ (Nat.le_refl _)] at R ⊢
  go_enter Tryz.func12, Tryz.ntmps12
  go_wp2_with fail
  have hbel : Below w.heap.size w (w.alloc (Obj.cells #[.slice ao xs.length cap, .int .i64 m.p, .int .i64 m.s, .int .i64 m.e, .int .i64 m.d, .int .i64 m.t, .int .i64 m.q, .int .i64 m.r] 34)) := (Below.refl _ _).alloc (Nat.le_refl _) _
  refine (heldpool_any _ k xs _ (R.below hbel) hm hk0 hk).mono ?_
  rintro e w2 ⟨rfl, hb2⟩
  have hB2 := hbel.trans (hb2.mono hbel.size)
  clear hb2 hbel
  have hpos : ¬ (k + 5 * (xs.length : Int)) < 0 := by omega
  go_wp2
  go_ret
  exact ⟨rfl, hB2⟩


/-- What another block's turning leaves. -/
theorem VarM.keptBy {w w' : World} {b lo hi : Nat} {v : Value} {xs : List Nd} {m : Mc} {o : Option Nat} (h : VarM w b lo hi v xs m) (hg : w.grownBy w' o) (hb : ∀ k, o = some k → k ≠ b ∧ (k < lo ∨ hi ≤ k)) : VarM w' b lo hi v xs m := by
  refine ⟨(hg.block b h.lt (fun e => (hb b e.symm).1 rfl)).trans h.1, h.2.1.kept hg ?_, h.2.2.1, Nat.le_trans h.2.2.2 hg.size⟩
  cases hv : v.ownBlock with
  | none => exact Or.inl rfl
  | some k =>
    refine Or.inr fun e => ?_
    have k1 := h.2.2.1 k hv
    have k2 := (h.2.1.lt k hv).1
    have k3 := (hb k e.symm).2
    omega
end Go.Proofs.YtaojlmoppbknbaaGreatDoor

/-
  Contracts of the laws' helpers markInstrS, markDefS, markCode: what is marked is turned, and nothing else. No condition.
-/
namespace Go.Proofs.YtaojlmoppbknbaaGreatDoor
open Go.RowKit

set_option maxHeartbeats 1600000 in
theorem markinstrs_any (v : Value) (k : Int) (base n : Nat) (cs : List Value) (w : World) (h : w.ownsRow base 96 4 v n cs) (hl : cs.length = n * 4) (hm : n ≤ 4194304) (hk0 : 0 ≤ k) (hk : k ≤ 2305843009213693952) :
    Calls Tryz.prog 29 #[v, .int .i64 k] w fun e w' => e = .returned (.int .i64 (k + 4 * n)) ∧ w.grownBy w' v.ownBlock := by
  rcases h.2 with ⟨rfl, h0⟩ | ⟨g, cap, cur, rfl, hb, hg, hnc, hcm, hcs, htake⟩
  · subst h0
    go_enter Tryz.func29, Tryz.ntmps29
    go_wp2
    refine wp_loop_rounds 1 ?_
    rw [rounds_succ]
    go_wp2
    go_ret
    exact ⟨by simp, World.grownBy.refl _ _⟩
  · clear hg hcs htake
    go_enter Tryz.func29, Tryz.ntmps29
    go_wp2
    go_loopw [1, 5] (fun q i wr => ∃ (j : Nat) (cs : List Value), j ≤ n ∧ i = .int .i64 j ∧ q = .int .i64 (k + 4 * (j : Int)) ∧ cs.length = n * 4 ∧ wr.ownsRow base 96 4 (.slice (some ⟨g, 0, none⟩) n cap) n cs ∧ w.grownBy wr (some g)) (fun _ i _ => n - (intOf i).toNat)
    case atStart => exact ⟨0, cs, by omega, rfl, by simp, hl, h, World.grownBy.refl _ _⟩
    case round =>
      clear hl h
      obtain ⟨j, cs, hj, rfl, rfl, hl, hown, hbel⟩ := hrel
      by_cases hlt : j < n
      · have hgs : g < wr.heap.size := (hown.lt g rfl).2
        have hcell : ∀ i, i < 4 → ∃ u, (wr.cell? ⟨g, j * 4 + i, none⟩) = some u := fun i hi => ⟨_, (hown.cellAt (j * 4 + i) (by omega)).trans (List.getElem?_eq_getElem (by omega))⟩
        obtain ⟨u0, c0⟩ := hcell 0 (by omega)
        obtain ⟨u1, c1⟩ := hcell 1 (by omega)
        obtain ⟨u2, c2⟩ := hcell 2 (by omega)
        simp only [Nat.add_zero] at c0
        have f0 := hown.frozenAt (j * 4)
        have f1 := hown.frozenAt (j * 4 + 1)
        have f2 := hown.frozenAt (j * 4 + 2)
        have s0 := hown.stored (j * 4) (.int .i64 (k + 4 * (j : Int)))
        have s1 := s0.1.stored (j * 4 + 1) (.int .i64 (k + 4 * (j : Int) + 1))
        have s2 := s1.1.stored (j * 4 + 2) (.int .i64 (k + 4 * (j : Int) + 1 + 1))
        have hB1 := ((hbel.trans s0.2).trans s1.2).trans s2.2
        clear hcell
        go_wp2_with fail
        refine (marktext_any _ _ (by omega)).mono ?_
        rintro e w2 ⟨rfl, hb2⟩
        have hown2 := own_below s2.1 hb2
        have hB2 := hB1.trans (grown_below2 hb2 (some g))
        obtain ⟨u3, d3⟩ : ∃ u, (w2.cell? ⟨g, j * 4 + 3, none⟩) = some u := ⟨_, (hown2.cellAt (j * 4 + 3) (by omega)).trans (List.getElem?_eq_getElem (by simp; omega))⟩
        have e3 := hown2.frozenAt (j * 4 + 3)
        have s3 := hown2.stored (j * 4 + 3) (.string (mt (k + 4 * (j : Int) + 1 + 1 + 1)))
        have hB4 := hB2.trans s3.2
        have S4 := s3.1
        clear s0 s1 s2 s3 hown hown2 c0 c1 c2 f0 f1 f2 hb2 hB1 hB2 hbel
        go_wp2
        go_roundw
        case rel => exact ⟨j + 1, _, by omega, by go_num, by go_num, by simp [hl], S4, hB4⟩
        case measure => simp [intOf]; omega
      · go_wp2
        go_ret
        have : j = n := by omega
        subst this
        exact ⟨rfl, hbel⟩

set_option maxHeartbeats 1600000 in
theorem markdefs_any (v : Value) (k : Int) (base n : Nat) (cs : List Value) (w : World) (h : w.ownsRow base 98 3 v n cs) (hl : cs.length = n * 3) (hm : n ≤ 4194304) (hk0 : 0 ≤ k) (hk : k ≤ 2305843009213693952) :
    Calls Tryz.prog 30 #[v, .int .i64 k] w fun e w' => e = .returned (.int .i64 (k + 3 * n)) ∧ w.grownBy w' v.ownBlock := by
  rcases h.2 with ⟨rfl, h0⟩ | ⟨g, cap, cur, rfl, hb, hg, hnc, hcm, hcs, htake⟩
  · subst h0
    go_enter Tryz.func30, Tryz.ntmps30
    go_wp2
    refine wp_loop_rounds 1 ?_
    rw [rounds_succ]
    go_wp2
    go_ret
    exact ⟨by simp, World.grownBy.refl _ _⟩
  · clear hg hcs htake
    go_enter Tryz.func30, Tryz.ntmps30
    go_wp2
    go_loopw [1, 5] (fun q i wr => ∃ (j : Nat) (cs : List Value), j ≤ n ∧ i = .int .i64 j ∧ q = .int .i64 (k + 3 * (j : Int)) ∧ cs.length = n * 3 ∧ wr.ownsRow base 98 3 (.slice (some ⟨g, 0, none⟩) n cap) n cs ∧ w.grownBy wr (some g)) (fun _ i _ => n - (intOf i).toNat)
    case atStart => exact ⟨0, cs, by omega, rfl, by simp, hl, h, World.grownBy.refl _ _⟩
    case round =>
      clear hl h
      obtain ⟨j, cs, hj, rfl, rfl, hl, hown, hbel⟩ := hrel
      by_cases hlt : j < n
      · have hgs : g < wr.heap.size := (hown.lt g rfl).2
        go_wp2_with fail
        refine (marktext_any _ _ (by omega)).mono ?_
        rintro e w2 ⟨rfl, hb2⟩
        have hown2 := own_below hown hb2
        have hB2 := hbel.trans (grown_below2 hb2 (some g))
        have hcell : ∀ i, i < 3 → ∃ u, (w2.cell? ⟨g, j * 3 + i, none⟩) = some u := fun i hi => ⟨_, (hown2.cellAt (j * 3 + i) (by omega)).trans (List.getElem?_eq_getElem (by omega))⟩
        obtain ⟨u0, c0⟩ := hcell 0 (by omega)
        obtain ⟨u1, c1⟩ := hcell 1 (by omega)
        obtain ⟨u2, c2⟩ := hcell 2 (by omega)
        simp only [Nat.add_zero] at c0
        have f0 := hown2.frozenAt (j * 3)
        have f1 := hown2.frozenAt (j * 3 + 1)
        have f2 := hown2.frozenAt (j * 3 + 2)
        have s0 := hown2.stored (j * 3) (.string (mt (k + 3 * (j : Int))))
        have s1 := s0.1.stored (j * 3 + 1) (.int .i64 (k + 3 * (j : Int) + 1))
        have s2 := s1.1.stored (j * 3 + 2) (.int .i64 (k + 3 * (j : Int) + 1 + 1))
        have hB4 := ((hB2.trans s0.2).trans s1.2).trans s2.2
        have S4 := s2.1
        clear hcell s0 s1 s2 hown hown2 hb2 hB2 hbel
        go_wp2
        go_roundw
        case rel => exact ⟨j + 1, _, by omega, by go_num, by go_num, by simp [hl], S4, hB4⟩
        case measure => simp [intOf]; omega
      · go_wp2
        go_ret
        have : j = n := by omega
        subst this
        exact ⟨rfl, hbel⟩

set_option maxHeartbeats 800000 in
theorem markcode_any (v1 v2 v3 : Value) (k : Int) (base : Nat) (ns : List Nd) (is : List In) (ds : List Df) (w : World) (h1 : w.ownsRow base 86 5 v1 ns.length (ncs ns)) (h2 : w.ownsRow base 96 4 v2 is.length (incs is)) (h3 : w.ownsRow base 98 3 v3 ds.length (dfcs ds)) (l1 : ns.length ≤ 4194304) (l2 : is.length ≤ 4194304) (l3 : ds.length ≤ 4194304) (hk0 : 0 ≤ k) (hk : k ≤ 1152921504606846976) :
    Calls Tryz.prog 10 #[.agg #[v1, v2, v3], .int .i64 k] w fun e w' => (∃ r : Int, e = .returned (.int .i64 r) ∧ k ≤ r ∧ r ≤ k + 67108864) ∧ ∃ wa wb, w.grownBy wa v1.ownBlock ∧ wa.grownBy wb v2.ownBlock ∧ wb.grownBy w' v3.ownBlock := by
  obtain ⟨a1, c1, rfl⟩ := own_form h1
  obtain ⟨a2, c2, rfl⟩ := own_form h2
  obtain ⟨a3, c3, rfl⟩ := own_form h3
  go_enter Tryz.func10, Tryz.ntmps10
  go_wp2_with fail
  have hx0 : (w.alloc (Obj.cells #[.slice a1 ns.length c1, .slice a2 is.length c2, .slice a3 ds.length c3] 40)).heap[w.heap.size]? = some (Obj.cells #[.slice a1 ns.length c1, .slice a2 is.length c2, .slice a3 ds.length c3] 40) := heap_alloc_new _ _
  have o2 := h2.alloc (Obj.cells #[.slice a1 ns.length c1, .slice a2 is.length c2, .slice a3 ds.length c3] 40)
  have o3 := h3.alloc (Obj.cells #[.slice a1 ns.length c1, .slice a2 is.length c2, .slice a3 ds.length c3] 40)
  have o1 := h1.alloc (Obj.cells #[.slice a1 ns.length c1, .slice a2 is.length c2, .slice a3 ds.length c3] 40)
  refine (markpool_any _ k base ns _ o1 l1 hk0 (by omega)).mono ?_
  rintro e wa ⟨rfl, _, ga⟩
  have hxa := (ga.block _ (Array.getElem?_eq_some_iff.1 hx0).1 (fun e => own_ne o1 hx0 (by decide) e.symm)).trans hx0
  have Ga := (World.grownBy_alloc w (Obj.cells #[.slice a1 ns.length c1, .slice a2 is.length c2, .slice a3 ds.length c3] 40) (Value.slice a1 ns.length c1).ownBlock).trans ga
  have p2 := o2.kept ga (own_apart o2 o1 (by decide))
  have p3 := o3.kept ga (own_apart o3 o1 (by decide))
  clear o1 o2 o3 ga hx0 h1 h2 h3
  have e1 : wa.cell? ⟨w.heap.size, 0 + 1, none⟩ = some (.slice a2 is.length c2) := cell_of_row wa _ 1 _ _ _ hxa
  go_wp2_with fail
  refine (markinstrs_any _ (k + 5 * ns.length) base is.length _ _ p2 (incs_length is) l2 (by omega) (by omega)).mono ?_
  rintro e wb ⟨rfl, gb⟩
  have hxb := (gb.block _ (Array.getElem?_eq_some_iff.1 hxa).1 (fun e => own_ne p2 hxa (by decide) e.symm)).trans hxa
  have q3 := p3.kept gb (own_apart p3 p2 (by decide))
  clear p2 p3 hxa e1
  have e2 : wb.cell? ⟨w.heap.size, 0 + 2, none⟩ = some (.slice a3 ds.length c3) := cell_of_row wb _ 2 _ _ _ hxb
  go_wp2_with fail
  refine (markdefs_any _ (k + 5 * ns.length + 4 * is.length) base ds.length _ _ q3 (dfcs_length ds) l3 (by omega) (by omega)).mono ?_
  rintro e wc ⟨rfl, gc⟩
  clear q3 hxb e2
  go_wp2
  go_ret
  exact ⟨⟨_, rfl, by omega, by omega⟩, wa, wb, Ga, gb, gc⟩
end Go.Proofs.YtaojlmoppbknbaaGreatDoor
