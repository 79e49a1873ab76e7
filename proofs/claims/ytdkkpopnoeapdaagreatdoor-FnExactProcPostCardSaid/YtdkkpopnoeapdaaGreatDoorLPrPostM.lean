/-
  Texts that stood by themselves, laid into one.
-/
import Derived.Test.YtdkkpopnoeapdaaGreatDoorDefOfM
import Derived.Test.YtdkkpopnoeapdaaGreatDoorSList2M
import Derived.Test.YtdkkpopnoeapdaaGreatDoorMark2M
import Derived.Test.YtdkkpopnoeapdaaGreatDoorLPrPostRM
/-
  Contracts of the laws' helpers markInstrS, markDefS, markCode: what is marked is turned, and nothing else. No condition.
-/
namespace Go.Proofs.YtdkkpopnoeapdaaGreatDoor
open Go.RowKit

set_option maxHeartbeats 1600000 in
theorem markinstrs_any (v : Value) (k : Int) (base n : Nat) (cs : List Value) (w : World) (h : w.ownsRow base 107 4 v n cs) (hl : cs.length = n * 4) (hm : n ≤ 4194304) (hk0 : 0 ≤ k) (hk : k ≤ 2305843009213693952) :
    Calls Tryz.prog 46 #[v, .int .i64 k] w fun e w' => e = .returned (.int .i64 (k + 4 * n)) ∧ w.grownBy w' v.ownBlock := by
  rcases h.2 with ⟨rfl, h0⟩ | ⟨g, cap, cur, rfl, hb, hg, hnc, hcm, hcs, htake⟩
  · subst h0
    go_enter Tryz.func46, Tryz.ntmps46
    go_wp2
    refine wp_loop_rounds 1 ?_
    rw [rounds_succ]
    go_wp2
    go_ret
    exact ⟨by simp, World.grownBy.refl _ _⟩
  · clear hg hcs htake
    go_enter Tryz.func46, Tryz.ntmps46
    go_wp2
    go_loopw [1, 5] (fun q i wr => ∃ (j : Nat) (cs : List Value), j ≤ n ∧ i = .int .i64 j ∧ q = .int .i64 (k + 4 * (j : Int)) ∧ cs.length = n * 4 ∧ wr.ownsRow base 107 4 (.slice (some ⟨g, 0, none⟩) n cap) n cs ∧ w.grownBy wr (some g)) (fun _ i _ => n - (intOf i).toNat)
    case atStart => exact ⟨0, cs, by omega, rfl, by simp, hl, h, World.grownBy.refl _ _⟩
    case round =>
      clear hl h
      obtain ⟨j, cs, hj, rfl, rfl, hl, hown, hbel⟩ := hrel
      by_cases hlt : j < n
      · have hgs : g < wr.heap.size := (hown.lt g rfl).2
        have hcell : ∀ i, i < 4 → ∃ u, (wr.cell? ⟨g, j * 4 + i, none⟩) = some u := fun i hi => ⟨_, (hown.cellAt (j * 4 + i) (by omega)).trans (List.getElem?_eq_getElem (by omega))⟩
        obtain ⟨u0, c0⟩ := hcell 0 (by omega)
        obtain ⟨u1, c1⟩ := hcell 1 (by omega)
        obtain ⟨u2, c2⟩ := hcell 2 (by omega)
        simp only [Nat.add_zero] at c0
        have f0 := hown.frozenAt (j * 4)
        have f1 := hown.frozenAt (j * 4 + 1)
        have f2 := hown.frozenAt (j * 4 + 2)
        have s0 := hown.stored (j * 4) (.int .i64 (k + 4 * (j : Int)))
        have s1 := s0.1.stored (j * 4 + 1) (.int .i64 (k + 4 * (j : Int) + 1))
        have s2 := s1.1.stored (j * 4 + 2) (.int .i64 (k + 4 * (j : Int) + 1 + 1))
        have hB1 := ((hbel.trans s0.2).trans s1.2).trans s2.2
        clear hcell
        go_wp2_with fail
        refine (marktext_any _ _ (by omega)).mono ?_
        rintro e w2 ⟨rfl, hb2⟩
        have hown2 := own_below s2.1 hb2
        have hB2 := hB1.trans (grown_below2 hb2 (some g))
        obtain ⟨u3, d3⟩ : ∃ u, (w2.cell? ⟨g, j * 4 + 3, none⟩) = some u := ⟨_, (hown2.cellAt (j * 4 + 3) (by omega)).trans (List.getElem?_eq_getElem (by simp; omega))⟩
        have e3 := hown2.frozenAt (j * 4 + 3)
        have s3 := hown2.stored (j * 4 + 3) (.string (mt (k + 4 * (j : Int) + 1 + 1 + 1)))
        have hB4 := hB2.trans s3.2
        have S4 := s3.1
        clear s0 s1 s2 s3 hown hown2 c0 c1 c2 f0 f1 f2 hb2 hB1 hB2 hbel
        go_wp2
        go_roundw
        case rel => exact ⟨j + 1, _, by omega, by go_num, by go_num, by simp [hl], S4, hB4⟩
        case measure => simp [intOf]; omega
      · go_wp2
        go_ret
        have : j = n := by omega
        subst this
        exact ⟨rfl, hbel⟩

set_option maxHeartbeats 1600000 in
theorem markdefs_any (v : Value) (k : Int) (base n : Nat) (cs : List Value) (w : World) (h : w.ownsRow base 109 3 v n cs) (hl : cs.length = n * 3) (hm : n ≤ 4194304) (hk0 : 0 ≤ k) (hk : k ≤ 2305843009213693952) :
    Calls Tryz.prog 47 #[v, .int .i64 k] w fun e w' => e = .returned (.int .i64 (k + 3 * n)) ∧ w.grownBy w' v.ownBlock := by
  rcases h.2 with ⟨rfl, h0⟩ | ⟨g, cap, cur, rfl, hb, hg, hnc, hcm, hcs, htake⟩
  · subst h0
    go_enter Tryz.func47, Tryz.ntmps47
    go_wp2
    refine wp_loop_rounds 1 ?_
    rw [rounds_succ]
    go_wp2
    go_ret
    exact ⟨by simp, World.grownBy.refl _ _⟩
  · clear hg hcs htake
    go_enter Tryz.func47, Tryz.ntmps47
    go_wp2
    go_loopw [1, 5] (fun q i wr => ∃ (j : Nat) (cs : List Value), j ≤ n ∧ i = .int .i64 j ∧ q = .int .i64 (k + 3 * (j : Int)) ∧ cs.length = n * 3 ∧ wr.ownsRow base 109 3 (.slice (some ⟨g, 0, none⟩) n cap) n cs ∧ w.grownBy wr (some g)) (fun _ i _ => n - (intOf i).toNat)
    case atStart => exact ⟨0, cs, by omega, rfl, by simp, hl, h, World.grownBy.refl _ _⟩
    case round =>
      clear hl h
      obtain ⟨j, cs, hj, rfl, rfl, hl, hown, hbel⟩ := hrel
      by_cases hlt : j < n
      · have hgs : g < wr.heap.size := (hown.lt g rfl).2
        go_wp2_with fail
        refine (marktext_any _ _ (by omega)).mono ?_
        rintro e w2 ⟨rfl, hb2⟩
        have hown2 := own_below hown hb2
        have hB2 := hbel.trans (grown_below2 hb2 (some g))
        have hcell : ∀ i, i < 3 → ∃ u, (w2.cell? ⟨g, j * 3 + i, none⟩) = some u := fun i hi => ⟨_, (hown2.cellAt (j * 3 + i) (by omega)).trans (List.getElem?_eq_getElem (by omega))⟩
        obtain ⟨u0, c0⟩ := hcell 0 (by omega)
        obtain ⟨u1, c1⟩ := hcell 1 (by omega)
        obtain ⟨u2, c2⟩ := hcell 2 (by omega)
        simp only [Nat.add_zero] at c0
        have f0 := hown2.frozenAt (j * 3)
        have f1 := hown2.frozenAt (j * 3 + 1)
        have f2 := hown2.frozenAt (j * 3 + 2)
        have s0 := hown2.stored (j * 3) (.string (mt (k + 3 * (j : Int))))
        have s1 := s0.1.stored (j * 3 + 1) (.int .i64 (k + 3 * (j : Int) + 1))
        have s2 := s1.1.stored (j * 3 + 2) (.int .i64 (k + 3 * (j : Int) + 1 + 1))
        have hB4 := ((hB2.trans s0.2).trans s1.2).trans s2.2
        have S4 := s2.1
        clear hcell s0 s1 s2 hown hown2 hb2 hB2 hbel
        go_wp2
        go_roundw
        case rel => exact ⟨j + 1, _, by omega, by go_num, by go_num, by simp [hl], S4, hB4⟩
        case measure => simp [intOf]; omega
      · go_wp2
        go_ret
        have : j = n := by omega
        subst this
        exact ⟨rfl, hbel⟩

set_option maxHeartbeats 800000 in
theorem markcode_any (v1 v2 v3 : Value) (k : Int) (base : Nat) (ns : List Nd) (is : List In) (ds : List Df) (w : World) (h1 : w.ownsRow base 119 5 v1 ns.length (ncs ns)) (h2 : w.ownsRow base 107 4 v2 is.length (incs is)) (h3 : w.ownsRow base 109 3 v3 ds.length (dfcs ds)) (l1 : ns.length ≤ 4194304) (l2 : is.length ≤ 4194304) (l3 : ds.length ≤ 4194304) (hk0 : 0 ≤ k) (hk : k ≤ 1152921504606846976) :
    Calls Tryz.prog 16 #[.agg #[v1, v2, v3], .int .i64 k] w fun e w' => (∃ r : Int, e = .returned (.int .i64 r) ∧ k ≤ r ∧ r ≤ k + 67108864) ∧ ∃ wa wb, w.grownBy wa v1.ownBlock ∧ wa.grownBy wb v2.ownBlock ∧ wb.grownBy w' v3.ownBlock := by
  obtain ⟨a1, c1, rfl⟩ := own_form h1
  obtain ⟨a2, c2, rfl⟩ := own_form h2
  obtain ⟨a3, c3, rfl⟩ := own_form h3
  go_enter Tryz.func16, Tryz.ntmps16
  go_wp2_with fail
  have hx0 : (w.alloc (Obj.cells #[.slice a1 ns.length c1, .slice a2 is.length c2, .slice a3 ds.length c3] 43)).heap[w.heap.size]? = some (Obj.cells #[.slice a1 ns.length c1, .slice a2 is.length c2, .slice a3 ds.length c3] 43) := heap_alloc_new _ _
  have o2 := h2.alloc (Obj.cells #[.slice a1 ns.length c1, .slice a2 is.length c2, .slice a3 ds.length c3] 43)
  have o3 := h3.alloc (Obj.cells #[.slice a1 ns.length c1, .slice a2 is.length c2, .slice a3 ds.length c3] 43)
  have o1 := h1.alloc (Obj.cells #[.slice a1 ns.length c1, .slice a2 is.length c2, .slice a3 ds.length c3] 43)
  refine (markpool_any _ k base ns _ o1 l1 hk0 (by omega)).mono ?_
  rintro e wa ⟨rfl, _, ga⟩
  have hxa := (ga.block _ (Array.getElem?_eq_some_iff.1 hx0).1 (fun e => own_ne o1 hx0 (by decide) e.symm)).trans hx0
  have Ga := (World.grownBy_alloc w (Obj.cells #[.slice a1 ns.length c1, .slice a2 is.length c2, .slice a3 ds.length c3] 43) (Value.slice a1 ns.length c1).ownBlock).trans ga
  have p2 := o2.kept ga (own_apart o2 o1 (by decide))
  have p3 := o3.kept ga (own_apart o3 o1 (by decide))
  clear o1 o2 o3 ga hx0 h1 h2 h3
  have e1 : wa.cell? ⟨w.heap.size, 0 + 1, none⟩ = some (.slice a2 is.length c2) := cell_of_row wa _ 1 _ _ _ hxa
  go_wp2_with fail
  refine (markinstrs_any _ (k + 5 * ns.length) base is.length _ _ p2 (incs_length is) l2 (by omega) (by omega)).mono ?_
  rintro e wb ⟨rfl, gb⟩
  have hxb := (gb.block _ (Array.getElem?_eq_some_iff.1 hxa).1 (fun e => own_ne p2 hxa (by decide) e.symm)).trans hxa
  have q3 := p3.kept gb (own_apart p3 p2 (by decide))
  clear p2 p3 hxa e1
  have e2 : wb.cell? ⟨w.heap.size, 0 + 2, none⟩ = some (.slice a3 ds.length c3) := cell_of_row wb _ 2 _ _ _ hxb
  go_wp2_with fail
  refine (markdefs_any _ (k + 5 * ns.length + 4 * is.length) base ds.length _ _ q3 (dfcs_length ds) l3 (by omega) (by omega)).mono ?_
  rintro e wc ⟨rfl, gc⟩
  clear q3 hxb e2
  go_wp2
  go_ret
  exact ⟨⟨_, rfl, by omega, by omega⟩, wa, wb, Ga, gb, gc⟩
end Go.Proofs.YtdkkpopnoeapdaaGreatDoor

/-
  The law FnExactProcPost, walked: at every argument it returns true. The variable errors.errorType reads as it is laid.
-/
namespace Go.Proofs.YtdkkpopnoeapdaaGreatDoor
open Go.RowKit

theorem pt_small {ns : List Nd} {is : List In} {ds : List Df} {i : Int} {xs : List Nd} {m : Mc} {bx ox : List ByteArray} {s : ByteArray} (l4 : xs.length ≤ 1048576) (l5 : bx.length ≤ 1048576) (l6 : ox.length ≤ 1048576) (hx : ∀ x ∈ xs, x.s.size ≤ maxLen) (hb : ∀ x ∈ bx, x.size ≤ maxLen) (ho : ∀ x ∈ ox, x.size ≤ maxLen) (hs : s.size ≤ maxLen) :
    ((ptR ns is ds i xs m bx ox s).xs.length ≤ 2000000 ∧ (ptR ns is ds i xs m bx ox s).bx.length ≤ 2000000 ∧ (ptR ns is ds i xs m bx ox s).ox.length ≤ 2000000) ∧ (∀ x ∈ (ptR ns is ds i xs m bx ox s).xs, x.s.size ≤ maxLen) ∧ (∀ x ∈ (ptR ns is ds i xs m bx ox s).bx, x.size ≤ maxLen) ∧ (∀ x ∈ (ptR ns is ds i xs m bx ox s).ox, x.size ≤ maxLen) := by
  unfold ptR
  split
  · split
    · refine ⟨⟨by simp only; omega, by simp only [List.length_append, List.length_cons, List.length_nil]; omega, by simp only; omega⟩, hx, fun x hm => ?_, ho⟩
      rcases List.mem_append.1 hm with h | h
      · exact hb x h
      · have : x = s := by simpa using h
        subst this
        exact hs
    · exact ⟨⟨by simp only; omega, by simp only; omega, by simp only; omega⟩, hx, hb, ho⟩
  · exact ⟨⟨by simp, by simp, by simp⟩, by simp, by simp, by simp⟩

set_option maxRecDepth 100000 in
set_option maxHeartbeats 32000000 in
theorem lprocpost_any (v1 v2 v3 v vb vo : Value) (ns : List Nd) (is : List In) (ds : List Df) (i : Int) (xs : List Nd) (m : Mc) (bx ox : List ByteArray) (s : ByteArray) (w : World) (R1 : NRow w v1 ns) (R2 : InRow w v2 is) (R3 : DfRow w v3 ds) (R : NRow w v xs) (Rb : StRow w vb bx) (Ro : StRow w vo ox) (hs : s.size ≤ maxLen) (hg : ErrT w) :
    Calls Tryz.prog 5 #[.agg #[v1, v2, v3], .agg #[.int .i64 i, v, .int .i64 m.p, .int .i64 m.s, .int .i64 m.e, .int .i64 m.d, .int .i64 m.t, .int .i64 m.q, .int .i64 m.r, vb, vo], .string s] w fun e w' => e = .returned (.bool true) ∧ Below w.heap.size w w' := by
  have hsM := hs
  unfold maxLen at hs
  have hzx := R.sz
  have hzb := Rb.sz
  have hzo := Ro.sz
  obtain ⟨ao, cap, rfl⟩ : ∃ ao cap, v = .slice ao xs.length cap := by obtain ⟨ao, cap, rfl, _⟩ := R; exact ⟨ao, cap, rfl⟩
  obtain ⟨a1, c1, rfl⟩ := R1.small
  obtain ⟨a2, c2, rfl⟩ := R2.small
  obtain ⟨a3, c3, rfl⟩ := R3.small
  obtain ⟨ab, cb, rfl⟩ := Rb.small
  obtain ⟨ac, cc, rfl⟩ := Ro.small
  obtain ⟨hB, hk, hx⟩ := two_boxes w (Obj.cells #[.slice a1 ns.length c1, .slice a2 is.length c2, .slice a3 ds.length c3] 28) (Obj.cells #[.int .i64 i, .slice ao xs.length cap, .int .i64 m.p, .int .i64 m.s, .int .i64 m.e, .int .i64 m.d, .int .i64 m.t, .int .i64 m.q, .int .i64 m.r, .slice ab bx.length cb, .slice ac ox.length cc] 33)
  by_cases hbig : 1048576 < s.size
  · go_enter Tryz.func5, Tryz.ntmps5
    go_wp2
    go_ret
    exact ⟨rfl, hB⟩
  go_enter Tryz.func5, Tryz.ntmps5
  go_wp2_with fail
  refine (szcode_any _ _ _ ns is ds _ (R1.below hB) (R2.below hB) (R3.below hB)).mono ?_
  rintro e w1 ⟨r, rfl, hr0, hr1, hr2, hb⟩
  replace hk := blk_bel hk hb
  replace hx := blk_bel hx hb
  replace hB := hB.trans (hb.mono hB.size)
  clear hb
  by_cases hr : r < 0
  · go_wp2
    go_ret
    exact ⟨rfl, hB⟩
  obtain ⟨l1, l2, l3⟩ := hr2 (by omega)
  clear hr2
  go_wp2_with (refine wpList_load_row rfl 33 _ rfl (w.heap.size + 1) rfl 33 #[.int .i64 i, .slice ao xs.length cap, .int .i64 m.p, .int .i64 m.s, .int .i64 m.e, .int .i64 m.d, .int .i64 m.t, .int .i64 m.q, .int .i64 m.r, .slice ab bx.length cb, .slice ac ox.length cc] (0, 0) _ hx Tryz.underlying33 rfl Tryz.sizeLProc ?_)
  refine (szproc_gen r (by omega) hr1 i _ _ _ xs m bx ox _ (R.below hB) (Rb.below hB) (Ro.below hB)).mono ?_
  rintro e w2 ⟨r2, rfl, hr20, hr21, hr22, hb⟩
  replace hk := blk_bel hk hb
  replace hx := blk_bel hx hb
  replace hB := hB.trans (hb.mono hB.size)
  clear hb
  by_cases hr2 : r2 < 0
  · go_wp2
    go_ret
    exact ⟨rfl, hB⟩
  obtain ⟨⟨l4, _⟩, ⟨l5, hb7⟩, l6, _⟩ := hr22 (by omega)
  clear hr22 hr20 hr21 hr0 hr1
  have hPT := pt_small (ns := ns) (is := is) (ds := ds) (i := i) (m := m) (s := s) l4 l5 l6 hzx hzb hzo hsM
  have IT := fun (v1 v2 v3 v vb vo : Value) (w' : World) (R1 : NRow w' v1 ns) (R2 : InRow w' v2 is) (R3 : DfRow w' v3 ds) (R : NRow w' v xs) (Rb : StRow w' vb bx) (Ro : StRow w' vo ox) (hb : Below w.heap.size w w') => iprocpost_any v1 v2 v3 v vb vo ns is ds i xs m bx ox s w' R1 R2 R3 R Rb Ro l4 l5 l6 hb7 (by omega) (hg.below hb (Nat.le_refl _))
  have ST := fun (v1 v2 v3 v vb vo : Value) (w' : World) (R1 : NRow w' v1 ns) (R2 : InRow w' v2 is) (R3 : DfRow w' v3 ds) (R : NRow w' v xs) (Rb : StRow w' vb bx) (Ro : StRow w' vo ox) => sprocpost_any v1 v2 v3 v vb vo ns is ds i xs m bx ox s w' R1 R2 R3 R Rb Ro l4 l5 l6 hb7 (by omega)
  generalize ptR ns is ds i xs m bx ox s = pr at *
  obtain ⟨I, X, M, BX, OX, bb'⟩ := pr
  obtain ⟨⟨hlX, hlB, hlO⟩, hzX, hzB, hzO⟩ := hPT
  simp only at hlX hlB hlO hzX hzB hzO
  unfold PtAns at IT ST
  simp only at IT ST
  have gX : X.length ≤ 2000000 := hlX
  have gB : BX.length ≤ 2000000 := hlB
  have gO : OX.length ≤ 2000000 := hlO
  replace hlX : X.length ≤ 4194304 := by omega
  replace hlB : BX.length ≤ 4194304 := by omega
  replace hlO : OX.length ≤ 4194304 := by omega
  have hlm := nmarked_length 1 X _ (Nat.le_refl _)
  have hbb' : (bb' != bb') = false := by simp
  have hlo2 : w.heap.size + 2 ≤ w2.heap.size := by have := blk_lt hx; omega
  go_wp2_with fail
  refine prpt_r10 w.heap.size (w.heap.size + 1) a1 a2 a3 ao ab ac c1 c2 c3 cap cb cc ns is ds i xs m bx ox s I X M BX OX bb' _ _ hk hx (R1.below hB) (R2.below hB) (R3.below hB) (R.below hB) (Rb.below hB) (Ro.below hB) (by omega) (by omega) (by omega) (by omega) (by omega) (by omega) hzx hzb hzo (fun x1 x2 x3 y yb yo W h1 h2 h3 h4 h5 h6 _ => ST x1 x2 x3 y yb yo W h1 h2 h3 h4 h5 h6) ?_
  intro _ _ _ _ _ _ _ _ _ b4 p1 p2 p3 pe1 pe2 pe3 w4 hlb4 hb hv4 O1 O2 O3 AP
  have V4 := VarPr.of hv4 O1 O2 O3 AP
  replace hk := blk_bel hk hb
  replace hx := blk_bel hx hb
  replace hB := hB.trans (hb.mono hB.size)
  have hlo4 : b4 < w4.heap.size := blk_lt hv4
  clear hb hv4 O1 O2 O3 AP ST
  generalize w2.heap.size = lo4 at *
  go_wp2_with (refine wpList_load_row rfl 28 _ rfl w.heap.size rfl 28 #[.slice a1 ns.length c1, .slice a2 is.length c2, .slice a3 ds.length c3] (0, 0) _ hk Tryz.underlying28 rfl Tryz.sizeLCode ?_)
  refine (tocode_own _ _ _ ns is ds _ (R1.below hB) (R2.below hB) (R3.below hB) (by omega) (by omega) (by omega)).mono ?_
  rintro e w5 ⟨u1, u2, u3, rfl, q1, q2, q3, hb⟩
  obtain ⟨b1, d1, rfl⟩ := own_form q1
  obtain ⟨b2, d2, rfl⟩ := own_form q2
  obtain ⟨b3, d3, rfl⟩ := own_form q3
  replace V4 := V4.below hb
  replace hk := blk_bel hk hb
  replace hx := blk_bel hx hb
  replace hB := hB.trans (hb.mono hB.size)
  have t1 : ∀ k, (Value.slice b1 ns.length d1).ownBlock = some k → w4.heap.size ≤ k ∧ k < w5.heap.size := fun k hk => q1.lt k hk
  have t2 : ∀ k, (Value.slice b2 is.length d2).ownBlock = some k → w4.heap.size ≤ k ∧ k < w5.heap.size := fun k hk => q2.lt k hk
  have t3 : ∀ k, (Value.slice b3 ds.length d3).ownBlock = some k → w4.heap.size ≤ k ∧ k < w5.heap.size := fun k hk => q3.lt k hk
  have hlo5 : w4.heap.size ≤ w5.heap.size := hb.size
  clear hb
  go_wp2_with (refine wpList_store_own rfl 43 _ _ rfl w5.heap.size #[.slice b1 ns.length d1, .slice b2 is.length d2, .slice b3 ds.length d3] rfl rfl 43 _ (heap_alloc_new _ _) Tryz.sizeCode rfl (by simp [Value.oneCell']) ?_)
  intro w6 hy hb6 hs6
  have hb : Below w5.heap.size w5 w6 := ((Below.refl _ _).alloc (Nat.le_refl _) _).trans hb6
  replace V4 := V4.below hb
  replace hk := blk_bel hk hb
  replace hx := blk_bel hx hb
  replace q1 := own_below q1 hb
  replace q2 := own_below q2 hb
  replace q3 := own_below q3 hb
  replace hB := hB.trans (hb.mono hB.size)
  have hlo6 : w5.heap.size < w6.heap.size := blk_lt hy
  clear hb hb6 hs6
  go_wp2_with (refine wpList_load_row rfl 33 _ rfl (w.heap.size + 1) rfl 33 #[.int .i64 i, .slice ao xs.length cap, .int .i64 m.p, .int .i64 m.s, .int .i64 m.e, .int .i64 m.d, .int .i64 m.t, .int .i64 m.q, .int .i64 m.r, .slice ab bx.length cb, .slice ac ox.length cc] (0, 0) _ hx Tryz.underlying33 rfl Tryz.sizeLProc ?_)
  refine (toproc_any i _ _ _ xs m bx ox _ (R.below hB) (Rb.below hB) (Ro.below hB) (by omega) (by omega) (by omega)).mono ?_
  rintro e w7 ⟨y1, y2, y3, rfl, P1, P2, P3, hap, hb⟩
  obtain ⟨bo, dap, rfl⟩ := own_form P1
  obtain ⟨bb, db, rfl⟩ := own_form P2
  obtain ⟨bc, dc, rfl⟩ := own_form P3
  replace V4 := V4.below hb
  replace hk := blk_bel hk hb
  replace hx := blk_bel hx hb
  replace hy := blk_bel hy hb
  replace q1 := own_below q1 hb
  replace q2 := own_below q2 hb
  replace q3 := own_below q3 hb
  replace hB := hB.trans (hb.mono hB.size)
  have hlo7 : w6.heap.size ≤ w7.heap.size := hb.size
  clear hb
  go_wp2_with (refine wpList_store_own rfl 48 _ _ rfl w7.heap.size #[.int .i64 i, .slice bo xs.length dap, .int .i64 m.p, .int .i64 m.s, .int .i64 m.e, .int .i64 m.d, .int .i64 m.t, .int .i64 m.q, .int .i64 m.r, .slice bb bx.length db, .slice bc ox.length dc] rfl rfl 48 _ (heap_alloc_new _ _) Tryz.sizeProc rfl (by simp [Value.oneCell']) ?_)
  intro w8 hv5 hb8 hs8
  have hb : Below w7.heap.size w7 w8 := ((Below.refl _ _).alloc (Nat.le_refl _) _).trans hb8
  have V5 := VarPr.of hv5 (own_below P1 hb) (own_below P2 hb) (own_below P3 hb) hap
  replace V4 := V4.below hb
  replace hk := blk_bel hk hb
  replace hx := blk_bel hx hb
  replace hy := blk_bel hy hb
  replace q1 := own_below q1 hb
  replace q2 := own_below q2 hb
  replace q3 := own_below q3 hb
  replace hB := hB.trans (hb.mono hB.size)
  have hlo8 : w7.heap.size < w8.heap.size := blk_lt hv5
  clear hb hb8 hs8 hv5 P1 P2 P3 hap
  generalize w7.heap.size = b5 at *
  go_wp2_with (first
    | (refine wpList_load_row rfl 43 _ rfl w5.heap.size rfl 43 #[.slice b1 ns.length d1, .slice b2 is.length d2, .slice b3 ds.length d3] (0, 0) _ hy Tryz.underlying43 rfl Tryz.sizeCode ?_)
    | (refine wpList_load_row rfl 48 _ rfl b5 rfl 48 #[.int .i64 i, .slice bo xs.length dap, .int .i64 m.p, .int .i64 m.s, .int .i64 m.e, .int .i64 m.d, .int .i64 m.t, .int .i64 m.q, .int .i64 m.r, .slice bb bx.length db, .slice bc ox.length dc] (0, 0) _ V5.blk Tryz.underlying48 rfl Tryz.sizeProc ?_))
  refine (IT _ _ _ _ _ _ _ (NRow.of_own q1 (by omega) R1.sz) (InRow.of_own q2 (by omega) R2.sz) (DfRow.of_own q3 (by omega) R3.sz) (V5.row (by omega) hzx) (V5.rowb (by omega) hzb) (V5.rowo (by omega) hzo) hB).mono ?_
  rintro e w9 ⟨⟨y1, y2, y3, rfl, P1, P2, P3, hap⟩, hb⟩
  obtain ⟨g1, ge1, rfl⟩ := own_form P1
  obtain ⟨g2, ge2, rfl⟩ := own_form P2
  obtain ⟨g3, ge3, rfl⟩ := own_form P3
  replace V4 := V4.below hb
  replace V5 := V5.below hb
  replace hk := blk_bel hk hb
  replace hx := blk_bel hx hb
  replace hy := blk_bel hy hb
  replace q1 := own_below q1 hb
  replace q2 := own_below q2 hb
  replace q3 := own_below q3 hb
  replace hB := hB.trans (hb.mono hB.size)
  have hlo9 : w8.heap.size ≤ w9.heap.size := hb.size
  clear hb
  go_wp2_with (refine wpList_store_own rfl 48 _ _ rfl w9.heap.size #[.int .i64 I, .slice g1 X.length ge1, .int .i64 M.p, .int .i64 M.s, .int .i64 M.e, .int .i64 M.d, .int .i64 M.t, .int .i64 M.q, .int .i64 M.r, .slice g2 BX.length ge2, .slice g3 OX.length ge3] rfl rfl 48 _ (heap_alloc_new _ _) Tryz.sizeProc rfl (by simp [Value.oneCell']) ?_)
  intro wA hv6 hbA hsA
  have hb : Below w9.heap.size w9 wA := ((Below.refl _ _).alloc (Nat.le_refl _) _).trans hbA
  have V6 := VarPr.of hv6 (own_below P1 hb) (own_below P2 hb) (own_below P3 hb) hap
  replace V4 := V4.below hb
  replace V5 := V5.below hb
  replace hk := blk_bel hk hb
  replace hx := blk_bel hx hb
  replace hy := blk_bel hy hb
  replace q1 := own_below q1 hb
  replace q2 := own_below q2 hb
  replace q3 := own_below q3 hb
  replace hB := hB.trans (hb.mono hB.size)
  have hloA : w9.heap.size < wA.heap.size := blk_lt hv6
  clear hb hbA hsA hv6 P1 P2 P3 hap
  generalize w9.heap.size = b6 at *
  go_wp2_with (first | (refine wpList_load_row rfl 48 _ rfl b6 rfl 48 #[.int .i64 I, .slice g1 X.length ge1, .int .i64 M.p, .int .i64 M.s, .int .i64 M.e, .int .i64 M.d, .int .i64 M.t, .int .i64 M.q, .int .i64 M.r, .slice g2 BX.length ge2, .slice g3 OX.length ge3] (0, 0) _ V6.blk Tryz.underlying48 rfl Tryz.sizeProc ?_) | (refine wpList_load_row rfl 48 _ rfl b4 rfl 48 #[.int .i64 I, .slice p1 X.length pe1, .int .i64 M.p, .int .i64 M.s, .int .i64 M.e, .int .i64 M.d, .int .i64 M.t, .int .i64 M.q, .int .i64 M.r, .slice p2 BX.length pe2, .slice p3 OX.length pe3] (0, 0) _ V4.blk Tryz.underlying48 rfl Tryz.sizeProc ?_))
  refine (eqproc_any I _ _ _ _ _ _ X M BX OX _ (V6.row hlX hzX) (V6.rowb hlB hzB) (V6.rowo hlO hzO) (V4.row hlX hzX) (V4.rowb hlB hzB) (V4.rowo hlO hzO)).mono ?_
  rintro e wC ⟨rfl, hb⟩
  replace V4 := V4.below hb
  replace V5 := V5.below hb
  replace V6 := V6.below hb
  replace hk := blk_bel hk hb
  replace hx := blk_bel hx hb
  replace hy := blk_bel hy hb
  replace q1 := own_below q1 hb
  replace q2 := own_below q2 hb
  replace q3 := own_below q3 hb
  replace hB := hB.trans (hb.mono hB.size)
  clear hb
  go_wp2_with fail
  refine prpt_r16 w5.heap.size w.heap.size b1 b2 b3 a1 a2 a3 d1 d2 d3 c1 c2 c3 ns is ds _ _ hy hk (NRow.of_own q1 (by omega) R1.sz) (InRow.of_own q2 (by omega) R2.sz) (DfRow.of_own q3 (by omega) R3.sz) (R1.below hB) (R2.below hB) (R3.below hB) (by omega) (by omega) (by omega) (fun _ _ _ _ wD hb => ?_)
  replace V4 := V4.below hb
  replace V5 := V5.below hb
  replace V6 := V6.below hb
  replace hk := blk_bel hk hb
  replace hx := blk_bel hx hb
  replace hy := blk_bel hy hb
  replace q1 := own_below q1 hb
  replace q2 := own_below q2 hb
  replace q3 := own_below q3 hb
  replace hB := hB.trans (hb.mono hB.size)
  clear hb
  go_wp2_with fail
  refine prpt_r18 b5 (w.heap.size + 1) bo bb bc ao ab ac dap db dc cap cb cc i xs m bx ox _ _ V5.blk hx (V5.row (by omega) hzx) (V5.rowb (by omega) hzb) (V5.rowo (by omega) hzo) (R.below hB) (Rb.below hB) (Ro.below hB) (by omega) (by omega) (by omega) hzx hzb hzo (fun _ _ _ _ wE hb => ?_)
  replace V4 := V4.below hb
  replace V5 := V5.below hb
  replace V6 := V6.below hb
  replace hk := blk_bel hk hb
  replace hx := blk_bel hx hb
  replace hy := blk_bel hy hb
  replace q1 := own_below q1 hb
  replace q2 := own_below q2 hb
  replace q3 := own_below q3 hb
  replace hB := hB.trans (hb.mono hB.size)
  clear hb
  go_wp2_with (refine wpList_load_row rfl 43 _ rfl w5.heap.size rfl 43 #[.slice b1 ns.length d1, .slice b2 is.length d2, .slice b3 ds.length d3] (0, 0) _ hy Tryz.underlying43 rfl Tryz.sizeCode ?_)
  refine (markcode_any _ _ _ 1 w4.heap.size ns is ds _ q1 q2 q3 (by omega) (by omega) (by omega) (by omega) (by omega)).mono ?_
  rintro e wF ⟨⟨rk, rfl, hrk0, hrk1⟩, wx, wy, gx, gy, gz⟩
  have j4 : ∀ k, w4.heap.size ≤ k ∧ k < w5.heap.size → k ≠ b4 ∧ (k < lo4 ∨ w4.heap.size ≤ k) := fun k hk => ⟨by omega, Or.inr hk.1⟩
  have j5 : ∀ k, w4.heap.size ≤ k ∧ k < w5.heap.size → k ≠ b5 ∧ (k < w6.heap.size ∨ w8.heap.size ≤ k) := fun k hk => ⟨by omega, Or.inl (by omega)⟩
  have j6 : ∀ k, w4.heap.size ≤ k ∧ k < w5.heap.size → k ≠ b6 ∧ (k < w8.heap.size ∨ wA.heap.size ≤ k) := fun k hk => ⟨by omega, Or.inl (by omega)⟩
  replace V4 := ((V4.keptBy gx (fun k hk => j4 k (t1 k hk))).keptBy gy (fun k hk => j4 k (t2 k hk))).keptBy gz (fun k hk => j4 k (t3 k hk))
  replace V5 := ((V5.keptBy gx (fun k hk => j5 k (t1 k hk))).keptBy gy (fun k hk => j5 k (t2 k hk))).keptBy gz (fun k hk => j5 k (t3 k hk))
  replace V6 := ((V6.keptBy gx (fun k hk => j6 k (t1 k hk))).keptBy gy (fun k hk => j6 k (t2 k hk))).keptBy gz (fun k hk => j6 k (t3 k hk))
  have nx : ∀ (n : Nat) (o : Option Nat), (∀ k, o = some k → w4.heap.size ≤ k ∧ k < w5.heap.size) → n < w4.heap.size → o ≠ some n := fun n o ho hn e => by have := ho _ e; omega
  have hs4 : w.heap.size + 1 < w4.heap.size := by omega
  have hxx := (gx.block _ (blk_lt hk) (fun e => nx _ _ t1 (by omega) e.symm)).trans hk
  have hxy := (gy.block _ (blk_lt hxx) (fun e => nx _ _ t2 (by omega) e.symm)).trans hxx
  replace hk := (gz.block _ (blk_lt hxy) (fun e => nx _ _ t3 (by omega) e.symm)).trans hxy
  clear hxx hxy
  have hxx := (gx.block _ (blk_lt hx) (fun e => nx _ _ t1 (by omega) e.symm)).trans hx
  have hxy := (gy.block _ (blk_lt hxx) (fun e => nx _ _ t2 (by omega) e.symm)).trans hxx
  replace hx := (gz.block _ (blk_lt hxy) (fun e => nx _ _ t3 (by omega) e.symm)).trans hxy
  clear hxx hxy
  replace hB := hB.grown gx hB.size (fun k hk => by have := t1 k hk; omega)
  replace hB := hB.grown gy hB.size (fun k hk => by have := t2 k hk; omega)
  replace hB := hB.grown gz hB.size (fun k hk => by have := t3 k hk; omega)
  clear gx gy gz q1 q2 q3 nx hy j4 j5 j6 t1 t2 t3
  go_wp2_with (refine wpList_load_row rfl 48 _ rfl b5 rfl 48 #[.int .i64 i, .slice bo xs.length dap, .int .i64 m.p, .int .i64 m.s, .int .i64 m.e, .int .i64 m.d, .int .i64 m.t, .int .i64 m.q, .int .i64 m.r, .slice bb bx.length db, .slice bc ox.length dc] (0, 0) _ V5.blk Tryz.underlying48 rfl Tryz.sizeProc ?_)
  refine (markproc_any _ _ _ rk w6.heap.size i xs m bx ox _ V5.o1 V5.o2 V5.o3 V5.ap (by omega) (by omega) (by omega) (by omega) (by omega)).mono ?_
  rintro e wG ⟨rfl, xa, xb, ga, gb, gc, s1, s2, s3⟩
  replace V4 := V4.kept3 V5 ga gb gc (Or.inl (by omega))
  replace V6 := V6.kept3 V5 ga gb gc (Or.inr (by omega))
  replace hk := V5.other ga gb gc hk (by decide) (by decide)
  replace hx := V5.other ga gb gc hx (by decide) (by decide)
  replace hB := VarPr.frame hB V5 ga gb gc (by omega) hB.size
  clear ga gb gc s1 s2 s3 V5
  obtain ⟨rn, hrn⟩ : ∃ rn, Hid (rk + 5 * (xs.length : Int) + (bx.length : Int) + (ox.length : Int) = rn) := ⟨_, rfl⟩
  have hrn0 : ¬ rn < 0 := by have := hrn.out; omega
  rw [hrn.out]
  clear hrn hrk0 hrk1
  have e0 : wG.cell? ⟨b6, 0, none⟩ = some (.int .i64 I) := cell_of_row wG _ 0 _ _ _ V6.blk
  have e1 : wG.cell? ⟨b6, 0 + 1, none⟩ = some (.slice g1 X.length ge1) := cell_of_row wG _ 1 _ _ _ V6.blk
  have e2 : wG.cell? ⟨b6, 0 + 2, none⟩ = some (.int .i64 M.p) := cell_of_row wG _ 2 _ _ _ V6.blk
  have e3 : wG.cell? ⟨b6, 0 + 3, none⟩ = some (.int .i64 M.s) := cell_of_row wG _ 3 _ _ _ V6.blk
  have e4 : wG.cell? ⟨b6, 0 + 4, none⟩ = some (.int .i64 M.e) := cell_of_row wG _ 4 _ _ _ V6.blk
  have e5 : wG.cell? ⟨b6, 0 + 5, none⟩ = some (.int .i64 M.d) := cell_of_row wG _ 5 _ _ _ V6.blk
  have e6 : wG.cell? ⟨b6, 0 + 6, none⟩ = some (.int .i64 M.t) := cell_of_row wG _ 6 _ _ _ V6.blk
  have e7 : wG.cell? ⟨b6, 0 + 7, none⟩ = some (.int .i64 M.q) := cell_of_row wG _ 7 _ _ _ V6.blk
  have e8 : wG.cell? ⟨b6, 0 + 8, none⟩ = some (.int .i64 M.r) := cell_of_row wG _ 8 _ _ _ V6.blk
  have e9 : wG.cell? ⟨b6, 0 + 9, none⟩ = some (.slice g2 BX.length ge2) := cell_of_row wG _ 9 _ _ _ V6.blk
  have e10 : wG.cell? ⟨b6, 0 + 10, none⟩ = some (.slice g3 OX.length ge3) := cell_of_row wG _ 10 _ _ _ V6.blk
  have k0 : wG.cell? ⟨b4, 0, none⟩ = some (.int .i64 I) := cell_of_row wG _ 0 _ _ _ V4.blk
  have k1 : wG.cell? ⟨b4, 0 + 1, none⟩ = some (.slice p1 X.length pe1) := cell_of_row wG _ 1 _ _ _ V4.blk
  have k2 : wG.cell? ⟨b4, 0 + 2, none⟩ = some (.int .i64 M.p) := cell_of_row wG _ 2 _ _ _ V4.blk
  have k3 : wG.cell? ⟨b4, 0 + 3, none⟩ = some (.int .i64 M.s) := cell_of_row wG _ 3 _ _ _ V4.blk
  have k4 : wG.cell? ⟨b4, 0 + 4, none⟩ = some (.int .i64 M.e) := cell_of_row wG _ 4 _ _ _ V4.blk
  have k5 : wG.cell? ⟨b4, 0 + 5, none⟩ = some (.int .i64 M.d) := cell_of_row wG _ 5 _ _ _ V4.blk
  have k6 : wG.cell? ⟨b4, 0 + 6, none⟩ = some (.int .i64 M.t) := cell_of_row wG _ 6 _ _ _ V4.blk
  have k7 : wG.cell? ⟨b4, 0 + 7, none⟩ = some (.int .i64 M.q) := cell_of_row wG _ 7 _ _ _ V4.blk
  have k8 : wG.cell? ⟨b4, 0 + 8, none⟩ = some (.int .i64 M.r) := cell_of_row wG _ 8 _ _ _ V4.blk
  have k9 : wG.cell? ⟨b4, 0 + 9, none⟩ = some (.slice p2 BX.length pe2) := cell_of_row wG _ 9 _ _ _ V4.blk
  have k10 : wG.cell? ⟨b4, 0 + 10, none⟩ = some (.slice p3 OX.length pe3) := cell_of_row wG _ 10 _ _ _ V4.blk
  go_wp2_with fail
  refine (eqproc_any I _ _ _ _ _ _ X M BX OX _ (V6.row hlX hzX) (V6.rowb hlB hzB) (V6.rowo hlO hzO) (V4.row hlX hzX) (V4.rowb hlB hzB) (V4.rowo hlO hzO)).mono ?_
  rintro e wH ⟨rfl, hb⟩
  clear e0 e1 e2 e3 e4 e5 e6 e7 e8 e9 e10 k0 k1 k2 k3 k4 k5 k6 k7 k8 k9 k10
  replace V4 := V4.below hb
  replace V6 := V6.below hb
  replace hk := blk_bel hk hb
  replace hx := blk_bel hx hb
  replace hB := hB.trans (hb.mono hB.size)
  clear hb
  go_wp2_with (refine wpList_load_row rfl 48 _ rfl b6 rfl 48 #[.int .i64 I, .slice g1 X.length ge1, .int .i64 M.p, .int .i64 M.s, .int .i64 M.e, .int .i64 M.d, .int .i64 M.t, .int .i64 M.q, .int .i64 M.r, .slice g2 BX.length ge2, .slice g3 OX.length ge3] (0, 0) _ V6.blk Tryz.underlying48 rfl Tryz.sizeProc ?_)
  refine (markproc_any _ _ _ 1 w8.heap.size I X M BX OX _ V6.o1 V6.o2 V6.o3 V6.ap (by omega) (by omega) (by omega) (by omega) (by omega)).mono ?_
  rintro e wI ⟨rfl, xa, xb, ga, gb, gc, s1, s2, s3⟩
  replace V4 := V4.kept3 V6 ga gb gc (Or.inl (by omega))
  replace hk := V6.other ga gb gc hk (by decide) (by decide)
  replace hx := V6.other ga gb gc hx (by decide) (by decide)
  replace hB := VarPr.frame hB V6 ga gb gc (by omega) hB.size
  have V6 := V6.turned (ys := nmarked 1 X X.length) (by' := sm (1 + 5 * X.length) BX.length) (oy := sm (1 + 5 * X.length + BX.length) OX.length) ga gb gc (by rw [hlm]; exact s1) (by rw [sm_length]; exact s2) (by rw [sm_length]; exact s3)
  clear ga gb gc s1 s2 s3
  have hzM := nmarked_ok 1 X (by omega) hlX
  have hzN := sm_ok (1 + 5 * X.length) BX.length (by omega) (by omega)
  have hzP := sm_ok (1 + 5 * X.length + BX.length) OX.length (by omega) (by omega)
  have HH : ∀ W : World, VarPr W b6 w8.heap.size wA.heap.size (.slice g1 X.length ge1) (.slice g2 BX.length ge2) (.slice g3 OX.length ge3) I (nmarked 1 X X.length) M (sm (1 + 5 * X.length) BX.length) (sm (1 + 5 * X.length + BX.length) OX.length) → Calls Tryz.prog 18 #[.agg #[.int .i64 I, .slice g1 X.length ge1, .int .i64 M.p, .int .i64 M.s, .int .i64 M.e, .int .i64 M.d, .int .i64 M.t, .int .i64 M.q, .int .i64 M.r, .slice g2 BX.length ge2, .slice g3 OX.length ge3], .int .i64 1] W fun e w' => e = .returned (.int .i64 (1 + 5 * X.length + BX.length + OX.length)) ∧ Below W.heap.size W w' := fun W V => heldproc_any _ _ _ 1 I X M BX.length OX.length W (V.row (by omega) hzM) (V.rowb (by rw [sm_length]; omega) hzN) (V.rowo (by rw [sm_length]; omega) hzP) hlX hlB hlO (by omega) (by omega)
  obtain ⟨kn, hkn⟩ : ∃ kn, Hid (1 + 5 * (X.length : Int) + (BX.length : Int) + (OX.length : Int) = kn) := ⟨_, rfl⟩
  have hkn0 : ¬ kn < 0 := by have := hkn.out; omega
  have hknn : (kn != kn) = false := by simp
  rw [hkn.out] at HH
  rw [hkn.out]
  clear hkn
  go_wp2_with (refine wpList_load_row rfl 48 _ rfl b6 rfl 48 #[.int .i64 I, .slice g1 X.length ge1, .int .i64 M.p, .int .i64 M.s, .int .i64 M.e, .int .i64 M.d, .int .i64 M.t, .int .i64 M.q, .int .i64 M.r, .slice g2 BX.length ge2, .slice g3 OX.length ge3] (0, 0) _ V6.blk Tryz.underlying48 rfl Tryz.sizeProc ?_)
  refine (HH _ V6).mono ?_
  rintro e wJ ⟨rfl, hb⟩
  replace V4 := V4.below hb
  replace V6 := V6.below hb
  replace hk := blk_bel hk hb
  replace hx := blk_bel hx hb
  replace hB := hB.trans (hb.mono hB.size)
  clear hb
  go_wp2_with fail
  refine prpt_r33 w.heap.size (w.heap.size + 1) a1 a2 a3 ao ab ac c1 c2 c3 cap cb cc ns is ds i xs m bx ox s I X M BX OX bb' _ _ hk hx (R1.below hB) (R2.below hB) (R3.below hB) (R.below hB) (Rb.below hB) (Ro.below hB) (by omega) (by omega) (by omega) (by omega) (by omega) (by omega) hzx hzb hzo (fun x1 x2 x3 y yb yo W h1 h2 h3 h4 h5 h6 hb => IT x1 x2 x3 y yb yo W h1 h2 h3 h4 h5 h6 (hB.trans (hb.mono hB.size))) ?_
  intro _ _ _ _ _ _ _ _ _ b10 f1 f2 f3 fe1 fe2 fe3 wK hlb10 hb hv10 O1 O2 O3 AP
  have V10 := VarPr.of hv10 O1 O2 O3 AP
  replace V4 := V4.below hb
  replace V6 := V6.below hb
  replace hk := blk_bel hk hb
  replace hx := blk_bel hx hb
  replace hB := hB.trans (hb.mono hB.size)
  clear hb hv10 O1 O2 O3 AP IT
  go_wp2_with (first | (refine wpList_load_row rfl 48 _ rfl b10 rfl 48 #[.int .i64 I, .slice f1 X.length fe1, .int .i64 M.p, .int .i64 M.s, .int .i64 M.e, .int .i64 M.d, .int .i64 M.t, .int .i64 M.q, .int .i64 M.r, .slice f2 BX.length fe2, .slice f3 OX.length fe3] (0, 0) _ V10.blk Tryz.underlying48 rfl Tryz.sizeProc ?_) | (refine wpList_load_row rfl 48 _ rfl b4 rfl 48 #[.int .i64 I, .slice p1 X.length pe1, .int .i64 M.p, .int .i64 M.s, .int .i64 M.e, .int .i64 M.d, .int .i64 M.t, .int .i64 M.q, .int .i64 M.r, .slice p2 BX.length pe2, .slice p3 OX.length pe3] (0, 0) _ V4.blk Tryz.underlying48 rfl Tryz.sizeProc ?_))
  refine (eqproc_any I _ _ _ _ _ _ X M BX OX _ (V10.row hlX hzX) (V10.rowb hlB hzB) (V10.rowo hlO hzO) (V4.row hlX hzX) (V4.rowb hlB hzB) (V4.rowo hlO hzO)).mono ?_
  rintro e wL ⟨rfl, hb⟩
  replace V6 := V6.below hb
  replace hB := hB.trans (hb.mono hB.size)
  clear hb V4 V10 hk hx
  go_wp2_with (refine wpList_load_row rfl 48 _ rfl b6 rfl 48 #[.int .i64 I, .slice g1 X.length ge1, .int .i64 M.p, .int .i64 M.s, .int .i64 M.e, .int .i64 M.d, .int .i64 M.t, .int .i64 M.q, .int .i64 M.r, .slice g2 BX.length ge2, .slice g3 OX.length ge3] (0, 0) _ V6.blk Tryz.underlying48 rfl Tryz.sizeProc ?_)
  refine (HH _ V6).mono ?_
  rintro e wM ⟨rfl, hb⟩
  replace hB := hB.trans (hb.mono hB.size)
  clear hb V6 HH
  go_wp2
  go_ret
  exact ⟨rfl, hB⟩
end Go.Proofs.YtdkkpopnoeapdaaGreatDoor
