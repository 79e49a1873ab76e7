/-
  Texts that stood by themselves, laid into one.
-/
import Derived.Test.YtjnhocefnfmhmaaGreatDoorLPrPkRM
import Derived.Test.YtjnhocefnfmhmaaGreatDoorPrRegM
import Derived.ProofKit
import Derived.OpenShut
import Derived.ShutString
import Derived.ChangeOld
import Derived.Below
import Derived.Deep.Slices
import Derived.ChangeSame
import Derived.Test.YtjnhocefnfmhmaaGreatDoorInM
import Derived.Test.YtjnhocefnfmhmaaGreatDoorLPoolOkM
/-
  The law FnExactProcPack, walked: at every code and process it returns true. The variable errors.errorType reads as it is laid.
-/
namespace Go.Proofs.YtjnhocefnfmhmaaGreatDoor
open Go.RowKit

set_option maxRecDepth 100000 in
set_option maxHeartbeats 16000000 in
theorem lprocpack_any (v1 v2 v3 v vb vo : Value) (ns : List Nd) (is : List In) (ds : List Df) (i : Int) (xs : List Nd) (m : Mc) (bx ox : List ByteArray) (w : World) (R1 : NRow w v1 ns) (R2 : InRow w v2 is) (R3 : DfRow w v3 ds) (R : NRow w v xs) (Rb : StRow w vb bx) (Ro : StRow w vo ox) (hg : ErrT w) :
    Calls Tryz.prog 3 #[.agg #[v1, v2, v3], .agg #[.int .i64 i, v, .int .i64 m.p, .int .i64 m.s, .int .i64 m.e, .int .i64 m.d, .int .i64 m.t, .int .i64 m.q, .int .i64 m.r, vb, vo]] w fun e w' => e = .returned (.bool true) ∧ Below w.heap.size w w' := by
  have hzx := R.sz
  have hzb := Rb.sz
  have hzo := Ro.sz
  obtain ⟨ao, cap, rfl⟩ : ∃ ao cap, v = .slice ao xs.length cap := by obtain ⟨ao, cap, rfl, _⟩ := R; exact ⟨ao, cap, rfl⟩
  obtain ⟨a1, c1, rfl⟩ := R1.small
  obtain ⟨a2, c2, rfl⟩ := R2.small
  obtain ⟨a3, c3, rfl⟩ := R3.small
  obtain ⟨ab, cb, rfl⟩ := Rb.small
  obtain ⟨ac, cc, rfl⟩ := Ro.small
  obtain ⟨hB0, hk0, hx0⟩ := two_boxes w (Obj.cells #[.slice a1 ns.length c1, .slice a2 is.length c2, .slice a3 ds.length c3] 28) (Obj.cells #[.int .i64 i, .slice ao xs.length cap, .int .i64 m.p, .int .i64 m.s, .int .i64 m.e, .int .i64 m.d, .int .i64 m.t, .int .i64 m.q, .int .i64 m.r, .slice ab bx.length cb, .slice ac ox.length cc] 33)
  go_enter Tryz.func3, Tryz.ntmps3
  go_wp2_with fail
  refine (szcode_any _ _ _ ns is ds _ (R1.below hB0) (R2.below hB0) (R3.below hB0)).mono ?_
  rintro e w1 ⟨r, rfl, hr0, hr1, hr2, hb1⟩
  have hB1 := hB0.trans (hb1.mono hB0.size)
  have hk1 := blk_bel hk0 hb1
  have hx1 := blk_bel hx0 hb1
  clear hB0 hk0 hx0 hb1
  by_cases hr : r < 0
  · go_wp2
    go_ret
    exact ⟨rfl, hB1⟩
  obtain ⟨l1, l2, l3⟩ := hr2 (by omega)
  clear hr2
  go_wp2_with (refine wpList_load_row rfl 33 _ rfl (w.heap.size + 1) rfl 33 #[.int .i64 i, .slice ao xs.length cap, .int .i64 m.p, .int .i64 m.s, .int .i64 m.e, .int .i64 m.d, .int .i64 m.t, .int .i64 m.q, .int .i64 m.r, .slice ab bx.length cb, .slice ac ox.length cc] (0, 0) _ hx1 Tryz.underlying33 rfl Tryz.sizeLProc ?_)
  refine (szproc_gen r (by omega) hr1 i _ _ _ xs m bx ox _ (R.below hB1) (Rb.below hB1) (Ro.below hB1)).mono ?_
  rintro e w2 ⟨r2, rfl, hr20, hr21, hr22, hb2⟩
  have hB2 := hB1.trans (hb2.mono hB1.size)
  have hk2 := blk_bel hk1 hb2
  have hx2 := blk_bel hx1 hb2
  clear hB1 hk1 hx1 hb2
  by_cases hr2 : r2 < 0
  · go_wp2
    go_ret
    exact ⟨rfl, hB2⟩
  obtain ⟨⟨l4, _⟩, ⟨l5, hb7⟩, l6, hb8⟩ := hr22 (by omega)
  clear hr22 hr20 hr21 hr0 hr1
  go_wp2_with fail
  refine prpk_r8 w.heap.size (w.heap.size + 1) a1 a2 a3 ao ab ac c1 c2 c3 cap cb cc ns is ds i xs m bx ox _ _ hk2 hx2 (R1.below hB2) (R2.below hB2) (R3.below hB2) (R.below hB2) (Rb.below hB2) (Ro.below hB2) (by omega) (by omega) (by omega) (by omega) (by omega) (by omega) hzx hzb hzo hb7 hb8 (fun _ _ _ _ _ _ _ _ wc hb => ?_)
  have hBc := hB2.trans (hb.mono hB2.size)
  have hkc := blk_bel hk2 hb
  have hxc := blk_bel hx2 hb
  clear hB2 hk2 hx2 hb
  go_wp2_with (refine wpList_load_row rfl 28 _ rfl w.heap.size rfl 28 #[.slice a1 ns.length c1, .slice a2 is.length c2, .slice a3 ds.length c3] (0, 0) _ hkc Tryz.underlying28 rfl Tryz.sizeLCode ?_)
  refine (tocode_any _ _ _ ns is ds _ (R1.below hBc) (R2.below hBc) (R3.below hBc) (by omega) (by omega) (by omega)).mono ?_
  rintro e wd ⟨u1, u2, u3, rfl, S1, S2, S3, hbd⟩
  obtain ⟨b1, d1, rfl⟩ := S1.small
  obtain ⟨b2, d2, rfl⟩ := S2.small
  obtain ⟨b3, d3, rfl⟩ := S3.small
  have hkd := blk_bel hkc hbd
  have hxd := blk_bel hxc hbd
  have hBd := hBc.trans (hbd.mono hBc.size)
  clear hBc hkc hxc hbd
  go_wp2_with (refine wpList_store_own rfl 44 _ _ rfl wd.heap.size #[.slice b1 ns.length d1, .slice b2 is.length d2, .slice b3 ds.length d3] rfl rfl 44 _ (heap_alloc_new _ _) Tryz.sizeCode rfl (by simp [Value.oneCell']) ?_)
  intro we hye hbe hse
  have hde : Below wd.heap.size wd we := ((Below.refl _ _).alloc (Nat.le_refl _) _).trans hbe
  have hke := blk_bel hkd hde
  have hxe := blk_bel hxd hde
  have hBe := hBd.trans (hde.mono hBd.size)
  have T1 := S1.below hde
  have T2 := S2.below hde
  have T3 := S3.below hde
  generalize wd.heap.size = yc at *
  clear hBd hkd hxd hbe hse hde S1 S2 S3
  go_wp2_with (refine wpList_load_row rfl 33 _ rfl (w.heap.size + 1) rfl 33 #[.int .i64 i, .slice ao xs.length cap, .int .i64 m.p, .int .i64 m.s, .int .i64 m.e, .int .i64 m.d, .int .i64 m.t, .int .i64 m.q, .int .i64 m.r, .slice ab bx.length cb, .slice ac ox.length cc] (0, 0) _ hxe Tryz.underlying33 rfl Tryz.sizeLProc ?_)
  refine (toproc_any i _ _ _ xs m bx ox _ (R.below hBe) (Rb.below hBe) (Ro.below hBe) (by omega) (by omega) (by omega)).mono ?_
  rintro e wf ⟨y1, y2, y3, rfl, P1, P2, P3, hap, hbf⟩
  obtain ⟨bo, dap, rfl⟩ := own_form P1
  obtain ⟨bb, db, rfl⟩ := own_form P2
  obtain ⟨bc, dc, rfl⟩ := own_form P3
  have Y := NRow.of_own P1 (by omega) hzx
  have Yb := StRow.of_own P2 (by omega) hzb
  have Yo := StRow.of_own P3 (by omega) hzo
  have hkf := blk_bel hke hbf
  have hxf := blk_bel hxe hbf
  have hyf := blk_bel hye hbf
  have hBf := hBe.trans (hbf.mono hBe.size)
  replace T1 := T1.below hbf
  replace T2 := T2.below hbf
  replace T3 := T3.below hbf
  clear hBe hke hxe hye hbf P1 P2 P3 hap
  go_wp2_with (refine wpList_store_own rfl 49 _ _ rfl wf.heap.size #[.int .i64 i, .slice bo xs.length dap, .int .i64 m.p, .int .i64 m.s, .int .i64 m.e, .int .i64 m.d, .int .i64 m.t, .int .i64 m.q, .int .i64 m.r, .slice bb bx.length db, .slice bc ox.length dc] rfl rfl 49 _ (heap_alloc_new _ _) Tryz.sizeProc rfl (by simp [Value.oneCell']) ?_)
  intro wg hzg hbg hsg
  have hdg : Below wf.heap.size wf wg := ((Below.refl _ _).alloc (Nat.le_refl _) _).trans hbg
  have hkg := blk_bel hkf hdg
  have hxg := blk_bel hxf hdg
  have hyg := blk_bel hyf hdg
  have hBg := hBf.trans (hdg.mono hBf.size)
  replace T1 := T1.below hdg
  replace T2 := T2.below hdg
  replace T3 := T3.below hdg
  replace Y := Y.below hdg
  replace Yb := Yb.below hdg
  replace Yo := Yo.below hdg
  generalize wf.heap.size = ym at *
  clear hBf hkf hxf hyf hbg hsg hdg
  go_wp2_with (first
    | (refine wpList_load_row rfl 44 _ rfl yc rfl 44 #[.slice b1 ns.length d1, .slice b2 is.length d2, .slice b3 ds.length d3] (0, 0) _ hyg Tryz.underlying44 rfl Tryz.sizeCode ?_)
    | (refine wpList_load_row rfl 49 _ rfl ym rfl 49 #[.int .i64 i, .slice bo xs.length dap, .int .i64 m.p, .int .i64 m.s, .int .i64 m.e, .int .i64 m.d, .int .i64 m.t, .int .i64 m.q, .int .i64 m.r, .slice bb bx.length db, .slice bc ox.length dc] (0, 0) _ hzg Tryz.underlying49 rfl Tryz.sizeProc ?_))
  refine (iprocpack_any _ _ _ _ _ _ ns is ds i xs m bx ox _ T1 T2 T3 Y Yb Yo hb7 hb8 (hg.below hBg (Nat.le_refl _))).mono ?_
  rintro e wh ⟨rfl, hbh⟩
  have hkh := blk_bel hkg hbh
  have hxh := blk_bel hxg hbh
  have hyh := blk_bel hyg hbh
  have hzh := blk_bel hzg hbh
  have hBh := hBg.trans (hbh.mono hBg.size)
  replace T1 := T1.below hbh
  replace T2 := T2.below hbh
  replace T3 := T3.below hbh
  replace Y := Y.below hbh
  replace Yb := Yb.below hbh
  replace Yo := Yo.below hbh
  clear hBg hkg hxg hyg hzg hbh
  generalize procB ns is ds i xs m bx ox = bq
  have hbq : (bq != bq) = false := by simp
  generalize ppR ns is ds i xs m bx ox = sq
  go_wp2_with fail
  refine prpk_r14 yc w.heap.size b1 b2 b3 a1 a2 a3 d1 d2 d3 c1 c2 c3 ns is ds _ _ hyh hkh T1 T2 T3 (R1.below hBh) (R2.below hBh) (R3.below hBh) (by omega) (by omega) (by omega) (fun _ _ _ _ wi hb => ?_)
  have hBi := hBh.trans (hb.mono hBh.size)
  have hxi := blk_bel hxh hb
  have hzi := blk_bel hzh hb
  replace Y := Y.below hb
  replace Yb := Yb.below hb
  replace Yo := Yo.below hb
  clear hBh hkh hxh hyh hzh hb T1 T2 T3
  go_wp2_with fail
  refine prpk_r16 ym (w.heap.size + 1) bo bb bc ao ab ac dap db dc cap cb cc i xs m bx ox _ _ hzi hxi Y Yb Yo (R.below hBi) (Rb.below hBi) (Ro.below hBi) (by omega) (by omega) (by omega) hzx hzb hzo (fun _ _ _ _ wj hb => ?_)
  have hBj := hBi.trans (hb.mono hBi.size)
  clear hBi hxi hzi hb Y Yb Yo
  go_wp2
  go_ret
  exact ⟨rfl, hBj⟩
end Go.Proofs.YtjnhocefnfmhmaaGreatDoor

/-
  What a pool and a node that came in read as. Nothing of the program; no condition.
-/
namespace Go.Proofs.YtjnhocefnfmhmaaGreatDoor
open Go.ChangeShapes Go.WideShapes Go.ChangeAt Go.RowKit Go.Deep

theorem ownKnob_none2 : ownKnob Tryz.prog.godebug = none := by kernel_rfl
theorem laidOut_true2 : laidOutB Tryz.prog = true := by kernel_rfl

section
variable {H : Type} {enc : TypeId × Value → H} {w : World} {base : Nat} {spare : Nat → Bool} {held : Bool}

set_option maxRecDepth 100000 in
/-- A node that came in: its five cells. -/
theorem node_cells {fuel : Nat} {cs : List Value} {x : DataW H × List MemPlace} (h : DataW.trod enc Tryz.prog w base spare held fuel 145 cs = some x) :
    ∃ nd : Nd, cs = nd.cs ∧ nd.s.size ≤ maxLen := by
  obtain ⟨xs, n, _, _, hl, hlen, hf⟩ := DataW.trod_struct Tryz.underlying145 h
  rw [show Tryz.prog.cellsOf 145 = 5 by kernel_rfl] at hl
  match cs, hl with
  | [v0, v1, v2, v3, v4], _ =>
    have g0 := hf 0 _ rfl
    have g1 := hf 1 _ rfl
    have g2 := hf 2 _ rfl
    have g3 := hf 3 _ rfl
    have g4 := hf 4 _ rfl
    have i1 : Tryz.prog.cellsOf 3 = 1 := by kernel_rfl
    have i2 : Tryz.prog.cellsOf 9 = 1 := by kernel_rfl
    match xs, hlen with
    | [y0, y1, y2, y3, y4], _ =>
      simp [i1, i2] at g0 g1 g2 g3 g4
      obtain ⟨k, e0, _⟩ := DataW.trod_int Tryz.underlying3 g0
      obtain ⟨m, e1, _⟩ := DataW.trod_int Tryz.underlying3 g1
      obtain ⟨s, e2, _, hs⟩ := DataW.trod_string Tryz.underlying9 g2
      obtain ⟨a, e3, _⟩ := DataW.trod_int Tryz.underlying3 g3
      obtain ⟨b, e4, _⟩ := DataW.trod_int Tryz.underlying3 g4
      simp only [List.cons.injEq, and_true] at e0 e1 e2 e3 e4
      subst e0 e1 e2 e3 e4
      exact ⟨⟨k, m, s, a, b⟩, rfl, hs⟩

set_option maxRecDepth 100000 in
/-- A pool that came in: a slice that reads as nodes. -/
theorem open_pool {v : Value} {d : DataW H} {p : List MemPlace} (hv : Value.okWide Tryz.prog w .any base 24 v) (h : DataW.Trod enc Tryz.prog w 0 (fun _ => true) true 24 v d p) :
    ∃ v' xs, v = .agg #[v'] ∧ NRow w v' xs := by
  obtain ⟨cs, rfl, hsz⟩ := okWide_struct Tryz.underlying24 hv
  rw [show Tryz.prog.cellsOf 24 = 1 by kernel_rfl] at hsz
  obtain ⟨fuel, hf⟩ := h
  obtain ⟨y0, n, _, _, h0⟩ := trod_struct1 Tryz.underlying24 hf
  obtain ⟨v', rfl⟩ : ∃ v', cs = #[v'] := by
    obtain ⟨l⟩ := cs
    match l, hsz with
    | [v'], _ => exact ⟨v', rfl⟩
  · have i1 : Tryz.prog.cellsOf 22 = 1 := by kernel_rfl
    have i5 : Tryz.prog.cellsOf 145 = 5 := by kernel_rfl
    simp [Value.cells, i1] at h0
    rcases open_slice Tryz.underlying22 h0 with ⟨hcs, _⟩ | ⟨a, len, cap, m, n, D, Pl, hcs, _, hl, hm, hmm, _, hx⟩
    · simp at hcs
      subst hcs
      exact ⟨_, [], rfl, none, 0, rfl, by simp, by simp, by simp, fun h => absurd rfl h⟩
    · simp at hcs
      subst hcs
      simp at hmm
      subst hmm
      rw [i5] at hx
      have each : ∀ i, i < m → ∃ nd : Nd, nd.s.size ≤ maxLen ∧ ∀ j, j < 5 → w.cell? (a.add (i * 5 + j)) = nd.cs[j]? := by
        intro i hi
        obtain ⟨cs', h1, h2⟩ := hx i hi
        obtain ⟨nd, rfl, hs⟩ := node_cells h2
        obtain ⟨_, hlen, hcell⟩ := World.cells?_some h1
        refine ⟨nd, hs, fun j hj => ?_⟩
        have := hcell j (by omega)
        rw [add_add] at this
        rw [this]
      haveI : Inhabited Nd := ⟨⟨0, 0, ByteArray.empty, 0, 0⟩⟩
      obtain ⟨q, hq⟩ := choose_lt each
      refine ⟨_, (List.range len).map q, rfl, some a, m, ?_, ?_, ?_, ?_, ?_⟩
      · simp
      · exact ⟨by simpa using hl, fun h => by cases h⟩
      · unfold maxLen at hm; simp; omega
      · intro x hx'
        simp at hx'
        obtain ⟨i, hi, rfl⟩ := hx'
        exact (hq i (by omega)).1
      · intro hne
        have hpos : 0 < len := by
          rcases Nat.eq_zero_or_pos len with h0 | h0
          · subst h0; simp at hne
          · exact h0
        obtain ⟨b, off, spot⟩ := a
        have hc := (hq 0 (by omega)).2 0 (by omega)
        simp only [Nd.cs, List.getElem?_cons_zero] at hc
        have hspot : spot = none := by simpa [Addr.add] using World.cell?_spot hc
        subst hspot
        have hb := World.block_lt_of_cell? _ _ hc
        refine ⟨b, off, rfl, by simpa [Addr.add_lit] using hb, fun i x hi => ?_⟩
        have hil : i < len := by
          have := (List.getElem?_eq_some_iff.1 hi).1
          simpa using this
        have hxe : x = q i := by
          rw [List.getElem?_map, List.getElem?_range hil] at hi
          simpa using hi.symm
        subst hxe
        have e : ∀ j, j < 5 → w.cell? ⟨b, off + i * 5 + j, none⟩ = (q i).cs[j]? := fun j hj => by
          have := (hq i (by omega)).2 j hj
          rw [Addr.add_lit] at this
          rw [← this, Nat.add_assoc]
        exact ⟨e 0 (by omega), e 1 (by omega), e 2 (by omega), e 3 (by omega), e 4 (by omega)⟩

end
end Go.Proofs.YtjnhocefnfmhmaaGreatDoor

/-
  What a slice of nodes that came in reads as: a list. Nothing of the program; no condition.
-/
namespace Go.Proofs.YtjnhocefnfmhmaaGreatDoor
open Go.ChangeShapes Go.WideShapes Go.ChangeAt Go.RowKit Go.Deep

section
variable {H : Type} {enc : TypeId × Value → H} {w : World} {base : Nat} {spare : Nat → Bool} {held : Bool}

set_option maxRecDepth 100000 in
/-- A slice of nodes that came in reads as a list. -/
theorem open_nds {fuel : Nat} {v' : Value} {y0 : DataW H × List MemPlace} (h0 : DataW.trod enc Tryz.prog w base spare held fuel 22 [v'] = some y0) :
    ∃ xs, NRow w v' xs := by
  have i5 : Tryz.prog.cellsOf 145 = 5 := by kernel_rfl
  rcases open_slice Tryz.underlying22 h0 with ⟨hcs, _⟩ | ⟨a, len, cap, m, n, D, Pl, hcs, _, hl, hm, hmm, _, hx⟩
  · simp at hcs
    subst hcs
    exact ⟨[], none, 0, rfl, by simp, by simp, by simp, fun h => absurd rfl h⟩
  · simp at hcs
    subst hcs
    have hlm : len ≤ m := by rw [hmm]; split <;> omega
    rw [i5] at hx
    have each : ∀ i, i < m → ∃ nd : Nd, nd.s.size ≤ maxLen ∧ ∀ j, j < 5 → w.cell? (a.add (i * 5 + j)) = nd.cs[j]? := by
      intro i hi
      obtain ⟨cs', h1, h2⟩ := hx i hi
      obtain ⟨nd, rfl, hs⟩ := node_cells h2
      obtain ⟨_, hlen, hcell⟩ := World.cells?_some h1
      refine ⟨nd, hs, fun j hj => ?_⟩
      have := hcell j (by omega)
      rw [add_add] at this
      rw [this]
    haveI : Inhabited Nd := ⟨⟨0, 0, ByteArray.empty, 0, 0⟩⟩
    obtain ⟨q, hq⟩ := choose_lt each
    refine ⟨(List.range len).map q, some a, cap, ?_, ?_, ?_, ?_, ?_⟩
    · simp
    · exact ⟨by simp; omega, fun h => by cases h⟩
    · unfold maxLen at hm; simp; omega
    · intro x hx'
      simp at hx'
      obtain ⟨i, hi, rfl⟩ := hx'
      exact (hq i (by omega)).1
    · intro hne
      have hpos : 0 < len := by
        rcases Nat.eq_zero_or_pos len with h0 | h0
        · subst h0; simp at hne
        · exact h0
      obtain ⟨b, off, spot⟩ := a
      have hc := (hq 0 (by omega)).2 0 (by omega)
      simp only [Nd.cs, List.getElem?_cons_zero] at hc
      have hspot : spot = none := by simpa [Addr.add] using World.cell?_spot hc
      subst hspot
      have hb := World.block_lt_of_cell? _ _ hc
      refine ⟨b, off, rfl, by simpa [Addr.add_lit] using hb, fun i x hi => ?_⟩
      have hil : i < len := by
        have := (List.getElem?_eq_some_iff.1 hi).1
        simpa using this
      have hxe : x = q i := by
        rw [List.getElem?_map, List.getElem?_range hil] at hi
        simpa using hi.symm
      subst hxe
      have e : ∀ j, j < 5 → w.cell? ⟨b, off + i * 5 + j, none⟩ = (q i).cs[j]? := fun j hj => by
        have := (hq i (by omega)).2 j hj
        rw [Addr.add_lit] at this
        rw [← this, Nat.add_assoc]
      exact ⟨e 0 (by omega), e 1 (by omega), e 2 (by omega), e 3 (by omega), e 4 (by omega)⟩
end
end Go.Proofs.YtjnhocefnfmhmaaGreatDoor

/-
  What a slice of these records that came in reads as. Nothing of the program; no condition.
-/
namespace Go.Proofs.YtjnhocefnfmhmaaGreatDoor
open Go.ChangeShapes Go.WideShapes Go.ChangeAt Go.RowKit Go.Deep

section
variable {H : Type} {enc : TypeId × Value → H} {w : World} {base : Nat} {spare : Nat → Bool} {held : Bool}

set_option maxRecDepth 100000 in
theorem in_cells {fuel : Nat} {cs : List Value} {x : DataW H × List MemPlace} (h : DataW.trod enc Tryz.prog w base spare held fuel 101 cs = some x) :
    ∃ nd : In, cs = nd.cs ∧ nd.s.size ≤ maxLen := by
  obtain ⟨xs, n, _, _, hl, hlen, hf⟩ := DataW.trod_struct Tryz.underlying101 h
  rw [show Tryz.prog.cellsOf 101 = 4 by kernel_rfl] at hl
  match cs, hl with
  | [v0, v1, v2, v3], _ =>
    have g0 := hf 0 _ rfl
    have g1 := hf 1 _ rfl
    have g2 := hf 2 _ rfl
    have g3 := hf 3 _ rfl
    have i1 : Tryz.prog.cellsOf 3 = 1 := by kernel_rfl
    have i2 : Tryz.prog.cellsOf 9 = 1 := by kernel_rfl
    match xs, hlen with
    | [y0, y1, y2, y3], _ =>
      simp [i1, i2] at g0 g1 g2 g3
      obtain ⟨m0, e0, _⟩ := DataW.trod_int Tryz.underlying3 g0
      obtain ⟨m1, e1, _⟩ := DataW.trod_int Tryz.underlying3 g1
      obtain ⟨m2, e2, _⟩ := DataW.trod_int Tryz.underlying3 g2
      obtain ⟨m3, e3, _, hs⟩ := DataW.trod_string Tryz.underlying9 g3
      simp only [List.cons.injEq, and_true] at e0 e1 e2 e3
      subst e0 e1 e2 e3
      exact ⟨⟨m0, m1, m2, m3⟩, rfl, hs⟩

set_option maxRecDepth 100000 in
/-- A slice that came in reads as a list. -/
theorem open_ins {fuel : Nat} {v' : Value} {y0 : DataW H × List MemPlace} (h0 : DataW.trod enc Tryz.prog w base spare held fuel 25 [v'] = some y0) :
    ∃ xs, InRow w v' xs := by
  have i5 : Tryz.prog.cellsOf 101 = 4 := by kernel_rfl
  rcases open_slice Tryz.underlying25 h0 with ⟨hcs, _⟩ | ⟨a, len, cap, m, n, D, Pl, hcs, _, hl, hm, hmm, _, hx⟩
  · simp at hcs
    subst hcs
    exact ⟨[], none, 0, rfl, by simp, by simp, by simp, fun h => absurd rfl h⟩
  · simp at hcs
    subst hcs
    have hlm : len ≤ m := by rw [hmm]; split <;> omega
    rw [i5] at hx
    have each : ∀ i, i < m → ∃ nd : In, nd.s.size ≤ maxLen ∧ ∀ j, j < 4 → w.cell? (a.add (i * 4 + j)) = nd.cs[j]? := by
      intro i hi
      obtain ⟨cs', h1, h2⟩ := hx i hi
      obtain ⟨nd, rfl, hs⟩ := in_cells h2
      obtain ⟨_, hlen, hcell⟩ := World.cells?_some h1
      refine ⟨nd, hs, fun j hj => ?_⟩
      have := hcell j (by omega)
      rw [add_add] at this
      rw [this]
    haveI : Inhabited In := ⟨zeroIn⟩
    obtain ⟨q, hq⟩ := choose_lt each
    refine ⟨(List.range len).map q, some a, cap, ?_, ?_, ?_, ?_, ?_⟩
    · simp
    · exact ⟨by simp; omega, fun h => by cases h⟩
    · unfold maxLen at hm; simp; omega
    · intro x hx'
      simp at hx'
      obtain ⟨i, hi, rfl⟩ := hx'
      exact (hq i (by omega)).1
    · intro hne
      have hpos : 0 < len := by
        rcases Nat.eq_zero_or_pos len with h0 | h0
        · subst h0; simp at hne
        · exact h0
      obtain ⟨b, off, spot⟩ := a
      have hc := (hq 0 (by omega)).2 0 (by omega)
      simp only [In.cs, List.getElem?_cons_zero] at hc
      have hspot : spot = none := by simpa [Addr.add] using World.cell?_spot hc
      subst hspot
      have hb := World.block_lt_of_cell? _ _ hc
      refine ⟨b, off, rfl, by simpa [Addr.add_lit] using hb, fun i x hi => ?_⟩
      have hil : i < len := by
        have := (List.getElem?_eq_some_iff.1 hi).1
        simpa using this
      have hxe : x = q i := by
        rw [List.getElem?_map, List.getElem?_range hil] at hi
        simpa using hi.symm
      subst hxe
      have e : ∀ j, j < 4 → w.cell? ⟨b, off + i * 4 + j, none⟩ = (q i).cs[j]? := fun j hj => by
        have := (hq i (by omega)).2 j hj
        rw [Addr.add_lit] at this
        rw [← this, Nat.add_assoc]
      exact ⟨e 0 (by omega), e 1 (by omega), e 2 (by omega), e 3 (by omega)⟩
end
end Go.Proofs.YtjnhocefnfmhmaaGreatDoor

/-
  What a slice of these records that came in reads as. Nothing of the program; no condition.
-/
namespace Go.Proofs.YtjnhocefnfmhmaaGreatDoor
open Go.ChangeShapes Go.WideShapes Go.ChangeAt Go.RowKit Go.Deep

section
variable {H : Type} {enc : TypeId × Value → H} {w : World} {base : Nat} {spare : Nat → Bool} {held : Bool}

set_option maxRecDepth 100000 in
theorem df_cells {fuel : Nat} {cs : List Value} {x : DataW H × List MemPlace} (h : DataW.trod enc Tryz.prog w base spare held fuel 104 cs = some x) :
    ∃ nd : Df, cs = nd.cs ∧ nd.s.size ≤ maxLen := by
  obtain ⟨xs, n, _, _, hl, hlen, hf⟩ := DataW.trod_struct Tryz.underlying104 h
  rw [show Tryz.prog.cellsOf 104 = 3 by kernel_rfl] at hl
  match cs, hl with
  | [v0, v1, v2], _ =>
    have g0 := hf 0 _ rfl
    have g1 := hf 1 _ rfl
    have g2 := hf 2 _ rfl
    have i1 : Tryz.prog.cellsOf 3 = 1 := by kernel_rfl
    have i2 : Tryz.prog.cellsOf 9 = 1 := by kernel_rfl
    match xs, hlen with
    | [y0, y1, y2], _ =>
      simp [i1, i2] at g0 g1 g2
      obtain ⟨m0, e0, _, hs⟩ := DataW.trod_string Tryz.underlying9 g0
      obtain ⟨m1, e1, _⟩ := DataW.trod_int Tryz.underlying3 g1
      obtain ⟨m2, e2, _⟩ := DataW.trod_int Tryz.underlying3 g2
      simp only [List.cons.injEq, and_true] at e0 e1 e2
      subst e0 e1 e2
      exact ⟨⟨m0, m1, m2⟩, rfl, hs⟩

set_option maxRecDepth 100000 in
/-- A slice that came in reads as a list. -/
theorem open_dfs {fuel : Nat} {v' : Value} {y0 : DataW H × List MemPlace} (h0 : DataW.trod enc Tryz.prog w base spare held fuel 26 [v'] = some y0) :
    ∃ xs, DfRow w v' xs := by
  have i5 : Tryz.prog.cellsOf 104 = 3 := by kernel_rfl
  rcases open_slice Tryz.underlying26 h0 with ⟨hcs, _⟩ | ⟨a, len, cap, m, n, D, Pl, hcs, _, hl, hm, hmm, _, hx⟩
  · simp at hcs
    subst hcs
    exact ⟨[], none, 0, rfl, by simp, by simp, by simp, fun h => absurd rfl h⟩
  · simp at hcs
    subst hcs
    have hlm : len ≤ m := by rw [hmm]; split <;> omega
    rw [i5] at hx
    have each : ∀ i, i < m → ∃ nd : Df, nd.s.size ≤ maxLen ∧ ∀ j, j < 3 → w.cell? (a.add (i * 3 + j)) = nd.cs[j]? := by
      intro i hi
      obtain ⟨cs', h1, h2⟩ := hx i hi
      obtain ⟨nd, rfl, hs⟩ := df_cells h2
      obtain ⟨_, hlen, hcell⟩ := World.cells?_some h1
      refine ⟨nd, hs, fun j hj => ?_⟩
      have := hcell j (by omega)
      rw [add_add] at this
      rw [this]
    haveI : Inhabited Df := ⟨zeroDf⟩
    obtain ⟨q, hq⟩ := choose_lt each
    refine ⟨(List.range len).map q, some a, cap, ?_, ?_, ?_, ?_, ?_⟩
    · simp
    · exact ⟨by simp; omega, fun h => by cases h⟩
    · unfold maxLen at hm; simp; omega
    · intro x hx'
      simp at hx'
      obtain ⟨i, hi, rfl⟩ := hx'
      exact (hq i (by omega)).1
    · intro hne
      have hpos : 0 < len := by
        rcases Nat.eq_zero_or_pos len with h0 | h0
        · subst h0; simp at hne
        · exact h0
      obtain ⟨b, off, spot⟩ := a
      have hc := (hq 0 (by omega)).2 0 (by omega)
      simp only [Df.cs, List.getElem?_cons_zero] at hc
      have hspot : spot = none := by simpa [Addr.add] using World.cell?_spot hc
      subst hspot
      have hb := World.block_lt_of_cell? _ _ hc
      refine ⟨b, off, rfl, by simpa [Addr.add_lit] using hb, fun i x hi => ?_⟩
      have hil : i < len := by
        have := (List.getElem?_eq_some_iff.1 hi).1
        simpa using this
      have hxe : x = q i := by
        rw [List.getElem?_map, List.getElem?_range hil] at hi
        simpa using hi.symm
      subst hxe
      have e : ∀ j, j < 3 → w.cell? ⟨b, off + i * 3 + j, none⟩ = (q i).cs[j]? := fun j hj => by
        have := (hq i (by omega)).2 j hj
        rw [Addr.add_lit] at this
        rw [← this, Nat.add_assoc]
      exact ⟨e 0 (by omega), e 1 (by omega), e 2 (by omega)⟩
end
end Go.Proofs.YtjnhocefnfmhmaaGreatDoor
