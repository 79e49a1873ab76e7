/-
  A process's records: how great, made of the law's, and alike. No condition.
-/
import Derived.Test.YtllfojddaobpmaaMachRec
import Derived.Test.YtllfojddaobpmaaStrs
import Derived.Test.YtllfojddaobpmaaSub
namespace Go.Proofs.Ytllfojddaobpmaa
open Go.RowKit

theorem Try.sizeProc : (Try.prog.info? 72).map (·.size) = some 11 := by kernel_rfl
theorem Try.sizeLMach : (Try.prog.info? 95).map (·.size) = some 8 := by kernel_rfl

set_option maxRecDepth 100000 in
set_option maxHeartbeats 1600000 in
theorem szproc_gen (l0 : Int) (hl0 : 0 ≤ l0) (hl1 : l0 ≤ 1048576) (i : Int) (v vb vo : Value) (xs : List Nd) (m : Mc) (bx ox : List ByteArray) (w : World) (R : NRow w v xs) (Rb : StRow w vb bx) (Ro : StRow w vo ox) :
    Calls Try.prog 68 #[.agg #[.int .i64 i, v, .int .i64 m.p, .int .i64 m.s, .int .i64 m.e, .int .i64 m.d, .int .i64 m.t, .int .i64 m.q, .int .i64 m.r, vb, vo], .int .i64 l0] w fun e w' => ∃ r : Int, e = .returned (.int .i64 r) ∧ -1 ≤ r ∧ r ≤ 1048576 ∧ (0 ≤ r → (xs.length ≤ 1048576 ∧ ∀ x ∈ xs, x.s.size ≤ 1048576) ∧ (bx.length ≤ 1048576 ∧ ∀ x ∈ bx, x.size ≤ 1048576) ∧ (ox.length ≤ 1048576 ∧ ∀ x ∈ ox, x.size ≤ 1048576)) ∧ Below w.heap.size w w' := by
  have R' := R
  obtain ⟨ao, cap, rfl, _⟩ := R'
  obtain ⟨ab, cb, rfl⟩ := Rb.small
  obtain ⟨ac, cc, rfl⟩ := Ro.small
  have hB0 : Below w.heap.size w (w.alloc (Obj.cells #[.int .i64 i, .slice ao xs.length cap, .int .i64 m.p, .int .i64 m.s, .int .i64 m.e, .int .i64 m.d, .int .i64 m.t, .int .i64 m.q, .int .i64 m.r, .slice ab bx.length cb, .slice ac ox.length cc] 97)) := (Below.refl _ _).alloc (Nat.le_refl _) _
  go_enter Try.func68, Try.ntmps68
  go_wp2_with (refine wpList_load_sub rfl 95 _ rfl w.heap.size 1 rfl _ 97 #[.slice ao xs.length cap, .int .i64 m.p, .int .i64 m.s, .int .i64 m.e, .int .i64 m.d, .int .i64 m.t, .int .i64 m.q, .int .i64 m.r] _ (heap_alloc_new _ _) rfl Try.underlying95 rfl Try.sizeLMach ?_)
  refine (szmach_gen l0 hl0 hl1 _ xs m _ (R.below hB0)).mono ?_
  rintro e w1 ⟨r, rfl, h0, h1, h2, hb1⟩
  have hx1 := (hb1.block w.heap.size (by simp)).trans (heap_alloc_new w (Obj.cells #[.int .i64 i, .slice ao xs.length cap, .int .i64 m.p, .int .i64 m.s, .int .i64 m.e, .int .i64 m.d, .int .i64 m.t, .int .i64 m.q, .int .i64 m.r, .slice ab bx.length cb, .slice ac ox.length cc] 97))
  have hB1 := hB0.trans (hb1.mono hB0.size)
  clear hB0 hb1
  by_cases hr : r < 0
  · go_wp2
    go_ret
    exact ⟨-1, rfl, by omega, by omega, fun h => by omega, hB1⟩
  have k2 : w1.cell? ⟨w.heap.size, 0 + 9, none⟩ = some (.slice ab bx.length cb) := cell_of_row w1 _ 9 _ _ _ hx1
  have k3 : w1.cell? ⟨w.heap.size, 0 + 10, none⟩ = some (.slice ac ox.length cc) := cell_of_row w1 _ 10 _ _ _ hx1
  go_wp2_with fail
  refine (szstrs_any _ bx r _ (Rb.below hB1) (by omega) (by omega)).mono ?_
  rintro e w2 ⟨r2, rfl, g0, g1, g2, hb2⟩
  have hx2 := (hb2.block _ (Array.getElem?_eq_some_iff.1 hx1).1).trans hx1
  have hB2 := hB1.trans (hb2.mono hB1.size)
  clear hB1 hb2 hx1 k2 k3
  by_cases hr2 : r2 < 0
  · go_wp2
    go_ret
    exact ⟨-1, rfl, by omega, by omega, fun h => by omega, hB2⟩
  have k3 : w2.cell? ⟨w.heap.size, 0 + 10, none⟩ = some (.slice ac ox.length cc) := cell_of_row w2 _ 10 _ _ _ hx2
  go_wp2_with fail
  refine (szstrs_any _ ox r2 _ (Ro.below hB2) (by omega) (by omega)).mono ?_
  rintro e w3 ⟨r3, rfl, f0, f1, f2, hb3⟩
  have hB3 := hB2.trans (hb3.mono hB2.size)
  clear hB2 hb3 hx2 k3
  by_cases hr3 : r3 < 0
  · go_wp2
    go_ret
    exact ⟨-1, rfl, by omega, by omega, fun h => by omega, hB3⟩
  · go_wp2
    go_ret
    exact ⟨r3, rfl, by omega, by omega, fun h => ⟨h2 (by omega), g2 (by omega), f2 h⟩, hB3⟩

set_option maxRecDepth 100000 in
set_option maxHeartbeats 1600000 in
theorem eqproc_any (i : Int) (va ba oa vb bb ob : Value) (xs : List Nd) (m : Mc) (bx ox : List ByteArray) (w : World) (Ra : NRow w va xs) (Ba : StRow w ba bx) (Oa : StRow w oa ox) (Rb : NRow w vb xs) (Bb : StRow w bb bx) (Ob : StRow w ob ox) :
    Calls Try.prog 80 #[.agg #[.int .i64 i, va, .int .i64 m.p, .int .i64 m.s, .int .i64 m.e, .int .i64 m.d, .int .i64 m.t, .int .i64 m.q, .int .i64 m.r, ba, oa], .agg #[.int .i64 i, vb, .int .i64 m.p, .int .i64 m.s, .int .i64 m.e, .int .i64 m.d, .int .i64 m.t, .int .i64 m.q, .int .i64 m.r, bb, ob]] w fun e w' => e = .returned (.bool true) ∧ Below w.heap.size w w' := by
  have Ra' := Ra
  have Rb' := Rb
  obtain ⟨aa, ca, rfl, _⟩ := Ra'
  obtain ⟨ab, cb, rfl, _⟩ := Rb'
  obtain ⟨a1, c1, rfl⟩ := Ba.small
  obtain ⟨a2, c2, rfl⟩ := Oa.small
  obtain ⟨a3, c3, rfl⟩ := Bb.small
  obtain ⟨a4, c4, rfl⟩ := Ob.small
  obtain ⟨hB0, hk0, hx0⟩ := two_boxes w (Obj.cells #[.int .i64 i, .slice aa xs.length ca, .int .i64 m.p, .int .i64 m.s, .int .i64 m.e, .int .i64 m.d, .int .i64 m.t, .int .i64 m.q, .int .i64 m.r, .slice a1 bx.length c1, .slice a2 ox.length c2] 72) (Obj.cells #[.int .i64 i, .slice ab xs.length cb, .int .i64 m.p, .int .i64 m.s, .int .i64 m.e, .int .i64 m.d, .int .i64 m.t, .int .i64 m.q, .int .i64 m.r, .slice a3 bx.length c3, .slice a4 ox.length c4] 72)
  have e1 : (i != i) = false := by simp
  go_enter Try.func80, Try.ntmps80
  go_wp2_with (first
    | (refine wpList_load_sub rfl 69 _ rfl w.heap.size 1 rfl _ 72 #[.slice aa xs.length ca, .int .i64 m.p, .int .i64 m.s, .int .i64 m.e, .int .i64 m.d, .int .i64 m.t, .int .i64 m.q, .int .i64 m.r] _ hk0 rfl Try.underlying69 rfl Try.sizeMach ?_)
    | (refine wpList_load_sub rfl 69 _ rfl (w.heap.size + 1) 1 rfl _ 72 #[.slice ab xs.length cb, .int .i64 m.p, .int .i64 m.s, .int .i64 m.e, .int .i64 m.d, .int .i64 m.t, .int .i64 m.q, .int .i64 m.r] _ hx0 rfl Try.underlying69 rfl Try.sizeMach ?_))
  refine (eqmach_any _ _ xs m _ (Ra.below hB0) (Rb.below hB0)).mono ?_
  rintro e w1 ⟨rfl, hb1⟩
  have hB1 := hB0.trans (hb1.mono hB0.size)
  have hk1 := (hb1.block _ (Array.getElem?_eq_some_iff.1 hk0).1).trans hk0
  have hx1 := (hb1.block _ (Array.getElem?_eq_some_iff.1 hx0).1).trans hx0
  clear hB0 hk0 hx0 hb1
  have l1 : w1.cell? ⟨w.heap.size, 0 + 9, none⟩ = some (.slice a1 bx.length c1) := cell_of_row w1 _ 9 _ _ _ hk1
  have k1 : w1.cell? ⟨w.heap.size + 1, 0 + 9, none⟩ = some (.slice a3 bx.length c3) := cell_of_row w1 _ 9 _ _ _ hx1
  go_wp2_with fail
  refine (eqstrs_any _ _ bx _ (Ba.below hB1) (Bb.below hB1)).mono ?_
  rintro e w2 ⟨rfl, hb2⟩
  have hB2 := hB1.trans (hb2.mono hB1.size)
  have hk2 := (hb2.block _ (Array.getElem?_eq_some_iff.1 hk1).1).trans hk1
  have hx2 := (hb2.block _ (Array.getElem?_eq_some_iff.1 hx1).1).trans hx1
  clear hB1 hk1 hx1 hb2 l1 k1
  have l1 : w2.cell? ⟨w.heap.size, 0 + 10, none⟩ = some (.slice a2 ox.length c2) := cell_of_row w2 _ 10 _ _ _ hk2
  have k1 : w2.cell? ⟨w.heap.size + 1, 0 + 10, none⟩ = some (.slice a4 ox.length c4) := cell_of_row w2 _ 10 _ _ _ hx2
  go_wp2_with fail
  refine (eqstrs_any _ _ ox _ (Oa.below hB2) (Ob.below hB2)).mono ?_
  rintro e w3 ⟨rfl, hb3⟩
  have hB3 := hB2.trans (hb3.mono hB2.size)
  clear hB2 hk2 hx2 hb3 l1 k1
  go_wp2
  go_ret
  exact ⟨rfl, hB3⟩
end Go.Proofs.Ytllfojddaobpmaa
